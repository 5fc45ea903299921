/- Bits as lists of 0 and 1, the greatest one first: plain facts on lists and numbers, no condition but those typed. -/
import Derived.Test.YtedhdmahdioboaaHeld
namespace Go.Proofs.Ytedhdmahdioboaa
set_option linter.unusedVariables false
set_option linter.unusedSimpArgs false

/-- The last w bits of n. -/
def putB (n : Nat) : Nat → List Nat
  | 0 => []
  | w + 1 => putB (n / 2) w ++ [n % 2]
/-- The number of some bits. -/
def valB (l : List Nat) : Nat := l.foldl (fun a b => 2 * a + b) 0
def Bits (l : List Nat) : Prop := ∀ b ∈ l, b ≤ 1

theorem putB_len (n w : Nat) : (putB n w).length = w := by
  induction w generalizing n with
  | zero => rfl
  | succ w ih => simp [putB, ih]
theorem putB_bits (n w : Nat) : Bits (putB n w) := by
  induction w generalizing n with
  | zero => intro b h; simp [putB] at h
  | succ w ih =>
    intro b h
    simp only [putB, List.mem_append, List.mem_singleton] at h
    rcases h with h | h
    · exact ih _ b h
    · omega
theorem Bits.nil : Bits [] := fun b h => by simp at h
theorem Bits.app {l m : List Nat} (h : Bits l) (k : Bits m) : Bits (l ++ m) := fun b hb => by
  rcases List.mem_append.1 hb with q | q
  · exact h b q
  · exact k b q
theorem Bits.left {l m : List Nat} (h : Bits (l ++ m)) : Bits l := fun b hb => h b (List.mem_append_left _ hb)
theorem Bits.getD {l : List Nat} (h : Bits l) (i : Nat) : l.getD i 0 ≤ 1 := by
  rw [List.getD_eq_getElem?_getD]
  by_cases q : i < l.length
  · rw [List.getElem?_eq_getElem q]; exact h _ (List.getElem_mem q)
  · rw [List.getElem?_eq_none (by omega)]; simp
/-- One bit more, of a number's greatest ones. -/
theorem putB_step (n w i : Nat) (h : i < w) : putB (n / 2 ^ (w - (i + 1))) (i + 1) = putB (n / 2 ^ (w - i)) i ++ [n / 2 ^ (w - 1 - i) % 2] := by
  simp only [putB]
  have e : n / 2 ^ (w - (i + 1)) / 2 = n / 2 ^ (w - i) := by
    have e2 : 2 ^ (w - i) = 2 ^ (w - (i + 1)) * 2 := by rw [show w - i = w - (i + 1) + 1 by omega]; rfl
    rw [Nat.div_div_eq_div_mul, e2]
  rw [e, show w - (i + 1) = w - 1 - i by omega]
theorem putB_zero (n w : Nat) : putB (n / 2 ^ (w - 0)) 0 = [] := rfl
theorem putB_all (n w : Nat) : putB (n / 2 ^ (w - w)) w = putB n w := by rw [Nat.sub_self, Nat.pow_zero, Nat.div_one]

theorem valB_snoc (l : List Nat) (b : Nat) : valB (l ++ [b]) = 2 * valB l + b := by simp [valB]
theorem valB_putB (n w : Nat) : valB (putB n w) = n % 2 ^ w := by
  induction w generalizing n with
  | zero => simp [putB, valB, Nat.mod_one]
  | succ w ih =>
    rw [putB, valB_snoc, ih, Nat.pow_succ, Nat.mul_comm (2 ^ w) 2, Nat.mod_mul]
    omega
theorem valB_lt {l : List Nat} (h : Bits l) : valB l < 2 ^ l.length := by
  have key : ∀ (n : Nat) (l : List Nat), l.length = n → Bits l → valB l < 2 ^ n := by
    intro n
    induction n with
    | zero => intro l hl _; rw [List.length_eq_zero_iff.1 hl]; simp [valB]
    | succ n ih =>
      intro l hl hb
      have hne : l ≠ [] := by intro e; rw [e] at hl; simp at hl
      rw [← List.dropLast_concat_getLast hne] at hb ⊢
      rw [valB_snoc, Nat.pow_succ]
      have h1 := ih l.dropLast (by simp [hl]) hb.left
      have h2 := hb (l.getLast hne) (by simp)
      omega
  exact key _ l rfl h
theorem putB_getD (n w j : Nat) (h : j < w) : (putB n w).getD j 0 = n / 2 ^ (w - 1 - j) % 2 := by
  induction w generalizing n j with
  | zero => omega
  | succ w ih =>
    rw [putB, List.getD_eq_getElem?_getD]
    by_cases q : j < w
    · rw [List.getElem?_append_left (by rw [putB_len]; exact q), ← List.getD_eq_getElem?_getD, ih _ _ q, Nat.div_div_eq_div_mul]
      rw [show w + 1 - 1 - j = w - 1 - j + 1 by omega, Nat.pow_succ']
    · have e : j = w := by omega
      subst e
      rw [List.getElem?_append_right (by rw [putB_len]; exact Nat.le_refl _), putB_len]
      simp
/-- One bit more is read. -/
theorem valB_take (l : List Nat) (a k : Nat) (h : a + k < l.length) : valB ((l.drop a).take (k + 1)) = 2 * valB ((l.drop a).take k) + l.getD (a + k) 0 := by
  have hl : k < (l.drop a).length := by simp; omega
  rw [List.take_succ_eq_append_getElem hl, valB_snoc, List.getElem_drop, List.getD_eq_getElem?_getD, List.getElem?_eq_getElem h]
  rfl

/-! Bytes of bits, bits of bytes. -/
def byteAt (l : List Nat) (k : Nat) : Nat :=
  l.getD (8 * k) 0 * 128 + l.getD (8 * k + 1) 0 * 64 + l.getD (8 * k + 2) 0 * 32 + l.getD (8 * k + 3) 0 * 16 + l.getD (8 * k + 4) 0 * 8 + l.getD (8 * k + 5) 0 * 4 + l.getD (8 * k + 6) 0 * 2 + l.getD (8 * k + 7) 0
theorem getD_snoc (l : List Nat) (b i : Nat) : (l ++ [b]).getD i 0 = if i = l.length then b else l.getD i 0 := by
  simp only [List.getD_eq_getElem?_getD]
  by_cases h : i < l.length
  · rw [List.getElem?_append_left h, if_neg (by omega)]
  · rw [List.getElem?_append_right (by omega)]
    by_cases e : i = l.length
    · subst e; simp
    · rw [if_neg e, List.getElem?_eq_none (by simp; omega), List.getElem?_eq_none (by omega)]
theorem getD_beyond (l : List Nat) (i : Nat) (h : l.length ≤ i) : l.getD i 0 = 0 := by
  rw [List.getD_eq_getElem?_getD, List.getElem?_eq_none h]; rfl
theorem byteAt_lt {l : List Nat} (h : Bits l) (k : Nat) : byteAt l k < 256 := by
  unfold byteAt
  have h0 := h.getD (8 * k); have h1 := h.getD (8 * k + 1); have h2 := h.getD (8 * k + 2); have h3 := h.getD (8 * k + 3)
  have h4 := h.getD (8 * k + 4); have h5 := h.getD (8 * k + 5); have h6 := h.getD (8 * k + 6); have h7 := h.getD (8 * k + 7)
  omega
theorem byteAt_nil (k : Nat) : byteAt [] k = 0 := by simp [byteAt]
theorem byteAt_other (l : List Nat) (b k : Nat) (h : k ≠ l.length / 8) : byteAt (l ++ [b]) k = byteAt l k := by
  unfold byteAt
  simp only [getD_snoc]
  rw [if_neg (by omega), if_neg (by omega), if_neg (by omega), if_neg (by omega), if_neg (by omega), if_neg (by omega), if_neg (by omega), if_neg (by omega)]
theorem or_add (x b s : Nat) (h : b ≤ 1) : x * 2 ^ (s + 1) ||| b * 2 ^ s = x * 2 ^ (s + 1) + b * 2 ^ s := by
  have := Nat.shiftLeft_add_eq_or_of_lt (i := s + 1) (b := b * 2 ^ s) (by rw [Nat.pow_succ]; have : 0 < 2 ^ s := Nat.pow_pos (by omega); rcases (show b = 0 ∨ b = 1 by omega) with e | e <;> subst e <;> omega) x
  rw [Nat.shiftLeft_eq] at this
  exact this.symm
theorem byteAt_put (l : List Nat) (b : Nat) (h : b ≤ 1) : byteAt (l ++ [b]) (l.length / 8) = byteAt l (l.length / 8) ||| b * 2 ^ (7 - l.length % 8) := by
  have key : ∀ m k r, l.length = m → m = 8 * k + r → r < 8 → byteAt (l ++ [b]) k = byteAt l k ||| b * 2 ^ (7 - r) := by
    intro m k r hm e hr
    unfold byteAt
    simp only [getD_snoc, hm]
    have z : ∀ j, r ≤ j → l.getD (8 * k + j) 0 = 0 := fun j hj => getD_beyond _ _ (by omega)
    have z0 := z 0; have z1 := z 1; have z2 := z 2; have z3 := z 3; have z4 := z 4; have z5 := z 5; have z6 := z 6; have z7 := z 7
    simp only [Nat.add_zero] at z0
    generalize l.getD (8 * k) 0 = a0 at *
    generalize l.getD (8 * k + 1) 0 = a1 at *
    generalize l.getD (8 * k + 2) 0 = a2 at *
    generalize l.getD (8 * k + 3) 0 = a3 at *
    generalize l.getD (8 * k + 4) 0 = a4 at *
    generalize l.getD (8 * k + 5) 0 = a5 at *
    generalize l.getD (8 * k + 6) 0 = a6 at *
    generalize l.getD (8 * k + 7) 0 = a7 at *
    have c : r = 0 ∨ r = 1 ∨ r = 2 ∨ r = 3 ∨ r = 4 ∨ r = 5 ∨ r = 6 ∨ r = 7 := by omega
    rcases c with q | q | q | q | q | q | q | q <;> subst q
    · have := or_add 0 b 7 h; simp at this
      simp [z0, z1, z2, z3, z4, z5, z6, z7, e]
    · have := or_add a0 b 6 h
      simp [z1, z2, z3, z4, z5, z6, z7, e] at this ⊢; omega
    · have := or_add (a0 * 2 + a1) b 5 h
      simp [z2, z3, z4, z5, z6, z7, e] at this ⊢
      rw [show a0 * 128 + a1 * 64 = (a0 * 2 + a1) * 64 by omega, this]
    · have := or_add (a0 * 4 + a1 * 2 + a2) b 4 h
      simp [z3, z4, z5, z6, z7, e] at this ⊢
      rw [show a0 * 128 + a1 * 64 + a2 * 32 = (a0 * 4 + a1 * 2 + a2) * 32 by omega, this]
    · have := or_add (a0 * 8 + a1 * 4 + a2 * 2 + a3) b 3 h
      simp [z4, z5, z6, z7, e] at this ⊢
      rw [show a0 * 128 + a1 * 64 + a2 * 32 + a3 * 16 = (a0 * 8 + a1 * 4 + a2 * 2 + a3) * 16 by omega, this]
    · have := or_add (a0 * 16 + a1 * 8 + a2 * 4 + a3 * 2 + a4) b 2 h
      simp [z5, z6, z7, e] at this ⊢
      rw [show a0 * 128 + a1 * 64 + a2 * 32 + a3 * 16 + a4 * 8 = (a0 * 16 + a1 * 8 + a2 * 4 + a3 * 2 + a4) * 8 by omega, this]
    · have := or_add (a0 * 32 + a1 * 16 + a2 * 8 + a3 * 4 + a4 * 2 + a5) b 1 h
      simp [z6, z7, e] at this ⊢
      rw [show a0 * 128 + a1 * 64 + a2 * 32 + a3 * 16 + a4 * 8 + a5 * 4 = (a0 * 32 + a1 * 16 + a2 * 8 + a3 * 4 + a4 * 2 + a5) * 4 by omega, this]
    · have := or_add (a0 * 64 + a1 * 32 + a2 * 16 + a3 * 8 + a4 * 4 + a5 * 2 + a6) b 0 h
      simp [z7, e] at this ⊢
      rw [show a0 * 128 + a1 * 64 + a2 * 32 + a3 * 16 + a4 * 8 + a5 * 4 + a6 * 2 = (a0 * 64 + a1 * 32 + a2 * 16 + a3 * 8 + a4 * 4 + a5 * 2 + a6) * 2 by omega, this]
  exact key _ _ _ rfl (by omega) (by omega)
/-- A byte's bits are those of the list. -/
theorem byteAt_bit {l : List Nat} (h : Bits l) (k j : Nat) (hj : j < 8) : byteAt l k / 2 ^ (7 - j) % 2 = l.getD (8 * k + j) 0 := by
  unfold byteAt
  have h0 := h.getD (8 * k); have h1 := h.getD (8 * k + 1); have h2 := h.getD (8 * k + 2); have h3 := h.getD (8 * k + 3)
  have h4 := h.getD (8 * k + 4); have h5 := h.getD (8 * k + 5); have h6 := h.getD (8 * k + 6); have h7 := h.getD (8 * k + 7)
  have c : j = 0 ∨ j = 1 ∨ j = 2 ∨ j = 3 ∨ j = 4 ∨ j = 5 ∨ j = 6 ∨ j = 7 := by omega
  rcases c with q | q | q | q | q | q | q | q <;> subst q <;> simp only [Nat.add_zero, Nat.sub_zero, Nat.reduceSub, Nat.reducePow] <;> omega
def bytesOf (l : List Nat) : List Nat := (List.range ((l.length + 7) / 8)).map (byteAt l)
def bitsOf (L : List Nat) : List Nat := L.flatMap (fun c => putB c 8)
theorem bytesOf_len (l : List Nat) : (bytesOf l).length = (l.length + 7) / 8 := by simp [bytesOf]
theorem bitsOf_len (L : List Nat) : (bitsOf L).length = 8 * L.length := by
  induction L with
  | nil => rfl
  | cons c L ih => simp only [bitsOf, List.flatMap_cons, List.length_append, putB_len, List.length_cons] at ih ⊢; omega
theorem bitsOf_bits (L : List Nat) : Bits (bitsOf L) := by
  intro b hb
  obtain ⟨c, _, h⟩ := List.mem_flatMap.1 hb
  exact putB_bits _ _ b h
theorem bitsOf_getD (L : List Nat) (i : Nat) (h : i < 8 * L.length) : (bitsOf L).getD i 0 = L.getD (i / 8) 0 / 2 ^ (7 - i % 8) % 2 := by
  induction L generalizing i with
  | nil => simp at h
  | cons c L ih =>
    simp only [bitsOf, List.flatMap_cons, List.length_cons] at ih h ⊢
    by_cases q : i < 8
    · rw [List.getD_eq_getElem?_getD, List.getElem?_append_left (by rw [putB_len]; exact q), ← List.getD_eq_getElem?_getD, putB_getD _ _ _ q, Nat.div_eq_of_lt q, Nat.mod_eq_of_lt q]
      rfl
    · rw [List.getD_eq_getElem?_getD, List.getElem?_append_right (by rw [putB_len]; omega), putB_len, ← List.getD_eq_getElem?_getD, ih (i - 8) (by omega)]
      rw [show i / 8 = (i - 8) / 8 + 1 by omega, show (i - 8) % 8 = i % 8 by omega]
      rfl
theorem bitsOf_bytesOf {l : List Nat} (h : Bits l) : bitsOf (bytesOf l) = l ++ List.replicate (8 * ((l.length + 7) / 8) - l.length) 0 := by
  have hlen : (bitsOf (bytesOf l)).length = 8 * ((l.length + 7) / 8) := by rw [bitsOf_len, bytesOf_len]
  apply List.ext_getElem?
  intro i
  by_cases q : i < 8 * ((l.length + 7) / 8)
  · have e1 : (bitsOf (bytesOf l)).getD i 0 = l.getD i 0 := by
      rw [bitsOf_getD _ _ (by rw [bytesOf_len]; exact q)]
      have e2 : (bytesOf l).getD (i / 8) 0 = byteAt l (i / 8) := by
        rw [List.getD_eq_getElem?_getD, bytesOf, List.getElem?_map, List.getElem?_range (by omega)]; rfl
      rw [e2, byteAt_bit h _ _ (by omega), show 8 * (i / 8) + i % 8 = i by omega]
    rw [List.getD_eq_getElem?_getD, List.getElem?_eq_getElem (by omega), Option.getD_some] at e1
    rw [List.getElem?_eq_getElem (by omega), e1]
    by_cases p : i < l.length
    · rw [List.getElem?_append_left p, List.getD_eq_getElem?_getD, List.getElem?_eq_getElem p]; rfl
    · rw [List.getElem?_append_right (by omega), getD_beyond _ _ (by omega), List.getElem?_replicate, if_pos (by omega)]
  · rw [List.getElem?_eq_none (by omega), List.getElem?_eq_none (by simp; omega)]

/-! Numbers of pieces. -/
def varF : Nat → Nat → List Nat
  | 0, n => putB n 6
  | f + 1, n => if n < 32 then putB n 6 else putB (32 + n % 32) 6 ++ varF f (n / 32)
def varB (n : Nat) : List Nat := varF n n
def piecesF : Nat → Nat → Nat
  | 0, _ => 1
  | f + 1, n => if n < 32 then 1 else piecesF f (n / 32) + 1
def piecesM (n : Nat) : Nat := piecesF n n
theorem varF_eq : ∀ (f g n : Nat), n ≤ f → n ≤ g → varF f n = varF g n
  | 0, 0, _, _, _ => rfl
  | 0, g + 1, n, hf, _ => by have : n < 32 := by omega
                             simp [varF, this]
  | f + 1, 0, n, _, hg => by have : n < 32 := by omega
                             simp [varF, this]
  | f + 1, g + 1, n, hf, hg => by
    by_cases h : n < 32
    · simp [varF, h]
    · simp only [varF, if_neg h]; rw [varF_eq f g (n / 32) (by omega) (by omega)]
theorem piecesF_eq : ∀ (f g n : Nat), n ≤ f → n ≤ g → piecesF f n = piecesF g n
  | 0, 0, _, _, _ => rfl
  | 0, g + 1, n, hf, _ => by have : n < 32 := by omega
                             simp [piecesF, this]
  | f + 1, 0, n, _, hg => by have : n < 32 := by omega
                             simp [piecesF, this]
  | f + 1, g + 1, n, hf, hg => by
    by_cases h : n < 32
    · simp [piecesF, h]
    · simp only [piecesF, if_neg h]; rw [piecesF_eq f g (n / 32) (by omega) (by omega)]
theorem varB_small {n : Nat} (h : n < 32) : varB n = putB n 6 := by
  unfold varB; cases n with
  | zero => rfl
  | succ m => simp only [varF, if_pos h]
theorem varB_great {n : Nat} (h : ¬ n < 32) : varB n = putB (32 + n % 32) 6 ++ varB (n / 32) := by
  unfold varB; cases n with
  | zero => omega
  | succ m => rw [varF, if_neg h, varF_eq m ((m + 1) / 32) ((m + 1) / 32) (by omega) (Nat.le_refl _)]
theorem piecesM_small {n : Nat} (h : n < 32) : piecesM n = 1 := by
  unfold piecesM; cases n with
  | zero => rfl
  | succ m => simp only [piecesF, if_pos h]
theorem piecesM_great {n : Nat} (h : ¬ n < 32) : piecesM n = piecesM (n / 32) + 1 := by
  unfold piecesM; cases n with
  | zero => omega
  | succ m => rw [piecesF, if_neg h, piecesF_eq m ((m + 1) / 32) ((m + 1) / 32) (by omega) (Nat.le_refl _)]
theorem piecesM_pos (n : Nat) : 1 ≤ piecesM n := by
  by_cases h : n < 32
  · rw [piecesM_small h]; omega
  · rw [piecesM_great h]; omega
theorem varB_len (n : Nat) : (varB n).length = 6 * piecesM n := by
  induction n using Nat.strongRecOn with
  | ind n ih =>
    by_cases h : n < 32
    · rw [varB_small h, piecesM_small h, putB_len]
    · rw [varB_great h, piecesM_great h, List.length_append, putB_len, ih _ (by omega)]; omega
theorem varB_bits (n : Nat) : Bits (varB n) := by
  induction n using Nat.strongRecOn with
  | ind n ih =>
    by_cases h : n < 32
    · rw [varB_small h]; exact putB_bits _ _
    · rw [varB_great h]; exact (putB_bits _ _).app (ih _ (by omega))
theorem piecesM_le (k n : Nat) (h : n < 2 ^ (5 * (k + 1))) : piecesM n ≤ k + 1 := by
  induction k generalizing n with
  | zero => rw [piecesM_small (by simpa using h)]; omega
  | succ k ih =>
    by_cases q : n < 32
    · rw [piecesM_small q]; omega
    · rw [piecesM_great q]
      have := ih (n / 32) (by rw [Nat.div_lt_iff_lt_mul (by omega)]; rw [show 5 * (k + 1 + 1) = 5 * (k + 1) + 5 by omega, Nat.pow_add] at h; exact h)
      omega
theorem piecesM_13 {n : Nat} (h : n < 2 ^ 62) : piecesM n ≤ 13 := piecesM_le 12 n (by simp only [Nat.reduceAdd, Nat.reduceMul]; exact Nat.lt_of_lt_of_le h (by decide))

/-- What gather reads: which error (0: none), the number, where it stands then. -/
def gatherM (most : Nat) (l : List Nat) : Nat → Nat → Nat → Nat → Nat × Nat × Nat
  | 0, _, _, p => (3, 0, p)
  | f + 1, i, n, p =>
    if l.length < p + 6 then (8, 0, p) else
    if 0 < i ∧ valB ((l.drop p).take 6) = 0 then (3, 0, p + 6) else
    if (most - n) / 2 ^ (5 * i) < valB ((l.drop p).take 6) % 32 then (3, 0, p + 6) else
    if valB ((l.drop p).take 6) < 32 then (0, n + valB ((l.drop p).take 6) % 32 * 2 ^ (5 * i), p + 6) else
    gatherM most l f (i + 1) (n + valB ((l.drop p).take 6) % 32 * 2 ^ (5 * i)) (p + 6)
theorem take_mid (a b c : List Nat) : ((a ++ b ++ c).drop a.length).take b.length = b := by
  rw [List.append_assoc, List.drop_left, List.take_left]
theorem take_mid' (a b c : List Nat) (k m : Nat) (hk : a.length = k) (hm : b.length = m) : ((a ++ b ++ c).drop k).take m = b := by subst hk hm; exact take_mid a b c
/-- What Var wrote is read again. -/
theorem gatherM_back (most : Nat) (n : Nat) : ∀ (f i acc : Nat) (a c : List Nat), acc + n * 2 ^ (5 * i) ≤ most → (0 < i → 0 < n) → piecesM n ≤ f →
    gatherM most (a ++ varB n ++ c) f i acc a.length = (0, acc + n * 2 ^ (5 * i), a.length + (varB n).length) := by
  induction n using Nat.strongRecOn with
  | ind n ih =>
    intro f i acc a c hm hi hf
    have hp := piecesM_pos n
    obtain ⟨f, rfl⟩ : ∃ g, f = g + 1 := ⟨f - 1, by omega⟩
    have hpos : 0 < 2 ^ (5 * i) := Nat.pow_pos (by omega)
    by_cases h : n < 32
    · rw [varB_small h]
      have ev : valB (((a ++ putB n 6 ++ c).drop a.length).take 6) = n := by
        rw [take_mid' _ _ _ _ _ rfl (putB_len n 6), valB_putB, Nat.mod_eq_of_lt (by omega)]
      simp only [gatherM, ev]
      rw [if_neg (by simp [putB_len]), if_neg (by intro q; have := hi q.1; omega), if_neg (by rw [Nat.mod_eq_of_lt h, Nat.not_lt, Nat.le_div_iff_mul_le hpos]; omega), if_pos h, Nat.mod_eq_of_lt h, putB_len]
    · rw [varB_great h]
      have e0 : a ++ (putB (32 + n % 32) 6 ++ varB (n / 32)) ++ c = a ++ putB (32 + n % 32) 6 ++ (varB (n / 32) ++ c) := by simp
      have ev : valB (((a ++ (putB (32 + n % 32) 6 ++ varB (n / 32)) ++ c).drop a.length).take 6) = 32 + n % 32 := by
        rw [e0, take_mid' _ _ _ _ _ rfl (putB_len _ 6), valB_putB, Nat.mod_eq_of_lt (by omega)]
      have e1 : acc + n % 32 * 2 ^ (5 * i) + n / 32 * 2 ^ (5 * (i + 1)) = acc + n * 2 ^ (5 * i) := by
        rw [show 5 * (i + 1) = 5 * i + 5 by omega, Nat.pow_add]
        generalize 2 ^ (5 * i) = B
        have q1 : n / 32 * (B * 2 ^ 5) = 32 * (n / 32) * B := by rw [show (2 : Nat) ^ 5 = 32 from rfl, Nat.mul_comm B 32, ← Nat.mul_assoc, Nat.mul_comm (n / 32) 32]
        have q2 : n * B = n % 32 * B + 32 * (n / 32) * B := by rw [← Nat.add_mul, show n % 32 + 32 * (n / 32) = n by omega]
        omega
      simp only [gatherM, ev]
      rw [if_neg (by simp [putB_len]), if_neg (by omega), if_neg ?_, if_neg (by omega)]
      · have e2 : (32 + n % 32) % 32 = n % 32 := by omega
        have e3 : a ++ (putB (32 + n % 32) 6 ++ varB (n / 32)) ++ c = (a ++ putB (32 + n % 32) 6) ++ varB (n / 32) ++ c := by simp
        rw [e2, e3, show a.length + 6 = (a ++ putB (32 + n % 32) 6).length by simp [putB_len]]
        rw [ih (n / 32) (by omega) f (i + 1) _ _ c (by rw [e1]; exact hm) (fun _ => by omega) (by rw [piecesM_great h] at hf; omega), e1]
        simp [putB_len, Nat.add_assoc]
      · rw [Nat.not_lt, Nat.le_div_iff_mul_le hpos]
        have := Nat.mul_le_mul_right (2 ^ (5 * i)) (show (32 + n % 32) % 32 ≤ n by omega)
        omega
/-- How a number with a sign is written. -/
def codeM (n : Int) : Nat := if n < 0 then (-2 * n - 1).toNat else (2 * n).toNat
def uncode (c : Nat) : Int := if c % 2 = 1 then -((c / 2 : Nat) : Int) - 1 else ((c / 2 : Nat) : Int)
theorem uncode_code (n : Int) : uncode (codeM n) = n := by
  unfold uncode codeM
  by_cases h : n < 0
  · rw [if_pos h, if_pos (by omega)]; omega
  · rw [if_neg h, if_neg (by omega)]; omega
end Go.Proofs.Ytedhdmahdioboaa
