/- wire's within, hasBody, hasWay, mayFollow and its writer: whichever numbers. -/
import Derived.Test.YtbiaajncngldlaaDoorSg3
import Derived.Test.YtbiaajncngldlaaDoorFin
import Derived.MapKept
namespace Go.Proofs.YtbiaajncngldlaaDoor
open Go.ChangeShapes Go.WideShapes Go.ChangeAt Go.RowKit
set_option linter.unusedVariables false
set_option linter.unusedSimpArgs false

theorem ret_bool {a b : Bool} (h : a = b) : Ending.returned (.bool a) = .returned (.bool b) := by rw [h]
/-- Numbers at the head of a block. -/
def NumsAt (w : World) (g : Nat) (xs : List Int) : Prop := ∀ j (hj : j < xs.length), w.cell? ⟨g, j, none⟩ = some (.int .i64 (xs[j]))
theorem NumsAt.only {w w' : World} {g : Nat} {xs : List Int} (h : NumsAt w g xs) {D : List Nat} (o : Only D w w') (s : g ∉ D) : NumsAt w' g xs := fun j hj => o.cell (h j hj) s
theorem NumsAt.new1 (w : World) (a : Int) (t : TypeId) : NumsAt (w.alloc (.cells #[.int .i64 a] t)) w.heap.size [a] := fun j hj => by
  match j, hj with
  | 0, _ => simp
theorem NumsAt.new2 (w : World) (a b : Int) (t : TypeId) : NumsAt (w.alloc (.cells #[.int .i64 a, .int .i64 b] t)) w.heap.size [a, b] := fun j hj => by
  match j, hj with
  | 0, _ => simp
  | 1, _ => simp
theorem NumsAt.new3 (w : World) (a b c : Int) (t : TypeId) : NumsAt (w.alloc (.cells #[.int .i64 a, .int .i64 b, .int .i64 c] t)) w.heap.size [a, b, c] := fun j hj => by
  match j, hj with
  | 0, _ => simp
  | 1, _ => simp
  | 2, _ => simp
theorem NumsAt.new4 (w : World) (a b c d : Int) (t : TypeId) : NumsAt (w.alloc (.cells #[.int .i64 a, .int .i64 b, .int .i64 c, .int .i64 d] t)) w.heap.size [a, b, c, d] := fun j hj => by
  match j, hj with
  | 0, _ => simp
  | 1, _ => simp
  | 2, _ => simp
  | 3, _ => simp
def inM (lo hi : Int) (xs : List Int) : Bool := xs.all (fun n => decide (lo ≤ n ∧ n ≤ hi))
theorem inM_snoc (lo hi : Int) (xs : List Int) (n : Int) : inM lo hi (xs ++ [n]) = (inM lo hi xs && decide (lo ≤ n ∧ n ≤ hi)) := by simp [inM]
set_option maxRecDepth 100000 in
theorem within_calls (lo hi : Int) (g : Nat) (xs : List Int) (c : Nat) (w : World) (h : NumsAt w g xs) (hl : xs.length ≤ 100) :
    Calls Tryd.prog 25 #[.int .i64 lo, .int .i64 hi, .slice (some ⟨g, 0, none⟩) xs.length c] w fun e w' => e = .returned (.bool (inM lo hi xs)) ∧ w' = w := by
  have HC : Hid (NumsAt w g xs) := h
  clear h
  go_enter Tryd.func25, Tryd.ntmps25
  go_wp2_with fail
  go_loopg [11] xs.length (fun k idx wr => ∃ i : Nat, idx = .int .i64 (i : Int) ∧ Hid (i ≤ xs.length ∧ k = xs.length - i ∧ inM lo hi (xs.take i) = true) ∧ wr = w)
  case atStart => exact ⟨0, rfl, ⟨by omega, rfl, rfl⟩, rfl⟩
  case round =>
    obtain ⟨i, rfl, H1, rfl⟩ := hrel
    by_cases hi' : i < xs.length
    · have hil : (i : Int) < (xs.length : Int) := by omega
      have c1 := HC.out i hi'
      obtain ⟨z, hz⟩ : ∃ z, xs[i] = z := ⟨_, rfl⟩
      rw [hz] at c1
      have HZ : Hid (xs[i] = z) := hz
      clear hz
      have HB : Hid (¬ (lo ≤ z ∧ z ≤ hi) → inM lo hi xs = false) := by
        intro q
        unfold inM
        rw [List.all_eq_false]
        exact ⟨z, by rw [← HZ.out]; exact List.getElem_mem hi', by simpa using q⟩
      by_cases h1 : z < lo
      · have d1 : decide (z < lo) = true := by simpa using h1
        have HR : Hid (inM lo hi xs = false) := HB.out (by omega)
        clear h1
        go_wp2_with fail
        go_ret
        exact ⟨ret_bool HR.out.symm, rfl⟩
      · have d1 : decide (z < lo) = false := by simpa using h1
        by_cases h2 : z > hi
        · have d2 : decide (z > hi) = true := by simpa using h2
          have HR : Hid (inM lo hi xs = false) := HB.out (by omega)
          clear h1 h2
          go_wp2_with fail
          go_ret
          exact ⟨ret_bool HR.out.symm, rfl⟩
        · have d2 : decide (z > hi) = false := by simpa using h2
          have HN : Hid (inM lo hi (xs.take (i + 1)) = true) := by
            show _ = _
            rw [List.take_succ_eq_append_getElem hi', inM_snoc, H1.out.2.2, HZ.out]
            simp; omega
          clear h1 h2
          go_wp2_with fail
          go_roundg (xs.length - (i + 1))
          case measure => have := H1.out.2.1; omega
          case rel => exact ⟨i + 1, by go_num, ⟨by omega, rfl, HN.out⟩, rfl⟩
    · have hil : ¬ (i : Int) < (xs.length : Int) := by omega
      go_wp2_with fail
      go_ret
      exact ⟨ret_bool (by have := H1.out.2.2; rw [List.take_of_length_le (by omega)] at this; exact this.symm), rfl⟩
theorem hasBody_calls (k : Int) (w : World) : Calls Tryd.prog 29 #[.int .i64 k] w fun e w' => e = .returned (.bool (decide (k = 1 ∨ k = 2))) ∧ w' = w := by
  go_enter Tryd.func29, Tryd.ntmps29
  by_cases h : k = 1
  · subst h
    go_wp2_with fail
    go_ret
    exact ⟨rfl, rfl⟩
  · have hb : (k == 1) = false := by simpa using h
    by_cases h2 : k = 2
    · subst h2
      clear h
      go_wp2_with fail
      go_ret
      exact ⟨rfl, rfl⟩
    · have hb2 : (k == 2) = false := by simpa using h2
      have HR : Hid (decide (k = 1 ∨ k = 2) = false) := by show _ = _; simp [h, h2]
      clear h h2
      go_wp2_with fail
      go_ret
      exact ⟨ret_bool HR.out.symm, rfl⟩
theorem hasWay_calls (k : Int) (w : World) : Calls Tryd.prog 30 #[.int .i64 k] w fun e w' => e = .returned (.bool (decide (k = 1))) ∧ w' = w := by
  have HR : Hid ((k == 1) = decide (k = 1)) := by show _ = _; by_cases h : k = 1 <;> simp [h]
  go_enter Tryd.func30, Tryd.ntmps30
  go_wp2_with fail
  go_ret
  exact ⟨ret_bool (by first | rfl | exact HR.out), rfl⟩
def followM (s b : Int) : Bool := decide (1 ≤ s ∧ s ≤ 70368744177664 ∧ 0 ≤ b ∧ b < s)
set_option maxRecDepth 100000 in
theorem mayFollow_calls (s b : Int) (w : World) : Calls Tryd.prog 34 #[.int .i64 s, .int .i64 b] w fun e w' => e = .returned (.bool (followM s b)) ∧ Only [] w w' := by
  go_enter Tryd.func34, Tryd.ntmps34
  go_wp2_with fail
  have h0 := NumsAt.new1 w s 3
  have H0 : Hid (Only [] w (w.alloc (.cells #[.int .i64 s] 3))) := (Only.refl _ _).alloc _
  revert h0 H0
  generalize w.heap.size = g
  generalize World.alloc w _ = w1
  intro h0 H0
  refine (within_calls 1 70368744177664 g [s] _ w1 h0 (by simp)).mono ?_
  rintro e w2 ⟨rfl, rfl⟩
  by_cases hs : 1 ≤ s ∧ s ≤ 70368744177664
  · have e1 : inM 1 70368744177664 [s] = true := by simp [inM]; omega
    rw [e1]
    have hs1 := hs.1; have hs2 := hs.2
    clear h0 hs
    go_wp2_with fail
    have h0 := NumsAt.new1 w2 b 3
    have H1 : Hid (Only [] w (w2.alloc (.cells #[.int .i64 b] 3))) := H0.out.alloc _
    revert h0 H1
    generalize w2.heap.size = g'
    generalize World.alloc w2 _ = w3
    intro h0 H1
    refine (within_calls 0 (s - 1) g' [b] _ w3 h0 (by simp)).mono ?_
    rintro e w4 ⟨rfl, rfl⟩
    have HR : Hid (inM 0 (s - 1) [b] = followM s b) := by
      show _ = _
      unfold inM followM
      simp only [List.all_cons, List.all_nil, Bool.and_true]
      congr 1
      exact propext ⟨fun q => by omega, fun q => by omega⟩
    clear h0
    go_wp2_with fail
    go_ret
    exact ⟨ret_bool HR.out, H1.out⟩
  · have e1 : inM 1 70368744177664 [s] = false := by simp [inM]; omega
    rw [e1]
    have HR : Hid (followM s b = false) := by show _ = _; unfold followM; simp; omega
    clear h0 hs
    go_wp2_with fail
    go_ret
    exact ⟨ret_bool HR.out.symm, H0.out⟩

/-! The writer, while nothing is wrong. -/
abbrev WA (w : World) (x : Nat) (l : List Nat) : Prop := WrAt #[.nilIface] 74 w x l
theorem tail_put1 {l : List Nat} {A : Value} (v : Value) : (wcells l ++ #[A]).setIfInBounds 4001 v = wcells l ++ #[v] := by
  apply Array.ext_getElem?
  intro j
  rw [Array.getElem?_setIfInBounds, Array.getElem?_append, Array.getElem?_append, Array.size_append, wcells_size]
  have hs : (#[A] : Array Value).size = 1 := rfl
  by_cases e : 4001 = j
  · subst e
    rw [if_pos rfl, hs, if_pos (by omega), if_neg (by omega)]; rfl
  · rw [if_neg e]
    by_cases q : j < 4001
    · rw [if_pos q, if_pos q]
    · rw [if_neg q, if_neg q, Array.getElem?_eq_none (by rw [hs]; omega), Array.getElem?_eq_none (by show 1 ≤ _; omega)]
theorem keepW_calls (x : Nat) (l : List Nat) (w : World) (h : WA w x l) :
    Calls Tryd.prog 48 #[.pointer (some ⟨x, 0, none⟩), .nilIface] w fun e w' => e = .returned (.tuple #[]) ∧ WA w' x l ∧ Only [x] w w' := by
  have HW : Hid (WA w x l) := h
  have hc : w.cell? ⟨x, 4001, none⟩ = some .nilIface := h.tail 0
  have hf := h.free 4001
  clear h
  go_enter Tryd.func48, Tryd.ntmps48
  go_wp2_with fail
  refine bodyPost_end (results_none rfl _ _ _) rfl ?_
  refine ⟨rfl, ⟨?_, HW.out.bits, HW.out.len⟩, (Only.refl _ _).setCell (p := ⟨x, 4001, none⟩) (Or.inl (by simp)) _⟩
  rw [heap_put HW.out.at_, tail_put1]
theorem wr_good {R : Array Value} {T : TypeId} {x : Nat} {l more : List Nat} {P : Prop} {w w' : World} {e : Ending} (hp : ¬ P) (hl : l.length + more.length ≤ 32000) (h : WrPost R T x l P more w e w') : e = .returned .nilIface ∧ WrAt R T w' x (l ++ more) ∧ Only [x] w w' := by
  obtain ⟨o, h | ⟨_, q, _⟩ | ⟨_, _, he, hw⟩⟩ := h
  · exact absurd h.1 hp
  · omega
  · exact ⟨he, hw, o⟩
def varsB (xs : List Int) : List Nat := xs.flatMap (fun n => varB n.toNat)
def intsB (xs : List Int) : List Nat := xs.flatMap (fun n => varB (codeM n))
def putsB (wd : Nat) (xs : List Int) : List Nat := xs.flatMap (fun n => putB n.toNat wd)
theorem flat_snoc {α : Type} (f : Int → List α) (xs : List Int) (n : Int) : (xs ++ [n]).flatMap f = xs.flatMap f ++ f n := by simp
theorem flat_len (f : Int → List Nat) (k : Nat) (xs : List Int) (h : ∀ n ∈ xs, (f n).length ≤ k) : (xs.flatMap f).length ≤ k * xs.length := by
  induction xs with
  | nil => simp
  | cons a t ih =>
    have h1 := h a (by simp)
    have h2 := ih (fun n hn => h n (by simp [hn]))
    simp only [List.flatMap_cons, List.length_append, List.length_cons, Nat.mul_add, Nat.mul_one]
    omega
theorem varB_78 {n : Nat} (h : n < 2 ^ 62) : (varB n).length ≤ 78 := by rw [varB_len]; have := piecesM_13 h; omega
theorem codeM_lt {n : Int} (h : ¬ badInt n) : codeM n < 2 ^ 62 := by unfold badInt at h; unfold codeM; split <;> omega
set_option maxRecDepth 100000 in
theorem varsW_calls (x : Nat) (l : List Nat) (g : Nat) (xs : List Int) (c : Nat) (w : World) (h : WA w x l) (hn : NumsAt w g xs) (hg : g ≠ x) (hx : ∀ n ∈ xs, ¬ badVar n) (hl : l.length + 78 * xs.length ≤ 32000) (hm : xs.length ≤ 1000) :
    Calls Tryd.prog 27 #[.pointer (some ⟨x, 0, none⟩), .slice (some ⟨g, 0, none⟩) xs.length c] w fun e w' => e = .returned (.tuple #[]) ∧ WA w' x (l ++ varsB xs) ∧ Only [x] w w' := by
  have HC : Hid (NumsAt w g xs ∧ (∀ n ∈ xs, ¬ badVar n) ∧ g ≠ x ∧ l.length + 78 * xs.length ≤ 32000) := ⟨hn, hx, hg, hl⟩
  have HW : Hid (WA w x (l ++ varsB (xs.take 0))) := by show WA w x (l ++ []); rw [List.append_nil]; exact h
  clear h hn hg hx hl
  go_enter Tryd.func27, Tryd.ntmps27
  go_wp2_with fail
  go_loopg [8] xs.length (fun k' idx wr => ∃ i : Nat, idx = .int .i64 (i : Int) ∧ Hid (i ≤ xs.length ∧ k' = xs.length - i) ∧ Hid (WA wr x (l ++ varsB (xs.take i)) ∧ Only [x] w wr))
  case atStart => exact ⟨0, rfl, ⟨by omega, rfl⟩, ⟨HW.out, Only.refl _ _⟩⟩
  case round =>
    obtain ⟨i, rfl, H1, HE⟩ := hrel
    by_cases hi' : i < xs.length
    · have hil : (i : Int) < (xs.length : Int) := by omega
      have c1 := (HC.out.1.only HE.out.2 (by simpa using HC.out.2.2.1)) i hi'
      obtain ⟨z, hz⟩ : ∃ z, xs[i] = z := ⟨_, rfl⟩
      rw [hz] at c1
      have hzx : ¬ badVar z := HC.out.2.1 z (by rw [← hz]; exact List.getElem_mem hi')
      have hfl : (varsB (xs.take i)).length ≤ 78 * (xs.take i).length := flat_len _ 78 _ (fun n hn => varB_78 (by have := (HC.out.2.1 n (List.mem_of_mem_take hn)); unfold badVar at this; omega))
      have HL : Hid ((l ++ varsB (xs.take i)).length + (varB z.toNat).length ≤ 32000) := by
        show _ ≤ _
        have h2 : (varB z.toNat).length ≤ 78 := varB_78 (by have := hzx; unfold badVar at this; omega)
        have h3 := HC.out.2.2.2
        have h4 : 78 * (xs.take i).length + 78 ≤ 78 * xs.length := by
          rw [List.length_take, Nat.min_eq_left (by omega), ← Nat.mul_succ]; exact Nat.mul_le_mul_left _ (by omega)
        rw [List.length_append]; omega
      have HS : Hid (varsB (xs.take (i + 1)) = varsB (xs.take i) ++ varB z.toNat) := by
        show _ = _
        unfold varsB
        rw [List.take_succ_eq_append_getElem hi', flat_snoc, hz]
        try rfl
      have HZ : Hid (¬ badVar z) := hzx
      clear hz hzx hfl
      go_wp2_with fail
      refine (var_calls x _ z _ HE.out.1).mono ?_
      intro e w2 hq
      obtain ⟨rfl, h2, o2⟩ := wr_good HZ.out HL.out hq
      have H2 : Hid (WA w2 x (l ++ varsB (xs.take (i + 1))) ∧ Only [x] w w2) := ⟨by rw [HS.out, ← List.append_assoc]; exact h2, HE.out.2.trans o2⟩
      clear hq h2 o2
      go_wp2_with fail
      refine (keepW_calls x _ w2 H2.out.1).mono ?_
      rintro e w3 ⟨rfl, h3, o3⟩
      have H3 : Hid (WA w3 x (l ++ varsB (xs.take (i + 1))) ∧ Only [x] w w3) := ⟨h3, H2.out.2.trans o3⟩
      clear h3 o3 c1
      go_wp2_with fail
      go_roundg (xs.length - (i + 1))
      case measure => have := H1.out.2; omega
      case rel => exact ⟨i + 1, by go_num, ⟨by omega, rfl⟩, H3.out⟩
    · have hil : ¬ (i : Int) < (xs.length : Int) := by omega
      go_wp2_with fail
      refine bodyPost_end (results_none rfl _ _ _) rfl ?_
      have := HE.out
      rw [List.take_of_length_le (by omega)] at this
      exact ⟨rfl, this.1, this.2⟩
set_option maxRecDepth 100000 in
theorem intsW_calls (x : Nat) (l : List Nat) (g : Nat) (xs : List Int) (c : Nat) (w : World) (h : WA w x l) (hn : NumsAt w g xs) (hg : g ≠ x) (hx : ∀ n ∈ xs, ¬ badInt n) (hl : l.length + 78 * xs.length ≤ 32000) (hm : xs.length ≤ 1000) :
    Calls Tryd.prog 31 #[.pointer (some ⟨x, 0, none⟩), .slice (some ⟨g, 0, none⟩) xs.length c] w fun e w' => e = .returned (.tuple #[]) ∧ WA w' x (l ++ intsB xs) ∧ Only [x] w w' := by
  have HC : Hid (NumsAt w g xs ∧ (∀ n ∈ xs, ¬ badInt n) ∧ g ≠ x ∧ l.length + 78 * xs.length ≤ 32000) := ⟨hn, hx, hg, hl⟩
  have HW : Hid (WA w x (l ++ intsB (xs.take 0))) := by show WA w x (l ++ []); rw [List.append_nil]; exact h
  clear h hn hg hx hl
  go_enter Tryd.func31, Tryd.ntmps31
  go_wp2_with fail
  go_loopg [8] xs.length (fun k' idx wr => ∃ i : Nat, idx = .int .i64 (i : Int) ∧ Hid (i ≤ xs.length ∧ k' = xs.length - i) ∧ Hid (WA wr x (l ++ intsB (xs.take i)) ∧ Only [x] w wr))
  case atStart => exact ⟨0, rfl, ⟨by omega, rfl⟩, ⟨HW.out, Only.refl _ _⟩⟩
  case round =>
    obtain ⟨i, rfl, H1, HE⟩ := hrel
    by_cases hi' : i < xs.length
    · have hil : (i : Int) < (xs.length : Int) := by omega
      have c1 := (HC.out.1.only HE.out.2 (by simpa using HC.out.2.2.1)) i hi'
      obtain ⟨z, hz⟩ : ∃ z, xs[i] = z := ⟨_, rfl⟩
      rw [hz] at c1
      have hzx : ¬ badInt z := HC.out.2.1 z (by rw [← hz]; exact List.getElem_mem hi')
      have hfl : (intsB (xs.take i)).length ≤ 78 * (xs.take i).length := flat_len _ 78 _ (fun n hn => varB_78 (codeM_lt (HC.out.2.1 n (List.mem_of_mem_take hn))))
      have HL : Hid ((l ++ intsB (xs.take i)).length + (varB (codeM z)).length ≤ 32000) := by
        show _ ≤ _
        have h2 : (varB (codeM z)).length ≤ 78 := varB_78 (codeM_lt hzx)
        have h3 := HC.out.2.2.2
        have h4 : 78 * (xs.take i).length + 78 ≤ 78 * xs.length := by
          rw [List.length_take, Nat.min_eq_left (by omega), ← Nat.mul_succ]; exact Nat.mul_le_mul_left _ (by omega)
        rw [List.length_append]; omega
      have HS : Hid (intsB (xs.take (i + 1)) = intsB (xs.take i) ++ varB (codeM z)) := by
        show _ = _
        unfold intsB
        rw [List.take_succ_eq_append_getElem hi', flat_snoc, hz]
        try rfl
      have HZ : Hid (¬ badInt z) := hzx
      clear hz hzx hfl
      go_wp2_with fail
      refine (int_calls x _ z _ HE.out.1).mono ?_
      intro e w2 hq
      obtain ⟨rfl, h2, o2⟩ := wr_good HZ.out HL.out hq
      have H2 : Hid (WA w2 x (l ++ intsB (xs.take (i + 1))) ∧ Only [x] w w2) := ⟨by rw [HS.out, ← List.append_assoc]; exact h2, HE.out.2.trans o2⟩
      clear hq h2 o2
      go_wp2_with fail
      refine (keepW_calls x _ w2 H2.out.1).mono ?_
      rintro e w3 ⟨rfl, h3, o3⟩
      have H3 : Hid (WA w3 x (l ++ intsB (xs.take (i + 1))) ∧ Only [x] w w3) := ⟨h3, H2.out.2.trans o3⟩
      clear h3 o3 c1
      go_wp2_with fail
      go_roundg (xs.length - (i + 1))
      case measure => have := H1.out.2; omega
      case rel => exact ⟨i + 1, by go_num, ⟨by omega, rfl⟩, H3.out⟩
    · have hil : ¬ (i : Int) < (xs.length : Int) := by omega
      go_wp2_with fail
      refine bodyPost_end (results_none rfl _ _ _) rfl ?_
      have := HE.out
      rw [List.take_of_length_le (by omega)] at this
      exact ⟨rfl, this.1, this.2⟩
set_option maxRecDepth 100000 in
theorem putsW_calls (x : Nat) (l : List Nat) (wd : Nat) (g : Nat) (xs : List Int) (c : Nat) (w : World) (h : WA w x l) (hn : NumsAt w g xs) (hg : g ≠ x) (hx : ∀ n ∈ xs, ¬ badPut n (wd : Int)) (hl : l.length + 62 * xs.length ≤ 32000) (hm : xs.length ≤ 1000) :
    Calls Tryd.prog 28 #[.pointer (some ⟨x, 0, none⟩), .int .i64 ((wd : Int)), .slice (some ⟨g, 0, none⟩) xs.length c] w fun e w' => e = .returned (.tuple #[]) ∧ WA w' x (l ++ putsB wd xs) ∧ Only [x] w w' := by
  have HC : Hid (NumsAt w g xs ∧ (∀ n ∈ xs, ¬ badPut n (wd : Int)) ∧ g ≠ x ∧ l.length + 62 * xs.length ≤ 32000) := ⟨hn, hx, hg, hl⟩
  have HW : Hid (WA w x (l ++ putsB wd (xs.take 0))) := by show WA w x (l ++ []); rw [List.append_nil]; exact h
  clear h hn hg hx hl
  go_enter Tryd.func28, Tryd.ntmps28
  go_wp2_with fail
  go_loopg [10] xs.length (fun k' idx wr => ∃ i : Nat, idx = .int .i64 (i : Int) ∧ Hid (i ≤ xs.length ∧ k' = xs.length - i) ∧ Hid (WA wr x (l ++ putsB wd (xs.take i)) ∧ Only [x] w wr))
  case atStart => exact ⟨0, rfl, ⟨by omega, rfl⟩, ⟨HW.out, Only.refl _ _⟩⟩
  case round =>
    obtain ⟨i, rfl, H1, HE⟩ := hrel
    by_cases hi' : i < xs.length
    · have hil : (i : Int) < (xs.length : Int) := by omega
      have c1 := (HC.out.1.only HE.out.2 (by simpa using HC.out.2.2.1)) i hi'
      obtain ⟨z, hz⟩ : ∃ z, xs[i] = z := ⟨_, rfl⟩
      rw [hz] at c1
      have hzx : ¬ badPut z (wd : Int) := HC.out.2.1 z (by rw [← hz]; exact List.getElem_mem hi')
      have hfl : (putsB wd (xs.take i)).length ≤ 62 * (xs.take i).length := flat_len _ 62 _ (fun n hn => by rw [putB_len]; have := (HC.out.2.1 n (List.mem_of_mem_take hn)); unfold badPut at this; omega)
      have HL : Hid ((l ++ putsB wd (xs.take i)).length + (putB z.toNat (wd : Int).toNat).length ≤ 32000) := by
        show _ ≤ _
        have h2 : (putB z.toNat (wd : Int).toNat).length ≤ 62 := by rw [putB_len]; have := hzx; unfold badPut at this; omega
        have h3 := HC.out.2.2.2
        have h4 : 62 * (xs.take i).length + 62 ≤ 62 * xs.length := by
          rw [List.length_take, Nat.min_eq_left (by omega), ← Nat.mul_succ]; exact Nat.mul_le_mul_left _ (by omega)
        rw [List.length_append]; omega
      have HS : Hid (putsB wd (xs.take (i + 1)) = putsB wd (xs.take i) ++ putB z.toNat (wd : Int).toNat) := by
        show _ = _
        unfold putsB
        rw [List.take_succ_eq_append_getElem hi', flat_snoc, hz]
        try rfl
      have HZ : Hid (¬ badPut z (wd : Int)) := hzx
      clear hz hzx hfl
      go_wp2_with fail
      refine (put_calls x _ z (wd : Int) _ HE.out.1).mono ?_
      intro e w2 hq
      obtain ⟨rfl, h2, o2⟩ := wr_good HZ.out HL.out hq
      have H2 : Hid (WA w2 x (l ++ putsB wd (xs.take (i + 1))) ∧ Only [x] w w2) := ⟨by rw [HS.out, ← List.append_assoc]; exact h2, HE.out.2.trans o2⟩
      clear hq h2 o2
      go_wp2_with fail
      refine (keepW_calls x _ w2 H2.out.1).mono ?_
      rintro e w3 ⟨rfl, h3, o3⟩
      have H3 : Hid (WA w3 x (l ++ putsB wd (xs.take (i + 1))) ∧ Only [x] w w3) := ⟨h3, H2.out.2.trans o3⟩
      clear h3 o3 c1
      go_wp2_with fail
      go_roundg (xs.length - (i + 1))
      case measure => have := H1.out.2; omega
      case rel => exact ⟨i + 1, by go_num, ⟨by omega, rfl⟩, H3.out⟩
    · have hil : ¬ (i : Int) < (xs.length : Int) := by omega
      go_wp2_with fail
      refine bodyPost_end (results_none rfl _ _ _) rfl ?_
      have := HE.out
      rw [List.take_of_length_le (by omega)] at this
      exact ⟨rfl, this.1, this.2⟩
set_option maxRecDepth 100000 in
theorem allW_calls (x : Nat) (l : List Nat) (w : World) (h : WA w x l) :
    Calls Tryd.prog 32 #[.pointer (some ⟨x, 0, none⟩)] w fun e w' => ∃ v, e = .returned (.tuple #[v, .nilIface]) ∧ Fresh w v (bytesOf l) w' ∧ Only [] w w' := by
  have HW : Hid (WA w x l) := h
  have hc : w.cell? ⟨x, 4001, none⟩ = some .nilIface := h.tail 0
  clear h
  go_enter Tryd.func32, Tryd.ntmps32
  go_wp2_with fail
  refine (bytes_calls x l w HW.out).mono ?_
  rintro e w1 ⟨v, rfl, hf, o1⟩
  have H1 : Hid (Fresh w v (bytesOf l) w1 ∧ Only [] w w1) := ⟨hf, o1⟩
  clear hf o1
  go_wp2_with fail
  go_ret2
  exact ⟨v, rfl, H1.out.1, H1.out.2⟩
end Go.Proofs.YtbiaajncngldlaaDoor
