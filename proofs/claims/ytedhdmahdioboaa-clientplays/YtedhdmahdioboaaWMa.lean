/- wire's within, hasBody, hasWay, mayFollow and its writer: whichever numbers. -/
import Derived.Test.YtedhdmahdioboaaSg3
import Derived.Test.YtedhdmahdioboaaFin
import Derived.MapKept
import Derived.Test.YtedhdmahdioboaaSg5
import Derived.Test.YtedhdmahdioboaaRdm
import Derived.Test.YtedhdmahdioboaaStr2
import Derived.Laws.MakeOwn
namespace Go.Proofs.Ytedhdmahdioboaa
open Go.ChangeShapes Go.WideShapes Go.ChangeAt Go.RowKit
set_option linter.unusedVariables false
set_option linter.unusedSimpArgs false

theorem ret_bool {a b : Bool} (h : a = b) : Ending.returned (.bool a) = .returned (.bool b) := by rw [h]
/-- Numbers at the head of a block. -/
def NumsAt (w : World) (g : Nat) (xs : List Int) : Prop := ∀ j (hj : j < xs.length), w.cell? ⟨g, j, none⟩ = some (.int .i64 (xs[j]))
theorem NumsAt.only {w w' : World} {g : Nat} {xs : List Int} (h : NumsAt w g xs) {D : List Nat} (o : Only D w w') (s : g ∉ D) : NumsAt w' g xs := fun j hj => o.cell (h j hj) s
theorem NumsAt.new1 (w : World) (a : Int) (t : TypeId) : NumsAt (w.alloc (.cells #[.int .i64 a] t)) w.heap.size [a] := fun j hj => by
  match j, hj with
  | 0, _ => simp
theorem NumsAt.new2 (w : World) (a b : Int) (t : TypeId) : NumsAt (w.alloc (.cells #[.int .i64 a, .int .i64 b] t)) w.heap.size [a, b] := fun j hj => by
  match j, hj with
  | 0, _ => simp
  | 1, _ => simp
theorem NumsAt.new3 (w : World) (a b c : Int) (t : TypeId) : NumsAt (w.alloc (.cells #[.int .i64 a, .int .i64 b, .int .i64 c] t)) w.heap.size [a, b, c] := fun j hj => by
  match j, hj with
  | 0, _ => simp
  | 1, _ => simp
  | 2, _ => simp
theorem NumsAt.new4 (w : World) (a b c d : Int) (t : TypeId) : NumsAt (w.alloc (.cells #[.int .i64 a, .int .i64 b, .int .i64 c, .int .i64 d] t)) w.heap.size [a, b, c, d] := fun j hj => by
  match j, hj with
  | 0, _ => simp
  | 1, _ => simp
  | 2, _ => simp
  | 3, _ => simp
def inM (lo hi : Int) (xs : List Int) : Bool := xs.all (fun n => decide (lo ≤ n ∧ n ≤ hi))
theorem inM_snoc (lo hi : Int) (xs : List Int) (n : Int) : inM lo hi (xs ++ [n]) = (inM lo hi xs && decide (lo ≤ n ∧ n ≤ hi)) := by simp [inM]
set_option maxRecDepth 100000 in
theorem within_calls (lo hi : Int) (g : Nat) (xs : List Int) (c : Nat) (w : World) (h : NumsAt w g xs) (hl : xs.length ≤ 100) :
    Calls Try.prog 112 #[.int .i64 lo, .int .i64 hi, .slice (some ⟨g, 0, none⟩) xs.length c] w fun e w' => e = .returned (.bool (inM lo hi xs)) ∧ w' = w := by
  have HC : Hid (NumsAt w g xs) := h
  clear h
  go_enter Try.func112, Try.ntmps112
  go_wp2_with fail
  go_loopg [11] xs.length (fun k idx wr => ∃ i : Nat, idx = .int .i64 (i : Int) ∧ Hid (i ≤ xs.length ∧ k = xs.length - i ∧ inM lo hi (xs.take i) = true) ∧ wr = w)
  case atStart => exact ⟨0, rfl, ⟨by omega, rfl, rfl⟩, rfl⟩
  case round =>
    obtain ⟨i, rfl, H1, rfl⟩ := hrel
    by_cases hi' : i < xs.length
    · have hil : (i : Int) < (xs.length : Int) := by omega
      have c1 := HC.out i hi'
      obtain ⟨z, hz⟩ : ∃ z, xs[i] = z := ⟨_, rfl⟩
      rw [hz] at c1
      have HZ : Hid (xs[i] = z) := hz
      clear hz
      have HB : Hid (¬ (lo ≤ z ∧ z ≤ hi) → inM lo hi xs = false) := by
        intro q
        unfold inM
        rw [List.all_eq_false]
        exact ⟨z, by rw [← HZ.out]; exact List.getElem_mem hi', by simpa using q⟩
      by_cases h1 : z < lo
      · have d1 : decide (z < lo) = true := by simpa using h1
        have HR : Hid (inM lo hi xs = false) := HB.out (by omega)
        clear h1
        go_wp2_with fail
        go_ret
        exact ⟨ret_bool HR.out.symm, rfl⟩
      · have d1 : decide (z < lo) = false := by simpa using h1
        by_cases h2 : z > hi
        · have d2 : decide (z > hi) = true := by simpa using h2
          have HR : Hid (inM lo hi xs = false) := HB.out (by omega)
          clear h1 h2
          go_wp2_with fail
          go_ret
          exact ⟨ret_bool HR.out.symm, rfl⟩
        · have d2 : decide (z > hi) = false := by simpa using h2
          have HN : Hid (inM lo hi (xs.take (i + 1)) = true) := by
            show _ = _
            rw [List.take_succ_eq_append_getElem hi', inM_snoc, H1.out.2.2, HZ.out]
            simp; omega
          clear h1 h2
          go_wp2_with fail
          go_roundg (xs.length - (i + 1))
          case measure => have := H1.out.2.1; omega
          case rel => exact ⟨i + 1, by go_num, ⟨by omega, rfl, HN.out⟩, rfl⟩
    · have hil : ¬ (i : Int) < (xs.length : Int) := by omega
      go_wp2_with fail
      go_ret
      exact ⟨ret_bool (by have := H1.out.2.2; rw [List.take_of_length_le (by omega)] at this; exact this.symm), rfl⟩
def followM (s b : Int) : Bool := decide (1 ≤ s ∧ s ≤ 70368744177664 ∧ 0 ≤ b ∧ b < s)
set_option maxRecDepth 100000 in
theorem mayFollow_calls (s b : Int) (w : World) : Calls Try.prog 111 #[.int .i64 s, .int .i64 b] w fun e w' => e = .returned (.bool (followM s b)) ∧ Only [] w w' := by
  go_enter Try.func111, Try.ntmps111
  go_wp2_with fail
  have h0 := NumsAt.new1 w s 3
  have H0 : Hid (Only [] w (w.alloc (.cells #[.int .i64 s] 3))) := (Only.refl _ _).alloc _
  revert h0 H0
  generalize w.heap.size = g
  generalize World.alloc w _ = w1
  intro h0 H0
  refine (within_calls 1 70368744177664 g [s] _ w1 h0 (by simp)).mono ?_
  rintro e w2 ⟨rfl, rfl⟩
  by_cases hs : 1 ≤ s ∧ s ≤ 70368744177664
  · have e1 : inM 1 70368744177664 [s] = true := by simp [inM]; omega
    rw [e1]
    have hs1 := hs.1; have hs2 := hs.2
    clear h0 hs
    go_wp2_with fail
    have h0 := NumsAt.new1 w2 b 3
    have H1 : Hid (Only [] w (w2.alloc (.cells #[.int .i64 b] 3))) := H0.out.alloc _
    revert h0 H1
    generalize w2.heap.size = g'
    generalize World.alloc w2 _ = w3
    intro h0 H1
    refine (within_calls 0 (s - 1) g' [b] _ w3 h0 (by simp)).mono ?_
    rintro e w4 ⟨rfl, rfl⟩
    have HR : Hid (inM 0 (s - 1) [b] = followM s b) := by
      show _ = _
      unfold inM followM
      simp only [List.all_cons, List.all_nil, Bool.and_true]
      congr 1
      exact propext ⟨fun q => by omega, fun q => by omega⟩
    clear h0
    go_wp2_with fail
    go_ret
    exact ⟨ret_bool HR.out, H1.out⟩
  · have e1 : inM 1 70368744177664 [s] = false := by simp [inM]; omega
    rw [e1]
    have HR : Hid (followM s b = false) := by show _ = _; unfold followM; simp; omega
    clear h0 hs
    go_wp2_with fail
    go_ret
    exact ⟨ret_bool HR.out.symm, H0.out⟩

/-! The writer, while nothing is wrong. -/
abbrev WA (w : World) (x : Nat) (l : List Nat) : Prop := WrAt #[.nilIface] 206 w x l
theorem tail_put1 {l : List Nat} {A : Value} (v : Value) : (wcells l ++ #[A]).setIfInBounds 4001 v = wcells l ++ #[v] := by
  apply Array.ext_getElem?
  intro j
  rw [Array.getElem?_setIfInBounds, Array.getElem?_append, Array.getElem?_append, Array.size_append, wcells_size]
  have hs : (#[A] : Array Value).size = 1 := rfl
  by_cases e : 4001 = j
  · subst e
    rw [if_pos rfl, hs, if_pos (by omega), if_neg (by omega)]; rfl
  · rw [if_neg e]
    by_cases q : j < 4001
    · rw [if_pos q, if_pos q]
    · rw [if_neg q, if_neg q, Array.getElem?_eq_none (by rw [hs]; omega), Array.getElem?_eq_none (by show 1 ≤ _; omega)]
theorem keepW_calls (x : Nat) (l : List Nat) (w : World) (h : WA w x l) :
    Calls Try.prog 136 #[.pointer (some ⟨x, 0, none⟩), .nilIface] w fun e w' => e = .returned (.tuple #[]) ∧ WA w' x l ∧ Only [x] w w' := by
  have HW : Hid (WA w x l) := h
  have hc : w.cell? ⟨x, 4001, none⟩ = some .nilIface := h.tail 0
  have hf := h.free 4001
  clear h
  go_enter Try.func136, Try.ntmps136
  go_wp2_with fail
  refine bodyPost_end (results_none rfl _ _ _) rfl ?_
  refine ⟨rfl, ⟨?_, HW.out.bits, HW.out.len⟩, (Only.refl _ _).setCell (p := ⟨x, 4001, none⟩) (Or.inl (by simp)) _⟩
  rw [heap_put HW.out.at_, tail_put1]
theorem wr_good {R : Array Value} {T : TypeId} {x : Nat} {l more : List Nat} {P : Prop} {w w' : World} {e : Ending} (hp : ¬ P) (hl : l.length + more.length ≤ 32000) (h : WrPost R T x l P more w e w') : e = .returned .nilIface ∧ WrAt R T w' x (l ++ more) ∧ Only [x] w w' := by
  obtain ⟨o, h | ⟨_, q, _⟩ | ⟨_, _, he, hw⟩⟩ := h
  · exact absurd h.1 hp
  · omega
  · exact ⟨he, hw, o⟩
def varsB (xs : List Int) : List Nat := xs.flatMap (fun n => varB n.toNat)
def intsB (xs : List Int) : List Nat := xs.flatMap (fun n => varB (codeM n))
def putsB (wd : Nat) (xs : List Int) : List Nat := xs.flatMap (fun n => putB n.toNat wd)
theorem flat_snoc {α : Type} (f : Int → List α) (xs : List Int) (n : Int) : (xs ++ [n]).flatMap f = xs.flatMap f ++ f n := by simp
theorem flat_len (f : Int → List Nat) (k : Nat) (xs : List Int) (h : ∀ n ∈ xs, (f n).length ≤ k) : (xs.flatMap f).length ≤ k * xs.length := by
  induction xs with
  | nil => simp
  | cons a t ih =>
    have h1 := h a (by simp)
    have h2 := ih (fun n hn => h n (by simp [hn]))
    simp only [List.flatMap_cons, List.length_append, List.length_cons, Nat.mul_add, Nat.mul_one]
    omega
theorem varB_78 {n : Nat} (h : n < 2 ^ 62) : (varB n).length ≤ 78 := by rw [varB_len]; have := piecesM_13 h; omega
theorem codeM_lt {n : Int} (h : ¬ badInt n) : codeM n < 2 ^ 62 := by unfold badInt at h; unfold codeM; split <;> omega
set_option maxRecDepth 100000 in
theorem varsW_calls (x : Nat) (l : List Nat) (g : Nat) (xs : List Int) (c : Nat) (w : World) (h : WA w x l) (hn : NumsAt w g xs) (hg : g ≠ x) (hx : ∀ n ∈ xs, ¬ badVar n) (hl : l.length + 78 * xs.length ≤ 32000) (hm : xs.length ≤ 1000) :
    Calls Try.prog 113 #[.pointer (some ⟨x, 0, none⟩), .slice (some ⟨g, 0, none⟩) xs.length c] w fun e w' => e = .returned (.tuple #[]) ∧ WA w' x (l ++ varsB xs) ∧ Only [x] w w' := by
  have HC : Hid (NumsAt w g xs ∧ (∀ n ∈ xs, ¬ badVar n) ∧ g ≠ x ∧ l.length + 78 * xs.length ≤ 32000) := ⟨hn, hx, hg, hl⟩
  have HW : Hid (WA w x (l ++ varsB (xs.take 0))) := by show WA w x (l ++ []); rw [List.append_nil]; exact h
  clear h hn hg hx hl
  go_enter Try.func113, Try.ntmps113
  go_wp2_with fail
  go_loopg [8] xs.length (fun k' idx wr => ∃ i : Nat, idx = .int .i64 (i : Int) ∧ Hid (i ≤ xs.length ∧ k' = xs.length - i) ∧ Hid (WA wr x (l ++ varsB (xs.take i)) ∧ Only [x] w wr))
  case atStart => exact ⟨0, rfl, ⟨by omega, rfl⟩, ⟨HW.out, Only.refl _ _⟩⟩
  case round =>
    obtain ⟨i, rfl, H1, HE⟩ := hrel
    by_cases hi' : i < xs.length
    · have hil : (i : Int) < (xs.length : Int) := by omega
      have c1 := (HC.out.1.only HE.out.2 (by simpa using HC.out.2.2.1)) i hi'
      obtain ⟨z, hz⟩ : ∃ z, xs[i] = z := ⟨_, rfl⟩
      rw [hz] at c1
      have hzx : ¬ badVar z := HC.out.2.1 z (by rw [← hz]; exact List.getElem_mem hi')
      have hfl : (varsB (xs.take i)).length ≤ 78 * (xs.take i).length := flat_len _ 78 _ (fun n hn => varB_78 (by have := (HC.out.2.1 n (List.mem_of_mem_take hn)); unfold badVar at this; omega))
      have HL : Hid ((l ++ varsB (xs.take i)).length + (varB z.toNat).length ≤ 32000) := by
        show _ ≤ _
        have h2 : (varB z.toNat).length ≤ 78 := varB_78 (by have := hzx; unfold badVar at this; omega)
        have h3 := HC.out.2.2.2
        have h4 : 78 * (xs.take i).length + 78 ≤ 78 * xs.length := by
          rw [List.length_take, Nat.min_eq_left (by omega), ← Nat.mul_succ]; exact Nat.mul_le_mul_left _ (by omega)
        rw [List.length_append]; omega
      have HS : Hid (varsB (xs.take (i + 1)) = varsB (xs.take i) ++ varB z.toNat) := by
        show _ = _
        unfold varsB
        rw [List.take_succ_eq_append_getElem hi', flat_snoc, hz]
        try rfl
      have HZ : Hid (¬ badVar z) := hzx
      clear hz hzx hfl
      go_wp2_with fail
      refine (var_calls x _ z _ HE.out.1).mono ?_
      intro e w2 hq
      obtain ⟨rfl, h2, o2⟩ := wr_good HZ.out HL.out hq
      have H2 : Hid (WA w2 x (l ++ varsB (xs.take (i + 1))) ∧ Only [x] w w2) := ⟨by rw [HS.out, ← List.append_assoc]; exact h2, HE.out.2.trans o2⟩
      clear hq h2 o2
      go_wp2_with fail
      refine (keepW_calls x _ w2 H2.out.1).mono ?_
      rintro e w3 ⟨rfl, h3, o3⟩
      have H3 : Hid (WA w3 x (l ++ varsB (xs.take (i + 1))) ∧ Only [x] w w3) := ⟨h3, H2.out.2.trans o3⟩
      clear h3 o3 c1
      go_wp2_with fail
      go_roundg (xs.length - (i + 1))
      case measure => have := H1.out.2; omega
      case rel => exact ⟨i + 1, by go_num, ⟨by omega, rfl⟩, H3.out⟩
    · have hil : ¬ (i : Int) < (xs.length : Int) := by omega
      go_wp2_with fail
      refine bodyPost_end (results_none rfl _ _ _) rfl ?_
      have := HE.out
      rw [List.take_of_length_le (by omega)] at this
      exact ⟨rfl, this.1, this.2⟩
set_option maxRecDepth 100000 in
theorem putsW_calls (x : Nat) (l : List Nat) (wd : Nat) (g : Nat) (xs : List Int) (c : Nat) (w : World) (h : WA w x l) (hn : NumsAt w g xs) (hg : g ≠ x) (hx : ∀ n ∈ xs, ¬ badPut n (wd : Int)) (hl : l.length + 62 * xs.length ≤ 32000) (hm : xs.length ≤ 1000) :
    Calls Try.prog 114 #[.pointer (some ⟨x, 0, none⟩), .int .i64 ((wd : Int)), .slice (some ⟨g, 0, none⟩) xs.length c] w fun e w' => e = .returned (.tuple #[]) ∧ WA w' x (l ++ putsB wd xs) ∧ Only [x] w w' := by
  have HC : Hid (NumsAt w g xs ∧ (∀ n ∈ xs, ¬ badPut n (wd : Int)) ∧ g ≠ x ∧ l.length + 62 * xs.length ≤ 32000) := ⟨hn, hx, hg, hl⟩
  have HW : Hid (WA w x (l ++ putsB wd (xs.take 0))) := by show WA w x (l ++ []); rw [List.append_nil]; exact h
  clear h hn hg hx hl
  go_enter Try.func114, Try.ntmps114
  go_wp2_with fail
  go_loopg [10] xs.length (fun k' idx wr => ∃ i : Nat, idx = .int .i64 (i : Int) ∧ Hid (i ≤ xs.length ∧ k' = xs.length - i) ∧ Hid (WA wr x (l ++ putsB wd (xs.take i)) ∧ Only [x] w wr))
  case atStart => exact ⟨0, rfl, ⟨by omega, rfl⟩, ⟨HW.out, Only.refl _ _⟩⟩
  case round =>
    obtain ⟨i, rfl, H1, HE⟩ := hrel
    by_cases hi' : i < xs.length
    · have hil : (i : Int) < (xs.length : Int) := by omega
      have c1 := (HC.out.1.only HE.out.2 (by simpa using HC.out.2.2.1)) i hi'
      obtain ⟨z, hz⟩ : ∃ z, xs[i] = z := ⟨_, rfl⟩
      rw [hz] at c1
      have hzx : ¬ badPut z (wd : Int) := HC.out.2.1 z (by rw [← hz]; exact List.getElem_mem hi')
      have hfl : (putsB wd (xs.take i)).length ≤ 62 * (xs.take i).length := flat_len _ 62 _ (fun n hn => by rw [putB_len]; have := (HC.out.2.1 n (List.mem_of_mem_take hn)); unfold badPut at this; omega)
      have HL : Hid ((l ++ putsB wd (xs.take i)).length + (putB z.toNat (wd : Int).toNat).length ≤ 32000) := by
        show _ ≤ _
        have h2 : (putB z.toNat (wd : Int).toNat).length ≤ 62 := by rw [putB_len]; have := hzx; unfold badPut at this; omega
        have h3 := HC.out.2.2.2
        have h4 : 62 * (xs.take i).length + 62 ≤ 62 * xs.length := by
          rw [List.length_take, Nat.min_eq_left (by omega), ← Nat.mul_succ]; exact Nat.mul_le_mul_left _ (by omega)
        rw [List.length_append]; omega
      have HS : Hid (putsB wd (xs.take (i + 1)) = putsB wd (xs.take i) ++ putB z.toNat (wd : Int).toNat) := by
        show _ = _
        unfold putsB
        rw [List.take_succ_eq_append_getElem hi', flat_snoc, hz]
        try rfl
      have HZ : Hid (¬ badPut z (wd : Int)) := hzx
      clear hz hzx hfl
      go_wp2_with fail
      refine (put_calls x _ z (wd : Int) _ HE.out.1).mono ?_
      intro e w2 hq
      obtain ⟨rfl, h2, o2⟩ := wr_good HZ.out HL.out hq
      have H2 : Hid (WA w2 x (l ++ putsB wd (xs.take (i + 1))) ∧ Only [x] w w2) := ⟨by rw [HS.out, ← List.append_assoc]; exact h2, HE.out.2.trans o2⟩
      clear hq h2 o2
      go_wp2_with fail
      refine (keepW_calls x _ w2 H2.out.1).mono ?_
      rintro e w3 ⟨rfl, h3, o3⟩
      have H3 : Hid (WA w3 x (l ++ putsB wd (xs.take (i + 1))) ∧ Only [x] w w3) := ⟨h3, H2.out.2.trans o3⟩
      clear h3 o3 c1
      go_wp2_with fail
      go_roundg (xs.length - (i + 1))
      case measure => have := H1.out.2; omega
      case rel => exact ⟨i + 1, by go_num, ⟨by omega, rfl⟩, H3.out⟩
    · have hil : ¬ (i : Int) < (xs.length : Int) := by omega
      go_wp2_with fail
      refine bodyPost_end (results_none rfl _ _ _) rfl ?_
      have := HE.out
      rw [List.take_of_length_le (by omega)] at this
      exact ⟨rfl, this.1, this.2⟩
set_option maxRecDepth 100000 in
theorem allW_calls (x : Nat) (l : List Nat) (w : World) (h : WA w x l) :
    Calls Try.prog 115 #[.pointer (some ⟨x, 0, none⟩)] w fun e w' => ∃ v, e = .returned (.tuple #[v, .nilIface]) ∧ Fresh w v (bytesOf l) w' ∧ Only [] w w' := by
  have HW : Hid (WA w x l) := h
  have hc : w.cell? ⟨x, 4001, none⟩ = some .nilIface := h.tail 0
  clear h
  go_enter Try.func115, Try.ntmps115
  go_wp2_with fail
  refine (bytes_calls x l w HW.out).mono ?_
  rintro e w1 ⟨v, rfl, hf, o1⟩
  have H1 : Hid (Fresh w v (bytesOf l) w1 ∧ Only [] w w1) := ⟨hf, o1⟩
  clear hf o1
  go_wp2_with fail
  go_ret2
  exact ⟨v, rfl, H1.out.1, H1.out.2⟩
end Go.Proofs.Ytedhdmahdioboaa
/- wire's commands in memory; bare; Ask: whichever command. -/
namespace Go.Proofs.Ytedhdmahdioboaa
open Go.ChangeShapes Go.WideShapes Go.ChangeAt Go.RowKit
set_option linter.unusedVariables false
set_option linter.unusedSimpArgs false

structure Cm where
  tk : Int
  nm : Int
  sn : Int
  kd : Int
  bd : Int
  x : Int
  y : Int
  z : Int
def CmAt (T : TypeId) (w : World) (k : Nat) (c : Cm) : Prop := w.heap[k]? = some (.cells #[.int .i64 (c.tk), .int .i64 (c.nm), .int .i64 (c.sn), .int .i64 (c.kd), .int .i64 (c.bd), .int .i64 (c.x), .int .i64 (c.y), .int .i64 (c.z)] T)
theorem CmAt.lt {T : TypeId} {w : World} {k : Nat} {c : Cm} (h : CmAt T w k c) : k < w.heap.size := (Array.getElem?_eq_some_iff.1 h).1
theorem CmAt.cells {T : TypeId} {w : World} {k : Nat} {c : Cm} (h : CmAt T w k c) : w.cell? ⟨k, 0, none⟩ = some (.int .i64 (c.tk)) ∧ w.cell? ⟨k, 1, none⟩ = some (.int .i64 (c.nm)) ∧ w.cell? ⟨k, 2, none⟩ = some (.int .i64 (c.sn)) ∧ w.cell? ⟨k, 3, none⟩ = some (.int .i64 (c.kd)) ∧ w.cell? ⟨k, 4, none⟩ = some (.int .i64 (c.bd)) ∧ w.cell? ⟨k, 5, none⟩ = some (.int .i64 (c.x)) ∧ w.cell? ⟨k, 6, none⟩ = some (.int .i64 (c.y)) ∧ w.cell? ⟨k, 7, none⟩ = some (.int .i64 (c.z)) := by
  unfold CmAt at h
  simp [World.cell?, h]
theorem CmAt.free {T : TypeId} {w : World} {k : Nat} {c : Cm} (h : CmAt T w k c) (i : Nat) : w.frozen? ⟨k, i, none⟩ = false := by unfold CmAt at h; simp [World.frozen?, h]
theorem CmAt.only {T : TypeId} {w w' : World} {k : Nat} {c : Cm} (h : CmAt T w k c) {D : List Nat} (o : Only D w w') (s : k ∉ D) : CmAt T w' k c := (o.block k h.lt s).trans h
theorem CmAt.put8 {T : TypeId} {w : World} {k : Nat} {c : Cm} (h : CmAt T w k c) (d : Cm) : CmAt T ((((((((w.setCell ⟨k, 0, none⟩ (.int .i64 (d.tk))).setCell ⟨k, 1, none⟩ (.int .i64 (d.nm))).setCell ⟨k, 2, none⟩ (.int .i64 (d.sn))).setCell ⟨k, 3, none⟩ (.int .i64 (d.kd))).setCell ⟨k, 4, none⟩ (.int .i64 (d.bd))).setCell ⟨k, 5, none⟩ (.int .i64 (d.x))).setCell ⟨k, 6, none⟩ (.int .i64 (d.y))).setCell ⟨k, 7, none⟩ (.int .i64 (d.z))) k d :=
  by
  unfold CmAt at h ⊢
  have h0 := heap_put h 0 (.int .i64 (d.tk))
  simp only [List.setIfInBounds_toArray, List.set_cons_zero, List.set_cons_succ] at h0
  have h1 := heap_put h0 1 (.int .i64 (d.nm))
  simp only [List.setIfInBounds_toArray, List.set_cons_zero, List.set_cons_succ] at h1
  have h2 := heap_put h1 2 (.int .i64 (d.sn))
  simp only [List.setIfInBounds_toArray, List.set_cons_zero, List.set_cons_succ] at h2
  have h3 := heap_put h2 3 (.int .i64 (d.kd))
  simp only [List.setIfInBounds_toArray, List.set_cons_zero, List.set_cons_succ] at h3
  have h4 := heap_put h3 4 (.int .i64 (d.bd))
  simp only [List.setIfInBounds_toArray, List.set_cons_zero, List.set_cons_succ] at h4
  have h5 := heap_put h4 5 (.int .i64 (d.x))
  simp only [List.setIfInBounds_toArray, List.set_cons_zero, List.set_cons_succ] at h5
  have h6 := heap_put h5 6 (.int .i64 (d.y))
  simp only [List.setIfInBounds_toArray, List.set_cons_zero, List.set_cons_succ] at h6
  have h7 := heap_put h6 7 (.int .i64 (d.z))
  simp only [List.setIfInBounds_toArray, List.set_cons_zero, List.set_cons_succ] at h7
  exact h7
theorem only_put {D : List Nat} {a w : World} {k : Nat} (hk : k ∈ D ∨ a.heap.size ≤ k) (h : Only D a w) (i : Nat) (v : Value) : Only D a (w.setCell ⟨k, i, none⟩ v) := h.setCell (p := ⟨k, i, none⟩) hk v
/-- Without what its kind has not. -/
def bareM (c : Cm) : Cm := ⟨c.tk, c.nm, c.sn, c.kd, if c.kd = 1 ∨ c.kd = 2 then c.bd else 0, if c.kd = 1 then c.x else 0, if c.kd = 1 then c.y else 0, if c.kd = 1 then c.z else 0⟩
/-- Which commands may be asked; their bits. -/
def askOk (c : Cm) : Prop := inM 0 70368744177664 [c.tk, c.nm, c.sn, (bareM c).bd] = true ∧ inM (-6553600) 6553600 [(bareM c).x, (bareM c).y, (bareM c).z] = true
def askT (c : Cm) : List Nat := varsB [c.tk, c.nm, c.sn] ++ putsB 2 [c.kd] ++ (if c.kd = 1 ∨ c.kd = 2 then varsB [c.bd] else []) ++ (if c.kd = 1 then intsB [c.x, c.y, c.z] else [])
def AskPost (c : Cm) (w : World) (e : Ending) (w' : World) : Prop :=
  Only [] w w' ∧ ((¬ (0 ≤ c.kd ∧ c.kd ≤ 2) ∧ e = .returned (.tuple #[.slice none 0 0, errV 1])) ∨ ((0 ≤ c.kd ∧ c.kd ≤ 2) ∧ ¬ askOk c ∧ e = .returned (.tuple #[.slice none 0 0, errV 2])) ∨ ((0 ≤ c.kd ∧ c.kd ≤ 2) ∧ askOk c ∧ ∃ v, e = .returned (.tuple #[v, .nilIface]) ∧ Fresh w v (bytesOf (askT c)) w'))
theorem fresh_base {w w1 w2 : World} {v : Value} {L : List Nat} (h : Fresh w1 v L w2) (hs : w.heap.size ≤ w1.heap.size) : Fresh w v L w2 := by
  obtain ⟨g, c, h1, h2, h3⟩ := h
  exact ⟨g, c, h1, by omega, h3⟩
theorem wwriter_zero : Try.t206.zero = some (.agg (wcells [] ++ #[.nilIface])) := by
  rw [wcells_nil]
  kernel_rfl
theorem wwriter_new (w : World) : Sem.run Try.prog (zeroValue 206) w = .ok (.agg (wcells [] ++ #[.nilIface])) w := by
  have := Try.typeInfo206 w
  simp [zeroValue, this, wwriter_zero]
theorem WA.new (w : World) : WA (w.alloc (.cells ((wcells []).push .nilIface) 206)) w.heap.size [] := ⟨(MapKept.heap_alloc w _).1.trans (by simp), Bits.nil, by simp⟩
theorem inM_all {lo hi : Int} {xs : List Int} (h : inM lo hi xs = true) : ∀ n ∈ xs, lo ≤ n ∧ n ≤ hi := fun n hn => by
  have := List.all_eq_true.1 h n hn
  simpa using this
theorem varsB_len (xs : List Int) (h : ∀ n ∈ xs, ¬ badVar n) : (varsB xs).length ≤ 78 * xs.length := flat_len _ 78 _ (fun n hn => varB_78 (by have := h n hn; unfold badVar at this; omega))
theorem top_var {xs : List Int} (h : inM 0 70368744177664 xs = true) : ∀ n ∈ xs, ¬ badVar n := fun n hn => by have := inM_all h n hn; unfold badVar; omega
end Go.Proofs.Ytedhdmahdioboaa
/- wire.Tell: whichever piece. -/
namespace Go.Proofs.Ytedhdmahdioboaa
open Go.ChangeShapes Go.WideShapes Go.ChangeAt Go.RowKit
set_option linter.unusedVariables false
set_option linter.unusedSimpArgs false

/-- A piece: four numbers, and a slice of bytes. -/
structure Pc where
  st : Int
  ba : Int
  ix : Int
  mn : Int
def PcAt (T : TypeId) (w : World) (k : Nat) (p : Pc) (v : Value) : Prop := w.heap[k]? = some (.cells #[.int .i64 (p.st), .int .i64 (p.ba), .int .i64 (p.ix), .int .i64 (p.mn), v] T)
theorem PcAt.lt {T : TypeId} {w : World} {k : Nat} {p : Pc} {v : Value} (h : PcAt T w k p v) : k < w.heap.size := (Array.getElem?_eq_some_iff.1 h).1
theorem PcAt.cells {T : TypeId} {w : World} {k : Nat} {p : Pc} {v : Value} (h : PcAt T w k p v) : w.cell? ⟨k, 0, none⟩ = some (.int .i64 (p.st)) ∧ w.cell? ⟨k, 1, none⟩ = some (.int .i64 (p.ba)) ∧ w.cell? ⟨k, 2, none⟩ = some (.int .i64 (p.ix)) ∧ w.cell? ⟨k, 3, none⟩ = some (.int .i64 (p.mn)) ∧ w.cell? ⟨k, 4, none⟩ = some v := by
  unfold PcAt at h
  simp [World.cell?, h]
theorem PcAt.free {T : TypeId} {w : World} {k : Nat} {p : Pc} {v : Value} (h : PcAt T w k p v) (i : Nat) : w.frozen? ⟨k, i, none⟩ = false := by unfold PcAt at h; simp [World.frozen?, h]
theorem PcAt.only {T : TypeId} {w w' : World} {k : Nat} {p : Pc} {v : Value} (h : PcAt T w k p v) {D : List Nat} (o : Only D w w') (s : k ∉ D) : PcAt T w' k p v := (o.block k h.lt s).trans h
def tellOk (p : Pc) (n : Nat) : Prop := (1 ≤ p.st ∧ p.st ≤ 70368744177664 ∧ 0 ≤ p.ba ∧ p.ba < p.st) ∧ (1 ≤ p.mn ∧ p.mn ≤ 40) ∧ (0 ≤ p.ix ∧ p.ix < p.mn) ∧ n ≤ 100
def tellT (p : Pc) (L : List Nat) : List Nat := varsB [p.st, p.ba] ++ putsB 6 [p.mn, p.ix] ++ putsB 7 [(L.length : Int)] ++ putsB 8 (L.map (fun c : Nat => (c : Int)))
def TellPost (p : Pc) (L : List Nat) (w : World) (e : Ending) (w' : World) : Prop :=
  Only [] w w' ∧ ((¬ tellOk p L.length ∧ e = .returned (.tuple #[.slice none 0 0, errV 1])) ∨ (tellOk p L.length ∧ ∃ v, e = .returned (.tuple #[v, .nilIface]) ∧ Fresh w v (bytesOf (tellT p L)) w'))
/-- While a piece is written: it, its bytes, and the writer. -/
structure TW (w : World) (k x : Nat) (p : Pc) (a : Option Addr) (c : Nat) (L : List Nat) (l : List Nat) (wr : World) : Prop where
  pc : PcAt 121 wr k p (.slice a L.length c)
  wa : WA wr x l
  hkx : k ≠ x
  hx : w.heap.size ≤ x
  only : Only [] w wr
theorem TW.nums {w : World} {k x : Nat} {p : Pc} {a : Option Addr} {c : Nat} {L : List Nat} {l : List Nat} {wr : World} (h : TW w k x p a c L l wr) (o : Obj) : TW w k x p a c L l (wr.alloc o) :=
  ⟨h.pc.only (D := []) ((Only.refl _ _).alloc _) (by simp), h.wa.only (D := []) ((Only.refl _ _).alloc _) (by simp), h.hkx, h.hx, h.only.alloc _⟩
theorem TW.put {w : World} {k x : Nat} {p : Pc} {a : Option Addr} {c : Nat} {L : List Nat} {l l' : List Nat} {wr w' : World} (h : TW w k x p a c L l wr) (hw : WA w' x l') (o : Only [x] wr w') : TW w k x p a c L l' w' :=
  ⟨h.pc.only o (by simpa using h.hkx), hw, h.hkx, h.hx, h.only.then o (fun b hb => by rw [List.mem_singleton.1 hb]; exact Or.inr h.hx)⟩
theorem putsB_len (wd : Nat) (xs : List Int) : (putsB wd xs).length ≤ wd * xs.length := flat_len _ wd _ (fun n _ => by rw [putB_len]; exact Nat.le_refl _)
theorem putsB_snoc {wd : Nat} {xs : List Int} {i : Nat} (h : i < xs.length) : putsB wd (xs.take (i + 1)) = putsB wd (xs.take i) ++ putsB wd [xs[i]] := by
  unfold putsB; rw [List.take_succ_eq_append_getElem h, flat_snoc]; simp
theorem map_getD (L : List Nat) (i : Nat) (h : i < L.length) : (L.map (fun c : Nat => (c : Int)))[i]'(by simpa using h) = ((L.getD i 0 : Nat) : Int) := by
  simp [List.getD_eq_getElem?_getD, List.getElem?_eq_getElem h]
set_option maxRecDepth 100000 in
set_option maxHeartbeats 4000000 in
theorem tell_calls (p : Pc) (a : Option Addr) (c : Nat) (L : List Nat) (w : World) (hs : ∀ x ∈ L, x < 256) (hL : L.length ≤ 100000) (hb : ByAt w a L) : Calls Try.prog 73 #[.agg #[.int .i64 (p.st), .int .i64 (p.ba), .int .i64 (p.ix), .int .i64 (p.mn), .slice a L.length c]] w (TellPost p L w) := by
  have hz := wwriter_new
  have HB : Hid (ByAt w a L ∧ ∀ x ∈ L, x < 256) := ⟨hb, hs⟩
  clear hb hs
  go_enter Try.func73, Try.ntmps73
  go_upto_region 1 with fail
  have H0 : Hid (PcAt 121 (w.alloc (.cells #[.int .i64 (p.st), .int .i64 (p.ba), .int .i64 (p.ix), .int .i64 (p.mn), .slice a L.length c] 121)) w.heap.size p (.slice a L.length c) ∧ Only [] w (w.alloc (.cells #[.int .i64 (p.st), .int .i64 (p.ba), .int .i64 (p.ix), .int .i64 (p.mn), .slice a L.length c] 121))) := ⟨(MapKept.heap_alloc w _).1, (Only.refl _ _).alloc _⟩
  revert H0
  generalize w.heap.size = k
  generalize World.alloc w _ = w1
  intro H0
  obtain ⟨c0, c1, c2, c3, c4⟩ := H0.out.1.cells
  go_wp2_with fail
  refine (mayFollow_calls p.st p.ba w1).mono ?_
  rintro e w2 ⟨rfl, o2⟩
  have H1 : Hid (PcAt 121 w2 k p (.slice a L.length c) ∧ Only [] w w2) := ⟨H0.out.1.only o2 (by simp), H0.out.2.trans o2⟩
  clear c0 c1 c2 c3 c4 o2 H0
  by_cases hA : 1 ≤ p.st ∧ p.st ≤ 70368744177664 ∧ 0 ≤ p.ba ∧ p.ba < p.st
  case neg =>
    rw [show followM p.st p.ba = false by unfold followM; simpa using hA]
    have HNO : Hid (¬ tellOk p L.length) := fun q => hA q.1
    go_wp2_with fail
    go_ret2
    exact ⟨H1.out.2, Or.inl ⟨HNO.out, rfl⟩⟩
  rw [show followM p.st p.ba = true by unfold followM; simpa using hA]
  have HA : Hid (1 ≤ p.st ∧ p.st ≤ 70368744177664 ∧ 0 ≤ p.ba ∧ p.ba < p.st) := hA
  clear hA
  obtain ⟨c0, c1, c2, c3, c4⟩ := H1.out.1.cells
  go_wp2_with fail
  have H2 : Hid (PcAt 121 (w2.alloc (.cells #[.int .i64 (p.mn)] 3)) k p (.slice a L.length c) ∧ Only [] w (w2.alloc (.cells #[.int .i64 (p.mn)] 3))) := ⟨H1.out.1.only (D := []) ((Only.refl _ _).alloc _) (by simp), H1.out.2.alloc _⟩
  have h0 := NumsAt.new1 w2 p.mn 3
  revert h0 H2
  generalize w2.heap.size = g
  generalize World.alloc w2 _ = w3
  intro H2 h0
  refine (within_calls 1 40 g [p.mn] _ w3 h0 (by simp)).mono ?_
  rintro e w3 ⟨rfl, rfl⟩
  clear c0 c1 c2 c3 c4 h0 H1
  by_cases hM : 1 ≤ p.mn ∧ p.mn ≤ 40
  case neg =>
    rw [show inM 1 40 [p.mn] = false by simp [inM]; omega]
    have HNO : Hid (¬ tellOk p L.length) := fun q => hM q.2.1
    go_wp2_with fail
    go_ret2
    exact ⟨H2.out.2, Or.inl ⟨HNO.out, rfl⟩⟩
  rw [show inM 1 40 [p.mn] = true by simp [inM]; omega]
  have hm0 := hM.1; have hm1 := hM.2
  obtain ⟨c0, c1, c2, c3, c4⟩ := H2.out.1.cells
  go_wp2_with fail
  have H3 : Hid (PcAt 121 (w3.alloc (.cells #[.int .i64 (p.ix)] 3)) k p (.slice a L.length c) ∧ Only [] w (w3.alloc (.cells #[.int .i64 (p.ix)] 3))) := ⟨H2.out.1.only (D := []) ((Only.refl _ _).alloc _) (by simp), H2.out.2.alloc _⟩
  have h0 := NumsAt.new1 w3 p.ix 3
  revert h0 H3
  generalize w3.heap.size = g
  generalize World.alloc w3 _ = w4
  intro H3 h0
  refine (within_calls 0 (p.mn - 1) g [p.ix] _ w4 h0 (by simp)).mono ?_
  rintro e w4 ⟨rfl, rfl⟩
  clear c0 c1 c2 c3 c4 h0 H2
  by_cases hI : 0 ≤ p.ix ∧ p.ix < p.mn
  case neg =>
    rw [show inM 0 (p.mn - 1) [p.ix] = false by simp [inM]; omega]
    have HNO : Hid (¬ tellOk p L.length) := fun q => hI q.2.2.1
    go_wp2_with fail
    go_ret2
    exact ⟨H3.out.2, Or.inl ⟨HNO.out, rfl⟩⟩
  rw [show inM 0 (p.mn - 1) [p.ix] = true by simp [inM]; omega]
  have HMI : Hid ((1 ≤ p.mn ∧ p.mn ≤ 40) ∧ (0 ≤ p.ix ∧ p.ix < p.mn)) := ⟨hM, hI⟩
  clear hM hI
  obtain ⟨c0, c1, c2, c3, c4⟩ := H3.out.1.cells
  by_cases hl : (L.length : Int) > 100
  · have d1 : decide ((L.length : Int) > 100) = true := by simpa using hl
    have HNO : Hid (¬ tellOk p L.length) := fun q => by have := q.2.2.2; omega
    go_wp2_with fail
    go_ret2
    exact ⟨H3.out.2, Or.inl ⟨HNO.out, rfl⟩⟩
  have d1 : decide ((L.length : Int) > 100) = false := by simpa using hl
  have HOK : Hid (tellOk p L.length) := ⟨HA.out, HMI.out.1, HMI.out.2, by omega⟩
  have hl2 : L.length ≤ 100 := by omega
  go_upto_region 4 with fail
  have H4 : Hid (TW w k w4.heap.size p a c L [] (w4.alloc (.cells ((wcells []).push .nilIface) 206))) :=
    ⟨H3.out.1.only (D := []) ((Only.refl _ _).alloc _) (by simp), WA.new w4, by have := H3.out.1.lt; omega, H3.out.2.size, H3.out.2.alloc _⟩
  clear c0 c1 c2 c3 c4 H3 d1 hl
  revert H4
  generalize w4.heap.size = xw
  generalize World.alloc w4 _ = w5
  intro H4
  obtain ⟨c0, c1, c2, c3, c4⟩ := H4.out.pc.cells
  go_wp2_with fail
  have HN : Hid (TW w k xw p a c L ([]) (w5.alloc (.cells #[.int .i64 (p.st), .int .i64 (p.ba)] 3))) := H4.out.nums _
  have h0 := NumsAt.new2 w5 (p.st) (p.ba) 3
  have HG : Hid (w5.heap.size ≠ xw) := fun e => by have := H4.out.wa.lt; omega
  revert h0 HN HG
  generalize w5.heap.size = g
  generalize World.alloc w5 _ = w6
  intro HN h0 HG
  refine (varsW_calls xw _ g [p.st, p.ba] _ w6 HN.out.wa h0 HG.out (fun n hn => by have := HA.out; simp at hn; unfold badVar; omega) (by simp) (by simp)).mono ?_
  rintro e w7 ⟨rfl, h1, o1⟩
  have H5 : Hid (TW w k xw p a c L ([] ++ varsB [p.st, p.ba]) w7) := HN.out.put h1 o1
  clear h0 h1 o1 HN HG c0 c1 c2 c3 c4 H4
  have HL1 : Hid (([] ++ varsB [p.st, p.ba]).length ≤ 156) := by
    show _ ≤ _
    rw [List.nil_append]
    exact varsB_len _ (fun n hn => by have := HA.out; simp at hn; unfold badVar; omega)
  obtain ⟨c0, c1, c2, c3, c4⟩ := H5.out.pc.cells
  go_wp2_with fail
  have HN : Hid (TW w k xw p a c L ([] ++ varsB [p.st, p.ba]) (w7.alloc (.cells #[.int .i64 (p.mn), .int .i64 (p.ix)] 3))) := H5.out.nums _
  have h0 := NumsAt.new2 w7 (p.mn) (p.ix) 3
  have HG : Hid (w7.heap.size ≠ xw) := fun e => by have := H5.out.wa.lt; omega
  revert h0 HN HG
  generalize w7.heap.size = g
  generalize World.alloc w7 _ = w8
  intro HN h0 HG
  refine (putsW_calls xw _ 6 g [p.mn, p.ix] _ w8 HN.out.wa h0 HG.out (fun n hn => by have := HMI.out; simp at hn; unfold badPut; simp; omega) (by have := HL1.out; simp at this ⊢; omega) (by simp)).mono ?_
  rintro e w9 ⟨rfl, h1, o1⟩
  have H6 : Hid (TW w k xw p a c L ([] ++ varsB [p.st, p.ba] ++ putsB 6 [p.mn, p.ix]) w9) := HN.out.put h1 o1
  clear h0 h1 o1 HN HG c0 c1 c2 c3 c4 H5
  have HL2 : Hid (([] ++ varsB [p.st, p.ba] ++ putsB 6 [p.mn, p.ix]).length ≤ 168) := by
    show _ ≤ _
    have := HL1.out
    have h2 := putsB_len 6 [p.mn, p.ix]
    rw [List.length_append]; simp at h2 ⊢; simp at this; omega
  obtain ⟨c0, c1, c2, c3, c4⟩ := H6.out.pc.cells
  go_wp2_with fail
  have HN : Hid (TW w k xw p a c L ([] ++ varsB [p.st, p.ba] ++ putsB 6 [p.mn, p.ix]) (w9.alloc (.cells #[.int .i64 ((L.length : Int))] 3))) := H6.out.nums _
  have h0 := NumsAt.new1 w9 ((L.length : Int)) 3
  have HG : Hid (w9.heap.size ≠ xw) := fun e => by have := H6.out.wa.lt; omega
  revert h0 HN HG
  generalize w9.heap.size = g
  generalize World.alloc w9 _ = w10
  intro HN h0 HG
  refine (putsW_calls xw _ 7 g [(L.length : Int)] _ w10 HN.out.wa h0 HG.out (fun n hn => by rw [List.mem_singleton.1 hn]; unfold badPut; simp; omega) (by have := HL2.out; simp at this ⊢; omega) (by simp)).mono ?_
  rintro e w11 ⟨rfl, h1, o1⟩
  have H7 : Hid (TW w k xw p a c L ([] ++ varsB [p.st, p.ba] ++ putsB 6 [p.mn, p.ix] ++ putsB 7 [(L.length : Int)]) w11) := HN.out.put h1 o1
  clear h0 h1 o1 HN HG c0 c1 c2 c3 c4 H6
  have HL3 : Hid (([] ++ varsB [p.st, p.ba] ++ putsB 6 [p.mn, p.ix] ++ putsB 7 [(L.length : Int)]).length ≤ 175) := by
    show _ ≤ _
    have := HL2.out
    have h2 := putsB_len 7 [(L.length : Int)]
    rw [List.length_append]; simp at h2 ⊢; simp at this; omega
  obtain ⟨l3, hl3⟩ : ∃ l3, l3 = [] ++ varsB [p.st, p.ba] ++ putsB 6 [p.mn, p.ix] ++ putsB 7 [(L.length : Int)] := ⟨_, rfl⟩
  have HE : Hid (l3 = [] ++ varsB [p.st, p.ba] ++ putsB 6 [p.mn, p.ix] ++ putsB 7 [(L.length : Int)]) := hl3
  rw [← hl3] at H7 HL3
  clear hl3 HL1 HL2
  have H8 : Hid (TW w k xw p a c L (l3 ++ putsB 8 ((L.map (fun c : Nat => (c : Int))).take 0)) w11) := by show TW w k xw p a c L (l3 ++ []) w11; rw [List.append_nil]; exact H7.out
  have hc4 := H7.out.pc.cells.2.2.2.2
  clear H7
  go_wp2_with fail
  clear hc4
  go_loopg [57] L.length (fun k' idx wr => ∃ i : Nat, idx = .int .i64 (i : Int) ∧ Hid (i ≤ L.length ∧ k' = L.length - i) ∧ Hid (TW w k xw p a c L (l3 ++ putsB 8 ((L.map (fun c : Nat => (c : Int))).take i)) wr))
  case atStart => exact ⟨0, rfl, ⟨by omega, rfl⟩, H8⟩
  case round =>
    clear H8
    obtain ⟨i, rfl, HI, HW⟩ := hrel
    by_cases hi : i < L.length
    · have hil : (i : Int) < (L.length : Int) := by omega
      obtain ⟨g0, o0, rfl, cb⟩ := (HB.out.1.only HW.out.only (by simp)) i hi
      have him : i < (L.map (fun c : Nat => (c : Int))).length := by simpa using hi
      obtain ⟨y, hy⟩ : ∃ y, y = L.getD i 0 := ⟨_, rfl⟩
      have hy256 : y < 256 := by rw [hy, List.getD_eq_getElem?_getD, List.getElem?_eq_getElem hi]; exact HB.out.2 _ (List.getElem_mem hi)
      have HS : Hid (putsB 8 ((L.map (fun c : Nat => (c : Int))).take (i + 1)) = putsB 8 ((L.map (fun c : Nat => (c : Int))).take i) ++ putsB 8 [(y : Int)]) := by show _ = _; rw [putsB_snoc him, map_getD L i hi, hy]
      have HLL : Hid ((l3 ++ putsB 8 ((L.map (fun c : Nat => (c : Int))).take i)).length ≤ 975) := by
        show _ ≤ _
        have h1 := HL3.out
        have h2 := putsB_len 8 ((L.map (fun c : Nat => (c : Int))).take i)
        have h3 : ((L.map (fun c : Nat => (c : Int))).take i).length ≤ 100 := by rw [List.length_take]; omega
        rw [List.length_append]; omega
      rw [← hy] at cb
      clear hy
      go_wp2_with fail
      have HN : Hid (TW w k xw p (some ⟨g0, o0, none⟩) c L (l3 ++ putsB 8 ((L.map (fun c : Nat => (c : Int))).take i)) (wr.alloc (.cells #[.int .i64 ((y : Int))] 3))) := HW.out.nums _
      have h0 := NumsAt.new1 wr (y : Int) 3
      have HG : Hid (wr.heap.size ≠ xw) := fun e => by have := HW.out.wa.lt; omega
      revert h0 HN HG
      generalize wr.heap.size = g
      generalize World.alloc wr _ = w12
      intro HN h0 HG
      refine (putsW_calls xw _ 8 g [(y : Int)] _ w12 HN.out.wa h0 HG.out (fun n hn => by rw [List.mem_singleton.1 hn]; unfold badPut; simp; omega) (by have := HLL.out; simp only [List.length_singleton]; omega) (by simp)).mono ?_
      rintro e w13 ⟨rfl, h1, o1⟩
      have H9 : Hid (TW w k xw p (some ⟨g0, o0, none⟩) c L (l3 ++ putsB 8 ((L.map (fun c : Nat => (c : Int))).take (i + 1))) w13) := by
        have := HN.out.put h1 o1
        rw [HS.out, ← List.append_assoc]; exact this
      clear h0 h1 o1 HN HG cb
      go_wp2_with fail
      go_roundg (L.length - (i + 1))
      case measure => have := HI.out.2; omega
      case rel => exact ⟨i + 1, by go_num, ⟨by omega, rfl⟩, H9⟩
    have hil : ¬ (i : Int) < (L.length : Int) := by omega
    have HT : Hid (tellT p L = l3 ++ putsB 8 ((L.map (fun c : Nat => (c : Int))).take i)) := by
      show _ = _
      rw [List.take_of_length_le (by simp; omega), HE.out]
      simp [tellT]
    go_wp2_with fail
    refine (allW_calls xw _ _ HW.out.wa).mono ?_
    rintro e wz ⟨v, rfl, hf, oz⟩
    have HZ : Hid (Fresh w v (bytesOf (tellT p L)) wz ∧ Only [] w wz) := ⟨by rw [HT.out]; exact fresh_base hf HW.out.only.size, HW.out.only.trans oz⟩
    clear hf oz
    go_wp2_with fail
    go_ret2
    exact ⟨HZ.out.2, Or.inr ⟨HOK.out, v, rfl, HZ.out.1⟩⟩
end Go.Proofs.Ytedhdmahdioboaa
/- wire's reader: what it reads, and whether anything was wrong: whichever bytes. -/
namespace Go.Proofs.Ytedhdmahdioboaa
open Go.ChangeShapes Go.WideShapes Go.ChangeAt Go.RowKit
set_option linter.unusedVariables false
set_option linter.unusedSimpArgs false

/-- A reader: its bits.Reader, and whether something went wrong. -/
structure RW (w : World) (kr r : Nat) (a : Option Addr) (c : Nat) (L : List Nat) (bad : Bool) (p : Nat) : Prop where
  rd : RdAt w r a c L p
  at_ : ∃ er : Nat, bad = decide (er ≠ 0) ∧ w.heap[kr]? = some (.cells #[.pointer (some ⟨r, 0, none⟩), eN er] 151)
  hkr : kr ≠ r
  apart : ∀ g o, a = some ⟨g, o, none⟩ → L ≠ [] → g ≠ kr
theorem RW.lt {w : World} {kr r : Nat} {a : Option Addr} {c : Nat} {L : List Nat} {bad : Bool} {p : Nat} (h : RW w kr r a c L bad p) : kr < w.heap.size := by
  obtain ⟨er, _, h1⟩ := h.at_
  exact (Array.getElem?_eq_some_iff.1 h1).1
theorem RW.c0 {w : World} {kr r : Nat} {a : Option Addr} {c : Nat} {L : List Nat} {bad : Bool} {p : Nat} (h : RW w kr r a c L bad p) : w.cell? ⟨kr, 0, none⟩ = some (.pointer (some ⟨r, 0, none⟩)) := by
  obtain ⟨er, _, h1⟩ := h.at_
  simp [World.cell?, h1]
theorem RW.only {w w' : World} {kr r : Nat} {a : Option Addr} {c : Nat} {L : List Nat} {bad : Bool} {p : Nat} (h : RW w kr r a c L bad p) {D : List Nat} (o : Only D w w') (h1 : kr ∉ D) (h2 : r ∉ D) (s : ∀ g o, a = some ⟨g, o, none⟩ → L ≠ [] → g ∉ D) : RW w' kr r a c L bad p := by
  obtain ⟨er, e, hc⟩ := h.at_
  exact ⟨h.rd.only o h2 s, ⟨er, e, (o.block kr h.lt h1).trans hc⟩, h.hkr, h.apart⟩
/-- Behind a call of the bits.Reader. -/
theorem RW.read {w w' : World} {kr r : Nat} {a : Option Addr} {c : Nat} {L : List Nat} {bad : Bool} {p q : Nat} (h : RW w kr r a c L bad p) (hr : RdAt w' r a c L q) (o : Only [r] w w') : RW w' kr r a c L bad q := by
  obtain ⟨er, e, hc⟩ := h.at_
  exact ⟨hr, ⟨er, e, (o.block kr h.lt (by simpa using h.hkr)).trans hc⟩, h.hkr, h.apart⟩
theorem RW.put {w : World} {kr r : Nat} {a : Option Addr} {c : Nat} {L : List Nat} {bad : Bool} {p : Nat} (h : RW w kr r a c L bad p) (er : Nat) : RW (w.setCell ⟨kr, 1, none⟩ (eN er)) kr r a c L (decide (er ≠ 0)) p := by
  obtain ⟨e0, _, hc⟩ := h.at_
  have o : Only [kr] w (w.setCell ⟨kr, 1, none⟩ (eN er)) := (Only.refl _ _).setCell (p := ⟨kr, 1, none⟩) (Or.inl (by simp)) _
  refine ⟨h.rd.only o (by simp; exact fun e => h.hkr e.symm) (fun g p e hL => by simpa using h.apart g p e hL), ⟨er, rfl, ?_⟩, h.hkr, h.apart⟩
  rw [heap_put hc]; rfl
theorem numberW_calls (kr r : Nat) (a : Option Addr) (c : Nat) (L : List Nat) (bad : Bool) (p : Nat) (n : Int) (er : Nat) (w : World) (h : RW w kr r a c L bad p) :
    Calls Try.prog 108 #[.pointer (some ⟨kr, 0, none⟩), .int .i64 n, eN er] w fun e w' => e = .returned (.int .i64 n) ∧ RW w' kr r a c L (bad || decide (er ≠ 0)) p ∧ Only [kr] w w' := by
  obtain ⟨e0, eb, hc⟩ := h.at_
  have HR : Hid (RW w kr r a c L bad p) := h
  have f1 : w.frozen? ⟨kr, 1, none⟩ = false := by simp [World.frozen?, hc]
  by_cases h0 : e0 = 0
  · have eb' : bad = false := by rw [eb, h0]; rfl
    have c1 : w.cell? ⟨kr, 1, none⟩ = some .nilIface := by simp [World.cell?, hc, h0, eN]
    have HP : Hid (RW (w.setCell ⟨kr, 1, none⟩ (eN er)) kr r a c L (bad || decide (er ≠ 0)) p ∧ Only [kr] w (w.setCell ⟨kr, 1, none⟩ (eN er))) := ⟨by rw [eb', Bool.false_or]; exact h.put er, (Only.refl _ _).setCell (p := ⟨kr, 1, none⟩) (Or.inl (by simp)) _⟩
    clear hc h eb h0 eb'
    by_cases h1 : er = 0
    · rw [h1, eN_zero] at HP ⊢
      go_enter Try.func108, Try.ntmps108
      go_wp2_with fail
      go_ret
      exact ⟨rfl, HP.out.1, HP.out.2⟩
    · rw [eN_pos h1] at HP ⊢
      clear h1
      go_enter Try.func108, Try.ntmps108
      go_wp2_with fail
      go_ret
      exact ⟨rfl, HP.out.1, HP.out.2⟩
  · have c1 : w.cell? ⟨kr, 1, none⟩ = some (.iface 62 (.int .i64 ((e0 : Int)))) := by simp [World.cell?, hc, eN_pos h0]
    have HB : Hid ((bad || decide (er ≠ 0)) = bad) := by show _ = _; rw [eb]; simp [h0]
    clear hc h eb h0
    generalize eN er = ev
    go_enter Try.func108, Try.ntmps108
    go_wp2_with fail
    go_ret
    exact ⟨rfl, by rw [HB.out]; exact HR.out, Only.refl _ _⟩
/-- Pointers into a block, at the head of a block of their own. -/
def PtrsAt (w : World) (g kc : Nat) (os : List Nat) : Prop := ∀ j (hj : j < os.length), w.cell? ⟨g, j, none⟩ = some (.pointer (some ⟨kc, os[j], none⟩))
theorem PtrsAt.only {w w' : World} {g kc : Nat} {os : List Nat} (h : PtrsAt w g kc os) {D : List Nat} (o : Only D w w') (s : g ∉ D) : PtrsAt w' g kc os := fun j hj => o.cell (h j hj) s
theorem PtrsAt.new1 (w : World) (kc o0 : Nat) (t : TypeId) : PtrsAt (w.alloc (.cells #[.pointer (some ⟨kc, o0, none⟩)] t)) w.heap.size kc [o0] := fun j hj => by
  match j, hj with
  | 0, _ => simp
theorem PtrsAt.new2 (w : World) (kc o0 o1 : Nat) (t : TypeId) : PtrsAt (w.alloc (.cells #[.pointer (some ⟨kc, o0, none⟩), .pointer (some ⟨kc, o1, none⟩)] t)) w.heap.size kc [o0, o1] := fun j hj => by
  match j, hj with
  | 0, _ => simp
  | 1, _ => simp
theorem PtrsAt.new3 (w : World) (kc o0 o1 o2 : Nat) (t : TypeId) : PtrsAt (w.alloc (.cells #[.pointer (some ⟨kc, o0, none⟩), .pointer (some ⟨kc, o1, none⟩), .pointer (some ⟨kc, o2, none⟩)] t)) w.heap.size kc [o0, o1, o2] := fun j hj => by
  match j, hj with
  | 0, _ => simp
  | 1, _ => simp
  | 2, _ => simp
/-- What is read so far: into which cells, whether anything was wrong, how far. -/
structure RS where
  A : Array Value
  bad : Bool
  p : Nat
def stepV (L : List Nat) (s : RS) (o : Nat) : RS := ⟨s.A.setIfInBounds o (.int .i64 (((numM 4611686018427387903 L s.p).2.1 : Nat))), s.bad || decide ((numM 4611686018427387903 L s.p).1 ≠ 0), (numM 4611686018427387903 L s.p).2.2⟩
def stepI (L : List Nat) (s : RS) (o : Nat) : RS := ⟨s.A.setIfInBounds o (.int .i64 ((intM L s.p).2.1)), s.bad || decide ((intM L s.p).1 ≠ 0), (intM L s.p).2.2⟩
def stepG (wd : Nat) (L : List Nat) (s : RS) (o : Nat) : RS := ⟨s.A.setIfInBounds o (.int .i64 ((getM L s.p (wd : Int)).2.1)), s.bad || decide ((getM L s.p (wd : Int)).1 ≠ 0), (getM L s.p (wd : Int)).2.2⟩
/-- A reader, and the block that it reads into. -/
structure RX (w : World) (kr r : Nat) (a : Option Addr) (c : Nat) (L : List Nat) (kc : Nat) (T : TypeId) (s : RS) : Prop where
  rw_ : RW w kr r a c L s.bad s.p
  tg : w.heap[kc]? = some (.cells s.A T)
  h1 : kc ≠ kr
  h2 : kc ≠ r
  h3 : ∀ g o, a = some ⟨g, o, none⟩ → L ≠ [] → g ≠ kc
theorem RX.lt {w : World} {kr r : Nat} {a : Option Addr} {c : Nat} {L : List Nat} {kc : Nat} {T : TypeId} {s : RS} (h : RX w kr r a c L kc T s) : kc < w.heap.size := (Array.getElem?_eq_some_iff.1 h.tg).1
theorem RX.mid {w w1 : World} {kr r : Nat} {a : Option Addr} {c : Nat} {L : List Nat} {kc : Nat} {T : TypeId} {s : RS} {b : Bool} {q : Nat} (h : RX w kr r a c L kc T s) (hr : RW w1 kr r a c L b q) (o : Only [kr, r] w w1) : RX w1 kr r a c L kc T ⟨s.A, b, q⟩ :=
  ⟨hr, (o.block kc h.lt (by simp; exact ⟨h.h1, h.h2⟩)).trans h.tg, h.h1, h.h2, h.h3⟩
theorem RX.put {w : World} {kr r : Nat} {a : Option Addr} {c : Nat} {L : List Nat} {kc : Nat} {T : TypeId} {s : RS} (h : RX w kr r a c L kc T s) (i : Nat) (v : Value) : RX (w.setCell ⟨kc, i, none⟩ v) kr r a c L kc T ⟨s.A.setIfInBounds i v, s.bad, s.p⟩ := by
  have o : Only [kc] w (w.setCell ⟨kc, i, none⟩ v) := (Only.refl _ _).setCell (p := ⟨kc, i, none⟩) (Or.inl (by simp)) _
  exact ⟨h.rw_.only o (by simp; exact fun e => h.h1 e.symm) (by simp; exact fun e => h.h2 e.symm) (fun g p e hL => by simpa using h.h3 g p e hL), heap_put h.tg _ _, h.h1, h.h2, h.h3⟩
theorem RX.only {w w' : World} {kr r : Nat} {a : Option Addr} {c : Nat} {L : List Nat} {kc : Nat} {T : TypeId} {s : RS} (h : RX w kr r a c L kc T s) (o : Only [] w w') : RX w' kr r a c L kc T s :=
  ⟨h.rw_.only o (by simp) (by simp) (by simp), (o.block kc h.lt (by simp)).trans h.tg, h.h1, h.h2, h.h3⟩
theorem foldl_size (f : RS → Nat → RS) (hf : ∀ s o, (f s o).A.size = s.A.size) (os : List Nat) (s : RS) : (os.foldl f s).A.size = s.A.size := by
  induction os generalizing s with
  | nil => rfl
  | cons o t ih => rw [List.foldl_cons, ih, hf]
theorem stepV_size (L : List Nat) (s : RS) (o : Nat) : (stepV L s o).A.size = s.A.size := by simp [stepV]
theorem stepI_size (L : List Nat) (s : RS) (o : Nat) : (stepI L s o).A.size = s.A.size := by simp [stepI]
theorem stepG_size (wd : Nat) (L : List Nat) (s : RS) (o : Nat) : (stepG wd L s o).A.size = s.A.size := by simp [stepG]
set_option maxRecDepth 100000 in
theorem varsR_calls (kr r : Nat) (a : Option Addr) (c : Nat) (L : List Nat) (kc : Nat) (T : TypeId) (s : RS) (g : Nat) (os : List Nat) (cc : Nat) (w : World) (h : RX w kr r a c L kc T s) (hp : PtrsAt w g kc os) (hg : g ≠ kr ∧ g ≠ r ∧ g ≠ kc) (ho : ∀ o ∈ os, o < s.A.size) (hl : os.length ≤ 100) :
    Calls Try.prog 70 #[.pointer (some ⟨kr, 0, none⟩), .slice (some ⟨g, 0, none⟩) os.length cc] w fun e w' => e = .returned (.tuple #[]) ∧ RX w' kr r a c L kc T (os.foldl (stepV L) s) ∧ Only [kr, r, kc] w w' := by
  have HC : Hid (PtrsAt w g kc os ∧ (g ≠ kr ∧ g ≠ r ∧ g ≠ kc) ∧ ∀ o ∈ os, o < s.A.size) := ⟨hp, hg, ho⟩
  have H0 : Hid (RX w kr r a c L kc T ((os.take 0).foldl (stepV L) s)) := h
  clear hp hg ho h
  go_enter Try.func70, Try.ntmps70
  go_wp2_with fail
  go_loopg [8] os.length (fun k' idx wr => ∃ i : Nat, idx = .int .i64 (i : Int) ∧ Hid (i ≤ os.length ∧ k' = os.length - i) ∧ Hid (RX wr kr r a c L kc T ((os.take i).foldl (stepV L) s) ∧ Only [kr, r, kc] w wr))
  case atStart => exact ⟨0, rfl, ⟨by omega, rfl⟩, ⟨H0.out, Only.refl _ _⟩⟩
  case round =>
    clear H0
    obtain ⟨i, rfl, HI, HE⟩ := hrel
    by_cases hi : i < os.length
    · have hil : (i : Int) < (os.length : Int) := by omega
      have cp := (HC.out.1.only HE.out.2 (by simp; exact HC.out.2.1)) i hi
      obtain ⟨o, hoi⟩ : ∃ o, os[i] = o := ⟨_, rfl⟩
      rw [hoi] at cp
      have hos : o < s.A.size := HC.out.2.2 o (by rw [← hoi]; exact List.getElem_mem hi)
      have HF : Hid ((os.take (i + 1)).foldl (stepV L) s = stepV L ((os.take i).foldl (stepV L) s) o) := by
        show _ = _
        rw [List.take_succ_eq_append_getElem hi, List.foldl_append, hoi]; rfl
      obtain ⟨s1, hs1⟩ : ∃ s1, s1 = (os.take i).foldl (stepV L) s := ⟨_, rfl⟩
      have hsz : s1.A.size = s.A.size := by rw [hs1]; exact foldl_size _ (stepV_size L) _ _
      rw [← hs1] at HF
      have HE1 : Hid (RX wr kr r a c L kc T s1 ∧ Only [kr, r, kc] w wr ∧ o < s1.A.size) := ⟨by rw [hs1]; exact HE.out.1, HE.out.2, by omega⟩
      clear HE hs1 hoi hos hsz
      have c0 := HE1.out.1.rw_.c0
      obtain ⟨q, hq⟩ : ∃ q, q = numM 4611686018427387903 L s1.p := ⟨_, rfl⟩
      have HQ : Hid (q = numM 4611686018427387903 L s1.p) := hq
      go_wp2_with fail
      refine (rvar_calls r a c L s1.p _ HE1.out.1.rw_.rd).mono ?_
      rw [← hq]
      rintro e w2 ⟨rfl, h2, o2⟩
      rw [show (if ((q.1 : Nat) : Int) = 0 then Value.nilIface else errV ((q.1 : Nat) : Int)) = eN q.1 from rfl]
      have H2 : Hid (RW w2 kr r a c L s1.bad q.2.2 ∧ Only [r] wr w2) := ⟨HE1.out.1.rw_.read h2 o2, o2⟩
      clear h2 o2 hq
      go_wp2_with fail
      refine (numberW_calls kr r a c L s1.bad q.2.2 ((q.2.1 : Nat) : Int) q.1 w2 H2.out.1).mono ?_
      rintro e w3 ⟨rfl, h3, o3⟩
      have H3 : Hid (RX w3 kr r a c L kc T ⟨s1.A, s1.bad || decide (q.1 ≠ 0), q.2.2⟩ ∧ Only [kr, r, kc] w w3) :=
        ⟨HE1.out.1.mid h3 ((H2.out.2.mono (by simp)).trans (o3.mono (by simp))), HE1.out.2.1.trans ((H2.out.2.mono (by simp)).trans (o3.mono (by simp)))⟩
      clear h3 o3 H2
      have hcell : ∃ u, w3.cell? ⟨kc, o, none⟩ = some u := by
        have hb := HE1.out.2.2
        exact ⟨s1.A[o], by have := H3.out.1.tg; simp [World.cell?, this, Array.getElem?_eq_getElem hb]⟩
      obtain ⟨u, hcell⟩ := hcell
      have hfr : w3.frozen? ⟨kc, o, none⟩ = false := by have := H3.out.1.tg; simp [World.frozen?, this]
      have H4 : Hid (RX (w3.setCell ⟨kc, o, none⟩ (.int .i64 (((q.2.1 : Nat) : Int)))) kr r a c L kc T ((os.take (i + 1)).foldl (stepV L) s) ∧ Only [kr, r, kc] w (w3.setCell ⟨kc, o, none⟩ (.int .i64 (((q.2.1 : Nat) : Int))))) := by
        refine ⟨?_, H3.out.2.setCell (p := ⟨kc, o, none⟩) (Or.inl (by simp)) _⟩
        have := H3.out.1.put o (.int .i64 (((q.2.1 : Nat) : Int)))
        rw [HF.out]
        unfold stepV
        rw [← HQ.out]
        exact this
      clear cp c0 H3
      go_wp2_with fail
      go_roundg (os.length - (i + 1))
      case measure => have := HI.out.2; omega
      case rel => exact ⟨i + 1, by go_num, ⟨by omega, rfl⟩, H4⟩
    have hil : ¬ (i : Int) < (os.length : Int) := by omega
    go_wp2_with fail
    refine bodyPost_end (results_none rfl _ _ _) rfl ?_
    have := HE.out
    rw [List.take_of_length_le (by omega)] at this
    exact ⟨rfl, this.1, this.2⟩
set_option maxRecDepth 100000 in
theorem getsR_calls (kr r : Nat) (a : Option Addr) (c : Nat) (L : List Nat) (kc : Nat) (T : TypeId) (s : RS) (wd : Nat) (g : Nat) (os : List Nat) (cc : Nat) (w : World) (h : RX w kr r a c L kc T s) (hp : PtrsAt w g kc os) (hg : g ≠ kr ∧ g ≠ r ∧ g ≠ kc) (ho : ∀ o ∈ os, o < s.A.size) (hl : os.length ≤ 100) :
    Calls Try.prog 71 #[.pointer (some ⟨kr, 0, none⟩), .int .i64 ((wd : Int)), .slice (some ⟨g, 0, none⟩) os.length cc] w fun e w' => e = .returned (.tuple #[]) ∧ RX w' kr r a c L kc T (os.foldl (stepG wd L) s) ∧ Only [kr, r, kc] w w' := by
  have HC : Hid (PtrsAt w g kc os ∧ (g ≠ kr ∧ g ≠ r ∧ g ≠ kc) ∧ ∀ o ∈ os, o < s.A.size) := ⟨hp, hg, ho⟩
  have H0 : Hid (RX w kr r a c L kc T ((os.take 0).foldl (stepG wd L) s)) := h
  clear hp hg ho h
  go_enter Try.func71, Try.ntmps71
  go_wp2_with fail
  go_loopg [10] os.length (fun k' idx wr => ∃ i : Nat, idx = .int .i64 (i : Int) ∧ Hid (i ≤ os.length ∧ k' = os.length - i) ∧ Hid (RX wr kr r a c L kc T ((os.take i).foldl (stepG wd L) s) ∧ Only [kr, r, kc] w wr))
  case atStart => exact ⟨0, rfl, ⟨by omega, rfl⟩, ⟨H0.out, Only.refl _ _⟩⟩
  case round =>
    clear H0
    obtain ⟨i, rfl, HI, HE⟩ := hrel
    by_cases hi : i < os.length
    · have hil : (i : Int) < (os.length : Int) := by omega
      have cp := (HC.out.1.only HE.out.2 (by simp; exact HC.out.2.1)) i hi
      obtain ⟨o, hoi⟩ : ∃ o, os[i] = o := ⟨_, rfl⟩
      rw [hoi] at cp
      have hos : o < s.A.size := HC.out.2.2 o (by rw [← hoi]; exact List.getElem_mem hi)
      have HF : Hid ((os.take (i + 1)).foldl (stepG wd L) s = stepG wd L ((os.take i).foldl (stepG wd L) s) o) := by
        show _ = _
        rw [List.take_succ_eq_append_getElem hi, List.foldl_append, hoi]; rfl
      obtain ⟨s1, hs1⟩ : ∃ s1, s1 = (os.take i).foldl (stepG wd L) s := ⟨_, rfl⟩
      have hsz : s1.A.size = s.A.size := by rw [hs1]; exact foldl_size _ (stepG_size wd L) _ _
      rw [← hs1] at HF
      have HE1 : Hid (RX wr kr r a c L kc T s1 ∧ Only [kr, r, kc] w wr ∧ o < s1.A.size) := ⟨by rw [hs1]; exact HE.out.1, HE.out.2, by omega⟩
      clear HE hs1 hoi hos hsz
      have c0 := HE1.out.1.rw_.c0
      obtain ⟨q, hq⟩ : ∃ q, q = getM L s1.p (wd : Int) := ⟨_, rfl⟩
      have HQ : Hid (q = getM L s1.p (wd : Int)) := hq
      go_wp2_with fail
      refine (get_getM r a c L s1.p (wd : Int) _ HE1.out.1.rw_.rd).mono ?_
      rw [← hq]
      rintro e w2 ⟨rfl, h2, o2⟩
      rw [show (if ((q.1 : Nat) : Int) = 0 then Value.nilIface else errV ((q.1 : Nat) : Int)) = eN q.1 from rfl]
      have H2 : Hid (RW w2 kr r a c L s1.bad q.2.2 ∧ Only [r] wr w2) := ⟨HE1.out.1.rw_.read h2 o2, o2⟩
      clear h2 o2 hq
      go_wp2_with fail
      refine (numberW_calls kr r a c L s1.bad q.2.2 q.2.1 q.1 w2 H2.out.1).mono ?_
      rintro e w3 ⟨rfl, h3, o3⟩
      have H3 : Hid (RX w3 kr r a c L kc T ⟨s1.A, s1.bad || decide (q.1 ≠ 0), q.2.2⟩ ∧ Only [kr, r, kc] w w3) :=
        ⟨HE1.out.1.mid h3 ((H2.out.2.mono (by simp)).trans (o3.mono (by simp))), HE1.out.2.1.trans ((H2.out.2.mono (by simp)).trans (o3.mono (by simp)))⟩
      clear h3 o3 H2
      have hcell : ∃ u, w3.cell? ⟨kc, o, none⟩ = some u := by
        have hb := HE1.out.2.2
        exact ⟨s1.A[o], by have := H3.out.1.tg; simp [World.cell?, this, Array.getElem?_eq_getElem hb]⟩
      obtain ⟨u, hcell⟩ := hcell
      have hfr : w3.frozen? ⟨kc, o, none⟩ = false := by have := H3.out.1.tg; simp [World.frozen?, this]
      have H4 : Hid (RX (w3.setCell ⟨kc, o, none⟩ (.int .i64 (q.2.1))) kr r a c L kc T ((os.take (i + 1)).foldl (stepG wd L) s) ∧ Only [kr, r, kc] w (w3.setCell ⟨kc, o, none⟩ (.int .i64 (q.2.1)))) := by
        refine ⟨?_, H3.out.2.setCell (p := ⟨kc, o, none⟩) (Or.inl (by simp)) _⟩
        have := H3.out.1.put o (.int .i64 (q.2.1))
        rw [HF.out]
        unfold stepG
        rw [← HQ.out]
        exact this
      clear cp c0 H3
      go_wp2_with fail
      go_roundg (os.length - (i + 1))
      case measure => have := HI.out.2; omega
      case rel => exact ⟨i + 1, by go_num, ⟨by omega, rfl⟩, H4⟩
    have hil : ¬ (i : Int) < (os.length : Int) := by omega
    go_wp2_with fail
    refine bodyPost_end (results_none rfl _ _ _) rfl ?_
    have := HE.out
    rw [List.take_of_length_le (by omega)] at this
    exact ⟨rfl, this.1, this.2⟩
end Go.Proofs.Ytedhdmahdioboaa
/- wire.Asked: whichever bytes. -/
namespace Go.Proofs.Ytedhdmahdioboaa
open Go.ChangeShapes Go.WideShapes Go.ChangeAt Go.RowKit
set_option linter.unusedVariables false
set_option linter.unusedSimpArgs false

/-! What is read of bytes, number by number. -/
def dE {β : Type} (q : Nat × β × Nat) : Bool := decide (q.1 ≠ 0)
def aV (L : List Nat) (p : Nat) : Nat × Nat × Nat := numM 4611686018427387903 L p
def a0 (L : List Nat) : Nat × Nat × Nat := aV L 0
def a1 (L : List Nat) : Nat × Nat × Nat := aV L (a0 L).2.2
def a2 (L : List Nat) : Nat × Nat × Nat := aV L (a1 L).2.2
def a3 (L : List Nat) : Nat × Int × Nat := getM L (a2 L).2.2 ((2 : Nat) : Int)
def b4 (L : List Nat) : Nat × Nat × Nat := aV L (a3 L).2.2
def b5 (L : List Nat) : Nat × Int × Nat := intM L (b4 L).2.2
def b6 (L : List Nat) : Nat × Int × Nat := intM L (b5 L).2.2
def b7 (L : List Nat) : Nat × Int × Nat := intM L (b6 L).2.2
def bad3 (L : List Nat) : Bool := dE (a0 L) || dE (a1 L) || dE (a2 L) || dE (a3 L)
def askedC (L : List Nat) : Cm :=
  if (a3 L).2.1 = 1 then ⟨(a0 L).2.1, (a1 L).2.1, (a2 L).2.1, 1, (b4 L).2.1, (b5 L).2.1, (b6 L).2.1, (b7 L).2.1⟩
  else if (a3 L).2.1 = 2 then ⟨(a0 L).2.1, (a1 L).2.1, (a2 L).2.1, 2, (b4 L).2.1, 0, 0, 0⟩ else ⟨(a0 L).2.1, (a1 L).2.1, (a2 L).2.1, (a3 L).2.1, 0, 0, 0, 0⟩
def askedB (L : List Nat) : Bool :=
  if (a3 L).2.1 = 1 then bad3 L || dE (b4 L) || dE (b5 L) || dE (b6 L) || dE (b7 L) else if (a3 L).2.1 = 2 then bad3 L || dE (b4 L) else bad3 L
def askedGood (L : List Nat) : Prop := askedB L = false ∧ (0 ≤ (askedC L).kd ∧ (askedC L).kd ≤ 2) ∧ askOk (askedC L) ∧ sameB (bytesOf (askT (askedC L))) L = true
def cmV (c : Cm) : Value := .agg #[.int .i64 (c.tk), .int .i64 (c.nm), .int .i64 (c.sn), .int .i64 (c.kd), .int .i64 (c.bd), .int .i64 (c.x), .int .i64 (c.y), .int .i64 (c.z)]
def AskedPost (L : List Nat) (w : World) (e : Ending) (w' : World) : Prop :=
  Only [] w w' ∧ ((askedGood L ∧ e = .returned (.tuple #[cmV (askedC L), .nilIface])) ∨ (¬ askedGood L ∧ e = .returned (.tuple #[cmV ⟨0, 0, 0, 0, 0, 0, 0, 0⟩, errV 3])))
section
variable {w : World} {kr r : Nat} {a : Option Addr} {c : Nat} {L : List Nat} {kc ks : Nat} {A B : Array Value} {bad bad' : Bool} {p q : Nat} {wr w' : World}
end
end Go.Proofs.Ytedhdmahdioboaa
/- wire.Told: whichever bytes. -/
namespace Go.Proofs.Ytedhdmahdioboaa
open Go.ChangeShapes Go.WideShapes Go.ChangeAt Go.RowKit
set_option linter.unusedVariables false
set_option linter.unusedSimpArgs false

/-- Bytes read one by one, whether anything was wrong, how far. -/
def bStep (L : List Nat) (t : List Nat × Bool × Nat) : List Nat × Bool × Nat := (t.1 ++ [(getM L t.2.2 8).2.1.toNat], t.2.1 || dE (getM L t.2.2 8), (getM L t.2.2 8).2.2)
def bIter (L : List Nat) (t : List Nat × Bool × Nat) : Nat → List Nat × Bool × Nat
  | 0 => t
  | i + 1 => bStep L (bIter L t i)
theorem bIter_len (L : List Nat) (t : List Nat × Bool × Nat) (i : Nat) : (bIter L t i).1.length = t.1.length + i := by
  induction i with
  | zero => rfl
  | succ i ih => simp only [bIter, bStep, List.length_append, List.length_singleton, ih]; omega
theorem bitsOf_sub (L : List Nat) (p k : Nat) : Bits (((bitsOf L).drop p).take k) := fun b hb => bitsOf_bits L b (List.mem_of_mem_drop (List.mem_of_mem_take hb))
theorem getM_range (L : List Nat) (p wd : Nat) (h : wd ≤ 62) : 0 ≤ (getM L p (wd : Int)).2.1 ∧ (getM L p (wd : Int)).2.1 < 2 ^ wd := by
  have hp : (0 : Int) < 2 ^ wd := Int.pow_pos (by decide)
  unfold getM
  split
  · exact ⟨Int.le_refl _, hp⟩
  · split
    · exact ⟨Int.le_refl _, hp⟩
    · refine ⟨by show (0 : Int) ≤ ((_ : Nat) : Int); omega, ?_⟩
      show ((valB (((bitsOf L).drop p).take (wd : Int).toNat) : Nat) : Int) < 2 ^ wd
      have h1 := valB_lt (bitsOf_sub L p (wd : Int).toNat)
      have h2 : (((bitsOf L).drop p).take (wd : Int).toNat).length ≤ wd := by rw [List.length_take]; simp; omega
      have h3 : 2 ^ (((bitsOf L).drop p).take (wd : Int).toNat).length ≤ 2 ^ wd := Nat.pow_le_pow_right (by omega) h2
      exact_mod_cast Nat.lt_of_lt_of_le h1 h3
theorem bIter_small (L : List Nat) (t : List Nat × Bool × Nat) (i : Nat) (h : ∀ x ∈ t.1, x < 256) : ∀ x ∈ (bIter L t i).1, x < 256 := by
  induction i with
  | zero => exact h
  | succ i ih =>
    intro x hx
    simp only [bIter, bStep, List.mem_append, List.mem_singleton] at hx
    rcases hx with q | q
    · exact ih x q
    · have := getM_range L (bIter L t i).2.2 8 (by omega)
      rw [q]
      have h8 : (getM L (bIter L t i).2.2 ((8 : Nat) : Int)).2.1 < 256 := this.2
      have h9 := this.1
      have : (getM L (bIter L t i).2.2 8).2.1 < 256 := h8
      omega
theorem byteInfo2 : (Try.prog.info? 5).map (fun i => (i.zero, i.size, i.bytes)) = some (some (.int .u8 0), 1, 1) := by kernel_rfl
/-- Bytes in a block, as far as they are read. -/
def Part (w : World) (gb n : Nat) (B : List Nat) : Prop := ∃ A : Array Value, w.heap[gb]? = some (.cells A 5) ∧ A.size = n ∧ ∀ j, j < B.length → A[j]? = some (.int .u8 ((B.getD j 0 : Nat) : Int))
theorem Part.lt {w : World} {gb n : Nat} {B : List Nat} (h : Part w gb n B) : gb < w.heap.size := by obtain ⟨A, h1, _⟩ := h; exact (Array.getElem?_eq_some_iff.1 h1).1
theorem Part.only {w w' : World} {gb n : Nat} {B : List Nat} (h : Part w gb n B) {D : List Nat} (o : Only D w w') (s : gb ∉ D) : Part w' gb n B := by
  obtain ⟨A, h1, h2⟩ := h
  exact ⟨A, (o.block gb (Array.getElem?_eq_some_iff.1 h1).1 s).trans h1, h2⟩
theorem Part.put {w : World} {gb n : Nat} {B : List Nat} (h : Part w gb n B) (hn : B.length < n) (y : Nat) : Part (w.setCell ⟨gb, B.length, none⟩ (.int .u8 (y : Int))) gb n (B ++ [y]) := by
  obtain ⟨A, h1, h2, h3⟩ := h
  refine ⟨_, heap_put h1 _ _, by rw [Array.size_setIfInBounds]; exact h2, fun j hj => ?_⟩
  rw [Array.getElem?_setIfInBounds, getD_snoc]
  rw [List.length_append, List.length_singleton] at hj
  by_cases e : B.length = j
  · rw [if_pos e, if_pos (by omega), if_pos (by omega)]
  · rw [if_neg e, if_neg (by omega)]
    exact h3 j (by omega)
theorem Part.cell {w : World} {gb n : Nat} {B : List Nat} (h : Part w gb n B) {j : Nat} (hj : j < n) : ∃ u, w.cell? ⟨gb, j, none⟩ = some u := by
  obtain ⟨A, h1, h2, _⟩ := h
  exact ⟨A[j], by simp [World.cell?, h1, Array.getElem?_eq_getElem (show j < A.size by omega)]⟩
theorem Part.free {w : World} {gb n : Nat} {B : List Nat} (h : Part w gb n B) (j : Nat) : w.frozen? ⟨gb, j, none⟩ = false := by
  obtain ⟨A, h1, _⟩ := h
  simp [World.frozen?, h1]
theorem Part.by {w : World} {gb n : Nat} {B : List Nat} (h : Part w gb n B) : ByAt w (some ⟨gb, 0, none⟩) B := fun j hj => by
  obtain ⟨A, h1, _, h3⟩ := h
  exact ⟨gb, 0, rfl, by simp [World.cell?, h1, h3 j hj]⟩
theorem Part.new (w : World) (n : Nat) : Part (w.alloc (.cells (madeCells #[Value.int .u8 0] n) 5)) w.heap.size n [] :=
  ⟨_, (MapKept.heap_alloc w _).1, by rw [size_madeCells], fun j hj => by simp at hj⟩
set_option maxRecDepth 100000 in
set_option maxHeartbeats 2000000 in
theorem bytesR_calls (kr r : Nat) (a : Option Addr) (c : Nat) (L : List Nat) (bad : Bool) (p n : Nat) (w : World) (h : RW w kr r a c L bad p) (hn : n ≤ 1000) :
    Calls Try.prog 72 #[.pointer (some ⟨kr, 0, none⟩), .int .i64 ((n : Int))] w fun e w' => ∃ gb, e = .returned (.slice (some ⟨gb, 0, none⟩) n n) ∧ w.heap.size ≤ gb ∧ Part w' gb n (bIter L ([], bad, p) n).1 ∧ RW w' kr r a c L (bIter L ([], bad, p) n).2.1 (bIter L ([], bad, p) n).2.2 ∧ Only [kr, r] w w' := by
  obtain ⟨i0, hi0, hz0, hz1, hz2⟩ := info_parts byteInfo2
  have HR : Hid (RW w kr r a c L bad p) := h
  have hmk := run_makeSlice (P := Try.prog) w 53 5 i0 (.int .u8 0) Try.underlying53 hi0 hz0 .i64 .i64 (n : Int) (n : Int) (by omega) (Int.le_refl _) (by rw [hz1, Int.toNat_natCast]; omega) (by rw [hz2]; omega) (by omega)
  rw [Int.toNat_natCast, hz1, Nat.mul_one] at hmk
  have hzc : (Value.int .u8 0).cells = #[Value.int .u8 0] := rfl
  rw [hzc] at hmk
  clear h hz0 hz1 hz2 hi0
  go_enter Try.func72, Try.ntmps72
  go_upto_region 2 with fail
  have H0 : Hid (Part (w.alloc (.cells (madeCells #[Value.int .u8 0] n) 5)) w.heap.size n (bIter L ([], bad, p) 0).1 ∧ RW (w.alloc (.cells (madeCells #[Value.int .u8 0] n) 5)) kr r a c L (bIter L ([], bad, p) 0).2.1 (bIter L ([], bad, p) 0).2.2 ∧ Only [kr, r] w (w.alloc (.cells (madeCells #[Value.int .u8 0] n) 5))) :=
    ⟨Part.new w n, HR.out.only (D := []) ((Only.refl _ _).alloc _) (by simp) (by simp) (by simp), (Only.refl _ _).alloc _⟩
  have HD : Hid (w.heap.size ≠ kr ∧ w.heap.size ≠ r ∧ ∀ g o, a = some ⟨g, o, none⟩ → L ≠ [] → g ≠ w.heap.size) := by
    have h1 := HR.out.lt; have h2 := HR.out.rd.lt
    refine ⟨by omega, by omega, fun g o e hL => ?_⟩
    obtain ⟨g', o', e', hc⟩ := HR.out.rd.by_ 0 (by cases L with | nil => exact absurd rfl hL | cons x t => simp)
    rw [e] at e'; injection e' with e'; injection e' with e1 _ _
    have := World.block_lt_of_cell? w _ hc
    have h3 : g' < w.heap.size := this
    omega
  have HNW : Hid (w.heap.size ≤ w.heap.size) := Nat.le_refl _
  revert H0 HD
  generalize hgb : w.heap.size = gb
  have HGB : Hid (w.heap.size ≤ gb) := Nat.le_of_eq hgb
  clear hgb hmk HNW
  generalize World.alloc w _ = w1
  intro H0 HD
  clear HR
  go_wp2_with fail
  go_loopg [11] n (fun k' idx wr => ∃ i : Nat, idx = .int .i64 (i : Int) ∧ Hid (i ≤ n ∧ k' = n - i) ∧ Hid (Part wr gb n (bIter L ([], bad, p) i).1 ∧ RW wr kr r a c L (bIter L ([], bad, p) i).2.1 (bIter L ([], bad, p) i).2.2 ∧ Only [kr, r] w wr))
  case atStart => exact ⟨0, rfl, ⟨by omega, rfl⟩, H0⟩
  case round =>
    clear H0
    obtain ⟨i, rfl, HI, HE⟩ := hrel
    by_cases hi : i < n
    · have hil : (i : Int) < (n : Int) := by omega
      obtain ⟨B, bd, q, ht⟩ : ∃ B bd q, bIter L ([], bad, p) i = (B, bd, q) := ⟨_, _, _, rfl⟩
      have HT : Hid (bIter L ([], bad, p) i = (B, bd, q) ∧ B.length = i) := ⟨ht, by have := bIter_len L ([], bad, p) i; rw [ht] at this; simpa using this⟩
      have HE1 : Hid (Part wr gb n B ∧ RW wr kr r a c L bd q ∧ Only [kr, r] w wr) := by have := HE.out; rw [ht] at this; exact this
      clear HE ht
      obtain ⟨y, hy⟩ : ∃ y, y = getM L q ((8 : Nat) : Int) := ⟨_, rfl⟩
      have hyr := getM_range L q 8 (by omega)
      rw [← hy] at hyr
      have hy0 : 0 ≤ y.2.1 := hyr.1
      have hy1 : y.2.1 < 256 := hyr.2
      obtain ⟨yn, hyn⟩ : ∃ yn : Nat, y.2.1 = (yn : Int) := ⟨y.2.1.toNat, by omega⟩
      have HS : Hid (bIter L ([], bad, p) (i + 1) = (B ++ [yn], bd || dE y, y.2.2)) := by
        show bStep L (bIter L ([], bad, p) i) = _
        rw [HT.out.1]
        unfold bStep
        show (B ++ [(getM L q ((8 : Nat) : Int)).2.1.toNat], bd || dE (getM L q ((8 : Nat) : Int)), (getM L q ((8 : Nat) : Int)).2.2) = _
        rw [← hy, hyn, Int.toNat_natCast]
      have c0 := HE1.out.2.1.c0
      have hyn1 : yn < 256 := by omega
      go_wp2_with fail
      refine (get_getM r a c L q ((8 : Nat) : Int) _ HE1.out.2.1.rd).mono ?_
      rw [← hy]
      rintro e w2 ⟨rfl, h2, o2⟩
      rw [show (if ((y.1 : Nat) : Int) = 0 then Value.nilIface else errV ((y.1 : Nat) : Int)) = eN y.1 from rfl, hyn]
      have H2 : Hid (RW w2 kr r a c L bd y.2.2 ∧ Only [r] wr w2) := ⟨HE1.out.2.1.read h2 o2, o2⟩
      clear h2 o2 hy hyn hy0 hy1 hyr
      go_wp2_with fail
      refine (numberW_calls kr r a c L bd y.2.2 (yn : Int) y.1 w2 H2.out.1).mono ?_
      rintro e w3 ⟨rfl, h3, o3⟩
      have o4 : Only [kr, r] wr w3 := (H2.out.2.mono (by simp)).trans (o3.mono (by simp))
      have H3 : Hid (Part w3 gb n B ∧ RW w3 kr r a c L (bd || dE y) y.2.2 ∧ Only [kr, r] w w3) :=
        ⟨HE1.out.1.only o4 (by simp; exact ⟨HD.out.1, HD.out.2.1⟩), h3, HE1.out.2.2.trans o4⟩
      clear h3 o3 o4 H2
      obtain ⟨u, hcell⟩ := H3.out.1.cell hi
      have hfr := H3.out.1.free i
      have H4 : Hid (Part (w3.setCell ⟨gb, i, none⟩ (.int .u8 (yn : Int))) gb n (bIter L ([], bad, p) (i + 1)).1 ∧ RW (w3.setCell ⟨gb, i, none⟩ (.int .u8 (yn : Int))) kr r a c L (bIter L ([], bad, p) (i + 1)).2.1 (bIter L ([], bad, p) (i + 1)).2.2 ∧ Only [kr, r] w (w3.setCell ⟨gb, i, none⟩ (.int .u8 (yn : Int)))) := by
        have o : Only [gb] w3 (w3.setCell ⟨gb, i, none⟩ (.int .u8 (yn : Int))) := (Only.refl _ _).setCell (p := ⟨gb, i, none⟩) (Or.inl (by simp)) _
        rw [HS.out]
        refine ⟨?_, H3.out.2.1.only o (by simp; exact fun e => HD.out.1 e.symm) (by simp; exact fun e => HD.out.2.1 e.symm) (fun g p e hL => by simpa using HD.out.2.2 g p e hL), H3.out.2.2.setCell (p := ⟨gb, i, none⟩) (Or.inr HGB.out) _⟩
        have hp := H3.out.1.put (by rw [HT.out.2]; exact hi) yn
        rw [HT.out.2] at hp
        exact hp
      clear c0 H3 HE1
      go_wp2_with fail
      go_roundg (n - (i + 1))
      case measure => have := HI.out.2; omega
      case rel => exact ⟨i + 1, by go_num, ⟨by omega, rfl⟩, H4⟩
    have hil : ¬ (i : Int) < (n : Int) := by omega
    obtain rfl : i = n := by have := HI.out.1; omega
    go_wp2_with fail
    go_ret
    exact ⟨gb, rfl, HGB.out, HE.out.1, HE.out.2.1, HE.out.2.2⟩
/-! What is told by bytes. -/
def t2 (L : List Nat) : Nat × Int × Nat := getM L (a1 L).2.2 ((6 : Nat) : Int)
def t3 (L : List Nat) : Nat × Int × Nat := getM L (t2 L).2.2 ((6 : Nat) : Int)
def t4 (L : List Nat) : Nat × Int × Nat := getM L (t3 L).2.2 ((7 : Nat) : Int)
def tb5 (L : List Nat) : Bool := dE (a0 L) || dE (a1 L) || dE (t2 L) || dE (t3 L) || dE (t4 L)
def toldN (L : List Nat) : Nat := (t4 L).2.1.toNat
def toldI (L : List Nat) (i : Nat) : List Nat × Bool × Nat := bIter L ([], tb5 L, (t4 L).2.2) i
def toldP (L : List Nat) : Pc := ⟨(a0 L).2.1, (a1 L).2.1, (t3 L).2.1, (t2 L).2.1⟩
def toldY (L : List Nat) : List Nat := (toldI L (toldN L)).1
def toldGood (L : List Nat) : Prop := (toldI L (toldN L)).2.1 = false ∧ tellOk (toldP L) (toldY L).length ∧ sameB (bytesOf (tellT (toldP L) (toldY L))) L = true
theorem toldN_lt (L : List Nat) : toldN L < 128 ∧ (t4 L).2.1 = (toldN L : Int) := by
  have := getM_range L (t3 L).2.2 7 (by omega)
  have h1 : (t4 L).2.1 < 128 := this.2
  have h2 : 0 ≤ (t4 L).2.1 := this.1
  unfold toldN
  omega
def pcV (p : Pc) (v : Value) : Value := .agg #[.int .i64 (p.st), .int .i64 (p.ba), .int .i64 (p.ix), .int .i64 (p.mn), v]
def ToldPost (L : List Nat) (w : World) (e : Ending) (w' : World) : Prop :=
  Only [] w w' ∧ ((toldGood L ∧ ∃ gb, e = .returned (.tuple #[pcV (toldP L) (.slice (some ⟨gb, 0, none⟩) (toldY L).length (toldY L).length), .nilIface]) ∧ w.heap.size ≤ gb ∧ ByAt w' (some ⟨gb, 0, none⟩) (toldY L)) ∨ (¬ toldGood L ∧ e = .returned (.tuple #[pcV ⟨0, 0, 0, 0⟩ (.slice none 0 0), errV 3])))
theorem PcAt.put5 {T : TypeId} {w : World} {k : Nat} {p : Pc} {v : Value} (h : PcAt T w k p v) (d : Pc) (u : Value) : PcAt T (((((w.setCell ⟨k, 0, none⟩ (.int .i64 (d.st))).setCell ⟨k, 1, none⟩ (.int .i64 (d.ba))).setCell ⟨k, 2, none⟩ (.int .i64 (d.ix))).setCell ⟨k, 3, none⟩ (.int .i64 (d.mn))).setCell ⟨k, 4, none⟩ u) k d u := by
  unfold PcAt at h ⊢
  have h0 := heap_put h 0 (.int .i64 (d.st))
  simp only [List.setIfInBounds_toArray, List.set_cons_zero, List.set_cons_succ] at h0
  have h1 := heap_put h0 1 (.int .i64 (d.ba))
  simp only [List.setIfInBounds_toArray, List.set_cons_zero, List.set_cons_succ] at h1
  have h2 := heap_put h1 2 (.int .i64 (d.ix))
  simp only [List.setIfInBounds_toArray, List.set_cons_zero, List.set_cons_succ] at h2
  have h3 := heap_put h2 3 (.int .i64 (d.mn))
  simp only [List.setIfInBounds_toArray, List.set_cons_zero, List.set_cons_succ] at h3
  have h4 := heap_put h3 4 u
  simp only [List.setIfInBounds_toArray, List.set_cons_zero, List.set_cons_succ] at h4
  exact h4
/-- While a piece is read. -/
structure TS (w : World) (kr r : Nat) (a : Option Addr) (c : Nat) (L : List Nat) (kc ks kl : Nat) (P : Pc) (v : Value) (n : Int) (bad : Bool) (p : Nat) (wr : World) : Prop where
  rw_ : RW wr kr r a c L bad p
  tg : PcAt 121 wr kc P v
  rs : PcAt 121 wr ks ⟨0, 0, 0, 0⟩ (.slice none 0 0)
  lg : wr.heap[kl]? = some (.cells #[.int .i64 n] 3)
  d1 : ks ≠ kr ∧ ks ≠ r ∧ ks ≠ kc ∧ ks ≠ kl
  d2 : kc ≠ kr ∧ kc ≠ r ∧ kc ≠ kl
  d3 : kl ≠ kr ∧ kl ≠ r
  d4 : ∀ g o, a = some ⟨g, o, none⟩ → L ≠ [] → g ≠ kc ∧ g ≠ kl
  n1 : w.heap.size ≤ kr ∧ w.heap.size ≤ r ∧ w.heap.size ≤ kc ∧ w.heap.size ≤ ks ∧ w.heap.size ≤ kl
  only : Only [] w wr
section
variable {w : World} {kr r : Nat} {a : Option Addr} {c : Nat} {L : List Nat} {kc ks kl : Nat} {P P' : Pc} {v v' : Value} {n n' : Int} {bad bad' : Bool} {p q : Nat} {wr w' : World}
theorem TS.keep (h : TS w kr r a c L kc ks kl P v n bad p wr) (o : Only [] wr w') : TS w kr r a c L kc ks kl P v n bad p w' :=
  ⟨h.rw_.only o (by simp) (by simp) (by simp), h.tg.only o (by simp), h.rs.only o (by simp), (o.block kl (Array.getElem?_eq_some_iff.1 h.lg).1 (by simp)).trans h.lg, h.d1, h.d2, h.d3, h.d4, h.n1, h.only.trans o⟩
theorem TS.rx (h : TS w kr r a c L kc ks kl P v n bad p wr) : RX wr kr r a c L kc 121 ⟨#[.int .i64 (P.st), .int .i64 (P.ba), .int .i64 (P.ix), .int .i64 (P.mn), v], bad, p⟩ :=
  ⟨h.rw_, h.tg, h.d2.1, h.d2.2.1, fun g o e hL => (h.d4 g o e hL).1⟩
theorem TS.rl (h : TS w kr r a c L kc ks kl P v n bad p wr) : RX wr kr r a c L kl 3 ⟨#[.int .i64 n], bad, p⟩ :=
  ⟨h.rw_, h.lg, h.d3.1, h.d3.2, fun g o e hL => (h.d4 g o e hL).2⟩
theorem TS.step {s : RS} (h : TS w kr r a c L kc ks kl P v n bad p wr) (hx : RX w' kr r a c L kc 121 s) (o : Only [kr, r, kc] wr w') (hs : s = ⟨#[.int .i64 (P'.st), .int .i64 (P'.ba), .int .i64 (P'.ix), .int .i64 (P'.mn), v'], bad', q⟩) : TS w kr r a c L kc ks kl P' v' n bad' q w' := by
  subst hs
  obtain ⟨e1, e2, e3, e4⟩ := h.d1
  obtain ⟨e5, e6, e7⟩ := h.d2
  obtain ⟨e8, e9⟩ := h.d3
  obtain ⟨m1, m2, m3, m4, m5⟩ := h.n1
  refine ⟨hx.rw_, hx.tg, h.rs.only o (by simp; exact ⟨e1, e2, e3⟩), (o.block kl (Array.getElem?_eq_some_iff.1 h.lg).1 (by simp; exact ⟨e8, e9, fun e => e7 e.symm⟩)).trans h.lg, h.d1, h.d2, h.d3, h.d4, h.n1, h.only.then o (fun b hb => ?_)⟩
  simp only [List.mem_cons, List.mem_nil_iff, or_false] at hb
  rcases hb with rfl | rfl | rfl <;> exact Or.inr (by assumption)
theorem TS.stepl {s : RS} (h : TS w kr r a c L kc ks kl P v n bad p wr) (hx : RX w' kr r a c L kl 3 s) (o : Only [kr, r, kl] wr w') (hs : s = ⟨#[.int .i64 n'], bad', q⟩) : TS w kr r a c L kc ks kl P v n' bad' q w' := by
  subst hs
  obtain ⟨e1, e2, e3, e4⟩ := h.d1
  obtain ⟨e5, e6, e7⟩ := h.d2
  obtain ⟨m1, m2, m3, m4, m5⟩ := h.n1
  refine ⟨hx.rw_, h.tg.only o (by simp; exact ⟨e5, e6, e7⟩), h.rs.only o (by simp; exact ⟨e1, e2, e4⟩), hx.tg, h.d1, h.d2, h.d3, h.d4, h.n1, h.only.then o (fun b hb => ?_)⟩
  simp only [List.mem_cons, List.mem_nil_iff, or_false] at hb
  rcases hb with rfl | rfl | rfl <;> exact Or.inr (by assumption)
theorem TS.fresh (h : TS w kr r a c L kc ks kl P v n bad p wr) : wr.heap.size ≠ kr ∧ wr.heap.size ≠ r ∧ wr.heap.size ≠ kc ∧ wr.heap.size ≠ kl := by
  have := h.rw_.lt; have := h.rw_.rd.lt; have := h.tg.lt; have := (Array.getElem?_eq_some_iff.1 h.lg).1
  omega
theorem TS.err (h : TS w kr r a c L kc ks kl P v n bad p wr) : ∃ er : Nat, bad = decide (er ≠ 0) ∧ wr.cell? ⟨kr, 1, none⟩ = some (eN er) := by
  obtain ⟨er, e, hc⟩ := h.rw_.at_
  exact ⟨er, e, by simp [World.cell?, hc]⟩
theorem TS.res (h : TS w kr r a c L kc ks kl P v n bad p wr) (d : Pc) (u : Value) : Only [] w (((((wr.setCell ⟨ks, 0, none⟩ (.int .i64 (d.st))).setCell ⟨ks, 1, none⟩ (.int .i64 (d.ba))).setCell ⟨ks, 2, none⟩ (.int .i64 (d.ix))).setCell ⟨ks, 3, none⟩ (.int .i64 (d.mn))).setCell ⟨ks, 4, none⟩ u) := by
  have hk := Or.inr (a := ks ∈ ([] : List Nat)) h.n1.2.2.2.1
  exact only_put hk (only_put hk (only_put hk (only_put hk (only_put hk h.only _ _) _ _) _ _) _ _) _ _
/-- The bytes are there. -/
theorem TS.bytes {gb m : Nat} {B : List Nat} (h : TS w kr r a c L kc ks kl P v n bad p wr) (hr : RW w' kr r a c L bad' q) (o : Only [kr, r] wr w') (u : Value) : TS w kr r a c L kc ks kl P u n bad' q (w'.setCell ⟨kc, 4, none⟩ u) := by
  obtain ⟨e1, e2, e3, e4⟩ := h.d1
  obtain ⟨e5, e6, e7⟩ := h.d2
  obtain ⟨e8, e9⟩ := h.d3
  obtain ⟨m1, m2, m3, m4, m5⟩ := h.n1
  have o2 : Only [kc] w' (w'.setCell ⟨kc, 4, none⟩ u) := (Only.refl _ _).setCell (p := ⟨kc, 4, none⟩) (Or.inl (by simp)) _
  have t1 : PcAt 121 w' kc P v := h.tg.only o (by simp; exact ⟨e5, e6⟩)
  have l1 : w'.heap[kl]? = some (.cells #[.int .i64 n] 3) := (o.block kl (Array.getElem?_eq_some_iff.1 h.lg).1 (by simp; exact ⟨e8, e9⟩)).trans h.lg
  refine ⟨hr.only o2 (by simp; exact fun e => e5 e.symm) (by simp; exact fun e => e6 e.symm) (fun g p e hL => by simpa using (h.d4 g p e hL).1), ?_, (h.rs.only o (by simp; exact ⟨e1, e2⟩)).only o2 (by simpa using e3), (o2.block kl (Array.getElem?_eq_some_iff.1 l1).1 (by simp; exact fun e => e7 e.symm)).trans l1, h.d1, h.d2, h.d3, h.d4, h.n1, (h.only.then o (fun b hb => ?_)).then o2 (fun b hb => ?_)⟩
  · have := heap_put t1 4 u
    simp only [List.setIfInBounds_toArray, List.set_cons_zero, List.set_cons_succ] at this
    exact this
  · simp only [List.mem_cons, List.mem_nil_iff, or_false] at hb
    rcases hb with rfl | rfl <;> exact Or.inr (by assumption)
  · rw [List.mem_singleton.1 hb]; exact Or.inr m3
end
set_option maxRecDepth 100000 in
set_option maxHeartbeats 8000000 in
theorem told_calls (a : Option Addr) (c : Nat) (L : List Nat) (w : World) (hl : L.length ≤ 100000) (hs : ∀ x ∈ L, x < 256) (hb : ByAt w a L) (hn : a = none → L = [] ∧ c = 0) :
    Calls Try.prog 47 #[.slice a L.length c] w (ToldPost L w) := by
  have HB : Hid (ByAt w a L ∧ (∀ x ∈ L, x < 256) ∧ (a = none → L = [] ∧ c = 0) ∧ ReadsAs w (.slice a L.length c) L) := ⟨hb, hs, hn, arg_reads hb hn⟩
  clear hb hs hn
  go_enter Try.func47, Try.ntmps47
  go_upto_region 1 with fail
  have H0 : Hid (PcAt 121 (w.alloc (.cells #[.int .i64 0, .int .i64 0, .int .i64 0, .int .i64 0, .slice none 0 0] 121)) w.heap.size ⟨0, 0, 0, 0⟩ (.slice none 0 0) ∧ Only [] w (w.alloc (.cells #[.int .i64 0, .int .i64 0, .int .i64 0, .int .i64 0, .slice none 0 0] 121))) := ⟨(MapKept.heap_alloc w _).1, (Only.refl _ _).alloc _⟩
  revert H0
  generalize hks : w.heap.size = ks
  have HKS : Hid (w.heap.size = ks) := hks
  clear hks
  generalize World.alloc w _ = w1
  intro H0
  go_wp2_with fail
  refine (readB_calls a c L w1 hl HB.out.2.1 (HB.out.1.only H0.out.2 (by simp)) HB.out.2.2.1).mono ?_
  rintro e w2 ⟨v, rfl, ⟨r, ar, cr, rfl, hr1, hr2, hr3⟩, o2⟩
  have H1 : Hid (PcAt 121 w2 ks ⟨0, 0, 0, 0⟩ (.slice none 0 0) ∧ Only [] w w2 ∧ w1.heap.size ≤ r ∧ RdAt w2 r ar cr L 0 ∧ ks < w1.heap.size ∧ w.heap.size ≤ w1.heap.size) :=
    ⟨H0.out.1.only o2 (by simp), H0.out.2.trans o2, hr1, hr2, H0.out.1.lt, H0.out.2.size⟩
  clear hr1 hr2 hr3 o2 H0
  go_upto_region 4 with fail
  have H2 : Hid (TS w w2.heap.size r ar cr L (w2.heap.size + 1) ks (w2.heap.size + 1 + 1) ⟨0, 0, 0, 0⟩ (.slice none 0 0) 0 false 0 (((w2.alloc (.cells #[.pointer (some ⟨r, 0, none⟩), .nilIface] 151)).alloc (.cells #[.int .i64 0, .int .i64 0, .int .i64 0, .int .i64 0, .slice none 0 0] 121)).alloc (.cells #[.int .i64 0] 3))) := by
    obtain ⟨p1, p2, p3, p4, p6, p7⟩ := H1.out
    have hsz := p2.size
    have hks := HKS.out
    have o : Only [] w2 (((w2.alloc (.cells #[.pointer (some ⟨r, 0, none⟩), .nilIface] 151)).alloc (.cells #[.int .i64 0, .int .i64 0, .int .i64 0, .int .i64 0, .slice none 0 0] 121)).alloc (.cells #[.int .i64 0] 3)) := (((Only.refl _ _).alloc _).alloc _).alloc _
    have hrl := p4.lt
    have hkl := p1.lt
    have hblk : ∀ g o, ar = some ⟨g, o, none⟩ → L ≠ [] → g < w2.heap.size := fun g o e hL => by
      obtain ⟨g', o', e', hc⟩ := p4.by_ 0 (by cases L with | nil => exact absurd rfl hL | cons x t => simp)
      rw [e] at e'; injection e' with e'; injection e' with e1 _ _
      rw [e1]; exact World.block_lt_of_cell? w2 _ hc
    refine ⟨⟨p4.only o (by simp) (by simp), ⟨0, rfl, ?_⟩, by omega, fun g o' e hL => by have := hblk g o' e hL; omega⟩, ?_, p1.only o (by simp), ?_, by omega, by omega, by omega, fun g o' e hL => by have := hblk g o' e hL; omega, by omega, p2.trans o⟩
    · rw [Below.heap_alloc _ _ _ (by simp; omega), Below.heap_alloc _ _ _ (by simp)]; exact (MapKept.heap_alloc w2 _).1
    · have := (MapKept.heap_alloc (w2.alloc (.cells #[.pointer (some ⟨r, 0, none⟩), .nilIface] 151)) (.cells #[.int .i64 0, .int .i64 0, .int .i64 0, .int .i64 0, .slice none 0 0] 121)).1
      unfold PcAt
      rw [Below.heap_alloc _ _ _ (by simp)]
      simpa using this
    · have := (MapKept.heap_alloc ((w2.alloc (.cells #[.pointer (some ⟨r, 0, none⟩), .nilIface] 151)).alloc (.cells #[.int .i64 0, .int .i64 0, .int .i64 0, .int .i64 0, .slice none 0 0] 121)) (.cells #[.int .i64 0] 3)).1
      simpa using this
  clear H1
  revert H2
  generalize w2.heap.size + 1 + 1 = kl
  generalize w2.heap.size + 1 = kc
  generalize w2.heap.size = kr
  generalize World.alloc (World.alloc (World.alloc w2 _) _) _ = w3
  intro H2
  go_wp2_with fail
  have HN : Hid (TS w kr r ar cr L kc ks kl ⟨0, 0, 0, 0⟩ (.slice none 0 0) 0 false 0 (w3.alloc (.cells #[.pointer (some ⟨kc, 0, none⟩), .pointer (some ⟨kc, 1, none⟩)] 153))) := H2.out.keep ((Only.refl _ _).alloc _)
  have h0 := PtrsAt.new2 w3 kc 0 1 153
  have HG : Hid (w3.heap.size ≠ kr ∧ w3.heap.size ≠ r ∧ w3.heap.size ≠ kc ∧ w3.heap.size ≠ kl) := H2.out.fresh
  revert h0 HN HG
  generalize w3.heap.size = g
  generalize World.alloc w3 _ = w3'
  intro HN h0 HG
  refine (varsR_calls kr r ar cr L kc 121 _ g [0, 1] _ w3' HN.out.rx h0 ⟨HG.out.1, HG.out.2.1, HG.out.2.2.1⟩ (by simp) (by simp)).mono ?_
  rintro e w4 ⟨rfl, h1, o1⟩
  have H3 : Hid (TS w kr r ar cr L kc ks kl ⟨(((a0 L).2.1 : Nat) : Int), (((a1 L).2.1 : Nat) : Int), 0, 0⟩ (.slice none 0 0) 0 (dE (a0 L) || dE (a1 L)) (a1 L).2.2 w4) := HN.out.step h1 o1 (by simp only [List.foldl_cons, List.foldl_nil, stepV, List.setIfInBounds_toArray, List.set_cons_zero, List.set_cons_succ, Bool.false_or]; rfl)
  clear h0 h1 o1 HN HG H2
  go_wp2_with fail
  have HN : Hid (TS w kr r ar cr L kc ks kl ⟨(((a0 L).2.1 : Nat) : Int), (((a1 L).2.1 : Nat) : Int), 0, 0⟩ (.slice none 0 0) 0 (dE (a0 L) || dE (a1 L)) (a1 L).2.2 (w4.alloc (.cells #[.pointer (some ⟨kc, 3, none⟩), .pointer (some ⟨kc, 2, none⟩)] 153))) := H3.out.keep ((Only.refl _ _).alloc _)
  have h0 := PtrsAt.new2 w4 kc 3 2 153
  have HG : Hid (w4.heap.size ≠ kr ∧ w4.heap.size ≠ r ∧ w4.heap.size ≠ kc ∧ w4.heap.size ≠ kl) := H3.out.fresh
  revert h0 HN HG
  generalize w4.heap.size = g
  generalize World.alloc w4 _ = w4'
  intro HN h0 HG
  refine (getsR_calls kr r ar cr L kc 121 _ 6 g [3, 2] _ w4' HN.out.rx h0 ⟨HG.out.1, HG.out.2.1, HG.out.2.2.1⟩ (by simp) (by simp)).mono ?_
  rintro e w5 ⟨rfl, h1, o1⟩
  have H4 : Hid (TS w kr r ar cr L kc ks kl ⟨(((a0 L).2.1 : Nat) : Int), (((a1 L).2.1 : Nat) : Int), (t3 L).2.1, (t2 L).2.1⟩ (.slice none 0 0) 0 (dE (a0 L) || dE (a1 L) || dE (t2 L) || dE (t3 L)) (t3 L).2.2 w5) := HN.out.step h1 o1 (by simp only [List.foldl_cons, List.foldl_nil, stepG, List.setIfInBounds_toArray, List.set_cons_zero, List.set_cons_succ, Bool.false_or]; rfl)
  clear h0 h1 o1 HN HG H3
  go_wp2_with fail
  have HN : Hid (TS w kr r ar cr L kc ks kl ⟨(((a0 L).2.1 : Nat) : Int), (((a1 L).2.1 : Nat) : Int), (t3 L).2.1, (t2 L).2.1⟩ (.slice none 0 0) 0 (dE (a0 L) || dE (a1 L) || dE (t2 L) || dE (t3 L)) (t3 L).2.2 (w5.alloc (.cells #[.pointer (some ⟨kl, 0, none⟩)] 153))) := H4.out.keep ((Only.refl _ _).alloc _)
  have h0 := PtrsAt.new1 w5 kl 0 153
  have HG : Hid (w5.heap.size ≠ kr ∧ w5.heap.size ≠ r ∧ w5.heap.size ≠ kc ∧ w5.heap.size ≠ kl) := H4.out.fresh
  revert h0 HN HG
  generalize w5.heap.size = g
  generalize World.alloc w5 _ = w5'
  intro HN h0 HG
  refine (getsR_calls kr r ar cr L kl 3 _ 7 g [0] _ w5' HN.out.rl h0 ⟨HG.out.1, HG.out.2.1, HG.out.2.2.2⟩ (by simp) (by simp)).mono ?_
  rintro e w6 ⟨rfl, h1, o1⟩
  have H5 : Hid (TS w kr r ar cr L kc ks kl ⟨(((a0 L).2.1 : Nat) : Int), (((a1 L).2.1 : Nat) : Int), (t3 L).2.1, (t2 L).2.1⟩ (.slice none 0 0) (t4 L).2.1 (tb5 L) (t4 L).2.2 w6) := HN.out.stepl h1 o1 (by simp only [List.foldl_cons, List.foldl_nil, stepG, List.setIfInBounds_toArray, List.set_cons_zero, List.set_cons_succ, Bool.false_or]; rfl)
  clear h0 h1 o1 HN HG H4
  obtain ⟨p, hp⟩ : ∃ p, p = toldP L := ⟨_, rfl⟩
  have HP : Hid (p = toldP L) := hp
  have hlt := (toldN_lt L).1
  obtain ⟨n, hnn⟩ : ∃ n, n = toldN L := ⟨_, rfl⟩
  have HNN : Hid (n = toldN L) := hnn
  have H6 : Hid (TS w kr r ar cr L kc ks kl p (.slice none 0 0) (n : Int) (tb5 L) (t4 L).2.2 w6) := by rw [hp, hnn, ← (toldN_lt L).2]; exact H5.out
  rw [← hnn] at hlt
  clear hp hnn H5
  have cl : w6.cell? ⟨kl, 0, none⟩ = some (.int .i64 ((n : Int))) := by have := H6.out.lg; simp [World.cell?, this]
  go_wp2_with fail
  refine (bytesR_calls kr r ar cr L (tb5 L) (t4 L).2.2 n w6 H6.out.rw_ (by omega)).mono ?_
  rintro e w7 ⟨gb, rfl, hg1, hg2, hg3, og⟩
  obtain ⟨B, bd, q, ht⟩ : ∃ B bd q, bIter L ([], tb5 L, (t4 L).2.2) n = (B, bd, q) := ⟨_, _, _, rfl⟩
  rw [ht] at hg2 hg3
  have hBn : B.length = n := by have := bIter_len L ([], tb5 L, (t4 L).2.2) n; rw [ht] at this; simpa using this
  have HT : Hid (toldI L (toldN L) = (B, bd, q) ∧ toldY L = B ∧ ∀ x ∈ B, x < 256) := by
    have e1 : toldI L (toldN L) = (B, bd, q) := by unfold toldI; rw [← HNN.out]; exact ht
    refine ⟨e1, by unfold toldY; rw [e1], ?_⟩
    have := bIter_small L ([], tb5 L, (t4 L).2.2) n (by simp)
    rw [ht] at this
    exact this
  have cc := (H6.out.tg.only og (by simp; exact ⟨H6.out.d2.1, H6.out.d2.2.1⟩)).cells.2.2.2.2
  have ff := (H6.out.tg.only og (by simp; exact ⟨H6.out.d2.1, H6.out.d2.2.1⟩)).free 4
  have H7 : Hid (TS w kr r ar cr L kc ks kl p (.slice (some ⟨gb, 0, none⟩) n n) (n : Int) bd q (w7.setCell ⟨kc, 4, none⟩ (.slice (some ⟨gb, 0, none⟩) n n)) ∧ ByAt (w7.setCell ⟨kc, 4, none⟩ (.slice (some ⟨gb, 0, none⟩) n n)) (some ⟨gb, 0, none⟩) B ∧ w.heap.size ≤ gb ∧ gb ≠ ks) := by
    have hsz := H6.out.only.size
    have hk : gb ≠ kc := fun e => by have := H6.out.tg.lt; omega
    have hk2 : gb ≠ ks := fun e => by have := H6.out.rs.lt; omega
    exact ⟨H6.out.bytes (gb := gb) (m := n) (B := B) hg3 og _, hg2.by.only ((Only.refl [kc] w7).setCell (p := ⟨kc, 4, none⟩) (Or.inl (by simp)) _) (fun g o e _ => by injection e with e; injection e with e1 _ _; simp; rw [← e1]; exact hk), by omega, hk2⟩
  clear hg1 hg2 hg3 og ht cl H6
  subst hBn
  go_upto_region 8 with fail
  clear cc ff
  generalize World.setCell w7 _ _ = w8 at H7 ⊢
  obtain ⟨c0, c1, c2, c3, c4⟩ := H7.out.1.tg.cells
  go_wp2_with fail
  refine (tell_calls p (some ⟨gb, 0, none⟩) B.length B w8 HT.out.2.2 (by omega) H7.out.2.1).mono ?_
  intro e2 wa ha
  have H9 : Hid (TS w kr r ar cr L kc ks kl p (.slice (some ⟨gb, 0, none⟩) B.length B.length) (B.length : Int) bd q wa ∧ ByAt wa (some ⟨gb, 0, none⟩) B ∧ w.heap.size ≤ gb ∧ gb ≠ ks) := ⟨H7.out.1.keep ha.1, H7.out.2.1.only ha.1 (by simp), H7.out.2.2⟩
  clear c0 c1 c2 c3 c4 H7
  have hsh : ∃ u er, e2 = .returned (.tuple #[u, eN er]) ∧ ((er = 0 ∧ tellOk p B.length ∧ ReadsAs wa u (bytesOf (tellT p B))) ∨ (er ≠ 0 ∧ ¬ tellOk p B.length)) := by
    rcases ha.2 with ⟨n, e⟩ | ⟨k, v, e, hf⟩
    · exact ⟨_, 1, e, Or.inr ⟨by decide, n⟩⟩
    · exact ⟨v, 0, e, Or.inl ⟨rfl, k, hf.reads⟩⟩
  clear ha
  obtain ⟨u, er, rfl, hcase⟩ := hsh
  have HCS : Hid ((er = 0 ∧ tellOk p B.length ∧ ReadsAs wa u (bytesOf (tellT p B))) ∨ (er ≠ 0 ∧ ¬ tellOk p B.length)) := hcase
  clear hcase
  have HGE : Hid (toldGood L = (bd = false ∧ tellOk p B.length ∧ sameB (bytesOf (tellT p B)) L = true)) := by
    show _ = _
    unfold toldGood
    rw [HT.out.1, HT.out.2.1, ← HP.out]
  obtain ⟨e9, he9, hc9⟩ := H9.out.1.err
  by_cases hz9 : e9 = 0
  case neg =>
    have HNG : Hid (¬ toldGood L) := fun q => by
      rw [HGE.out, he9] at q
      simp [hz9] at q
    rw [eN_pos hz9] at hc9
    clear hz9 he9
    obtain ⟨r0, r1, r2, r3, r4⟩ := H9.out.1.rs.cells
    have f0 := H9.out.1.rs.free 0; have f1 := H9.out.1.rs.free 1; have f2 := H9.out.1.rs.free 2; have f3 := H9.out.1.rs.free 3; have f4 := H9.out.1.rs.free 4
    have HR : Hid (PcAt 121 (((((wa.setCell ⟨ks, 0, none⟩ (.int .i64 0)).setCell ⟨ks, 1, none⟩ (.int .i64 0)).setCell ⟨ks, 2, none⟩ (.int .i64 0)).setCell ⟨ks, 3, none⟩ (.int .i64 0)).setCell ⟨ks, 4, none⟩ (.slice none 0 0)) ks ⟨0, 0, 0, 0⟩ (.slice none 0 0) ∧ Only [] w (((((wa.setCell ⟨ks, 0, none⟩ (.int .i64 0)).setCell ⟨ks, 1, none⟩ (.int .i64 0)).setCell ⟨ks, 2, none⟩ (.int .i64 0)).setCell ⟨ks, 3, none⟩ (.int .i64 0)).setCell ⟨ks, 4, none⟩ (.slice none 0 0)) ∧ ByAt (((((wa.setCell ⟨ks, 0, none⟩ (.int .i64 0)).setCell ⟨ks, 1, none⟩ (.int .i64 0)).setCell ⟨ks, 2, none⟩ (.int .i64 0)).setCell ⟨ks, 3, none⟩ (.int .i64 0)).setCell ⟨ks, 4, none⟩ (.slice none 0 0)) (some ⟨gb, 0, none⟩) B) := by
      have h5 := H9.out.1.rs.put5 ⟨0, 0, 0, 0⟩ (.slice none 0 0)
      refine ⟨h5, H9.out.1.res ⟨0, 0, 0, 0⟩ (.slice none 0 0), H9.out.2.1.only (D := [ks]) (only_put (Or.inl (by simp)) (only_put (Or.inl (by simp)) (only_put (Or.inl (by simp)) (only_put (Or.inl (by simp)) (only_put (Or.inl (by simp)) (Only.refl _ _) _ _) _ _) _ _) _ _) _ _) (fun g o e _ => ?_)⟩
      injection e with e; injection e with e1 _ _; simp; rw [← e1]; exact H9.out.2.2.2
    go_wp2_with fail
    clear r0 r1 r2 r3 r4 f0 f1 f2 f3 f4
    revert HR
    generalize World.setCell (World.setCell (World.setCell (World.setCell (World.setCell wa _ _) _ _) _ _) _ _) _ _ = wz
    intro HR
    obtain ⟨r0, r1, r2, r3, r4⟩ := HR.out.1.cells
    simp only at r0 r1 r2 r3 r4
    refine bodyPost_ret (v := .tuple #[.agg #[.int .i64 0, .int .i64 0, .int .i64 0, .int .i64 0, .slice none 0 0], .iface 62 (.int .i64 3)]) (by simp [results, Try.results47, go_sem, r0, r1, r2, r3, r4]) rfl ?_
    exact ⟨HR.out.2.1, Or.inr ⟨HNG.out, rfl⟩⟩
  have HB0 : Hid (bd = false) := by show _ = _; rw [he9, hz9]; rfl
  rw [hz9, eN_zero] at hc9
  clear hz9 he9
  by_cases hze : er = 0
  case neg =>
    have HNG : Hid (¬ toldGood L) := fun q => by
      rw [HGE.out] at q
      rcases HCS.out with q1 | q1
      · exact hze q1.1
      · exact q1.2 q.2.1
    rw [eN_pos hze]
    clear hze
    obtain ⟨r0, r1, r2, r3, r4⟩ := H9.out.1.rs.cells
    have f0 := H9.out.1.rs.free 0; have f1 := H9.out.1.rs.free 1; have f2 := H9.out.1.rs.free 2; have f3 := H9.out.1.rs.free 3; have f4 := H9.out.1.rs.free 4
    have HR : Hid (PcAt 121 (((((wa.setCell ⟨ks, 0, none⟩ (.int .i64 0)).setCell ⟨ks, 1, none⟩ (.int .i64 0)).setCell ⟨ks, 2, none⟩ (.int .i64 0)).setCell ⟨ks, 3, none⟩ (.int .i64 0)).setCell ⟨ks, 4, none⟩ (.slice none 0 0)) ks ⟨0, 0, 0, 0⟩ (.slice none 0 0) ∧ Only [] w (((((wa.setCell ⟨ks, 0, none⟩ (.int .i64 0)).setCell ⟨ks, 1, none⟩ (.int .i64 0)).setCell ⟨ks, 2, none⟩ (.int .i64 0)).setCell ⟨ks, 3, none⟩ (.int .i64 0)).setCell ⟨ks, 4, none⟩ (.slice none 0 0)) ∧ ByAt (((((wa.setCell ⟨ks, 0, none⟩ (.int .i64 0)).setCell ⟨ks, 1, none⟩ (.int .i64 0)).setCell ⟨ks, 2, none⟩ (.int .i64 0)).setCell ⟨ks, 3, none⟩ (.int .i64 0)).setCell ⟨ks, 4, none⟩ (.slice none 0 0)) (some ⟨gb, 0, none⟩) B) := by
      have h5 := H9.out.1.rs.put5 ⟨0, 0, 0, 0⟩ (.slice none 0 0)
      refine ⟨h5, H9.out.1.res ⟨0, 0, 0, 0⟩ (.slice none 0 0), H9.out.2.1.only (D := [ks]) (only_put (Or.inl (by simp)) (only_put (Or.inl (by simp)) (only_put (Or.inl (by simp)) (only_put (Or.inl (by simp)) (only_put (Or.inl (by simp)) (Only.refl _ _) _ _) _ _) _ _) _ _) _ _) (fun g o e _ => ?_)⟩
      injection e with e; injection e with e1 _ _; simp; rw [← e1]; exact H9.out.2.2.2
    go_wp2_with fail
    clear r0 r1 r2 r3 r4 f0 f1 f2 f3 f4
    revert HR
    generalize World.setCell (World.setCell (World.setCell (World.setCell (World.setCell wa _ _) _ _) _ _) _ _) _ _ = wz
    intro HR
    obtain ⟨r0, r1, r2, r3, r4⟩ := HR.out.1.cells
    simp only at r0 r1 r2 r3 r4
    refine bodyPost_ret (v := .tuple #[.agg #[.int .i64 0, .int .i64 0, .int .i64 0, .int .i64 0, .slice none 0 0], .iface 62 (.int .i64 3)]) (by simp [results, Try.results47, go_sem, r0, r1, r2, r3, r4]) rfl ?_
    exact ⟨HR.out.2.1, Or.inr ⟨HNG.out, rfl⟩⟩
  have HY : Hid (tellOk p B.length ∧ ReadsAs wa u (bytesOf (tellT p B))) := by
    rcases HCS.out with q1 | q1
    · exact q1.2
    · exact absurd hze q1.1
  rw [hze, eN_zero]
  clear hze HCS
  go_wp2_with fail
  refine (equalB_calls u _ (bytesOf (tellT p B)) L wa HY.out.2 (HB.out.2.2.2.only H9.out.1.only)).mono ?_
  rintro e wb ⟨rfl, rfl⟩
  have HCC : Hid (toldGood L ↔ sameB (bytesOf (tellT p B)) L = true) := by
    show _ ↔ _
    rw [HGE.out]
    exact ⟨fun q => q.2.2, fun q => ⟨HB0.out, HY.out.1, q⟩⟩
  obtain ⟨sb, hsb⟩ : ∃ sb, sb = sameB (bytesOf (tellT p B)) L := ⟨_, rfl⟩
  rw [← hsb] at HCC ⊢
  clear hsb
  cases sb with
  | false =>
    have HNG : Hid (¬ toldGood L) := fun q => by have := HCC.out.1 q; cases this
    obtain ⟨r0, r1, r2, r3, r4⟩ := H9.out.1.rs.cells
    have f0 := H9.out.1.rs.free 0; have f1 := H9.out.1.rs.free 1; have f2 := H9.out.1.rs.free 2; have f3 := H9.out.1.rs.free 3; have f4 := H9.out.1.rs.free 4
    have HR : Hid (PcAt 121 (((((wb.setCell ⟨ks, 0, none⟩ (.int .i64 0)).setCell ⟨ks, 1, none⟩ (.int .i64 0)).setCell ⟨ks, 2, none⟩ (.int .i64 0)).setCell ⟨ks, 3, none⟩ (.int .i64 0)).setCell ⟨ks, 4, none⟩ (.slice none 0 0)) ks ⟨0, 0, 0, 0⟩ (.slice none 0 0) ∧ Only [] w (((((wb.setCell ⟨ks, 0, none⟩ (.int .i64 0)).setCell ⟨ks, 1, none⟩ (.int .i64 0)).setCell ⟨ks, 2, none⟩ (.int .i64 0)).setCell ⟨ks, 3, none⟩ (.int .i64 0)).setCell ⟨ks, 4, none⟩ (.slice none 0 0)) ∧ ByAt (((((wb.setCell ⟨ks, 0, none⟩ (.int .i64 0)).setCell ⟨ks, 1, none⟩ (.int .i64 0)).setCell ⟨ks, 2, none⟩ (.int .i64 0)).setCell ⟨ks, 3, none⟩ (.int .i64 0)).setCell ⟨ks, 4, none⟩ (.slice none 0 0)) (some ⟨gb, 0, none⟩) B) := by
      have h5 := H9.out.1.rs.put5 ⟨0, 0, 0, 0⟩ (.slice none 0 0)
      refine ⟨h5, H9.out.1.res ⟨0, 0, 0, 0⟩ (.slice none 0 0), H9.out.2.1.only (D := [ks]) (only_put (Or.inl (by simp)) (only_put (Or.inl (by simp)) (only_put (Or.inl (by simp)) (only_put (Or.inl (by simp)) (only_put (Or.inl (by simp)) (Only.refl _ _) _ _) _ _) _ _) _ _) _ _) (fun g o e _ => ?_)⟩
      injection e with e; injection e with e1 _ _; simp; rw [← e1]; exact H9.out.2.2.2
    go_wp2_with fail
    clear r0 r1 r2 r3 r4 f0 f1 f2 f3 f4
    revert HR
    generalize World.setCell (World.setCell (World.setCell (World.setCell (World.setCell wb _ _) _ _) _ _) _ _) _ _ = wz
    intro HR
    obtain ⟨r0, r1, r2, r3, r4⟩ := HR.out.1.cells
    simp only at r0 r1 r2 r3 r4
    refine bodyPost_ret (v := .tuple #[.agg #[.int .i64 0, .int .i64 0, .int .i64 0, .int .i64 0, .slice none 0 0], .iface 62 (.int .i64 3)]) (by simp [results, Try.results47, go_sem, r0, r1, r2, r3, r4]) rfl ?_
    exact ⟨HR.out.2.1, Or.inr ⟨HNG.out, rfl⟩⟩
  | true =>
    have HGD : Hid (toldGood L) := HCC.out.2 rfl
    obtain ⟨c0, c1, c2, c3, c4⟩ := H9.out.1.tg.cells
    obtain ⟨r0, r1, r2, r3, r4⟩ := H9.out.1.rs.cells
    have f0 := H9.out.1.rs.free 0; have f1 := H9.out.1.rs.free 1; have f2 := H9.out.1.rs.free 2; have f3 := H9.out.1.rs.free 3; have f4 := H9.out.1.rs.free 4
    have HR : Hid (PcAt 121 (((((wb.setCell ⟨ks, 0, none⟩ (.int .i64 (p.st))).setCell ⟨ks, 1, none⟩ (.int .i64 (p.ba))).setCell ⟨ks, 2, none⟩ (.int .i64 (p.ix))).setCell ⟨ks, 3, none⟩ (.int .i64 (p.mn))).setCell ⟨ks, 4, none⟩ (.slice (some ⟨gb, 0, none⟩) B.length B.length)) ks ⟨p.st, p.ba, p.ix, p.mn⟩ (.slice (some ⟨gb, 0, none⟩) B.length B.length) ∧ Only [] w (((((wb.setCell ⟨ks, 0, none⟩ (.int .i64 (p.st))).setCell ⟨ks, 1, none⟩ (.int .i64 (p.ba))).setCell ⟨ks, 2, none⟩ (.int .i64 (p.ix))).setCell ⟨ks, 3, none⟩ (.int .i64 (p.mn))).setCell ⟨ks, 4, none⟩ (.slice (some ⟨gb, 0, none⟩) B.length B.length)) ∧ ByAt (((((wb.setCell ⟨ks, 0, none⟩ (.int .i64 (p.st))).setCell ⟨ks, 1, none⟩ (.int .i64 (p.ba))).setCell ⟨ks, 2, none⟩ (.int .i64 (p.ix))).setCell ⟨ks, 3, none⟩ (.int .i64 (p.mn))).setCell ⟨ks, 4, none⟩ (.slice (some ⟨gb, 0, none⟩) B.length B.length)) (some ⟨gb, 0, none⟩) B) := by
      have h5 := H9.out.1.rs.put5 ⟨p.st, p.ba, p.ix, p.mn⟩ (.slice (some ⟨gb, 0, none⟩) B.length B.length)
      refine ⟨h5, H9.out.1.res ⟨p.st, p.ba, p.ix, p.mn⟩ (.slice (some ⟨gb, 0, none⟩) B.length B.length), H9.out.2.1.only (D := [ks]) (only_put (Or.inl (by simp)) (only_put (Or.inl (by simp)) (only_put (Or.inl (by simp)) (only_put (Or.inl (by simp)) (only_put (Or.inl (by simp)) (Only.refl _ _) _ _) _ _) _ _) _ _) _ _) (fun g o e _ => ?_)⟩
      injection e with e; injection e with e1 _ _; simp; rw [← e1]; exact H9.out.2.2.2
    go_wp2_with fail
    clear r0 r1 r2 r3 r4 f0 f1 f2 f3 f4
    revert HR
    generalize World.setCell (World.setCell (World.setCell (World.setCell (World.setCell wb _ _) _ _) _ _) _ _) _ _ = wz
    intro HR
    obtain ⟨r0, r1, r2, r3, r4⟩ := HR.out.1.cells
    simp only at r0 r1 r2 r3 r4
    refine bodyPost_ret (v := .tuple #[.agg #[.int .i64 (p.st), .int .i64 (p.ba), .int .i64 (p.ix), .int .i64 (p.mn), .slice (some ⟨gb, 0, none⟩) B.length B.length], .nilIface]) (by simp [results, Try.results47, go_sem, r0, r1, r2, r3, r4]) rfl ?_
    exact ⟨HR.out.2.1, Or.inl ⟨HGD.out, gb, by rw [HT.out.2.1, ← HP.out]; rfl, H9.out.2.2.1, by rw [HT.out.2.1]; exact HR.out.2.2⟩⟩
end Go.Proofs.Ytedhdmahdioboaa
