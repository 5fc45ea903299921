/- snap.Right: whether a view may be: whatever the view. -/
import Derived.Test.YtedhdmahdioboaaSg3
import Derived.Test.YtedhdmahdioboaaSl2
import Derived.Deep.CutRange
import Derived.Deep.CutBlock
import Derived.MapKept
import Derived.Shelf.Abstract
namespace Go.Proofs.Ytedhdmahdioboaa
open Go.ChangeShapes Go.WideShapes Go.ChangeAt Go.RowKit
set_option linter.unusedVariables false
set_option linter.unusedSimpArgs false

/-- All of some numbers within bounds. -/
def lkB (lo hi : Int) (b : Bool) : List Int → Bool
  | [] => b
  | n :: l => lkB lo hi (b && decide (lo ≤ n) && decide (n ≤ hi)) l
def IntsIn (w : World) (g : Nat) (xs : List Int) : Prop := ∀ j (hj : j < xs.length), w.cell? ⟨g, j, none⟩ = some (.int .i64 (xs[j]))
theorem lkB_snoc (lo hi : Int) (l : List Int) (n : Int) : ∀ b, lkB lo hi b (l ++ [n]) = (lkB lo hi b l && decide (lo ≤ n) && decide (n ≤ hi)) := by
  induction l with
  | nil => intro b; rfl
  | cons m l ih => intro b; exact ih _
theorem lkB_take (lo hi : Int) (b : Bool) (xs : List Int) (i : Nat) (h : i < xs.length) : lkB lo hi b (xs.take (i + 1)) = (lkB lo hi b (xs.take i) && decide (lo ≤ xs[i]) && decide (xs[i] ≤ hi)) := by
  rw [← lkB_snoc, List.take_succ_eq_append_getElem h]
/-- While the closure runs. -/
structure LkS (w : World) (kr g : Nat) (lo hi : Int) (b : Bool) (xs : List Int) (i : Nat) (wr : World) : Prop where
  at_ : wr.heap[kr]? = some (.cells #[.bool (lkB lo hi b (xs.take i))] 4)
  ins : IntsIn wr g xs
  only : Only [kr] w wr
  ne : g ≠ kr
theorem LkS.put {w : World} {kr g : Nat} {lo hi : Int} {b : Bool} {xs : List Int} {i : Nat} {wr : World} (h : LkS w kr g lo hi b xs i wr) (hi' : i < xs.length) (c : Bool) (hc : lkB lo hi b (xs.take (i + 1)) = c) : LkS w kr g lo hi b xs (i + 1) (wr.setCell ⟨kr, 0, none⟩ (.bool c)) := by
  refine ⟨?_, fun j hj => (World.cell?_setCell_other _ _ _ _ (fun e => h.ne (by injection e with e; exact e.symm))).trans (h.ins j hj), h.only.setCell (p := ⟨kr, 0, none⟩) (Or.inl (by simp)) _, h.ne⟩
  rw [hc, heap_put h.at_]; rfl
theorem LkS.cell {w : World} {kr g : Nat} {lo hi : Int} {b : Bool} {xs : List Int} {i : Nat} {wr : World} (h : LkS w kr g lo hi b xs i wr) : wr.cell? ⟨kr, 0, none⟩ = some (.bool (lkB lo hi b (xs.take i))) := by simp [World.cell?, h.at_]
theorem LkS.free {w : World} {kr g : Nat} {lo hi : Int} {b : Bool} {xs : List Int} {i : Nat} {wr : World} (h : LkS w kr g lo hi b xs i wr) : wr.frozen? ⟨kr, 0, none⟩ = false := by simp [World.frozen?, h.at_]
set_option maxRecDepth 100000 in
theorem right1_calls (kr g c : Nat) (lo hi : Int) (b : Bool) (xs : List Int) (w : World) (hl : xs.length ≤ 1000) (hr : w.heap[kr]? = some (.cells #[.bool b] 4)) (hx : IntsIn w g xs) (hne : g ≠ kr) :
    Calls Try.prog 140 #[.int .i64 lo, .int .i64 hi, .slice (some ⟨g, 0, none⟩) xs.length c, .pointer (some ⟨kr, 0, none⟩)] w fun e w' => e = .returned (.tuple #[]) ∧ w'.heap[kr]? = some (.cells #[.bool (lkB lo hi b xs)] 4) ∧ Only [kr] w w' := by
  have HB : Hid (xs.length ≤ 1000) := hl
  have H0 : Hid (LkS w kr g lo hi b xs 0 w) := ⟨hr, hx, Only.refl _ _, hne⟩
  clear hl hr hx hne
  go_enter Try.func140, Try.ntmps140
  go_wp2_with fail
  go_loopg [11] xs.length (fun k idx wr => ∃ i : Nat, idx = .int .i64 (i : Int) ∧ Hid (i ≤ xs.length ∧ k = xs.length - i) ∧ Hid (LkS w kr g lo hi b xs i wr))
  case atStart => exact ⟨0, rfl, ⟨by omega, rfl⟩, H0⟩
  case round =>
    clear H0
    obtain ⟨i, rfl, H1, HE⟩ := hrel
    have hbl := HB.out
    by_cases hi' : i < xs.length
    · have hil : (i : Int) < (xs.length : Int) := by omega
      have hc := HE.out.ins i hi'
      have hr := HE.out.cell
      have hf := HE.out.free
      have HT : Hid (lkB lo hi b (xs.take (i + 1)) = (lkB lo hi b (xs.take i) && decide (lo ≤ xs[i]) && decide (xs[i] ≤ hi))) := lkB_take lo hi b xs i hi'
      have HL : Hid (i < xs.length) := hi'
      generalize xs[i] = n at hc HT
      generalize lkB lo hi b (xs.take i) = v at hr HT
      have hz : (0 : Nat) + i = i := Nat.zero_add i
      cases v with
      | false =>
        have HV : Hid (lkB lo hi b (xs.take (i + 1)) = false) := by show lkB lo hi b (xs.take (i + 1)) = false; rw [HT.out]; rfl
        clear HT
        go_wp2_with fail
        go_roundg (xs.length - (i + 1))
        case measure => have := H1.out.2; omega
        case rel => exact ⟨i + 1, by go_num, ⟨by omega, rfl⟩, HE.out.put HL.out _ HV.out⟩
      | true =>
        by_cases h1 : lo ≤ n
        · by_cases h2 : n ≤ hi
          · have HV : Hid (lkB lo hi b (xs.take (i + 1)) = true) := by show lkB lo hi b (xs.take (i + 1)) = true; rw [HT.out]; simp [h1, h2]
            clear HT
            have d1 : decide (lo ≤ n) = true := by simpa using h1
            have d2 : decide (n ≤ hi) = true := by simpa using h2
            go_wp2_with fail
            go_roundg (xs.length - (i + 1))
            case measure => have := H1.out.2; omega
            case rel => exact ⟨i + 1, by go_num, ⟨by omega, rfl⟩, HE.out.put HL.out _ HV.out⟩
          · have HV : Hid (lkB lo hi b (xs.take (i + 1)) = false) := by show lkB lo hi b (xs.take (i + 1)) = false; rw [HT.out]; simp [h2]
            clear HT
            have d1 : decide (lo ≤ n) = true := by simpa using h1
            have d2 : decide (n ≤ hi) = false := by simpa using h2
            go_wp2_with fail
            go_roundg (xs.length - (i + 1))
            case measure => have := H1.out.2; omega
            case rel => exact ⟨i + 1, by go_num, ⟨by omega, rfl⟩, HE.out.put HL.out _ HV.out⟩
        · have HV : Hid (lkB lo hi b (xs.take (i + 1)) = false) := by show lkB lo hi b (xs.take (i + 1)) = false; rw [HT.out]; simp [h1]
          clear HT
          have d1 : decide (lo ≤ n) = false := by simpa using h1
          go_wp2_with fail
          go_roundg (xs.length - (i + 1))
          case measure => have := H1.out.2; omega
          case rel => exact ⟨i + 1, by go_num, ⟨by omega, rfl⟩, HE.out.put HL.out _ HV.out⟩
    · have hil : ¬ (i : Int) < (xs.length : Int) := by omega
      obtain rfl : i = xs.length := by have := H1.out.1; omega
      go_wp2_with fail
      refine bodyPost_end (results_none rfl _ _ _) rfl ?_
      exact ⟨rfl, by have := HE.out.at_; rwa [List.take_length] at this, HE.out.only⟩
end Go.Proofs.Ytedhdmahdioboaa
