/- All numbers of two views, rising; what a number finds: plain facts. A list of numbers that the call owns. -/
import Derived.Test.YtedhdmahdioboaaSnh
namespace Go.Proofs.Ytedhdmahdioboaa
open Go.ChangeShapes Go.WideShapes Go.ChangeAt Go.RowKit
set_option linter.unusedVariables false
set_option linter.unusedSimpArgs false

def idsM : Nat → List Sn → List Sn → List Int
  | 0, _, _ => []
  | f + 1, F, T => if F = [] ∧ T = [] then [] else lowId F T :: idsM f (takeL (lowId F T) F) (takeL (lowId F T) T)
theorem idsM_nil (f : Nat) : idsM f [] [] = [] := by cases f <;> simp [idsM]
theorem idsM_step {f : Nat} {F T : List Sn} (hn : ¬ (F = [] ∧ T = [])) : idsM (f + 1) F T = lowId F T :: idsM f (takeL (lowId F T) F) (takeL (lowId F T) T) := by rw [idsM, if_neg hn]
theorem idsM_len : ∀ (f : Nat) (F T : List Sn), (idsM f F T).length ≤ F.length + T.length := by
  intro f
  induction f with
  | zero => intro F T; simp [idsM]
  | succ f ih =>
    intro F T
    by_cases hn : F = [] ∧ T = []
    · obtain ⟨rfl, rfl⟩ := hn; simp [idsM]
    · rw [idsM_step hn, List.length_cons]
      have h1 := ih (takeL (lowId F T) F) (takeL (lowId F T) T)
      have h2 := (take_shorter hn).1
      omega
/-- Above a number both find the same. -/
def Finds (m : Int) (F F' : List Sn) : Prop := ∀ id, m < id → findS id F = findS id F' ∧ hasS id F = hasS id F'
theorem Finds.refl (m : Int) (F : List Sn) : Finds m F F := fun _ _ => ⟨rfl, rfl⟩
theorem Finds.take {m id : Int} {F F' : List Sn} (h : Finds m F F') (hm : m ≤ id) : Finds id F (takeL id F') := by
  intro k hk
  obtain ⟨h1, h2⟩ := h k (by omega)
  rw [h1, h2]
  cases F' with
  | nil => exact ⟨rfl, rfl⟩
  | cons s L =>
    by_cases e : s.id = id
    · have e1 : takeL id (s :: L) = L := by simp [takeL, e]
      have e2 : ¬ s.id = k := by omega
      rw [e1]
      simp [findS, hasS, e2]
    · have e1 : takeL id (s :: L) = s :: L := by simp [takeL, e]
      rw [e1]; exact ⟨rfl, rfl⟩
theorem ris_none {m id : Int} {L : List Sn} (h : Ris m L) (hm : id ≤ m) : findS id L = zs ∧ hasS id L = false := by
  induction L generalizing m with
  | nil => exact ⟨rfl, rfl⟩
  | cons s L ih =>
    have h1 := h.1
    have e : ¬ s.id = id := by omega
    have := ih h.2.2.2 (by omega)
    simpa [findS, hasS, e] using this
/-- What the lowest number finds is the first, or none. -/
theorem find_low {m id : Int} {F F' : List Sn} (h : Finds m F F') (hm : m < id) (hr : Ris m F') (hi : ∀ s L, F' = s :: L → id ≤ s.id) (h0 : 0 ≤ m) : findS id F = takeS id F' ∧ hasS id F = decide ((takeS id F').id ≠ 0) := by
  obtain ⟨h1, h2⟩ := h id hm
  rw [h1, h2]
  cases F' with
  | nil => exact ⟨rfl, rfl⟩
  | cons s L =>
    have h3 := hi s L rfl
    by_cases e : s.id = id
    · have e1 : takeS id (s :: L) = s := by simp [takeS, e]
      have e2 : s.id ≠ 0 := by omega
      rw [e1]
      simp [findS, hasS, e]
      omega
    · have e1 : takeS id (s :: L) = zs := by simp [takeS, e]
      have := ris_none hr.2.2.2 (id := id) (by omega)
      rw [e1]
      simp only [findS, hasS, e, if_false]
      exact ⟨this.1, by rw [this.2]; rfl⟩
/-- A list of numbers that was made since w. -/
structure IdS (w : World) (v : Value) (xs : List Int) (wr : World) : Prop where
  own : wr.ownsRow 0 3 1 v xs.length (xs.map (Value.int .i64))
  only : Only [] w wr
theorem intInfo : (Try.prog.info? 3).map (fun i => (i.zero, i.size, i.bytes)) = some (some (.int .i64 0), 1, 8) := by kernel_rfl
theorem ints_shape {w : World} {v : Value} {xs : List Int} (h : w.ownsRow 0 3 1 v xs.length (xs.map (Value.int .i64))) : ∃ a c, v = .slice a xs.length c ∧ (∀ j (hj : j < xs.length), ∃ g, a = some ⟨g, 0, none⟩ ∧ w.cell? ⟨g, j, none⟩ = some (.int .i64 (xs[j]))) := by
  obtain ⟨hlen, ⟨rfl, hx⟩ | ⟨g, cap, cur, rfl, hb, hg, hn, hc, hs, ht⟩⟩ := h
  · have : xs.length = 0 := by simpa using hx
    exact ⟨none, 0, by rw [this], fun j hj => by omega⟩
  · refine ⟨_, _, rfl, fun j hj => ⟨g, rfl, ?_⟩⟩
    have e : (cur.toList.take (xs.length * 1))[j]? = some (.int .i64 (xs[j])) := by
      rw [ht, List.getElem?_map, List.getElem?_eq_getElem hj]; rfl
    rw [List.getElem?_take] at e
    simp only [Nat.mul_one, hj, if_true] at e
    simp only [World.cell?, hg, Option.isSome_none, Bool.false_eq_true, if_false]
    rw [← e, Array.getElem?_toList]
end Go.Proofs.Ytedhdmahdioboaa
