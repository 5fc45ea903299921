/- What a reader makes of what Delta wrote: plain facts. -/
import Derived.Test.YtedhdmahdioboaaDoorSnp
import Derived.Test.YtedhdmahdioboaaDoorRdm
namespace Go.Proofs.YtedhdmahdioboaaDoor
open Go.ChangeShapes Go.WideShapes Go.ChangeAt Go.RowKit
set_option linter.unusedVariables false
set_option linter.unusedSimpArgs false

/-- The next that is told: what lies ahead of it did not change. -/
structure Nxt (f : Nat) (F T : List Sn) (la m : Int) (P F1 T1 : List Sn) (id : Int) : Prop where
  eF : F = P ++ F1
  eT : T = P ++ T1
  low : ∀ s ∈ P, s.id < id
  ge : ∀ s L, F1 = s :: L → id ≤ s.id
  lt : m < id
  le : id ≤ 1099511627776
  ne : eqS (takeS id F1) (takeS id T1) = false
  some_ : (takeS id F1).id = id ∨ (takeS id T1).id = id
  bits : ∃ f', (takeL id F1).length + (takeL id T1).length ≤ f' ∧ deltaM f F T la = chgB la (takeS id F1) (takeS id T1) ++ deltaM f' (takeL id F1) (takeL id T1) id
  rf : Ris id (takeL id F1)
  rt : Ris id (takeL id T1)
  gF : Ok1 la (takeS id F1)
  gT : Ok1 la (takeS id T1)
  hT : T1 = (if (takeS id T1).id = 0 then [] else [takeS id T1]) ++ takeL id T1
theorem takeS_cons {id : Int} {F : List Sn} {s : Sn} (h0 : id ≠ 0) (h : takeS id F = s) (hs : s.id = id) : F = s :: takeL id F := by
  cases F with
  | nil => rw [← h] at hs; exact absurd hs.symm h0
  | cons t F =>
    by_cases e : t.id = id
    · have e1 : takeS id (t :: F) = t := by simp [takeS, e]
      rw [e1] at h
      rw [← h]
      simp [takeL, e]
    · have e1 : takeS id (t :: F) = zs := by simp [takeS, e]
      rw [← h, e1] at hs
      exact absurd hs.symm h0
theorem takeL_none {id : Int} {T : List Sn} (h0 : id ≠ 0) (h : (takeS id T).id = 0) : takeL id T = T := by
  cases T with
  | nil => rfl
  | cons t T =>
    by_cases e : t.id = id
    · have e1 : takeS id (t :: T) = t := by simp [takeS, e]
      rw [e1] at h
      omega
    · simp [takeL, e]
theorem delta_next : ∀ (f : Nat) (F T : List Sn) (la m : Int), F.length + T.length ≤ f → Ris m F → Ris m T → 0 ≤ la → la ≤ m →
    (F = T ∧ deltaM f F T la = []) ∨ ∃ P F1 T1 id, Nxt f F T la m P F1 T1 id := by
  intro f
  induction f with
  | zero =>
    intro F T la m hl _ _ _ _
    have e1 : F = [] := List.length_eq_zero_iff.1 (by omega)
    have e2 : T = [] := List.length_eq_zero_iff.1 (by omega)
    left; rw [e1, e2]; exact ⟨rfl, rfl⟩
  | succ f ih =>
    intro F T la m hl hF hT h0 hm
    by_cases hn : F = [] ∧ T = []
    · left; rw [hn.1, hn.2]; exact ⟨rfl, deltaM_nil _ _⟩
    · obtain ⟨l1, l2, l3⟩ := lowId_le hF hT hn
      have hs := low_some hn
      have sh := take_shorter hn
      have rF := ris_take hF l2
      have rT := ris_take hT l3
      have st := deltaM_step (f := f) la hn
      generalize hid : lowId F T = id at l1 l2 l3 hs sh rF rT st
      have hid0 : id ≠ 0 := by omega
      have hle : id ≤ 1099511627776 := by
        rcases hs with e | e
        · have := takeS_cons hid0 rfl e
          rw [this] at hF
          have := hF.2.1; omega
        · have := takeS_cons hid0 rfl e
          rw [this] at hT
          have := hT.2.1; omega
      have oF : Ok1 la (takeS id F) := ok_take h0 (hF.mono hm)
      have oT : Ok1 la (takeS id T) := ok_take h0 (hT.mono hm)
      cases hq : eqS (takeS id F) (takeS id T) with
      | true =>
        have he := (eqS_iff _ _).1 hq
        have hi : (takeS id F).id = id := by rcases hs with e | e; exact e; rw [he]; exact e
        have cF := takeS_cons hid0 rfl hi
        have cT := takeS_cons (s := takeS id F) hid0 he.symm hi
        have eb : chgB la (takeS id F) (takeS id T) = [] := by unfold chgB; rw [hq]; rfl
        have el : chgL la (takeS id F) (takeS id T) = la := by unfold chgL; rw [hq]; rfl
        rw [eb, el, List.nil_append] at st
        rcases ih (takeL id F) (takeL id T) la id (by omega) rF rT h0 (by omega) with ⟨e, eb⟩ | ⟨P, F1, T1, id', hx⟩
        · left
          refine ⟨?_, by rw [st, eb]⟩
          rw [cF, cT, e]
        · right
          obtain ⟨f', hf', hb⟩ := hx.bits
          refine ⟨takeS id F :: P, F1, T1, id', by rw [List.cons_append, ← hx.eF]; exact cF, by rw [List.cons_append, ← hx.eT]; exact cT, fun s hs => ?_, hx.ge, by have := hx.lt; omega, hx.le, hx.ne, hx.some_, ⟨f', hf', by rw [st, hb]⟩, hx.rf, hx.rt, hx.gF, hx.gT, hx.hT⟩
          rcases List.mem_cons.1 hs with e | e
          · rw [e, hi]; exact hx.lt
          · exact hx.low s e
      | false =>
        right
        have el : chgL la (takeS id F) (takeS id T) = id := by
          unfold chgL
          rw [hq]
          simp only [Bool.false_eq_true, if_false]
          split
          · rename_i e
            rcases hs with e1 | e1
            · exact e1
            · omega
          · rename_i e
            rcases takeS_id (id := id) (F := T) with e1 | e1
            · exact e1
            · contradiction
        rw [el] at st
        refine ⟨[], F, T, id, rfl, rfl, by simp, l2, l1, hle, hq, hs, ⟨f, by omega, st⟩, rF, rT, oF, oT, ?_⟩
        rcases takeS_id (id := id) (F := T) with e1 | e1
        · rw [if_neg (by omega)]; exact takeS_cons hid0 rfl e1
        · rw [if_pos e1, takeL_none hid0 e1]; rfl
/-- Three numbers. -/
def vec3 (L : List Nat) (p : Nat) : Int × Int × Int := ((intM L p).2.1, (intM L (intM L p).2.2).2.1, (intM L (intM L (intM L p).2.2).2.2).2.1)
def vecE (L : List Nat) (p : Nat) : Bool := decide ((intM L p).1 ≠ 0) || decide ((intM L (intM L p).2.2).1 ≠ 0) || decide ((intM L (intM L (intM L p).2.2).2.2).1 ≠ 0)
def vecP (L : List Nat) (p : Nat) : Nat := (intM L (intM L (intM L p).2.2).2.2).2.2
theorem vec_at {L a c : List Nat} {x y z : Int} {p : Nat} (h : bitsOf L = a ++ vecB x y z ++ c) (hp : p = a.length) (hx : ¬ badInt x) (hy : ¬ badInt y) (hz : ¬ badInt z) : vec3 L p = (x, y, z) ∧ vecE L p = false ∧ vecP L p = (a ++ vecB x y z).length := by
  unfold vecB at h ⊢
  have h1 := iM_at (c := varB (codeM y) ++ varB (codeM z) ++ c) (by rw [h]; simp only [List.append_assoc]) hp hx
  have h2 := iM_at (a := a ++ varB (codeM x)) (c := varB (codeM z) ++ c) (p := (a ++ varB (codeM x)).length) (by rw [h]; simp only [List.append_assoc]) rfl hy
  have h3 := iM_at (a := a ++ varB (codeM x) ++ varB (codeM y)) (c := c) (p := (a ++ varB (codeM x) ++ varB (codeM y)).length) (by rw [h]; simp only [List.append_assoc]) rfl hz
  unfold vec3 vecE vecP
  rw [h1]
  simp only
  rw [h2]
  simp only
  rw [h3]
  refine ⟨rfl, rfl, ?_⟩
  simp only [List.append_assoc]
theorem wrap_far {a b : Int} (h : farB a = true) (k : farB b = true) : wrap64 (b + (a - b)) = a := by
  simp only [farB, Bool.not_eq_true', Bool.or_eq_false_iff, decide_eq_false_iff_not] at h k
  unfold wrap64; omega
end Go.Proofs.YtedhdmahdioboaaDoor
