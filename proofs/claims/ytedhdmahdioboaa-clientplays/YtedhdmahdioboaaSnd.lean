/- A step of what changes: plain facts. -/
import Derived.Test.YtedhdmahdioboaaSnc
namespace Go.Proofs.Ytedhdmahdioboaa
set_option linter.unusedVariables false
set_option linter.unusedSimpArgs false

theorem good_zs : Good zs := ⟨⟨by decide, by decide⟩, fun m hm => by
  match m, hm with
  | 0, _ => rfl
  | 1, _ => rfl
  | 2, _ => rfl
  | 3, _ => rfl
  | 4, _ => rfl
  | 5, _ => rfl
  | 6, _ => rfl
  | 7, _ => rfl
  | 8, _ => rfl
  | m + 9, h => exact absurd h (by omega)⟩
theorem ok_zs (la : Int) : Ok1 la zs := ⟨good_zs, fun _ => rfl, fun h => absurd rfl h⟩
theorem ok_take {la id : Int} {F : List Sn} (h0 : 0 ≤ la) (h : Ris la F) : Ok1 la (takeS id F) := by
  cases F with
  | nil => exact ok_zs la
  | cons s F =>
    show Ok1 la (if s.id = id then s else zs)
    split
    · exact ⟨h.2.2.1, fun e => by have := h.1; omega, fun _ => ⟨h.1, h.2.1⟩⟩
    · exact ok_zs la
theorem lowId_le {la : Int} {F T : List Sn} (hF : Ris la F) (hT : Ris la T) (hn : ¬ (F = [] ∧ T = [])) : la < lowId F T ∧ (∀ s L, F = s :: L → lowId F T ≤ s.id) ∧ (∀ s L, T = s :: L → lowId F T ≤ s.id) := by
  cases F with
  | nil =>
    cases T with
    | nil => exact absurd ⟨rfl, rfl⟩ hn
    | cons t T => exact ⟨hT.1, (fun s L e => by cases e), (fun s L e => by injection e with e1 _; rw [← e1]; exact Int.le_refl _)⟩
  | cons s F =>
    cases T with
    | nil => exact ⟨hF.1, (fun s' L e => by injection e with e1 _; rw [← e1]; exact Int.le_refl _), (fun s L e => by cases e)⟩
    | cons t T =>
      have h1 := hF.1
      have h2 := hT.1
      refine ⟨?_, fun s' L e => ?_, fun s' L e => ?_⟩
      · show la < if s.id ≤ t.id then s.id else t.id
        split <;> omega
      · injection e with e1 _; rw [← e1]; show (if s.id ≤ t.id then s.id else t.id) ≤ s.id; split <;> omega
      · injection e with e1 _; rw [← e1]; show (if s.id ≤ t.id then s.id else t.id) ≤ t.id; split <;> omega
theorem ris_take {la id : Int} {F : List Sn} (h : Ris la F) (hi : ∀ s L, F = s :: L → id ≤ s.id) : Ris id (takeL id F) := by
  cases F with
  | nil => exact trivial
  | cons s F =>
    show Ris id (if s.id = id then F else s :: F)
    have := hi s F rfl
    split
    · rename_i e; rw [← e]; exact h.2.2.2
    · exact ⟨by omega, h.2⟩
theorem takeS_id {id : Int} {F : List Sn} : (takeS id F).id = id ∨ (takeS id F).id = 0 := by
  cases F with
  | nil => exact Or.inr rfl
  | cons s F =>
    show (if s.id = id then s else zs).id = id ∨ (if s.id = id then s else zs).id = 0
    split
    · left; assumption
    · right; rfl
theorem chgL_le {la id : Int} {u v : Sn} (hla : 0 ≤ la) (h : la < id) (hu : u.id = id ∨ u.id = 0) (hv : v.id = id ∨ v.id = 0) (hu0 : u.id = 0 → u = zs) (hv0 : v.id = 0 → v = zs) : chgL la u v ≤ id ∧ 0 ≤ chgL la u v := by
  unfold chgL
  split
  · omega
  · rename_i hq
    split
    · rename_i e
      rcases hu with e1 | e1
      · omega
      · exact absurd ((eqS_iff u v).2 (by rw [hu0 e1, hv0 e])) (by simpa using hq)
    · rcases hv with e1 | e1
      · omega
      · contradiction
theorem take_shorter {F T : List Sn} (hn : ¬ (F = [] ∧ T = [])) : (takeL (lowId F T) F).length + (takeL (lowId F T) T).length < F.length + T.length ∧ (takeL (lowId F T) F).length ≤ F.length ∧ (takeL (lowId F T) T).length ≤ T.length := by
  cases F with
  | nil =>
    cases T with
    | nil => exact absurd ⟨rfl, rfl⟩ hn
    | cons t T => simp [lowId, takeL]
  | cons s F =>
    cases T with
    | nil => simp [lowId, takeL]
    | cons t T =>
      by_cases h : s.id ≤ t.id
      · have e1 : lowId (s :: F) (t :: T) = s.id := by simp [lowId, h]
        rw [e1]
        by_cases e : t.id = s.id
        · simp [takeL, e]; omega
        · simp [takeL, e]
      · have e1 : lowId (s :: F) (t :: T) = t.id := by simp [lowId, h]
        rw [e1]
        have e : ¬ s.id = t.id := by omega
        simp [takeL, e]
theorem deltaM_nil (f : Nat) (la : Int) : deltaM f [] [] la = [] := by cases f <;> simp [deltaM]
theorem deltaM_step {f : Nat} {F T : List Sn} (la : Int) (hn : ¬ (F = [] ∧ T = [])) : deltaM (f + 1) F T la = chgB la (takeS (lowId F T) F) (takeS (lowId F T) T) ++ deltaM f (takeL (lowId F T) F) (takeL (lowId F T) T) (chgL la (takeS (lowId F T) F) (takeS (lowId F T) T)) := by
  rw [deltaM, if_neg hn]
theorem viewL_getD (L : List Sn) : viewL (fun j => L.getD j zs) L.length = L := by
  apply List.ext_getElem
  · rw [viewL_len]
  · intro i h1 h2
    rw [viewL_at]
    simp [List.getD_eq_getElem?_getD, h2]
/-- Whether a view may be. -/
def rightL (L : List Sn) : Bool := rightR (fun j => L.getD j zs) L.length
theorem rightL_ris {L : List Sn} (h : rightL L = true) : Ris 0 L ∧ L.length ≤ 60 := by
  have := right_ris h
  rwa [viewL_getD] at this
def deltaT (F T : List Sn) : List Nat := deltaM (F.length + T.length) F T 0 ++ putB 3 2
end Go.Proofs.Ytedhdmahdioboaa
