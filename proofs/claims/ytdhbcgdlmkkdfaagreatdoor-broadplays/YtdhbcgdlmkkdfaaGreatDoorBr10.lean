/- What hangs in a tree, in whatever order; how high a levelled tree is; which boxes meet: plain facts on trees, no Go text. -/
import Derived.Test.YtdhbcgdlmkkdfaaGreatDoorBr9
namespace Go.Proofs.YtdhbcgdlmkkdfaaGreatDoor
set_option linter.unusedVariables false
set_option linter.unusedSimpArgs false

structure Lf where
  b : Nat
  id : Int
  box : Bx
  room : Bx
def Tr.leaves : Tr → List Lf
  | ⟨b, .inl (id, box, room)⟩ => [⟨b, id, box, room⟩]
  | ⟨_, .inr (l, r)⟩ => l.leaves ++ r.leaves
theorem rot_leaves (n : Nat) (s : Tr) (tb : Nat) (kl kr : Tr) : (rot n s (.node tb kl kr)).leaves.Perm (s.leaves ++ (Tr.node tb kl kr).leaves) := by
  unfold rot; simp only; split
  · simp only [Tr.leaves, List.append_assoc]; exact List.Perm.refl _
  · simp only [Tr.leaves, List.append_assoc]; exact List.Perm.append_left _ List.perm_append_comm
theorem levelT_leaves (n : Nat) (l r : Tr) : (levelT n l r).leaves.Perm (l.leaves ++ r.leaves) := by
  have pl := high_nonneg l; have pr := high_nonneg r
  unfold levelT
  split
  · split
    · exact List.Perm.refl _
    · cases r using Tr.cs with
      | leaf => simp only [Tr.high] at *; omega
      | node tb kl kr => exact rot_leaves ..
  · split
    · exact List.Perm.refl _
    · cases l using Tr.cs with
      | leaf => simp only [Tr.high] at *; omega
      | node tb kl kr => exact (rot_leaves ..).trans List.perm_append_comm
theorem lev_leaves (f : Fr) (T : Tr) : (f.lev T).leaves.Perm (T.leaves ++ f.sib.leaves) := by
  unfold Fr.lev; split
  · exact levelT_leaves ..
  · exact (levelT_leaves ..).trans List.perm_append_comm
theorem fill_leaves (f : Fr) (T : Tr) : (f.fill T).leaves.Perm (T.leaves ++ f.sib.leaves) := by
  unfold Fr.fill; split
  · exact List.Perm.refl _
  · exact List.perm_append_comm
def cleaves : List Fr → List Lf
  | [] => []
  | f :: c => f.sib.leaves ++ cleaves c
theorem plug_leaves : ∀ (c : List Fr) (T : Tr), (plug c T).leaves.Perm (T.leaves ++ cleaves c)
  | [], T => by simp [plug, cleaves]
  | f :: c, T => by
    refine (plug_leaves c (f.fill T)).trans ((List.Perm.append_right _ (fill_leaves f T)).trans ?_)
    simp only [cleaves, List.append_assoc]; exact List.Perm.refl _
theorem mendT_leaves : ∀ (c : List Fr) (T : Tr), (mendT c T).leaves.Perm (T.leaves ++ cleaves c)
  | [], T => by simp [mendT, cleaves]
  | f :: c, T => by
    refine (mendT_leaves c (f.lev T)).trans ((List.Perm.append_right _ (lev_leaves f T)).trans ?_)
    simp only [cleaves, List.append_assoc]; exact List.Perm.refl _
theorem mendT_blocks : ∀ (c : List Fr) (T : Tr), (mendT c T).blocks.Perm (T.blocks ++ cblocks c)
  | [], T => by simp [mendT, cblocks]
  | f :: c, T => by
    refine (mendT_blocks c (f.lev T)).trans ((List.Perm.append_right _ (lev_blocks f T)).trans ?_)
    simp only [cblocks, List.cons_append, List.append_assoc]; grind

/-- Levelled: at each joint the two differ by at most 1. -/
def Bal : Tr → Prop
  | ⟨_, .inl (_, _, _)⟩ => True
  | ⟨_, .inr (l, r)⟩ => Bal l ∧ Bal r ∧ l.high ≤ r.high + 1 ∧ r.high ≤ l.high + 1
theorem greater_cases (a b : Int) : (greater a b = a ∧ b ≤ a) ∨ (greater a b = b ∧ a ≤ b) := by unfold greater; split <;> omega
theorem bal_plug : ∀ (c : List Fr) (T : Tr), Bal (plug c T) → Bal T
  | [], T, h => h
  | f :: c, T, h => by
    have := bal_plug c (f.fill T) h
    unfold Fr.fill at this; split at this
    · exact this.1
    · exact this.2.1
theorem rot_bal (n : Nat) (s : Tr) (tb : Nat) (kl kr : Tr) (hs : Bal s) (ht : Bal (.node tb kl kr)) (h : (Tr.node tb kl kr).high = s.high + 2) :
    Bal (rot n s (.node tb kl kr)) ∧ s.high + 2 ≤ (rot n s (.node tb kl kr)).high ∧ (rot n s (.node tb kl kr)).high ≤ s.high + 3 := by
  obtain ⟨hk, hr, d1, d2⟩ := ht
  simp only [Tr.high] at h
  unfold rot; simp only
  have g1 := greater_cases kl.high kr.high
  split
  · have g2 := greater_cases s.high kl.high
    have g3 := greater_cases (1 + greater s.high kl.high) kr.high
    simp only [Bal, Tr.high]
    refine ⟨⟨⟨hs, hk, ?_, ?_⟩, hr, ?_, ?_⟩, ?_, ?_⟩ <;> omega
  · have g2 := greater_cases s.high kr.high
    have g3 := greater_cases (1 + greater s.high kr.high) kl.high
    simp only [Bal, Tr.high]
    refine ⟨⟨⟨hs, hr, ?_, ?_⟩, hk, ?_, ?_⟩, ?_, ?_⟩ <;> omega
theorem levelT_bal (n : Nat) (l r : Tr) (hl : Bal l) (hr : Bal r) (h1 : l.high ≤ r.high + 2) (h2 : r.high ≤ l.high + 2) :
    Bal (levelT n l r) ∧ ((levelT n l r).high = 1 + greater l.high r.high ∨ ((levelT n l r).high = greater l.high r.high ∧ (l.high = r.high + 2 ∨ r.high = l.high + 2))) := by
  have pl := high_nonneg l; have pr := high_nonneg r
  have g := greater_cases l.high r.high
  unfold levelT
  split
  · split
    · exact ⟨⟨hl, hr, by omega, by omega⟩, Or.inl rfl⟩
    · cases r using Tr.cs with
      | leaf => simp only [Tr.high] at *; omega
      | node tb kl kr =>
        have := rot_bal n l tb kl kr hl hr (by omega)
        exact ⟨this.1, by omega⟩
  · split
    · exact ⟨⟨hl, hr, by omega, by omega⟩, Or.inl rfl⟩
    · cases l using Tr.cs with
      | leaf => simp only [Tr.high] at *; omega
      | node tb kl kr =>
        have := rot_bal n r tb kl kr hr hl (by omega)
        exact ⟨this.1, by omega⟩
theorem mendT_bal : ∀ (c : List Fr) (T T' : Tr), Bal (plug c T) → Bal T' → T'.high ≤ T.high + 1 → T.high ≤ T'.high + 1 → Bal (mendT c T')
  | [], T, T', h, h', _, _ => h'
  | f :: c, T, T', h, h', d1, d2 => by
    have hb := bal_plug c (f.fill T) h
    have key : Bal (f.lev T') ∧ (f.lev T').high ≤ (f.fill T).high + 1 ∧ (f.fill T).high ≤ (f.lev T').high + 1 := by
      unfold Fr.fill at hb ⊢
      unfold Fr.lev
      cases hl : f.left with
      | true =>
        simp only [hl, if_true] at hb ⊢
        have := hb.2.2
        have q := levelT_bal f.b T' f.sib h' hb.2.1 (by omega) (by omega)
        have g1 := greater_cases T.high f.sib.high; have g2 := greater_cases T'.high f.sib.high
        have := hb.2.2
        refine ⟨q.1, ?_, ?_⟩ <;> simp only [Tr.high] <;> omega
      | false =>
        simp only [hl, Bool.false_eq_true, if_false] at hb ⊢
        have := hb.2.2
        have q := levelT_bal f.b f.sib T' hb.1 h' (by omega) (by omega)
        have g1 := greater_cases f.sib.high T.high; have g2 := greater_cases f.sib.high T'.high
        have := hb.2.2
        refine ⟨q.1, ?_, ?_⟩ <;> simp only [Tr.high] <;> omega
    exact mendT_bal c (f.fill T) (f.lev T') h key.1 key.2.1 key.2.2

theorem leaves_pos : ∀ T : Tr, 0 < T.leaves.length
  | ⟨_, .inl (_, _, _)⟩ => by simp [Tr.leaves]
  | ⟨_, .inr (l, r)⟩ => by have := leaves_pos l; simp [Tr.leaves]; omega
theorem high_lt_leaves : ∀ T : Tr, T.high < T.leaves.length
  | ⟨_, .inl (_, _, _)⟩ => by simp [Tr.high, Tr.leaves]
  | ⟨_, .inr (l, r)⟩ => by
    have := high_lt_leaves l; have := high_lt_leaves r; have := leaves_pos l; have := leaves_pos r
    have := greater_cases l.high r.high
    simp only [Tr.high, Tr.leaves, List.length_append]; omega
theorem blocks_leaves : ∀ T : Tr, T.blocks.length + 1 = 2 * T.leaves.length
  | ⟨_, .inl (_, _, _)⟩ => by simp [Tr.blocks, Tr.leaves]
  | ⟨_, .inr (l, r)⟩ => by have := blocks_leaves l; have := blocks_leaves r; simp only [Tr.blocks, Tr.leaves, List.length_cons, List.length_append]; omega
/-- A levelled tree of that height has so many leaves. -/
theorem bal_leaves : ∀ (T : Tr) (k : Nat), Bal T → (2 * k : Int) ≤ T.high → 2 ^ k ≤ T.leaves.length
  | T, 0, _, _ => by have := leaves_pos T; simp; omega
  | ⟨_, .inl (_, _, _)⟩, k + 1, _, h => by simp only [Tr.high] at h; omega
  | ⟨_, .inr (l, r)⟩, k + 1, hb, h => by
    have g := greater_cases l.high r.high
    simp only [Tr.high] at h
    have h1 := bal_leaves l k hb.1 (by have := hb.2.2; omega)
    have h2 := bal_leaves r k hb.2.1 (by have := hb.2.2; omega)
    simp only [Tr.leaves, List.length_append, Nat.pow_succ]; omega
theorem bal_high (T : Tr) (hb : Bal T) (h : T.leaves.length ≤ 60) : T.high ≤ 12 := by
  refine Int.not_lt.1 (fun q => ?_)
  have := bal_leaves T 6 hb (by omega)
  omega
theorem high_pos (T : Tr) (h : 2 ≤ T.leaves.length) : 1 ≤ T.high := by
  cases T using Tr.cs with
  | leaf => simp [Tr.leaves] at h
  | node b l r => have := high_nonneg l; have := high_nonneg r; have := greater_cases l.high r.high; simp only [Tr.high]; omega
theorem high_one (T : Tr) (h : T.leaves.length < 2) : T.high = 0 := by have := high_lt_leaves T; have := high_nonneg T; omega

def meetX (a b : Bx) : Bool := meetB a.x0 a.x1 a.x2 a.x3 a.x4 a.x5 b.x0 b.x1 b.x2 b.x3 b.x4 b.x5
def withinX (a b : Bx) : Bool := withinB a.x0 a.x1 a.x2 a.x3 a.x4 a.x5 b.x0 b.x1 b.x2 b.x3 b.x4 b.x5
theorem meetX_iff (a b : Bx) : meetX a b = true ↔ (a.x0 ≤ b.x3 ∧ b.x0 ≤ a.x3) ∧ (a.x1 ≤ b.x4 ∧ b.x1 ≤ a.x4) ∧ (a.x2 ≤ b.x5 ∧ b.x2 ≤ a.x5) := by
  unfold meetX meetB; simp only [Bool.and_eq_true, decide_eq_true_eq, and_assoc]
theorem withinX_iff (a b : Bx) : withinX a b = true ↔ (b.x0 ≤ a.x0 ∧ a.x3 ≤ b.x3) ∧ (b.x1 ≤ a.x1 ∧ a.x4 ≤ b.x4) ∧ (b.x2 ≤ a.x2 ∧ a.x5 ≤ b.x5) := by
  unfold withinX withinB; simp only [Bool.and_eq_true, decide_eq_true_eq, and_assoc]
theorem meetX_comm (a b : Bx) : meetX a b = meetX b a := by
  rw [Bool.eq_iff_iff, meetX_iff, meetX_iff]; omega
theorem meet_within {a b q : Bx} (h : withinX a b = true) (m : meetX a q = true) : meetX b q = true := by
  rw [withinX_iff] at h; rw [meetX_iff] at m ⊢; omega
theorem within_trans {a b c : Bx} (h : withinX a b = true) (k : withinX b c = true) : withinX a c = true := by
  rw [withinX_iff] at *; omega
theorem lesser_le (a b : Int) : lesser a b ≤ a ∧ lesser a b ≤ b := by unfold lesser; split <;> omega
theorem greater_ge' (a b : Int) : a ≤ greater a b ∧ b ≤ greater a b := by unfold greater; split <;> omega
theorem within_both (a b : Bx) : withinX a (bothX a b) = true ∧ withinX b (bothX a b) = true := by
  have l0 := lesser_le a.x0 b.x0; have l1 := lesser_le a.x1 b.x1; have l2 := lesser_le a.x2 b.x2
  have g3 := greater_ge' a.x3 b.x3; have g4 := greater_ge' a.x4 b.x4; have g5 := greater_ge' a.x5 b.x5
  rw [withinX_iff, withinX_iff]
  simp only [bothX]
  omega
/-- Each leaf's box lies in its room. -/
def Fits (T : Tr) : Prop := ∀ x ∈ T.leaves, withinX x.box x.room = true
theorem fits_room : ∀ (T : Tr), Fits T → ∀ x ∈ T.leaves, withinX x.box T.room = true
  | ⟨_, .inl (_, _, _)⟩, h, x, hx => by have := h x hx; simp only [Tr.leaves, List.mem_singleton] at hx; subst hx; exact this
  | ⟨_, .inr (l, r)⟩, h, x, hx => by
    simp only [Tr.leaves, List.mem_append] at hx
    rcases hx with hx | hx
    · exact within_trans (fits_room l (fun y hy => h y (by simp [Tr.leaves, hy])) x hx) (within_both _ _).1
    · exact within_trans (fits_room r (fun y hy => h y (by simp [Tr.leaves, hy])) x hx) (within_both _ _).2
/-- What 'meeting' tells. -/
def meetIds (q : Bx) : Tr → List Int
  | ⟨_, .inl (id, box, room)⟩ => if meetX room q then (if meetX box q then [id] else []) else []
  | ⟨_, .inr (l, r)⟩ => if meetX (bothX l.room r.room) q then meetIds q l ++ meetIds q r else []
def idsOf (q : Bx) (L : List Lf) : List Int := (L.filter (fun x => meetX x.box q)).map Lf.id
theorem meetIds_eq (q : Bx) : ∀ T : Tr, Fits T → meetIds q T = idsOf q T.leaves
  | ⟨b, .inl (id, box, room)⟩, h => by
    have hw : withinX box room = true := h ⟨b, id, box, room⟩ (by simp [Tr.leaves])
    simp only [meetIds, Tr.leaves, idsOf, List.filter_cons, List.filter_nil]
    by_cases hm : meetX box q = true
    · rw [if_pos (meet_within hw hm), if_pos hm, if_pos hm]; rfl
    · rw [if_neg hm, if_neg hm]; split <;> rfl
  | ⟨b, .inr (l, r)⟩, h => by
    have el := meetIds_eq q l (fun y hy => h y (by simp [Tr.leaves, hy]))
    have er := meetIds_eq q r (fun y hy => h y (by simp [Tr.leaves, hy]))
    simp only [meetIds, Tr.leaves]
    split
    · rw [el, er]; simp [idsOf]
    · rename_i hm
      have hnone : idsOf q (l.leaves ++ r.leaves) = [] := by
        simp only [idsOf, List.map_eq_nil_iff, List.filter_eq_nil_iff]
        intro x hx hmx
        exact hm (meet_within (fits_room (.node b l r) h x hx) hmx)
      rw [hnone]
theorem meetIds_le (q : Bx) (T : Tr) : (meetIds q T).length ≤ T.leaves.length := by
  induction T using Tr.ind with
  | leaf => simp only [meetIds, Tr.leaves]; split <;> (try split) <;> simp
  | node b l r hl hr => simp only [meetIds, Tr.leaves]; split <;> simp; omega
end Go.Proofs.YtdhbcgdlmkkdfaaGreatDoor
