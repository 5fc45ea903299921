/- broad.Tree.mend: from a change below on up to the root all is measured and levelled: whatever the tree. -/
import Derived.Test.YtdhbcgdlmkkdfaaGreatDoorBr5
import Derived.Deep.LoopGhost
namespace Go.Proofs.YtdhbcgdlmkkdfaaGreatDoor
open Go.ChangeShapes Go.WideShapes Go.ChangeAt Go.RowKit
set_option linter.unusedSimpArgs false
set_option linter.unusedVariables false

def Fr.fill (f : Fr) (T : Tr) : Tr := if f.left then .node f.b T f.sib else .node f.b f.sib T
def Fr.lev (f : Fr) (T : Tr) : Tr := if f.left then levelT f.b T f.sib else levelT f.b f.sib T
def mendT : List Fr → Tr → Tr
  | [], T => T
  | f :: c, T => mendT c (f.lev T)
theorem rot_blocks (n : Nat) (s : Tr) (tb : Nat) (kl kr : Tr) : (rot n s (.node tb kl kr)).blocks.Perm (n :: (s.blocks ++ (Tr.node tb kl kr).blocks)) := by
  unfold rot; simp only; split <;> (simp only [Tr.blocks, List.cons_append, List.append_assoc]; grind)
theorem levelT_blocks (n : Nat) (l r : Tr) : (levelT n l r).blocks.Perm (n :: (l.blocks ++ r.blocks)) := by
  have pl := high_nonneg l; have pr := high_nonneg r
  unfold levelT
  split
  · split
    · exact List.Perm.refl _
    · cases r using Tr.cs with
      | leaf => simp only [Tr.high] at *; omega
      | node tb kl kr => exact rot_blocks ..
  · split
    · exact List.Perm.refl _
    · cases l using Tr.cs with
      | leaf => simp only [Tr.high] at *; omega
      | node tb kl kr => exact (rot_blocks ..).trans (List.Perm.cons _ List.perm_append_comm)
theorem lev_blocks (f : Fr) (T : Tr) : (f.lev T).blocks.Perm (f.b :: (T.blocks ++ f.sib.blocks)) := by
  unfold Fr.lev; split
  · exact levelT_blocks ..
  · exact (levelT_blocks ..).trans (List.Perm.cons _ List.perm_append_comm)
theorem high_lt : ∀ T : Tr, T.high < T.blocks.length
  | ⟨_, .inl (_, _, _)⟩ => by simp [Tr.high, Tr.blocks]
  | ⟨_, .inr (l, r)⟩ => by
    have := high_lt l; have := high_lt r
    simp only [Tr.high, Tr.blocks, List.length_cons, List.length_append]
    unfold greater; split <;> omega

/-- The focus and all around it, as the loop goes up. -/
structure Mid (w0 : World) (t : Nat) (fat : Int) (lv : Option Nat) (M : Tr) (D : List Nat) (c : List Fr) (T : Tr) (w : World) : Prop where
  inn : In w (upOf c) T
  arnd : Arnd w t fat lv c T.root
  perm : (T.blocks ++ (t :: cblocks c)).Perm D
  only : Only D w0 w
  goal : mendT c T = M

theorem Mid.step {w0 w w2 : World} {t : Nat} {fat : Int} {lv : Option Nat} {M : Tr} {D : List Nat} {f : Fr} {c : List Fr} {T : Tr} (h : Mid w0 t fat lv M D (f :: c) T w) (hi : In w2 (upOf c) (f.lev T)) (ha : Arnd w2 t fat lv c (f.lev T).root) (o : Only D w w2) : Mid w0 t fat lv M D c (f.lev T) w2 := by
  refine ⟨hi, ha, ?_, h.only.trans o, h.goal⟩
  refine List.Perm.trans ?_ h.perm
  refine (List.Perm.append_right _ (lev_blocks f T)).trans ?_
  simp only [cblocks, List.cons_append, List.append_assoc]; grind

theorem Mid.facts {w0 w : World} {t : Nat} {fat : Int} {lv : Option Nat} {M : Tr} {D : List Nat} {f : Fr} {c : List Fr} {T : Tr} (h : Mid w0 t fat lv M D (f :: c) T w) (nd : D.Nodup) (hb : D.length ≤ 800) :
    (f.b :: ((T.blocks ++ f.sib.blocks) ++ (t :: cblocks c))).Nodup ∧ (∀ x ∈ f.b :: ((T.blocks ++ f.sib.blocks) ++ (t :: cblocks c)), x ∈ D) ∧ T.high ≤ 900 ∧ f.sib.high ≤ 900 := by
  have pm : (f.b :: ((T.blocks ++ f.sib.blocks) ++ (t :: cblocks c))).Perm D := by
    refine List.Perm.trans ?_ h.perm
    simp only [cblocks, List.cons_append, List.append_assoc]; grind
  have h1 := high_lt T; have h2 := high_lt f.sib
  have h3 := pm.length_eq
  simp only [List.length_cons, List.length_append] at h3
  exact ⟨pm.symm.nodup nd, fun x hx => pm.mem_iff.1 hx, by omega, by omega⟩
theorem measure_frame {w0 w : World} {t : Nat} {fat : Int} {lv : Option Nat} {M : Tr} {D : List Nat} {f : Fr} {c : List Fr} {T : Tr} (h : Mid w0 t fat lv M D (f :: c) T w) (nd : D.Nodup) (hb : D.length ≤ 800) :
    Calls Tryz.prog 45 #[.pointer (some ⟨f.b, 0, none⟩)] w fun e w' => e = .returned (.tuple #[]) ∧ In w' (upOf c) (f.fill T) ∧ Arnd w' t fat lv c f.b ∧ Only D w w' := by
  obtain ⟨n1, mem, b1, b2⟩ := h.facts nd hb
  obtain ⟨hz, hs, hc⟩ := h.arnd
  have hT := h.inn
  simp only [upOf] at hT
  have p1 := high_nonneg T; have p2 := high_nonneg f.sib
  have q1 := nd_high (some f.b) T; have q2 := nd_high (some f.b) f.sib
  rw [List.nodup_cons] at n1
  have far : ∀ b, b ∈ T.blocks ∨ b ∈ f.sib.blocks ∨ b ∈ t :: cblocks c → b ∉ [f.b] := fun b hb e => n1.1 (by
    rw [List.mem_singleton] at e; rw [← e]; simp only [List.mem_append]; rcases hb with q | q | q
    · exact Or.inl (Or.inl q)
    · exact Or.inl (Or.inr q)
    · exact Or.inr q)
  have r1 : T.root ≠ f.b := fun e => far _ (Or.inl (root_mem T)) (by simp [e])
  have r2 : f.sib.root ≠ f.b := fun e => far _ (Or.inr (Or.inl (root_mem f.sib))) (by simp [e])
  cases hl : f.left with
  | true =>
    refine (measure_calls f.b T.root f.sib.root _ _ _ w (by simp [Fr.nd, hl]) (by simp [Fr.nd, hl]) r1 r2 hz hT.node hs.node (by omega) (by omega) (by omega) (by omega)).mono ?_
    rintro e w' ⟨rfl, m, o⟩
    refine ⟨rfl, ?_, hc.only o (fun b hb => far b (Or.inr (Or.inr hb))), o.mono (fun b hb => Or.inl (mem b (by rw [List.mem_singleton] at hb; simp [hb])))⟩
    simp only [Fr.fill, hl, if_true]
    refine ⟨?_, hT.only o (fun b hb => far b (Or.inl hb)), hs.only o (fun b hb => far b (Or.inr (Or.inl hb)))⟩
    rw [nd_room, nd_room, nd_high, nd_high] at m
    simpa [Fr.nd, nd_node, hl] using m
  | false =>
    refine (measure_calls f.b f.sib.root T.root _ _ _ w (by simp [Fr.nd, hl]) (by simp [Fr.nd, hl]) r2 r1 hz hs.node hT.node (by omega) (by omega) (by omega) (by omega)).mono ?_
    rintro e w' ⟨rfl, m, o⟩
    refine ⟨rfl, ?_, hc.only o (fun b hb => far b (Or.inr (Or.inr hb))), o.mono (fun b hb => Or.inl (mem b (by rw [List.mem_singleton] at hb; simp [hb])))⟩
    simp only [Fr.fill, hl, Bool.false_eq_true, if_false]
    refine ⟨?_, hs.only o (fun b hb => far b (Or.inr (Or.inl hb))), hT.only o (fun b hb => far b (Or.inl hb))⟩
    rw [nd_room, nd_room, nd_high, nd_high] at m
    simpa [Fr.nd, nd_node, hl] using m
theorem level_frame {w0 w w1 : World} {t : Nat} {fat : Int} {lv : Option Nat} {M : Tr} {D : List Nat} {f : Fr} {c : List Fr} {T : Tr} (h : Mid w0 t fat lv M D (f :: c) T w) (nd : D.Nodup) (hb : D.length ≤ 800) (hi : In w1 (upOf c) (f.fill T)) (ha : Arnd w1 t fat lv c f.b) :
    Calls Tryz.prog 46 #[.pointer (some ⟨t, 0, none⟩), .pointer (some ⟨f.b, 0, none⟩)] w1 (LevelPost w1 t fat lv c D (f.lev T)) := by
  obtain ⟨n1, mem, b1, b2⟩ := h.facts nd hb
  unfold Fr.fill at hi
  unfold Fr.lev
  cases hl : f.left with
  | true =>
    simp only [hl, if_true] at hi ⊢
    exact (level_tree t f.b T f.sib fat lv c w1 n1 hi ha b1 b2).mono (fun e w' q => ⟨q.1, q.2.1, q.2.2.1, q.2.2.2.mono (fun b hb => Or.inl (mem b hb))⟩)
  | false =>
    simp only [hl, Bool.false_eq_true, if_false] at hi ⊢
    have pm : (f.b :: ((T.blocks ++ f.sib.blocks) ++ (t :: cblocks c))).Perm ((Tr.node f.b f.sib T).blocks ++ (t :: cblocks c)) := by
      simp only [Tr.blocks, List.cons_append, List.append_assoc]; grind
    exact (level_tree t f.b f.sib T fat lv c w1 (pm.nodup n1) hi ha b2 b1).mono (fun e w' q => ⟨q.1, q.2.1, q.2.2.1, q.2.2.2.mono (fun b hb => Or.inl (mem b (pm.mem_iff.2 hb)))⟩)

set_option maxHeartbeats 1000000 in
theorem mend_calls (t : Nat) (fat : Int) (lv : Option Nat) (c : List Fr) (T : Tr) (w : World) (nd : (T.blocks ++ (t :: cblocks c)).Nodup) (hi : In w (upOf c) T) (ha : Arnd w t fat lv c T.root) (hb : (T.blocks ++ (t :: cblocks c)).length ≤ 800) :
    Calls Tryz.prog 32 #[.pointer (some ⟨t, 0, none⟩), ptr (upOf c)] w fun e w' => e = .returned (.tuple #[]) ∧ In w' none (mendT c T) ∧ TreeAt w' t fat (some (mendT c T).root) lv ∧ Only (T.blocks ++ (t :: cblocks c)) w w' := by
  have H0 : Hid (∃ c' T', c'.length = c.length ∧ ptr (upOf c) = ptr (upOf c') ∧ Mid w t fat lv (mendT c T) (T.blocks ++ (t :: cblocks c)) c' T' w) := ⟨c, T, rfl, rfl, hi, ha, List.Perm.refl _, Only.refl _ _, rfl⟩
  have ND : Hid ((T.blocks ++ (t :: cblocks c)).Nodup ∧ (T.blocks ++ (t :: cblocks c)).length ≤ 800) := ⟨nd, hb⟩
  clear hi ha nd hb
  generalize hM : mendT c T = M at H0 ⊢
  generalize hD : T.blocks ++ (t :: cblocks c) = D at H0 ND ⊢
  clear hM hD
  generalize ptr (upOf c) = p0 at H0 ⊢
  generalize c.length = k0 at H0
  clear T c
  go_enter Tryz.func32, Tryz.ntmps32
  go_wp2_with fail
  go_loopg [1] k0 (fun k p wr => ∃ c' T', c'.length = k ∧ p = ptr (upOf c') ∧ Mid w t fat lv M D c' T' wr)
  case atStart => exact H0.out
  case round =>
    obtain ⟨c, T, hk, rfl, hm⟩ := hrel
    have HM : Hid (Mid w t fat lv M D c T wr ∧ c.length = gk) := ⟨hm, hk⟩
    clear hm hk H0
    cases c with
    | nil =>
      simp only [upOf, ptr_none]
      go_wp2_with fail
      go_end0
      obtain ⟨hm, _⟩ := HM.out
      have hg := hm.goal; simp only [mendT] at hg; subst hg
      exact ⟨rfl, hm.inn, hm.arnd, hm.only⟩
    | cons f c =>
      simp only [upOf, ptr_some]
      go_wp2_with fail
      refine (measure_frame HM.out.1 ND.out.1 ND.out.2).mono ?_
      rintro e w1 ⟨rfl, hi1, ha1, o1⟩
      have H1 : Hid (In w1 (upOf c) (f.fill T) ∧ Arnd w1 t fat lv c f.b ∧ Only D wr w1) := ⟨hi1, ha1, o1⟩
      clear hi1 ha1 o1
      go_wp2_with fail
      refine (level_frame HM.out.1 ND.out.1 ND.out.2 H1.out.1 H1.out.2.1).mono ?_
      rintro e w2 ⟨rfl, hi2, ha2, o2⟩
      have c14 := hi2.node.c14
      rw [nd_up'] at c14
      have H2 : Hid (Mid w t fat lv M D c (f.lev T) w2) := HM.out.1.step hi2 ha2 (H1.out.2.2.trans o2)
      clear hi2 ha2 o2 H1
      go_wp2_with fail
      go_roundg c.length
      case measure => have := HM.out.2; simp only [List.length_cons] at this; omega
      case rel => exact ⟨c, f.lev T, rfl, rfl, H2.out⟩
end Go.Proofs.YtdhbcgdlmkkdfaaGreatDoor
