/- broad.Tree.Query: the numbers of the boxes that meet a box, rising: whatever the tree and the box. -/
import Derived.Test.YtdhbcgdlmkkdfaaGreatDoorBp1
namespace Go.Proofs.YtdhbcgdlmkkdfaaGreatDoor
open Go.ChangeShapes Go.WideShapes Go.ChangeAt Go.RowKit Go.Sort Go.Shelf Go.Lib
set_option linter.unusedVariables false
set_option linter.unusedSimpArgs false

/-- The numbers of the boxes that meet q. -/
def meetM (M : List (Int × Bx)) (q : Bx) : List Int := (M.filter fun p => meetX p.2 q).map Prod.fst
theorem meetM_perm {M N : List (Int × Bx)} (p : M.Perm N) (q : Bx) : (meetM M q).Perm (meetM N q) := (p.filter _).map _
theorem meetM_boxes (L : List Lf) (q : Bx) : meetM (boxesOf L) q = idsOf q L := by
  unfold meetM boxesOf idsOf
  induction L with
  | nil => rfl
  | cons x L ih =>
    simp only [List.map_cons, List.filter_cons]
    split
    · simp only [List.map_cons, ih]
    · exact ih
theorem meetM_nodup {M : List (Int × Bx)} (h : (M.map Prod.fst).Nodup) (q : Bx) : (meetM M q).Nodup :=
  List.Nodup.sublist ((List.filter_sublist).map _) h
/-- What Query reads. -/
def QS (t rt k : Nat) (q : Bx) (w w' : World) : Prop := Only [] w w' ∧ w'.cell? ⟨t, 1, none⟩ = some (.pointer (some ⟨rt, 0, none⟩)) ∧ w'.cell? ⟨k, 0, none⟩ = some (.int .i64 q.x0) ∧ w'.cell? ⟨k, 1, none⟩ = some (.int .i64 q.x1) ∧ w'.cell? ⟨k, 2, none⟩ = some (.int .i64 q.x2) ∧ w'.cell? ⟨k, 3, none⟩ = some (.int .i64 q.x3) ∧ w'.cell? ⟨k, 4, none⟩ = some (.int .i64 q.x4) ∧ w'.cell? ⟨k, 5, none⟩ = some (.int .i64 q.x5)
def QN (t k : Nat) (q : Bx) (w w' : World) : Prop := Only [] w w' ∧ w'.cell? ⟨t, 1, none⟩ = some (.pointer none) ∧ w'.cell? ⟨k, 0, none⟩ = some (.int .i64 q.x0) ∧ w'.cell? ⟨k, 1, none⟩ = some (.int .i64 q.x1) ∧ w'.cell? ⟨k, 2, none⟩ = some (.int .i64 q.x2) ∧ w'.cell? ⟨k, 3, none⟩ = some (.int .i64 q.x3) ∧ w'.cell? ⟨k, 4, none⟩ = some (.int .i64 q.x4) ∧ w'.cell? ⟨k, 5, none⟩ = some (.int .i64 q.x5)
theorem QS.of {t rt k : Nat} {q : Bx} {fat : Int} {lv : Option Nat} {w w' : World} (o : Only [] w w') (ht : TreeAt w t fat (some rt) lv) (hq : BoxAt w k q) : QS t rt k q w w' := by
  have h := o.box (by simp) hq
  exact ⟨o, (o.tree (by simp) ht).c1, h.off 0, h.off 1, h.off 2, h.off 3, h.off 4, h.off 5⟩
theorem QN.of {t k : Nat} {q : Bx} {fat : Int} {lv : Option Nat} {w w' : World} (o : Only [] w w') (ht : TreeAt w t fat none lv) (hq : BoxAt w k q) : QN t k q w w' := by
  have h := o.box (by simp) hq
  exact ⟨o, (o.tree (by simp) ht).c1, h.off 0, h.off 1, h.off 2, h.off 3, h.off 4, h.off 5⟩
def QueryPost (w : World) (q : Bx) (M : List (Int × Bx)) (e : Ending) (w' : World) : Prop :=
  ∃ v xs, e = .returned v ∧ SlInts w' v xs ∧ xs.Perm (meetM M q) ∧ xs.Pairwise (fun x y => x < y) ∧ Only [] w w' ∧ (∀ b ∈ ownL v, w.heap.size ≤ b)
set_option maxRecDepth 100000 in
theorem query_calls (t : Nat) (fat : Int) (D : List Nat) (M : List (Int × Bx)) (q : Bx) (w : World) (h : TreeIs w t fat D M) :
    Calls Tryz.prog 10 #[.pointer (some ⟨t, 0, none⟩), .agg #[.int .i64 (q.x0), .int .i64 (q.x1), .int .i64 (q.x2), .int .i64 (q.x3), .int .i64 (q.x4), .int .i64 (q.x5)]] w (QueryPost w q M) := by
  obtain ⟨T, lv, hw, hD, hM⟩ := h.ex
  cases T with
  | none =>
    have HM : Hid (meetM M q = []) := by
      have := hM.length_eq; simp [boxesOf, leavesO] at this
      show meetM M q = []; rw [this]; rfl
    have HT : Hid (TreeAt w t fat none lv) := hw.tree
    clear hw hD hM h
    go_enter Tryz.func10, Tryz.ntmps10
    go_wp2_with fail
    have H0 : Hid (Only [] w (w.alloc (.cells #[.int .i64 (q.x0), .int .i64 (q.x1), .int .i64 (q.x2), .int .i64 (q.x3), .int .i64 (q.x4), .int .i64 (q.x5)] 34)) ∧ BoxAt (w.alloc (.cells #[.int .i64 (q.x0), .int .i64 (q.x1), .int .i64 (q.x2), .int .i64 (q.x3), .int .i64 (q.x4), .int .i64 (q.x5)] 34)) w.heap.size q) := ⟨(Only.refl [] w).alloc _, (MapKept.heap_alloc w _).1⟩
    revert H0
    generalize World.alloc w _ = w1
    intro H0
    have HPS : Hid (∀ w', Only [] w1 w' → QN t w.heap.size q w1 w') := fun w' o => QN.of o (H0.out.1.tree (by simp) HT.out) H0.out.2
    have HK : Hid (w.heap.size = w.heap.size) := rfl
    generalize hk : w.heap.size = kk at HPS ⊢
    have HKK : Hid (w.heap.size = kk) := hk
    clear hk HK
    refine wp_region_held_drew (S := (fun w' => Only [] w1 w' ∧ w'.cell? ⟨t, 1, none⟩ = some (.pointer none) ∧ w'.cell? ⟨kk, 0, none⟩ = some (.int .i64 q.x0) ∧ w'.cell? ⟨kk, 1, none⟩ = some (.int .i64 q.x1) ∧ w'.cell? ⟨kk, 2, none⟩ = some (.int .i64 q.x2) ∧ w'.cell? ⟨kk, 3, none⟩ = some (.int .i64 q.x3) ∧ w'.cell? ⟨kk, 4, none⟩ = some (.int .i64 q.x4) ∧ w'.cell? ⟨kk, 5, none⟩ = some (.int .i64 q.x5))) (by kernel_rfl) ?_ (fun hHeld1 => ?_)
    · (try dsimp only); exact HPS.out _ (Only.refl _ _).drew
    refine tkW 0 rfl ?_; refine tkW 1 rfl ?_; refine tkW 2 rfl ?_; refine tkW 3 rfl ?_
    try simp only [Act.put, List.setIfInBounds_toArray, List.set_cons_zero, List.set_cons_succ, List.getElem_toArray, List.getElem_cons_succ, List.getElem_cons_zero]
    refine tkW 4 rfl ?_
    try simp only [Act.put, List.setIfInBounds_toArray, List.set_cons_zero, List.set_cons_succ, List.getElem_toArray, List.getElem_cons_succ, List.getElem_cons_zero]
    refine wpAnyH_ready (rs := [5]) (by kernel_rfl) (by simp) ?_
    refine AllReadyH.cons rfl (fun K hK => ?_) AllReadyH.nil
    first | (with_reducible refine iteYes ?hcx ?htx; case hcx => kernel_rfl) | rw [if_pos (by rfl)]
    simp only [List.getElem_toArray, List.getElem_cons_succ, List.getElem_cons_zero]
    go_simp
    (go_at_call 22; refine (meeting_nil q (.slice none 0 0) _).mono ?_; rintro e w2 ⟨rfl, o2⟩)
    try go_wp2_with fail
    refine hK.out _ _ ?_ (fun hHeld2 => ?_)
    · (try dsimp only); exact HPS.out _ ((Only.refl [] w1).drew.trans o2)
    clear hK K hHeld1
    try simp only [Act.put, List.setIfInBounds_toArray, List.set_cons_zero, List.set_cons_succ, List.getElem_toArray, List.getElem_cons_succ, List.getElem_cons_zero]
    refine tkW 6 rfl ?_
    try simp only [Act.put, List.setIfInBounds_toArray, List.set_cons_zero, List.set_cons_succ, List.getElem_toArray, List.getElem_cons_succ, List.getElem_cons_zero]
    refine wpAnyH_done (by kernel_rfl) ?_ _
    have O2 : Hid (Only [] w w2) := H0.out.1.trans ((Only.refl [] w1).drew.trans o2)
    clear hHeld2 o2 HPS
    go_wp2_with fail
    refine (sortsI (.slice none 0 0) [] w2 (World.ownsRow_nil _ 0 _ _) (by simp)).mono ?_
    rintro e w3 ⟨rfl, hs3, o3⟩
    have H3 : Hid (Only [] w w3) := O2.out.trans (o3.mono (by simp [ownL, Value.ownBlock]))
    clear hs3 o3
    go_wp2_with fail
    go_ret
    exact ⟨_, [], rfl, World.ownsRow_nil _ 0 _ _, by rw [HM.out], List.Pairwise.nil, H3.out, by simp [ownL, Value.ownBlock]⟩
  | some T =>
    have HM : Hid (Fits T ∧ M.Perm (boxesOf T.leaves) ∧ T.leaves.length ≤ 60 ∧ (M.map Prod.fst).Nodup) := ⟨hw.fits, hM, by have := h.small; rw [hM.length_eq] at this; simpa [boxesOf, leavesO] using this, h.keys⟩
    have HT : Hid (TreeAt w t fat (some T.root) lv ∧ In w none T) := ⟨hw.tree, hw.inn.1⟩
    clear hw hD hM h
    go_enter Tryz.func10, Tryz.ntmps10
    go_wp2_with fail
    have H0 : Hid (Only [] w (w.alloc (.cells #[.int .i64 (q.x0), .int .i64 (q.x1), .int .i64 (q.x2), .int .i64 (q.x3), .int .i64 (q.x4), .int .i64 (q.x5)] 34)) ∧ BoxAt (w.alloc (.cells #[.int .i64 (q.x0), .int .i64 (q.x1), .int .i64 (q.x2), .int .i64 (q.x3), .int .i64 (q.x4), .int .i64 (q.x5)] 34)) w.heap.size q) := ⟨(Only.refl [] w).alloc _, (MapKept.heap_alloc w _).1⟩
    revert H0
    generalize World.alloc w _ = w1
    intro H0
    have HPS : Hid (∀ w', Only [] w1 w' → QS t T.root w.heap.size q w1 w') := fun w' o => QS.of o (H0.out.1.tree (by simp) HT.out.1) H0.out.2
    generalize hk : w.heap.size = kk at HPS ⊢
    have HKK : Hid (w.heap.size = kk) := hk
    clear hk
    generalize hrt : T.root = rt at HPS
    have HRT : Hid (T.root = rt) := hrt
    clear hrt
    refine wp_region_held_drew (S := (fun w' => Only [] w1 w' ∧ w'.cell? ⟨t, 1, none⟩ = some (.pointer (some ⟨rt, 0, none⟩)) ∧ w'.cell? ⟨kk, 0, none⟩ = some (.int .i64 q.x0) ∧ w'.cell? ⟨kk, 1, none⟩ = some (.int .i64 q.x1) ∧ w'.cell? ⟨kk, 2, none⟩ = some (.int .i64 q.x2) ∧ w'.cell? ⟨kk, 3, none⟩ = some (.int .i64 q.x3) ∧ w'.cell? ⟨kk, 4, none⟩ = some (.int .i64 q.x4) ∧ w'.cell? ⟨kk, 5, none⟩ = some (.int .i64 q.x5))) (by kernel_rfl) ?_ (fun hHeld1 => ?_)
    · (try dsimp only); exact HPS.out _ (Only.refl _ _).drew
    refine tkW 0 rfl ?_; refine tkW 1 rfl ?_; refine tkW 2 rfl ?_; refine tkW 3 rfl ?_
    try simp only [Act.put, List.setIfInBounds_toArray, List.set_cons_zero, List.set_cons_succ, List.getElem_toArray, List.getElem_cons_succ, List.getElem_cons_zero]
    refine tkW 4 rfl ?_
    try simp only [Act.put, List.setIfInBounds_toArray, List.set_cons_zero, List.set_cons_succ, List.getElem_toArray, List.getElem_cons_succ, List.getElem_cons_zero]
    refine wpAnyH_ready (rs := [5]) (by kernel_rfl) (by simp) ?_
    refine AllReadyH.cons rfl (fun K hK => ?_) AllReadyH.nil
    first | (with_reducible refine iteYes ?hcx ?htx; case hcx => kernel_rfl) | rw [if_pos (by rfl)]
    simp only [List.getElem_toArray, List.getElem_cons_succ, List.getElem_cons_zero]
    go_simp
    (go_at_call 22; rw [← HRT.out]; refine (meeting_tells q T _ none (.slice none 0 0) [] (by exact HT.out.2.only (H0.out.1.trans (Only.refl [] w1).drew) (by simp)) (by exact World.ownsRow_nil _ 0 _ _) (by have h1 := HM.out.2.2.1; simp; omega)).mono ?_; rintro e w2 ⟨v2, rfl, hs2, o2, hb2⟩)
    try go_wp2_with fail
    refine hK.out _ _ ?_ (fun hHeld2 => ?_)
    · (try dsimp only); exact HPS.out _ ((Only.refl [] w1).drew.trans o2)
    clear hK K hHeld1
    try simp only [Act.put, List.setIfInBounds_toArray, List.set_cons_zero, List.set_cons_succ, List.getElem_toArray, List.getElem_cons_succ, List.getElem_cons_zero]
    refine tkW 6 rfl ?_
    try simp only [Act.put, List.setIfInBounds_toArray, List.set_cons_zero, List.set_cons_succ, List.getElem_toArray, List.getElem_cons_succ, List.getElem_cons_zero]
    refine wpAnyH_done (by kernel_rfl) ?_ _
    have O2 : Hid (Only [] w w2 ∧ SlInts w2 v2 (meetIds q T) ∧ (∀ b ∈ ownL v2, w.heap.size ≤ b)) := ⟨H0.out.1.trans ((Only.refl [] w1).drew.trans o2), by simpa using hs2, fun b hb => by
      rcases hb2 b hb with z | z
      · simp [ownL, Value.ownBlock] at z
      · exact Nat.le_trans H0.out.1.size z⟩
    clear hHeld2 o2 HPS hs2 hb2
    go_wp2_with fail
    refine (sortsI v2 (meetIds q T) w2 O2.out.2.1 (by have h1 := HM.out.2.2.1; have h2 := meetIds_le q T; omega)).mono ?_
    rintro e w3 ⟨rfl, hs3, o3⟩
    have H3 : Hid (SlInts w3 v2 (sortZ (meetIds q T)) ∧ Only (ownL v2) w2 w3) := ⟨hs3, o3⟩
    clear hs3 o3
    go_wp2_with fail
    go_ret
    have e1 : (meetIds q T).Perm (meetM M q) := by
      rw [meetIds_eq q T HM.out.1, ← meetM_boxes]
      exact (meetM_perm HM.out.2.1 q).symm
    refine ⟨_, _, rfl, H3.out.1, (sortZ_perm _).trans e1, sortZ_lt _ (e1.symm.nodup (meetM_nodup HM.out.2.2.2 q)), ?_, O2.out.2.2⟩
    exact O2.out.1.then H3.out.2 (fun b hb => Or.inr (O2.out.2.2 b hb))
end Go.Proofs.YtdhbcgdlmkkdfaaGreatDoor
