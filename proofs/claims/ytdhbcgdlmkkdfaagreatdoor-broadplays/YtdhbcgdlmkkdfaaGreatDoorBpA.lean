/- broad.Tree.Query, Many, High; gyrelaw.high: what chapter 3 says: whatever the tree. -/
import Derived.Test.YtdhbcgdlmkkdfaaGreatDoorAs3
import Derived.Test.YtdhbcgdlmkkdfaaGreatDoorSrt
namespace Go.Proofs.YtdhbcgdlmkkdfaaGreatDoor
open Go.ChangeShapes Go.WideShapes Go.ChangeAt Go.RowKit Go.Sort Go.Shelf Go.Lib
set_option linter.unusedVariables false
set_option linter.unusedSimpArgs false

end Go.Proofs.YtdhbcgdlmkkdfaaGreatDoor
/- broad.Tree.Many and High; gyrelaw's bound on High. -/
namespace Go.Proofs.YtdhbcgdlmkkdfaaGreatDoor
open Go.ChangeShapes Go.WideShapes Go.ChangeAt Go.RowKit Go.Sort Go.Shelf Go.Lib
set_option linter.unusedVariables false
set_option linter.unusedSimpArgs false

theorem many_calls (t : Nat) (fat : Int) (D : List Nat) (M : List (Int × Bx)) (w : World) (h : TreeIs w t fat D M) :
    Calls Tryz.prog 12 #[.pointer (some ⟨t, 0, none⟩)] w fun e w' => e = .returned (.int .i64 M.length) ∧ w' = w := by
  obtain ⟨T, lv, hw, hD, hM⟩ := h.ex
  have c2 := hw.tree.c2
  have hl := hw.book.len
  have he : Hid (M.length = (leavesO T).length) := by show M.length = _; rw [hM.length_eq]; simp [boxesOf]
  clear hw hD hM h
  go_enter Tryz.func12, Tryz.ntmps12
  go_wp2_with fail
  go_ret
  exact ⟨ret_int (by rw [he.out]), rfl⟩
def HighOk (n : Int) (m : Nat) : Prop := (m < 2 → n = 0) ∧ (2 ≤ m → 1 ≤ n ∧ n < m ∧ n ≤ 40)
theorem high_calls (t : Nat) (fat : Int) (D : List Nat) (M : List (Int × Bx)) (w : World) (h : TreeIs w t fat D M) :
    Calls Tryz.prog 14 #[.pointer (some ⟨t, 0, none⟩)] w fun e w' => (∃ n, e = .returned (.int .i64 n) ∧ HighOk n M.length) ∧ w' = w := by
  have hs := h.small
  obtain ⟨T, lv, hw, hD, hM⟩ := h.ex
  have he : M.length = (leavesO T).length := by rw [hM.length_eq]; simp [boxesOf]
  have c1 := hw.tree.c1
  cases T with
  | none =>
    have HE : Hid (M.length = 0) := by show M.length = 0; simpa [leavesO] using he
    simp only [rootO, Option.map_none] at c1
    clear hw hD hM h he hs
    go_enter Tryz.func14, Tryz.ntmps14
    go_wp2_with fail
    go_ret
    exact ⟨⟨0, rfl, fun _ => rfl, fun q => by have := HE.out; omega⟩, rfl⟩
  | some T =>
    simp only [rootO, Option.map_some] at c1
    simp only [leavesO] at he
    have ch := hw.inn.1.node.c13
    have HE : Hid (HighOk T.high M.length) := by
      have b1 := bal_high T hw.inn.2 (by omega)
      have b2 := high_lt_leaves T
      refine ⟨fun q => high_one T (by omega), fun q => ⟨high_pos T (by omega), by omega, by omega⟩⟩
    generalize T.root = rt at c1 ch
    rw [nd_high] at ch
    generalize T.high = hh at ch HE
    clear hw hD hM h he hs
    go_enter Tryz.func14, Tryz.ntmps14
    go_wp2_with fail
    go_ret
    exact ⟨⟨hh, rfl, HE.out⟩, rfl⟩
theorem lawHigh_calls (n : Int) (m : Nat) (w : World) (h : HighOk n m) : Calls Tryz.prog 13 #[.int .i64 n, .int .i64 m] w fun e w' => e = .returned (.bool true) ∧ w' = w := by
  by_cases hm : m < 2
  · have e0 := h.1 hm
    subst e0
    have t0 : decide ((m : Int) < 2) = true := by simp; omega
    clear h hm
    go_enter Tryz.func13, Tryz.ntmps13
    go_wp2_with fail
    go_ret
    exact ⟨rfl, rfl⟩
  · obtain ⟨a1, a2, a3⟩ := h.2 (by omega)
    have t0 : decide ((m : Int) < 2) = false := by simp; omega
    have t1 : decide (n < 1) = false := by simp; omega
    have t1' : decide (1 ≤ n) = true := by simp; omega
    have t2 : decide (n < (m : Int)) = true := by simp; omega
    have t3 : decide (n ≤ 40) = true := by simp; omega
    clear h hm a1 a2 a3
    go_enter Tryz.func13, Tryz.ntmps13
    go_wp2_with fail
    go_ret
    exact ⟨rfl, rfl⟩
end Go.Proofs.YtdhbcgdlmkkdfaaGreatDoor
/- broad.Tree.Query: the numbers of the boxes that meet a box, rising: whatever the tree and the box. -/
namespace Go.Proofs.YtdhbcgdlmkkdfaaGreatDoor
open Go.ChangeShapes Go.WideShapes Go.ChangeAt Go.RowKit Go.Sort Go.Shelf Go.Lib
set_option linter.unusedVariables false
set_option linter.unusedSimpArgs false

/-- The numbers of the boxes that meet q. -/
def meetM (M : List (Int × Bx)) (q : Bx) : List Int := (M.filter fun p => meetX p.2 q).map Prod.fst
theorem meetM_perm {M N : List (Int × Bx)} (p : M.Perm N) (q : Bx) : (meetM M q).Perm (meetM N q) := (p.filter _).map _
theorem meetM_boxes (L : List Lf) (q : Bx) : meetM (boxesOf L) q = idsOf q L := by
  unfold meetM boxesOf idsOf
  induction L with
  | nil => rfl
  | cons x L ih =>
    simp only [List.map_cons, List.filter_cons]
    split
    · simp only [List.map_cons, ih]
    · exact ih
theorem meetM_nodup {M : List (Int × Bx)} (h : (M.map Prod.fst).Nodup) (q : Bx) : (meetM M q).Nodup :=
  List.Nodup.sublist ((List.filter_sublist).map _) h
/-- What Query reads. -/
def QS (t rt k : Nat) (q : Bx) (w w' : World) : Prop := Only [] w w' ∧ w'.cell? ⟨t, 1, none⟩ = some (.pointer (some ⟨rt, 0, none⟩)) ∧ w'.cell? ⟨k, 0, none⟩ = some (.int .i64 q.x0) ∧ w'.cell? ⟨k, 1, none⟩ = some (.int .i64 q.x1) ∧ w'.cell? ⟨k, 2, none⟩ = some (.int .i64 q.x2) ∧ w'.cell? ⟨k, 3, none⟩ = some (.int .i64 q.x3) ∧ w'.cell? ⟨k, 4, none⟩ = some (.int .i64 q.x4) ∧ w'.cell? ⟨k, 5, none⟩ = some (.int .i64 q.x5)
def QN (t k : Nat) (q : Bx) (w w' : World) : Prop := Only [] w w' ∧ w'.cell? ⟨t, 1, none⟩ = some (.pointer none) ∧ w'.cell? ⟨k, 0, none⟩ = some (.int .i64 q.x0) ∧ w'.cell? ⟨k, 1, none⟩ = some (.int .i64 q.x1) ∧ w'.cell? ⟨k, 2, none⟩ = some (.int .i64 q.x2) ∧ w'.cell? ⟨k, 3, none⟩ = some (.int .i64 q.x3) ∧ w'.cell? ⟨k, 4, none⟩ = some (.int .i64 q.x4) ∧ w'.cell? ⟨k, 5, none⟩ = some (.int .i64 q.x5)
theorem QS.of {t rt k : Nat} {q : Bx} {fat : Int} {lv : Option Nat} {w w' : World} (o : Only [] w w') (ht : TreeAt w t fat (some rt) lv) (hq : BoxAt w k q) : QS t rt k q w w' := by
  have h := o.box (by simp) hq
  exact ⟨o, (o.tree (by simp) ht).c1, h.off 0, h.off 1, h.off 2, h.off 3, h.off 4, h.off 5⟩
theorem QN.of {t k : Nat} {q : Bx} {fat : Int} {lv : Option Nat} {w w' : World} (o : Only [] w w') (ht : TreeAt w t fat none lv) (hq : BoxAt w k q) : QN t k q w w' := by
  have h := o.box (by simp) hq
  exact ⟨o, (o.tree (by simp) ht).c1, h.off 0, h.off 1, h.off 2, h.off 3, h.off 4, h.off 5⟩
def QueryPost (w : World) (q : Bx) (M : List (Int × Bx)) (e : Ending) (w' : World) : Prop :=
  ∃ v xs, e = .returned v ∧ SlInts w' v xs ∧ xs.Perm (meetM M q) ∧ xs.Pairwise (fun x y => x < y) ∧ Only [] w w' ∧ (∀ b ∈ ownL v, w.heap.size ≤ b)
set_option maxRecDepth 100000 in
theorem query_calls (t : Nat) (fat : Int) (D : List Nat) (M : List (Int × Bx)) (q : Bx) (w : World) (h : TreeIs w t fat D M) :
    Calls Tryz.prog 10 #[.pointer (some ⟨t, 0, none⟩), .agg #[.int .i64 (q.x0), .int .i64 (q.x1), .int .i64 (q.x2), .int .i64 (q.x3), .int .i64 (q.x4), .int .i64 (q.x5)]] w (QueryPost w q M) := by
  obtain ⟨T, lv, hw, hD, hM⟩ := h.ex
  cases T with
  | none =>
    have HM : Hid (meetM M q = []) := by
      have := hM.length_eq; simp [boxesOf, leavesO] at this
      show meetM M q = []; rw [this]; rfl
    have HT : Hid (TreeAt w t fat none lv) := hw.tree
    clear hw hD hM h
    go_enter Tryz.func10, Tryz.ntmps10
    go_wp2_with fail
    have H0 : Hid (Only [] w (w.alloc (.cells #[.int .i64 (q.x0), .int .i64 (q.x1), .int .i64 (q.x2), .int .i64 (q.x3), .int .i64 (q.x4), .int .i64 (q.x5)] 34)) ∧ BoxAt (w.alloc (.cells #[.int .i64 (q.x0), .int .i64 (q.x1), .int .i64 (q.x2), .int .i64 (q.x3), .int .i64 (q.x4), .int .i64 (q.x5)] 34)) w.heap.size q) := ⟨(Only.refl [] w).alloc _, (MapKept.heap_alloc w _).1⟩
    revert H0
    generalize World.alloc w _ = w1
    intro H0
    have HPS : Hid (∀ w', Only [] w1 w' → QN t w.heap.size q w1 w') := fun w' o => QN.of o (H0.out.1.tree (by simp) HT.out) H0.out.2
    have HK : Hid (w.heap.size = w.heap.size) := rfl
    generalize hk : w.heap.size = kk at HPS ⊢
    have HKK : Hid (w.heap.size = kk) := hk
    clear hk HK
    refine wp_region_held_drew (S := (fun w' => Only [] w1 w' ∧ w'.cell? ⟨t, 1, none⟩ = some (.pointer none) ∧ w'.cell? ⟨kk, 0, none⟩ = some (.int .i64 q.x0) ∧ w'.cell? ⟨kk, 1, none⟩ = some (.int .i64 q.x1) ∧ w'.cell? ⟨kk, 2, none⟩ = some (.int .i64 q.x2) ∧ w'.cell? ⟨kk, 3, none⟩ = some (.int .i64 q.x3) ∧ w'.cell? ⟨kk, 4, none⟩ = some (.int .i64 q.x4) ∧ w'.cell? ⟨kk, 5, none⟩ = some (.int .i64 q.x5))) (by kernel_rfl) ?_ (fun hHeld1 => ?_)
    · (try dsimp only); exact HPS.out _ (Only.refl _ _).drew
    refine tkW 0 rfl ?_; refine tkW 1 rfl ?_; refine tkW 2 rfl ?_; refine tkW 3 rfl ?_
    try simp only [Act.put, List.setIfInBounds_toArray, List.set_cons_zero, List.set_cons_succ, List.getElem_toArray, List.getElem_cons_succ, List.getElem_cons_zero]
    refine tkW 4 rfl ?_
    try simp only [Act.put, List.setIfInBounds_toArray, List.set_cons_zero, List.set_cons_succ, List.getElem_toArray, List.getElem_cons_succ, List.getElem_cons_zero]
    refine wpAnyH_ready (rs := [5]) (by kernel_rfl) (by simp) ?_
    refine AllReadyH.cons rfl (fun K hK => ?_) AllReadyH.nil
    first | (with_reducible refine iteYes ?hcx ?htx; case hcx => kernel_rfl) | rw [if_pos (by rfl)]
    simp only [List.getElem_toArray, List.getElem_cons_succ, List.getElem_cons_zero]
    go_simp
    (go_at_call 22; refine (meeting_nil q (.slice none 0 0) _).mono ?_; rintro e w2 ⟨rfl, o2⟩)
    try go_wp2_with fail
    refine hK.out _ _ ?_ (fun hHeld2 => ?_)
    · (try dsimp only); exact HPS.out _ ((Only.refl [] w1).drew.trans o2)
    clear hK K hHeld1
    try simp only [Act.put, List.setIfInBounds_toArray, List.set_cons_zero, List.set_cons_succ, List.getElem_toArray, List.getElem_cons_succ, List.getElem_cons_zero]
    refine tkW 6 rfl ?_
    try simp only [Act.put, List.setIfInBounds_toArray, List.set_cons_zero, List.set_cons_succ, List.getElem_toArray, List.getElem_cons_succ, List.getElem_cons_zero]
    refine wpAnyH_done (by kernel_rfl) ?_ _
    have O2 : Hid (Only [] w w2) := H0.out.1.trans ((Only.refl [] w1).drew.trans o2)
    clear hHeld2 o2 HPS
    go_wp2_with fail
    refine (sortsI (.slice none 0 0) [] w2 (World.ownsRow_nil _ 0 _ _) (by simp)).mono ?_
    rintro e w3 ⟨rfl, hs3, o3⟩
    have H3 : Hid (Only [] w w3) := O2.out.trans (o3.mono (by simp [ownL, Value.ownBlock]))
    clear hs3 o3
    go_wp2_with fail
    go_ret
    exact ⟨_, [], rfl, World.ownsRow_nil _ 0 _ _, by rw [HM.out], List.Pairwise.nil, H3.out, by simp [ownL, Value.ownBlock]⟩
  | some T =>
    have HM : Hid (Fits T ∧ M.Perm (boxesOf T.leaves) ∧ T.leaves.length ≤ 60 ∧ (M.map Prod.fst).Nodup) := ⟨hw.fits, hM, by have := h.small; rw [hM.length_eq] at this; simpa [boxesOf, leavesO] using this, h.keys⟩
    have HT : Hid (TreeAt w t fat (some T.root) lv ∧ In w none T) := ⟨hw.tree, hw.inn.1⟩
    clear hw hD hM h
    go_enter Tryz.func10, Tryz.ntmps10
    go_wp2_with fail
    have H0 : Hid (Only [] w (w.alloc (.cells #[.int .i64 (q.x0), .int .i64 (q.x1), .int .i64 (q.x2), .int .i64 (q.x3), .int .i64 (q.x4), .int .i64 (q.x5)] 34)) ∧ BoxAt (w.alloc (.cells #[.int .i64 (q.x0), .int .i64 (q.x1), .int .i64 (q.x2), .int .i64 (q.x3), .int .i64 (q.x4), .int .i64 (q.x5)] 34)) w.heap.size q) := ⟨(Only.refl [] w).alloc _, (MapKept.heap_alloc w _).1⟩
    revert H0
    generalize World.alloc w _ = w1
    intro H0
    have HPS : Hid (∀ w', Only [] w1 w' → QS t T.root w.heap.size q w1 w') := fun w' o => QS.of o (H0.out.1.tree (by simp) HT.out.1) H0.out.2
    generalize hk : w.heap.size = kk at HPS ⊢
    have HKK : Hid (w.heap.size = kk) := hk
    clear hk
    generalize hrt : T.root = rt at HPS
    have HRT : Hid (T.root = rt) := hrt
    clear hrt
    refine wp_region_held_drew (S := (fun w' => Only [] w1 w' ∧ w'.cell? ⟨t, 1, none⟩ = some (.pointer (some ⟨rt, 0, none⟩)) ∧ w'.cell? ⟨kk, 0, none⟩ = some (.int .i64 q.x0) ∧ w'.cell? ⟨kk, 1, none⟩ = some (.int .i64 q.x1) ∧ w'.cell? ⟨kk, 2, none⟩ = some (.int .i64 q.x2) ∧ w'.cell? ⟨kk, 3, none⟩ = some (.int .i64 q.x3) ∧ w'.cell? ⟨kk, 4, none⟩ = some (.int .i64 q.x4) ∧ w'.cell? ⟨kk, 5, none⟩ = some (.int .i64 q.x5))) (by kernel_rfl) ?_ (fun hHeld1 => ?_)
    · (try dsimp only); exact HPS.out _ (Only.refl _ _).drew
    refine tkW 0 rfl ?_; refine tkW 1 rfl ?_; refine tkW 2 rfl ?_; refine tkW 3 rfl ?_
    try simp only [Act.put, List.setIfInBounds_toArray, List.set_cons_zero, List.set_cons_succ, List.getElem_toArray, List.getElem_cons_succ, List.getElem_cons_zero]
    refine tkW 4 rfl ?_
    try simp only [Act.put, List.setIfInBounds_toArray, List.set_cons_zero, List.set_cons_succ, List.getElem_toArray, List.getElem_cons_succ, List.getElem_cons_zero]
    refine wpAnyH_ready (rs := [5]) (by kernel_rfl) (by simp) ?_
    refine AllReadyH.cons rfl (fun K hK => ?_) AllReadyH.nil
    first | (with_reducible refine iteYes ?hcx ?htx; case hcx => kernel_rfl) | rw [if_pos (by rfl)]
    simp only [List.getElem_toArray, List.getElem_cons_succ, List.getElem_cons_zero]
    go_simp
    (go_at_call 22; rw [← HRT.out]; refine (meeting_tells q T _ none (.slice none 0 0) [] (by exact HT.out.2.only (H0.out.1.trans (Only.refl [] w1).drew) (by simp)) (by exact World.ownsRow_nil _ 0 _ _) (by have h1 := HM.out.2.2.1; simp; omega)).mono ?_; rintro e w2 ⟨v2, rfl, hs2, o2, hb2⟩)
    try go_wp2_with fail
    refine hK.out _ _ ?_ (fun hHeld2 => ?_)
    · (try dsimp only); exact HPS.out _ ((Only.refl [] w1).drew.trans o2)
    clear hK K hHeld1
    try simp only [Act.put, List.setIfInBounds_toArray, List.set_cons_zero, List.set_cons_succ, List.getElem_toArray, List.getElem_cons_succ, List.getElem_cons_zero]
    refine tkW 6 rfl ?_
    try simp only [Act.put, List.setIfInBounds_toArray, List.set_cons_zero, List.set_cons_succ, List.getElem_toArray, List.getElem_cons_succ, List.getElem_cons_zero]
    refine wpAnyH_done (by kernel_rfl) ?_ _
    have O2 : Hid (Only [] w w2 ∧ SlInts w2 v2 (meetIds q T) ∧ (∀ b ∈ ownL v2, w.heap.size ≤ b)) := ⟨H0.out.1.trans ((Only.refl [] w1).drew.trans o2), by simpa using hs2, fun b hb => by
      rcases hb2 b hb with z | z
      · simp [ownL, Value.ownBlock] at z
      · exact Nat.le_trans H0.out.1.size z⟩
    clear hHeld2 o2 HPS hs2 hb2
    go_wp2_with fail
    refine (sortsI v2 (meetIds q T) w2 O2.out.2.1 (by have h1 := HM.out.2.2.1; have h2 := meetIds_le q T; omega)).mono ?_
    rintro e w3 ⟨rfl, hs3, o3⟩
    have H3 : Hid (SlInts w3 v2 (sortZ (meetIds q T)) ∧ Only (ownL v2) w2 w3) := ⟨hs3, o3⟩
    clear hs3 o3
    go_wp2_with fail
    go_ret
    have e1 : (meetIds q T).Perm (meetM M q) := by
      rw [meetIds_eq q T HM.out.1, ← meetM_boxes]
      exact (meetM_perm HM.out.2.1 q).symm
    refine ⟨_, _, rfl, H3.out.1, (sortZ_perm _).trans e1, sortZ_lt _ (e1.symm.nodup (meetM_nodup HM.out.2.2.2 q)), ?_, O2.out.2.2⟩
    exact O2.out.1.then H3.out.2 (fun b hb => Or.inr (O2.out.2.2 b hb))
end Go.Proofs.YtdhbcgdlmkkdfaaGreatDoor
/- The law's own map of boxes as it lies in memory. -/
namespace Go.Proofs.YtdhbcgdlmkkdfaaGreatDoor
open Go.ChangeShapes Go.WideShapes Go.ChangeAt Go.RowKit
open Go.Maps (Keyed)
set_option linter.unusedVariables false
set_option linter.unusedSimpArgs false

def boxV (q : Bx) : Value := .agg #[.int .i64 (q.x0), .int .i64 (q.x1), .int .i64 (q.x2), .int .i64 (q.x3), .int .i64 (q.x4), .int .i64 (q.x5)]
def boxD (q : Bx) : DataW Unit := .agg [.lit (.int .i64 q.x0), .lit (.int .i64 q.x1), .lit (.int .i64 q.x2), .lit (.int .i64 q.x3), .lit (.int .i64 q.x4), .lit (.int .i64 q.x5)]
/-- How an element of the map reads: a box by its six numbers. -/
def boxElem (v : Value) : Option (DataW Unit × List MemPlace) :=
  match v with
  | .agg a => match a.toList with
    | [.int .i64 a0, .int .i64 a1, .int .i64 a2, .int .i64 a3, .int .i64 a4, .int .i64 a5] => some (boxD ⟨a0, a1, a2, a3, a4, a5⟩, [])
    | _ => none
  | _ => none
theorem boxElem_of (q : Bx) : boxElem (boxV q) = some (boxD q, []) := rfl
theorem boxElem_some {v : Value} {q : Bx} {ps : List MemPlace} (h : boxElem v = some (boxD q, ps)) : v = boxV q := by
  unfold boxElem at h
  split at h
  · rename_i a
    split at h
    · rename_i a0 a1 a2 a3 a4 a5 he
      simp only [boxD, Option.some.injEq, Prod.mk.injEq, DataW.agg.injEq, List.cons.injEq, DataW.lit.injEq, Lit.int.injEq, true_and, and_true] at h
      obtain ⟨⟨rfl, rfl, rfl, rfl, rfl, rfl⟩, _⟩ := h
      have : a = a.toList.toArray := by simp
      rw [this, he]; rfl
    · cases h
  · cases h
structure BookM (D : DataW Unit) (M : List (Int × Bx)) : Prop where
  tidy : Maps.Tidy D
  nodup : (M.map Prod.fst).Nodup
  there : ∀ p ∈ M, D.atKey (key p.1) (boxD bx0) = boxD p.2
  has : ∀ i, Maps.has D (key i) = true ↔ i ∈ M.map Prod.fst
  size : Maps.size D = M.length
theorem BookM.gone {D : DataW Unit} {M : List (Int × Bx)} (h : BookM D M) {i : Int} (hi : i ∉ M.map Prod.fst) : Maps.has D (key i) = false := by
  cases hh : Maps.has D (key i)
  · rfl
  · exact absurd ((h.has i).1 hh) hi
theorem BookM.empty : BookM (.map []) [] := ⟨Maps.tidy_empty, by simp, by simp, fun i => by simp [Maps.has], rfl⟩
theorem del_sub (M : List (Int × Bx)) (i : Int) : ∀ p, p ∈ del M i ↔ p ∈ M ∧ p.1 ≠ i := fun p => by unfold del; simp
theorem del_keys (M : List (Int × Bx)) (i j : Int) : j ∈ (del M i).map Prod.fst ↔ j ∈ M.map Prod.fst ∧ j ≠ i := by
  simp only [List.mem_map, del_sub]
  constructor
  · rintro ⟨p, ⟨h1, h2⟩, rfl⟩; exact ⟨⟨p, h1, rfl⟩, h2⟩
  · rintro ⟨⟨p, h1, rfl⟩, h2⟩; exact ⟨p, ⟨h1, h2⟩, rfl⟩
theorem del_nodup {M : List (Int × Bx)} (h : (M.map Prod.fst).Nodup) (i : Int) : ((del M i).map Prod.fst).Nodup := List.Nodup.sublist ((List.filter_sublist).map _) h
theorem del_len : ∀ {M : List (Int × Bx)}, (M.map Prod.fst).Nodup → ∀ {i : Int}, i ∈ M.map Prod.fst → (del M i).length + 1 = M.length
  | [], _, i, hi => by simp at hi
  | p :: M, hn, i, hi => by
    simp only [List.map_cons, List.nodup_cons] at hn
    by_cases e : p.1 = i
    · have : i ∉ M.map Prod.fst := e ▸ hn.1
      have h1 := del_none this
      unfold del at h1 ⊢
      simp [List.filter_cons, e, h1]
    · have hi' : i ∈ M.map Prod.fst := by
        rcases List.mem_cons.1 hi with q | q
        · exact absurd q.symm e
        · exact q
      have := del_len hn.2 hi'
      unfold del at this ⊢
      simp [List.filter_cons, e, this]
theorem BookM.put {D : DataW Unit} {M : List (Int × Bx)} (h : BookM D M) (i : Int) (q : Bx) : BookM (D.put (key i) (boxD q)) (put M i q) := by
  refine ⟨h.tidy.put (keyLit _) _, ?_, fun p hp => ?_, fun j => ?_, ?_⟩
  · simp only [Go.Proofs.YtdhbcgdlmkkdfaaGreatDoor.put, List.map_cons, List.nodup_cons]
    exact ⟨fun hh => ((del_keys M i i).1 hh).2 rfl, del_nodup h.nodup i⟩
  · rcases List.mem_cons.1 hp with rfl | hp
    · exact Maps.atKey_put_same h.tidy.isMap (keyLit _) _ _
    · obtain ⟨h1, h2⟩ := (del_sub M i p).1 hp
      rw [Maps.atKey_put_other (key_ne h2)]; exact h.there p h1
  · simp only [Go.Proofs.YtdhbcgdlmkkdfaaGreatDoor.put, List.map_cons, List.mem_cons, del_keys]
    by_cases e : j = i
    · subst e; simp [Maps.has_put_same h.tidy.isMap (keyLit _)]
    · rw [Maps.has_put_other (key_ne e), h.has j]; simp [e]
  · rw [Maps.size_put h.tidy]
    simp only [Go.Proofs.YtdhbcgdlmkkdfaaGreatDoor.put, List.length_cons]
    by_cases e : i ∈ M.map Prod.fst
    · rw [(h.has i).2 e, h.size]; have := del_len h.nodup e; simp; omega
    · rw [h.gone e, h.size, del_none e]; simp
theorem BookM.del {D : DataW Unit} {M : List (Int × Bx)} (h : BookM D M) {i : Int} (hi : i ∈ M.map Prod.fst) : BookM (D.del (key i)) (del M i) := by
  refine ⟨h.tidy.del _, del_nodup h.nodup i, fun p hp => ?_, fun j => ?_, ?_⟩
  · obtain ⟨h1, h2⟩ := (del_sub M i p).1 hp
    rw [Maps.atKey_del_other (key_ne h2)]; exact h.there p h1
  · rw [del_keys]
    by_cases e : j = i
    · subst e; rw [Maps.has_del_same]; simp
    · rw [Maps.has_del_other (key_ne e), h.has j]; simp [e]
  · have s := Maps.size_del (k := key i) h.tidy
    rw [(h.has i).2 hi, h.size] at s
    have := del_len h.nodup hi
    simp only [if_true] at s
    omega
/-- The law's map at block m has just these boxes. -/
def BMap (w : World) (m : Nat) (M : List (Int × Bx)) : Prop := ∃ MD : DataW Unit, w.ownsMap Tryz.prog 3 boxElem m M.length MD ∧ BookM MD M
theorem BMap.lt {w : World} {m : Nat} {M : List (Int × Bx)} (h : BMap w m M) : m < w.heap.size := by obtain ⟨_, h1, _⟩ := h; exact h1.lt
theorem BMap.only {D : List Nat} {w w' : World} {m : Nat} {M : List (Int × Bx)} (h : BMap w m M) (o : Only D w w') (s : m ∉ D) : BMap w' m M := by
  obtain ⟨MD, h1, h2⟩ := h
  have hlt := h1.lt
  obtain ⟨es, clock, hb, r⟩ := h1
  exact ⟨MD, ⟨es, clock, (o.block m hlt s).trans hb, r⟩, h2⟩
theorem bmap_fit {w : World} {m n : Nat} {MD : DataW Unit} {M : List (Int × Bx)} (h : w.ownsMap Tryz.prog 3 boxElem m n MD) (b : BookM MD M) : BMap w m M := by
  refine ⟨MD, ?_, b⟩
  obtain ⟨es, clock, hb, F, hs, rfl⟩ := h
  refine ⟨es, clock, hb, F, ?_, rfl⟩
  have := b.size
  simp only [Maps.size, length_sorted, List.length_map, Array.length_toList] at this
  omega
theorem zeroBox (w : World) : (zeroValue 37).run Tryz.prog w = .ok (boxV bx0) w := by kernel_rfl
theorem BMap.look_none {w : World} {m : Nat} {M : List (Int × Bx)} (h : BMap w m M) {i : Int} (hi : In64 i) (hn : i ∉ M.map Prod.fst) : (Instr.lookup 30 (.map (some m)) (.int .i64 i) true).run Tryz.prog w = .ok (.tuple #[boxV bx0, .bool false]) w := by
  obtain ⟨MD, h1, h2⟩ := h
  obtain ⟨v, ps, hr, hv⟩ := h1.look_ok intKey Tryz.underlying30 (zeroBox w) (boxElem_of bx0) (keyIs hi)
  have hf := h2.gone hn
  rw [Maps.atKey_of_not_has hf] at hv
  rw [hr, hf, boxElem_some hv]
theorem BMap.look_some {w : World} {m : Nat} {M : List (Int × Bx)} (h : BMap w m M) {i : Int} {q : Bx} (hi : In64 i) (hx : (i, q) ∈ M) : (Instr.lookup 30 (.map (some m)) (.int .i64 i) true).run Tryz.prog w = .ok (.tuple #[boxV q, .bool true]) w := by
  obtain ⟨MD, h1, h2⟩ := h
  obtain ⟨v, ps, hr, hv⟩ := h1.look_ok intKey Tryz.underlying30 (zeroBox w) (boxElem_of bx0) (keyIs hi)
  rw [h2.there (i, q) hx] at hv
  rw [hr, (h2.has i).2 (List.mem_map_of_mem hx), boxElem_some hv]
theorem BMap.len {w : World} {m : Nat} {M : List (Int × Bx)} (h : BMap w m M) (ty : TypeId) : (Builtin.len_ #[30] ty #[.map (some m)]).run Tryz.prog w = .ok (.int .i64 (M.length)) w := by
  obtain ⟨MD, h1, h2⟩ := h
  rw [h1.len Tryz.underlying30 ty, h2.size]
end Go.Proofs.YtdhbcgdlmkkdfaaGreatDoor
