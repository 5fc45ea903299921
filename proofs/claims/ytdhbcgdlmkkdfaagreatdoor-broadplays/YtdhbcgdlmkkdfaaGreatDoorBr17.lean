/- broad.Tree.Put, at a tree that has boxes: whatever they are. -/
import Derived.Test.YtdhbcgdlmkkdfaaGreatDoorBr16
namespace Go.Proofs.YtdhbcgdlmkkdfaaGreatDoor
open Go.ChangeShapes Go.WideShapes Go.ChangeAt Go.RowKit
open Go.Maps (Keyed)
set_option linter.unusedVariables false
set_option linter.unusedSimpArgs false

/-- A leaf's box is another one. -/
def Tr.setBox (b : Nat) (q : Bx) : Tr → Tr
  | ⟨b', .inl (id, box, room)⟩ => if b' = b then .leaf b' id q room else .leaf b' id box room
  | ⟨b', .inr (l, r)⟩ => .node b' (l.setBox b q) (r.setBox b q)
theorem setBox_high (b : Nat) (q : Bx) : ∀ T : Tr, (T.setBox b q).high = T.high
  | ⟨_, .inl (_, _, _)⟩ => by unfold Tr.setBox; split <;> rfl
  | ⟨_, .inr (l, r)⟩ => by simp only [Tr.setBox, Tr.high, setBox_high b q l, setBox_high b q r]
theorem setBox_room (b : Nat) (q : Bx) : ∀ T : Tr, (T.setBox b q).room = T.room
  | ⟨_, .inl (_, _, _)⟩ => by unfold Tr.setBox; split <;> rfl
  | ⟨_, .inr (l, r)⟩ => by simp only [Tr.setBox, Tr.room, setBox_room b q l, setBox_room b q r]
theorem setBox_root (b : Nat) (q : Bx) : ∀ T : Tr, (T.setBox b q).root = T.root
  | ⟨_, .inl (_, _, _)⟩ => by unfold Tr.setBox; split <;> rfl
  | ⟨_, .inr (l, r)⟩ => rfl
theorem setBox_blocks (b : Nat) (q : Bx) : ∀ T : Tr, (T.setBox b q).blocks = T.blocks
  | ⟨_, .inl (_, _, _)⟩ => by unfold Tr.setBox; split <;> rfl
  | ⟨_, .inr (l, r)⟩ => by simp only [Tr.setBox, Tr.blocks, setBox_blocks b q l, setBox_blocks b q r]
theorem setBox_bal (b : Nat) (q : Bx) : ∀ T : Tr, Bal T → Bal (T.setBox b q)
  | ⟨_, .inl (_, _, _)⟩, _ => by unfold Tr.setBox; split <;> trivial
  | ⟨_, .inr (l, r)⟩, h => by simp only [Tr.setBox, Bal, setBox_high]; exact ⟨setBox_bal b q l h.1, setBox_bal b q r h.2.1, h.2.2⟩
theorem setBox_id (b : Nat) (q : Bx) : ∀ T : Tr, b ∉ T.blocks → T.setBox b q = T
  | ⟨_, .inl (_, _, _)⟩, h => by unfold Tr.setBox; rw [if_neg (fun e => h (by simp [Tr.blocks, e]))]
  | ⟨_, .inr (l, r)⟩, h => by
    simp only [Tr.blocks, List.mem_cons, List.mem_append, not_or] at h
    simp only [Tr.setBox, setBox_id b q l h.2.1, setBox_id b q r h.2.2]
theorem setBox_leaves (b : Nat) (q : Bx) : ∀ T : Tr, (T.setBox b q).leaves = T.leaves.map (fun y => if y.b = b then { y with box := q } else y)
  | ⟨_, .inl (_, _, _)⟩ => by unfold Tr.setBox; split <;> simp [Tr.leaves, *]
  | ⟨_, .inr (l, r)⟩ => by simp only [Tr.setBox, Tr.leaves, setBox_leaves b q l, setBox_leaves b q r, List.map_append]
theorem setBox_nd (b : Nat) (q : Bx) (b' : Nat) (l r : Tr) (u : Option Nat) : ((Tr.node b' l r).setBox b q).nd u = (Tr.node b' l r).nd u := by
  simp only [Tr.setBox, nd_node, setBox_room, setBox_high, setBox_root]
theorem leaf_blocks : ∀ T : Tr, (T.leaves.map Lf.b).Sublist T.blocks
  | ⟨_, .inl (_, _, _)⟩ => by simp [Tr.leaves, Tr.blocks]
  | ⟨b, .inr (l, r)⟩ => by simp only [Tr.leaves, Tr.blocks, List.map_append]; exact ((leaf_blocks l).append (leaf_blocks r)).cons b
theorem setBox_in {w w' : World} {x : Lf} {q : Bx} (o : Only [x.b] w w') (hx : ∀ u, NodeAt w x.b (x.tree.nd u) → NodeAt w' x.b ((Tr.leaf x.b x.id q x.room).nd u)) : ∀ (T : Tr) (u : Option Nat), T.blocks.Nodup → x ∈ T.leaves → In w u T → In w' u (T.setBox x.b q)
  | ⟨b, .inl (id, box, room)⟩, u, _, hm, h => by
    simp only [Tr.leaves, List.mem_singleton] at hm
    subst hm
    simp only [Tr.setBox, if_true]
    exact hx u h
  | ⟨b, .inr (l, r)⟩, u, nd, hm, h => by
    simp only [Tr.blocks, List.nodup_cons, List.mem_append, not_or, List.nodup_append] at nd
    simp only [Tr.leaves, List.mem_append] at hm
    have key : b ≠ x.b := fun e => by
      rcases hm with q | q
      · exact nd.1.1 (e ▸ leaf_block q)
      · exact nd.1.2 (e ▸ leaf_block q)
    have hn : NodeAt w' b (((Tr.node b l r).setBox x.b q).nd u) := by rw [setBox_nd]; exact o.node (by simp [key]) h.1
    rcases hm with hm | hm
    · have hr : x.b ∉ r.blocks := fun hb => nd.2.2.2 _ (leaf_block hm) _ hb rfl
      refine ⟨hn, setBox_in o hx l (some b) nd.2.1 hm h.2.1, ?_⟩
      rw [setBox_id x.b q r hr]
      exact h.2.2.only o (fun y hy => by simp; exact fun e => hr (e ▸ hy))
    · have hl : x.b ∉ l.blocks := fun hb => nd.2.2.2 _ hb _ (leaf_block hm) rfl
      refine ⟨hn, ?_, setBox_in o hx r (some b) nd.2.2.1 hm h.2.2⟩
      rw [setBox_id x.b q l hl]
      exact h.2.1.only o (fun y hy => by simp; exact fun e => hl (e ▸ hy))
theorem setBox_perm {T : Tr} {x : Lf} {L : List Lf} (nd : T.blocks.Nodup) (p : T.leaves.Perm (x :: L)) (q : Bx) : (T.setBox x.b q).leaves.Perm ({ x with box := q } :: L) := by
  rw [setBox_leaves]
  refine (p.map _).trans ?_
  simp only [List.map_cons, if_true]
  refine List.Perm.cons _ (List.Perm.of_eq ?_)
  have hn : ((x :: L).map Lf.b).Nodup := (p.map _).nodup (nd.sublist (leaf_blocks T))
  simp only [List.map_cons, List.nodup_cons] at hn
  conv => rhs; rw [← List.map_id L]
  refine List.map_congr_left (fun y hy => ?_)
  rw [if_neg (fun e => hn.1 (by rw [← e]; exact List.mem_map_of_mem hy))]; rfl

/-- The box alone has been written anew. -/
theorem put_stay_done {w w1 w2 : World} {t : Nat} {fat : Int} {D : List Nat} {M : List (Int × Bx)} {q : Bx} {m : Nat} {T : Tr} {x : Lf} (hT : TreeIs w t fat D M) (hw : Whole w1 t fat (some T) (some m)) (hD : D = t :: m :: T.blocks) (hM : M.Perm (boxesOf T.leaves)) (hx : x ∈ T.leaves) (hq : withinX q x.room = true)
    (o1 : Only [] w w1) (o2 : Only [x.b] w1 w2) (hn : ∀ n, NodeAt w1 x.b n → NodeAt w2 x.b { n with box := q }) : TreeIs w2 t fat D (put M x.id q) ∧ Only D w w2 := by
  have nd := hw.nodup
  simp only [Option.toList_some, List.cons_append, List.nil_append, blocksO, List.nodup_cons, List.mem_cons, not_or] at nd
  have hb := leaf_block hx
  obtain ⟨L, pL⟩ := perm_find hx
  have p2 := setBox_perm nd.2.2 pL q
  obtain ⟨MD, hown, hbk⟩ := hw.book
  have hbk2 : Book MD (T.setBox x.b q).leaves := ((hbk.perm pL).box (y := { x with box := q }) rfl rfl).perm p2.symm
  have hmlt := hown.lt
  have hown2 : w2.ownsMap Tryz.prog 3 nodeElem m T.leaves.length MD := by
    obtain ⟨es, clock, hb', r⟩ := hown
    exact ⟨es, clock, (o2.block m hmlt (by simp; exact fun e => nd.2.1 (e ▸ hb))).trans hb', r⟩
  have hpm : (put M x.id q).Perm (boxesOf (T.setBox x.b q).leaves) := by
    refine List.Perm.trans ?_ (p2.map _).symm
    refine List.Perm.cons _ ?_
    have hp2 : M.Perm ((x.id, x.box) :: boxesOf L) := hM.trans (pL.map _)
    have hk := (hp2.map Prod.fst).nodup hT.keys
    simp only [List.map_cons, List.nodup_cons] at hk
    have := del_perm hp2 x.id
    rwa [del_head hk.1] at this
  refine ⟨⟨⟨some (T.setBox x.b q), some m, ⟨?_, ⟨?_, setBox_bal _ _ _ hw.inn.2⟩, ?_, ⟨MD, ownsMap_fit hown2 hbk2, hbk2⟩, ?_⟩, ?_, hpm⟩, hT.fat0, ?_, ?_, ?_⟩, (o1.mono (by simp)).trans (o2.mono (fun b hb' => Or.inl ?_))⟩
  · have := o2.tree (by simp; exact fun e => nd.1.2 (e ▸ hb)) hw.tree
    simpa [rootO, setBox_root] using this
  · exact setBox_in o2 (fun u hu => hn _ hu) T none nd.2.2 hx hw.inn.1
  · intro y hy
    rcases List.mem_cons.1 (p2.mem_iff.1 hy) with rfl | hy
    · exact hq
    · exact hw.fits y (pL.mem_iff.2 (List.mem_cons_of_mem _ hy))
  · simp only [Option.toList_some, List.cons_append, List.nil_append, blocksO, setBox_blocks, List.nodup_cons, List.mem_cons, not_or]; exact nd
  · simp only [Option.toList_some, List.cons_append, List.nil_append, blocksO, setBox_blocks]; exact hD
  · have := hpm.length_eq; have h2 := p2.length_eq; have h3 := pL.length_eq; have h4 := hM.length_eq; have := hT.small; simp only [boxesOf, List.length_map, List.length_cons] at *; omega
  · simp only [put, List.map_cons, List.nodup_cons]
    refine ⟨fun hb' => ?_, hT.keys.sublist (List.filter_sublist.map _)⟩
    obtain ⟨p, hp, e⟩ := List.mem_map.1 hb'
    have := (List.mem_filter.1 hp).2
    simp [e] at this
  · intro p hp
    rcases List.mem_cons.1 hp with rfl | hp
    · exact hT.ids (x.id, x.box) (hM.mem_iff.2 (List.mem_map_of_mem (f := fun x : Lf => (x.id, x.box)) hx))
    · exact hT.ids p (List.mem_filter.1 hp).1
  · simp only [List.mem_singleton] at hb'
    rw [hb', hD]; simp [hb]

set_option maxRecDepth 100000 in
theorem put_next (t : Nat) (fat : Int) (D : List Nat) (M : List (Int × Bx)) (i : Int) (q : Bx) (w : World) (h : TreeIs w t fat D M) (hi : In64 i) (hr : rightC q = 0) (T : Option Tr) (m : Nat) (hw : Whole w t fat T (some m)) (hD : D = t :: ((some m).toList ++ blocksO T)) (hM : M.Perm (boxesOf (leavesO T))) (hni : i ∉ (leavesO T).map Lf.id) (hl : M.length < 60) (hn : i ∉ M.map Prod.fst) :
    Calls Tryz.prog 8 #[.pointer (some ⟨t, 0, none⟩), .int .i64 i, .agg #[.int .i64 (q.x0), .int .i64 (q.x1), .int .i64 (q.x2), .int .i64 (q.x3), .int .i64 (q.x4), .int .i64 (q.x5)]] w fun e w' => e = .returned .nilIface ∧ ∃ D', TreeIs w' t fat D' (put M i q) ∧ (∀ b ∈ D', b ∈ D ∨ w.heap.size ≤ b) ∧ Only D w w' := by
  have HE := errV0 hr
  have HF : Hid (withinX q (fatX q fat) = true) := fat_within hr h.fat0.1 h.fat0.2
  have H0 : Hid (TreeIs w t fat D M ∧ Whole w t fat T (some m) ∧ D = t :: m :: blocksO T ∧ M.Perm (boxesOf (leavesO T)) ∧ i ∉ (leavesO T).map Lf.id ∧ i ∉ M.map Prod.fst ∧ (leavesO T).length < 60) := ⟨h, hw, hD, hM, hni, hn, by have := hM.length_eq; simp only [boxesOf, List.length_map] at this; omega⟩
  clear hw hD hM hni h hr hl hn
  go_enter Tryz.func8, Tryz.ntmps8
  go_wp2_with fail
  refine (right_calls q _).mono ?_
  rw [HE]
  rintro e w1 ⟨rfl, k1⟩
  have o0 : Hid (Kept w w1 ∧ BoxAt w1 w.heap.size q) := ⟨((Kept.refl w).alloc _ _).trans k1, (Only.of_kept (D := []) k1).box (by simp) (MapKept.heap_alloc w _).1⟩
  clear k1 HE

  have hw1 : Whole w1 t fat T (some m) := H0.out.2.1.only (.of_kept (D := []) o0.out.1) (by simp)
  have c2 := hw1.tree.c2
  have hl := hw1.book.look_none hi H0.out.2.2.2.2.1
  have hlen := fun ty => hw1.book.len ty
  have t1 := H0.out.2.2.2.2.2.2
  generalize (leavesO T).length = n at hlen t1
  have t2 : decide ((60 : Int) ≤ (n : Int)) = false := by simp; omega
  clear t1
  have heq := eqlBook (some m)
  simp only [Option.isNone_some] at heq
  have HT : Hid (∃ MD, Tail i q t fat m T MD w1) := by
    obtain ⟨MD, hown, hbk⟩ := hw1.book
    refine ⟨MD, ⟨hw1.tree, hw1.inn, hown.mono (by have := H0.out.2.2.2.2.2.2; omega), fun b room => hbk.put (x := ⟨b, i, q, room⟩) H0.out.2.2.2.2.1, by simpa using hw1.nodup, hw1.fits, H0.out.2.2.2.2.2.2⟩⟩
  have HL : Hid (∀ b ∈ t :: m :: blocksO T, b < w1.heap.size) := fun b hb => by
    have h1 := o0.out.1.below.size
    have h2 := H0.out.1.lt b (by rw [H0.out.2.2.1]; exact hb)
    omega
  clear hw1
  go_wp2_with fail
  obtain ⟨MD, ht⟩ := HT.out
  clear HT
  have HT : Hid (Tail i q t fat m T MD w1) := ht
  have HB : Hid (BoxAt w1 w.heap.size q) := o0.out.2
  have HO : Hid (Only D w w1) := .of_kept o0.out.1
  clear ht c2 hl hlen t2 heq o0
  generalize hk : w.heap.size = k at HB ⊢
  clear hk
  generalize hwT : w1 = wT at HT HB HO HL ⊢
  clear hwT w1

  refine wp_region_held_drew (S := (fun w' => Kept wT w' ∧ w'.cell? ⟨k, 0, none⟩ = some (.int .i64 q.x0) ∧ w'.cell? ⟨k, 1, none⟩ = some (.int .i64 q.x1) ∧ w'.cell? ⟨k, 2, none⟩ = some (.int .i64 q.x2) ∧ w'.cell? ⟨k, 3, none⟩ = some (.int .i64 q.x3) ∧ w'.cell? ⟨k, 4, none⟩ = some (.int .i64 q.x4) ∧ w'.cell? ⟨k, 5, none⟩ = some (.int .i64 q.x5) ∧ w'.cell? ⟨t, 0, none⟩ = some (.int .i64 fat))) (by kernel_rfl) ?_ (fun hHeld1 => ?_)
  · (try dsimp only); exact FK.of (Kept.refl _).drew HB.out HT.out.tree
  refine tkW 0 rfl ?_; refine tkW 1 rfl ?_; refine tkW 2 rfl ?_; refine tkW 3 rfl ?_
  try simp only [Act.put, List.setIfInBounds_toArray, List.set_cons_zero, List.set_cons_succ, List.getElem_toArray, List.getElem_cons_succ, List.getElem_cons_zero]
  refine tkW 4 rfl ?_; refine tkW 5 rfl ?_; refine tkW 6 rfl ?_
  try simp only [Act.put, List.setIfInBounds_toArray, List.set_cons_zero, List.set_cons_succ, List.getElem_toArray, List.getElem_cons_succ, List.getElem_cons_zero]
  refine wpAnyH_ready (rs := [7]) (by kernel_rfl) (by simp) ?_
  refine AllReadyH.cons rfl (fun K hK => ?_) AllReadyH.nil
  first | (with_reducible refine iteYes ?hcx ?htx; case hcx => kernel_rfl) | rw [if_pos (by rfl)]
  simp only [List.getElem_toArray, List.getElem_cons_succ, List.getElem_cons_zero]
  go_simp
  (go_at_call 20; refine (gfat_calls _ _ _ _ _ _ _ _).mono ?_; rintro e w5 ⟨rfl, k5⟩)
  try go_wp2_with fail
  refine hK.out _ _ ?_ (fun hHeld2 => ?_)
  · (try dsimp only); exact FK.of (hHeld1.1.trans k5) HB.out HT.out.tree
  clear hK K hHeld1
  try simp only [Act.put, List.setIfInBounds_toArray, List.set_cons_zero, List.set_cons_succ, List.getElem_toArray, List.getElem_cons_succ, List.getElem_cons_zero]
  refine tkW 8 rfl ?_
  try simp only [Act.put, List.setIfInBounds_toArray, List.set_cons_zero, List.set_cons_succ, List.getElem_toArray, List.getElem_cons_succ, List.getElem_cons_zero]
  refine wpAnyH_ready (rs := [9]) (by kernel_rfl) (by simp) ?_
  refine AllReadyH.cons rfl (fun K hK => ?_) AllReadyH.nil
  first | (with_reducible refine iteYes ?hcx ?htx; case hcx => kernel_rfl) | rw [if_pos (by rfl)]
  simp only [List.getElem_toArray, List.getElem_cons_succ, List.getElem_cons_zero]
  go_simp
  refine hK.out _ _ ?_ (fun hHeld3 => ?_)
  · (try dsimp only); exact FK.of (hHeld2.1.alloc _ _) HB.out HT.out.tree
  clear hK K
  try simp only [Act.put, List.setIfInBounds_toArray, List.set_cons_zero, List.set_cons_succ, List.getElem_toArray, List.getElem_cons_succ, List.getElem_cons_zero]
  refine tkW 10 rfl ?_
  try simp only [Act.put, List.setIfInBounds_toArray, List.set_cons_zero, List.set_cons_succ, List.getElem_toArray, List.getElem_cons_succ, List.getElem_cons_zero]
  refine wpAnyH_done (by kernel_rfl) ?_ _
  have H5 : Hid (Kept wT w5) := hHeld2.1
  clear hHeld2 hHeld3
  generalize hw6 : World.alloc w5 _ = w6
  have n6 : NodeAt w6 w5.heap.size ((Tr.leaf w5.heap.size i q (fatX q fat)).nd none) := by rw [← hw6]; exact (MapKept.heap_alloc w5 _).1
  have o6 : Only [] wT w6 := by rw [← hw6]; exact ((Only.refl [] wT).trans (.of_kept H5.out)).alloc _
  have H6 : Hid (Tail i q t fat m T MD w6 ∧ Only [] wT w6 ∧ NodeAt w6 w5.heap.size ((Tr.leaf w5.heap.size i q (fatX q fat)).nd none) ∧ wT.heap.size ≤ w5.heap.size) := ⟨HT.out.only o6 (by simp), o6, n6, H5.out.below.size⟩
  clear hw6 n6 o6 H5
  generalize w5.heap.size = lf at H6 ⊢
  have hown := H6.out.1.own
  have d2 := H6.out.1.tree.c2
  have hln := H6.out.1.len
  go_wp2_with (first | (at_mapUpdate; refine wpList_mapUpdate_in _ rfl _ _ _ 53 rfl 3 52 intKey Tryz.underlying53 _ m _ MD rfl hown (by unfold maxLen; omega) _ _ _ rfl rfl (keyIs hi) (.lit (.int .i64 (lf : Int))) [] rfl ?_; intro w7 hown7 hturn7; have H7 : Hid (_ ∧ _) := ⟨hown7, hturn7⟩; clear hown7 hturn7 hown d2))
  obtain ⟨hown7, hturn7⟩ := H7.out
  have o7 : Only [m] w6 w7 := (Only.refl [m] w6).grown hturn7.grown (fun k hk => by injection hk with hk; exact Or.inl (by simp [hk]))
  refine (hang_tail (lf := lf) H6.out.1 H6.out.2.2.1 hown7 o7 (fun hb => by have h1 := H6.out.2.2.2; have h2 := HL.out _ hb; omega) (HF.out)).mono ?_
  rintro e w8 ⟨rfl, q8⟩
  have H8 : Hid _ := q8
  clear q8 hown7 hturn7 H7 o7
  go_wp2_with fail
  go_ret

  refine ⟨rfl, put_done H0.out.1 hi rfl rfl H6.out.1.len ?_ ?_ ?_ (HO.out.trans (H6.out.2.1.mono (by simp))) H8.out⟩
  · rw [del_none H0.out.2.2.2.2.2.1]; exact H0.out.2.2.2.1
  · intro b hb; rw [H0.out.2.2.1]; exact Or.inl hb
  · exact Nat.le_trans HO.out.size H6.out.2.2.2
end Go.Proofs.YtdhbcgdlmkkdfaaGreatDoor

