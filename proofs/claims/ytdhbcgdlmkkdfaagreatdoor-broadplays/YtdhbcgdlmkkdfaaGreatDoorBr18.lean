/- broad.Tree.Put, of a number that is there, and whole: whatever the tree, the number and the box. -/
import Derived.Test.YtdhbcgdlmkkdfaaGreatDoorBr17
namespace Go.Proofs.YtdhbcgdlmkkdfaaGreatDoor
open Go.ChangeShapes Go.WideShapes Go.ChangeAt Go.RowKit
open Go.Maps (Keyed)
set_option linter.unusedVariables false
set_option linter.unusedSimpArgs false

set_option maxRecDepth 100000 in
theorem put_again (t : Nat) (fat : Int) (D : List Nat) (M : List (Int × Bx)) (i : Int) (q : Bx) (w : World) (h : TreeIs w t fat D M) (hi : In64 i) (hr : rightC q = 0) (hn : i ∈ M.map Prod.fst) :
    Calls Tryz.prog 8 #[.pointer (some ⟨t, 0, none⟩), .int .i64 i, .agg #[.int .i64 (q.x0), .int .i64 (q.x1), .int .i64 (q.x2), .int .i64 (q.x3), .int .i64 (q.x4), .int .i64 (q.x5)]] w fun e w' => e = .returned .nilIface ∧ ∃ D', TreeIs w' t fat D' (put M i q) ∧ (∀ b ∈ D', b ∈ D ∨ w.heap.size ≤ b) ∧ Only D w w' := by
  obtain ⟨T, m, x, hw, hD, hM, hx, hxi⟩ := h.find hn
  have HE := errV0 hr
  have HF : Hid (withinX q (fatX q fat) = true) := fat_within hr h.fat0.1 h.fat0.2
  have b0 := h.fat0.1; have b1 := h.fat0.2
  have H0 : Hid (TreeIs w t fat D M ∧ Whole w t fat (some T) (some m) ∧ D = t :: m :: T.blocks ∧ M.Perm (boxesOf T.leaves) ∧ x ∈ T.leaves ∧ x.id = i) := ⟨h, hw, hD, hM, hx, hxi⟩
  clear hw hD hM h hr hn hx hxi
  go_enter Tryz.func8, Tryz.ntmps8
  go_wp2_with fail
  refine (right_calls q _).mono ?_
  rw [HE]
  rintro e w1 ⟨rfl, k1⟩
  have o0 : Hid (Kept w w1 ∧ BoxAt w1 w.heap.size q) := ⟨((Kept.refl w).alloc _ _).trans k1, (Only.of_kept (D := []) k1).box (by simp) (MapKept.heap_alloc w _).1⟩
  clear k1 HE

  have hw1 : Whole w1 t fat (some T) (some m) := H0.out.2.1.only (.of_kept (D := []) o0.out.1) (by simp)
  have c2 := hw1.tree.c2
  have hl := hw1.book.look_some (x := x) (by rw [H0.out.2.2.2.2.2]; exact hi) H0.out.2.2.2.2.1
  rw [H0.out.2.2.2.2.2] at hl
  obtain ⟨c, hz1, hxn, hz2⟩ := way_to x T [] hw1.inn.1 hw1.tree H0.out.2.2.2.2.1
  have q0 := o0.out.2.off 0; have q1 := o0.out.2.off 1; have q2 := o0.out.2.off 2; have q3 := o0.out.2.off 3; have q4 := o0.out.2.off 4; have q5 := o0.out.2.off 5
  simp at q0 q1 q2 q3 q4 q5
  have HW1 : Hid (Whole w1 t fat (some T) (some m) ∧ NodeAt w1 x.b (x.tree.nd (upOf c))) := ⟨hw1, hxn⟩
  clear hw1 hxn hz1 hz2
  go_wp2_with fail
  refine (roomy_calls t x.b _ fat _ _ q w1 HW1.out.2 HW1.out.1.tree b0 b1).mono ?_
  rintro e w2 ⟨⟨v, rfl, hv⟩, k2⟩
  have HB : Hid (BoxAt w2 w.heap.size q) := (Only.of_kept (D := []) k2).box (by simp) o0.out.2
  have HW2 : Hid (Whole w2 t fat (some T) (some m) ∧ NodeAt w2 x.b (x.tree.nd (upOf c)) ∧ Only [] w w2 ∧ (v = true → withinX q x.room = true)) := ⟨HW1.out.1.only (.of_kept (D := []) k2) (by simp), HW1.out.2.kept k2, (Only.of_kept o0.out.1).trans (.of_kept k2), hv⟩
  clear hv k2 c2 hl q0 q1 q2 q3 q4 q5 o0 HW1
  generalize hk : w.heap.size = k at HB ⊢
  have HKK : Hid (w.heap.size = k) := hk
  clear hk
  cases v with
  | true =>
    have q0 := HB.out.off 0; have q1 := HB.out.off 1; have q2 := HB.out.off 2; have q3 := HB.out.off 3; have q4 := HB.out.off 4; have q5 := HB.out.off 5
    simp at q0 q1 q2 q3 q4 q5
    have d1 := HW2.out.2.1.c1; have d2 := HW2.out.2.1.c2; have d3 := HW2.out.2.1.c3; have d4 := HW2.out.2.1.c4; have d5 := HW2.out.2.1.c5; have d6 := HW2.out.2.1.c6; have df := HW2.out.2.1.free
    go_wp2_with fail
    go_ret
    clear q0 q1 q2 q3 q4 q5 d1 d2 d3 d4 d5 d6 df
    obtain ⟨h, hw, hD, hM, hx, hxi⟩ := H0.out
    have key := put_stay_done (q := q) h HW2.out.1 hD hM hx (HW2.out.2.2.2 (by first | trivial | rfl)) HW2.out.2.2.1 (((((((Only.refl [x.b] w2).setCell (p := ⟨x.b, 1, none⟩) (by simp) (.int .i64 (q.x0))).setCell (p := ⟨x.b, 2, none⟩) (by simp) (.int .i64 (q.x1))).setCell (p := ⟨x.b, 3, none⟩) (by simp) (.int .i64 (q.x2))).setCell (p := ⟨x.b, 4, none⟩) (by simp) (.int .i64 (q.x3))).setCell (p := ⟨x.b, 5, none⟩) (by simp) (.int .i64 (q.x4))).setCell (p := ⟨x.b, 6, none⟩) (by simp) (.int .i64 (q.x5))) (fun n hn => hn.putBox q)
    rw [hxi] at key
    exact ⟨rfl, D, key.1, fun b hb => Or.inl hb, key.2⟩
  | false =>
    go_wp2_with fail
    have hw2 := HW2.out.1
    have nd := hw2.nodup
    simp only [Option.toList_some, List.cons_append, List.nil_append, blocksO] at nd
    have nd2 : (t :: T.blocks).Nodup := by simp only [List.nodup_cons, List.mem_cons, not_or] at nd ⊢; exact ⟨nd.1.2, nd.2.2⟩
    have hlen : T.leaves.length ≤ 60 := by have h1 := H0.out.2.2.2.1.length_eq; have h2 := H0.out.1.small; simp only [boxesOf, List.length_map] at h1; omega
    refine (unhang_calls t fat (some m) T x w2 nd2 (by omega) hw2.inn hw2.tree H0.out.2.2.2.2.1).mono ?_
    rintro e w3 ⟨rfl, T', hi3, ht3, hp3, nd3, hsub, hxb, o3⟩
    have hm : m ∉ t :: T.blocks := by simp only [List.nodup_cons, List.mem_cons, not_or] at nd ⊢; exact ⟨fun e => nd.1.1 e.symm, nd.2.1⟩
    have hmap : MapIs w3 (some m) (x :: leavesO T') := (hw2.book.only o3 (by simpa using hm)).perm hp3
    obtain ⟨MD, hown, hbk⟩ := hmap
    have HT : Hid (Tail i q t fat m T' MD w3) := by
      refine ⟨ht3, hi3, hown.mono (by have := hp3.length_eq; simp only [List.length_cons] at this ⊢; omega), fun b room => ?_, ?_, fun y hy => hw2.fits y (hp3.mem_iff.2 (List.mem_cons_of_mem _ hy)), by have := hp3.length_eq; simp only [List.length_cons] at this; omega⟩
      · have := hbk.swap (y := ⟨b, i, q, room⟩) H0.out.2.2.2.2.2.symm
        exact this
      · simp only [List.nodup_cons, List.mem_cons, not_or] at nd nd3 ⊢
        exact ⟨⟨nd.1.1, nd3.1⟩, fun hb => nd.2.1 (hsub m hb), nd3.2⟩
    have HD : Hid (∀ b ∈ t :: m :: blocksO T', b ∈ D) := fun b hb => by
      rw [H0.out.2.2.1]
      simp only [List.mem_cons] at hb ⊢
      rcases hb with e | e | e
      · exact Or.inl e
      · exact Or.inr (Or.inl e)
      · exact Or.inr (Or.inr (hsub b e))
    have HO : Hid (Only D w w3) := (HW2.out.2.2.1.mono (by simp)).trans (o3.mono (fun b hb => Or.inl (by rw [H0.out.2.2.1]; simp only [List.mem_cons] at hb ⊢; rcases hb with e | e <;> simp [e])))
    have HDel : Hid ((del M i).Perm (boxesOf (leavesO T'))) := by
      have hp2 : M.Perm ((i, x.box) :: boxesOf (leavesO T')) := by
        have := H0.out.2.2.2.1.trans (hp3.map _)
        simp only [List.map_cons, H0.out.2.2.2.2.2] at this
        exact this
      have hk := (hp2.map Prod.fst).nodup H0.out.1.keys
      simp only [List.map_cons, List.nodup_cons] at hk
      have := del_perm hp2 i
      rw [del_head hk.1] at this
      exact this
    have HL : Hid (∀ b ∈ t :: m :: blocksO T', b < w3.heap.size) := fun b hb => by
      have h1 := HO.out.size
      have h2 := H0.out.1.lt b (HD.out b hb)
      omega
    have HB3 : Hid (BoxAt w3 k q) := o3.box (fun hb => by
      have h2 := H0.out.1.lt k (by rw [H0.out.2.2.1]; simp only [List.mem_cons] at hb ⊢; rcases hb with e | e <;> simp [e])
      have := HKK.out
      omega) HB.out
    clear HB hw2 nd nd2 hlen hi3 ht3 hp3 nd3 hsub hxb o3 hm hown hbk HW2 HKK
    have HB : Hid (BoxAt w3 k q) := HB3
    clear HB3
    go_wp2_with fail
    generalize hwT : w3 = wT at HT HB HO HL ⊢
    clear hwT w3 w2 w1
    generalize hTT : T' = T2 at HT HL HDel HD
    clear hTT T'
    have HO' : Hid (TreeIs w t fat D M) := H0.out.1
    clear H0
    generalize hT3 : T2 = T at HT HL HDel HD
    clear hT3 T2

    refine wp_region_held_drew (S := (fun w' => Kept wT w' ∧ w'.cell? ⟨k, 0, none⟩ = some (.int .i64 q.x0) ∧ w'.cell? ⟨k, 1, none⟩ = some (.int .i64 q.x1) ∧ w'.cell? ⟨k, 2, none⟩ = some (.int .i64 q.x2) ∧ w'.cell? ⟨k, 3, none⟩ = some (.int .i64 q.x3) ∧ w'.cell? ⟨k, 4, none⟩ = some (.int .i64 q.x4) ∧ w'.cell? ⟨k, 5, none⟩ = some (.int .i64 q.x5) ∧ w'.cell? ⟨t, 0, none⟩ = some (.int .i64 fat))) (by kernel_rfl) ?_ (fun hHeld1 => ?_)
    · (try dsimp only); exact FK.of (Kept.refl _).drew HB.out HT.out.tree
    refine tkW 0 rfl ?_; refine tkW 1 rfl ?_; refine tkW 2 rfl ?_; refine tkW 3 rfl ?_
    try simp only [Act.put, List.setIfInBounds_toArray, List.set_cons_zero, List.set_cons_succ, List.getElem_toArray, List.getElem_cons_succ, List.getElem_cons_zero]
    refine tkW 4 rfl ?_; refine tkW 5 rfl ?_; refine tkW 6 rfl ?_
    try simp only [Act.put, List.setIfInBounds_toArray, List.set_cons_zero, List.set_cons_succ, List.getElem_toArray, List.getElem_cons_succ, List.getElem_cons_zero]
    refine wpAnyH_ready (rs := [7]) (by kernel_rfl) (by simp) ?_
    refine AllReadyH.cons rfl (fun K hK => ?_) AllReadyH.nil
    first | (with_reducible refine iteYes ?hcx ?htx; case hcx => kernel_rfl) | rw [if_pos (by rfl)]
    simp only [List.getElem_toArray, List.getElem_cons_succ, List.getElem_cons_zero]
    go_simp
    (go_at_call 20; refine (gfat_calls _ _ _ _ _ _ _ _).mono ?_; rintro e w5 ⟨rfl, k5⟩)
    try go_wp2_with fail
    refine hK.out _ _ ?_ (fun hHeld2 => ?_)
    · (try dsimp only); exact FK.of (hHeld1.1.trans k5) HB.out HT.out.tree
    clear hK K hHeld1
    try simp only [Act.put, List.setIfInBounds_toArray, List.set_cons_zero, List.set_cons_succ, List.getElem_toArray, List.getElem_cons_succ, List.getElem_cons_zero]
    refine tkW 8 rfl ?_
    try simp only [Act.put, List.setIfInBounds_toArray, List.set_cons_zero, List.set_cons_succ, List.getElem_toArray, List.getElem_cons_succ, List.getElem_cons_zero]
    refine wpAnyH_ready (rs := [9]) (by kernel_rfl) (by simp) ?_
    refine AllReadyH.cons rfl (fun K hK => ?_) AllReadyH.nil
    first | (with_reducible refine iteYes ?hcx ?htx; case hcx => kernel_rfl) | rw [if_pos (by rfl)]
    simp only [List.getElem_toArray, List.getElem_cons_succ, List.getElem_cons_zero]
    go_simp
    refine hK.out _ _ ?_ (fun hHeld3 => ?_)
    · (try dsimp only); exact FK.of (hHeld2.1.alloc _ _) HB.out HT.out.tree
    clear hK K
    try simp only [Act.put, List.setIfInBounds_toArray, List.set_cons_zero, List.set_cons_succ, List.getElem_toArray, List.getElem_cons_succ, List.getElem_cons_zero]
    refine tkW 10 rfl ?_
    try simp only [Act.put, List.setIfInBounds_toArray, List.set_cons_zero, List.set_cons_succ, List.getElem_toArray, List.getElem_cons_succ, List.getElem_cons_zero]
    refine wpAnyH_done (by kernel_rfl) ?_ _
    have H5 : Hid (Kept wT w5) := hHeld2.1
    clear hHeld2 hHeld3
    generalize hw6 : World.alloc w5 _ = w6
    have n6 : NodeAt w6 w5.heap.size ((Tr.leaf w5.heap.size i q (fatX q fat)).nd none) := by rw [← hw6]; exact (MapKept.heap_alloc w5 _).1
    have o6 : Only [] wT w6 := by rw [← hw6]; exact ((Only.refl [] wT).trans (.of_kept H5.out)).alloc _
    have H6 : Hid (Tail i q t fat m T MD w6 ∧ Only [] wT w6 ∧ NodeAt w6 w5.heap.size ((Tr.leaf w5.heap.size i q (fatX q fat)).nd none) ∧ wT.heap.size ≤ w5.heap.size) := ⟨HT.out.only o6 (by simp), o6, n6, H5.out.below.size⟩
    clear hw6 n6 o6 H5
    generalize w5.heap.size = lf at H6 ⊢
    have hown := H6.out.1.own
    have d2 := H6.out.1.tree.c2
    have hln := H6.out.1.len
    go_wp2_with (first | (at_mapUpdate; refine wpList_mapUpdate_in _ rfl _ _ _ 53 rfl 3 52 intKey Tryz.underlying53 _ m _ MD rfl hown (by unfold maxLen; omega) _ _ _ rfl rfl (keyIs hi) (.lit (.int .i64 (lf : Int))) [] rfl ?_; intro w7 hown7 hturn7; have H7 : Hid (_ ∧ _) := ⟨hown7, hturn7⟩; clear hown7 hturn7 hown d2))
    obtain ⟨hown7, hturn7⟩ := H7.out
    have o7 : Only [m] w6 w7 := (Only.refl [m] w6).grown hturn7.grown (fun k hk => by injection hk with hk; exact Or.inl (by simp [hk]))
    refine (hang_tail (lf := lf) H6.out.1 H6.out.2.2.1 hown7 o7 (fun hb => by have h1 := H6.out.2.2.2; have h2 := HL.out _ hb; omega) (HF.out)).mono ?_
    rintro e w8 ⟨rfl, q8⟩
    have H8 : Hid _ := q8
    clear q8 hown7 hturn7 H7 o7
    go_wp2_with fail
    go_ret

    refine ⟨rfl, put_done HO'.out hi rfl rfl H6.out.1.len HDel.out ?_ ?_ (HO.out.trans (H6.out.2.1.mono (by simp))) H8.out⟩
    · intro b hb; exact Or.inl (HD.out b hb)
    · exact Nat.le_trans HO.out.size H6.out.2.2.2

/-- What Put answers: the error's number (0: none). -/
def putC (M : List (Int × Bx)) (i : Int) (q : Bx) : Int := if rightC q = 0 then (if i ∉ M.map Prod.fst ∧ 60 ≤ M.length then 4 else 0) else rightC q
def putM (M : List (Int × Bx)) (i : Int) (q : Bx) : List (Int × Bx) := if putC M i q = 0 then put M i q else M
theorem put_calls (t : Nat) (fat : Int) (D : List Nat) (M : List (Int × Bx)) (i : Int) (q : Bx) (w : World) (h : TreeIs w t fat D M) (hi : In64 i) :
    Calls Tryz.prog 8 #[.pointer (some ⟨t, 0, none⟩), .int .i64 i, .agg #[.int .i64 (q.x0), .int .i64 (q.x1), .int .i64 (q.x2), .int .i64 (q.x3), .int .i64 (q.x4), .int .i64 (q.x5)]] w fun e w' => e = .returned (errV (putC M i q)) ∧ ∃ D', TreeIs w' t fat D' (putM M i q) ∧ (∀ b ∈ D', b ∈ D ∨ w.heap.size ≤ b) ∧ Only D w w' := by
  by_cases hr : rightC q = 0
  · by_cases hn : i ∈ M.map Prod.fst
    · have e0 : putC M i q = 0 := by unfold putC; rw [if_pos hr, if_neg (fun h => h.1 hn)]
      have e1 : putM M i q = put M i q := by unfold putM; rw [if_pos e0]
      rw [e0, e1]
      exact put_again t fat D M i q w h hi hr hn
    · by_cases hl : 60 ≤ M.length
      · have e0 : putC M i q = 4 := by unfold putC; rw [if_pos hr, if_pos ⟨hn, hl⟩]
        have e1 : putM M i q = M := by unfold putM; rw [if_neg (by rw [e0]; decide)]
        rw [e0, e1]
        refine (put_full t fat D M i q w h hi hn hr hl).mono ?_
        rintro e w' ⟨rfl, o⟩
        exact ⟨rfl, D, h.only o (by simp), fun b hb => Or.inl hb, o.mono (by simp)⟩
      · have e0 : putC M i q = 0 := by unfold putC; rw [if_pos hr, if_neg (fun h => hl h.2)]
        have e1 : putM M i q = put M i q := by unfold putM; rw [if_pos e0]
        rw [e0, e1]
        obtain ⟨T, lv, hw, hD, hM, hni⟩ := h.miss hn
        cases lv with
        | none => exact put_first t fat D M i q w h hi hr T hw hD hM hni
        | some m => exact put_next t fat D M i q w h hi hr T m hw hD hM hni (by omega) hn
  · have e0 : putC M i q = rightC q := by unfold putC; rw [if_neg hr]
    have e1 : putM M i q = M := by unfold putM; rw [if_neg (by rw [e0]; exact hr)]
    rw [e0, e1]
    refine (put_bad t i q w hr).mono ?_
    rintro e w' ⟨rfl, o⟩
    exact ⟨rfl, D, h.only o (by simp), fun b hb => Or.inl hb, o.mono (by simp)⟩
/-- What Remove answers. -/
def delC (M : List (Int × Bx)) (i : Int) : Int := if i ∈ M.map Prod.fst then 0 else 7
theorem remove_calls (t : Nat) (fat : Int) (D : List Nat) (M : List (Int × Bx)) (i : Int) (w : World) (h : TreeIs w t fat D M) (hi : In64 i) :
    Calls Tryz.prog 9 #[.pointer (some ⟨t, 0, none⟩), .int .i64 i] w fun e w' => e = .returned (errV (delC M i)) ∧ ∃ D', TreeIs w' t fat D' (del M i) ∧ (∀ b ∈ D', b ∈ D ∨ w.heap.size ≤ b) ∧ Only D w w' := by
  by_cases hn : i ∈ M.map Prod.fst
  · have e0 : delC M i = 0 := by unfold delC; rw [if_pos hn]
    rw [e0]
    refine (remove_some t fat D M i w h hi hn).mono ?_
    rintro e w' ⟨rfl, D', h', hs, o⟩
    exact ⟨rfl, D', h', fun b hb => Or.inl (hs b hb), o⟩
  · have e0 : delC M i = 7 := by unfold delC; rw [if_neg hn]
    rw [e0, del_none hn]
    refine (remove_none t fat D M i w h hi hn).mono ?_
    rintro e w' ⟨rfl, o⟩
    exact ⟨rfl, D, h.only o (by simp), fun b hb => Or.inl hb, o.mono (by simp)⟩
end Go.Proofs.YtdhbcgdlmkkdfaaGreatDoor

