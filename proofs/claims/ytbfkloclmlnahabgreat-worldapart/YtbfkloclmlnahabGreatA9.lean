/- broad.Tree.Put, of a number that is there, and whole: whatever the tree, the number and the box. · cmp.Compare, cmp.Or of two numbers, and the closure by which Pairs sorts: pairs by the first, then the second: whatever they are. · Lists of pairs that a call owns; which pairs Pairs collects: plain facts. · broad.Tree.Pairs: all two whose boxes meet, sorted: whatever the tree, in whatever order the book is gone through. · A sort of the library, laid at this program: each field a closed fact. · slices.SortFunc sorts a list of pairs by the first, then the second: whatever they are. · broad.Tree.Pairs, told by the boxes alone; two trees beside each other: whatever they are. · (*world.World).hang: a body's box put into the tree. · world.New: an empty world, or what is wrong with its config: whatever the config. · (*world.World).sated: whether an owner may have no more bodies. · slices.Clone at bodies, (*world.World).Bodies; gyrekeep.pick and law, within their bounds. · gyreref.Speeds' closure give, gyreref.Law.Right: whatever they are. · gyreref.Law.Right: whatever the law. -/
import Derived.Test.YtbfkloclmlnahabGreatA8
import Derived.Sort.Grow
import Derived.Maps.RangeWalk
import Derived.Deep.Light
import Derived.Shelf.SlSortCmp.NoneTotal
import Derived.Test.YtbfkloclmlnahabGreatRows
import Derived.Test.YtbfkloclmlnahabGreatA2
import Derived.Test.YtbfkloclmlnahabGreatA4
import Derived.Test.YtbfkloclmlnahabGreatA6
import Derived.Test.YtbfkloclmlnahabGreatA5
import Derived.Test.YtbfkloclmlnahabGreatA7
import Derived.Lib.SliceRun
open List renaming getElem_toArray → zqa, getElem_cons_succ → zqb, getElem_cons_zero → zqc, setIfInBounds_toArray → zqd, set_cons_zero → zqe, set_cons_succ → zqf, getElem?_toArray → zqg, getElem?_cons_succ → zqh, getElem?_cons_zero → zqi
namespace Go.Proofs.YtbfkloclmlnahabGreat
open Go.ChangeShapes Go.WideShapes Go.ChangeAt Go.RowKit
open Go.Maps (Keyed)
set_option linter.unusedVariables false
set_option linter.unusedSimpArgs false

set_option maxRecDepth 100000 in
theorem put_again (t : Nat) (fat : Int) (D : List Nat) (M : List (Int × Bx)) (i : Int) (q : Bx) (w : World) (h : TreeIs w t fat D M) (hi : In64 i) (hr : rightC q = 0) (hn : i ∈ M.map Prod.fst) :
    Calls Tryz.prog 42 #[.pointer (some ⟨t, 0, none⟩), .int .i64 i, .agg #[.int .i64 (q.x0), .int .i64 (q.x1), .int .i64 (q.x2), .int .i64 (q.x3), .int .i64 (q.x4), .int .i64 (q.x5)]] w fun e w' => e = .returned .nilIface ∧ ∃ D', TreeIs w' t fat D' (put M i q) ∧ (∀ b ∈ D', b ∈ D ∨ w.heap.size ≤ b) ∧ Only D w w' := by
  obtain ⟨T, m, x, hw, hD, hM, hx, hxi⟩ := h.find hn
  have HE := errV0 hr
  have HF : Hid (withinX q (fatX q fat) = true) := fat_within hr h.fat0.1 h.fat0.2
  have b0 := h.fat0.1; have b1 := h.fat0.2
  have H0 : Hid (TreeIs w t fat D M ∧ Whole w t fat (some T) (some m) ∧ D = t :: m :: T.blocks ∧ M.Perm (boxesOf T.leaves) ∧ x ∈ T.leaves ∧ x.id = i) := ⟨h, hw, hD, hM, hx, hxi⟩
  clear hw hD hM h hr hn hx hxi
  go_enter Tryz.func42, Tryz.ntmps42
  go_wp2_with fail
  refine (right_calls q _).mono ?_
  rw [HE]
  rintro e w1 ⟨rfl, k1⟩
  have o0 : Hid (Kept w w1 ∧ BoxAt w1 w.heap.size q) := ⟨((Kept.refl w).alloc _ _).trans k1, (Only.of_kept (D := []) k1).box (by simp) (MapKept.heap_alloc w _).1⟩
  clear k1 HE

  have hw1 : Whole w1 t fat (some T) (some m) := H0.out.2.1.only (.of_kept (D := []) o0.out.1) (by simp)
  have c2 := hw1.tree.c2
  have hl := hw1.book.look_some (x := x) (by rw [H0.out.2.2.2.2.2]; exact hi) H0.out.2.2.2.2.1
  rw [H0.out.2.2.2.2.2] at hl
  obtain ⟨c, hz1, hxn, hz2⟩ := way_to x T [] hw1.inn.1 hw1.tree H0.out.2.2.2.2.1
  have q0 := o0.out.2.off 0; have q1 := o0.out.2.off 1; have q2 := o0.out.2.off 2; have q3 := o0.out.2.off 3; have q4 := o0.out.2.off 4; have q5 := o0.out.2.off 5
  simp at q0 q1 q2 q3 q4 q5
  have HW1 : Hid (Whole w1 t fat (some T) (some m) ∧ NodeAt w1 x.b (x.tree.nd (upOf c))) := ⟨hw1, hxn⟩
  clear hw1 hxn hz1 hz2
  go_wp2_with fail
  refine (roomy_calls t x.b _ fat _ _ q w1 HW1.out.2 HW1.out.1.tree b0 b1).mono ?_
  rintro e w2 ⟨⟨v, rfl, hv⟩, k2⟩
  have HB : Hid (BoxAt w2 w.heap.size q) := (Only.of_kept (D := []) k2).box (by simp) o0.out.2
  have HW2 : Hid (Whole w2 t fat (some T) (some m) ∧ NodeAt w2 x.b (x.tree.nd (upOf c)) ∧ Only [] w w2 ∧ (v = true → withinX q x.room = true)) := ⟨HW1.out.1.only (.of_kept (D := []) k2) (by simp), HW1.out.2.kept k2, (Only.of_kept o0.out.1).trans (.of_kept k2), hv⟩
  clear hv k2 c2 hl q0 q1 q2 q3 q4 q5 o0 HW1
  generalize hk : w.heap.size = k at HB ⊢
  have HKK : Hid (w.heap.size = k) := hk
  clear hk
  cases v with
  | true =>
    have q0 := HB.out.off 0; have q1 := HB.out.off 1; have q2 := HB.out.off 2; have q3 := HB.out.off 3; have q4 := HB.out.off 4; have q5 := HB.out.off 5
    simp at q0 q1 q2 q3 q4 q5
    have d1 := HW2.out.2.1.c1; have d2 := HW2.out.2.1.c2; have d3 := HW2.out.2.1.c3; have d4 := HW2.out.2.1.c4; have d5 := HW2.out.2.1.c5; have d6 := HW2.out.2.1.c6; have df := HW2.out.2.1.free
    go_wp2_with fail
    go_ret
    clear q0 q1 q2 q3 q4 q5 d1 d2 d3 d4 d5 d6 df
    obtain ⟨h, hw, hD, hM, hx, hxi⟩ := H0.out
    have key := put_stay_done (q := q) h HW2.out.1 hD hM hx (HW2.out.2.2.2 (by first | trivial | rfl)) HW2.out.2.2.1 (((((((Only.refl [x.b] w2).setCell (p := ⟨x.b, 1, none⟩) (by simp) (.int .i64 (q.x0))).setCell (p := ⟨x.b, 2, none⟩) (by simp) (.int .i64 (q.x1))).setCell (p := ⟨x.b, 3, none⟩) (by simp) (.int .i64 (q.x2))).setCell (p := ⟨x.b, 4, none⟩) (by simp) (.int .i64 (q.x3))).setCell (p := ⟨x.b, 5, none⟩) (by simp) (.int .i64 (q.x4))).setCell (p := ⟨x.b, 6, none⟩) (by simp) (.int .i64 (q.x5))) (fun n hn => hn.putBox q)
    rw [hxi] at key
    exact ⟨rfl, D, key.1, fun b hb => Or.inl hb, key.2⟩
  | false =>
    go_wp2_with fail
    have hw2 := HW2.out.1
    have nd := hw2.nodup
    simp only [Option.toList_some, List.cons_append, List.nil_append, blocksO] at nd
    have nd2 : (t :: T.blocks).Nodup := by simp only [List.nodup_cons, List.mem_cons, not_or] at nd ⊢; exact ⟨nd.1.2, nd.2.2⟩
    have hlen : T.leaves.length ≤ 60 := by have h1 := H0.out.2.2.2.1.length_eq; have h2 := H0.out.1.small; simp only [boxesOf, List.length_map] at h1; omega
    refine (unhang_calls t fat (some m) T x w2 nd2 (by omega) hw2.inn hw2.tree H0.out.2.2.2.2.1).mono ?_
    rintro e w3 ⟨rfl, T', hi3, ht3, hp3, nd3, hsub, hxb, o3⟩
    have hm : m ∉ t :: T.blocks := by simp only [List.nodup_cons, List.mem_cons, not_or] at nd ⊢; exact ⟨fun e => nd.1.1 e.symm, nd.2.1⟩
    have hmap : MapIs w3 (some m) (x :: leavesO T') := (hw2.book.only o3 (by simpa using hm)).perm hp3
    obtain ⟨MD, hown, hbk⟩ := hmap
    have HT : Hid (Tail i q t fat m T' MD w3) := by
      refine ⟨ht3, hi3, hown.mono (by have := hp3.length_eq; simp only [List.length_cons] at this ⊢; omega), fun b room => ?_, ?_, fun y hy => hw2.fits y (hp3.mem_iff.2 (List.mem_cons_of_mem _ hy)), by have := hp3.length_eq; simp only [List.length_cons] at this; omega⟩
      · have := hbk.swap (y := ⟨b, i, q, room⟩) H0.out.2.2.2.2.2.symm
        exact this
      · simp only [List.nodup_cons, List.mem_cons, not_or] at nd nd3 ⊢
        exact ⟨⟨nd.1.1, nd3.1⟩, fun hb => nd.2.1 (hsub m hb), nd3.2⟩
    have HD : Hid (∀ b ∈ t :: m :: blocksO T', b ∈ D) := fun b hb => by
      rw [H0.out.2.2.1]
      simp only [List.mem_cons] at hb ⊢
      rcases hb with e | e | e
      · exact Or.inl e
      · exact Or.inr (Or.inl e)
      · exact Or.inr (Or.inr (hsub b e))
    have HO : Hid (Only D w w3) := (HW2.out.2.2.1.mono (by simp)).trans (o3.mono (fun b hb => Or.inl (by rw [H0.out.2.2.1]; simp only [List.mem_cons] at hb ⊢; rcases hb with e | e <;> simp [e])))
    have HDel : Hid ((del M i).Perm (boxesOf (leavesO T'))) := by
      have hp2 : M.Perm ((i, x.box) :: boxesOf (leavesO T')) := by
        have := H0.out.2.2.2.1.trans (hp3.map _)
        simp only [List.map_cons, H0.out.2.2.2.2.2] at this
        exact this
      have hk := (hp2.map Prod.fst).nodup H0.out.1.keys
      simp only [List.map_cons, List.nodup_cons] at hk
      have := del_perm hp2 i
      rw [del_head hk.1] at this
      exact this
    have HL : Hid (∀ b ∈ t :: m :: blocksO T', b < w3.heap.size) := fun b hb => by
      have h1 := HO.out.size
      have h2 := H0.out.1.lt b (HD.out b hb)
      omega
    have HB3 : Hid (BoxAt w3 k q) := o3.box (fun hb => by
      have h2 := H0.out.1.lt k (by rw [H0.out.2.2.1]; simp only [List.mem_cons] at hb ⊢; rcases hb with e | e <;> simp [e])
      have := HKK.out
      omega) HB.out
    clear HB hw2 nd nd2 hlen hi3 ht3 hp3 nd3 hsub hxb o3 hm hown hbk HW2 HKK
    have HB : Hid (BoxAt w3 k q) := HB3
    clear HB3
    go_wp2_with fail
    generalize hwT : w3 = wT at HT HB HO HL ⊢
    clear hwT w3 w2 w1
    generalize hTT : T' = T2 at HT HL HDel HD
    clear hTT T'
    have HO' : Hid (TreeIs w t fat D M) := H0.out.1
    clear H0
    generalize hT3 : T2 = T at HT HL HDel HD
    clear hT3 T2

    refine wp_region_held_drew (S := (fun w' => Kept wT w' ∧ w'.cell? ⟨k, 0, none⟩ = some (.int .i64 q.x0) ∧ w'.cell? ⟨k, 1, none⟩ = some (.int .i64 q.x1) ∧ w'.cell? ⟨k, 2, none⟩ = some (.int .i64 q.x2) ∧ w'.cell? ⟨k, 3, none⟩ = some (.int .i64 q.x3) ∧ w'.cell? ⟨k, 4, none⟩ = some (.int .i64 q.x4) ∧ w'.cell? ⟨k, 5, none⟩ = some (.int .i64 q.x5) ∧ w'.cell? ⟨t, 0, none⟩ = some (.int .i64 fat))) (by kernel_rfl) ?_ (fun hHeld1 => ?_)
    · (try dsimp only); exact FK.of (Kept.refl _).drew HB.out HT.out.tree
    refine wpAnyH_take (i := 0) (v := ?_) rfl (by kernel_rfl) (by kernel_rfl) (by kernel_rfl) (fun _ _ _ h => h) (Or.inl ⟨by kernel_rfl, ?_⟩) (by assumption) ?_
    rotate_left
    · intro w'' hSw; (try dsimp only at hSw); simp only [zqa, zqb, zqc]; (go_simp <;> with_reducible rfl)
    try simp only [Act.put, zqd, zqe, zqf, zqa, zqb, zqc]
    refine wpAnyH_take (i := 1) (v := ?_) rfl (by kernel_rfl) (by kernel_rfl) (by kernel_rfl) (fun _ _ _ h => h) (Or.inl ⟨by kernel_rfl, ?_⟩) (by assumption) ?_
    rotate_left
    · intro w'' hSw; (try dsimp only at hSw); simp only [zqa, zqb, zqc]; (go_simp <;> with_reducible rfl)
    try simp only [Act.put, zqd, zqe, zqf, zqa, zqb, zqc]
    refine wpAnyH_take (i := 2) (v := ?_) rfl (by kernel_rfl) (by kernel_rfl) (by kernel_rfl) (fun _ _ _ h => h) (Or.inl ⟨by kernel_rfl, ?_⟩) (by assumption) ?_
    rotate_left
    · intro w'' hSw; (try dsimp only at hSw); simp only [zqa, zqb, zqc]; (go_simp <;> with_reducible rfl)
    try simp only [Act.put, zqd, zqe, zqf, zqa, zqb, zqc]
    refine wpAnyH_take (i := 3) (v := ?_) rfl (by kernel_rfl) (by kernel_rfl) (by kernel_rfl) (fun _ _ _ h => h) (Or.inl ⟨by kernel_rfl, ?_⟩) (by assumption) ?_
    rotate_left
    · intro w'' hSw; (try dsimp only at hSw); simp only [zqa, zqb, zqc]; (go_simp <;> with_reducible rfl)
    try simp only [Act.put, zqd, zqe, zqf, zqa, zqb, zqc]
    refine wpAnyH_take (i := 4) (v := ?_) rfl (by kernel_rfl) (by kernel_rfl) (by kernel_rfl) (fun _ _ _ h => h) (Or.inl ⟨by kernel_rfl, ?_⟩) (by assumption) ?_
    rotate_left
    · intro w'' hSw; (try dsimp only at hSw); simp only [zqa, zqb, zqc]; (go_simp <;> with_reducible rfl)
    try simp only [Act.put, zqd, zqe, zqf, zqa, zqb, zqc]
    refine wpAnyH_take (i := 5) (v := ?_) rfl (by kernel_rfl) (by kernel_rfl) (by kernel_rfl) (fun _ _ _ h => h) (Or.inl ⟨by kernel_rfl, ?_⟩) (by assumption) ?_
    rotate_left
    · intro w'' hSw; (try dsimp only at hSw); simp only [zqa, zqb, zqc]; (go_simp <;> with_reducible rfl)
    try simp only [Act.put, zqd, zqe, zqf, zqa, zqb, zqc]
    refine wpAnyH_take (i := 6) (v := ?_) rfl (by kernel_rfl) (by kernel_rfl) (by kernel_rfl) (fun _ _ _ h => h) (Or.inl ⟨by kernel_rfl, ?_⟩) (by assumption) ?_
    rotate_left
    · intro w'' hSw; (try dsimp only at hSw); simp only [zqa, zqb, zqc]; (go_simp <;> with_reducible rfl)
    try simp only [Act.put, zqd, zqe, zqf, zqa, zqb, zqc]
    refine wpAnyH_ready (rs := [7]) (by kernel_rfl) (by simp) ?_
    refine AllReadyH.cons rfl (fun K hK => ?_) AllReadyH.nil
    first | (with_reducible refine iteYes ?hcx ?htx; case hcx => kernel_rfl) | rw [if_pos (by rfl)]
    simp only [zqa, zqb, zqc]
    go_simp
    (go_at_call 74; refine (gfat_calls _ _ _ _ _ _ _ _).mono ?_; rintro e w5 ⟨rfl, k5⟩)
    try go_wp2_with fail
    refine hK.out _ _ ?_ (fun hHeld2 => ?_)
    · (try dsimp only); exact FK.of (hHeld1.1.trans k5) HB.out HT.out.tree
    clear hK K hHeld1
    try simp only [Act.put, zqd, zqe, zqf, zqa, zqb, zqc]
    refine wpAnyH_take (i := 8) (v := ?_) rfl (by kernel_rfl) (by kernel_rfl) (by kernel_rfl) (fun _ _ _ h => h) (Or.inl ⟨by kernel_rfl, ?_⟩) (by assumption) ?_
    rotate_left
    · intro w'' hSw; (try dsimp only at hSw); simp only [zqa, zqb, zqc]; (go_simp <;> with_reducible rfl)
    try simp only [Act.put, zqd, zqe, zqf, zqa, zqb, zqc]
    refine wpAnyH_ready (rs := [9]) (by kernel_rfl) (by simp) ?_
    refine AllReadyH.cons rfl (fun K hK => ?_) AllReadyH.nil
    first | (with_reducible refine iteYes ?hcx ?htx; case hcx => kernel_rfl) | rw [if_pos (by rfl)]
    simp only [zqa, zqb, zqc]
    go_simp
    refine hK.out _ _ ?_ (fun hHeld3 => ?_)
    · (try dsimp only); exact FK.of (hHeld2.1.alloc _ _) HB.out HT.out.tree
    clear hK K
    try simp only [Act.put, zqd, zqe, zqf, zqa, zqb, zqc]
    refine wpAnyH_take (i := 10) (v := ?_) rfl (by kernel_rfl) (by kernel_rfl) (by kernel_rfl) (fun _ _ _ h => h) (Or.inl ⟨by kernel_rfl, ?_⟩) (by assumption) ?_
    rotate_left
    · intro w'' hSw; (try dsimp only at hSw); simp only [zqa, zqb, zqc]; (go_simp <;> with_reducible rfl)
    try simp only [Act.put, zqd, zqe, zqf, zqa, zqb, zqc]
    refine wpAnyH_done (by kernel_rfl) ?_ _
    have H5 : Hid (Kept wT w5) := hHeld2.1
    clear hHeld2 hHeld3
    generalize hw6 : World.alloc w5 _ = w6
    have n6 : NodeAt w6 w5.heap.size ((Tr.leaf w5.heap.size i q (fatX q fat)).nd none) := by rw [← hw6]; exact (MapKept.heap_alloc w5 _).1
    have o6 : Only [] wT w6 := by rw [← hw6]; exact ((Only.refl [] wT).trans (.of_kept H5.out)).alloc _
    have H6 : Hid (Tail i q t fat m T MD w6 ∧ Only [] wT w6 ∧ NodeAt w6 w5.heap.size ((Tr.leaf w5.heap.size i q (fatX q fat)).nd none) ∧ wT.heap.size ≤ w5.heap.size) := ⟨HT.out.only o6 (by simp), o6, n6, H5.out.below.size⟩
    clear hw6 n6 o6 H5
    generalize w5.heap.size = lf at H6 ⊢
    have hown := H6.out.1.own
    have d2 := H6.out.1.tree.c2
    have hln := H6.out.1.len
    go_wp2_with (first | (at_mapUpdate; refine wpList_mapUpdate_in _ rfl _ _ _ 92 rfl 3 91 intKey Tryz.underlying92 _ m _ MD rfl hown (by unfold maxLen; omega) _ _ _ rfl rfl (keyIs hi) (.lit (.int .i64 (lf : Int))) [] rfl ?_; intro w7 hown7 hturn7; have H7 : Hid (_ ∧ _) := ⟨hown7, hturn7⟩; clear hown7 hturn7 hown d2))
    obtain ⟨hown7, hturn7⟩ := H7.out
    have o7 : Only [m] w6 w7 := (Only.refl [m] w6).grown hturn7.grown (fun k hk => by injection hk with hk; exact Or.inl (by simp [hk]))
    refine (hang_tail (lf := lf) H6.out.1 H6.out.2.2.1 hown7 o7 (fun hb => by have h1 := H6.out.2.2.2; have h2 := HL.out _ hb; omega) (HF.out)).mono ?_
    rintro e w8 ⟨rfl, q8⟩
    have H8 : Hid _ := q8
    clear q8 hown7 hturn7 H7 o7
    go_wp2_with fail
    go_ret

    refine ⟨rfl, put_done HO'.out hi rfl rfl H6.out.1.len HDel.out ?_ ?_ (HO.out.trans (H6.out.2.1.mono (by simp))) H8.out⟩
    · intro b hb; exact Or.inl (HD.out b hb)
    · exact Nat.le_trans HO.out.size H6.out.2.2.2

/-- What Put answers: the error's number (0: none). -/
def putC (M : List (Int × Bx)) (i : Int) (q : Bx) : Int := if rightC q = 0 then (if i ∉ M.map Prod.fst ∧ 60 ≤ M.length then 4 else 0) else rightC q
def putM (M : List (Int × Bx)) (i : Int) (q : Bx) : List (Int × Bx) := if putC M i q = 0 then put M i q else M
theorem put_calls (t : Nat) (fat : Int) (D : List Nat) (M : List (Int × Bx)) (i : Int) (q : Bx) (w : World) (h : TreeIs w t fat D M) (hi : In64 i) :
    Calls Tryz.prog 42 #[.pointer (some ⟨t, 0, none⟩), .int .i64 i, .agg #[.int .i64 (q.x0), .int .i64 (q.x1), .int .i64 (q.x2), .int .i64 (q.x3), .int .i64 (q.x4), .int .i64 (q.x5)]] w fun e w' => e = .returned (errV (putC M i q)) ∧ ∃ D', TreeIs w' t fat D' (putM M i q) ∧ (∀ b ∈ D', b ∈ D ∨ w.heap.size ≤ b) ∧ Only D w w' := by
  by_cases hr : rightC q = 0
  · by_cases hn : i ∈ M.map Prod.fst
    · have e0 : putC M i q = 0 := by unfold putC; rw [if_pos hr, if_neg (fun h => h.1 hn)]
      have e1 : putM M i q = put M i q := by unfold putM; rw [if_pos e0]
      rw [e0, e1]
      exact put_again t fat D M i q w h hi hr hn
    · by_cases hl : 60 ≤ M.length
      · have e0 : putC M i q = 4 := by unfold putC; rw [if_pos hr, if_pos ⟨hn, hl⟩]
        have e1 : putM M i q = M := by unfold putM; rw [if_neg (by rw [e0]; decide)]
        rw [e0, e1]
        refine (put_full t fat D M i q w h hi hn hr hl).mono ?_
        rintro e w' ⟨rfl, o⟩
        exact ⟨rfl, D, h.only o (by simp), fun b hb => Or.inl hb, o.mono (by simp)⟩
      · have e0 : putC M i q = 0 := by unfold putC; rw [if_pos hr, if_neg (fun h => hl h.2)]
        have e1 : putM M i q = put M i q := by unfold putM; rw [if_pos e0]
        rw [e0, e1]
        obtain ⟨T, lv, hw, hD, hM, hni⟩ := h.miss hn
        cases lv with
        | none => exact put_first t fat D M i q w h hi hr T hw hD hM hni
        | some m => exact put_next t fat D M i q w h hi hr T m hw hD hM hni (by omega) hn
  · have e0 : putC M i q = rightC q := by unfold putC; rw [if_neg hr]
    have e1 : putM M i q = M := by unfold putM; rw [if_neg (by rw [e0]; exact hr)]
    rw [e0, e1]
    refine (put_bad t i q w hr).mono ?_
    rintro e w' ⟨rfl, o⟩
    exact ⟨rfl, D, h.only o (by simp), fun b hb => Or.inl hb, o.mono (by simp)⟩
end Go.Proofs.YtbfkloclmlnahabGreat

namespace Go.Proofs.YtbfkloclmlnahabGreat
open Go.ChangeShapes Go.WideShapes Go.ChangeAt Go.RowKit Go.Sort
set_option linter.unusedVariables false
set_option linter.unusedSimpArgs false

theorem isNaN_calls (n : Int) (w : World) : Calls Tryz.prog 80 #[.int .i64 n] w fun e w' => e = .returned (.bool false) ∧ w' = w := by
  have h : (n != n) = false := by simp
  go_enter Tryz.func80, Tryz.ntmps80
  go_wp2
  go_ret
  exact ⟨rfl, rfl⟩
def cmpI (a b : Int) : Int := if a < b then -1 else if b < a then 1 else 0
theorem compare_calls (a b : Int) (w : World) : Calls Tryz.prog 50 #[.int .i64 a, .int .i64 b] w fun e w' => e = .returned (.int .i64 (cmpI a b)) ∧ w' = w := by
  unfold cmpI
  by_cases h : a < b
  · rw [if_pos h]
    go_enter Tryz.func50, Tryz.ntmps50
    go_wp2_with (go_at_call 80; refine (isNaN_calls _ _).mono ?_; rintro e w1 ⟨rfl, rfl⟩)
    go_ret
    exact ⟨rfl, rfl⟩
  · rw [if_neg h]
    by_cases h2 : b < a
    · rw [if_pos h2]
      go_enter Tryz.func50, Tryz.ntmps50
      go_wp2_with (go_at_call 80; refine (isNaN_calls _ _).mono ?_; rintro e w1 ⟨rfl, rfl⟩)
      go_ret
      exact ⟨rfl, rfl⟩
    · rw [if_neg h2]
      go_enter Tryz.func50, Tryz.ntmps50
      go_wp2_with (go_at_call 80; refine (isNaN_calls _ _).mono ?_; rintro e w1 ⟨rfl, rfl⟩)
      go_ret
      exact ⟨rfl, rfl⟩
def orI (x y : Int) : Int := if x = 0 then y else x
theorem or_calls (b : Nat) (x y : Int) (w : World) (c0 : w.cell? ⟨b, 0, none⟩ = some (.int .i64 x)) (c1 : w.cell? ⟨b, 1, none⟩ = some (.int .i64 y)) : Calls Tryz.prog 49 #[.slice (some ⟨b, 0, none⟩) 2 2] w fun e w' => e = .returned (.int .i64 (orI x y)) ∧ w' = w := by
  unfold orI
  by_cases h : x = 0
  · rw [if_pos h]
    have t1 : (x != 0) = false := by simp [h]
    clear h
    by_cases h2 : y = 0
    · have t2 : (y != 0) = false := by simp [h2]
      have HY : Hid (y = 0) := h2
      clear h2
      go_enter Tryz.func49, Tryz.ntmps49
      go_wp2
      refine wp_loop_rounds 3 ?_
      rw [rounds_succ]
      go_wp2
      rw [rounds_succ]
      go_wp2
      rw [rounds_succ]
      go_wp2
      go_ret
      exact ⟨by rw [HY.out]; rfl, rfl⟩
    · have t2 : (y != 0) = true := by simp [h2]
      go_enter Tryz.func49, Tryz.ntmps49
      go_wp2
      refine wp_loop_rounds 3 ?_
      rw [rounds_succ]
      go_wp2
      rw [rounds_succ]
      go_wp2
      go_ret
      exact ⟨rfl, rfl⟩
  · rw [if_neg h]
    have t1 : (x != 0) = true := by simp [h]
    go_enter Tryz.func49, Tryz.ntmps49
    go_wp2
    refine wp_loop_rounds 3 ?_
    rw [rounds_succ]
    go_wp2
    go_ret
    exact ⟨rfl, rfl⟩
def cmp2 (x y : Int × Int) : Int := orI (cmpI x.1 y.1) (cmpI x.2 y.2)
/-- A world that has drawn, and has new blocks behind. -/
def Grew (w w' : World) : Prop := ∃ q os, w' = grow (w.drewN q) os
theorem Grew.refl (w : World) : Grew w w := ⟨0, #[], by rw [grow_empty]; rfl⟩
theorem Grew.alloc {w w' : World} (h : Grew w w') (o : Obj) : Grew w (w'.alloc o) := by
  obtain ⟨q, os, rfl⟩ := h
  exact ⟨q, os ++ #[o], by rw [alloc_eq_grow, grow_grow]⟩
theorem Grew.drew {w w' : World} (h : Grew w w') : Grew w w'.drew := by
  obtain ⟨q, os, rfl⟩ := h
  exact ⟨q + 1, os, rfl⟩
def CL (k : Nat) (x y : Int × Int) (w w' : World) : Prop := Grew w w' ∧ w'.cell? ⟨k, 0, none⟩ = some (.int .i64 (x.1)) ∧ w'.cell? ⟨k, 1, none⟩ = some (.int .i64 (x.2)) ∧ w'.cell? ⟨k + 1, 0, none⟩ = some (.int .i64 (y.1)) ∧ w'.cell? ⟨k + 1, 1, none⟩ = some (.int .i64 (y.2))
theorem CL.alloc {k : Nat} {x y : Int × Int} {w w' : World} (h : CL k x y w w') (o : Obj) : CL k x y w (w'.alloc o) :=
  ⟨h.1.alloc o, later h.2.1 o, later h.2.2.1 o, later h.2.2.2.1 o, later h.2.2.2.2 o⟩
theorem new_row0 (w : World) (x y : Value) (t : TypeId) : (w.alloc (.cells #[x, y] t)).drew.cell? ⟨w.heap.size, 0, none⟩ = some x := by go_simp
theorem new_row1 (w : World) (x y : Value) (t : TypeId) : (w.alloc (.cells #[x, y] t)).drew.cell? ⟨w.heap.size, 1, none⟩ = some y := by go_simp
set_option maxHeartbeats 1000000 in
theorem closure_calls (x y : Int × Int) (w : World) : Calls Tryz.prog 48 #[.agg #[.int .i64 (x.1), .int .i64 (x.2)], .agg #[.int .i64 (y.1), .int .i64 (y.2)]] w fun e w' => e = .returned (.int .i64 (cmp2 x y)) ∧ ∃ q os', w' = grow (w.drewN q) os' := by
  go_enter Tryz.func48, Tryz.ntmps48
  go_wp2_with fail
  have H0 : Hid (CL w.heap.size x y w ((w.alloc (.cells #[.int .i64 (x.1), .int .i64 (x.2)] 70)).alloc (.cells #[.int .i64 (y.1), .int .i64 (y.2)] 70))) := ⟨((Grew.refl w).alloc _).alloc _, by go_simp, by go_simp, by go_simp, by go_simp⟩
  generalize ((w.alloc (.cells #[.int .i64 (x.1), .int .i64 (x.2)] 70)).alloc (.cells #[.int .i64 (y.1), .int .i64 (y.2)] 70)) = w0 at H0 ⊢
  generalize w.heap.size = k at H0 ⊢
  refine wp_region_held_drew (S := (fun w' => Grew w w' ∧ w'.cell? ⟨k, 0, none⟩ = some (.int .i64 (x.1)) ∧ w'.cell? ⟨k, 1, none⟩ = some (.int .i64 (x.2)) ∧ w'.cell? ⟨k + 1, 0, none⟩ = some (.int .i64 (y.1)) ∧ w'.cell? ⟨k + 1, 1, none⟩ = some (.int .i64 (y.2)))) (by kernel_rfl) ?_ (fun hHeld1 => ?_)
  · (try dsimp only); exact ⟨H0.out.1.drew, H0.out.2⟩
  refine wpAnyH_take (i := 0) (v := ?_) rfl (by kernel_rfl) (by kernel_rfl) (by kernel_rfl) (fun _ _ _ h => h) (Or.inl ⟨by kernel_rfl, ?_⟩) (by assumption) ?_
  rotate_left
  · intro w'' hSw; (try dsimp only at hSw); simp only [zqa, zqb, zqc]; (go_simp <;> with_reducible rfl)
  try simp only [Act.put, zqd, zqe, zqf, zqa, zqb, zqc]
  refine wpAnyH_take (i := 1) (v := ?_) rfl (by kernel_rfl) (by kernel_rfl) (by kernel_rfl) (fun _ _ _ h => h) (Or.inl ⟨by kernel_rfl, ?_⟩) (by assumption) ?_
  rotate_left
  · intro w'' hSw; (try dsimp only at hSw); simp only [zqa, zqb, zqc]; (go_simp <;> with_reducible rfl)
  try simp only [Act.put, zqd, zqe, zqf, zqa, zqb, zqc]
  refine wpAnyH_take (i := 2) (v := ?_) rfl (by kernel_rfl) (by kernel_rfl) (by kernel_rfl) (fun _ _ _ h => h) (Or.inl ⟨by kernel_rfl, ?_⟩) (by assumption) ?_
  rotate_left
  · intro w'' hSw; (try dsimp only at hSw); simp only [zqa, zqb, zqc]; (go_simp <;> with_reducible rfl)
  try simp only [Act.put, zqd, zqe, zqf, zqa, zqb, zqc]
  refine wpAnyH_take (i := 3) (v := ?_) rfl (by kernel_rfl) (by kernel_rfl) (by kernel_rfl) (fun _ _ _ h => h) (Or.inl ⟨by kernel_rfl, ?_⟩) (by assumption) ?_
  rotate_left
  · intro w'' hSw; (try dsimp only at hSw); simp only [zqa, zqb, zqc]; (go_simp <;> with_reducible rfl)
  try simp only [Act.put, zqd, zqe, zqf, zqa, zqb, zqc]
  refine wpAnyH_take (i := 5) (v := ?_) rfl (by kernel_rfl) (by kernel_rfl) (by kernel_rfl) (fun _ _ _ h => h) (Or.inl ⟨by kernel_rfl, ?_⟩) (by assumption) ?_
  rotate_left
  · intro w'' hSw; (try dsimp only at hSw); simp only [zqa, zqb, zqc]; (go_simp <;> with_reducible rfl)
  try simp only [Act.put, zqd, zqe, zqf, zqa, zqb, zqc]
  refine wpAnyH_take (i := 6) (v := ?_) rfl (by kernel_rfl) (by kernel_rfl) (by kernel_rfl) (fun _ _ _ h => h) (Or.inl ⟨by kernel_rfl, ?_⟩) (by assumption) ?_
  rotate_left
  · intro w'' hSw; (try dsimp only at hSw); simp only [zqa, zqb, zqc]; (go_simp <;> with_reducible rfl)
  try simp only [Act.put, zqd, zqe, zqf, zqa, zqb, zqc]
  refine wpAnyH_take (i := 7) (v := ?_) rfl (by kernel_rfl) (by kernel_rfl) (by kernel_rfl) (fun _ _ _ h => h) (Or.inl ⟨by kernel_rfl, ?_⟩) (by assumption) ?_
  rotate_left
  · intro w'' hSw; (try dsimp only at hSw); simp only [zqa, zqb, zqc]; (go_simp <;> with_reducible rfl)
  try simp only [Act.put, zqd, zqe, zqf, zqa, zqb, zqc]
  refine wpAnyH_take (i := 8) (v := ?_) rfl (by kernel_rfl) (by kernel_rfl) (by kernel_rfl) (fun _ _ _ h => h) (Or.inl ⟨by kernel_rfl, ?_⟩) (by assumption) ?_
  rotate_left
  · intro w'' hSw; (try dsimp only at hSw); simp only [zqa, zqb, zqc]; (go_simp <;> with_reducible rfl)
  try simp only [Act.put, zqd, zqe, zqf, zqa, zqb, zqc]
  refine wpAnyH_ready (rs := [4]) (by kernel_rfl) (by simp) ?_
  refine AllReadyH.cons rfl (fun K hK => ?_) AllReadyH.nil
  first | (with_reducible refine iteYes ?hcx ?htx; case hcx => kernel_rfl) | rw [if_pos (by rfl)]
  simp only [zqa, zqb, zqc]
  go_simp
  (go_at_call 50; refine (compare_calls _ _ _).mono ?_; rintro e w1 ⟨rfl, rfl⟩)
  try go_wp2_with fail
  refine hK.out _ _ ?_ (fun hHeld2 => ?_)
  · (try dsimp only); exact hHeld1
  clear hK K hHeld1
  try simp only [Act.put, zqd, zqe, zqf, zqa, zqb, zqc]
  refine wpAnyH_ready (rs := [9]) (by kernel_rfl) (by simp) ?_
  refine AllReadyH.cons rfl (fun K hK => ?_) AllReadyH.nil
  first | (with_reducible refine iteYes ?hcx ?htx; case hcx => kernel_rfl) | rw [if_pos (by rfl)]
  simp only [zqa, zqb, zqc]
  go_simp
  (go_at_call 50; refine (compare_calls _ _ _).mono ?_; rintro e w2 ⟨rfl, rfl⟩)
  try go_wp2_with fail
  refine hK.out _ _ ?_ (fun hHeld3 => ?_)
  · (try dsimp only); exact hHeld2
  clear hK K hHeld2
  try simp only [Act.put, zqd, zqe, zqf, zqa, zqb, zqc]
  refine wpAnyH_ready (rs := [10]) (by kernel_rfl) (by simp) ?_
  refine AllReadyH.cons rfl (fun K hK => ?_) AllReadyH.nil
  first | (with_reducible refine iteYes ?hcx ?htx; case hcx => kernel_rfl) | rw [if_pos (by rfl)]
  simp only [zqa, zqb, zqc]
  go_simp
  refine hK.out _ _ ?_ (fun hHeld4 => ?_)
  · (try dsimp only); exact CL.alloc hHeld3 _
  clear hK K
  try simp only [Act.put, zqd, zqe, zqf, zqa, zqb, zqc]
  refine wpAnyH_ready (rs := [11]) (by kernel_rfl) (by simp) ?_
  refine AllReadyH.cons rfl (fun K hK => ?_) AllReadyH.nil
  first | (with_reducible refine iteYes ?hcx ?htx; case hcx => kernel_rfl) | rw [if_pos (by rfl)]
  simp only [zqa, zqb, zqc]
  go_simp
  (go_at_call 49; refine (or_calls w0.heap.size (cmpI x.1 y.1) (cmpI x.2 y.2) _ (by exact new_row0 ..) (by exact new_row1 ..)).mono ?_; rintro e w4 ⟨rfl, rfl⟩)
  try go_wp2_with fail
  refine hK.out _ _ ?_ (fun hHeld5 => ?_)
  · (try dsimp only); exact hHeld4
  clear hK K hHeld4
  try simp only [Act.put, zqd, zqe, zqf, zqa, zqb, zqc]
  refine wpAnyH_take (i := 12) (v := ?_) rfl (by kernel_rfl) (by kernel_rfl) (by kernel_rfl) (fun _ _ _ h => h) (Or.inl ⟨by kernel_rfl, ?_⟩) (by assumption) ?_
  rotate_left
  · intro w'' hSw; (try dsimp only at hSw); simp only [zqa, zqb, zqc]; (go_simp <;> with_reducible rfl)
  try simp only [Act.put, zqd, zqe, zqf, zqa, zqb, zqc]
  refine wpAnyH_done (by kernel_rfl) ?_ _
  have HG : Hid (Grew w _) := hHeld5.1
  clear hHeld5
  go_wp2_with fail
  go_ret
  exact ⟨rfl, HG.out⟩
end Go.Proofs.YtbfkloclmlnahabGreat

namespace Go.Proofs.YtbfkloclmlnahabGreat
open Go.ChangeShapes Go.WideShapes Go.ChangeAt Go.RowKit
open Go.Maps (Keyed)
set_option linter.unusedVariables false
set_option linter.unusedSimpArgs false

def enc2 (p : Int × Int) : List Value := [.int .i64 (p.1), .int .i64 (p.2)]
def SlPairs (w : World) (v : Value) (P : List (Int × Int)) : Prop := w.ownsRow 0 70 2 v P.length (P.flatMap enc2)
theorem pairInfo : (Tryz.prog.info? 70).map (fun i => (i.zero, i.size, i.bytes)) = some (some (.agg #[.int .i64 0, .int .i64 0]), 2, 16) := by kernel_rfl
theorem SlPairs.kept {w w' : World} {v : Value} {P : List (Int × Int)} (h : SlPairs w v P) {D : List Nat} (o : Only D w w') (s : ∀ b ∈ ownL v, b ∉ D) : SlPairs w' v P := by
  obtain ⟨h1, h2⟩ := h
  refine ⟨h1, ?_⟩
  rcases h2 with h2 | ⟨g, cap, cur, rfl, hb, hg, r⟩
  · exact Or.inl h2
  · exact Or.inr ⟨g, cap, cur, rfl, hb, (o.block g (Array.getElem?_eq_some_iff.1 hg).1 (s g (by simp [ownL, Value.ownBlock]))).trans hg, r⟩
theorem SlPairs.lt {w : World} {v : Value} {P : List (Int × Int)} (h : SlPairs w v P) : ∀ b ∈ ownL v, b < w.heap.size := by
  intro b hb
  obtain ⟨_, ⟨rfl, _⟩ | ⟨g, cap, cur, rfl, _, hg, _⟩⟩ := h
  · simp [ownL, Value.ownBlock] at hb
  · simp only [ownL, Value.ownBlock, Option.toList_some, List.mem_singleton] at hb
    subst hb
    exact (Array.getElem?_eq_some_iff.1 hg).1
theorem SlPairs.nil (w : World) : SlPairs w (.slice none 0 0) [] := World.ownsRow_nil w 0 _ _
/-- A slice's shape. -/
theorem SlInts.shape {w : World} {v : Value} {xs : List Int} (h : SlInts w v xs) : ∃ a c, v = .slice a xs.length c ∧ (∀ j (hj : j < xs.length), ∃ g, a = some ⟨g, 0, none⟩ ∧ w.cell? ⟨g, j, none⟩ = some (.int .i64 (xs[j]))) := by
  obtain ⟨h1, ⟨rfl, h2⟩ | ⟨g, cap, cur, rfl, hb, hg, hn, hc, hs, ht⟩⟩ := h
  · exact ⟨none, 0, by rw [h2], fun j hj => by omega⟩
  · refine ⟨some ⟨g, 0, none⟩, cap, rfl, fun j hj => ⟨g, rfl, ?_⟩⟩
    have e : (cur.toList.take (xs.length * 1))[j]? = some (.int .i64 (xs[j])) := by rw [ht]; simp [hj]
    rw [List.getElem?_take] at e
    simp only [Nat.mul_one, hj, if_true] at e
    simp only [World.cell?, hg, Option.isSome_none, Bool.false_eq_true, if_false]
    rw [← e, Array.getElem?_toList]
theorem SlPairs.shape {w : World} {v : Value} {P : List (Int × Int)} (h : SlPairs w v P) : ∃ a c, v = .slice a P.length c ∧ (∀ j (hj : j < P.length), ∃ g, a = some ⟨g, 0, none⟩ ∧ w.cell? ⟨g, j * 2, none⟩ = some (.int .i64 (P[j].1)) ∧ w.cell? ⟨g, j * 2 + 1, none⟩ = some (.int .i64 (P[j].2))) := by
  obtain ⟨h1, ⟨rfl, h2⟩ | ⟨g, cap, cur, rfl, hb, hg, hn, hc, hs, ht⟩⟩ := h
  · exact ⟨none, 0, by rw [h2], fun j hj => by omega⟩
  · refine ⟨some ⟨g, 0, none⟩, cap, rfl, fun j hj => ⟨g, rfl, ?_⟩⟩
    have fl : ∀ (Q : List (Int × Int)) (j : Nat) (hj : j < Q.length), (Q.flatMap enc2)[j * 2]? = some (.int .i64 (Q[j].1)) ∧ (Q.flatMap enc2)[j * 2 + 1]? = some (.int .i64 (Q[j].2)) := by
      intro Q
      induction Q with
      | nil => intro j hj; simp at hj
      | cons p Q ih =>
        intro j hj
        cases j with
        | zero => simp [enc2]
        | succ j =>
          have := ih j (by simpa using hj)
          simp only [List.flatMap_cons, enc2, List.cons_append, List.nil_append]
          rw [show (j + 1) * 2 = j * 2 + 1 + 1 by omega]
          simpa using this
    have e := fl P j hj
    rw [← ht, List.getElem?_take, List.getElem?_take, if_pos (by omega), if_pos (by omega)] at e
    simp only [World.cell?, hg, Option.isSome_none, Bool.false_eq_true, if_false]
    rw [← e.1, ← e.2, Array.getElem?_toList, Array.getElem?_toList]
    exact ⟨rfl, rfl⟩

/-- What a list has become by one more pair. -/
def PairPost (w : World) (v : Value) (P : List (Int × Int)) (v' : Value) (w' : World) : Prop := SlPairs w' v' P ∧ Only (ownL v) w w' ∧ (∀ b ∈ ownL v', b ∈ ownL v ∨ w.heap.size ≤ b)
theorem pair_post {w2 w3 : World} {v v' : Value} {P : List (Int × Int)} {p : Int × Int} {T : TypeId} (hown : w3.ownsRow 0 70 2 v' (P.length + 1) (P.flatMap enc2 ++ [.int .i64 (p.1), .int .i64 (p.2)])) (hgrow : (w2.alloc (.cells #[.int .i64 (p.1), .int .i64 (p.2)] T)).grownBy w3 v.ownBlock)
    (hloc : v'.ownBlock = v.ownBlock ∨ v'.ownBlock = some (w2.alloc (.cells #[.int .i64 (p.1), .int .i64 (p.2)] T)).heap.size) : Hid (PairPost w2 v (P ++ [p]) v' w3) := by
  refine ⟨?_, ?_, ?_⟩
  · unfold SlPairs; rw [List.flatMap_append, List.length_append]; exact hown
  · refine ((Only.refl _ _).alloc _).grown hgrow (fun k hk => Or.inl ?_)
    simp [ownL, hk]
  · intro x hx
    rcases hloc with e | e
    · left; simpa [ownL, e] using hx
    · right
      simp only [ownL, e, Option.toList_some, List.mem_singleton] at hx
      simp at hx; omega
theorem cell_two (w : World) (a b : Value) (t : TypeId) : ∀ j u, [a, b][j]? = some u → (w.alloc (.cells #[a, b] t)).cell? ((⟨w.heap.size, 0, none⟩ : Addr).add j) = some u := by
  intro j u hj
  match j, hj with
  | 0, hj => simp at hj; subst hj; simp [Addr.add]
  | 1, hj => simp at hj; subst hj; simp [Addr.add]
  | j + 2, hj => simp at hj

/-- The pairs that one leaf gives. -/
def above (i : Int) (ys : List Int) : List (Int × Int) := (ys.filter (fun y => decide (i < y))).map (fun y => (i, y))
def pairsAt (L : List Lf) (x : Lf) : List (Int × Int) := above x.id (idsOf x.box L)
theorem above_take_lt {i : Int} {ys : List Int} {j : Nat} (hj : j < ys.length) (h : i < ys[j]) : above i (ys.take (j + 1)) = above i (ys.take j) ++ [(i, ys[j])] := by
  unfold above
  rw [List.take_succ_eq_append_getElem hj, List.filter_append, List.map_append]
  congr 1
  simp [List.filter_cons, h]
theorem above_take_ge {i : Int} {ys : List Int} {j : Nat} (hj : j < ys.length) (h : ¬ i < ys[j]) : above i (ys.take (j + 1)) = above i (ys.take j) := by
  unfold above
  rw [List.take_succ_eq_append_getElem hj, List.filter_append, List.map_append]
  simp only [List.filter_cons, h, decide_false, Bool.false_eq_true, if_false, List.filter_nil, List.map_nil, List.append_nil]
theorem above_le (i : Int) (ys : List Int) : (above i ys).length ≤ ys.length := by unfold above; rw [List.length_map]; exact List.length_filter_le _ _
def sort2 (P : List (Int × Int)) : List (Int × Int) := P.mergeSort (fun x y => !decide (cmp2 y x < 0))
/-- What the sort is to do. -/
def Sorts : Prop := ∀ (w : World) (v : Value) (P : List (Int × Int)), SlPairs w v P → P.length ≤ 100000 →
  Calls Tryz.prog 47 #[v, .func (.func 48) #[] #[]] w fun e w' => e = .returned (.tuple #[]) ∧ SlPairs w' v (sort2 P) ∧ Only (ownL v) w w'

theorem ranges_only {w w' : World} {D : List Nat} {m r n : Nat} {MD : DataW Unit} {left : Lit → Bool} {cnt : Nat} (h : w.ranges Tryz.prog 3 nodeElem m r n MD left cnt) (o : Only D w w') (hm : m ∉ D) (hr : r ∉ D) : w'.ranges Tryz.prog 3 nodeElem m r n MD left cnt := by
  have h1 := h.owns.lt
  have h2 := h.lt
  obtain ⟨es, clock, since, seen, c0, hb, F, hs, hD, hrr, rest⟩ := h
  exact ⟨es, clock, since, seen, c0, (o.block m h1 hm).trans hb, F, hs, hD, (o.block r h2 hr).trans hrr, rest⟩
theorem ranges_apart {w : World} {m r n : Nat} {MD : DataW Unit} {left : Lit → Bool} {cnt : Nat} (h : w.ranges Tryz.prog 3 nodeElem m r n MD left cnt) {v : Value} {P : List (Int × Int)} (hv : SlPairs w v P) : m ∉ ownL v ∧ r ∉ ownL v := by
  obtain ⟨es, clock, since, seen, c0, hb, F, hs, hD, hrr, rest⟩ := h
  obtain ⟨_, ⟨rfl, _⟩ | ⟨g, cap, cur, rfl, _, hg, _⟩⟩ := hv
  · simp [ownL, Value.ownBlock]
  · simp only [ownL, Value.ownBlock, Option.toList_some, List.mem_singleton]
    refine ⟨fun e => ?_, fun e => ?_⟩
    · rw [e, hg] at hb; cases hb
    · rw [e, hg] at hrr; cases hrr
/-- As the loop over the book goes: what has come, and what is still to come. -/
structure PL (w : World) (L : List Lf) (m r : Nat) (MD : DataW Unit) (cnt : Nat) (v : Value) (dn rem : List Lf) (left : Lit → Bool) (wr : World) : Prop where
  rng : wr.ranges Tryz.prog 3 nodeElem m r L.length MD left cnt
  perm : L.Perm (dn ++ rem)
  lft : ∀ i, left (key i) = true ↔ i ∈ rem.map Lf.id
  sl : SlPairs wr v (dn.flatMap (pairsAt L))
  only : Only [] w wr
  new : ∀ b ∈ ownL v, w.heap.size ≤ b
  rnew : w.heap.size ≤ r
theorem sameKey_key (i j : Int) : (key i).sameKey (key j) = decide (i = j) := by
  by_cases h : i = j
  · subst h; simp [WideAt.sameKey_self (keyLit i)]
  · rw [Maps.sameKey_ne (key_ne h)]; simp [h]
theorem pairs_len {L dn rem : List Lf} (p : L.Perm (dn ++ rem)) (h : L.length ≤ 60) : (dn.flatMap (pairsAt L)).length ≤ 3600 := by
  have h1 : ∀ x : Lf, (pairsAt L x).length ≤ 60 := fun x => Nat.le_trans (above_le _ _) (Nat.le_trans (by unfold idsOf; rw [List.length_map]; exact List.length_filter_le _ _) h)
  have h2 : ∀ D : List Lf, (D.flatMap (pairsAt L)).length ≤ 60 * D.length := by
    intro D
    induction D with
    | nil => simp
    | cons x D ih => simp only [List.flatMap_cons, List.length_append, List.length_cons]; have := h1 x; omega
  have h3 := h2 dn
  have := p.length_eq
  simp only [List.length_append] at this
  omega
end Go.Proofs.YtbfkloclmlnahabGreat

namespace Go.Proofs.YtbfkloclmlnahabGreat
open Go.ChangeShapes Go.WideShapes Go.ChangeAt Go.RowKit
open Go.Maps (Keyed)
set_option linter.unusedVariables false
set_option linter.unusedSimpArgs false

def PS (t rt zb : Nat) (q : Bx) (w w' : World) : Prop := Only [] w w' ∧ w'.cell? ⟨t, 1, none⟩ = some (.pointer (some ⟨rt, 0, none⟩)) ∧ w'.cell? ⟨zb, 1, none⟩ = some (.int .i64 q.x0) ∧ w'.cell? ⟨zb, 2, none⟩ = some (.int .i64 q.x1) ∧ w'.cell? ⟨zb, 3, none⟩ = some (.int .i64 q.x2) ∧ w'.cell? ⟨zb, 4, none⟩ = some (.int .i64 q.x3) ∧ w'.cell? ⟨zb, 5, none⟩ = some (.int .i64 q.x4) ∧ w'.cell? ⟨zb, 6, none⟩ = some (.int .i64 q.x5)
theorem PS.of {t zb : Nat} {fat : Int} {rt : Nat} {lv : Option Nat} {n : Nd} {w w' : World} (o : Only [] w w') (ht : TreeAt w t fat (some rt) lv) (hz : NodeAt w zb n) : PS t rt zb n.box w w' := by
  have h1 := o.tree (by simp) ht
  have h2 := o.node (by simp) hz
  exact ⟨o, h1.c1, h2.c1, h2.c2, h2.c3, h2.c4, h2.c5, h2.c6⟩
theorem nodeElem_ptr (v : Value) (y : DataW Unit × List MemPlace) (h : nodeElem v = some y) : ∃ c, v = ptr c := by
  unfold nodeElem at h
  split at h
  · exact ⟨none, rfl⟩
  · exact ⟨some _, rfl⟩
  · cases h
theorem key_int (k : Value) (kl : Lit) (h : keyOf Tryz.prog 3 k = some kl) : ∃ x, k = Value.int .i64 x := by
  obtain ⟨x, rfl, _⟩ := Maps.keyOf_int_inv Tryz.underlying3 h
  exact ⟨x, rfl⟩
/-- One entry has come: whose leaf it is. -/
theorem PL.came {w wr w1 : World} {L : List Lf} {m r : Nat} {MD : DataW Unit} {cnt cnt1 : Nat} {v : Value} {dn rem : List Lf} {left : Lit → Bool} (h : PL w L m r MD cnt v dn rem left wr) (hb : Book MD L) {x : Int} {c : Option Nat} {kl : Lit} {y : DataW Unit × List MemPlace}
    (hkey : keyOf Tryz.prog 3 (Value.int .i64 x) = some kl) (hlk : left kl = true) (hv : nodeElem (ptr c) = some y) (hat : ∀ zd, MD.atKey kl zd = y.1) (hrg : w1.ranges Tryz.prog 3 nodeElem m r L.length MD (fun z => left z && !z.sameKey kl) cnt1) (hg : wr.grownBy w1 (some r)) :
    ∃ z rem', z.id = x ∧ c = some z.b ∧ z ∈ L ∧ L.Perm ((dn ++ [z]) ++ rem') ∧ (∀ i, (fun z => left z && !z.sameKey kl) (key i) = true ↔ i ∈ rem'.map Lf.id) ∧ SlPairs w1 v (dn.flatMap (pairsAt L)) ∧ Only [] w w1 := by
  obtain ⟨x', ex, rfl, hwx⟩ := Maps.keyOf_int_inv Tryz.underlying3 hkey
  injection ex with _ ex; subst ex
  obtain ⟨z, hz, hzi⟩ := List.mem_map.1 ((h.lft x).1 hlk)
  obtain ⟨rem', hp⟩ := perm_find hz
  have hzL : z ∈ L := h.perm.mem_iff.2 (List.mem_append_right _ hz)
  have ap := ranges_apart h.rng h.sl
  have o1 : Only [r] wr w1 := (Only.refl [r] wr).grown hg (fun k hk => by injection hk with hk; exact Or.inl (by simp [hk]))
  have hc : c = some z.b := by
    have h1 := hb.there z hzL
    rw [hzi, hat .nil] at h1
    obtain ⟨y1, y2⟩ := y
    simp only at h1
    subst h1
    have := nodeElem_some hv
    cases c with
    | none => cases this
    | some b => simp only [ptr_some, Value.pointer.injEq, Option.some.injEq, Addr.mk.injEq, and_true] at this; rw [this]
  refine ⟨z, rem', hzi, hc, hzL, ?_, fun i => ?_, h.sl.kept o1 (fun b hb' => by simp; exact fun e => ap.2 (e ▸ hb')), h.only.then o1 (fun b hb' => by simp at hb'; subst hb'; exact Or.inr h.rnew)⟩
  · refine h.perm.trans ((List.Perm.append_left dn hp).trans ?_)
    simp
  · have hn : (rem.map Lf.id).Nodup := ((h.perm.map Lf.id).nodup hb.nodup |> fun q => by rw [List.map_append] at q; exact (List.nodup_append.1 q).2.1)
    have hn2 := (hp.map Lf.id).nodup hn
    simp only [List.map_cons, List.nodup_cons] at hn2
    simp only [Bool.and_eq_true, Bool.not_eq_true', h.lft i, sameKey_key, (hp.map Lf.id).mem_iff, List.map_cons, List.mem_cons, decide_eq_false_iff_not]
    rw [hzi]
    constructor
    · rintro ⟨q | q, hne⟩
      · exact absurd q hne
      · exact q
    · intro q
      exact ⟨Or.inr q, fun e => hn2.1 (by rw [hzi, ← e]; exact q)⟩

/-- As the loop over those that one meets goes. -/
structure PI (w2 : World) (v : Value) (P0 : List (Int × Int)) (i : Int) (ys : List Int) (j : Nat) (v3 : Value) (wr : World) : Prop where
  le : j ≤ ys.length
  sl : SlPairs wr v3 (P0 ++ above i (ys.take j))
  only : Only (ownL v) w2 wr
  new : ∀ b ∈ ownL v3, b ∈ ownL v ∨ w2.heap.size ≤ b

theorem PI.more {w2 wr w5 : World} {v v3 v' : Value} {P0 : List (Int × Int)} {i : Int} {ys : List Int} {j : Nat} {yj : Int} (h : PI w2 v P0 i ys j v3 wr) (hj : j < ys.length) (hy : yj = ys[j]) (hi : i < yj) (p : PairPost wr v3 ((P0 ++ above i (ys.take j)) ++ [(i, yj)]) v' w5) : PI w2 v P0 i ys (j + 1) v' w5 := by
  subst hy
  obtain ⟨p1, p2, p3⟩ := p
  refine ⟨hj, ?_, h.only.then p2 (fun b hb => h.new b hb), fun b hb => ?_⟩
  · rw [above_take_lt hj hi, ← List.append_assoc]; exact p1
  · rcases p3 b hb with q | q
    · exact h.new b q
    · exact Or.inr (Nat.le_trans h.only.size q)
theorem PI.skip {w2 wr : World} {v v3 : Value} {P0 : List (Int × Int)} {i : Int} {ys : List Int} {j : Nat} {yj : Int} (h : PI w2 v P0 i ys j v3 wr) (hj : j < ys.length) (hy : yj = ys[j]) (hi : ¬ i < yj) : PI w2 v P0 i ys (j + 1) v3 wr := by
  subst hy
  exact ⟨hj, by rw [above_take_ge hj hi]; exact h.sl, h.only, h.new⟩

set_option maxRecDepth 100000 in
set_option maxHeartbeats 800000 in
theorem pairs_some (hsort : Sorts) (t : Nat) (fat : Int) (T : Option Tr) (m : Nat) (w : World) (hw : Whole w t fat T (some m)) (hl : (leavesO T).length ≤ 60) :
    Calls Tryz.prog 29 #[.pointer (some ⟨t, 0, none⟩)] w fun e w' => ∃ v dn, e = .returned v ∧ (leavesO T).Perm dn ∧ SlPairs w' v (sort2 (dn.flatMap (pairsAt (leavesO T)))) ∧ Only [] w w' ∧ (∀ b ∈ ownL v, w.heap.size ≤ b) := by
  have c2 := hw.tree.c2
  obtain ⟨MD, hown, hbk⟩ := hw.book
  obtain ⟨L, hL⟩ : ∃ L, L = leavesO T := ⟨_, rfl⟩
  rw [← hL] at hown hbk hl ⊢
  have HW : Hid (Whole w t fat T (some m) ∧ Book MD L ∧ L = leavesO T ∧ L.length ≤ 60) := ⟨hw, hbk, hL, hl⟩
  have HS : Hid Sorts := hsort
  obtain ⟨i2, hi0, hz0, hz1, hz2⟩ := info_parts pairInfo
  clear hw hbk hL hl hsort
  go_enter Tryz.func29, Tryz.ntmps29
  go_wp2_with (first | (at_range; refine wpList_range_own _ rfl _ 92 rfl 3 91 intKey Tryz.underlying92 _ m _ MD rfl hown ?_; intro w0 hrg0 hg0 hs0))
  go_frame
  have H0 : Hid (PL w L m w.heap.size MD (Maps.size MD) (.slice none 0 0) [] L (Maps.has MD) w0) := ⟨hrg0, List.Perm.refl _, HW.out.2.1.has, SlPairs.nil _, (Only.refl [] w).grown hg0 (fun k hk => by cases hk), by simp [ownL, Value.ownBlock], Nat.le_refl _⟩
  clear hrg0 hg0 hs0 c2 hown
  generalize hr : w.heap.size = r at H0 ⊢
  have HR : Hid (w.heap.size = r) := hr
  clear hr
  go_loopg [3] (Maps.size MD) (fun k p wr => ∃ v dn rem left, v = p ∧ PL w L m r MD k v dn rem left wr)
  case atStart => exact ⟨_, _, _, _, rfl, H0.out⟩
  case round =>
    obtain ⟨v, dn, rem, left, rfl, hpl⟩ := hrel
    have HP : Hid (PL w L m r MD gk v dn rem left wr) := hpl
    have hrg := hpl.rng
    clear hpl H0
    go_wp2_with (first | (at_next; refine wpList_next_ranges _ rfl _ rfl 3 intKey nodeElem (Value.int .i64) ptr key_int nodeElem_ptr m r _ MD _ _ rfl hrg ?_ ?_))
    · intro hc0 hl0
      have HE : Hid (rem = []) := by
        cases hrm : rem with
        | nil => exact rfl
        | cons y rem => have := (HP.out.lft y.id).2 (by simp [hrm]); rw [hl0] at this; cases this
      clear hrg hl0 hc0
      go_wp2_with fail
      refine (HS.out _ v _ HP.out.sl (by have := pairs_len HP.out.perm HW.out.2.2.2; omega)).mono ?_
      rintro e w9 ⟨rfl, hs9, o9⟩
      have H9 : Hid (SlPairs w9 v (sort2 (dn.flatMap (pairsAt L))) ∧ Only (ownL v) wr w9) := ⟨hs9, o9⟩
      clear hs9 o9
      go_wp2_with fail
      go_ret
      have hp := HP.out.perm
      rw [HE.out, List.append_nil] at hp
      exact ⟨v, dn, rfl, hp, H9.out.1, HP.out.only.then H9.out.2 (fun b hb => Or.inr (HP.out.new b hb)), HP.out.new⟩
    · intro x c kl y1 y2 w1 cnt1 hkey hlk hv hat hrg1 hlt hg1 hs1 hen
      obtain ⟨z, rem', hzi, rfl, hzL, hperm, hlft, hsl1, ho1⟩ := HP.out.came HW.out.2.1 (y := (y1, y2)) hkey hlk hv hat hrg1 hg1
      have H1 : Hid (w1.ranges Tryz.prog 3 nodeElem m r L.length MD (fun z => left z && !z.sameKey kl) cnt1 ∧ z.id = x ∧ z ∈ L ∧ L.Perm ((dn ++ [z]) ++ rem') ∧ (∀ i, (fun z => left z && !z.sameKey kl) (key i) = true ↔ i ∈ rem'.map Lf.id) ∧ SlPairs w1 v (dn.flatMap (pairsAt L)) ∧ Only [] w w1 ∧ cnt1 < gk) := ⟨hrg1, hzi, hzL, hperm, hlft, hsl1, ho1, hlt⟩
      obtain ⟨T1, hT1⟩ : ∃ T1, T = some T1 := by
        cases hT : T with
        | none => have := HW.out.2.2.1; rw [hT] at this; rw [this] at hzL; simp [leavesO] at hzL
        | some T1 => exact ⟨T1, rfl⟩
      simp only [ptr_some] at hen ⊢
      have hw1 : Whole w1 t fat (some T1) (some m) := by have := HW.out.1.only ho1 (by simp); rw [hT1] at this; exact this
      have hzT : z ∈ T1.leaves := by have := HW.out.2.2.1; rw [hT1] at this; rw [this] at hzL; exact hzL
      obtain ⟨c, hz1, hxn, hz2⟩ := way_to z T1 [] hw1.inn.1 hw1.tree hzT
      have HPS : Hid (∀ w', Only [] w1 w' → PS t T1.root z.b z.box w1 w') := fun w' o => PS.of o hw1.tree hxn
      have HT : Hid (T = some T1 ∧ Whole w1 t fat (some T1) (some m)) := ⟨hT1, hw1⟩
      clear hrg hkey hlk hv hat hrg1 hlt hg1 hs1 hzi hzL hperm hlft hsl1 ho1 hT1 hw1 hzT hz1 hxn hz2
      generalize hrt : T1.root = rt at HPS
      have HRT : Hid (T1.root = rt) := hrt
      clear hrt
      go_wp2_with fail
      clear hen
      refine wp_region_held_drew (S := (fun w' => Only [] w1 w' ∧ w'.cell? ⟨t, 1, none⟩ = some (.pointer (some ⟨rt, 0, none⟩)) ∧ w'.cell? ⟨z.b, 1, none⟩ = some (.int .i64 z.box.x0) ∧ w'.cell? ⟨z.b, 2, none⟩ = some (.int .i64 z.box.x1) ∧ w'.cell? ⟨z.b, 3, none⟩ = some (.int .i64 z.box.x2) ∧ w'.cell? ⟨z.b, 4, none⟩ = some (.int .i64 z.box.x3) ∧ w'.cell? ⟨z.b, 5, none⟩ = some (.int .i64 z.box.x4) ∧ w'.cell? ⟨z.b, 6, none⟩ = some (.int .i64 z.box.x5))) (by kernel_rfl) ?_ (fun hHeld1 => ?_)
      · (try dsimp only); exact HPS.out _ (Only.refl _ _).drew
      refine wpAnyH_take (i := 0) (v := ?_) rfl (by kernel_rfl) (by kernel_rfl) (by kernel_rfl) (fun _ _ _ h => h) (Or.inl ⟨by kernel_rfl, ?_⟩) (by assumption) ?_
      rotate_left
      · intro w'' hSw; (try dsimp only at hSw); simp only [zqa, zqb, zqc]; (go_simp <;> with_reducible rfl)
      try simp only [Act.put, zqd, zqe, zqf, zqa, zqb, zqc]
      refine wpAnyH_take (i := 1) (v := ?_) rfl (by kernel_rfl) (by kernel_rfl) (by kernel_rfl) (fun _ _ _ h => h) (Or.inl ⟨by kernel_rfl, ?_⟩) (by assumption) ?_
      rotate_left
      · intro w'' hSw; (try dsimp only at hSw); simp only [zqa, zqb, zqc]; (go_simp <;> with_reducible rfl)
      try simp only [Act.put, zqd, zqe, zqf, zqa, zqb, zqc]
      refine wpAnyH_take (i := 2) (v := ?_) rfl (by kernel_rfl) (by kernel_rfl) (by kernel_rfl) (fun _ _ _ h => h) (Or.inl ⟨by kernel_rfl, ?_⟩) (by assumption) ?_
      rotate_left
      · intro w'' hSw; (try dsimp only at hSw); simp only [zqa, zqb, zqc]; (go_simp <;> with_reducible rfl)
      try simp only [Act.put, zqd, zqe, zqf, zqa, zqb, zqc]
      refine wpAnyH_take (i := 3) (v := ?_) rfl (by kernel_rfl) (by kernel_rfl) (by kernel_rfl) (fun _ _ _ h => h) (Or.inl ⟨by kernel_rfl, ?_⟩) (by assumption) ?_
      rotate_left
      · intro w'' hSw; (try dsimp only at hSw); simp only [zqa, zqb, zqc]; (go_simp <;> with_reducible rfl)
      try simp only [Act.put, zqd, zqe, zqf, zqa, zqb, zqc]
      refine wpAnyH_take (i := 4) (v := ?_) rfl (by kernel_rfl) (by kernel_rfl) (by kernel_rfl) (fun _ _ _ h => h) (Or.inl ⟨by kernel_rfl, ?_⟩) (by assumption) ?_
      rotate_left
      · intro w'' hSw; (try dsimp only at hSw); simp only [zqa, zqb, zqc]; (go_simp <;> with_reducible rfl)
      try simp only [Act.put, zqd, zqe, zqf, zqa, zqb, zqc]
      refine wpAnyH_take (i := 5) (v := ?_) rfl (by kernel_rfl) (by kernel_rfl) (by kernel_rfl) (fun _ _ _ h => h) (Or.inl ⟨by kernel_rfl, ?_⟩) (by assumption) ?_
      rotate_left
      · intro w'' hSw; (try dsimp only at hSw); simp only [zqa, zqb, zqc]; (go_simp <;> with_reducible rfl)
      try simp only [Act.put, zqd, zqe, zqf, zqa, zqb, zqc]
      refine wpAnyH_take (i := 6) (v := ?_) rfl (by kernel_rfl) (by kernel_rfl) (by kernel_rfl) (fun _ _ _ h => h) (Or.inl ⟨by kernel_rfl, ?_⟩) (by assumption) ?_
      rotate_left
      · intro w'' hSw; (try dsimp only at hSw); simp only [zqa, zqb, zqc]; (go_simp <;> with_reducible rfl)
      try simp only [Act.put, zqd, zqe, zqf, zqa, zqb, zqc]
      refine wpAnyH_take (i := 7) (v := ?_) rfl (by kernel_rfl) (by kernel_rfl) (by kernel_rfl) (fun _ _ _ h => h) (Or.inl ⟨by kernel_rfl, ?_⟩) (by assumption) ?_
      rotate_left
      · intro w'' hSw; (try dsimp only at hSw); simp only [zqa, zqb, zqc]; (go_simp <;> with_reducible rfl)
      try simp only [Act.put, zqd, zqe, zqf, zqa, zqb, zqc]
      refine wpAnyH_take (i := 10) (v := ?_) rfl (by kernel_rfl) (by kernel_rfl) (by kernel_rfl) (fun _ _ _ h => h) (Or.inl ⟨by kernel_rfl, ?_⟩) (by assumption) ?_
      rotate_left
      · intro w'' hSw; (try dsimp only at hSw); simp only [zqa, zqb, zqc]; (go_simp <;> with_reducible rfl)
      try simp only [Act.put, zqd, zqe, zqf, zqa, zqb, zqc]
      refine wpAnyH_ready (rs := [8]) (by kernel_rfl) (by simp) ?_
      refine AllReadyH.cons rfl (fun K hK => ?_) AllReadyH.nil
      first | (with_reducible refine iteYes ?hcx ?htx; case hcx => kernel_rfl) | rw [if_pos (by rfl)]
      simp only [zqa, zqb, zqc]
      go_simp
      (go_at_call 46; rw [← HRT.out]; refine (meeting_tells z.box T1 _ none (.slice none 0 0) [] (by exact HT.out.2.inn.1.only (Only.refl [] w1).drew (by simp)) (by exact World.ownsRow_nil _ 0 _ _) (by have h1 := HW.out.2.2.2; have h2 := HW.out.2.2.1; rw [HT.out.1] at h2; rw [h2] at h1; simp only [leavesO] at h1; simp; omega)).mono ?_; rintro e w2 ⟨v2, rfl, hs2, o2, hb2⟩; obtain ⟨a2, cp2, rfl, hsh⟩ := hs2.shape)
      try go_wp2_with fail
      refine hK.out _ _ ?_ (fun hHeld2 => ?_)
      · (try dsimp only); exact HPS.out _ ((Only.refl [] w1).drew.trans o2)
      clear hK K hHeld1
      try simp only [Act.put, zqd, zqe, zqf, zqa, zqb, zqc]
      refine wpAnyH_take (i := 9) (v := ?_) rfl (by kernel_rfl) (by kernel_rfl) (by kernel_rfl) (fun _ _ _ h => h) (Or.inl ⟨by kernel_rfl, ?_⟩) (by assumption) ?_
      rotate_left
      · intro w'' hSw; (try dsimp only at hSw); simp only [zqa, zqb, zqc]; (go_simp <;> with_reducible rfl)
      try simp only [Act.put, zqd, zqe, zqf, zqa, zqb, zqc]
      refine wpAnyH_done (by kernel_rfl) ?_ _
      have hys : Hid (meetIds z.box T1 = idsOf z.box L) := by
        show meetIds z.box T1 = _
        rw [meetIds_eq z.box T1 HT.out.2.fits, HW.out.2.2.1, HT.out.1]; rfl
      have hlen := meetIds_le z.box T1
      have hlen2 : T1.leaves.length ≤ 60 := by have h1 := HW.out.2.2.2; have h2 := HW.out.2.2.1; rw [HT.out.1] at h2; rw [h2] at h1; exact h1
      simp only [List.nil_append] at hsh hb2 ⊢
      have O2 : Only [] w1 w2 := (Only.refl [] w1).drew.trans o2
      have HA : Hid (∀ g, a2 = some ⟨g, 0, none⟩ → w1.heap.size ≤ g) := fun g hg => by
        rcases hb2 g (by rw [hg]; simp [ownL, Value.ownBlock]) with q | q
        · simp [ownL, Value.ownBlock] at q
        · exact q
      have H2 : Hid (PI w2 v (dn.flatMap (pairsAt L)) x (meetIds z.box T1) 0 v w2 ∧ Only [] w1 w2 ∧ (∀ b ∈ ownL v, b < w1.heap.size)) := ⟨⟨Nat.zero_le _, by simp only [List.take_zero, above, List.filter_nil, List.map_nil, List.append_nil]; exact H1.out.2.2.2.2.2.1.kept O2 (by simp), Only.refl _ _, fun b hb => Or.inl hb⟩, O2, H1.out.2.2.2.2.2.1.lt⟩
      have HPL : Hid ((dn.flatMap (pairsAt L)).length ≤ 3600) := pairs_len HP.out.perm HW.out.2.2.2
      clear hHeld2 hs2 o2 hb2 O2
      generalize meetIds z.box T1 = ys at hys hlen hsh H2 ⊢
      have HSH : Hid (∀ j (hj : j < ys.length), ∃ g, a2 = some ⟨g, 0, none⟩ ∧ w2.cell? ⟨g, j, none⟩ = some (.int .i64 (ys[j]))) := hsh
      have HLN : Hid (ys.length ≤ 60) := by show ys.length ≤ 60; omega
      clear hsh hlen hlen2 HPS HRT
      go_wp2_with fail
      go_loopg [3, 28] ys.length (fun k p idx wr => ∃ v3 j, v3 = p ∧ idx = .int .i64 ((j : Nat) : Int) ∧ k = ys.length - j ∧ PI w2 v (dn.flatMap (pairsAt L)) x ys j v3 wr)
      case atStart => exact ⟨v, 0, rfl, rfl, rfl, H2.out.1⟩
      case round =>
        obtain ⟨v3, j, rfl, rfl, hk, hpi⟩ := hrel
        have HI : Hid (PI w2 v (dn.flatMap (pairsAt L)) x ys j v3 wr ∧ gk = ys.length - j) := ⟨hpi, hk⟩
        clear hpi hk
        have hjb := HI.out.1.le
        have hln := HLN.out
        by_cases hj : j < ys.length
        · obtain ⟨g, ha2, hc⟩ := HSH.out j hj
          obtain ⟨yj, hyj⟩ : ∃ yj, yj = ys[j] := ⟨_, rfl⟩
          rw [← hyj] at hc
          have hg : g ∉ ownL v := fun hb => by have h1 := HA.out g ha2; have h2 := H2.out.2.2 g hb; omega
          have hcr : wr.cell? ⟨g, j, none⟩ = some (.int .i64 yj) := by
            rw [World.cell?_of_block (w := w2) (a := ⟨g, j, none⟩) (HI.out.1.only.block g (World.block_lt_of_cell? w2 _ hc) hg)]; exact hc
          have HY : Hid (yj = ys[j]) := hyj
          clear hc hg hyj
          have hjl : (j : Int) < (ys.length : Int) := by omega
          by_cases hi : x < yj
          · have hs3 := HI.out.1.sl
            have hpl := HPL.out
            have hab := above_le x (ys.take j)
            have htk : (ys.take j).length ≤ 60 := by rw [List.length_take]; omega
            have hlen3 : (dn.flatMap (pairsAt L) ++ above x (ys.take j)).length ≤ 4000 := by rw [List.length_append]; omega
            clear hpl hab htk
            subst ha2
            go_wp2_with (first | (at_builtin; refine wpList_append_own_at _ rfl _ _ 68 rfl 0 70 i2 (.agg #[.int .i64 0, .int .i64 0]) 2 16 Tryz.underlying68 hi0 hz0 hz1 hz2 rfl (by decide) v3 _ _ rfl (World.ownsRow.alloc hs3 _) ⟨wr.heap.size, 0, none⟩ 1 1 [.int .i64 x, .int .i64 yj] rfl rfl (cell_two _ _ _ _) (by simp [Value.oneCell']) (by unfold maxLen; omega) (by omega) (by simp) ?_; intro v' w5 hown hgrow hnil hloc; have H5 := pair_post (p := (x, yj)) hown hgrow hloc; clear hown hgrow hnil hloc hcr hs3))
            go_roundg (ys.length - (j + 1))
            case measure => have := HI.out.2; omega
            case rel => exact ⟨v', j + 1, rfl, by go_num, rfl, HI.out.1.more hj HY.out hi H5.out⟩
          · subst ha2
            go_wp2_with fail
            go_roundg (ys.length - (j + 1))
            case measure => have := HI.out.2; omega
            case rel => exact ⟨v3, j + 1, rfl, by go_num, rfl, HI.out.1.skip hj HY.out (by omega)⟩
        · have hjl : ¬ (j : Int) < (ys.length : Int) := by omega
          go_wp2_with fail
          go_roundg cnt1
          case measure => exact H1.out.2.2.2.2.2.2.2
          case rel =>
            obtain ⟨hrg1, hzi, hzL, hperm, hlft, hsl1, ho1, _⟩ := H1.out
            have ap := ranges_apart hrg1 hsl1
            have hjj : ys.take j = ys := List.take_of_length_le (by omega)
            have hfin := HI.out.1
            refine ⟨v3, dn ++ [z], rem', _, rfl, ⟨ranges_only (ranges_only hrg1 H2.out.2.1 (by simp) (by simp)) hfin.only ap.1 ap.2, hperm, hlft, ?_, ?_, ?_, HP.out.rnew⟩⟩
            · have h1 := hfin.sl
              rw [hjj, hys.out, ← hzi] at h1
              rw [List.flatMap_append]
              simpa [pairsAt] using h1
            · exact (ho1.trans H2.out.2.1).then hfin.only (fun b hb => Or.inr (HP.out.new b hb))
            · intro b hb
              rcases hfin.new b hb with q | q
              · exact HP.out.new b q
              · exact Nat.le_trans (ho1.trans H2.out.2.1).size q
/-- An empty book. -/
theorem pairs_none (hsort : Sorts) (t : Nat) (fat : Int) (T : Option Tr) (w : World) (ht : TreeAt w t fat (rootO T) none) :
    Calls Tryz.prog 29 #[.pointer (some ⟨t, 0, none⟩)] w fun e w' => ∃ v, e = .returned v ∧ SlPairs w' v [] ∧ Only [] w w' ∧ (∀ b ∈ ownL v, w.heap.size ≤ b) := by
  have c2 := ht.c2
  have hrg := run_range_nilMap (P := Tryz.prog) w 92 3 91 Tryz.underlying92
  have hnx : ∀ ty, (Instr.next (.pointer (some ⟨w.heap.size, 0, none⟩)) false ty).run Tryz.prog (w.alloc (.mapIter none 0 #[] 0)) = _ := fun ty => run_next_nilMap _ ty 0 0 #[]
  have HS : Hid Sorts := hsort
  clear ht hsort
  go_enter Tryz.func29, Tryz.ntmps29
  go_wp2_with fail
  refine wp_loop_rounds 1 ?_
  rw [rounds_succ]
  go_wp2_with fail
  refine (HS.out _ (.slice none 0 0) [] (SlPairs.nil _) (by simp)).mono ?_
  rintro e w9 ⟨rfl, hs9, o9⟩
  have H9 : Hid (SlPairs w9 (.slice none 0 0) [] ∧ Only [] w w9) := ⟨by simpa [sort2] using hs9, ((Only.refl [] w).alloc _).trans (o9.mono (by simp [ownL, Value.ownBlock]))⟩
  clear hs9 o9
  go_wp2_with fail
  go_ret
  exact ⟨_, rfl, H9.out.1, H9.out.2, by simp [ownL, Value.ownBlock]⟩
end Go.Proofs.YtbfkloclmlnahabGreat

namespace Go.Proofs.YtbfkloclmlnahabGreat
open Go.Shelf

def sortP_ren : Ren := ⟨fun | 6 => 47 | 15 => 79 | 14 => 78 | 28 => 107 | 29 => 108 | 20 => 99 | 21 => 100 | 22 => 101 | 23 => 102 | 24 => 103 | 25 => 104 | 26 => 105 | 27 => 106 | 46 => 118 | 47 => 119 | 48 => 120 | 49 => 121 | 50 => 122 | 57 => 128 | n => n, fun | 22 => 68 | 24 => 70 | 25 => 102 | 3 => 3 | 39 => 57 | 0 => 0 | 53 => 148 | 55 => 134 | 4 => 4 | 46 => 142 | 45 => 141 | 50 => 79 | 5 => 5 | 9 => 9 | 66 => 158 | 70 => 162 | 76 => 166 | 77 => 167 | n => n, fun n => n⟩
theorem sortP : SlLaysF0.n6 Tryz.prog sortP_ren := {
  mixed := by kernel_rfl
  f6 := ⟨Tryz.f47.name, by decide, by kernel_rfl⟩
  f14 := ⟨Tryz.f78.name, by decide, by kernel_rfl⟩
  f15 := by kernel_rfl
  f20 := ⟨Tryz.f99.name, by decide, by kernel_rfl⟩
  f21 := ⟨Tryz.f100.name, by decide, by kernel_rfl⟩
  f22 := ⟨Tryz.f101.name, by decide, by kernel_rfl⟩
  f23 := ⟨Tryz.f102.name, by decide, by kernel_rfl⟩
  f24 := ⟨Tryz.f103.name, by decide, by kernel_rfl⟩
  f25 := ⟨Tryz.f104.name, by decide, by kernel_rfl⟩
  f26 := ⟨Tryz.f105.name, by decide, by kernel_rfl⟩
  f27 := ⟨Tryz.f106.name, by decide, by kernel_rfl⟩
  f28 := by kernel_rfl
  f29 := by kernel_rfl
  f46 := ⟨Tryz.f118.name, by decide, by kernel_rfl⟩
  f47 := by kernel_rfl
  f48 := by kernel_rfl
  f49 := ⟨Tryz.f121.name, by decide, by kernel_rfl⟩
  f50 := ⟨Tryz.f122.name, by decide, by kernel_rfl⟩
  f57 := ⟨Tryz.f128.name, by decide, by kernel_rfl⟩
  t0 := by kernel_rfl
  a0 := fun _ => by kernel_rfl
  z0 := fun _ => by kernel_rfl
  v0 := fun _ => by kernel_rfl
  t3 := by kernel_rfl
  a3 := fun _ => by kernel_rfl
  z3 := fun _ => by kernel_rfl
  v3 := fun _ => by kernel_rfl
  t4 := by kernel_rfl
  a4 := fun _ => by kernel_rfl
  z4 := fun _ => by kernel_rfl
  v4 := fun _ => by kernel_rfl
  t5 := by kernel_rfl
  a5 := fun _ => by kernel_rfl
  z5 := fun _ => by kernel_rfl
  v5 := fun _ => by kernel_rfl
  t9 := by kernel_rfl
  a9 := fun _ => by kernel_rfl
  z9 := fun _ => by kernel_rfl
  v9 := fun _ => by kernel_rfl
  t22 := by kernel_rfl
  a22 := fun _ => by kernel_rfl
  z22 := fun _ => by kernel_rfl
  v22 := fun _ => by kernel_rfl
  t25 := by kernel_rfl
  a25 := fun _ => by kernel_rfl
  z25 := fun _ => by kernel_rfl
  v25 := fun _ => by kernel_rfl
  t39 := by kernel_rfl
  a39 := fun _ => by kernel_rfl
  z39 := fun _ => by kernel_rfl
  v39 := fun _ => by kernel_rfl
  t45 := by kernel_rfl
  a45 := fun _ => by kernel_rfl
  z45 := fun _ => by kernel_rfl
  v45 := fun _ => by kernel_rfl
  t46 := by kernel_rfl
  a46 := fun _ => by kernel_rfl
  z46 := fun _ => by kernel_rfl
  v46 := fun _ => by kernel_rfl
  t50 := by kernel_rfl
  a50 := fun _ => by kernel_rfl
  z50 := fun _ => by kernel_rfl
  v50 := fun _ => by kernel_rfl
  t53 := by kernel_rfl
  a53 := fun _ => by kernel_rfl
  z53 := fun _ => by kernel_rfl
  v53 := fun _ => by kernel_rfl
  t55 := by kernel_rfl
  a55 := fun _ => by kernel_rfl
  z55 := fun _ => by kernel_rfl
  v55 := fun _ => by kernel_rfl
  t66 := by kernel_rfl
  a66 := fun _ => by kernel_rfl
  z66 := fun _ => by kernel_rfl
  v66 := fun _ => by kernel_rfl
  t70 := by kernel_rfl
  a70 := fun _ => by kernel_rfl
  z70 := fun _ => by kernel_rfl
  v70 := fun _ => by kernel_rfl
  t76 := by kernel_rfl
  a76 := fun _ => by kernel_rfl
  z76 := fun _ => by kernel_rfl
  v76 := fun _ => by kernel_rfl
  t77 := by kernel_rfl
  a77 := fun _ => by kernel_rfl
  z77 := fun _ => by kernel_rfl
  v77 := fun _ => by kernel_rfl }
end Go.Proofs.YtbfkloclmlnahabGreat

namespace Go.Proofs.YtbfkloclmlnahabGreat
open Go.ChangeShapes Go.WideShapes Go.ChangeAt Go.RowKit Go.Sort Go.Shelf Go.Lib
set_option linter.unusedVariables false
set_option linter.unusedSimpArgs false

theorem flat_get : ∀ (Q : List (Int × Int)) (j : Nat) (hj : j < Q.length), (Q.flatMap enc2)[j * 2]? = some (.int .i64 (Q[j].1)) ∧ (Q.flatMap enc2)[j * 2 + 1]? = some (.int .i64 (Q[j].2)) := by
  intro Q
  induction Q with
  | nil => intro j hj; simp at hj
  | cons p Q ih =>
    intro j hj
    cases j with
    | zero => simp [enc2]
    | succ j =>
      have := ih j (by simpa using hj)
      simp only [List.flatMap_cons, enc2, List.cons_append, List.nil_append]
      rw [show (j + 1) * 2 = j * 2 + 1 + 1 by omega]
      simpa using this
theorem flat_len (Q : List (Int × Int)) : (Q.flatMap enc2).length = Q.length * 2 := by
  induction Q with
  | nil => rfl
  | cons p Q ih => simp only [List.flatMap_cons, List.length_append, ih, enc2, List.length_cons, List.length_nil]; omega
theorem flat_eq (P : List (Int × Int)) : flatK enc2 2 P.toArray = (P.flatMap enc2).toArray := by
  refine ext_get! (by rw [size_flatK, List.size_toArray, List.size_toArray, flat_len]) (fun t ht => ?_)
  simp only [size_flatK, List.size_toArray] at ht
  rw [get_flatK _ _ _ _ (by simpa using ht)]
  have hj : t / 2 < P.length := by omega
  obtain ⟨h1, h2⟩ := flat_get P (t / 2) hj
  have e1 : P.toArray[t / 2]! = P[t / 2] := by rw [getElem!_pos _ _ (by simpa using hj)]; simp
  have hlen := flat_len P
  have e2 : (P.flatMap enc2).toArray[t]! = (P.flatMap enc2)[t]'(by omega) := by rw [getElem!_pos _ _ (by rw [List.size_toArray]; omega)]; rfl
  rw [e1, e2]
  rcases Nat.mod_two_eq_zero_or_one t with h | h
  · rw [show t / 2 * 2 = t by omega, List.getElem?_eq_getElem (by omega)] at h1
    injection h1 with h1
    rw [h1, h]; rfl
  · rw [show t / 2 * 2 + 1 = t by omega, List.getElem?_eq_getElem (by omega)] at h2
    injection h2 with h2
    rw [h2, h]; rfl

theorem putCells_size (F cur : Array Value) : (putCells id 0 F cur).size = cur.size := by simp [putCells]
theorem putCells_take (F cur : Array Value) (h : F.size ≤ cur.size) : (putCells id 0 F cur).toList.take F.size = F.toList := by
  apply List.ext_getElem?
  intro i
  rw [List.getElem?_take]
  by_cases hi : i < F.size
  · rw [if_pos hi, Array.getElem?_toList, Array.getElem?_toList]
    simp only [putCells, Array.getElem?_mapIdx]
    rw [Array.getElem?_eq_getElem (show i < cur.size by omega), Array.getElem?_eq_getElem hi]
    simp [hi]
  · rw [if_neg hi, Array.getElem?_toList, Array.getElem?_eq_none (by omega)]

theorem lt2 (x y : Int × Int) : ltOf cmp2 x y = decide (x.1 < y.1 ∨ x.1 = y.1 ∧ x.2 < y.2) := by
  unfold ltOf cmp2 orI cmpI
  by_cases h1 : x.1 < y.1
  · simp [h1]
  · by_cases h2 : y.1 < x.1
    · simp [h1, h2]; omega
    · have e : x.1 = y.1 := by omega
      simp only [h1, h2, if_false, if_true]
      by_cases h3 : x.2 < y.2
      · simp [h3, e]
      · by_cases h4 : y.2 < x.2 <;> simp [h3, h4]
theorem swo2 : SWO (ltOf cmp2) where
  irrefl x := by rw [lt2]; simp
  trans x y z h1 h2 := by rw [lt2] at *; simp at *; omega
  ntrans x y z h1 h2 := by rw [lt2] at *; simp at *; omega
theorem tot2 (x y : Int × Int) (h1 : ltOf cmp2 x y = false) (h2 : ltOf cmp2 y x = false) : x = y := by
  rw [lt2] at h1 h2
  simp at h1 h2
  obtain ⟨a, b⟩ := x; obtain ⟨c, d⟩ := y
  simp only at h1 h2
  have e1 : a = c := by omega
  subst e1
  have e2 : b = d := by have := h1.2; have := h2.2; simp at *; omega
  rw [e2]

theorem sorts : Sorts := by
  intro w v P h hl
  by_cases h0 : P = []
  · subst h0
    obtain ⟨a, c, rfl, _⟩ := h.shape
    refine (AnyF.slices_SortFunc_none sortP a c _ w).mono ?_
    rintro e w' ⟨rfl, rfl⟩
    exact ⟨rfl, by simpa [sort2] using h, Only.refl _ _⟩
  · obtain ⟨h1, ⟨rfl, h2⟩ | ⟨g, cap, cur, rfl, hb, hg, hn, hc, hs, ht⟩⟩ := h
    · exact absurd (List.eq_nil_of_length_eq_zero h2) h0
    · have hglt : g < w.heap.size := (Array.getElem?_eq_some_iff.1 hg).1
      have hfl := flat_len P
      have eg : ∀ args w, (callFunc 48 args).run Tryz.prog w = .ok (.enter 48 args) w := enters_of Tryz.func48 (by kernel_rfl) rfl
      have hcmp : CmpLays Tryz.prog 48 #[] enc2 2 cmp2 g 0 P.toArray.size w := fun _ _ _ _ x y => closure_calls x y _
      have hH : HoldsK enc2 2 w g 0 P.toArray := by
        unfold HoldsK
        rw [flat_eq]
        intro j hj
        simp only [List.size_toArray] at hj
        have e : cur[j]? = some ((P.flatMap enc2)[j]'hj) := by
          have e1 : (cur.toList.take (P.length * 2))[j]? = some ((P.flatMap enc2)[j]'hj) := by rw [ht]; simp [hj]
          rw [List.getElem?_take, if_pos (by omega)] at e1
          rw [← e1, Array.getElem?_toList]
        have e2 : (P.flatMap enc2).toArray[j]! = (P.flatMap enc2)[j]'hj := by rw [getElem!_pos _ _ (by simpa using hj)]; simp
        refine ⟨?_, by simp [World.frozen?, hg]⟩
        rw [e2]
        simp [World.cell?, hg, e]
      have hcon := AnyQ.slices_SortFunc_total sortP 2 (fun _ => by kernel_rfl) (fun _ => by kernel_rfl) enc2 (fun _ => rfl) (fun x v hv => by simp [enc2] at hv; rcases hv with rfl | rfl <;> rfl) cmp2 swo2 48 #[] g 0 cap P.toArray w eg hcmp hH hglt (by simp; omega) tot2
      refine Calls.mono (show Calls Tryz.prog 47 #[.slice (some ⟨g, 0, none⟩) P.length cap, .func (.func 48) #[] #[]] w _ from hcon) ?_
      rintro e w' ⟨rfl, n, os, rfl⟩
      have hsp : (sort2 P).Perm P := List.mergeSort_perm _ _
      have hF : flatK enc2 2 (P.mergeSort fun x y => !ltOf cmp2 y x).toArray = ((sort2 P).flatMap enc2).toArray := flat_eq _
      have hlen2 := flat_len (sort2 P)
      have hpl := hsp.length_eq
      have hFs : ((sort2 P).flatMap enc2).toArray.size ≤ cur.size := by rw [List.size_toArray, hlen2, hpl, hs]; omega
      have hblk : (sortWorldK enc2 2 w g 0 n (P.mergeSort fun x y => !ltOf cmp2 y x).toArray os).heap[g]? = some (.cells (putCells id 0 ((sort2 P).flatMap enc2).toArray cur) 70 (0, 0)) := by
        unfold sortWorldK putRowK
        rw [hF, heap_grow_old _ _ (by simpa using hglt)]
        show (w.heap.modify g (onCells (putCells id 0 ((sort2 P).flatMap enc2).toArray)))[g]? = _
        rw [Array.getElem?_modify, if_pos rfl, hg]; rfl
      refine ⟨rfl, ⟨by rw [hlen2], Or.inr ⟨g, cap, _, by rw [hpl], hb, hblk, by rw [hpl]; exact hn, hc, by rw [putCells_size]; exact hs, ?_⟩⟩, ?_⟩
      · have := putCells_take ((sort2 P).flatMap enc2).toArray cur hFs
        rw [List.size_toArray, hlen2] at this
        rw [this]
      · refine ⟨rfl, rfl, rfl, ?_, fun b hb' hD => ?_⟩
        · simp [sortWorldK, putRowK]
        · have hne : g ≠ b := fun e => hD (by simp [ownL, Value.ownBlock, e])
          unfold sortWorldK putRowK
          rw [heap_grow_old _ _ (by simpa using hb')]
          show (w.heap.modify g _)[b]? = _
          rw [Array.getElem?_modify, if_neg hne]
end Go.Proofs.YtbfkloclmlnahabGreat

namespace Go.Proofs.YtbfkloclmlnahabGreat
open Go.ChangeShapes Go.WideShapes Go.ChangeAt Go.RowKit Go.Sort Go.Shelf Go.Lib
set_option linter.unusedVariables false
set_option linter.unusedSimpArgs false

def pairM (M : List (Int × Bx)) (p : Int × Bx) : List (Int × Int) := above p.1 ((M.filter (fun r => meetX r.2 p.2)).map Prod.fst)
def pairsM (M : List (Int × Bx)) : List (Int × Int) := sort2 (M.flatMap (pairM M))
theorem sort2_le (x y : Int × Int) : (!decide (cmp2 y x < 0)) = !ltOf cmp2 y x := rfl
theorem sort2_perm {P Q : List (Int × Int)} (h : P.Perm Q) : sort2 P = sort2 Q := by
  have tr : ∀ a b c : Int × Int, (!decide (cmp2 b a < 0)) = true → (!decide (cmp2 c b < 0)) = true → (!decide (cmp2 c a < 0)) = true := by
    intro a b c h1 h2
    rw [sort2_le, lt2] at *
    simp at *; omega
  have tot : ∀ a b : Int × Int, ((!decide (cmp2 b a < 0)) || (!decide (cmp2 a b < 0))) = true := by
    intro a b
    rw [sort2_le, sort2_le, lt2, lt2]
    simp; omega
  have s1 := List.pairwise_mergeSort (le := fun x y : Int × Int => !decide (cmp2 y x < 0)) tr tot P
  have s2 := List.pairwise_mergeSort (le := fun x y : Int × Int => !decide (cmp2 y x < 0)) tr tot Q
  have p : (sort2 P).Perm (sort2 Q) := (List.mergeSort_perm _ _).trans (h.trans (List.mergeSort_perm _ _).symm)
  refine p.eq_of_pairwise (fun a b _ _ h1 h2 => ?_) s1 s2
  rw [sort2_le] at h1 h2
  exact tot2 a b (by simpa using h2) (by simpa using h1)
theorem above_perm {i : Int} {ys zs : List Int} (h : ys.Perm zs) : (above i ys).Perm (above i zs) := (h.filter _).map _
theorem pairM_perm {M N : List (Int × Bx)} (h : M.Perm N) (p : Int × Bx) : (pairM M p).Perm (pairM N p) := above_perm ((h.filter _).map _)
theorem flatMap_perm {α β : Type} {f g : α → List β} (h : ∀ x, (f x).Perm (g x)) : ∀ l : List α, (l.flatMap f).Perm (l.flatMap g)
  | [] => List.Perm.refl _
  | x :: l => by simp only [List.flatMap_cons]; exact (h x).append (flatMap_perm h l)
theorem pairsM_perm {M N : List (Int × Bx)} (h : M.Perm N) : pairsM M = pairsM N :=
  sort2_perm ((h.flatMap_right _).trans (flatMap_perm (fun x => pairM_perm h x) N))
theorem pairM_boxes (L : List Lf) (x : Lf) : pairsAt L x = pairM (boxesOf L) (x.id, x.box) := by
  unfold pairsAt pairM idsOf boxesOf
  rw [List.filter_map, List.map_map]
  rfl
theorem pairs_calls (t : Nat) (fat : Int) (D : List Nat) (M : List (Int × Bx)) (w : World) (h : TreeIs w t fat D M) :
    Calls Tryz.prog 29 #[.pointer (some ⟨t, 0, none⟩)] w fun e w' => ∃ v, e = .returned v ∧ SlPairs w' v (pairsM M) ∧ Only [] w w' ∧ (∀ b ∈ ownL v, w.heap.size ≤ b) := by
  obtain ⟨T, lv, hw, hD, hM⟩ := h.ex
  cases lv with
  | none =>
    have hb := hw.book
    simp only [MapIs] at hb
    rw [hb] at hM
    obtain rfl : M = [] := List.perm_nil.1 hM
    have e0 : pairsM [] = [] := by simp [pairsM, sort2]
    rw [e0]
    exact pairs_none sorts t fat T w hw.tree
  | some m =>
    refine (pairs_some sorts t fat T m w hw (by have := hM.length_eq; have := h.small; simp only [boxesOf, List.length_map] at *; omega)).mono ?_
    rintro e w' ⟨v, dn, rfl, hp, hs, o, hn⟩
    refine ⟨v, rfl, ?_, o, hn⟩
    have e1 : sort2 (dn.flatMap (pairsAt (leavesO T))) = pairsM M := by
      rw [pairsM_perm hM]
      refine sort2_perm ?_
      refine (hp.symm.flatMap_right _).trans ?_
      have : (boxesOf (leavesO T)).flatMap (pairM (boxesOf (leavesO T))) = (leavesO T).flatMap (pairsAt (leavesO T)) := by
        show ((leavesO T).map _).flatMap _ = _
        rw [List.flatMap_map]
        exact congrArg (fun f => (leavesO T).flatMap f) (funext fun x => (pairM_boxes _ x).symm)
      rw [this]
    rw [← e1]; exact hs

/-- Two trees, apart from each other and from all that was there. -/
structure Two (w wr : World) (ta : Nat) (fa : Int) (tb : Nat) (fb : Int) (Ma Mb : List (Int × Bx)) : Prop where
  ex : ∃ Da Db, TreeIs wr ta fa Da Ma ∧ TreeIs wr tb fb Db Mb ∧ (∀ x ∈ Da, x ∉ Db) ∧ (∀ x ∈ Da, w.heap.size ≤ x) ∧ (∀ x ∈ Db, w.heap.size ≤ x)
  only : Only [] w wr
end Go.Proofs.YtbfkloclmlnahabGreat

namespace Go.Proofs.YtbfkloclmlnahabGreat
open Go.ChangeShapes Go.WideShapes Go.ChangeAt Go.RowKit
set_option linter.unusedVariables false
set_option linter.unusedSimpArgs false

/-- The box around a body. -/
def boxB (q : Bd) : Bx := ⟨Go.Proofs.YtbfkloclmlnahabGreat.sub q.ax q.sx, Go.Proofs.YtbfkloclmlnahabGreat.sub q.ay (hf q.kd q.sx q.sy), Go.Proofs.YtbfkloclmlnahabGreat.sub q.az (hf q.kd q.sx q.sz), Go.Proofs.YtbfkloclmlnahabGreat.add q.ax q.sx, Go.Proofs.YtbfkloclmlnahabGreat.add q.ay (hf q.kd q.sx q.sy), Go.Proofs.YtbfkloclmlnahabGreat.add q.az (hf q.kd q.sx q.sz)⟩
/-- A world in memory, whole: its block, its bodies, its tree; all of them new, or among the blocks E that may turn. -/
structure WW (E : List Nat) (w : World) (x g : Nat) (c : Wc) (a : Option Addr) (n cap t : Nat) (la st : Int) (C : Nat → Bd) (M : List (Int × Bx)) (D : List Nat) (wr : World) : Prop where
  wa : WorldAt wr x c a n cap t la st
  own : OwnS wr a g n C
  tree : TreeIs wr t 65536 D M
  xD : x ∉ D
  gD : g ∉ D
  glt : g < wr.heap.size
  xg : x ≠ g
  xnew : x ∈ E ∨ w.heap.size ≤ x
  gnew : g ∈ E ∨ w.heap.size ≤ g
  dnew : ∀ b ∈ D, b ∈ E ∨ w.heap.size ≤ b
  only : Only E w wr
theorem WW.keep {E : List Nat} {w : World} {x g : Nat} {c : Wc} {a : Option Addr} {n cap t : Nat} {la st : Int} {C : Nat → Bd} {M : List (Int × Bx)} {D : List Nat} {wr w' : World} (h : WW E w x g c a n cap t la st C M D wr) (o : Only [] wr w') : WW E w x g c a n cap t la st C M D w' :=
  ⟨h.wa.only o (by simp), h.own.only o (by simp), h.tree.only o (fun b _ => by simp), h.xD, h.gD, Nat.lt_of_lt_of_le h.glt o.size, h.xg, h.xnew, h.gnew, h.dnew, h.only.trans (o.mono (by simp))⟩
theorem OwnS.onlyN {D : List Nat} {w w' : World} {a : Option Addr} {g n : Nat} {B : Nat → Bd} (h : OwnS w a g n B) (o : Only D w w') (s : n ≠ 0 → g ∉ D) : OwnS w' a g n B := by
  rcases h with h | h
  · exact Or.inl h
  · by_cases h0 : n = 0
    · exact Or.inl h0
    · exact Or.inr ⟨h.1, h.2.only o (s h0)⟩
theorem OwnS.lt {w : World} {a : Option Addr} {g n : Nat} {B : Nat → Bd} (h : OwnS w a g n B) (h0 : n ≠ 0) : g < w.heap.size := by
  rcases h with h | h
  · exact absurd h h0
  · exact h.2.lt
/-- The tree turned. -/
theorem WW.tree' {E : List Nat} {w : World} {x g : Nat} {c : Wc} {a : Option Addr} {n cap t : Nat} {la st : Int} {C : Nat → Bd} {M M' : List (Int × Bx)} {D D' : List Nat} {wr w' : World} (h : WW E w x g c a n cap t la st C M D wr) (ht : TreeIs w' t 65536 D' M') (hD : ∀ b ∈ D', b ∈ D ∨ wr.heap.size ≤ b) (o : Only D wr w') : WW E w x g c a n cap t la st C M' D' w' :=
  ⟨h.wa.only o h.xD, h.own.onlyN o (fun _ => h.gD), ht, fun hx => by
      rcases hD x hx with q | q
      · exact h.xD q
      · have := h.wa.lt; omega,
    fun hg => by
      rcases hD g hg with q | q
      · exact h.gD q
      · have := h.glt; omega,
    Nat.lt_of_lt_of_le h.glt o.size,
    h.xg, h.xnew, h.gnew, fun b hb => by
      rcases hD b hb with q | q
      · exact h.dnew b q
      · exact Or.inr (Nat.le_trans h.only.size q),
    h.only.then o (fun b hb => h.dnew b hb)⟩
set_option maxRecDepth 100000 in
set_option maxHeartbeats 4000000 in
theorem whang_calls {E : List Nat} (w : World) (x g : Nat) (c : Wc) (a : Option Addr) (n cap t : Nat) (la st : Int) (C : Nat → Bd) (M : List (Int × Bx)) (D : List Nat) (q : Bd) (wr : World) (h : WW E w x g c a n cap t la st C M D wr) (hid : In64 q.id) :
    Calls Tryz.prog 25 #[.pointer (some ⟨x, 0, none⟩), .agg #[.int .i64 (q.id), .int .i64 (q.ow), .int .i64 (q.kd), .int .i64 (q.sx), .int .i64 (q.sy), .int .i64 (q.sz), .int .i64 (q.ax), .int .i64 (q.ay), .int .i64 (q.az), .int .i64 (q.vx), .int .i64 (q.vy), .int .i64 (q.vz), .int .i64 (q.px), .int .i64 (q.py), .int .i64 (q.pz), .int .i64 (q.ms), .int .i64 (q.tm)]] wr fun e w' => e = .returned (errV (putC M q.id (boxB q))) ∧ ∃ D', WW E w x g c a n cap t la st C (putM M q.id (boxB q)) D' w' ∧ Only D wr w' ∧ ∀ b ∈ D', b ∈ D ∨ wr.heap.size ≤ b := by
  have HW : Hid (WW E w x g c a n cap t la st C M D wr ∧ In64 q.id) := ⟨h, hid⟩
  clear h hid
  go_enter Tryz.func25, Tryz.ntmps25
  go_upto_region 1 with fail
  have H1 : Hid (WW E w x g c a n cap t la st C M D (wr.alloc (.cells #[.int .i64 (q.id), .int .i64 (q.ow), .int .i64 (q.kd), .int .i64 (q.sx), .int .i64 (q.sy), .int .i64 (q.sz), .int .i64 (q.ax), .int .i64 (q.ay), .int .i64 (q.az), .int .i64 (q.vx), .int .i64 (q.vy), .int .i64 (q.vz), .int .i64 (q.px), .int .i64 (q.py), .int .i64 (q.pz), .int .i64 (q.ms), .int .i64 (q.tm)] 37)) ∧ (wr.alloc (.cells #[.int .i64 (q.id), .int .i64 (q.ow), .int .i64 (q.kd), .int .i64 (q.sx), .int .i64 (q.sy), .int .i64 (q.sz), .int .i64 (q.ax), .int .i64 (q.ay), .int .i64 (q.az), .int .i64 (q.vx), .int .i64 (q.vy), .int .i64 (q.vz), .int .i64 (q.px), .int .i64 (q.py), .int .i64 (q.pz), .int .i64 (q.ms), .int .i64 (q.tm)] 37)).heap[wr.heap.size]? = some (.cells #[.int .i64 (q.id), .int .i64 (q.ow), .int .i64 (q.kd), .int .i64 (q.sx), .int .i64 (q.sy), .int .i64 (q.sz), .int .i64 (q.ax), .int .i64 (q.ay), .int .i64 (q.az), .int .i64 (q.vx), .int .i64 (q.vy), .int .i64 (q.vz), .int .i64 (q.px), .int .i64 (q.py), .int .i64 (q.pz), .int .i64 (q.ms), .int .i64 (q.tm)] 37) ∧ wr.heap.size ∉ D ∧ Only [] wr (wr.alloc (.cells #[.int .i64 (q.id), .int .i64 (q.ow), .int .i64 (q.kd), .int .i64 (q.sx), .int .i64 (q.sy), .int .i64 (q.sz), .int .i64 (q.ax), .int .i64 (q.ay), .int .i64 (q.az), .int .i64 (q.vx), .int .i64 (q.vy), .int .i64 (q.vz), .int .i64 (q.px), .int .i64 (q.py), .int .i64 (q.pz), .int .i64 (q.ms), .int .i64 (q.tm)] 37))) := by
    refine ⟨HW.out.1.keep ((Only.refl [] wr).alloc _), (MapKept.heap_alloc wr _).1, fun hk => ?_, (Only.refl [] wr).alloc _⟩
    have := HW.out.1.tree.lt _ hk
    omega
  revert H1
  generalize wr.heap.size = kb
  generalize World.alloc wr _ = w1
  intro H1
  have HK : Hid (∀ w', Only D w1 w' → Only D w1 w' ∧ w'.cell? ⟨x, 8, none⟩ = some (.pointer (some ⟨t, 0, none⟩)) ∧ w'.cell? ⟨kb, 0, none⟩ = some (.int .i64 (q.id)) ∧ w'.cell? ⟨kb, 2, none⟩ = some (.int .i64 (q.kd)) ∧ w'.cell? ⟨kb, 3, none⟩ = some (.int .i64 (q.sx)) ∧ w'.cell? ⟨kb, 4, none⟩ = some (.int .i64 (q.sy)) ∧ w'.cell? ⟨kb, 5, none⟩ = some (.int .i64 (q.sz)) ∧ w'.cell? ⟨kb, 6, none⟩ = some (.int .i64 (q.ax)) ∧ w'.cell? ⟨kb, 7, none⟩ = some (.int .i64 (q.ay)) ∧ w'.cell? ⟨kb, 8, none⟩ = some (.int .i64 (q.az))) := fun w' o => by
    have hb : w'.heap[kb]? = some (.cells #[.int .i64 (q.id), .int .i64 (q.ow), .int .i64 (q.kd), .int .i64 (q.sx), .int .i64 (q.sy), .int .i64 (q.sz), .int .i64 (q.ax), .int .i64 (q.ay), .int .i64 (q.az), .int .i64 (q.vx), .int .i64 (q.vy), .int .i64 (q.vz), .int .i64 (q.px), .int .i64 (q.py), .int .i64 (q.pz), .int .i64 (q.ms), .int .i64 (q.tm)] 37) := (o.block kb (Array.getElem?_eq_some_iff.1 H1.out.2.1).1 H1.out.2.2.1).trans H1.out.2.1
    refine ⟨o, (H1.out.1.wa.only o H1.out.1.xD).off 8, ?_⟩
    simp [World.cell?, hb]
  refine wp_region_held_drew (S := (fun w' => Only D w1 w' ∧ w'.cell? ⟨x, 8, none⟩ = some (.pointer (some ⟨t, 0, none⟩)) ∧ w'.cell? ⟨kb, 0, none⟩ = some (.int .i64 (q.id)) ∧ w'.cell? ⟨kb, 2, none⟩ = some (.int .i64 (q.kd)) ∧ w'.cell? ⟨kb, 3, none⟩ = some (.int .i64 (q.sx)) ∧ w'.cell? ⟨kb, 4, none⟩ = some (.int .i64 (q.sy)) ∧ w'.cell? ⟨kb, 5, none⟩ = some (.int .i64 (q.sz)) ∧ w'.cell? ⟨kb, 6, none⟩ = some (.int .i64 (q.ax)) ∧ w'.cell? ⟨kb, 7, none⟩ = some (.int .i64 (q.ay)) ∧ w'.cell? ⟨kb, 8, none⟩ = some (.int .i64 (q.az)))) (by kernel_rfl) ?_ (fun hHeld1 => ?_)
  · (try dsimp only); exact HK.out _ (Only.refl _ _).drew
  refine wpAnyH_take (i := 0) (v := ?_) rfl (by kernel_rfl) (by kernel_rfl) (by kernel_rfl) (fun _ _ _ h => h) (Or.inl ⟨by kernel_rfl, ?_⟩) (by assumption) ?_
  rotate_left
  · intro w'' hSw; (try dsimp only at hSw); simp only [zqa, zqb, zqc]; (go_simp <;> with_reducible rfl)
  try simp only [Act.put, zqd, zqe, zqf, zqa, zqb, zqc]
  refine wpAnyH_take (i := 1) (v := ?_) rfl (by kernel_rfl) (by kernel_rfl) (by kernel_rfl) (fun _ _ _ h => h) (Or.inl ⟨by kernel_rfl, ?_⟩) (by assumption) ?_
  rotate_left
  · intro w'' hSw; (try dsimp only at hSw); simp only [zqa, zqb, zqc]; (go_simp <;> with_reducible rfl)
  try simp only [Act.put, zqd, zqe, zqf, zqa, zqb, zqc]
  refine wpAnyH_take (i := 2) (v := ?_) rfl (by kernel_rfl) (by kernel_rfl) (by kernel_rfl) (fun _ _ _ h => h) (Or.inl ⟨by kernel_rfl, ?_⟩) (by assumption) ?_
  rotate_left
  · intro w'' hSw; (try dsimp only at hSw); simp only [zqa, zqb, zqc]; (go_simp <;> with_reducible rfl)
  try simp only [Act.put, zqd, zqe, zqf, zqa, zqb, zqc]
  refine wpAnyH_take (i := 3) (v := ?_) rfl (by kernel_rfl) (by kernel_rfl) (by kernel_rfl) (fun _ _ _ h => h) (Or.inl ⟨by kernel_rfl, ?_⟩) (by assumption) ?_
  rotate_left
  · intro w'' hSw; (try dsimp only at hSw); simp only [zqa, zqb, zqc]; (go_simp <;> with_reducible rfl)
  try simp only [Act.put, zqd, zqe, zqf, zqa, zqb, zqc]
  refine wpAnyH_take (i := 4) (v := ?_) rfl (by kernel_rfl) (by kernel_rfl) (by kernel_rfl) (fun _ _ _ h => h) (Or.inl ⟨by kernel_rfl, ?_⟩) (by assumption) ?_
  rotate_left
  · intro w'' hSw; (try dsimp only at hSw); simp only [zqa, zqb, zqc]; (go_simp <;> with_reducible rfl)
  try simp only [Act.put, zqd, zqe, zqf, zqa, zqb, zqc]
  refine wpAnyH_take (i := 5) (v := ?_) rfl (by kernel_rfl) (by kernel_rfl) (by kernel_rfl) (fun _ _ _ h => h) (Or.inl ⟨by kernel_rfl, ?_⟩) (by assumption) ?_
  rotate_left
  · intro w'' hSw; (try dsimp only at hSw); simp only [zqa, zqb, zqc]; (go_simp <;> with_reducible rfl)
  try simp only [Act.put, zqd, zqe, zqf, zqa, zqb, zqc]
  refine wpAnyH_take (i := 6) (v := ?_) rfl (by kernel_rfl) (by kernel_rfl) (by kernel_rfl) (fun _ _ _ h => h) (Or.inl ⟨by kernel_rfl, ?_⟩) (by assumption) ?_
  rotate_left
  · intro w'' hSw; (try dsimp only at hSw); simp only [zqa, zqb, zqc]; (go_simp <;> with_reducible rfl)
  try simp only [Act.put, zqd, zqe, zqf, zqa, zqb, zqc]
  refine wpAnyH_take (i := 7) (v := ?_) rfl (by kernel_rfl) (by kernel_rfl) (by kernel_rfl) (fun _ _ _ h => h) (Or.inl ⟨by kernel_rfl, ?_⟩) (by assumption) ?_
  rotate_left
  · intro w'' hSw; (try dsimp only at hSw); simp only [zqa, zqb, zqc]; (go_simp <;> with_reducible rfl)
  try simp only [Act.put, zqd, zqe, zqf, zqa, zqb, zqc]
  refine wpAnyH_take (i := 8) (v := ?_) rfl (by kernel_rfl) (by kernel_rfl) (by kernel_rfl) (fun _ _ _ h => h) (Or.inl ⟨by kernel_rfl, ?_⟩) (by assumption) ?_
  rotate_left
  · intro w'' hSw; (try dsimp only at hSw); simp only [zqa, zqb, zqc]; (go_simp <;> with_reducible rfl)
  try simp only [Act.put, zqd, zqe, zqf, zqa, zqb, zqc]
  refine wpAnyH_take (i := 9) (v := ?_) rfl (by kernel_rfl) (by kernel_rfl) (by kernel_rfl) (fun _ _ _ h => h) (Or.inl ⟨by kernel_rfl, ?_⟩) (by assumption) ?_
  rotate_left
  · intro w'' hSw; (try dsimp only at hSw); simp only [zqa, zqb, zqc]; (go_simp <;> with_reducible rfl)
  try simp only [Act.put, zqd, zqe, zqf, zqa, zqb, zqc]
  refine wpAnyH_ready (rs := [10]) (by kernel_rfl) (by simp) ?_
  refine AllReadyH.cons rfl (fun K hK => ?_) AllReadyH.nil
  first | (with_reducible refine iteYes ?hcx ?htx; case hcx => kernel_rfl) | rw [if_pos (by rfl)]
  simp only [zqa, zqb, zqc]
  go_simp
  (go_at_call 43; refine (gAround_calls q.kd q.sx q.sy q.sz q.ax q.ay q.az _).mono ?_; rintro e w2 ⟨rfl, k2⟩; have K2 : Hid (Kept w1 w2) := (Kept.refl w1).drew.trans k2; clear k2)
  try go_wp2_with fail
  refine hK.out _ _ ?_ (fun hHeld2 => ?_)
  · (try dsimp only); exact HK.out _ (Only.of_kept K2.out)
  clear hK K hHeld1
  try simp only [Act.put, zqd, zqe, zqf, zqa, zqb, zqc]
  refine wpAnyH_ready (rs := [11]) (by kernel_rfl) (by simp) ?_
  refine AllReadyH.cons rfl (fun K hK => ?_) AllReadyH.nil
  first | (with_reducible refine iteYes ?hcx ?htx; case hcx => kernel_rfl) | rw [if_pos (by rfl)]
  simp only [zqa, zqb, zqc]
  go_simp
  (go_at_call 42; refine (show Calls Tryz.prog 42 #[.pointer (some ⟨t, 0, none⟩), .int .i64 (q.id), .agg #[.int .i64 ((boxB q).x0), .int .i64 ((boxB q).x1), .int .i64 ((boxB q).x2), .int .i64 ((boxB q).x3), .int .i64 ((boxB q).x4), .int .i64 ((boxB q).x5)]] w2 _ from put_calls t 65536 D M q.id (boxB q) w2 (H1.out.1.keep (Only.of_kept K2.out)).tree HW.out.2).mono ?_; rintro e w3 ⟨rfl, D', ht, hD, o3⟩; have H3 : Hid (WW E w x g c a n cap t la st C (putM M q.id (boxB q)) D' w3 ∧ Only D w1 w3 ∧ (∀ b ∈ D', b ∈ D ∨ w1.heap.size ≤ b)) := ⟨(H1.out.1.keep (Only.of_kept K2.out)).tree' ht hD o3, (Only.of_kept K2.out).trans o3, fun b hb => (hD b hb).imp id (fun q => Nat.le_trans K2.out.below.size q)⟩; clear ht hD o3)
  try go_wp2_with fail
  refine hK.out _ _ ?_ (fun hHeld3 => ?_)
  · (try dsimp only); exact HK.out _ H3.out.2.1
  clear hK K hHeld2
  try simp only [Act.put, zqd, zqe, zqf, zqa, zqb, zqc]
  refine wpAnyH_take (i := 12) (v := ?_) rfl (by kernel_rfl) (by kernel_rfl) (by kernel_rfl) (fun _ _ _ h => h) (Or.inl ⟨by kernel_rfl, ?_⟩) (by assumption) ?_
  rotate_left
  · intro w'' hSw; (try dsimp only at hSw); simp only [zqa, zqb, zqc]; (go_simp <;> with_reducible rfl)
  try simp only [Act.put, zqd, zqe, zqf, zqa, zqb, zqc]
  refine wpAnyH_done (by kernel_rfl) ?_ _
  go_wp2_with fail
  go_ret
  exact ⟨rfl, D', H3.out.1, (H1.out.2.2.2.mono (by simp)).trans H3.out.2.1, fun b hb => (H3.out.2.2 b hb).imp id (fun q => Nat.le_trans H1.out.2.2.2.size q)⟩
end Go.Proofs.YtbfkloclmlnahabGreat

namespace Go.Proofs.YtbfkloclmlnahabGreat
open Go.ChangeShapes Go.WideShapes Go.ChangeAt Go.RowKit
set_option linter.unusedVariables false
set_option linter.unusedSimpArgs false

/-- What is wrong with a config: 2 a number beyond its bounds, 1 the law. -/
def newW (c : Wc) : Int := if beyX 6553600 c.fx c.fy c.fz = false ∧ upX c.qt 60 = true then (if rightX c.bo c.ru c.ro = true then 0 else 1) else 2
def ConfAt (w : World) (kb : Nat) (c : Wc) : Prop := w.heap[kb]? = some (.cells #[.int .i64 (c.fx), .int .i64 (c.fy), .int .i64 (c.fz), .int .i64 (c.bo), .int .i64 (c.ru), .int .i64 (c.ro), .int .i64 (c.qt)] 51)
theorem ConfAt.only {w w' : World} {kb : Nat} {c : Wc} (h : ConfAt w kb c) (o : Only [] w w') : ConfAt w' kb c := (o.block kb (Array.getElem?_eq_some_iff.1 h).1 (by simp)).trans h
theorem ConfAt.lt {w : World} {kb : Nat} {c : Wc} (h : ConfAt w kb c) : kb < w.heap.size := (Array.getElem?_eq_some_iff.1 h).1
theorem ConfAt.off {w : World} {kb : Nat} {c : Wc} (h : ConfAt w kb c) (j : Nat) : w.cell? ⟨kb, j, none⟩ = (#[.int .i64 (c.fx), .int .i64 (c.fy), .int .i64 (c.fz), .int .i64 (c.bo), .int .i64 (c.ru), .int .i64 (c.ro), .int .i64 (c.qt)] : Array Value)[j]? := by
  unfold ConfAt at h; simp [World.cell?, h]
/-- What New tells. -/
def NewPost (c : Wc) (w : World) (e : Ending) (w' : World) : Prop :=
  (newW c = 0 → ∃ x t g, e = .returned (.tuple #[.pointer (some ⟨x, 0, none⟩), .nilIface]) ∧ WW [] w x g c none 0 0 t 0 0 (fun _ => bd0) [] [t] w') ∧
  (newW c ≠ 0 → e = .returned (.tuple #[.pointer none, errV (newW c)]) ∧ Only [] w w')
theorem NewPost.bad {c : Wc} {w : World} {w' : World} {k : Int} (h : newW c = k) (hk : k ≠ 0) (o : Only [] w w') : NewPost c w (.returned (.tuple #[.pointer none, errV k])) w' :=
  ⟨fun q => absurd (h.symm.trans q) hk, fun _ => ⟨by rw [h], o⟩⟩
theorem NewPost.good {c : Wc} {w : World} {w' : World} {x t g : Nat} (h : newW c = 0) (o : WW [] w x g c none 0 0 t 0 0 (fun _ => bd0) [] [t] w') : NewPost c w (.returned (.tuple #[.pointer (some ⟨x, 0, none⟩), .nilIface])) w' :=
  ⟨fun _ => ⟨x, t, g, rfl, o⟩, fun q => absurd h q⟩
set_option maxRecDepth 100000 in
set_option maxHeartbeats 4000000 in
theorem wnew_calls (c : Wc) (w : World) : Calls Tryz.prog 15 #[.agg #[.int .i64 (c.fx), .int .i64 (c.fy), .int .i64 (c.fz), .int .i64 (c.bo), .int .i64 (c.ru), .int .i64 (c.ro), .int .i64 (c.qt)]] w (NewPost c w) := by
  go_enter Tryz.func15, Tryz.ntmps15
  go_upto_region 1 with fail
  have H1 : Hid (ConfAt (w.alloc (.cells #[.int .i64 (c.fx), .int .i64 (c.fy), .int .i64 (c.fz), .int .i64 (c.bo), .int .i64 (c.ru), .int .i64 (c.ro), .int .i64 (c.qt)] 51)) w.heap.size c ∧ Only [] w (w.alloc (.cells #[.int .i64 (c.fx), .int .i64 (c.fy), .int .i64 (c.fz), .int .i64 (c.bo), .int .i64 (c.ru), .int .i64 (c.ro), .int .i64 (c.qt)] 51)) ∧ w.heap.size ≤ w.heap.size) := ⟨(MapKept.heap_alloc w _).1, (Only.refl [] w).alloc _, Nat.le_refl _⟩
  revert H1
  generalize hkb : w.heap.size = kb
  have HKB : Hid (w.heap.size ≤ kb) := Nat.le_of_eq hkb
  clear hkb
  generalize World.alloc w _ = w1
  intro H1
  have e0 := H1.out.1.off 0; have e1 := H1.out.1.off 1; have e2 := H1.out.1.off 2
  simp only [zqg, zqh, zqi] at e0 e1 e2
  go_wp2_with fail
  refine (beyond_calls _ _ _ _ _ (by decide) (by decide)).mono ?_
  rintro e w2 ⟨rfl, k2⟩
  have H2 : Hid (ConfAt w2 kb c ∧ Only [] w w2) := ⟨H1.out.1.only (Only.of_kept k2), H1.out.2.1.trans (Only.of_kept k2)⟩
  clear e0 e1 e2 k2 H1
  cases h0 : beyX 6553600 c.fx c.fy c.fz with
  | true =>
    have HE : Hid (newW c = 2) := by show newW c = 2; unfold newW; simp [h0]
    clear h0
    go_wp2_with fail
    exact bodyPost_ret (v := .tuple #[.pointer none, errV 2]) (by simp [results, Tryz.results15, go_sem, errV]) rfl (NewPost.bad HE.out (by decide) H2.out.2)
  | false =>
    have G0 : Hid (beyX 6553600 c.fx c.fy c.fz = false) := h0
    clear h0
    have e6 := H2.out.1.off 6
    simp only [zqg, zqh, zqi] at e6
    go_wp2_with fail
    refine (upTo_calls _ _ _).mono ?_
    rintro e w3 ⟨rfl, hw3⟩
    have H3 : Hid (ConfAt w3 kb c ∧ Only [] w w3) := by rw [hw3]; exact H2.out
    clear hw3 H2 e6
    cases h0 : upX c.qt 60 with
    | false =>
      have HE : Hid (newW c = 2) := by show newW c = 2; unfold newW; simp [h0]
      clear h0
      go_wp2_with fail
      exact bodyPost_ret (v := .tuple #[.pointer none, errV 2]) (by simp [results, Tryz.results15, go_sem, errV]) rfl (NewPost.bad HE.out (by decide) H3.out.2)
    | true =>
      have G1 : Hid (upX c.qt 60 = true) := h0
      clear h0
      have e3 := H3.out.1.off 3; have e4 := H3.out.1.off 4; have e5 := H3.out.1.off 5
      simp only [zqg, zqh, zqi] at e3 e4 e5
      go_wp2_with fail
      refine (lawRight_calls _ _ _ _).mono ?_
      rintro e w4 ⟨rfl, k4⟩
      have H4 : Hid (ConfAt w4 kb c ∧ Only [] w w4) := ⟨H3.out.1.only (Only.of_kept k4), H3.out.2.trans (Only.of_kept k4)⟩
      clear e3 e4 e5 k4 H3
      cases h0 : rightX c.bo c.ru c.ro with
      | false =>
        have HE : Hid (newW c = 1) := by show newW c = 1; unfold newW; simp [G0.out, G1.out, h0]
        clear h0
        go_wp2_with fail
        exact bodyPost_ret (v := .tuple #[.pointer none, errV 1]) (by simp [results, Tryz.results15, go_sem, errV]) rfl (NewPost.bad HE.out (by decide) H4.out.2)
      | true =>
        have HE : Hid (newW c = 0) := by show newW c = 0; unfold newW; simp [G0.out, G1.out, h0]
        clear h0
        go_wp2_with fail
        refine (new_calls 65536 _ (by decide) (by decide)).mono ?_
        rintro e w5 ⟨t, rfl, hT, hnt, o5⟩
        have H5 : Hid (ConfAt w5 kb c ∧ Only [] w w5 ∧ TreeIs w5 t 65536 [t] [] ∧ w4.heap.size ≤ t ∧ kb < w4.heap.size) := ⟨H4.out.1.only o5, H4.out.2.trans o5, hT, hnt, H4.out.1.lt⟩
        clear hT hnt o5
        have e0 := H5.out.1.off 0; have e1 := H5.out.1.off 1; have e2 := H5.out.1.off 2; have e3 := H5.out.1.off 3; have e4 := H5.out.1.off 4; have e5 := H5.out.1.off 5; have e6 := H5.out.1.off 6
        simp only [zqg, zqh, zqi] at e0 e1 e2 e3 e4 e5 e6
        go_wp2_with fail
        clear e0 e1 e2 e3 e4 e5 e6
        refine bodyPost_ret (v := .tuple #[.pointer (some ⟨w5.heap.size, 0, none⟩), .nilIface]) (by simp [results, Tryz.results15, go_sem]) rfl (NewPost.good (t := t) (g := kb) HE.out ?_)
        have o6 : Only [] w5 (w5.alloc (.cells #[.int .i64 (c.fx), .int .i64 (c.fy), .int .i64 (c.fz), .int .i64 (c.bo), .int .i64 (c.ru), .int .i64 (c.ro), .int .i64 (c.qt), .slice none 0 0, .pointer (some ⟨t, 0, none⟩), .int .i64 0, .int .i64 0] 60)) := (Only.refl [] w5).alloc _
        have hlt := H5.out.2.2.1.lt t (by simp)
        refine ⟨(MapKept.heap_alloc w5 _).1, Or.inl rfl, H5.out.2.2.1.only o6 (fun b _ => by simp), by simp; omega, ?_, ?_, ?_, Or.inr H5.out.2.1.size, Or.inr HKB.out, ?_, H5.out.2.1.trans o6⟩
        · have := H5.out.2.2.2; simp only [List.mem_singleton]; omega
        · have := H5.out.1.lt; simp; omega
        · have := H5.out.1.lt; omega
        · intro b hb
          simp only [List.mem_singleton] at hb
          subst hb
          have := H5.out.2.2.2.1
          have := H4.out.2.size
          right; omega
end Go.Proofs.YtbfkloclmlnahabGreat

namespace Go.Proofs.YtbfkloclmlnahabGreat
open Go.ChangeShapes Go.WideShapes Go.ChangeAt Go.RowKit
set_option linter.unusedVariables false
set_option linter.unusedSimpArgs false

/-- How many of the first bodies are an owner's. -/
def cntO (B : Nat → Bd) (o : Int) : Nat → Nat
  | 0 => 0
  | k + 1 => if (B k).ow = o then cntO B o k + 1 else cntO B o k
theorem cntO_le (B : Nat → Bd) (o : Int) : ∀ k, cntO B o k ≤ k
  | 0 => Nat.le_refl _
  | k + 1 => by
    have := cntO_le B o k
    simp only [cntO]; split <;> omega
def satX (B : Nat → Bd) (n : Nat) (o qt : Int) : Bool := if o = 0 then false else decide (qt ≤ (cntO B o n : Int))
set_option maxRecDepth 100000 in
set_option maxHeartbeats 4000000 in
theorem sated_calls (x : Nat) (o : Int) (c : Wc) (a : Option Addr) (n cap t : Nat) (la st : Int) (B : Nat → Bd) (w : World) (hn : n ≤ 60) (hw : WorldAt w x c a n cap t la st) (hb : BodiesAt w a n B) :
    Calls Tryz.prog 36 #[.pointer (some ⟨x, 0, none⟩), .int .i64 o] w fun e w' => e = .returned (.bool (satX B n o c.qt)) ∧ Only [] w w' := by
  have HB : Hid (WorldAt w x c a n cap t la st ∧ BodiesAt w a n B ∧ n ≤ 60) := ⟨hw, hb, hn⟩
  clear hw hb hn
  go_enter Tryz.func36, Tryz.ntmps36
  by_cases h0 : o = 0
  · have HE : Hid (satX B n o c.qt = false) := by show satX B n o c.qt = false; unfold satX; rw [if_pos h0]
    have hb0 : (o == 0) = true := by simpa using h0
    clear h0
    go_wp2_with fail
    go_ret
    exact ⟨by rw [HE.out]; rfl, Only.refl _ _⟩
  · have HE : Hid (satX B n o c.qt = decide (c.qt ≤ (cntO B o n : Int))) := by show satX B n o c.qt = _; unfold satX; rw [if_neg h0]
    have hb0 : (o == 0) = false := by simpa using h0
    clear h0
    have s7 := HB.out.1.off 7
    simp only [zqg, zqh, zqi] at s7
    go_wp2_with fail
    clear s7 hb0
    go_loopg [5, 15] n (fun k cnt idx wr => ∃ i : Nat, cnt = .int .i64 (cntO B o i : Int) ∧ idx = .int .i64 (i : Int) ∧ Hid (i ≤ n ∧ k = n - i) ∧ Hid (Only [] w wr))
    case atStart => exact ⟨0, rfl, rfl, ⟨by omega, rfl⟩, Only.refl _ _⟩
    case round =>
      obtain ⟨i, rfl, rfl, H1, HO⟩ := hrel
      have hn := HB.out.2.2
      have hcl := cntO_le B o i
      by_cases hi : i < n
      · have hil : (i : Int) < (n : Int) := by omega
        obtain ⟨g, f, rfl, hc⟩ := (HB.out.2.1.only HO.out) i hi
        obtain ⟨q, hq⟩ : ∃ q, B i = q := ⟨_, rfl⟩
        have HC : Hid (cntO B o (i + 1) = if q.ow = o then cntO B o i + 1 else cntO B o i) := by rw [← hq]; exact rfl
        rw [hq] at hc
        clear hq
        go_upto_region 7 with (first | (refine wpList_load_mid rfl 37 (.tmp 17) rfl g (f + i * 17) rfl [.int .i64 (q.id), .int .i64 (q.ow), .int .i64 (q.kd), .int .i64 (q.sx), .int .i64 (q.sy), .int .i64 (q.sz), .int .i64 (q.ax), .int .i64 (q.ay), .int .i64 (q.az), .int .i64 (q.vx), .int .i64 (q.vy), .int .i64 (q.vz), .int .i64 (q.px), .int .i64 (q.py), .int .i64 (q.pz), .int .i64 (q.ms), .int .i64 (q.tm)] _ (range17 hc) Tryz.underlying37 rfl bodySize ?_))
        clear hc
        have H9 : Hid (Only [] w (wr.alloc (.cells #[.int .i64 (q.id), .int .i64 (q.ow), .int .i64 (q.kd), .int .i64 (q.sx), .int .i64 (q.sy), .int .i64 (q.sz), .int .i64 (q.ax), .int .i64 (q.ay), .int .i64 (q.az), .int .i64 (q.vx), .int .i64 (q.vy), .int .i64 (q.vz), .int .i64 (q.px), .int .i64 (q.py), .int .i64 (q.pz), .int .i64 (q.ms), .int .i64 (q.tm)] 37)) ∧ BodyAt (wr.alloc (.cells #[.int .i64 (q.id), .int .i64 (q.ow), .int .i64 (q.kd), .int .i64 (q.sx), .int .i64 (q.sy), .int .i64 (q.sz), .int .i64 (q.ax), .int .i64 (q.ay), .int .i64 (q.az), .int .i64 (q.vx), .int .i64 (q.vy), .int .i64 (q.vz), .int .i64 (q.px), .int .i64 (q.py), .int .i64 (q.pz), .int .i64 (q.ms), .int .i64 (q.tm)] 37)) wr.heap.size q) := ⟨HO.out.trans ((Only.refl [] wr).alloc _), (MapKept.heap_alloc wr _).1⟩
        revert H9
        generalize wr.heap.size = kb
        generalize World.alloc wr _ = w9
        intro H9
        have e1 := H9.out.2.off 1
        simp only [zqg, zqh, zqi] at e1
        by_cases hq : q.ow = o
        · have hqb : (q.ow == o) = true := by simpa using hq
          have HC2 : Hid (cntO B o (i + 1) = cntO B o i + 1) := by show cntO B o (i + 1) = _; rw [HC.out, if_pos hq]
          clear hq
          go_wp2_with fail
          go_roundg (n - (i + 1))
          case measure => have := H1.out.2; omega
          case rel => exact ⟨i + 1, by rw [HC2.out]; go_num, by go_num, ⟨by omega, rfl⟩, H9.out.1⟩
        · have hqb : (q.ow == o) = false := by simpa using hq
          have HC2 : Hid (cntO B o (i + 1) = cntO B o i) := by show cntO B o (i + 1) = _; rw [HC.out, if_neg hq]
          clear hq
          go_wp2_with fail
          go_roundg (n - (i + 1))
          case measure => have := H1.out.2; omega
          case rel => exact ⟨i + 1, by rw [HC2.out], by go_num, ⟨by omega, rfl⟩, H9.out.1⟩
      · have hil : ¬ (i : Int) < (n : Int) := by omega
        obtain rfl : i = n := by have := H1.out.1; omega
        have s6 := (HB.out.1.only HO.out (by simp)).off 6
        simp only [zqg, zqh, zqi] at s6
        go_wp2_with fail
        go_ret
        exact ⟨by rw [HE.out]; rfl, HO.out⟩
end Go.Proofs.YtbfkloclmlnahabGreat

namespace Go.Proofs.YtbfkloclmlnahabGreat
open Go.ChangeShapes Go.WideShapes Go.ChangeAt Go.RowKit
set_option linter.unusedVariables false
set_option linter.unusedSimpArgs false

theorem rowsL_upd (B : Nat → Bd) (b : Bd) : ∀ n k, n ≤ k → rowsL (upd B k b) n = rowsL B n
  | 0, _, _ => rfl
  | n + 1, k, h => by
    show rowsL (upd B k b) n ++ bdL (upd B k b n) = _
    rw [rowsL_upd B b n k (by omega), show upd B k b n = B n from by unfold upd; rw [if_neg (by omega)]]; rfl
theorem rowsL_snoc (B : Nat → Bd) (b : Bd) (n : Nat) : rowsL (upd B n b) (n + 1) = rowsL B n ++ bdL b := by
  show rowsL (upd B n b) n ++ bdL (upd B n b n) = _
  rw [rowsL_upd B b n n (Nat.le_refl _), show upd B n b n = b from by unfold upd; rw [if_pos rfl]]
theorem cells_new (w : World) (l : List Value) (t : TypeId) : ∀ j u, l[j]? = some u → (w.alloc (.cells l.toArray t)).cell? ((⟨w.heap.size, 0, none⟩ : Addr).add j) = some u := by
  intro j u hj
  have h := (MapKept.heap_alloc w (.cells l.toArray t)).1
  have e : ((⟨w.heap.size, 0, none⟩ : Addr).add j) = ⟨w.heap.size, j, none⟩ := by unfold Addr.add; split <;> simp_all
  rw [e]
  unfold World.cell?
  simp only [h]
  simpa using hj
set_option maxRecDepth 100000 in
set_option maxHeartbeats 4000000 in
theorem clone_calls (a : Option Addr) (n c : Nat) (B : Nat → Bd) (w : World) (hn : n ≤ 1000) (h : BodiesAt w a n B) (hs : SlArg a n c) :
    Calls Tryz.prog 19 #[.slice a n c] w (OwnPost n B w) := by
  obtain ⟨i2, hi0, hz0, hz1, hz2⟩ := info_parts' bodyInfo
  cases a with
  | none =>
    obtain ⟨rfl, rfl⟩ := hs rfl
    have heq : ∀ w, (binOp .eql 22 (.slice none 0 0) (.slice none 0 0)).run Tryz.prog w = .ok (.bool true) w := fun w => Lib.run_eql_slice_nil w 22 37 none 0 0 0 0 Tryz.underlying22
    go_enter Tryz.func19, Tryz.ntmps19
    go_wp2_with fail
    go_ret
    exact ⟨none, w.heap.size, 0, rfl, Or.inl rfl, Only.refl _ _, Nat.le_refl _, fun _ => ⟨rfl, rfl⟩⟩
  | some ad =>
    have hcell := rowsL_all (h.only ((Only.refl [] w).alloc (.cells #[] 37)))
    have hown : (w.alloc (.cells #[] 37)).ownsRow w.heap.size 37 17 (.slice (some ⟨w.heap.size, 0, none⟩) 0 0) 0 [] := ⟨rfl, Or.inr ⟨w.heap.size, 0, #[], rfl, Nat.le_refl _, (MapKept.heap_alloc w _).1, by omega, by unfold maxLen; omega, rfl, rfl⟩⟩
    clear h hs
    have heq : ∀ w, (binOp .eql 22 (.slice (some ad) n c) (.slice none 0 0)).run Tryz.prog w = .ok (.bool false) w := fun w => Lib.run_eql_slice_nil w 22 37 (some ad) n c 0 0 Tryz.underlying22
    go_enter Tryz.func19, Tryz.ntmps19
    go_wp2_with (first | (at_builtin; refine wpList_append_own_at _ rfl _ _ 22 rfl w.heap.size 37 i2 (.agg #[.int .i64 0, .int .i64 0, .int .i64 0, .int .i64 0, .int .i64 0, .int .i64 0, .int .i64 0, .int .i64 0, .int .i64 0, .int .i64 0, .int .i64 0, .int .i64 0, .int .i64 0, .int .i64 0, .int .i64 0, .int .i64 0, .int .i64 0]) 17 136 Tryz.underlying22 hi0 hz0 hz1 hz2 rfl (by decide) (.slice (some ⟨w.heap.size, 0, none⟩) 0 0) 0 [] rfl hown ad n c (rowsL B n) rfl (rowsL_len B n) hcell (rowsL_one B n) (by unfold maxLen; omega) (by omega) (by simp) ?_; intro v' w5 hown hgrow hnil hloc; simp only [Nat.zero_add, List.nil_append] at hown; have H5 : Hid (w5.ownsRow w.heap.size 37 17 v' n (rowsL B n) ∧ Only [] w w5) := ⟨hown, ((Only.refl [] w).alloc _).grown hgrow (fun k hk => by simp [Value.ownBlock] at hk; exact Or.inr (by omega))⟩; clear hown hgrow hnil hloc hcell))
    go_ret
    obtain ⟨a', g', c', rfl, hS, hg, hsl⟩ := OwnS.of_rowN H5.out.1
    by_cases h0 : n = 0
    · exact ⟨a', w.heap.size, c', rfl, Or.inl h0, H5.out.2, Nat.le_refl _, hsl⟩
    · exact ⟨a', g', c', rfl, hS, H5.out.2, hg h0, hsl⟩
theorem bodies_calls (x : Nat) (c : Wc) (a : Option Addr) (n cap t : Nat) (la st : Int) (B : Nat → Bd) (w : World) (hn : n ≤ 60) (hw : WorldAt w x c a n cap t la st) (hb : BodiesAt w a n B) (hs : SlArg a n cap) :
    Calls Tryz.prog 10 #[.pointer (some ⟨x, 0, none⟩)] w (OwnPost n B w) := by
  have HB : Hid (BodiesAt w a n B ∧ SlArg a n cap ∧ n ≤ 60) := ⟨hb, hs, hn⟩
  have s7 := hw.off 7
  simp only [zqg, zqh, zqi] at s7
  clear hw hb hs hn
  go_enter Tryz.func10, Tryz.ntmps10
  go_wp2_with fail
  refine (clone_calls a n cap B w (by have := HB.out.2.2; omega) HB.out.1 HB.out.2.1).mono ?_
  rintro e w2 ⟨a', g', c', rfl, h2⟩
  have H2 : Hid (OwnS w2 a' g' n B ∧ Only [] w w2 ∧ w.heap.size ≤ g' ∧ SlArg a' n c') := h2
  clear h2 s7
  go_wp2_with fail
  go_ret
  exact ⟨a', g', c', rfl, H2.out⟩
theorem pickW_calls (a n : Int) (w : World) (h0 : 0 < n) (h1 : n ≤ 1000000000) : Calls Tryz.prog 9 #[.int .i64 a, .int .i64 n] w fun e w' => ∃ p, e = .returned (.int .i64 p) ∧ 0 ≤ p ∧ p < n ∧ w' = w := by
  have hn : n ≠ 0 := by omega
  go_enter Tryz.func9, Tryz.ntmps9
  go_wp2_with fail
  go_ret
  have hu : 0 ≤ IntKind.u64.wrap a := by show 0 ≤ a % _; exact Int.emod_nonneg _ (by decide)
  have e1 : (IntKind.u64.wrap a).tmod n = IntKind.u64.wrap a % n := Int.tmod_eq_emod_of_nonneg hu
  have e2 := Int.emod_nonneg (IntKind.u64.wrap a) hn
  have e3 := Int.emod_lt_of_pos (IntKind.u64.wrap a) h0
  have e4 : wrap64 ((IntKind.u64.wrap a).tmod n) = IntKind.u64.wrap a % n := by rw [e1]; unfold wrap64; omega
  exact ⟨_, rfl, by rw [e4]; exact e2, by rw [e4]; exact e3, rfl⟩
end Go.Proofs.YtbfkloclmlnahabGreat

namespace Go.Proofs.YtbfkloclmlnahabGreat
open Go.ChangeShapes Go.WideShapes Go.ChangeAt Go.RowKit
set_option linter.unusedVariables false
set_option linter.unusedSimpArgs false

end Go.Proofs.YtbfkloclmlnahabGreat

namespace Go.Proofs.YtbfkloclmlnahabGreat
open Go.ChangeShapes Go.WideShapes Go.ChangeAt Go.RowKit
set_option linter.unusedVariables false
set_option linter.unusedSimpArgs false

end Go.Proofs.YtbfkloclmlnahabGreat
