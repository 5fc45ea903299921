/- broad.Tree.Remove: the box of that number is gone, or there was none: whatever the tree and the number. -/
import Derived.Test.YtdhbcgdlmkkdfaaGreatDoorBr14
namespace Go.Proofs.YtdhbcgdlmkkdfaaGreatDoor
open Go.ChangeShapes Go.WideShapes Go.ChangeAt Go.RowKit
open Go.Maps (Keyed)
set_option linter.unusedVariables false
set_option linter.unusedSimpArgs false

def del (M : List (Int × Bx)) (i : Int) : List (Int × Bx) := M.filter (fun p => p.1 != i)
def put (M : List (Int × Bx)) (i : Int) (q : Bx) : List (Int × Bx) := (i, q) :: del M i
theorem del_none {M : List (Int × Bx)} {i : Int} (h : i ∉ M.map Prod.fst) : del M i = M := by
  unfold del; rw [List.filter_eq_self]
  intro p hp
  simp only [bne_iff_ne, ne_eq]
  exact fun e => h (by rw [← e]; exact List.mem_map_of_mem hp)
theorem del_head {M : List (Int × Bx)} {i : Int} {q : Bx} (h : i ∉ M.map Prod.fst) : del ((i, q) :: M) i = M := by
  have := del_none h
  unfold del at this ⊢
  simp [this]
theorem del_perm {M N : List (Int × Bx)} (p : M.Perm N) (i : Int) : (del M i).Perm (del N i) := p.filter _
/-- A number that is there: its leaf, and what is left. -/
theorem TreeIs.find {w : World} {t : Nat} {fat : Int} {D : List Nat} {M : List (Int × Bx)} (h : TreeIs w t fat D M) {i : Int} (hi : i ∈ M.map Prod.fst) :
    ∃ T m x, Whole w t fat (some T) (some m) ∧ D = t :: m :: T.blocks ∧ M.Perm (boxesOf T.leaves) ∧ x ∈ T.leaves ∧ x.id = i := by
  obtain ⟨T, lv, hw, hD, hM⟩ := h.ex
  have hi' : i ∈ (leavesO T).map Lf.id := by rw [← boxes_keys]; exact (hM.map _).mem_iff.1 hi
  obtain ⟨x, hx, rfl⟩ := List.mem_map.1 hi'
  cases T with
  | none => simp [leavesO] at hx
  | some T =>
    cases lv with
    | none => have := hw.book; simp only [MapIs, leavesO] at this hx; rw [this] at hx; simp at hx
    | some m => exact ⟨T, m, x, hw, hD, hM, hx, rfl⟩
theorem TreeIs.miss {w : World} {t : Nat} {fat : Int} {D : List Nat} {M : List (Int × Bx)} (h : TreeIs w t fat D M) {i : Int} (hi : i ∉ M.map Prod.fst) :
    ∃ T lv, Whole w t fat T lv ∧ D = t :: (lv.toList ++ blocksO T) ∧ M.Perm (boxesOf (leavesO T)) ∧ i ∉ (leavesO T).map Lf.id := by
  obtain ⟨T, lv, hw, hD, hM⟩ := h.ex
  exact ⟨T, lv, hw, hD, hM, fun h => hi ((hM.map _).mem_iff.2 (by rw [boxes_keys]; exact h))⟩

theorem remove_none (t : Nat) (fat : Int) (D : List Nat) (M : List (Int × Bx)) (i : Int) (w : World) (h : TreeIs w t fat D M) (hi : In64 i) (hn : i ∉ M.map Prod.fst) :
    Calls Tryz.prog 9 #[.pointer (some ⟨t, 0, none⟩), .int .i64 i] w fun e w' => e = .returned (.iface 29 (.int .i64 7)) ∧ Only [] w w' := by
  obtain ⟨T, lv, hw, hD, hM, hni⟩ := h.miss hn
  have c2 := hw.tree.c2
  have hl := hw.book.look_none hi hni
  clear hw hD hM hni hi hn h
  go_enter Tryz.func9, Tryz.ntmps9
  go_wp2_with fail
  go_ret
  exact ⟨rfl, Only.refl _ _⟩

theorem perm_find {L : List Lf} {x : Lf} (h : x ∈ L) : ∃ L', L.Perm (x :: L') := by
  obtain ⟨s, t, rfl⟩ := List.append_of_mem h
  exact ⟨s ++ t, List.perm_middle⟩
theorem remove_some (t : Nat) (fat : Int) (D : List Nat) (M : List (Int × Bx)) (i : Int) (w : World) (h : TreeIs w t fat D M) (hi : In64 i) (hn : i ∈ M.map Prod.fst) :
    Calls Tryz.prog 9 #[.pointer (some ⟨t, 0, none⟩), .int .i64 i] w fun e w' => e = .returned .nilIface ∧ ∃ D', TreeIs w' t fat D' (del M i) ∧ (∀ b ∈ D', b ∈ D) ∧ Only D w w' := by
  obtain ⟨T, m, x, hw, hD, hM, hx, rfl⟩ := h.find hn
  have H0 : Hid (TreeIs w t fat D M ∧ Whole w t fat (some T) (some m) ∧ D = t :: m :: T.blocks ∧ M.Perm (boxesOf T.leaves) ∧ x ∈ T.leaves ∧ In64 x.id) := ⟨h, hw, hD, hM, hx, hi⟩
  have c2 := hw.tree.c2
  have hl := hw.book.look_some hi hx
  clear hw hD hM hx hn h
  go_enter Tryz.func9, Tryz.ntmps9
  go_wp2_with fail
  obtain ⟨h, hw, hD, hM, hx, _⟩ := H0.out
  have nd := hw.nodup
  simp only [Option.toList_some, List.cons_append, List.nil_append, blocksO] at nd
  have nd2 : (t :: T.blocks).Nodup := by simp only [List.nodup_cons, List.mem_cons, not_or] at nd ⊢; exact ⟨nd.1.2, nd.2.2⟩
  have hlen : T.leaves.length ≤ 60 := by have := hM.length_eq; have := h.small; simp only [boxesOf, List.length_map] at *; omega
  refine (unhang_calls t fat (some m) T x w nd2 (by omega) hw.inn hw.tree hx).mono ?_
  rintro e w1 ⟨rfl, T', hi1, ht1, hp1, nd1, hsub, hxb, o1⟩
  have hm : m ∉ t :: T.blocks := by simp only [List.nodup_cons, List.mem_cons, not_or] at nd ⊢; exact ⟨fun e => nd.1.1 e.symm, nd.2.1⟩
  have hmap : MapIs w1 (some m) (x :: leavesO T') := (hw.book.only o1 (by simpa using hm)).perm hp1
  obtain ⟨MD, hown, hbk⟩ := hmap
  have H1 : Hid (InO w1 T' ∧ TreeAt w1 t fat (rootO T') (some m) ∧ T.leaves.Perm (x :: leavesO T') ∧ (t :: blocksO T').Nodup ∧ (∀ b ∈ blocksO T', b ∈ T.blocks) ∧ Only (t :: T.blocks) w w1 ∧ Book MD (x :: leavesO T')) := ⟨hi1, ht1, hp1, nd1, hsub, o1, hbk⟩
  have d2 := ht1.c2
  clear h hw hD hM hx nd nd2 hlen hi1 ht1 hp1 nd1 hsub hxb o1 hm hbk c2 hl
  go_wp2_with (first | (at_delete; refine wpList_delete_own _ rfl _ _ 53 3 rfl 52 intKey Tryz.underlying53 _ m _ MD rfl hown _ _ rfl (keyIs hi) ?_; intro w2 hown2 hturn2; have HT : Hid (_ ∧ _) := ⟨hown2, hturn2⟩; clear hown2 hturn2))
  go_ret
  obtain ⟨hown2, hturn2⟩ := HT.out
  obtain ⟨h, hw, hD, hM, hx, _⟩ := H0.out
  obtain ⟨hi1, ht1, hp1, nd1, hsub, o1, hbk⟩ := H1.out
  have nd := hw.nodup
  simp only [Option.toList_some, List.cons_append, List.nil_append, blocksO] at nd
  have o2 : Only [m] w1 w2 := (Only.refl [m] w1).grown hturn2.grown (fun k hk => by injection hk with hk; exact Or.inl (by simp [hk]))
  have hmt : m ∉ T.blocks := by simp only [List.nodup_cons, List.mem_cons, not_or] at nd; exact nd.2.1
  have htm : t ≠ m := by simp only [List.nodup_cons, List.mem_cons, not_or] at nd; exact nd.1.1
  have hbk2 := hbk.del
  have hpm : (del M x.id).Perm (boxesOf (leavesO T')) := by
    have hp2 : M.Perm ((x.id, x.box) :: boxesOf (leavesO T')) := hM.trans (hp1.map _)
    have hk := (hp2.map Prod.fst).nodup h.keys
    simp only [List.map_cons, List.nodup_cons] at hk
    have := del_perm hp2 x.id
    rwa [del_head hk.1] at this
  refine ⟨rfl, t :: m :: blocksO T', ⟨⟨T', some m, ⟨o2.tree (by simp [htm]) ht1, hi1.only o2 (fun b hb => by simp; exact fun e => hmt (e ▸ hsub b hb)), fun y hy => hw.fits y (hp1.mem_iff.2 (List.mem_cons_of_mem _ hy)), ⟨_, ownsMap_fit hown2 hbk2, hbk2⟩, ?_⟩, rfl, hpm⟩, h.fat0, ?_, ?_, ?_⟩, ?_, ?_⟩
  · simp only [Option.toList_some, List.cons_append, List.nil_append, List.nodup_cons, List.mem_cons, not_or]
    simp only [List.nodup_cons] at nd1
    exact ⟨⟨htm, nd1.1⟩, fun hb => hmt (hsub m hb), nd1.2⟩
  · have := List.length_filter_le (fun p : Int × Bx => p.1 != x.id) M; have := h.small; unfold del; omega
  · exact h.keys.sublist (List.filter_sublist.map _)
  · exact fun p hp => h.ids p (List.mem_filter.1 hp).1
  · intro b hb
    rw [hD]
    simp only [List.mem_cons] at hb ⊢
    rcases hb with rfl | rfl | hb
    · simp
    · simp
    · exact Or.inr (Or.inr (hsub b hb))
  · rw [hD]
    exact (o1.mono (fun b hb => Or.inl (by simp only [List.mem_cons] at hb ⊢; rcases hb with e | e <;> simp [e]))).trans (o2.mono (by simp))
end Go.Proofs.YtdhbcgdlmkkdfaaGreatDoor
