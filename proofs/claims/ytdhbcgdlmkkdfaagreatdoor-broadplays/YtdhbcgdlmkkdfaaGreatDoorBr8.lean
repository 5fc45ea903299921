/- broad.Tree.hang and unhang: a leaf more, a leaf less; all else stays: whatever the tree. -/
import Derived.Test.YtdhbcgdlmkkdfaaGreatDoorBr7
namespace Go.Proofs.YtdhbcgdlmkkdfaaGreatDoor
open Go.ChangeShapes Go.WideShapes Go.ChangeAt Go.RowKit
set_option linter.unusedVariables false
set_option linter.unusedSimpArgs false

theorem hang_nil (t lf : Nat) (fat : Int) (lv : Option Nat) (w : World) (ht : TreeAt w t fat none lv) :
    Calls Tryz.prog 21 #[.pointer (some ⟨t, 0, none⟩), .pointer (some ⟨lf, 0, none⟩)] w fun e w' => e = .returned (.tuple #[]) ∧ TreeAt w' t fat (some lf) lv ∧ Only [t] w w' := by
  have c1 := ht.c1; have f1 := ht.free; simp only [ptr_none] at c1
  have HT : Hid (TreeAt w t fat none lv) := ht
  clear ht
  go_enter Tryz.func21, Tryz.ntmps21
  go_wp2_with fail
  refine bodyPost_ret (results_none rfl _ _ _) rfl ?_
  exact ⟨rfl, HT.out.putRoot (some lf), (Only.refl [t] w).setCell (p := ⟨t, 1, none⟩) (by simp) _⟩

theorem Arnd.alloc {w : World} {t : Nat} {fat : Int} {lv : Option Nat} {c : List Fr} {h : Nat} (k : Arnd w t fat lv c h) (o : Obj) : Arnd (w.alloc o) t fat lv c h := k.only ((Only.refl [] w).alloc o) (by simp)
theorem NodeAt.alloc {w : World} {b : Nat} {n : Nd} (k : NodeAt w b n) (o : Obj) : NodeAt (w.alloc o) b n := ((Only.refl [] w).alloc o).node (by simp) k
theorem In.lt {w : World} : ∀ {T : Tr} {u : Option Nat}, In w u T → ∀ b ∈ T.blocks, b < w.heap.size
  | ⟨_, .inl (_, _, _)⟩, _, h, b, hb => by simp only [Tr.blocks, List.mem_singleton] at hb; rw [hb]; exact NodeAt.lt h
  | ⟨_, .inr (l, r)⟩, _, h, b, hb => by
    simp only [Tr.blocks, List.mem_cons, List.mem_append] at hb
    rcases hb with rfl | hb | hb
    · exact h.1.lt
    · exact In.lt h.2.1 b hb
    · exact In.lt h.2.2 b hb
theorem Arnd.lt {w : World} {t : Nat} {fat : Int} {lv : Option Nat} : ∀ {c : List Fr} {h : Nat}, Arnd w t fat lv c h → ∀ b ∈ t :: cblocks c, b < w.heap.size
  | [], _, k, b, hb => by simp only [cblocks, List.mem_singleton] at hb; rw [hb]; exact TreeAt.lt k
  | f :: c, _, k, b, hb => by
    simp only [List.mem_cons, cblocks, List.mem_append] at hb
    rcases hb with rfl | rfl | hb | hb
    · exact Arnd.lt k.2.2 b (by simp)
    · exact k.1.lt
    · exact k.2.1.lt b hb
    · exact Arnd.lt k.2.2 b (by simp [hb])

theorem hang_some (t lf : Nat) (id : Int) (box room : Bx) (fat : Int) (lv : Option Nat) (T0 : Tr) (w : World) (nd : (lf :: t :: T0.blocks).Nodup) (hb : T0.blocks.length ≤ 700) (hi : In w none T0) (ht : TreeAt w t fat (some T0.root) lv) (hy : NodeAt w lf ((Tr.leaf lf id box room).nd none)) :
    Calls Tryz.prog 21 #[.pointer (some ⟨t, 0, none⟩), .pointer (some ⟨lf, 0, none⟩)] w fun e w' => e = .returned (.tuple #[]) ∧ ∃ c b id' box' room' j, plug c (.leaf b id' box' room') = T0 ∧ w.heap.size ≤ j ∧
      In w' none (mendT c (.node j (.leaf b id' box' room') (.leaf lf id box room))) ∧ TreeAt w' t fat (some (mendT c (.node j (.leaf b id' box' room') (.leaf lf id box room))).root) lv ∧ Only (lf :: t :: T0.blocks) w w' := by
  have c1 := ht.c1; simp only [ptr_some] at c1
  have H0 : Hid ((lf :: t :: T0.blocks).Nodup ∧ T0.blocks.length ≤ 700 ∧ In w none T0 ∧ TreeAt w t fat (some T0.root) lv ∧ NodeAt w lf ((Tr.leaf lf id box room).nd none)) := ⟨nd, hb, hi, ht, hy⟩
  clear nd hb hi ht hy
  obtain ⟨rt, hrt⟩ : ∃ rt, rt = T0.root := ⟨_, rfl⟩
  rw [← hrt] at c1
  clear hrt
  go_enter Tryz.func21, Tryz.ntmps21
  go_wp2_with fail
  refine (mate_calls t fat lv T0 lf _ w H0.out.2.2.1 H0.out.2.2.2.1 H0.out.2.2.2.2 (by have := H0.out.2.1; omega)).mono ?_
  rintro e w1 ⟨c, b, id', box', room', rfl, hd⟩
  have HD : Hid (Down w t fat lv T0 lf ((Tr.leaf lf id box room).nd none) c (.leaf b id' box' room') w1) := hd
  clear hd c1
  go_wp2_with fail
  have j0 : NodeAt (w1.alloc (.cells (Nd.cells ⟨0, bx0, bx0, 0, none, none, none⟩) 63)) w1.heap.size ⟨0, bx0, bx0, 0, none, none, none⟩ := (MapKept.heap_alloc w1 _).1
  have hD := HD.out
  obtain ⟨nd, hb, _, _, _⟩ := H0.out
  have pm := plug_blocks c (.leaf b id' box' room')
  rw [hD.whole] at pm
  have pm2 : (lf :: t :: T0.blocks).Perm (lf :: b :: (t :: cblocks c)) := by
    refine (List.Perm.cons _ ((List.Perm.cons _ pm).trans ?_))
    simp only [Tr.blocks, List.cons_append, List.nil_append]; exact List.Perm.swap _ _ _
  have nd2 := pm2.nodup nd
  have hlt := hD.arnd.lt
  have hw1 := hD.only.size
  simp only [List.nodup_cons, List.mem_cons, not_or] at nd2
  obtain ⟨⟨n1, n2, n3⟩, ⟨n4, n5⟩, n6, n7⟩ := nd2
  have l1 := hD.leaf.lt
  have l2 := NodeAt.lt hD.inn
  have fresh : ∀ x, x < w1.heap.size → w1.heap.size ≠ x := fun x h => by omega
  refine (replace_calls t b w1.heap.size _ _ fat lv c _ (fresh b l2) (fun h => fresh _ (hlt _ h) rfl) (by simp [n4, n5]) (by simp [n6, n7]) (NodeAt.alloc hD.inn _) rfl j0 (hD.arnd.alloc _)).mono ?_
  rintro e w2 ⟨rfl, hj2, ha2, o2⟩
  have hdm := headOf_mem t c
  have hb2 := o2.node (b := b) (by
    simp only [List.mem_cons, List.not_mem_nil, or_false, not_or]
    exact ⟨Ne.symm (fresh b l2), fun e => by rw [← e] at hdm; simp only [List.mem_cons] at hdm; rcases hdm with q | q; exact n4 q; exact n5 q⟩) (NodeAt.alloc hD.inn _)
  have hl2 := o2.node (b := lf) (by
    simp only [List.mem_cons, List.not_mem_nil, or_false, not_or]
    exact ⟨Ne.symm (fresh lf l1), fun e => by rw [← e] at hdm; simp only [List.mem_cons] at hdm; rcases hdm with q | q; exact n2 q; exact n3 q⟩) (NodeAt.alloc hD.leaf _)
  have o2' : Only (lf :: t :: T0.blocks) w w2 := by
    refine ((hD.only.mono (by simp)).alloc _).then o2 (fun x hx => ?_)
    simp only [List.mem_cons, List.not_mem_nil, or_false] at hx
    rcases hx with rfl | rfl
    · exact Or.inr hw1
    · exact Or.inl (pm2.mem_iff.2 (by simp only [List.mem_cons] at hdm ⊢; rcases hdm with q | q <;> simp [q]))
  have H2 : Hid (NodeAt w2 w1.heap.size ⟨0, bx0, bx0, 0, upOf c, none, none⟩ ∧ Arnd w2 t fat lv c w1.heap.size ∧ NodeAt w2 b ((Tr.leaf b id' box' room').nd (upOf c)) ∧ NodeAt w2 lf ((Tr.leaf lf id box room).nd none) ∧ Only (lf :: t :: T0.blocks) w w2) := ⟨hj2, ha2, hb2, hl2, o2'⟩
  have HW : Hid (w.heap.size ≤ w1.heap.size ∧ b ≠ w1.heap.size ∧ lf ≠ w1.heap.size ∧ (∀ x ∈ t :: cblocks c, x ≠ w1.heap.size) ∧ plug c (.leaf b id' box' room') = T0) := ⟨hw1, Ne.symm (fresh b l2), Ne.symm (fresh lf l1), fun x hx => Ne.symm (fresh x (hlt x hx)), hD.whole⟩
  have HP : Hid ((lf :: t :: T0.blocks).Perm (lf :: b :: (t :: cblocks c))) := pm2
  clear hj2 ha2 hb2 hl2 o2' o2 hw1 hD pm pm2 hlt l1 l2 fresh j0 hdm
  generalize w1.heap.size = j at H2 HW ⊢
  clear HD
  go_wp2_with fail
  obtain ⟨hj2, ha2, hb2, hl2, o2⟩ := H2.out
  obtain ⟨w_1, w_2, w_3, w_4, w_5⟩ := HW.out
  refine (join_calls j b lf _ _ _ w2 w_2 w_3 (Ne.symm n1) hj2 hb2 hl2 (by simp [Tr.nd]) (by simp [Tr.nd]) (by simp [Tr.nd]) (by simp [Tr.nd])).mono ?_
  rintro e w3 ⟨rfl, hj3, hb3, hl3, o3⟩
  have hi3 : In w3 (upOf c) (.node j (.leaf b id' box' room') (.leaf lf id box room)) := ⟨hj3, hb3, hl3⟩
  have ha3 : Arnd w3 t fat lv c j := ha2.only o3 (fun x hx => by
    simp only [List.mem_cons, List.not_mem_nil, or_false, not_or]
    refine ⟨w_4 x hx, fun e => ?_, fun e => ?_⟩
    · rw [e] at hx; simp only [List.mem_cons] at hx; rcases hx with q | q; exact n4 q; exact n5 q
    · rw [e] at hx; simp only [List.mem_cons] at hx; rcases hx with q | q; exact n2 q; exact n3 q)
  have nd3 : ((Tr.node j (.leaf b id' box' room') (.leaf lf id box room)).blocks ++ (t :: cblocks c)).Nodup := by
    simp only [Tr.blocks, List.cons_append, List.nil_append, List.nodup_cons, List.mem_cons, not_or]
    have w4t := w_4 t (by simp)
    have w4c : j ∉ cblocks c := fun h => w_4 j (by simp [h]) rfl
    exact ⟨⟨Ne.symm w_2, Ne.symm w_3, Ne.symm w4t, w4c⟩, ⟨Ne.symm n1, n4, n5⟩, ⟨n2, n3⟩, n6, n7⟩
  have ln3 : ((Tr.node j (.leaf b id' box' room') (.leaf lf id box room)).blocks ++ (t :: cblocks c)).length ≤ 800 := by
    have := HP.out.length_eq
    simp only [Tr.blocks, List.length_cons, List.length_append, List.length_nil] at this ⊢
    omega
  have c14 := hj3.c14
  have H3 : Hid (In w3 (upOf c) (.node j (.leaf b id' box' room') (.leaf lf id box room)) ∧ Arnd w3 t fat lv c j ∧ Only (lf :: t :: T0.blocks) w w3) := ⟨hi3, ha3, o2.then o3 (fun x hx => by
    simp only [List.mem_cons, List.not_mem_nil, or_false] at hx
    rcases hx with rfl | rfl | rfl
    · exact Or.inr w_1
    · exact Or.inl (HP.out.mem_iff.2 (by simp))
    · exact Or.inl (by simp))⟩
  have HL : Hid (_ ∧ _) := ⟨nd3, ln3⟩
  clear hj2 ha2 hb2 hl2 o2 hj3 hb3 hl3 o3 hi3 ha3 nd3 ln3 H2
  simp only at c14
  go_wp2_with fail
  refine (mend_calls t fat lv c _ w3 HL.out.1 H3.out.1 H3.out.2.1 HL.out.2).mono ?_
  rintro e w4 ⟨rfl, hi4, ht4, o4⟩
  have H4 : Hid (In w4 none _ ∧ TreeAt w4 t fat _ lv ∧ Only _ w3 w4) := ⟨hi4, ht4, o4⟩
  clear hi4 ht4 o4
  go_wp2_with fail
  go_end0
  obtain ⟨hi4, ht4, o4⟩ := H4.out
  refine ⟨rfl, c, b, id', box', room', j, w_5, w_1, hi4, ht4, H3.out.2.2.then o4 (fun x hx => ?_)⟩
  simp only [Tr.blocks, List.cons_append, List.nil_append, List.mem_cons] at hx
  rcases hx with rfl | hx
  · exact Or.inr w_1
  · refine Or.inl (HP.out.mem_iff.2 ?_)
    simp only [List.mem_cons]
    rcases hx with q | q | q | q <;> simp [q]
end Go.Proofs.YtdhbcgdlmkkdfaaGreatDoor
