/- broad.Tree.unhang: a leaf less, and the joint above it; all else stays: whatever the tree. -/
import Derived.Test.YtdhbcgdlmkkdfaaGreatDoorBr8
namespace Go.Proofs.YtdhbcgdlmkkdfaaGreatDoor
open Go.ChangeShapes Go.WideShapes Go.ChangeAt Go.RowKit
set_option linter.unusedVariables false
set_option linter.unusedSimpArgs false

theorem unhang_top (t lf : Nat) (y : Nd) (fat : Int) (r lv : Option Nat) (w : World) (hu : y.up = none) (hy : NodeAt w lf y) (ht : TreeAt w t fat r lv) :
    Calls Tryz.prog 19 #[.pointer (some ⟨t, 0, none⟩), .pointer (some ⟨lf, 0, none⟩)] w fun e w' => e = .returned (.tuple #[]) ∧ TreeAt w' t fat none lv ∧ Only [t] w w' := by
  have c1 := ht.c1; have f1 := ht.free
  have c2 := hy.c14; rw [hu] at c2; simp only [ptr_none] at c2
  have HT : Hid (TreeAt w t fat r lv) := ht
  clear ht hy hu
  go_enter Tryz.func19, Tryz.ntmps19
  go_wp2_with fail
  refine bodyPost_ret (results_none rfl _ _ _) rfl ?_
  exact ⟨rfl, HT.out.putRoot none, (Only.refl [t] w).setCell (p := ⟨t, 1, none⟩) (by simp) _⟩

/-- The joint's place is the other one's: what is left behind 'replace'. -/
theorem unhang_mid {w w1 : World} {t lf : Nat} {f : Fr} {c : List Fr} (nd : (lf :: f.b :: (f.sib.blocks ++ (t :: cblocks c))).Nodup) (hs : In w (some f.b) f.sib) (hn : NodeAt w1 f.sib.root { f.sib.nd (some f.b) with up := upOf c }) (o : Only [f.sib.root, headOf t c] w w1) : In w1 (upOf c) f.sib := by
  rw [nd_up] at hn
  simp only [List.nodup_cons, List.nodup_append, List.mem_cons, List.mem_append, not_or] at nd
  obtain ⟨_, _, ns, _, d⟩ := nd
  refine hs.reroot o (fun b hb hr => ?_) ns hn
  simp only [List.mem_cons, List.not_mem_nil, or_false, not_or]
  refine ⟨hr, fun e => ?_⟩
  have hd := headOf_mem t c
  rw [← e] at hd
  exact d b hb b (by simpa using hd) rfl

theorem unhang_some (t lf : Nat) (id : Int) (box room : Bx) (fat : Int) (lv : Option Nat) (f : Fr) (c : List Fr) (w : World) (nd : (lf :: f.b :: (f.sib.blocks ++ (t :: cblocks c))).Nodup) (hb : (f.sib.blocks ++ (t :: cblocks c)).length ≤ 700)
    (hi : In w (some f.b) (.leaf lf id box room)) (ha : Arnd w t fat lv (f :: c) lf) :
    Calls Tryz.prog 19 #[.pointer (some ⟨t, 0, none⟩), .pointer (some ⟨lf, 0, none⟩)] w fun e w' => e = .returned (.tuple #[]) ∧ In w' none (mendT c f.sib) ∧ TreeAt w' t fat (some (mendT c f.sib).root) lv ∧ Only (f.b :: (f.sib.blocks ++ (t :: cblocks c))) w w' := by
  obtain ⟨hz, hs, hc⟩ := ha
  have nd' := nd
  simp only [List.nodup_cons, List.nodup_append, List.mem_cons, List.mem_append, not_or] at nd'
  obtain ⟨⟨n1, n2, n3, n4⟩, ⟨n5, n6, n7⟩, n8, ⟨n9, n10⟩, n11⟩ := nd'
  have rl : f.sib.root ≠ lf := fun e => n2 (e ▸ root_mem _)
  have rb : f.sib.root ≠ f.b := fun e => n5 (e ▸ root_mem _)
  have rc : f.sib.root ∉ t :: cblocks c := fun h => n11 _ (root_mem _) _ (by simpa using h) rfl
  have bc : f.b ∉ t :: cblocks c := by simp [n6, n7]
  have c1 : w.cell? ⟨lf, 14, none⟩ = some (.pointer (some ⟨f.b, 0, none⟩)) := NodeAt.c14 hi
  have c2 := hz.c15; have c3 := hz.c16
  have H0 : Hid (In w (some f.b) f.sib ∧ Arnd w t fat lv c f.b ∧ NodeAt w f.b (f.nd (upOf c) lf) ∧ (lf :: f.b :: (f.sib.blocks ++ (t :: cblocks c))).Nodup ∧ (f.sib.blocks ++ (t :: cblocks c)).length ≤ 700) := ⟨hs, hc, hz, nd, hb⟩
  have q0 : (binOp .eql 52 (.pointer (some ⟨f.sib.root, 0, none⟩)) (.pointer (some ⟨lf, 0, none⟩))).run Tryz.prog w = .ok (.bool false) w := eql_other rl hs.node hi
  have q1 := eql_same
  clear hz hs hc hi nd hb n2 n3 n4 n5 n6 n7 n8 n9 n10 n11
  cases hl : f.left with
  | true =>
    simp only [Fr.nd, hl, if_true, ptr_some] at c2 c3
    clear q0
    generalize hr : f.sib.root = rt at c2 c3 rl rb rc ⊢
    have HR : Hid (f.sib.root = rt) := hr
    clear hr
    go_enter Tryz.func19, Tryz.ntmps19
    go_wp2_with fail
    have hr := HR.out
    subst hr
    obtain ⟨hs, hc, hz, nd, hb⟩ := H0.out
    have nd2 : (f.sib.blocks ++ (t :: cblocks c)).Nodup := (List.nodup_cons.1 (List.nodup_cons.1 nd).2).2
    have nd3 : (t :: cblocks c).Nodup := (List.nodup_append.1 nd2).2.1
    refine (replace_calls t f.b f.sib.root _ _ fat lv c w rb rc bc nd3 hz rfl hs.node hc).mono ?_
    rintro e w1 ⟨rfl, h1, a1, o1⟩
    have i1 := unhang_mid nd hs h1 o1
    have o1' : Only (f.b :: (f.sib.blocks ++ (t :: cblocks c))) w w1 := o1.mono (fun x hx => Or.inl (by
      simp only [List.mem_cons, List.not_mem_nil, or_false] at hx
      have hd := headOf_mem t c
      simp only [List.mem_cons] at hd
      simp only [List.mem_cons, List.mem_append]
      rcases hx with rfl | rfl
      · exact Or.inr (Or.inl (root_mem _))
      · exact Or.inr (Or.inr hd)))
    have c14 := i1.node.c14
    rw [nd_up'] at c14
    have H1 : Hid (In w1 (upOf c) f.sib ∧ Arnd w1 t fat lv c f.sib.root ∧ Only (f.b :: (f.sib.blocks ++ (t :: cblocks c))) w w1 ∧ (f.sib.blocks ++ (t :: cblocks c)).Nodup ∧ (f.sib.blocks ++ (t :: cblocks c)).length ≤ 800) := ⟨i1, a1, o1', nd2, by omega⟩
    clear i1 a1 o1' o1 h1 nd2 nd3 hs hc hz nd hb c1 c2 c3 H0 q1
    go_wp2_with fail
    refine (mend_calls t fat lv c f.sib w1 H1.out.2.2.2.1 H1.out.1 H1.out.2.1 H1.out.2.2.2.2).mono ?_
    rintro e w2 ⟨rfl, i2, t2, o2⟩
    have H2 : Hid (In w2 none _ ∧ TreeAt w2 t fat _ lv ∧ Only _ w1 w2) := ⟨i2, t2, o2⟩
    clear i2 t2 o2
    go_wp2_with fail
    go_end0
    obtain ⟨i2, t2, o2⟩ := H2.out
    exact ⟨rfl, i2, t2, H1.out.2.2.1.trans (o2.mono (fun x hx => Or.inl (List.mem_cons_of_mem _ hx)))⟩
  | false =>
    simp only [Fr.nd, hl, Bool.false_eq_true, if_false, ptr_some] at c2 c3
    generalize hr : f.sib.root = rt at c2 c3 rl rb rc q0 ⊢
    have HR : Hid (f.sib.root = rt) := hr
    clear hr
    go_enter Tryz.func19, Tryz.ntmps19
    go_wp2_with fail
    clear q0
    have hr := HR.out
    subst hr
    obtain ⟨hs, hc, hz, nd, hb⟩ := H0.out
    have nd2 : (f.sib.blocks ++ (t :: cblocks c)).Nodup := (List.nodup_cons.1 (List.nodup_cons.1 nd).2).2
    have nd3 : (t :: cblocks c).Nodup := (List.nodup_append.1 nd2).2.1
    refine (replace_calls t f.b f.sib.root _ _ fat lv c w rb rc bc nd3 hz rfl hs.node hc).mono ?_
    rintro e w1 ⟨rfl, h1, a1, o1⟩
    have i1 := unhang_mid nd hs h1 o1
    have o1' : Only (f.b :: (f.sib.blocks ++ (t :: cblocks c))) w w1 := o1.mono (fun x hx => Or.inl (by
      simp only [List.mem_cons, List.not_mem_nil, or_false] at hx
      have hd := headOf_mem t c
      simp only [List.mem_cons] at hd
      simp only [List.mem_cons, List.mem_append]
      rcases hx with rfl | rfl
      · exact Or.inr (Or.inl (root_mem _))
      · exact Or.inr (Or.inr hd)))
    have c14 := i1.node.c14
    rw [nd_up'] at c14
    have H1 : Hid (In w1 (upOf c) f.sib ∧ Arnd w1 t fat lv c f.sib.root ∧ Only (f.b :: (f.sib.blocks ++ (t :: cblocks c))) w w1 ∧ (f.sib.blocks ++ (t :: cblocks c)).Nodup ∧ (f.sib.blocks ++ (t :: cblocks c)).length ≤ 800) := ⟨i1, a1, o1', nd2, by omega⟩
    clear i1 a1 o1' o1 h1 nd2 nd3 hs hc hz nd hb c1 c2 c3 H0 q1
    go_wp2_with fail
    refine (mend_calls t fat lv c f.sib w1 H1.out.2.2.2.1 H1.out.1 H1.out.2.1 H1.out.2.2.2.2).mono ?_
    rintro e w2 ⟨rfl, i2, t2, o2⟩
    have H2 : Hid (In w2 none _ ∧ TreeAt w2 t fat _ lv ∧ Only _ w1 w2) := ⟨i2, t2, o2⟩
    clear i2 t2 o2
    go_wp2_with fail
    go_end0
    obtain ⟨i2, t2, o2⟩ := H2.out
    exact ⟨rfl, i2, t2, H1.out.2.2.1.trans (o2.mono (fun x hx => Or.inl (List.mem_cons_of_mem _ hx)))⟩
end Go.Proofs.YtdhbcgdlmkkdfaaGreatDoor
