/- broad.girth, growth and Tree.mate: from the root a leaf is found; nothing has turned: whatever the tree. -/
import Derived.Test.YtdhbcgdlmkkdfaaGreatDoorBr6
namespace Go.Proofs.YtdhbcgdlmkkdfaaGreatDoor
open Go.ChangeShapes Go.WideShapes Go.ChangeAt Go.RowKit
set_option linter.unusedVariables false
set_option linter.unusedSimpArgs false

theorem girth_calls (a0 a1 a2 a3 a4 a5 : Int) (w : World) : Calls Tryz.prog 76 #[.agg #[.int .i64 a0, .int .i64 a1, .int .i64 a2, .int .i64 a3, .int .i64 a4, .int .i64 a5]] w fun e w' => (∃ v, e = .returned (.int .i64 v)) ∧ Kept w w' := by
  go_enter Tryz.func76, Tryz.ntmps76
  go_wp2_with fail
  go_ret
  exact ⟨⟨_, rfl⟩, (Kept.refl _).alloc _ _⟩
theorem growth_calls (a0 a1 a2 a3 a4 a5 b0 b1 b2 b3 b4 b5 : Int) (w : World) : Calls Tryz.prog 49 #[.agg #[.int .i64 a0, .int .i64 a1, .int .i64 a2, .int .i64 a3, .int .i64 a4, .int .i64 a5], .agg #[.int .i64 b0, .int .i64 b1, .int .i64 b2, .int .i64 b3, .int .i64 b4, .int .i64 b5]] w fun e w' => (∃ v, e = .returned (.int .i64 v)) ∧ Kept w w' := by
  go_enter Tryz.func49, Tryz.ntmps49
  go_wp2_with fail
  refine wp_region_held_drew (S := (fun w' => Kept w w' ∧ w'.cell? ⟨w.heap.size, 0, none⟩ = some (.int .i64 a0) ∧ w'.cell? ⟨w.heap.size, 1, none⟩ = some (.int .i64 a1) ∧ w'.cell? ⟨w.heap.size, 2, none⟩ = some (.int .i64 a2) ∧ w'.cell? ⟨w.heap.size, 3, none⟩ = some (.int .i64 a3) ∧ w'.cell? ⟨w.heap.size, 4, none⟩ = some (.int .i64 a4) ∧ w'.cell? ⟨w.heap.size, 5, none⟩ = some (.int .i64 a5) ∧ w'.cell? ⟨w.heap.size + 1, 0, none⟩ = some (.int .i64 b0) ∧ w'.cell? ⟨w.heap.size + 1, 1, none⟩ = some (.int .i64 b1) ∧ w'.cell? ⟨w.heap.size + 1, 2, none⟩ = some (.int .i64 b2) ∧ w'.cell? ⟨w.heap.size + 1, 3, none⟩ = some (.int .i64 b3) ∧ w'.cell? ⟨w.heap.size + 1, 4, none⟩ = some (.int .i64 b4) ∧ w'.cell? ⟨w.heap.size + 1, 5, none⟩ = some (.int .i64 b5))) (by kernel_rfl) ?_ (fun hHeld1 => ?_)
  · (try dsimp only); exact G66.drew (by refine ⟨((Kept.refl w).alloc _ _).alloc _ _, ?_, ?_, ?_, ?_, ?_, ?_, ?_, ?_, ?_, ?_, ?_, ?_⟩ <;> go_simp)
  refine tkW 0 rfl ?_; refine tkW 1 rfl ?_; refine tkW 4 rfl ?_
  try simp only [Act.put, List.setIfInBounds_toArray, List.set_cons_zero, List.set_cons_succ, List.getElem_toArray, List.getElem_cons_succ, List.getElem_cons_zero]
  refine wpAnyH_ready (rs := [2]) (by kernel_rfl) (by simp) ?_
  refine AllReadyH.cons rfl (fun K hK => ?_) AllReadyH.nil
  first | (with_reducible refine iteYes ?hcx ?htx; case hcx => kernel_rfl) | rw [if_pos (by rfl)]
  simp only [List.getElem_toArray, List.getElem_cons_succ, List.getElem_cons_zero]
  go_simp
  (go_at_call 74; refine (gboth_calls _ _ _ _ _ _ _ _ _ _ _ _ _).mono ?_; rintro e w1 ⟨rfl, k1⟩)
  try go_wp2_with fail
  refine hK.out _ _ ?_ (fun hHeld2 => ?_)
  · (try dsimp only); exact G66.step k1 hHeld1
  clear hK K hHeld1
  try simp only [Act.put, List.setIfInBounds_toArray, List.set_cons_zero, List.set_cons_succ, List.getElem_toArray, List.getElem_cons_succ, List.getElem_cons_zero]
  refine wpAnyH_ready (rs := [3]) (by kernel_rfl) (by simp) ?_
  refine AllReadyH.cons rfl (fun K hK => ?_) AllReadyH.nil
  first | (with_reducible refine iteYes ?hcx ?htx; case hcx => kernel_rfl) | rw [if_pos (by rfl)]
  simp only [List.getElem_toArray, List.getElem_cons_succ, List.getElem_cons_zero]
  go_simp
  (go_at_call 76; refine (girth_calls _ _ _ _ _ _ _).mono ?_; rintro e w2 ⟨⟨v2, rfl⟩, k2⟩)
  try go_wp2_with fail
  refine hK.out _ _ ?_ (fun hHeld3 => ?_)
  · (try dsimp only); exact G66.step k2 hHeld2
  clear hK K hHeld2
  try simp only [Act.put, List.setIfInBounds_toArray, List.set_cons_zero, List.set_cons_succ, List.getElem_toArray, List.getElem_cons_succ, List.getElem_cons_zero]
  refine wpAnyH_ready (rs := [5]) (by kernel_rfl) (by simp) ?_
  refine AllReadyH.cons rfl (fun K hK => ?_) AllReadyH.nil
  first | (with_reducible refine iteYes ?hcx ?htx; case hcx => kernel_rfl) | rw [if_pos (by rfl)]
  simp only [List.getElem_toArray, List.getElem_cons_succ, List.getElem_cons_zero]
  go_simp
  (go_at_call 76; refine (girth_calls _ _ _ _ _ _ _).mono ?_; rintro e w3 ⟨⟨v3, rfl⟩, k3⟩)
  try go_wp2_with fail
  refine hK.out _ _ ?_ (fun hHeld4 => ?_)
  · (try dsimp only); exact G66.step k3 hHeld3
  clear hK K hHeld3
  try simp only [Act.put, List.setIfInBounds_toArray, List.set_cons_zero, List.set_cons_succ, List.getElem_toArray, List.getElem_cons_succ, List.getElem_cons_zero]
  refine tkW 6 rfl ?_; refine tkW 7 rfl ?_
  try simp only [Act.put, List.setIfInBounds_toArray, List.set_cons_zero, List.set_cons_succ, List.getElem_toArray, List.getElem_cons_succ, List.getElem_cons_zero]
  refine wpAnyH_done (by kernel_rfl) ?_ _
  go_wp2_with fail
  go_ret
  exact ⟨⟨_, rfl⟩, hHeld4.1⟩
/-! mate -/
theorem root_leaf (b : Nat) (id : Int) (box room : Bx) : (Tr.leaf b id box room).root = b := rfl
theorem high_leaf (b : Nat) (id : Int) (box room : Bx) : (Tr.leaf b id box room).high = 0 := rfl
def plug : List Fr → Tr → Tr
  | [], T => T
  | f :: c, T => plug c (f.fill T)
theorem fill_blocks (f : Fr) (T : Tr) : (f.fill T).blocks.Perm (f.b :: (T.blocks ++ f.sib.blocks)) := by
  unfold Fr.fill; split
  · exact List.Perm.refl _
  · exact List.Perm.cons _ List.perm_append_comm
theorem plug_blocks : ∀ (c : List Fr) (T : Tr), (plug c T).blocks.Perm (T.blocks ++ cblocks c)
  | [], T => by simp [plug, cblocks]
  | f :: c, T => by
    refine (plug_blocks c (f.fill T)).trans ((List.Perm.append_right _ (fill_blocks f T)).trans ?_)
    simp only [cblocks, List.cons_append, List.append_assoc]; grind
def frL (b : Nat) (l r : Tr) : Fr := ⟨b, bothX l.room r.room, 1 + greater l.high r.high, true, r⟩
def frR (b : Nat) (l r : Tr) : Fr := ⟨b, bothX l.room r.room, 1 + greater l.high r.high, false, l⟩
theorem go_left {w : World} {t : Nat} {fat : Int} {lv : Option Nat} {c : List Fr} {b : Nat} {l r : Tr} (hi : In w (upOf c) (.node b l r)) (ha : Arnd w t fat lv c b) : In w (upOf (frL b l r :: c)) l ∧ Arnd w t fat lv (frL b l r :: c) l.root :=
  ⟨hi.2.1, hi.1, hi.2.2, ha⟩
theorem go_right {w : World} {t : Nat} {fat : Int} {lv : Option Nat} {c : List Fr} {b : Nat} {l r : Tr} (hi : In w (upOf c) (.node b l r)) (ha : Arnd w t fat lv c b) : In w (upOf (frR b l r :: c)) r ∧ Arnd w t fat lv (frR b l r :: c) r.root :=
  ⟨hi.2.2, hi.1, hi.2.1, ha⟩
def M3 (a : Nat) (ra : Bx) (f : Nat) (rf : Bx) (b : Nat) (rb : Bx) (w w' : World) : Prop := Kept w w' ∧ w'.cell? ⟨a, 7, none⟩ = some (.int .i64 ra.x0) ∧ w'.cell? ⟨a, 8, none⟩ = some (.int .i64 ra.x1) ∧ w'.cell? ⟨a, 9, none⟩ = some (.int .i64 ra.x2) ∧ w'.cell? ⟨a, 10, none⟩ = some (.int .i64 ra.x3) ∧ w'.cell? ⟨a, 11, none⟩ = some (.int .i64 ra.x4) ∧ w'.cell? ⟨a, 12, none⟩ = some (.int .i64 ra.x5) ∧ w'.cell? ⟨f, 7, none⟩ = some (.int .i64 rf.x0) ∧ w'.cell? ⟨f, 8, none⟩ = some (.int .i64 rf.x1) ∧ w'.cell? ⟨f, 9, none⟩ = some (.int .i64 rf.x2) ∧ w'.cell? ⟨f, 10, none⟩ = some (.int .i64 rf.x3) ∧ w'.cell? ⟨f, 11, none⟩ = some (.int .i64 rf.x4) ∧ w'.cell? ⟨f, 12, none⟩ = some (.int .i64 rf.x5) ∧ w'.cell? ⟨b, 7, none⟩ = some (.int .i64 rb.x0) ∧ w'.cell? ⟨b, 8, none⟩ = some (.int .i64 rb.x1) ∧ w'.cell? ⟨b, 9, none⟩ = some (.int .i64 rb.x2) ∧ w'.cell? ⟨b, 10, none⟩ = some (.int .i64 rb.x3) ∧ w'.cell? ⟨b, 11, none⟩ = some (.int .i64 rb.x4) ∧ w'.cell? ⟨b, 12, none⟩ = some (.int .i64 rb.x5)
theorem M3.step {a : Nat} {ra : Bx} {f : Nat} {rf : Bx} {b : Nat} {rb : Bx} {w w1 w2 : World} (k : Kept w1 w2) (h : M3 a ra f rf b rb w w1) : M3 a ra f rf b rb w w2 := by
  obtain ⟨h0, h1, h2, h3, h4, h5, h6, h7, h8, h9, h10, h11, h12, h13, h14, h15, h16, h17, h18⟩ := h
  exact ⟨h0.trans k, kept_cell k h1, kept_cell k h2, kept_cell k h3, kept_cell k h4, kept_cell k h5, kept_cell k h6, kept_cell k h7, kept_cell k h8, kept_cell k h9, kept_cell k h10, kept_cell k h11, kept_cell k h12, kept_cell k h13, kept_cell k h14, kept_cell k h15, kept_cell k h16, kept_cell k h17, kept_cell k h18⟩

theorem M3.of {w : World} {u v : Option Nat} {l r : Tr} {lf : Nat} {y : Nd} (hl : In w u l) (hr : In w v r) (hy : NodeAt w lf y) : M3 l.root l.room lf y.room r.root r.room w w.drew := by
  have a := hl.node; have b := hr.node
  have a7 := a.c7; have a8 := a.c8; have a9 := a.c9; have a10 := a.c10; have a11 := a.c11; have a12 := a.c12
  have b7 := b.c7; have b8 := b.c8; have b9 := b.c9; have b10 := b.c10; have b11 := b.c11; have b12 := b.c12
  rw [nd_room] at a7 a8 a9 a10 a11 a12 b7 b8 b9 b10 b11 b12
  exact ⟨(Kept.refl _).drew, a7, a8, a9, a10, a11, a12, hy.c7, hy.c8, hy.c9, hy.c10, hy.c11, hy.c12, b7, b8, b9, b10, b11, b12⟩

/-- What the way down knows of the focus. -/
structure Down (w0 : World) (t : Nat) (fat : Int) (lv : Option Nat) (T0 : Tr) (lf : Nat) (y : Nd) (c : List Fr) (T : Tr) (w : World) : Prop where
  inn : In w (upOf c) T
  arnd : Arnd w t fat lv c T.root
  whole : plug c T = T0
  leaf : NodeAt w lf y
  only : Only [] w0 w
theorem Down.go {w0 w w' : World} {t : Nat} {fat : Int} {lv : Option Nat} {T0 : Tr} {lf : Nat} {y : Nd} {c : List Fr} {T : Tr} (h : Down w0 t fat lv T0 lf y c T w) (o : Only [] w w') : Down w0 t fat lv T0 lf y c T w' :=
  ⟨h.inn.only o (by simp), h.arnd.only o (by simp), h.whole, o.node (by simp) h.leaf, h.only.trans o⟩
theorem Down.left {w0 w : World} {t : Nat} {fat : Int} {lv : Option Nat} {T0 : Tr} {lf : Nat} {y : Nd} {c : List Fr} {b : Nat} {l r : Tr} (h : Down w0 t fat lv T0 lf y c (.node b l r) w) : Down w0 t fat lv T0 lf y (frL b l r :: c) l w :=
  ⟨(go_left h.inn h.arnd).1, (go_left h.inn h.arnd).2, h.whole, h.leaf, h.only⟩
theorem Down.right {w0 w : World} {t : Nat} {fat : Int} {lv : Option Nat} {T0 : Tr} {lf : Nat} {y : Nd} {c : List Fr} {b : Nat} {l r : Tr} (h : Down w0 t fat lv T0 lf y c (.node b l r) w) : Down w0 t fat lv T0 lf y (frR b l r :: c) r w :=
  ⟨(go_right h.inn h.arnd).1, (go_right h.inn h.arnd).2, h.whole, h.leaf, h.only⟩
theorem len_l (b : Nat) (l r : Tr) : l.blocks.length < (Tr.node b l r).blocks.length ∧ r.blocks.length < (Tr.node b l r).blocks.length := by
  simp only [Tr.blocks, List.length_cons, List.length_append]; omega

set_option maxHeartbeats 4000000 in
theorem mate_calls (t : Nat) (fat : Int) (lv : Option Nat) (T0 : Tr) (lf : Nat) (y : Nd) (w : World) (hi : In w none T0) (ht : TreeAt w t fat (some T0.root) lv) (hy : NodeAt w lf y) (hb : T0.blocks.length ≤ 800) :
    Calls Tryz.prog 35 #[.pointer (some ⟨t, 0, none⟩), .pointer (some ⟨lf, 0, none⟩)] w fun e w' => ∃ c b id box room, e = .returned (.pointer (some ⟨b, 0, none⟩)) ∧ Down w t fat lv T0 lf y c (.leaf b id box room) w' := by
  have c1 := ht.c1; simp only [ptr_some] at c1
  have H0 : Hid (Down w t fat lv T0 lf y [] T0 w) := ⟨hi, ht, rfl, hy, Only.refl _ _⟩
  have HB : Hid (T0.blocks.length ≤ 800) := hb
  clear hi ht hy hb
  obtain ⟨rt, hrt⟩ : ∃ rt, rt = T0.root := ⟨_, rfl⟩
  rw [← hrt] at c1
  have HR : Hid (rt = T0.root) := hrt
  clear hrt
  go_enter Tryz.func35, Tryz.ntmps35
  go_wp2_with fail
  go_loopg [5] T0.blocks.length (fun k p wr => ∃ c T, T.blocks.length = k ∧ p = .pointer (some ⟨T.root, 0, none⟩) ∧ Down w t fat lv T0 lf y c T wr)
  case atStart => exact ⟨[], T0, rfl, by rw [HR.out], H0.out⟩
  case round =>
    obtain ⟨c, T, hk, rfl, hd⟩ := hrel
    have HD : Hid (Down w t fat lv T0 lf y c T wr ∧ T.blocks.length = gk) := ⟨hd, hk⟩
    clear c1 H0 hk HR
    have c13 := hd.inn.node.c13
    rw [nd_high] at c13
    cases T using Tr.cs with
    | leaf b id box room =>
      clear hd
      simp only [root_leaf, high_leaf] at c13 ⊢
      go_wp2_with fail
      go_ret
      exact ⟨c, b, id, box, room, rfl, HD.out.1⟩
    | node b l r =>
      have hh : 0 < (Tr.node b l r).high := by have := high_nonneg l; have := high_nonneg r; simp only [Tr.high]; unfold greater; split <;> omega
      have p1 := high_nonneg l; have p2 := high_nonneg r
      have t0 : decide (0 < (Tr.node b l r).high) = true := by simp [hh]
      generalize (Tr.node b l r).high = H at c13 hh t0
      have c15 : wr.cell? ⟨b, 15, none⟩ = some (.pointer (some ⟨l.root, 0, none⟩)) := hd.inn.1.c15
      have c16 : wr.cell? ⟨b, 16, none⟩ = some (.pointer (some ⟨r.root, 0, none⟩)) := hd.inn.1.c16
      clear hd
      simp only [root_node] at c13 ⊢
      go_wp2_with fail
      go_quiet (fail)
      have HE : Hid (Down w t fat lv T0 lf y c (.node b l r) (wr.drewN nq) ∧ (Tr.node b l r).blocks.length = gk) := ⟨HD.out.1.go (Only.drewN _ _), HD.out.2⟩
      clear c13 c15 c16 HD
      generalize wr.drewN nq = w0 at HE ⊢
      go_wp2_with fail
      refine wp_region_held_drew (S := (fun w' => Kept w0 w' ∧ w'.cell? ⟨l.root, 7, none⟩ = some (.int .i64 l.room.x0) ∧ w'.cell? ⟨l.root, 8, none⟩ = some (.int .i64 l.room.x1) ∧ w'.cell? ⟨l.root, 9, none⟩ = some (.int .i64 l.room.x2) ∧ w'.cell? ⟨l.root, 10, none⟩ = some (.int .i64 l.room.x3) ∧ w'.cell? ⟨l.root, 11, none⟩ = some (.int .i64 l.room.x4) ∧ w'.cell? ⟨l.root, 12, none⟩ = some (.int .i64 l.room.x5) ∧ w'.cell? ⟨lf, 7, none⟩ = some (.int .i64 y.room.x0) ∧ w'.cell? ⟨lf, 8, none⟩ = some (.int .i64 y.room.x1) ∧ w'.cell? ⟨lf, 9, none⟩ = some (.int .i64 y.room.x2) ∧ w'.cell? ⟨lf, 10, none⟩ = some (.int .i64 y.room.x3) ∧ w'.cell? ⟨lf, 11, none⟩ = some (.int .i64 y.room.x4) ∧ w'.cell? ⟨lf, 12, none⟩ = some (.int .i64 y.room.x5) ∧ w'.cell? ⟨r.root, 7, none⟩ = some (.int .i64 r.room.x0) ∧ w'.cell? ⟨r.root, 8, none⟩ = some (.int .i64 r.room.x1) ∧ w'.cell? ⟨r.root, 9, none⟩ = some (.int .i64 r.room.x2) ∧ w'.cell? ⟨r.root, 10, none⟩ = some (.int .i64 r.room.x3) ∧ w'.cell? ⟨r.root, 11, none⟩ = some (.int .i64 r.room.x4) ∧ w'.cell? ⟨r.root, 12, none⟩ = some (.int .i64 r.room.x5))) (by kernel_rfl) ?_ (fun hHeld1 => ?_)
      · (try dsimp only); exact M3.of HE.out.1.inn.2.1 HE.out.1.inn.2.2 HE.out.1.leaf
      refine tkW 0 rfl ?_; refine tkW 1 rfl ?_; refine tkW 2 rfl ?_; refine tkW 3 rfl ?_
      try simp only [Act.put, List.setIfInBounds_toArray, List.set_cons_zero, List.set_cons_succ, List.getElem_toArray, List.getElem_cons_succ, List.getElem_cons_zero]
      refine tkW 4 rfl ?_; refine tkW 5 rfl ?_; refine tkW 6 rfl ?_; refine tkW 7 rfl ?_
      try simp only [Act.put, List.setIfInBounds_toArray, List.set_cons_zero, List.set_cons_succ, List.getElem_toArray, List.getElem_cons_succ, List.getElem_cons_zero]
      refine tkW 9 rfl ?_; refine tkW 10 rfl ?_; refine tkW 11 rfl ?_; refine tkW 12 rfl ?_
      try simp only [Act.put, List.setIfInBounds_toArray, List.set_cons_zero, List.set_cons_succ, List.getElem_toArray, List.getElem_cons_succ, List.getElem_cons_zero]
      refine tkW 13 rfl ?_; refine tkW 14 rfl ?_; refine tkW 15 rfl ?_; refine tkW 16 rfl ?_
      try simp only [Act.put, List.setIfInBounds_toArray, List.set_cons_zero, List.set_cons_succ, List.getElem_toArray, List.getElem_cons_succ, List.getElem_cons_zero]
      refine wpAnyH_ready (rs := [8]) (by kernel_rfl) (by simp) ?_
      refine AllReadyH.cons rfl (fun K hK => ?_) AllReadyH.nil
      first | (with_reducible refine iteYes ?hcx ?htx; case hcx => kernel_rfl) | rw [if_pos (by rfl)]
      simp only [List.getElem_toArray, List.getElem_cons_succ, List.getElem_cons_zero]
      go_simp
      (go_at_call 49; refine (growth_calls _ _ _ _ _ _ _ _ _ _ _ _ _).mono ?_; rintro e w1 ⟨⟨v1, rfl⟩, k1⟩)
      try go_wp2_with fail
      refine hK.out _ _ ?_ (fun hHeld2 => ?_)
      · (try dsimp only); exact M3.step k1 hHeld1
      clear hK K hHeld1
      try simp only [Act.put, List.setIfInBounds_toArray, List.set_cons_zero, List.set_cons_succ, List.getElem_toArray, List.getElem_cons_succ, List.getElem_cons_zero]
      refine wpAnyH_ready (rs := [17]) (by kernel_rfl) (by simp) ?_
      refine AllReadyH.cons rfl (fun K hK => ?_) AllReadyH.nil
      first | (with_reducible refine iteYes ?hcx ?htx; case hcx => kernel_rfl) | rw [if_pos (by rfl)]
      simp only [List.getElem_toArray, List.getElem_cons_succ, List.getElem_cons_zero]
      go_simp
      (go_at_call 49; refine (growth_calls _ _ _ _ _ _ _ _ _ _ _ _ _).mono ?_; rintro e w2 ⟨⟨v2, rfl⟩, k2⟩)
      try go_wp2_with fail
      refine hK.out _ _ ?_ (fun hHeld3 => ?_)
      · (try dsimp only); exact M3.step k2 hHeld2
      clear hK K hHeld2
      try simp only [Act.put, List.setIfInBounds_toArray, List.set_cons_zero, List.set_cons_succ, List.getElem_toArray, List.getElem_cons_succ, List.getElem_cons_zero]
      refine tkW 18 rfl ?_; refine tkW 19 rfl ?_
      try simp only [Act.put, List.setIfInBounds_toArray, List.set_cons_zero, List.set_cons_succ, List.getElem_toArray, List.getElem_cons_succ, List.getElem_cons_zero]
      refine wpAnyH_done (by kernel_rfl) ?_ _
      have HF : Hid (Down w t fat lv T0 lf y c (.node b l r) w2 ∧ (Tr.node b l r).blocks.length = gk) := ⟨HE.out.1.go (.of_kept hHeld3.1), HE.out.2⟩
      clear hHeld3 HE
      have d1 := HF.out.1.inn.2.1.node.c13; rw [nd_high] at d1
      have d2 := HF.out.1.inn.2.2.node.c13; rw [nd_high] at d2
      by_cases h1 : v2 < v1
      · have t1 : decide (v2 < v1) = true := by simp [h1]
        go_wp2_with fail
        go_quiet (fail)
        go_wp2_with fail
        go_roundg r.blocks.length
        case measure => have := HF.out.2; have := (len_l b l r).2; omega
        case rel => exact ⟨_, r, rfl, rfl, (HF.out.1.go (Only.drewN _ _)).right⟩
      · have t1 : decide (v2 < v1) = false := by simpa using h1
        by_cases h2 : v1 = v2
        · have t2 : (v1 == v2) = true := by simp [h2]
          clear h2
          by_cases h3 : r.high < l.high
          · have t3 : decide (r.high < l.high) = true := by simp [h3]
            go_wp2_with fail
            go_quiet (fail)
            go_wp2_with fail
            go_roundg r.blocks.length
            case measure => have := HF.out.2; have := (len_l b l r).2; omega
            case rel => exact ⟨_, r, rfl, rfl, (HF.out.1.go (Only.drewN _ _)).right⟩
          · have t3 : decide (r.high < l.high) = false := by simpa using h3
            go_wp2_with fail
            go_quiet (fail)
            go_wp2_with fail
            go_roundg l.blocks.length
            case measure => have := HF.out.2; have := (len_l b l r).1; omega
            case rel => exact ⟨_, l, rfl, rfl, (HF.out.1.go (Only.drewN _ _)).left⟩
        · have t2 : (v1 == v2) = false := by simp [h2]
          go_wp2_with fail
          go_quiet (fail)
          go_wp2_with fail
          go_roundg l.blocks.length
          case measure => have := HF.out.2; have := (len_l b l r).1; omega
          case rel => exact ⟨_, l, rfl, rfl, (HF.out.1.go (Only.drewN _ _)).left⟩
end Go.Proofs.YtdhbcgdlmkkdfaaGreatDoor
