/- broad.node.measure and join: a joint's room and height are those of what hangs below it: whatever the two nodes are. -/
import Derived.Test.YtdhbcgdlmkkdfaaGreatDoorBr1
import Derived.Test.YtdhbcgdlmkkdfaaGreatDoorGeo6
import Derived.BigRegion
namespace Go.Proofs.YtdhbcgdlmkkdfaaGreatDoor
open Go.ChangeShapes Go.WideShapes Go.ChangeAt Go.RowKit
set_option linter.unusedVariables false
set_option linter.unusedSimpArgs false

theorem wrap_in {n : Int} (h : -9223372036854775808 ≤ n) (k : n ≤ 9223372036854775807) : IntKind.i64.wrap n = n := by rw [IntKind.wrap_i64]; omega
def bothX (a b : Bx) : Bx := ⟨lesser a.x0 b.x0, lesser a.x1 b.x1, lesser a.x2 b.x2, greater a.x3 b.x3, greater a.x4 b.x4, greater a.x5 b.x5⟩
def MS (n : Nat) (x : Nd) (a : Nat) (ya : Nd) (b : Nat) (yb : Nd) (w w' : World) : Prop :=
  Only [n] w w' ∧ (∃ k, NodeAt w' n { x with room := k }) ∧ w'.cell? ⟨a, 7, none⟩ = some (.int .i64 ya.room.x0) ∧ w'.cell? ⟨a, 8, none⟩ = some (.int .i64 ya.room.x1) ∧ w'.cell? ⟨a, 9, none⟩ = some (.int .i64 ya.room.x2) ∧ w'.cell? ⟨a, 10, none⟩ = some (.int .i64 ya.room.x3) ∧ w'.cell? ⟨a, 11, none⟩ = some (.int .i64 ya.room.x4) ∧ w'.cell? ⟨a, 12, none⟩ = some (.int .i64 ya.room.x5) ∧ w'.cell? ⟨b, 7, none⟩ = some (.int .i64 yb.room.x0) ∧ w'.cell? ⟨b, 8, none⟩ = some (.int .i64 yb.room.x1) ∧ w'.cell? ⟨b, 9, none⟩ = some (.int .i64 yb.room.x2) ∧ w'.cell? ⟨b, 10, none⟩ = some (.int .i64 yb.room.x3) ∧ w'.cell? ⟨b, 11, none⟩ = some (.int .i64 yb.room.x4) ∧ w'.cell? ⟨b, 12, none⟩ = some (.int .i64 yb.room.x5) ∧ w'.cell? ⟨n, 7, none⟩ = some (cellV w' ⟨n, 7, none⟩) ∧ w'.cell? ⟨n, 8, none⟩ = some (cellV w' ⟨n, 8, none⟩) ∧ w'.cell? ⟨n, 9, none⟩ = some (cellV w' ⟨n, 9, none⟩) ∧ w'.cell? ⟨n, 10, none⟩ = some (cellV w' ⟨n, 10, none⟩) ∧ w'.cell? ⟨n, 11, none⟩ = some (cellV w' ⟨n, 11, none⟩) ∧ w'.cell? ⟨n, 12, none⟩ = some (cellV w' ⟨n, 12, none⟩) ∧ (∀ i, w'.frozen? ⟨n, i, none⟩ = false)
theorem MS.of {n : Nat} {x : Nd} {a : Nat} {ya : Nd} {b : Nat} {yb : Nd} {w w' : World} (o : Only [n] w w') {k : Bx} (hn : NodeAt w' n { x with room := k }) (ha : NodeAt w' a ya) (hb : NodeAt w' b yb) : MS n x a ya b yb w w' :=
  ⟨o, ⟨k, hn⟩, ha.c7, ha.c8, ha.c9, ha.c10, ha.c11, ha.c12, hb.c7, hb.c8, hb.c9, hb.c10, hb.c11, hb.c12, cellV_of hn.c7, cellV_of hn.c8, cellV_of hn.c9, cellV_of hn.c10, cellV_of hn.c11, cellV_of hn.c12, hn.free⟩
theorem MS.step {n : Nat} {x : Nd} {a : Nat} {ya : Nd} {b : Nat} {yb : Nd} {w w1 w2 : World} (ha : NodeAt w a ya) (hb : NodeAt w b yb) (na : a ≠ n) (nb : b ≠ n) (k : Kept w1 w2) (h : MS n x a ya b yb w w1) : MS n x a ya b yb w w2 := by
  obtain ⟨o, ⟨r, hn⟩, _⟩ := h
  have o2 : Only [n] w w2 := o.trans (.of_kept k)
  exact .of o2 (hn.kept k) (o2.node (by simp [na]) ha) (o2.node (by simp [nb]) hb)
theorem MS.put {n : Nat} {x : Nd} {a : Nat} {ya : Nd} {b : Nat} {yb : Nd} {w w1 : World} (ha : NodeAt w a ya) (hb : NodeAt w b yb) (na : a ≠ n) (nb : b ≠ n) (k : Bx) (h : MS n x a ya b yb w w1) :
    MS n x a ya b yb w ((((((w1.setCell ⟨n, 7, none⟩ (.int .i64 (k.x0))).setCell ⟨n, 8, none⟩ (.int .i64 (k.x1))).setCell ⟨n, 9, none⟩ (.int .i64 (k.x2))).setCell ⟨n, 10, none⟩ (.int .i64 (k.x3))).setCell ⟨n, 11, none⟩ (.int .i64 (k.x4))).setCell ⟨n, 12, none⟩ (.int .i64 (k.x5))) := by
  obtain ⟨o, ⟨r, hn⟩, _⟩ := h
  have o2 := (((((o.setCell (p := ⟨n, 7, none⟩) (by simp) (.int .i64 (k.x0))).setCell (p := ⟨n, 8, none⟩) (by simp) (.int .i64 (k.x1))).setCell (p := ⟨n, 9, none⟩) (by simp) (.int .i64 (k.x2))).setCell (p := ⟨n, 10, none⟩) (by simp) (.int .i64 (k.x3))).setCell (p := ⟨n, 11, none⟩) (by simp) (.int .i64 (k.x4))).setCell (p := ⟨n, 12, none⟩) (by simp) (.int .i64 (k.x5))
  exact .of o2 (hn.putRoom k) (o2.node (by simp [na]) ha) (o2.node (by simp [nb]) hb)

set_option maxHeartbeats 4000000 in
theorem measure_calls (n a b : Nat) (x ya yb : Nd) (w : World) (el : x.l = some a) (er : x.r = some b) (na : a ≠ n) (nb : b ≠ n) (hn : NodeAt w n x) (ha : NodeAt w a ya) (hb : NodeAt w b yb)
    (b1 : 0 ≤ ya.high) (b2 : ya.high ≤ 1000000) (b3 : 0 ≤ yb.high) (b4 : yb.high ≤ 1000000) :
    Calls Tryz.prog 45 #[.pointer (some ⟨n, 0, none⟩)] w fun e w' => e = .returned (.tuple #[]) ∧ NodeAt w' n { x with room := bothX ya.room yb.room, high := 1 + greater ya.high yb.high } ∧ Only [n] w w' := by
  have q15 : w.cell? ⟨n, 15, none⟩ = some (.pointer (some ⟨a, 0, none⟩)) := by have := hn.c15; rw [el] at this; exact this
  have q16 : w.cell? ⟨n, 16, none⟩ = some (.pointer (some ⟨b, 0, none⟩)) := by have := hn.c16; rw [er] at this; exact this
  have HN : Hid (NodeAt w n x ∧ NodeAt w a ya ∧ NodeAt w b yb ∧ x.l = some a ∧ x.r = some b) := ⟨hn, ha, hb, el, er⟩
  clear hn ha hb el er
  go_enter Tryz.func45, Tryz.ntmps45
  go_wp2_with fail
  go_quiet (fail)
  have G0 : Hid (NodeAt (w.drewN nq) n x ∧ NodeAt (w.drewN nq) a ya ∧ NodeAt (w.drewN nq) b yb ∧ Only [n] w (w.drewN nq)) := ⟨HN.out.1, HN.out.2.1, HN.out.2.2.1, Only.drewN _ _⟩
  clear q15 q16
  generalize w.drewN nq = w0 at G0 ⊢
  go_wp2_with fail
  refine wp_region_held_drew (S := (fun w' => Only [n] w0 w' ∧ (∃ k, NodeAt w' n { x with room := k }) ∧ w'.cell? ⟨a, 7, none⟩ = some (.int .i64 ya.room.x0) ∧ w'.cell? ⟨a, 8, none⟩ = some (.int .i64 ya.room.x1) ∧ w'.cell? ⟨a, 9, none⟩ = some (.int .i64 ya.room.x2) ∧ w'.cell? ⟨a, 10, none⟩ = some (.int .i64 ya.room.x3) ∧ w'.cell? ⟨a, 11, none⟩ = some (.int .i64 ya.room.x4) ∧ w'.cell? ⟨a, 12, none⟩ = some (.int .i64 ya.room.x5) ∧ w'.cell? ⟨b, 7, none⟩ = some (.int .i64 yb.room.x0) ∧ w'.cell? ⟨b, 8, none⟩ = some (.int .i64 yb.room.x1) ∧ w'.cell? ⟨b, 9, none⟩ = some (.int .i64 yb.room.x2) ∧ w'.cell? ⟨b, 10, none⟩ = some (.int .i64 yb.room.x3) ∧ w'.cell? ⟨b, 11, none⟩ = some (.int .i64 yb.room.x4) ∧ w'.cell? ⟨b, 12, none⟩ = some (.int .i64 yb.room.x5) ∧ w'.cell? ⟨n, 7, none⟩ = some (cellV w' ⟨n, 7, none⟩) ∧ w'.cell? ⟨n, 8, none⟩ = some (cellV w' ⟨n, 8, none⟩) ∧ w'.cell? ⟨n, 9, none⟩ = some (cellV w' ⟨n, 9, none⟩) ∧ w'.cell? ⟨n, 10, none⟩ = some (cellV w' ⟨n, 10, none⟩) ∧ w'.cell? ⟨n, 11, none⟩ = some (cellV w' ⟨n, 11, none⟩) ∧ w'.cell? ⟨n, 12, none⟩ = some (cellV w' ⟨n, 12, none⟩) ∧ (∀ i, w'.frozen? ⟨n, i, none⟩ = false))) (by kernel_rfl) ?_ (fun hHeld1 => ?_)
  · (try dsimp only); exact MS.of ((Only.refl _ _).drew) G0.out.1 G0.out.2.1 G0.out.2.2.1
  refine tkW 0 rfl ?_; refine tkW 1 rfl ?_; refine tkW 2 rfl ?_; refine tkW 3 rfl ?_
  try simp only [Act.put, List.setIfInBounds_toArray, List.set_cons_zero, List.set_cons_succ, List.getElem_toArray, List.getElem_cons_succ, List.getElem_cons_zero]
  refine tkW 4 rfl ?_; refine tkW 5 rfl ?_; refine tkW 6 rfl ?_; refine tkW 7 rfl ?_
  try simp only [Act.put, List.setIfInBounds_toArray, List.set_cons_zero, List.set_cons_succ, List.getElem_toArray, List.getElem_cons_succ, List.getElem_cons_zero]
  refine tkW 8 rfl ?_
  try simp only [Act.put, List.setIfInBounds_toArray, List.set_cons_zero, List.set_cons_succ, List.getElem_toArray, List.getElem_cons_succ, List.getElem_cons_zero]
  refine wpAnyH_ready (rs := [9]) (by kernel_rfl) (by simp) ?_
  refine AllReadyH.cons rfl (fun K hK => ?_) AllReadyH.nil
  first | (with_reducible refine iteYes ?hcx ?htx; case hcx => kernel_rfl) | rw [if_pos (by rfl)]
  simp only [List.getElem_toArray, List.getElem_cons_succ, List.getElem_cons_zero]
  go_simp
  (go_at_call 74; refine (gboth_calls _ _ _ _ _ _ _ _ _ _ _ _ _).mono ?_; rintro e w1 ⟨rfl, k1⟩)
  try go_wp2_with fail
  refine hK.out _ _ ?_ (fun hHeld2 => ?_)
  · (try dsimp only); exact MS.step G0.out.2.1 G0.out.2.2.1 na nb k1 hHeld1
  clear hK K hHeld1
  try simp only [Act.put, List.setIfInBounds_toArray, List.set_cons_zero, List.set_cons_succ, List.getElem_toArray, List.getElem_cons_succ, List.getElem_cons_zero]
  refine tkW 10 rfl ?_; refine tkW 11 rfl ?_
  try simp only [Act.put, List.setIfInBounds_toArray, List.set_cons_zero, List.set_cons_succ, List.getElem_toArray, List.getElem_cons_succ, List.getElem_cons_zero]
  refine wpAnyH_ready (rs := [12]) (by kernel_rfl) (by simp) ?_
  refine AllReadyH.cons rfl (fun K hK => ?_) AllReadyH.nil
  first | (with_reducible refine iteYes ?hcx ?htx; case hcx => kernel_rfl) | rw [if_pos (by rfl)]
  simp only [List.getElem_toArray, List.getElem_cons_succ, List.getElem_cons_zero]
  go_simp
  refine hK.out _ _ ?_ (fun hHeld3 => ?_)
  · (try dsimp only); exact MS.put (k := bothX ya.room yb.room) G0.out.2.1 G0.out.2.2.1 na nb hHeld2
  clear hK K
  try simp only [Act.put, List.setIfInBounds_toArray, List.set_cons_zero, List.set_cons_succ, List.getElem_toArray, List.getElem_cons_succ, List.getElem_cons_zero]
  refine wpAnyH_done (by kernel_rfl) ?_ _
  obtain ⟨o2, ⟨r2, hn2⟩, _⟩ := hHeld2
  have o3 : Only [n] w _ := G0.out.2.2.2.trans hHeld3.1
  have n3 := hn2.putRoom (bothX ya.room yb.room)
  have a3 := hHeld3.1.node (by simp [na]) G0.out.2.1
  have b3' := hHeld3.1.node (by simp [nb]) G0.out.2.2.1
  clear hHeld3 hn2 o2
  have G3 : Hid (Only [n] w _ ∧ NodeAt _ n { x with room := bothX ya.room yb.room } ∧ NodeAt _ a ya ∧ NodeAt _ b yb) := ⟨o3, n3, a3, b3'⟩
  clear o3 n3 a3 b3'
  revert G3
  simp only [bothX]
  generalize World.setCell _ _ _ = w3
  intro G3
  have g1 : 0 ≤ greater ya.high yb.high := by unfold greater; split <;> omega
  have g2 : greater ya.high yb.high ≤ 1000000 := by unfold greater; split <;> omega
  go_wp2_with fail
  refine wp_region_held_drew (S := (fun w' => Only [n] w3 w' ∧ (∃ k, NodeAt w' n { x with room := bothX ya.room yb.room, high := k }) ∧ w'.cell? ⟨a, 13, none⟩ = some (.int .i64 ya.high) ∧ w'.cell? ⟨b, 13, none⟩ = some (.int .i64 yb.high) ∧ w'.cell? ⟨n, 13, none⟩ = some (cellV w' ⟨n, 13, none⟩) ∧ (∀ i, w'.frozen? ⟨n, i, none⟩ = false))) (by kernel_rfl) ?_ (fun hHeld1 => ?_)
  · (try dsimp only); exact ⟨(Only.refl _ _).drew, ⟨_, G3.out.2.1⟩, G3.out.2.2.1.c13, G3.out.2.2.2.c13, cellV_of G3.out.2.1.c13, G3.out.2.1.free⟩
  refine tkW 0 rfl ?_; refine tkW 1 rfl ?_; refine tkW 2 rfl ?_; refine tkW 3 rfl ?_
  try simp only [Act.put, List.setIfInBounds_toArray, List.set_cons_zero, List.set_cons_succ, List.getElem_toArray, List.getElem_cons_succ, List.getElem_cons_zero]
  refine tkW 4 rfl ?_; refine tkW 5 rfl ?_; refine tkW 6 rfl ?_; refine tkW 7 rfl ?_
  try simp only [Act.put, List.setIfInBounds_toArray, List.set_cons_zero, List.set_cons_succ, List.getElem_toArray, List.getElem_cons_succ, List.getElem_cons_zero]
  refine tkW 8 rfl ?_
  try simp only [Act.put, List.setIfInBounds_toArray, List.set_cons_zero, List.set_cons_succ, List.getElem_toArray, List.getElem_cons_succ, List.getElem_cons_zero]
  refine tkW (v := .int .i64 (greater ya.high yb.high)) 9 rfl ?_ (by intro w'' hSw; (try dsimp only at hSw); simp only [List.getElem_toArray, List.getElem_cons_succ, List.getElem_cons_zero]; (go_simp <;> rfl))
  try simp only [Act.put, List.setIfInBounds_toArray, List.set_cons_zero, List.set_cons_succ, List.getElem_toArray, List.getElem_cons_succ, List.getElem_cons_zero]
  refine tkW 10 rfl ?_; refine tkW 11 rfl ?_; refine tkW 12 rfl ?_
  try simp only [Act.put, List.setIfInBounds_toArray, List.set_cons_zero, List.set_cons_succ, List.getElem_toArray, List.getElem_cons_succ, List.getElem_cons_zero]
  refine wpAnyH_ready (rs := [13]) (by kernel_rfl) (by simp) ?_
  refine AllReadyH.cons rfl (fun K hK => ?_) AllReadyH.nil
  first | (with_reducible refine iteYes ?hcx ?htx; case hcx => kernel_rfl) | rw [if_pos (by rfl)]
  simp only [List.getElem_toArray, List.getElem_cons_succ, List.getElem_cons_zero]
  go_simp
  refine hK.out _ _ ?_ (fun hHeld2 => ?_)
  · (try dsimp only); exact ⟨hHeld1.1.setCell (by simp) _, ⟨_, hHeld1.2.1.choose_spec.putHigh _⟩, (World.cell?_setCell_other _ _ _ _ (by simp [na, nb, Ne.symm na, Ne.symm nb])).trans hHeld1.2.2.1, (World.cell?_setCell_other _ _ _ _ (by simp [na, nb, Ne.symm na, Ne.symm nb])).trans hHeld1.2.2.2.1, put_there hHeld1.2.2.2.2.1, fun i => (World.frozen?_setCell _ _ _ _).trans (hHeld1.2.2.2.2.2 i)⟩
  clear hK K
  try simp only [Act.put, List.setIfInBounds_toArray, List.set_cons_zero, List.set_cons_succ, List.getElem_toArray, List.getElem_cons_succ, List.getElem_cons_zero]
  refine wpAnyH_done (by kernel_rfl) ?_ _
  go_wp2
  obtain ⟨_, ⟨k1, m1⟩, _⟩ := hHeld1
  go_end0
  rw [wrap_in (by omega) (by omega)] at hHeld2 ⊢
  exact ⟨rfl, m1.putHigh _, G3.out.1.trans hHeld2.1⟩

theorem join_calls (n a b : Nat) (x ya yb : Nd) (w : World) (na : a ≠ n) (nb : b ≠ n) (ab : a ≠ b) (hn : NodeAt w n x) (ha : NodeAt w a ya) (hb : NodeAt w b yb)
    (b1 : 0 ≤ ya.high) (b2 : ya.high ≤ 1000000) (b3 : 0 ≤ yb.high) (b4 : yb.high ≤ 1000000) :
    Calls Tryz.prog 36 #[.pointer (some ⟨n, 0, none⟩), .pointer (some ⟨a, 0, none⟩), .pointer (some ⟨b, 0, none⟩)] w fun e w' => e = .returned (.tuple #[]) ∧
      NodeAt w' n { x with l := some a, r := some b, room := bothX ya.room yb.room, high := 1 + greater ya.high yb.high } ∧ NodeAt w' a { ya with up := some n } ∧ NodeAt w' b { yb with up := some n } ∧ Only [n, a, b] w w' := by
  have c15 := hn.c15; have c16 := hn.c16; have f1 := hn.free; have c14 := ha.c14; have f2 := ha.free; have d14 := hb.c14; have f3 := hb.free
  have HN : Hid (NodeAt w n x ∧ NodeAt w a ya ∧ NodeAt w b yb) := ⟨hn, ha, hb⟩
  clear hn ha hb
  go_enter Tryz.func36, Tryz.ntmps36
  go_wp2_with fail
  clear c15 c16 f1 c14 f2 d14 f3
  obtain ⟨hn, ha, hb⟩ := HN.out
  have n1 := (((hn.putL (some a)).putR (some b)).far (p := ⟨a, 14, none⟩) (Ne.symm na) (ptr (some n))).far (p := ⟨b, 14, none⟩) (Ne.symm nb) (ptr (some n))
  have a1 := (((ha.far (p := ⟨n, 15, none⟩) na (ptr (some a))).far (p := ⟨n, 16, none⟩) na (ptr (some b))).putUp (some n)).far (p := ⟨b, 14, none⟩) ab (ptr (some n))
  have b1' := (((hb.far (p := ⟨n, 15, none⟩) nb (ptr (some a))).far (p := ⟨n, 16, none⟩) nb (ptr (some b))).far (p := ⟨a, 14, none⟩) (Ne.symm ab) (ptr (some n))).putUp (some n)
  have o1 : Only [n, a, b] w _ := ((((Only.refl [n, a, b] w).setCell (p := ⟨n, 15, none⟩) (by simp) (ptr (some a))).setCell (p := ⟨n, 16, none⟩) (by simp) (ptr (some b))).setCell (p := ⟨a, 14, none⟩) (by simp) (ptr (some n))).setCell (p := ⟨b, 14, none⟩) (by simp) (ptr (some n))
  clear hn ha hb
  have HO : Hid (Only [n, a, b] w _ ∧ _ ∧ _) := ⟨o1, a1, b1'⟩
  refine (measure_calls n a b _ _ _ _ rfl rfl na nb n1 a1 b1' b1 b2 b3 b4).mono ?_
  rintro e w2 ⟨rfl, m2, o2⟩
  clear o1 a1 b1' n1
  have HM : Hid (NodeAt w2 n _ ∧ Only [n] _ w2) := ⟨m2, o2⟩
  clear m2 o2
  go_wp2_with fail
  go_end0
  exact ⟨rfl, HM.out.1, HM.out.2.node (by simp [na]) HO.out.2.1, HM.out.2.node (by simp [nb]) HO.out.2.2, HO.out.1.trans (HM.out.2.mono (by simp))⟩
end Go.Proofs.YtdhbcgdlmkkdfaaGreatDoor
