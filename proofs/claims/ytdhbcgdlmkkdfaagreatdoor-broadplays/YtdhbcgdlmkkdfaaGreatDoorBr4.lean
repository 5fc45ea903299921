/- broad.Tree.level: a joint whose two differ by at most 1 stays; one that differs by more is turned: whatever lies around it. -/
import Derived.Test.YtdhbcgdlmkkdfaaGreatDoorBr3
namespace Go.Proofs.YtdhbcgdlmkkdfaaGreatDoor
open Go.ChangeShapes Go.WideShapes Go.ChangeAt Go.RowKit
set_option linter.unusedSimpArgs false
set_option linter.unusedVariables false


theorem level_stay_l (t n a b : Nat) (x ya yb : Nd) (w : World) (el : x.l = some a) (er : x.r = some b) (hn : NodeAt w n x) (ha : NodeAt w a ya) (hb : NodeAt w b yb)
    (b1 : 0 ≤ ya.high) (b2 : ya.high ≤ 1000000) (b3 : 0 ≤ yb.high) (b4 : yb.high ≤ 1000000) (h1 : ¬ ya.high < yb.high) (h2 : ya.high ≤ yb.high + 1) :
    Calls Tryz.prog 46 #[.pointer (some ⟨t, 0, none⟩), .pointer (some ⟨n, 0, none⟩)] w fun e w' => e = .returned (.pointer (some ⟨n, 0, none⟩)) ∧ Only [] w w' := by
  have c1 := hn.c15; have c2 := hn.c16; rw [el] at c1; rw [er] at c2; simp only [ptr_some] at c1 c2
  have c3 := ha.c13; have c4 := hb.c13
  have t1 : decide (ya.high < yb.high) = false := by simp; omega
  have v1 : IntKind.i64.wrap (yb.high + 1) = yb.high + 1 := wrap_in (by omega) (by omega)
  have t2 : decide (ya.high ≤ yb.high + 1) = true := by simp; omega
  clear hn ha hb el er
  go_enter Tryz.func46, Tryz.ntmps46
  go_wp2_with fail
  go_quiet (fail)
  generalize hw0 : w.drewN nq = w0
  have o0 : Hid (Only [] w w0) := hw0 ▸ Only.drewN w nq
  have c3 : w0.cell? ⟨a, 13, none⟩ = some (.int .i64 ya.high) := hw0 ▸ c3
  have c4 : w0.cell? ⟨b, 13, none⟩ = some (.int .i64 yb.high) := hw0 ▸ c4
  clear hw0 c1 c2
  go_wp2_with fail
  go_quiet (fail)
  generalize hw1 : w0.drewN _ = w1
  have o1 : Hid (Only [] w w1) := hw1 ▸ o0.out.trans (Only.drewN w0 _)
  have c3 : w1.cell? ⟨a, 13, none⟩ = some (.int .i64 ya.high) := hw1 ▸ c3
  have c4 : w1.cell? ⟨b, 13, none⟩ = some (.int .i64 yb.high) := hw1 ▸ c4
  clear hw1 o0
  go_wp2_with fail
  go_quiet (fail)
  generalize hw2 : w1.drewN _ = w2
  have o2 : Hid (Only [] w w2) := hw2 ▸ o1.out.trans (Only.drewN w1 _)
  clear hw2 o1
  go_wp2_with fail
  go_ret
  exact ⟨rfl, o2.out⟩

theorem level_stay_r (t n a b : Nat) (x ya yb : Nd) (w : World) (el : x.l = some a) (er : x.r = some b) (hn : NodeAt w n x) (ha : NodeAt w a ya) (hb : NodeAt w b yb)
    (b1 : 0 ≤ ya.high) (b2 : ya.high ≤ 1000000) (b3 : 0 ≤ yb.high) (b4 : yb.high ≤ 1000000) (h1 : ya.high < yb.high) (h2 : yb.high ≤ ya.high + 1) :
    Calls Tryz.prog 46 #[.pointer (some ⟨t, 0, none⟩), .pointer (some ⟨n, 0, none⟩)] w fun e w' => e = .returned (.pointer (some ⟨n, 0, none⟩)) ∧ Only [] w w' := by
  have c1 := hn.c15; have c2 := hn.c16; rw [el] at c1; rw [er] at c2; simp only [ptr_some] at c1 c2
  have c3 := ha.c13; have c4 := hb.c13
  have t1 : decide (ya.high < yb.high) = true := by simp; omega
  have v1 : IntKind.i64.wrap (ya.high + 1) = ya.high + 1 := wrap_in (by omega) (by omega)
  have t2 : decide (yb.high ≤ ya.high + 1) = true := by simp; omega
  clear hn ha hb el er
  go_enter Tryz.func46, Tryz.ntmps46
  go_wp2_with fail
  go_quiet (fail)
  generalize hw0 : w.drewN nq = w0
  have o0 : Hid (Only [] w w0) := hw0 ▸ Only.drewN w nq
  have c3 : w0.cell? ⟨a, 13, none⟩ = some (.int .i64 ya.high) := hw0 ▸ c3
  have c4 : w0.cell? ⟨b, 13, none⟩ = some (.int .i64 yb.high) := hw0 ▸ c4
  clear hw0 c1 c2
  go_wp2_with fail
  go_quiet (fail)
  generalize hw1 : w0.drewN _ = w1
  have o1 : Hid (Only [] w w1) := hw1 ▸ o0.out.trans (Only.drewN w0 _)
  have c3 : w1.cell? ⟨a, 13, none⟩ = some (.int .i64 ya.high) := hw1 ▸ c3
  have c4 : w1.cell? ⟨b, 13, none⟩ = some (.int .i64 yb.high) := hw1 ▸ c4
  clear hw1 o0
  go_wp2_with fail
  go_quiet (fail)
  generalize hw2 : w1.drewN _ = w2
  have o2 : Hid (Only [] w w2) := hw2 ▸ o1.out.trans (Only.drewN w1 _)
  clear hw2 o1
  go_wp2_with fail
  go_ret
  exact ⟨rfl, o2.out⟩

def rnX (ys yg : Nd) : Bx := bothX ys.room yg.room
def hnX (ys yg : Nd) : Int := 1 + greater ys.high yg.high
theorem hnX_bd {ys yg : Nd} (b1 : 0 ≤ ys.high) (b2 : ys.high ≤ 999) (b3 : 0 ≤ yg.high) (b4 : yg.high ≤ 999) : 0 ≤ hnX ys yg ∧ hnX ys yg ≤ 1000 := by unfold hnX greater; split <;> omega

set_option maxRecDepth 100000 in
set_option maxHeartbeats 4000000 in
theorem level_turn_ll (t n tb sb kb gb : Nat) (x yt ys yk yg : Nd) (fat : Int) (lv : Option Nat) (c : List Fr) (w : World) (el : x.l = some tb) (er : x.r = some sb) (kl : yt.l = some kb) (kr : yt.r = some gb)
    (hu : x.up = upOf c) (nd : (n :: tb :: sb :: kb :: gb :: t :: cblocks c).Nodup)
    (hn : NodeAt w n x) (ht : NodeAt w tb yt) (hs : NodeAt w sb ys) (hk : NodeAt w kb yk) (hg : NodeAt w gb yg) (ha : Arnd w t fat lv c n)
    (b1 : 0 ≤ ys.high) (b2 : ys.high ≤ 999) (b3 : 0 ≤ yk.high) (b4 : yk.high ≤ 999) (b5 : 0 ≤ yg.high) (b6 : yg.high ≤ 999) (h1 : ys.high + 1 < yt.high) (h2 : ¬ yk.high < yg.high) :
    Calls Tryz.prog 46 #[.pointer (some ⟨t, 0, none⟩), .pointer (some ⟨n, 0, none⟩)] w fun e w' => e = .returned (.pointer (some ⟨tb, 0, none⟩)) ∧
      NodeAt w' tb { yt with up := upOf c, l := some n, r := some kb, room := bothX (rnX ys yg) yk.room, high := 1 + greater (hnX ys yg) yk.high } ∧
      NodeAt w' n { x with up := some tb, l := some sb, r := some gb, room := rnX ys yg, high := hnX ys yg } ∧
      NodeAt w' sb { ys with up := some n } ∧ NodeAt w' gb { yg with up := some n } ∧ NodeAt w' kb { yk with up := some tb } ∧ Arnd w' t fat lv c tb ∧ Only [tb, headOf t c, n, sb, gb, kb] w w' := by
  have c1 := hn.c15; have c2 := hn.c16; rw [el] at c1; rw [er] at c2; simp only [ptr_some] at c1 c2
  have c3 := ht.c13; have c4 := hs.c13; have c5 := ht.c15; have c6 := ht.c16; rw [kl] at c5; rw [kr] at c6; simp only [ptr_some] at c5 c6
  have c7 := hk.c13; have c8 := hg.c13
  have t1 : decide (yt.high < ys.high) = false := by simp; omega
  have v1 : IntKind.i64.wrap (ys.high + 1) = ys.high + 1 := wrap_in (by omega) (by omega)
  have t2 : decide (yt.high ≤ ys.high + 1) = false := by simp; omega
  have t3 : decide (yk.high < yg.high) = false := by simp; omega
  have HN : Hid (NodeAt w n x ∧ NodeAt w tb yt ∧ NodeAt w sb ys ∧ NodeAt w kb yk ∧ NodeAt w gb yg ∧ Arnd w t fat lv c n) := ⟨hn, ht, hs, hk, hg, ha⟩
  have HU : Hid (x.up = upOf c ∧ (n :: tb :: sb :: kb :: gb :: t :: cblocks c).Nodup) := ⟨hu, nd⟩
  clear hn ht hs hk hg ha el er kl kr hu nd
  go_enter Tryz.func46, Tryz.ntmps46
  go_wp2_with fail
  go_quiet (fail)
  generalize hw0 : w.drewN nq = w0
  have o0 : Hid (Only [] w w0) := hw0 ▸ Only.drewN w nq
  have c3 : w0.cell? ⟨tb, 13, none⟩ = some (.int .i64 yt.high) := hw0 ▸ c3
  have c4 : w0.cell? ⟨sb, 13, none⟩ = some (.int .i64 ys.high) := hw0 ▸ c4
  have c5 : w0.cell? ⟨tb, 15, none⟩ = some (.pointer (some ⟨kb, 0, none⟩)) := hw0 ▸ c5
  have c6 : w0.cell? ⟨tb, 16, none⟩ = some (.pointer (some ⟨gb, 0, none⟩)) := hw0 ▸ c6
  have c7 : w0.cell? ⟨kb, 13, none⟩ = some (.int .i64 yk.high) := hw0 ▸ c7
  have c8 : w0.cell? ⟨gb, 13, none⟩ = some (.int .i64 yg.high) := hw0 ▸ c8
  clear hw0 c1 c2
  go_wp2_with fail
  go_quiet (fail)
  generalize hw1 : w0.drewN _ = w1
  have o1 : Hid (Only [] w w1) := hw1 ▸ o0.out.trans (Only.drewN w0 _)
  have c3 : w1.cell? ⟨tb, 13, none⟩ = some (.int .i64 yt.high) := hw1 ▸ c3
  have c4 : w1.cell? ⟨sb, 13, none⟩ = some (.int .i64 ys.high) := hw1 ▸ c4
  have c5 : w1.cell? ⟨tb, 15, none⟩ = some (.pointer (some ⟨kb, 0, none⟩)) := hw1 ▸ c5
  have c6 : w1.cell? ⟨tb, 16, none⟩ = some (.pointer (some ⟨gb, 0, none⟩)) := hw1 ▸ c6
  have c7 : w1.cell? ⟨kb, 13, none⟩ = some (.int .i64 yk.high) := hw1 ▸ c7
  have c8 : w1.cell? ⟨gb, 13, none⟩ = some (.int .i64 yg.high) := hw1 ▸ c8
  clear hw1 o0
  go_wp2_with fail
  go_quiet (fail)
  generalize hw2 : w1.drewN _ = w2
  have o2 : Hid (Only [] w w2) := hw2 ▸ o1.out.trans (Only.drewN w1 _)
  have c5 : w2.cell? ⟨tb, 15, none⟩ = some (.pointer (some ⟨kb, 0, none⟩)) := hw2 ▸ c5
  have c6 : w2.cell? ⟨tb, 16, none⟩ = some (.pointer (some ⟨gb, 0, none⟩)) := hw2 ▸ c6
  have c7 : w2.cell? ⟨kb, 13, none⟩ = some (.int .i64 yk.high) := hw2 ▸ c7
  have c8 : w2.cell? ⟨gb, 13, none⟩ = some (.int .i64 yg.high) := hw2 ▸ c8
  clear hw2 o1
  go_wp2_with fail
  go_quiet (fail)
  generalize hw3 : w2.drewN _ = w3
  have o3 : Hid (Only [] w w3) := hw3 ▸ o2.out.trans (Only.drewN w2 _)
  have c7 : w3.cell? ⟨kb, 13, none⟩ = some (.int .i64 yk.high) := hw3 ▸ c7
  have c8 : w3.cell? ⟨gb, 13, none⟩ = some (.int .i64 yg.high) := hw3 ▸ c8
  clear hw3 o2
  go_wp2_with fail
  go_quiet (fail)
  generalize hw4 : w3.drewN _ = w4
  have o4 : Hid (Only [] w w4) := hw4 ▸ o3.out.trans (Only.drewN w3 _)
  clear hw4 o3
  go_wp2_with fail
  obtain ⟨hn, ht, hs, hk, hg, ha⟩ := HN.out
  obtain ⟨hu, nd⟩ := HU.out
  simp only [List.nodup_cons, List.mem_cons, not_or] at nd
  obtain ⟨⟨n1, n2, n3, n4, n5, n6⟩, ⟨n7, n8, n9, n10, n11⟩, ⟨n12, n13, n14, n15⟩, ⟨n16, n17, n18⟩, ⟨n19, n20⟩, n21, n22⟩ := nd
  have hd := headOf_mem t c
  have dn : n ≠ headOf t c := fun e => by rw [← e] at hd; simp only [List.mem_cons] at hd; rcases hd with q | q; exact n5 q; exact n6 q
  have ds : sb ≠ headOf t c := fun e => by rw [← e] at hd; simp only [List.mem_cons] at hd; rcases hd with q | q; exact n14 q; exact n15 q
  have dk : kb ≠ headOf t c := fun e => by rw [← e] at hd; simp only [List.mem_cons] at hd; rcases hd with q | q; exact n17 q; exact n18 q
  have dg : gb ≠ headOf t c := fun e => by rw [← e] at hd; simp only [List.mem_cons] at hd; rcases hd with q | q; exact n19 q; exact n20 q
  have far4 : ∀ b ∈ t :: cblocks c, b ∉ ([n, sb, gb] : List Nat) ∧ b ∉ ([tb, n, kb] : List Nat) := by
    intro b hb
    simp only [List.mem_cons] at hb
    simp only [List.mem_cons, List.not_mem_nil, or_false, not_or]
    rcases hb with rfl | hb
    · exact ⟨⟨Ne.symm n5, Ne.symm n14, Ne.symm n19⟩, Ne.symm n10, Ne.symm n5, Ne.symm n17⟩
    · exact ⟨⟨fun e => n6 (e ▸ hb), fun e => n15 (e ▸ hb), fun e => n20 (e ▸ hb)⟩, fun e => n11 (e ▸ hb), fun e => n6 (e ▸ hb), fun e => n18 (e ▸ hb)⟩
  refine (replace_calls t n tb x yt fat lv c w4 (Ne.symm n1) (by simp [n10, n11]) (by simp [n5, n6]) (by simp [n21, n22]) (o4.out.node (by simp) hn) hu (o4.out.node (by simp) ht) (ha.only o4.out (by simp))).mono ?_
  rintro e w5 ⟨rfl, ht5, ha5, o5⟩
  have hn5 := o5.node (by simp [n1, dn]) (o4.out.node (by simp) hn)
  have hs5 := o5.node (by simp [Ne.symm n7, ds]) (o4.out.node (by simp) hs)
  have hk5 := o5.node (by simp [Ne.symm n8, dk]) (o4.out.node (by simp) hk)
  have hg5 := o5.node (by simp [Ne.symm n9, dg]) (o4.out.node (by simp) hg)
  have H5 : Hid (NodeAt w5 tb { yt with up := upOf c } ∧ Arnd w5 t fat lv c tb ∧ NodeAt w5 n x ∧ NodeAt w5 sb ys ∧ NodeAt w5 kb yk ∧ NodeAt w5 gb yg ∧ Only [tb, headOf t c] w w5) := ⟨ht5, ha5, hn5, hs5, hk5, hg5, (o4.out.mono (by simp)).trans o5⟩
  clear ht5 ha5 hn5 hs5 hk5 hg5 o5 o4 hn ht hs hk hg ha HN
  go_wp2_with fail
  obtain ⟨ht5, ha5, hn5, hs5, hk5, hg5, o5⟩ := H5.out
  refine (join_calls n sb gb x ys yg w5 (Ne.symm n2) (Ne.symm n4) n13 hn5 hs5 hg5 b1 (by omega) b5 (by omega)).mono ?_
  rintro e w6 ⟨rfl, hn6, hs6, hg6, o6⟩
  have ht6 := o6.node (by simp [Ne.symm n1, n7, n9]) ht5
  have hk6 := o6.node (by simp [Ne.symm n3, Ne.symm n12, n16]) hk5
  have ha6 := ha5.only o6 (fun b hb => (far4 b hb).1)
  have H6 : Hid (NodeAt w6 tb _ ∧ Arnd w6 t fat lv c tb ∧ NodeAt w6 n _ ∧ NodeAt w6 sb _ ∧ NodeAt w6 kb yk ∧ NodeAt w6 gb _ ∧ Only [tb, headOf t c, n, sb, gb] w w6) := ⟨ht6, ha6, hn6, hs6, hk6, hg6, (o5.mono (by simp)).trans (o6.mono (by simp))⟩
  clear ht5 ha5 hn5 hs5 hk5 hg5 o5 H5 ht6 ha6 hn6 hs6 hk6 hg6 o6
  go_wp2_with fail
  obtain ⟨ht6, ha6, hn6, hs6, hk6, hg6, o6⟩ := H6.out
  have hb := hnX_bd b1 b2 b5 b6
  refine (join_calls tb n kb _ _ yk w6 n1 (Ne.symm n8) n3 ht6 hn6 hk6 (show 0 ≤ hnX ys yg from hb.1) (show hnX ys yg ≤ 1000000 by omega) b3 (by omega)).mono ?_
  rintro e w7 ⟨rfl, ht7, hn7, hk7, o7⟩
  have hs7 := o7.node (by simp [Ne.symm n2, Ne.symm n7, n12]) hs6
  have hg7 := o7.node (by simp [Ne.symm n4, Ne.symm n9, Ne.symm n16]) hg6
  have ha7 := ha6.only o7 (fun b hb => (far4 b hb).2)
  have H7 : Hid (NodeAt w7 tb _ ∧ NodeAt w7 n _ ∧ NodeAt w7 sb _ ∧ NodeAt w7 gb _ ∧ NodeAt w7 kb _ ∧ Arnd w7 t fat lv c tb ∧ Only [tb, headOf t c, n, sb, gb, kb] w w7) := ⟨ht7, hn7, hs7, hg7, hk7, ha7, (o6.mono (by simp)).trans (o7.mono (by simp))⟩
  clear ht6 ha6 hn6 hs6 hk6 hg6 o6 H6 ht7 ha7 hn7 hs7 hk7 hg7 o7
  go_wp2_with fail
  go_ret
  exact ⟨rfl, H7.out⟩

set_option maxRecDepth 100000 in
set_option maxHeartbeats 4000000 in
theorem level_turn_lr (t n tb sb kb gb : Nat) (x yt ys yk yg : Nd) (fat : Int) (lv : Option Nat) (c : List Fr) (w : World) (el : x.l = some tb) (er : x.r = some sb) (kl : yt.l = some gb) (kr : yt.r = some kb)
    (hu : x.up = upOf c) (nd : (n :: tb :: sb :: kb :: gb :: t :: cblocks c).Nodup)
    (hn : NodeAt w n x) (ht : NodeAt w tb yt) (hs : NodeAt w sb ys) (hk : NodeAt w kb yk) (hg : NodeAt w gb yg) (ha : Arnd w t fat lv c n)
    (b1 : 0 ≤ ys.high) (b2 : ys.high ≤ 999) (b3 : 0 ≤ yk.high) (b4 : yk.high ≤ 999) (b5 : 0 ≤ yg.high) (b6 : yg.high ≤ 999) (h1 : ys.high + 1 < yt.high) (h2 : yg.high < yk.high) :
    Calls Tryz.prog 46 #[.pointer (some ⟨t, 0, none⟩), .pointer (some ⟨n, 0, none⟩)] w fun e w' => e = .returned (.pointer (some ⟨tb, 0, none⟩)) ∧
      NodeAt w' tb { yt with up := upOf c, l := some n, r := some kb, room := bothX (rnX ys yg) yk.room, high := 1 + greater (hnX ys yg) yk.high } ∧
      NodeAt w' n { x with up := some tb, l := some sb, r := some gb, room := rnX ys yg, high := hnX ys yg } ∧
      NodeAt w' sb { ys with up := some n } ∧ NodeAt w' gb { yg with up := some n } ∧ NodeAt w' kb { yk with up := some tb } ∧ Arnd w' t fat lv c tb ∧ Only [tb, headOf t c, n, sb, gb, kb] w w' := by
  have c1 := hn.c15; have c2 := hn.c16; rw [el] at c1; rw [er] at c2; simp only [ptr_some] at c1 c2
  have c3 := ht.c13; have c4 := hs.c13; have c5 := ht.c15; have c6 := ht.c16; rw [kl] at c5; rw [kr] at c6; simp only [ptr_some] at c5 c6
  have c7 := hk.c13; have c8 := hg.c13
  have t1 : decide (yt.high < ys.high) = false := by simp; omega
  have v1 : IntKind.i64.wrap (ys.high + 1) = ys.high + 1 := wrap_in (by omega) (by omega)
  have t2 : decide (yt.high ≤ ys.high + 1) = false := by simp; omega
  have t3 : decide (yg.high < yk.high) = true := by simp; omega
  have HN : Hid (NodeAt w n x ∧ NodeAt w tb yt ∧ NodeAt w sb ys ∧ NodeAt w kb yk ∧ NodeAt w gb yg ∧ Arnd w t fat lv c n) := ⟨hn, ht, hs, hk, hg, ha⟩
  have HU : Hid (x.up = upOf c ∧ (n :: tb :: sb :: kb :: gb :: t :: cblocks c).Nodup) := ⟨hu, nd⟩
  clear hn ht hs hk hg ha el er kl kr hu nd
  go_enter Tryz.func46, Tryz.ntmps46
  go_wp2_with fail
  go_quiet (fail)
  generalize hw0 : w.drewN nq = w0
  have o0 : Hid (Only [] w w0) := hw0 ▸ Only.drewN w nq
  have c3 : w0.cell? ⟨tb, 13, none⟩ = some (.int .i64 yt.high) := hw0 ▸ c3
  have c4 : w0.cell? ⟨sb, 13, none⟩ = some (.int .i64 ys.high) := hw0 ▸ c4
  have c5 : w0.cell? ⟨tb, 15, none⟩ = some (.pointer (some ⟨gb, 0, none⟩)) := hw0 ▸ c5
  have c6 : w0.cell? ⟨tb, 16, none⟩ = some (.pointer (some ⟨kb, 0, none⟩)) := hw0 ▸ c6
  have c7 : w0.cell? ⟨kb, 13, none⟩ = some (.int .i64 yk.high) := hw0 ▸ c7
  have c8 : w0.cell? ⟨gb, 13, none⟩ = some (.int .i64 yg.high) := hw0 ▸ c8
  clear hw0 c1 c2
  go_wp2_with fail
  go_quiet (fail)
  generalize hw1 : w0.drewN _ = w1
  have o1 : Hid (Only [] w w1) := hw1 ▸ o0.out.trans (Only.drewN w0 _)
  have c3 : w1.cell? ⟨tb, 13, none⟩ = some (.int .i64 yt.high) := hw1 ▸ c3
  have c4 : w1.cell? ⟨sb, 13, none⟩ = some (.int .i64 ys.high) := hw1 ▸ c4
  have c5 : w1.cell? ⟨tb, 15, none⟩ = some (.pointer (some ⟨gb, 0, none⟩)) := hw1 ▸ c5
  have c6 : w1.cell? ⟨tb, 16, none⟩ = some (.pointer (some ⟨kb, 0, none⟩)) := hw1 ▸ c6
  have c7 : w1.cell? ⟨kb, 13, none⟩ = some (.int .i64 yk.high) := hw1 ▸ c7
  have c8 : w1.cell? ⟨gb, 13, none⟩ = some (.int .i64 yg.high) := hw1 ▸ c8
  clear hw1 o0
  go_wp2_with fail
  go_quiet (fail)
  generalize hw2 : w1.drewN _ = w2
  have o2 : Hid (Only [] w w2) := hw2 ▸ o1.out.trans (Only.drewN w1 _)
  have c5 : w2.cell? ⟨tb, 15, none⟩ = some (.pointer (some ⟨gb, 0, none⟩)) := hw2 ▸ c5
  have c6 : w2.cell? ⟨tb, 16, none⟩ = some (.pointer (some ⟨kb, 0, none⟩)) := hw2 ▸ c6
  have c7 : w2.cell? ⟨kb, 13, none⟩ = some (.int .i64 yk.high) := hw2 ▸ c7
  have c8 : w2.cell? ⟨gb, 13, none⟩ = some (.int .i64 yg.high) := hw2 ▸ c8
  clear hw2 o1
  go_wp2_with fail
  go_quiet (fail)
  generalize hw3 : w2.drewN _ = w3
  have o3 : Hid (Only [] w w3) := hw3 ▸ o2.out.trans (Only.drewN w2 _)
  have c7 : w3.cell? ⟨kb, 13, none⟩ = some (.int .i64 yk.high) := hw3 ▸ c7
  have c8 : w3.cell? ⟨gb, 13, none⟩ = some (.int .i64 yg.high) := hw3 ▸ c8
  clear hw3 o2
  go_wp2_with fail
  go_quiet (fail)
  generalize hw4 : w3.drewN _ = w4
  have o4 : Hid (Only [] w w4) := hw4 ▸ o3.out.trans (Only.drewN w3 _)
  clear hw4 o3
  go_wp2_with fail
  obtain ⟨hn, ht, hs, hk, hg, ha⟩ := HN.out
  obtain ⟨hu, nd⟩ := HU.out
  simp only [List.nodup_cons, List.mem_cons, not_or] at nd
  obtain ⟨⟨n1, n2, n3, n4, n5, n6⟩, ⟨n7, n8, n9, n10, n11⟩, ⟨n12, n13, n14, n15⟩, ⟨n16, n17, n18⟩, ⟨n19, n20⟩, n21, n22⟩ := nd
  have hd := headOf_mem t c
  have dn : n ≠ headOf t c := fun e => by rw [← e] at hd; simp only [List.mem_cons] at hd; rcases hd with q | q; exact n5 q; exact n6 q
  have ds : sb ≠ headOf t c := fun e => by rw [← e] at hd; simp only [List.mem_cons] at hd; rcases hd with q | q; exact n14 q; exact n15 q
  have dk : kb ≠ headOf t c := fun e => by rw [← e] at hd; simp only [List.mem_cons] at hd; rcases hd with q | q; exact n17 q; exact n18 q
  have dg : gb ≠ headOf t c := fun e => by rw [← e] at hd; simp only [List.mem_cons] at hd; rcases hd with q | q; exact n19 q; exact n20 q
  have far4 : ∀ b ∈ t :: cblocks c, b ∉ ([n, sb, gb] : List Nat) ∧ b ∉ ([tb, n, kb] : List Nat) := by
    intro b hb
    simp only [List.mem_cons] at hb
    simp only [List.mem_cons, List.not_mem_nil, or_false, not_or]
    rcases hb with rfl | hb
    · exact ⟨⟨Ne.symm n5, Ne.symm n14, Ne.symm n19⟩, Ne.symm n10, Ne.symm n5, Ne.symm n17⟩
    · exact ⟨⟨fun e => n6 (e ▸ hb), fun e => n15 (e ▸ hb), fun e => n20 (e ▸ hb)⟩, fun e => n11 (e ▸ hb), fun e => n6 (e ▸ hb), fun e => n18 (e ▸ hb)⟩
  refine (replace_calls t n tb x yt fat lv c w4 (Ne.symm n1) (by simp [n10, n11]) (by simp [n5, n6]) (by simp [n21, n22]) (o4.out.node (by simp) hn) hu (o4.out.node (by simp) ht) (ha.only o4.out (by simp))).mono ?_
  rintro e w5 ⟨rfl, ht5, ha5, o5⟩
  have hn5 := o5.node (by simp [n1, dn]) (o4.out.node (by simp) hn)
  have hs5 := o5.node (by simp [Ne.symm n7, ds]) (o4.out.node (by simp) hs)
  have hk5 := o5.node (by simp [Ne.symm n8, dk]) (o4.out.node (by simp) hk)
  have hg5 := o5.node (by simp [Ne.symm n9, dg]) (o4.out.node (by simp) hg)
  have H5 : Hid (NodeAt w5 tb { yt with up := upOf c } ∧ Arnd w5 t fat lv c tb ∧ NodeAt w5 n x ∧ NodeAt w5 sb ys ∧ NodeAt w5 kb yk ∧ NodeAt w5 gb yg ∧ Only [tb, headOf t c] w w5) := ⟨ht5, ha5, hn5, hs5, hk5, hg5, (o4.out.mono (by simp)).trans o5⟩
  clear ht5 ha5 hn5 hs5 hk5 hg5 o5 o4 hn ht hs hk hg ha HN
  go_wp2_with fail
  obtain ⟨ht5, ha5, hn5, hs5, hk5, hg5, o5⟩ := H5.out
  refine (join_calls n sb gb x ys yg w5 (Ne.symm n2) (Ne.symm n4) n13 hn5 hs5 hg5 b1 (by omega) b5 (by omega)).mono ?_
  rintro e w6 ⟨rfl, hn6, hs6, hg6, o6⟩
  have ht6 := o6.node (by simp [Ne.symm n1, n7, n9]) ht5
  have hk6 := o6.node (by simp [Ne.symm n3, Ne.symm n12, n16]) hk5
  have ha6 := ha5.only o6 (fun b hb => (far4 b hb).1)
  have H6 : Hid (NodeAt w6 tb _ ∧ Arnd w6 t fat lv c tb ∧ NodeAt w6 n _ ∧ NodeAt w6 sb _ ∧ NodeAt w6 kb yk ∧ NodeAt w6 gb _ ∧ Only [tb, headOf t c, n, sb, gb] w w6) := ⟨ht6, ha6, hn6, hs6, hk6, hg6, (o5.mono (by simp)).trans (o6.mono (by simp))⟩
  clear ht5 ha5 hn5 hs5 hk5 hg5 o5 H5 ht6 ha6 hn6 hs6 hk6 hg6 o6
  go_wp2_with fail
  obtain ⟨ht6, ha6, hn6, hs6, hk6, hg6, o6⟩ := H6.out
  have hb := hnX_bd b1 b2 b5 b6
  refine (join_calls tb n kb _ _ yk w6 n1 (Ne.symm n8) n3 ht6 hn6 hk6 (show 0 ≤ hnX ys yg from hb.1) (show hnX ys yg ≤ 1000000 by omega) b3 (by omega)).mono ?_
  rintro e w7 ⟨rfl, ht7, hn7, hk7, o7⟩
  have hs7 := o7.node (by simp [Ne.symm n2, Ne.symm n7, n12]) hs6
  have hg7 := o7.node (by simp [Ne.symm n4, Ne.symm n9, Ne.symm n16]) hg6
  have ha7 := ha6.only o7 (fun b hb => (far4 b hb).2)
  have H7 : Hid (NodeAt w7 tb _ ∧ NodeAt w7 n _ ∧ NodeAt w7 sb _ ∧ NodeAt w7 gb _ ∧ NodeAt w7 kb _ ∧ Arnd w7 t fat lv c tb ∧ Only [tb, headOf t c, n, sb, gb, kb] w w7) := ⟨ht7, hn7, hs7, hg7, hk7, ha7, (o6.mono (by simp)).trans (o7.mono (by simp))⟩
  clear ht6 ha6 hn6 hs6 hk6 hg6 o6 H6 ht7 ha7 hn7 hs7 hk7 hg7 o7
  go_wp2_with fail
  go_ret
  exact ⟨rfl, H7.out⟩

set_option maxRecDepth 100000 in
set_option maxHeartbeats 4000000 in
theorem level_turn_rl (t n tb sb kb gb : Nat) (x yt ys yk yg : Nd) (fat : Int) (lv : Option Nat) (c : List Fr) (w : World) (el : x.l = some sb) (er : x.r = some tb) (kl : yt.l = some kb) (kr : yt.r = some gb)
    (hu : x.up = upOf c) (nd : (n :: tb :: sb :: kb :: gb :: t :: cblocks c).Nodup)
    (hn : NodeAt w n x) (ht : NodeAt w tb yt) (hs : NodeAt w sb ys) (hk : NodeAt w kb yk) (hg : NodeAt w gb yg) (ha : Arnd w t fat lv c n)
    (b1 : 0 ≤ ys.high) (b2 : ys.high ≤ 999) (b3 : 0 ≤ yk.high) (b4 : yk.high ≤ 999) (b5 : 0 ≤ yg.high) (b6 : yg.high ≤ 999) (h1 : ys.high + 1 < yt.high) (h2 : ¬ yk.high < yg.high) :
    Calls Tryz.prog 46 #[.pointer (some ⟨t, 0, none⟩), .pointer (some ⟨n, 0, none⟩)] w fun e w' => e = .returned (.pointer (some ⟨tb, 0, none⟩)) ∧
      NodeAt w' tb { yt with up := upOf c, l := some n, r := some kb, room := bothX (rnX ys yg) yk.room, high := 1 + greater (hnX ys yg) yk.high } ∧
      NodeAt w' n { x with up := some tb, l := some sb, r := some gb, room := rnX ys yg, high := hnX ys yg } ∧
      NodeAt w' sb { ys with up := some n } ∧ NodeAt w' gb { yg with up := some n } ∧ NodeAt w' kb { yk with up := some tb } ∧ Arnd w' t fat lv c tb ∧ Only [tb, headOf t c, n, sb, gb, kb] w w' := by
  have c1 := hn.c15; have c2 := hn.c16; rw [el] at c1; rw [er] at c2; simp only [ptr_some] at c1 c2
  have c3 := ht.c13; have c4 := hs.c13; have c5 := ht.c15; have c6 := ht.c16; rw [kl] at c5; rw [kr] at c6; simp only [ptr_some] at c5 c6
  have c7 := hk.c13; have c8 := hg.c13
  have t1 : decide (ys.high < yt.high) = true := by simp; omega
  have v1 : IntKind.i64.wrap (ys.high + 1) = ys.high + 1 := wrap_in (by omega) (by omega)
  have t2 : decide (yt.high ≤ ys.high + 1) = false := by simp; omega
  have t3 : decide (yk.high < yg.high) = false := by simp; omega
  have HN : Hid (NodeAt w n x ∧ NodeAt w tb yt ∧ NodeAt w sb ys ∧ NodeAt w kb yk ∧ NodeAt w gb yg ∧ Arnd w t fat lv c n) := ⟨hn, ht, hs, hk, hg, ha⟩
  have HU : Hid (x.up = upOf c ∧ (n :: tb :: sb :: kb :: gb :: t :: cblocks c).Nodup) := ⟨hu, nd⟩
  clear hn ht hs hk hg ha el er kl kr hu nd
  go_enter Tryz.func46, Tryz.ntmps46
  go_wp2_with fail
  go_quiet (fail)
  generalize hw0 : w.drewN nq = w0
  have o0 : Hid (Only [] w w0) := hw0 ▸ Only.drewN w nq
  have c3 : w0.cell? ⟨tb, 13, none⟩ = some (.int .i64 yt.high) := hw0 ▸ c3
  have c4 : w0.cell? ⟨sb, 13, none⟩ = some (.int .i64 ys.high) := hw0 ▸ c4
  have c5 : w0.cell? ⟨tb, 15, none⟩ = some (.pointer (some ⟨kb, 0, none⟩)) := hw0 ▸ c5
  have c6 : w0.cell? ⟨tb, 16, none⟩ = some (.pointer (some ⟨gb, 0, none⟩)) := hw0 ▸ c6
  have c7 : w0.cell? ⟨kb, 13, none⟩ = some (.int .i64 yk.high) := hw0 ▸ c7
  have c8 : w0.cell? ⟨gb, 13, none⟩ = some (.int .i64 yg.high) := hw0 ▸ c8
  clear hw0 c1 c2
  go_wp2_with fail
  go_quiet (fail)
  generalize hw1 : w0.drewN _ = w1
  have o1 : Hid (Only [] w w1) := hw1 ▸ o0.out.trans (Only.drewN w0 _)
  have c3 : w1.cell? ⟨tb, 13, none⟩ = some (.int .i64 yt.high) := hw1 ▸ c3
  have c4 : w1.cell? ⟨sb, 13, none⟩ = some (.int .i64 ys.high) := hw1 ▸ c4
  have c5 : w1.cell? ⟨tb, 15, none⟩ = some (.pointer (some ⟨kb, 0, none⟩)) := hw1 ▸ c5
  have c6 : w1.cell? ⟨tb, 16, none⟩ = some (.pointer (some ⟨gb, 0, none⟩)) := hw1 ▸ c6
  have c7 : w1.cell? ⟨kb, 13, none⟩ = some (.int .i64 yk.high) := hw1 ▸ c7
  have c8 : w1.cell? ⟨gb, 13, none⟩ = some (.int .i64 yg.high) := hw1 ▸ c8
  clear hw1 o0
  go_wp2_with fail
  go_quiet (fail)
  generalize hw2 : w1.drewN _ = w2
  have o2 : Hid (Only [] w w2) := hw2 ▸ o1.out.trans (Only.drewN w1 _)
  have c5 : w2.cell? ⟨tb, 15, none⟩ = some (.pointer (some ⟨kb, 0, none⟩)) := hw2 ▸ c5
  have c6 : w2.cell? ⟨tb, 16, none⟩ = some (.pointer (some ⟨gb, 0, none⟩)) := hw2 ▸ c6
  have c7 : w2.cell? ⟨kb, 13, none⟩ = some (.int .i64 yk.high) := hw2 ▸ c7
  have c8 : w2.cell? ⟨gb, 13, none⟩ = some (.int .i64 yg.high) := hw2 ▸ c8
  clear hw2 o1
  go_wp2_with fail
  go_quiet (fail)
  generalize hw3 : w2.drewN _ = w3
  have o3 : Hid (Only [] w w3) := hw3 ▸ o2.out.trans (Only.drewN w2 _)
  have c7 : w3.cell? ⟨kb, 13, none⟩ = some (.int .i64 yk.high) := hw3 ▸ c7
  have c8 : w3.cell? ⟨gb, 13, none⟩ = some (.int .i64 yg.high) := hw3 ▸ c8
  clear hw3 o2
  go_wp2_with fail
  go_quiet (fail)
  generalize hw4 : w3.drewN _ = w4
  have o4 : Hid (Only [] w w4) := hw4 ▸ o3.out.trans (Only.drewN w3 _)
  clear hw4 o3
  go_wp2_with fail
  obtain ⟨hn, ht, hs, hk, hg, ha⟩ := HN.out
  obtain ⟨hu, nd⟩ := HU.out
  simp only [List.nodup_cons, List.mem_cons, not_or] at nd
  obtain ⟨⟨n1, n2, n3, n4, n5, n6⟩, ⟨n7, n8, n9, n10, n11⟩, ⟨n12, n13, n14, n15⟩, ⟨n16, n17, n18⟩, ⟨n19, n20⟩, n21, n22⟩ := nd
  have hd := headOf_mem t c
  have dn : n ≠ headOf t c := fun e => by rw [← e] at hd; simp only [List.mem_cons] at hd; rcases hd with q | q; exact n5 q; exact n6 q
  have ds : sb ≠ headOf t c := fun e => by rw [← e] at hd; simp only [List.mem_cons] at hd; rcases hd with q | q; exact n14 q; exact n15 q
  have dk : kb ≠ headOf t c := fun e => by rw [← e] at hd; simp only [List.mem_cons] at hd; rcases hd with q | q; exact n17 q; exact n18 q
  have dg : gb ≠ headOf t c := fun e => by rw [← e] at hd; simp only [List.mem_cons] at hd; rcases hd with q | q; exact n19 q; exact n20 q
  have far4 : ∀ b ∈ t :: cblocks c, b ∉ ([n, sb, gb] : List Nat) ∧ b ∉ ([tb, n, kb] : List Nat) := by
    intro b hb
    simp only [List.mem_cons] at hb
    simp only [List.mem_cons, List.not_mem_nil, or_false, not_or]
    rcases hb with rfl | hb
    · exact ⟨⟨Ne.symm n5, Ne.symm n14, Ne.symm n19⟩, Ne.symm n10, Ne.symm n5, Ne.symm n17⟩
    · exact ⟨⟨fun e => n6 (e ▸ hb), fun e => n15 (e ▸ hb), fun e => n20 (e ▸ hb)⟩, fun e => n11 (e ▸ hb), fun e => n6 (e ▸ hb), fun e => n18 (e ▸ hb)⟩
  refine (replace_calls t n tb x yt fat lv c w4 (Ne.symm n1) (by simp [n10, n11]) (by simp [n5, n6]) (by simp [n21, n22]) (o4.out.node (by simp) hn) hu (o4.out.node (by simp) ht) (ha.only o4.out (by simp))).mono ?_
  rintro e w5 ⟨rfl, ht5, ha5, o5⟩
  have hn5 := o5.node (by simp [n1, dn]) (o4.out.node (by simp) hn)
  have hs5 := o5.node (by simp [Ne.symm n7, ds]) (o4.out.node (by simp) hs)
  have hk5 := o5.node (by simp [Ne.symm n8, dk]) (o4.out.node (by simp) hk)
  have hg5 := o5.node (by simp [Ne.symm n9, dg]) (o4.out.node (by simp) hg)
  have H5 : Hid (NodeAt w5 tb { yt with up := upOf c } ∧ Arnd w5 t fat lv c tb ∧ NodeAt w5 n x ∧ NodeAt w5 sb ys ∧ NodeAt w5 kb yk ∧ NodeAt w5 gb yg ∧ Only [tb, headOf t c] w w5) := ⟨ht5, ha5, hn5, hs5, hk5, hg5, (o4.out.mono (by simp)).trans o5⟩
  clear ht5 ha5 hn5 hs5 hk5 hg5 o5 o4 hn ht hs hk hg ha HN
  go_wp2_with fail
  obtain ⟨ht5, ha5, hn5, hs5, hk5, hg5, o5⟩ := H5.out
  refine (join_calls n sb gb x ys yg w5 (Ne.symm n2) (Ne.symm n4) n13 hn5 hs5 hg5 b1 (by omega) b5 (by omega)).mono ?_
  rintro e w6 ⟨rfl, hn6, hs6, hg6, o6⟩
  have ht6 := o6.node (by simp [Ne.symm n1, n7, n9]) ht5
  have hk6 := o6.node (by simp [Ne.symm n3, Ne.symm n12, n16]) hk5
  have ha6 := ha5.only o6 (fun b hb => (far4 b hb).1)
  have H6 : Hid (NodeAt w6 tb _ ∧ Arnd w6 t fat lv c tb ∧ NodeAt w6 n _ ∧ NodeAt w6 sb _ ∧ NodeAt w6 kb yk ∧ NodeAt w6 gb _ ∧ Only [tb, headOf t c, n, sb, gb] w w6) := ⟨ht6, ha6, hn6, hs6, hk6, hg6, (o5.mono (by simp)).trans (o6.mono (by simp))⟩
  clear ht5 ha5 hn5 hs5 hk5 hg5 o5 H5 ht6 ha6 hn6 hs6 hk6 hg6 o6
  go_wp2_with fail
  obtain ⟨ht6, ha6, hn6, hs6, hk6, hg6, o6⟩ := H6.out
  have hb := hnX_bd b1 b2 b5 b6
  refine (join_calls tb n kb _ _ yk w6 n1 (Ne.symm n8) n3 ht6 hn6 hk6 (show 0 ≤ hnX ys yg from hb.1) (show hnX ys yg ≤ 1000000 by omega) b3 (by omega)).mono ?_
  rintro e w7 ⟨rfl, ht7, hn7, hk7, o7⟩
  have hs7 := o7.node (by simp [Ne.symm n2, Ne.symm n7, n12]) hs6
  have hg7 := o7.node (by simp [Ne.symm n4, Ne.symm n9, Ne.symm n16]) hg6
  have ha7 := ha6.only o7 (fun b hb => (far4 b hb).2)
  have H7 : Hid (NodeAt w7 tb _ ∧ NodeAt w7 n _ ∧ NodeAt w7 sb _ ∧ NodeAt w7 gb _ ∧ NodeAt w7 kb _ ∧ Arnd w7 t fat lv c tb ∧ Only [tb, headOf t c, n, sb, gb, kb] w w7) := ⟨ht7, hn7, hs7, hg7, hk7, ha7, (o6.mono (by simp)).trans (o7.mono (by simp))⟩
  clear ht6 ha6 hn6 hs6 hk6 hg6 o6 H6 ht7 ha7 hn7 hs7 hk7 hg7 o7
  go_wp2_with fail
  go_ret
  exact ⟨rfl, H7.out⟩

set_option maxRecDepth 100000 in
set_option maxHeartbeats 4000000 in
theorem level_turn_rr (t n tb sb kb gb : Nat) (x yt ys yk yg : Nd) (fat : Int) (lv : Option Nat) (c : List Fr) (w : World) (el : x.l = some sb) (er : x.r = some tb) (kl : yt.l = some gb) (kr : yt.r = some kb)
    (hu : x.up = upOf c) (nd : (n :: tb :: sb :: kb :: gb :: t :: cblocks c).Nodup)
    (hn : NodeAt w n x) (ht : NodeAt w tb yt) (hs : NodeAt w sb ys) (hk : NodeAt w kb yk) (hg : NodeAt w gb yg) (ha : Arnd w t fat lv c n)
    (b1 : 0 ≤ ys.high) (b2 : ys.high ≤ 999) (b3 : 0 ≤ yk.high) (b4 : yk.high ≤ 999) (b5 : 0 ≤ yg.high) (b6 : yg.high ≤ 999) (h1 : ys.high + 1 < yt.high) (h2 : yg.high < yk.high) :
    Calls Tryz.prog 46 #[.pointer (some ⟨t, 0, none⟩), .pointer (some ⟨n, 0, none⟩)] w fun e w' => e = .returned (.pointer (some ⟨tb, 0, none⟩)) ∧
      NodeAt w' tb { yt with up := upOf c, l := some n, r := some kb, room := bothX (rnX ys yg) yk.room, high := 1 + greater (hnX ys yg) yk.high } ∧
      NodeAt w' n { x with up := some tb, l := some sb, r := some gb, room := rnX ys yg, high := hnX ys yg } ∧
      NodeAt w' sb { ys with up := some n } ∧ NodeAt w' gb { yg with up := some n } ∧ NodeAt w' kb { yk with up := some tb } ∧ Arnd w' t fat lv c tb ∧ Only [tb, headOf t c, n, sb, gb, kb] w w' := by
  have c1 := hn.c15; have c2 := hn.c16; rw [el] at c1; rw [er] at c2; simp only [ptr_some] at c1 c2
  have c3 := ht.c13; have c4 := hs.c13; have c5 := ht.c15; have c6 := ht.c16; rw [kl] at c5; rw [kr] at c6; simp only [ptr_some] at c5 c6
  have c7 := hk.c13; have c8 := hg.c13
  have t1 : decide (ys.high < yt.high) = true := by simp; omega
  have v1 : IntKind.i64.wrap (ys.high + 1) = ys.high + 1 := wrap_in (by omega) (by omega)
  have t2 : decide (yt.high ≤ ys.high + 1) = false := by simp; omega
  have t3 : decide (yg.high < yk.high) = true := by simp; omega
  have HN : Hid (NodeAt w n x ∧ NodeAt w tb yt ∧ NodeAt w sb ys ∧ NodeAt w kb yk ∧ NodeAt w gb yg ∧ Arnd w t fat lv c n) := ⟨hn, ht, hs, hk, hg, ha⟩
  have HU : Hid (x.up = upOf c ∧ (n :: tb :: sb :: kb :: gb :: t :: cblocks c).Nodup) := ⟨hu, nd⟩
  clear hn ht hs hk hg ha el er kl kr hu nd
  go_enter Tryz.func46, Tryz.ntmps46
  go_wp2_with fail
  go_quiet (fail)
  generalize hw0 : w.drewN nq = w0
  have o0 : Hid (Only [] w w0) := hw0 ▸ Only.drewN w nq
  have c3 : w0.cell? ⟨tb, 13, none⟩ = some (.int .i64 yt.high) := hw0 ▸ c3
  have c4 : w0.cell? ⟨sb, 13, none⟩ = some (.int .i64 ys.high) := hw0 ▸ c4
  have c5 : w0.cell? ⟨tb, 15, none⟩ = some (.pointer (some ⟨gb, 0, none⟩)) := hw0 ▸ c5
  have c6 : w0.cell? ⟨tb, 16, none⟩ = some (.pointer (some ⟨kb, 0, none⟩)) := hw0 ▸ c6
  have c7 : w0.cell? ⟨kb, 13, none⟩ = some (.int .i64 yk.high) := hw0 ▸ c7
  have c8 : w0.cell? ⟨gb, 13, none⟩ = some (.int .i64 yg.high) := hw0 ▸ c8
  clear hw0 c1 c2
  go_wp2_with fail
  go_quiet (fail)
  generalize hw1 : w0.drewN _ = w1
  have o1 : Hid (Only [] w w1) := hw1 ▸ o0.out.trans (Only.drewN w0 _)
  have c3 : w1.cell? ⟨tb, 13, none⟩ = some (.int .i64 yt.high) := hw1 ▸ c3
  have c4 : w1.cell? ⟨sb, 13, none⟩ = some (.int .i64 ys.high) := hw1 ▸ c4
  have c5 : w1.cell? ⟨tb, 15, none⟩ = some (.pointer (some ⟨gb, 0, none⟩)) := hw1 ▸ c5
  have c6 : w1.cell? ⟨tb, 16, none⟩ = some (.pointer (some ⟨kb, 0, none⟩)) := hw1 ▸ c6
  have c7 : w1.cell? ⟨kb, 13, none⟩ = some (.int .i64 yk.high) := hw1 ▸ c7
  have c8 : w1.cell? ⟨gb, 13, none⟩ = some (.int .i64 yg.high) := hw1 ▸ c8
  clear hw1 o0
  go_wp2_with fail
  go_quiet (fail)
  generalize hw2 : w1.drewN _ = w2
  have o2 : Hid (Only [] w w2) := hw2 ▸ o1.out.trans (Only.drewN w1 _)
  have c5 : w2.cell? ⟨tb, 15, none⟩ = some (.pointer (some ⟨gb, 0, none⟩)) := hw2 ▸ c5
  have c6 : w2.cell? ⟨tb, 16, none⟩ = some (.pointer (some ⟨kb, 0, none⟩)) := hw2 ▸ c6
  have c7 : w2.cell? ⟨kb, 13, none⟩ = some (.int .i64 yk.high) := hw2 ▸ c7
  have c8 : w2.cell? ⟨gb, 13, none⟩ = some (.int .i64 yg.high) := hw2 ▸ c8
  clear hw2 o1
  go_wp2_with fail
  go_quiet (fail)
  generalize hw3 : w2.drewN _ = w3
  have o3 : Hid (Only [] w w3) := hw3 ▸ o2.out.trans (Only.drewN w2 _)
  have c7 : w3.cell? ⟨kb, 13, none⟩ = some (.int .i64 yk.high) := hw3 ▸ c7
  have c8 : w3.cell? ⟨gb, 13, none⟩ = some (.int .i64 yg.high) := hw3 ▸ c8
  clear hw3 o2
  go_wp2_with fail
  go_quiet (fail)
  generalize hw4 : w3.drewN _ = w4
  have o4 : Hid (Only [] w w4) := hw4 ▸ o3.out.trans (Only.drewN w3 _)
  clear hw4 o3
  go_wp2_with fail
  obtain ⟨hn, ht, hs, hk, hg, ha⟩ := HN.out
  obtain ⟨hu, nd⟩ := HU.out
  simp only [List.nodup_cons, List.mem_cons, not_or] at nd
  obtain ⟨⟨n1, n2, n3, n4, n5, n6⟩, ⟨n7, n8, n9, n10, n11⟩, ⟨n12, n13, n14, n15⟩, ⟨n16, n17, n18⟩, ⟨n19, n20⟩, n21, n22⟩ := nd
  have hd := headOf_mem t c
  have dn : n ≠ headOf t c := fun e => by rw [← e] at hd; simp only [List.mem_cons] at hd; rcases hd with q | q; exact n5 q; exact n6 q
  have ds : sb ≠ headOf t c := fun e => by rw [← e] at hd; simp only [List.mem_cons] at hd; rcases hd with q | q; exact n14 q; exact n15 q
  have dk : kb ≠ headOf t c := fun e => by rw [← e] at hd; simp only [List.mem_cons] at hd; rcases hd with q | q; exact n17 q; exact n18 q
  have dg : gb ≠ headOf t c := fun e => by rw [← e] at hd; simp only [List.mem_cons] at hd; rcases hd with q | q; exact n19 q; exact n20 q
  have far4 : ∀ b ∈ t :: cblocks c, b ∉ ([n, sb, gb] : List Nat) ∧ b ∉ ([tb, n, kb] : List Nat) := by
    intro b hb
    simp only [List.mem_cons] at hb
    simp only [List.mem_cons, List.not_mem_nil, or_false, not_or]
    rcases hb with rfl | hb
    · exact ⟨⟨Ne.symm n5, Ne.symm n14, Ne.symm n19⟩, Ne.symm n10, Ne.symm n5, Ne.symm n17⟩
    · exact ⟨⟨fun e => n6 (e ▸ hb), fun e => n15 (e ▸ hb), fun e => n20 (e ▸ hb)⟩, fun e => n11 (e ▸ hb), fun e => n6 (e ▸ hb), fun e => n18 (e ▸ hb)⟩
  refine (replace_calls t n tb x yt fat lv c w4 (Ne.symm n1) (by simp [n10, n11]) (by simp [n5, n6]) (by simp [n21, n22]) (o4.out.node (by simp) hn) hu (o4.out.node (by simp) ht) (ha.only o4.out (by simp))).mono ?_
  rintro e w5 ⟨rfl, ht5, ha5, o5⟩
  have hn5 := o5.node (by simp [n1, dn]) (o4.out.node (by simp) hn)
  have hs5 := o5.node (by simp [Ne.symm n7, ds]) (o4.out.node (by simp) hs)
  have hk5 := o5.node (by simp [Ne.symm n8, dk]) (o4.out.node (by simp) hk)
  have hg5 := o5.node (by simp [Ne.symm n9, dg]) (o4.out.node (by simp) hg)
  have H5 : Hid (NodeAt w5 tb { yt with up := upOf c } ∧ Arnd w5 t fat lv c tb ∧ NodeAt w5 n x ∧ NodeAt w5 sb ys ∧ NodeAt w5 kb yk ∧ NodeAt w5 gb yg ∧ Only [tb, headOf t c] w w5) := ⟨ht5, ha5, hn5, hs5, hk5, hg5, (o4.out.mono (by simp)).trans o5⟩
  clear ht5 ha5 hn5 hs5 hk5 hg5 o5 o4 hn ht hs hk hg ha HN
  go_wp2_with fail
  obtain ⟨ht5, ha5, hn5, hs5, hk5, hg5, o5⟩ := H5.out
  refine (join_calls n sb gb x ys yg w5 (Ne.symm n2) (Ne.symm n4) n13 hn5 hs5 hg5 b1 (by omega) b5 (by omega)).mono ?_
  rintro e w6 ⟨rfl, hn6, hs6, hg6, o6⟩
  have ht6 := o6.node (by simp [Ne.symm n1, n7, n9]) ht5
  have hk6 := o6.node (by simp [Ne.symm n3, Ne.symm n12, n16]) hk5
  have ha6 := ha5.only o6 (fun b hb => (far4 b hb).1)
  have H6 : Hid (NodeAt w6 tb _ ∧ Arnd w6 t fat lv c tb ∧ NodeAt w6 n _ ∧ NodeAt w6 sb _ ∧ NodeAt w6 kb yk ∧ NodeAt w6 gb _ ∧ Only [tb, headOf t c, n, sb, gb] w w6) := ⟨ht6, ha6, hn6, hs6, hk6, hg6, (o5.mono (by simp)).trans (o6.mono (by simp))⟩
  clear ht5 ha5 hn5 hs5 hk5 hg5 o5 H5 ht6 ha6 hn6 hs6 hk6 hg6 o6
  go_wp2_with fail
  obtain ⟨ht6, ha6, hn6, hs6, hk6, hg6, o6⟩ := H6.out
  have hb := hnX_bd b1 b2 b5 b6
  refine (join_calls tb n kb _ _ yk w6 n1 (Ne.symm n8) n3 ht6 hn6 hk6 (show 0 ≤ hnX ys yg from hb.1) (show hnX ys yg ≤ 1000000 by omega) b3 (by omega)).mono ?_
  rintro e w7 ⟨rfl, ht7, hn7, hk7, o7⟩
  have hs7 := o7.node (by simp [Ne.symm n2, Ne.symm n7, n12]) hs6
  have hg7 := o7.node (by simp [Ne.symm n4, Ne.symm n9, Ne.symm n16]) hg6
  have ha7 := ha6.only o7 (fun b hb => (far4 b hb).2)
  have H7 : Hid (NodeAt w7 tb _ ∧ NodeAt w7 n _ ∧ NodeAt w7 sb _ ∧ NodeAt w7 gb _ ∧ NodeAt w7 kb _ ∧ Arnd w7 t fat lv c tb ∧ Only [tb, headOf t c, n, sb, gb, kb] w w7) := ⟨ht7, hn7, hs7, hg7, hk7, ha7, (o6.mono (by simp)).trans (o7.mono (by simp))⟩
  clear ht6 ha6 hn6 hs6 hk6 hg6 o6 H6 ht7 ha7 hn7 hs7 hk7 hg7 o7
  go_wp2_with fail
  go_ret
  exact ⟨rfl, H7.out⟩
end Go.Proofs.YtdhbcgdlmkkdfaaGreatDoor
