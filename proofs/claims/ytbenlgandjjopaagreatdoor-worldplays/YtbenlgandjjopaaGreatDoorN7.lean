/- . -/
import Derived.Test.YtbenlgandjjopaaGreatDoorN6
open List renaming mem_cons → zrd
namespace Go.Proofs.YtbenlgandjjopaaGreatDoor
set_option maxRecDepth 100000
set_option maxHeartbeats 4000000
open Go.ChangeShapes Go.WideShapes Go.ChangeAt Go.RowKit
set_option linter.unusedSimpArgs false
set_option linter.unusedVariables false
variable {n tb t : Nat} {k g s : Tr} {c : List Fr} {w : World} {u1 u2 u3 : Option Nat}
theorem yej (t n a b : Nat) (x ya yb : Nd) (w : World) (el : x.l = some a) (er : x.r = some b) (hn : NodeAt w n x) (ha : NodeAt w a ya) (hb : NodeAt w b yb)
  (b1 : 0 ≤ ya.high) (b2 : ya.high ≤ 1000000) (b3 : 0 ≤ yb.high) (b4 : yb.high ≤ 1000000) (h1 : ¬ ya.high < yb.high) (h2 : ya.high ≤ yb.high + 1) :
  Calls Tryz.prog 151 #[.pointer (some (Y t 0)),.pointer (some (Y n 0))] w fun e w' => e = .returned (.pointer (some (Y n 0))) ∧ Only [] w w' := by
 have c1 := hn.c15; have c2 := hn.c16; rw [el] at c1; rw [er] at c2; simp only [y0t] at c1 c2;have c3 := ha.c13; have c4 := hb.c13;have t1 : decide (ya.high < yb.high) = false := by simp; omega
 have v1 : IntKind.i64.wrap (yb.high + 1) = yb.high + 1 := y3o (by omega) (by omega);have t2 : decide (ya.high ≤ yb.high + 1) = true := by simp; omega
 clear hn ha hb el er;go_enter Tryz.func151,Tryz.ntmps151
 go_wp2_with fail
 go_quiet (fail)
 generalize hw0 : w.drewN nq = w0;have o0 : Hid (Only [] w w0) := hw0 ▸ Only.drewN w nq;have c3 : w0.cell? (Y a 13) = some (I ya.high) := hw0 ▸ c3;have c4 : w0.cell? (Y b 13) = some (I yb.high) := hw0 ▸ c4;clear hw0 c1 c2;go_wp2_with fail
 go_quiet (fail)
 generalize hw1 : w0.drewN _ = w1;have o1 : Hid (Only [] w w1) := hw1 ▸ o0.out.trans (Only.drewN w0 _);have c3 : w1.cell? (Y a 13) = some (I ya.high) := hw1 ▸ c3;have c4 : w1.cell? (Y b 13) = some (I yb.high) := hw1 ▸ c4;clear hw1 o0;go_wp2_with fail
 go_quiet (fail)
 generalize hw2 : w1.drewN _ = w2;have o2 : Hid (Only [] w w2) := hw2 ▸ o1.out.trans (Only.drewN w1 _);clear hw2 o1;go_wp2_with fail
 go_ret
 exact ⟨rfl,o2.out⟩
theorem yef (t n a b : Nat) (x ya yb : Nd) (w : World) (el : x.l = some a) (er : x.r = some b) (hn : NodeAt w n x) (ha : NodeAt w a ya) (hb : NodeAt w b yb)
  (b1 : 0 ≤ ya.high) (b2 : ya.high ≤ 1000000) (b3 : 0 ≤ yb.high) (b4 : yb.high ≤ 1000000) (h1 : ya.high < yb.high) (h2 : yb.high ≤ ya.high + 1) :
  Calls Tryz.prog 151 #[.pointer (some (Y t 0)),.pointer (some (Y n 0))] w fun e w' => e = .returned (.pointer (some (Y n 0))) ∧ Only [] w w' := by
 have c1 := hn.c15; have c2 := hn.c16; rw [el] at c1; rw [er] at c2; simp only [y0t] at c1 c2;have c3 := ha.c13; have c4 := hb.c13;have t1 : decide (ya.high < yb.high) = true := by simp; omega
 have v1 : IntKind.i64.wrap (ya.high + 1) = ya.high + 1 := y3o (by omega) (by omega);have t2 : decide (yb.high ≤ ya.high + 1) = true := by simp; omega
 clear hn ha hb el er;go_enter Tryz.func151,Tryz.ntmps151
 go_wp2_with fail
 go_quiet (fail)
 generalize hw0 : w.drewN nq = w0;have o0 : Hid (Only [] w w0) := hw0 ▸ Only.drewN w nq;have c3 : w0.cell? (Y a 13) = some (I ya.high) := hw0 ▸ c3;have c4 : w0.cell? (Y b 13) = some (I yb.high) := hw0 ▸ c4;clear hw0 c1 c2;go_wp2_with fail
 go_quiet (fail)
 generalize hw1 : w0.drewN _ = w1;have o1 : Hid (Only [] w w1) := hw1 ▸ o0.out.trans (Only.drewN w0 _);have c3 : w1.cell? (Y a 13) = some (I ya.high) := hw1 ▸ c3;have c4 : w1.cell? (Y b 13) = some (I yb.high) := hw1 ▸ c4;clear hw1 o0;go_wp2_with fail
 go_quiet (fail)
 generalize hw2 : w1.drewN _ = w2;have o2 : Hid (Only [] w w2) := hw2 ▸ o1.out.trans (Only.drewN w1 _);clear hw2 o1;go_wp2_with fail
 go_ret
 exact ⟨rfl,o2.out⟩
def rnX (ys yg : Nd) : Bx := bothX ys.room yg.room
def hnX (ys yg : Nd) : Int := 1 + greater ys.high yg.high
theorem yh1 {ys yg : Nd} (b1 : 0 ≤ ys.high) (b2 : ys.high ≤ 999) (b3 : 0 ≤ yg.high) (b4 : yg.high ≤ 999) : 0 ≤ hnX ys yg ∧ hnX ys yg ≤ 1000 := by unfold hnX greater; split <;> omega
theorem ybj (t n tb sb kb gb : Nat) (x yt ys yk yg : Nd) (fat : Int) (lv : Option Nat) (c : List Fr) (w : World) (el : x.l = some tb) (er : x.r = some sb) (kl : yt.l = some kb) (kr : yt.r = some gb)
  (hu : x.up = upOf c) (nd : (n :: tb :: sb :: kb :: gb :: t :: cblocks c).Nodup)
  (hn : NodeAt w n x) (ht : NodeAt w tb yt) (hs : NodeAt w sb ys) (hk : NodeAt w kb yk) (hg : NodeAt w gb yg) (ha : Arnd w t fat lv c n)
  (b1 : 0 ≤ ys.high) (b2 : ys.high ≤ 999) (b3 : 0 ≤ yk.high) (b4 : yk.high ≤ 999) (b5 : 0 ≤ yg.high) (b6 : yg.high ≤ 999) (h1 : ys.high + 1 < yt.high) (h2 : ¬ yk.high < yg.high) :
  Calls Tryz.prog 151 #[.pointer (some (Y t 0)),.pointer (some (Y n 0))] w fun e w' => e = .returned (.pointer (some (Y tb 0))) ∧
   NodeAt w' tb { yt with up := upOf c,l := some n,r := some kb,room := bothX (rnX ys yg) yk.room,high := 1 + greater (hnX ys yg) yk.high } ∧
   NodeAt w' n { x with up := some tb,l := some sb,r := some gb,room := rnX ys yg,high := hnX ys yg } ∧
   NodeAt w' sb { ys with up := some n } ∧ NodeAt w' gb { yg with up := some n } ∧ NodeAt w' kb { yk with up := some tb } ∧ Arnd w' t fat lv c tb ∧ Only [tb,headOf t c,n,sb,gb,kb] w w' := by
 have c1 := hn.c15; have c2 := hn.c16; rw [el] at c1; rw [er] at c2; simp only [y0t] at c1 c2;have c3 := ht.c13; have c4 := hs.c13; have c5 := ht.c15; have c6 := ht.c16; rw [kl] at c5; rw [kr] at c6; simp only [y0t] at c5 c6;have c7 := hk.c13; have c8 := hg.c13;have t1 : decide (yt.high < ys.high) = false := by simp; omega
 have v1 : IntKind.i64.wrap (ys.high + 1) = ys.high + 1 := y3o (by omega) (by omega);have t2 : decide (yt.high ≤ ys.high + 1) = false := by simp; omega
 have t3 : decide (yk.high < yg.high) = false := by simp; omega
 have HN : Hid (NodeAt w n x ∧ NodeAt w tb yt ∧ NodeAt w sb ys ∧ NodeAt w kb yk ∧ NodeAt w gb yg ∧ Arnd w t fat lv c n) := ⟨hn,ht,hs,hk,hg,ha⟩;have HU : Hid (x.up = upOf c ∧ (n :: tb :: sb :: kb :: gb :: t :: cblocks c).Nodup) := ⟨hu,nd⟩;clear hn ht hs hk hg ha el er kl kr hu nd;go_enter Tryz.func151,Tryz.ntmps151
 go_wp2_with fail
 go_quiet (fail)
 generalize hw0 : w.drewN nq = w0;have o0 : Hid (Only [] w w0) := hw0 ▸ Only.drewN w nq;have c3 : w0.cell? (Y tb 13) = some (I yt.high) := hw0 ▸ c3;have c4 : w0.cell? (Y sb 13) = some (I ys.high) := hw0 ▸ c4;have c5 : w0.cell? (Y tb 15) = some (.pointer (some (Y kb 0))) := hw0 ▸ c5;have c6 : w0.cell? (Y tb 16) = some (.pointer (some (Y gb 0))) := hw0 ▸ c6;have c7 : w0.cell? (Y kb 13) = some (I yk.high) := hw0 ▸ c7;have c8 : w0.cell? (Y gb 13) = some (I yg.high) := hw0 ▸ c8;clear hw0 c1 c2;go_wp2_with fail
 go_quiet (fail)
 generalize hw1 : w0.drewN _ = w1;have o1 : Hid (Only [] w w1) := hw1 ▸ o0.out.trans (Only.drewN w0 _);have c3 : w1.cell? (Y tb 13) = some (I yt.high) := hw1 ▸ c3;have c4 : w1.cell? (Y sb 13) = some (I ys.high) := hw1 ▸ c4;have c5 : w1.cell? (Y tb 15) = some (.pointer (some (Y kb 0))) := hw1 ▸ c5;have c6 : w1.cell? (Y tb 16) = some (.pointer (some (Y gb 0))) := hw1 ▸ c6;have c7 : w1.cell? (Y kb 13) = some (I yk.high) := hw1 ▸ c7;have c8 : w1.cell? (Y gb 13) = some (I yg.high) := hw1 ▸ c8;clear hw1 o0;go_wp2_with fail
 go_quiet (fail)
 generalize hw2 : w1.drewN _ = w2;have o2 : Hid (Only [] w w2) := hw2 ▸ o1.out.trans (Only.drewN w1 _);have c5 : w2.cell? (Y tb 15) = some (.pointer (some (Y kb 0))) := hw2 ▸ c5;have c6 : w2.cell? (Y tb 16) = some (.pointer (some (Y gb 0))) := hw2 ▸ c6;have c7 : w2.cell? (Y kb 13) = some (I yk.high) := hw2 ▸ c7;have c8 : w2.cell? (Y gb 13) = some (I yg.high) := hw2 ▸ c8;clear hw2 o1;go_wp2_with fail
 go_quiet (fail)
 generalize hw3 : w2.drewN _ = w3;have o3 : Hid (Only [] w w3) := hw3 ▸ o2.out.trans (Only.drewN w2 _);have c7 : w3.cell? (Y kb 13) = some (I yk.high) := hw3 ▸ c7;have c8 : w3.cell? (Y gb 13) = some (I yg.high) := hw3 ▸ c8;clear hw3 o2;go_wp2_with fail
 go_quiet (fail)
 generalize hw4 : w3.drewN _ = w4;have o4 : Hid (Only [] w w4) := hw4 ▸ o3.out.trans (Only.drewN w3 _);clear hw4 o3;go_wp2_with fail
 obtain ⟨hn,ht,hs,hk,hg,ha⟩ := HN.out;obtain ⟨hu,nd⟩ := HU.out;simp only [List.nodup_cons,zrd,not_or] at nd;obtain ⟨⟨n1,n2,n3,n4,n5,n6⟩,⟨n7,n8,n9,n10,n11⟩,⟨n12,n13,n14,n15⟩,⟨n16,n17,n18⟩,⟨n19,n20⟩,n21,n22⟩ := nd;have hd := y1j t c;have dn : n ≠ headOf t c := fun e => by rw [← e] at hd; simp only [zrd] at hd; rcases hd with q | q; exact n5 q; exact n6 q
 have ds : sb ≠ headOf t c := fun e => by rw [← e] at hd; simp only [zrd] at hd; rcases hd with q | q; exact n14 q; exact n15 q
 have dk : kb ≠ headOf t c := fun e => by rw [← e] at hd; simp only [zrd] at hd; rcases hd with q | q; exact n17 q; exact n18 q
 have dg : gb ≠ headOf t c := fun e => by rw [← e] at hd; simp only [zrd] at hd; rcases hd with q | q; exact n19 q; exact n20 q
 have far4 : ∀ b ∈ t :: cblocks c,b ∉ ([n,sb,gb] : List Nat) ∧ b ∉ ([tb,n,kb] : List Nat) := by
  intro b hb;simp only [zrd] at hb;simp only [zrd,List.not_mem_nil,or_false,not_or];rcases hb with rfl | hb
  ·exact ⟨⟨Ne.symm n5,Ne.symm n14,Ne.symm n19⟩,Ne.symm n10,Ne.symm n5,Ne.symm n17⟩
  ·exact ⟨⟨fun e => n6 (e ▸ hb),fun e => n15 (e ▸ hb),fun e => n20 (e ▸ hb)⟩,fun e => n11 (e ▸ hb),fun e => n6 (e ▸ hb),fun e => n18 (e ▸ hb)⟩
 refine (y1e t n tb x yt fat lv c w4 (Ne.symm n1) (by simp [n10,n11]) (by simp [n5,n6]) (by simp [n21,n22]) (o4.out.node (by simp) hn) hu (o4.out.node (by simp) ht) (ha.only o4.out (by simp))).mono ?_;rintro e w5 ⟨rfl,ht5,ha5,o5⟩;have hn5 := o5.node (by simp [n1,dn]) (o4.out.node (by simp) hn);have hs5 := o5.node (by simp [Ne.symm n7,ds]) (o4.out.node (by simp) hs);have hk5 := o5.node (by simp [Ne.symm n8,dk]) (o4.out.node (by simp) hk);have hg5 := o5.node (by simp [Ne.symm n9,dg]) (o4.out.node (by simp) hg);have H5 : Hid (NodeAt w5 tb { yt with up := upOf c } ∧ Arnd w5 t fat lv c tb ∧ NodeAt w5 n x ∧ NodeAt w5 sb ys ∧ NodeAt w5 kb yk ∧ NodeAt w5 gb yg ∧ Only [tb,headOf t c] w w5) := ⟨ht5,ha5,hn5,hs5,hk5,hg5,(o4.out.mono (by simp)).trans o5⟩;clear ht5 ha5 hn5 hs5 hk5 hg5 o5 o4 hn ht hs hk hg ha HN;go_wp2_with fail
 obtain ⟨ht5,ha5,hn5,hs5,hk5,hg5,o5⟩ := H5.out;refine (y1s n sb gb x ys yg w5 (Ne.symm n2) (Ne.symm n4) n13 hn5 hs5 hg5 b1 (by omega) b5 (by omega)).mono ?_;rintro e w6 ⟨rfl,hn6,hs6,hg6,o6⟩;have ht6 := o6.node (by simp [Ne.symm n1,n7,n9]) ht5;have hk6 := o6.node (by simp [Ne.symm n3,Ne.symm n12,n16]) hk5;have ha6 := ha5.only o6 (fun b hb => (far4 b hb).1);have H6 : Hid (NodeAt w6 tb _ ∧ Arnd w6 t fat lv c tb ∧ NodeAt w6 n _ ∧ NodeAt w6 sb _ ∧ NodeAt w6 kb yk ∧ NodeAt w6 gb _ ∧ Only [tb,headOf t c,n,sb,gb] w w6) := ⟨ht6,ha6,hn6,hs6,hk6,hg6,(o5.mono (by simp)).trans (o6.mono (by simp))⟩;clear ht5 ha5 hn5 hs5 hk5 hg5 o5 H5 ht6 ha6 hn6 hs6 hk6 hg6 o6;go_wp2_with fail
 obtain ⟨ht6,ha6,hn6,hs6,hk6,hg6,o6⟩ := H6.out;have hb := yh1 b1 b2 b5 b6;refine (y1s tb n kb _ _ yk w6 n1 (Ne.symm n8) n3 ht6 hn6 hk6 (show 0 ≤ hnX ys yg from hb.1) (show hnX ys yg ≤ 1000000 by omega) b3 (by omega)).mono ?_;rintro e w7 ⟨rfl,ht7,hn7,hk7,o7⟩;have hs7 := o7.node (by simp [Ne.symm n2,Ne.symm n7,n12]) hs6;have hg7 := o7.node (by simp [Ne.symm n4,Ne.symm n9,Ne.symm n16]) hg6;have ha7 := ha6.only o7 (fun b hb => (far4 b hb).2);have H7 : Hid (NodeAt w7 tb _ ∧ NodeAt w7 n _ ∧ NodeAt w7 sb _ ∧ NodeAt w7 gb _ ∧ NodeAt w7 kb _ ∧ Arnd w7 t fat lv c tb ∧ Only [tb,headOf t c,n,sb,gb,kb] w w7) := ⟨ht7,hn7,hs7,hg7,hk7,ha7,(o6.mono (by simp)).trans (o7.mono (by simp))⟩;clear ht6 ha6 hn6 hs6 hk6 hg6 o6 H6 ht7 ha7 hn7 hs7 hk7 hg7 o7;go_wp2_with fail
 go_ret
 exact ⟨rfl,H7.out⟩
theorem ycp (t n tb sb kb gb : Nat) (x yt ys yk yg : Nd) (fat : Int) (lv : Option Nat) (c : List Fr) (w : World) (el : x.l = some tb) (er : x.r = some sb) (kl : yt.l = some gb) (kr : yt.r = some kb)
  (hu : x.up = upOf c) (nd : (n :: tb :: sb :: kb :: gb :: t :: cblocks c).Nodup)
  (hn : NodeAt w n x) (ht : NodeAt w tb yt) (hs : NodeAt w sb ys) (hk : NodeAt w kb yk) (hg : NodeAt w gb yg) (ha : Arnd w t fat lv c n)
  (b1 : 0 ≤ ys.high) (b2 : ys.high ≤ 999) (b3 : 0 ≤ yk.high) (b4 : yk.high ≤ 999) (b5 : 0 ≤ yg.high) (b6 : yg.high ≤ 999) (h1 : ys.high + 1 < yt.high) (h2 : yg.high < yk.high) :
  Calls Tryz.prog 151 #[.pointer (some (Y t 0)),.pointer (some (Y n 0))] w fun e w' => e = .returned (.pointer (some (Y tb 0))) ∧
   NodeAt w' tb { yt with up := upOf c,l := some n,r := some kb,room := bothX (rnX ys yg) yk.room,high := 1 + greater (hnX ys yg) yk.high } ∧
   NodeAt w' n { x with up := some tb,l := some sb,r := some gb,room := rnX ys yg,high := hnX ys yg } ∧
   NodeAt w' sb { ys with up := some n } ∧ NodeAt w' gb { yg with up := some n } ∧ NodeAt w' kb { yk with up := some tb } ∧ Arnd w' t fat lv c tb ∧ Only [tb,headOf t c,n,sb,gb,kb] w w' := by
 have c1 := hn.c15; have c2 := hn.c16; rw [el] at c1; rw [er] at c2; simp only [y0t] at c1 c2;have c3 := ht.c13; have c4 := hs.c13; have c5 := ht.c15; have c6 := ht.c16; rw [kl] at c5; rw [kr] at c6; simp only [y0t] at c5 c6;have c7 := hk.c13; have c8 := hg.c13;have t1 : decide (yt.high < ys.high) = false := by simp; omega
 have v1 : IntKind.i64.wrap (ys.high + 1) = ys.high + 1 := y3o (by omega) (by omega);have t2 : decide (yt.high ≤ ys.high + 1) = false := by simp; omega
 have t3 : decide (yg.high < yk.high) = true := by simp; omega
 have HN : Hid (NodeAt w n x ∧ NodeAt w tb yt ∧ NodeAt w sb ys ∧ NodeAt w kb yk ∧ NodeAt w gb yg ∧ Arnd w t fat lv c n) := ⟨hn,ht,hs,hk,hg,ha⟩;have HU : Hid (x.up = upOf c ∧ (n :: tb :: sb :: kb :: gb :: t :: cblocks c).Nodup) := ⟨hu,nd⟩;clear hn ht hs hk hg ha el er kl kr hu nd;go_enter Tryz.func151,Tryz.ntmps151
 go_wp2_with fail
 go_quiet (fail)
 generalize hw0 : w.drewN nq = w0;have o0 : Hid (Only [] w w0) := hw0 ▸ Only.drewN w nq;have c3 : w0.cell? (Y tb 13) = some (I yt.high) := hw0 ▸ c3;have c4 : w0.cell? (Y sb 13) = some (I ys.high) := hw0 ▸ c4;have c5 : w0.cell? (Y tb 15) = some (.pointer (some (Y gb 0))) := hw0 ▸ c5;have c6 : w0.cell? (Y tb 16) = some (.pointer (some (Y kb 0))) := hw0 ▸ c6;have c7 : w0.cell? (Y kb 13) = some (I yk.high) := hw0 ▸ c7;have c8 : w0.cell? (Y gb 13) = some (I yg.high) := hw0 ▸ c8;clear hw0 c1 c2;go_wp2_with fail
 go_quiet (fail)
 generalize hw1 : w0.drewN _ = w1;have o1 : Hid (Only [] w w1) := hw1 ▸ o0.out.trans (Only.drewN w0 _);have c3 : w1.cell? (Y tb 13) = some (I yt.high) := hw1 ▸ c3;have c4 : w1.cell? (Y sb 13) = some (I ys.high) := hw1 ▸ c4;have c5 : w1.cell? (Y tb 15) = some (.pointer (some (Y gb 0))) := hw1 ▸ c5;have c6 : w1.cell? (Y tb 16) = some (.pointer (some (Y kb 0))) := hw1 ▸ c6;have c7 : w1.cell? (Y kb 13) = some (I yk.high) := hw1 ▸ c7;have c8 : w1.cell? (Y gb 13) = some (I yg.high) := hw1 ▸ c8;clear hw1 o0;go_wp2_with fail
 go_quiet (fail)
 generalize hw2 : w1.drewN _ = w2;have o2 : Hid (Only [] w w2) := hw2 ▸ o1.out.trans (Only.drewN w1 _);have c5 : w2.cell? (Y tb 15) = some (.pointer (some (Y gb 0))) := hw2 ▸ c5;have c6 : w2.cell? (Y tb 16) = some (.pointer (some (Y kb 0))) := hw2 ▸ c6;have c7 : w2.cell? (Y kb 13) = some (I yk.high) := hw2 ▸ c7;have c8 : w2.cell? (Y gb 13) = some (I yg.high) := hw2 ▸ c8;clear hw2 o1;go_wp2_with fail
 go_quiet (fail)
 generalize hw3 : w2.drewN _ = w3;have o3 : Hid (Only [] w w3) := hw3 ▸ o2.out.trans (Only.drewN w2 _);have c7 : w3.cell? (Y kb 13) = some (I yk.high) := hw3 ▸ c7;have c8 : w3.cell? (Y gb 13) = some (I yg.high) := hw3 ▸ c8;clear hw3 o2;go_wp2_with fail
 go_quiet (fail)
 generalize hw4 : w3.drewN _ = w4;have o4 : Hid (Only [] w w4) := hw4 ▸ o3.out.trans (Only.drewN w3 _);clear hw4 o3;go_wp2_with fail
 obtain ⟨hn,ht,hs,hk,hg,ha⟩ := HN.out;obtain ⟨hu,nd⟩ := HU.out;simp only [List.nodup_cons,zrd,not_or] at nd;obtain ⟨⟨n1,n2,n3,n4,n5,n6⟩,⟨n7,n8,n9,n10,n11⟩,⟨n12,n13,n14,n15⟩,⟨n16,n17,n18⟩,⟨n19,n20⟩,n21,n22⟩ := nd;have hd := y1j t c;have dn : n ≠ headOf t c := fun e => by rw [← e] at hd; simp only [zrd] at hd; rcases hd with q | q; exact n5 q; exact n6 q
 have ds : sb ≠ headOf t c := fun e => by rw [← e] at hd; simp only [zrd] at hd; rcases hd with q | q; exact n14 q; exact n15 q
 have dk : kb ≠ headOf t c := fun e => by rw [← e] at hd; simp only [zrd] at hd; rcases hd with q | q; exact n17 q; exact n18 q
 have dg : gb ≠ headOf t c := fun e => by rw [← e] at hd; simp only [zrd] at hd; rcases hd with q | q; exact n19 q; exact n20 q
 have far4 : ∀ b ∈ t :: cblocks c,b ∉ ([n,sb,gb] : List Nat) ∧ b ∉ ([tb,n,kb] : List Nat) := by
  intro b hb;simp only [zrd] at hb;simp only [zrd,List.not_mem_nil,or_false,not_or];rcases hb with rfl | hb
  ·exact ⟨⟨Ne.symm n5,Ne.symm n14,Ne.symm n19⟩,Ne.symm n10,Ne.symm n5,Ne.symm n17⟩
  ·exact ⟨⟨fun e => n6 (e ▸ hb),fun e => n15 (e ▸ hb),fun e => n20 (e ▸ hb)⟩,fun e => n11 (e ▸ hb),fun e => n6 (e ▸ hb),fun e => n18 (e ▸ hb)⟩
 refine (y1e t n tb x yt fat lv c w4 (Ne.symm n1) (by simp [n10,n11]) (by simp [n5,n6]) (by simp [n21,n22]) (o4.out.node (by simp) hn) hu (o4.out.node (by simp) ht) (ha.only o4.out (by simp))).mono ?_;rintro e w5 ⟨rfl,ht5,ha5,o5⟩;have hn5 := o5.node (by simp [n1,dn]) (o4.out.node (by simp) hn);have hs5 := o5.node (by simp [Ne.symm n7,ds]) (o4.out.node (by simp) hs);have hk5 := o5.node (by simp [Ne.symm n8,dk]) (o4.out.node (by simp) hk);have hg5 := o5.node (by simp [Ne.symm n9,dg]) (o4.out.node (by simp) hg);have H5 : Hid (NodeAt w5 tb { yt with up := upOf c } ∧ Arnd w5 t fat lv c tb ∧ NodeAt w5 n x ∧ NodeAt w5 sb ys ∧ NodeAt w5 kb yk ∧ NodeAt w5 gb yg ∧ Only [tb,headOf t c] w w5) := ⟨ht5,ha5,hn5,hs5,hk5,hg5,(o4.out.mono (by simp)).trans o5⟩;clear ht5 ha5 hn5 hs5 hk5 hg5 o5 o4 hn ht hs hk hg ha HN;go_wp2_with fail
 obtain ⟨ht5,ha5,hn5,hs5,hk5,hg5,o5⟩ := H5.out;refine (y1s n sb gb x ys yg w5 (Ne.symm n2) (Ne.symm n4) n13 hn5 hs5 hg5 b1 (by omega) b5 (by omega)).mono ?_;rintro e w6 ⟨rfl,hn6,hs6,hg6,o6⟩;have ht6 := o6.node (by simp [Ne.symm n1,n7,n9]) ht5;have hk6 := o6.node (by simp [Ne.symm n3,Ne.symm n12,n16]) hk5;have ha6 := ha5.only o6 (fun b hb => (far4 b hb).1);have H6 : Hid (NodeAt w6 tb _ ∧ Arnd w6 t fat lv c tb ∧ NodeAt w6 n _ ∧ NodeAt w6 sb _ ∧ NodeAt w6 kb yk ∧ NodeAt w6 gb _ ∧ Only [tb,headOf t c,n,sb,gb] w w6) := ⟨ht6,ha6,hn6,hs6,hk6,hg6,(o5.mono (by simp)).trans (o6.mono (by simp))⟩;clear ht5 ha5 hn5 hs5 hk5 hg5 o5 H5 ht6 ha6 hn6 hs6 hk6 hg6 o6;go_wp2_with fail
 obtain ⟨ht6,ha6,hn6,hs6,hk6,hg6,o6⟩ := H6.out;have hb := yh1 b1 b2 b5 b6;refine (y1s tb n kb _ _ yk w6 n1 (Ne.symm n8) n3 ht6 hn6 hk6 (show 0 ≤ hnX ys yg from hb.1) (show hnX ys yg ≤ 1000000 by omega) b3 (by omega)).mono ?_;rintro e w7 ⟨rfl,ht7,hn7,hk7,o7⟩;have hs7 := o7.node (by simp [Ne.symm n2,Ne.symm n7,n12]) hs6;have hg7 := o7.node (by simp [Ne.symm n4,Ne.symm n9,Ne.symm n16]) hg6;have ha7 := ha6.only o7 (fun b hb => (far4 b hb).2);have H7 : Hid (NodeAt w7 tb _ ∧ NodeAt w7 n _ ∧ NodeAt w7 sb _ ∧ NodeAt w7 gb _ ∧ NodeAt w7 kb _ ∧ Arnd w7 t fat lv c tb ∧ Only [tb,headOf t c,n,sb,gb,kb] w w7) := ⟨ht7,hn7,hs7,hg7,hk7,ha7,(o6.mono (by simp)).trans (o7.mono (by simp))⟩;clear ht6 ha6 hn6 hs6 hk6 hg6 o6 H6 ht7 ha7 hn7 hs7 hk7 hg7 o7;go_wp2_with fail
 go_ret
 exact ⟨rfl,H7.out⟩
theorem yck (t n tb sb kb gb : Nat) (x yt ys yk yg : Nd) (fat : Int) (lv : Option Nat) (c : List Fr) (w : World) (el : x.l = some sb) (er : x.r = some tb) (kl : yt.l = some kb) (kr : yt.r = some gb)
  (hu : x.up = upOf c) (nd : (n :: tb :: sb :: kb :: gb :: t :: cblocks c).Nodup)
  (hn : NodeAt w n x) (ht : NodeAt w tb yt) (hs : NodeAt w sb ys) (hk : NodeAt w kb yk) (hg : NodeAt w gb yg) (ha : Arnd w t fat lv c n)
  (b1 : 0 ≤ ys.high) (b2 : ys.high ≤ 999) (b3 : 0 ≤ yk.high) (b4 : yk.high ≤ 999) (b5 : 0 ≤ yg.high) (b6 : yg.high ≤ 999) (h1 : ys.high + 1 < yt.high) (h2 : ¬ yk.high < yg.high) :
  Calls Tryz.prog 151 #[.pointer (some (Y t 0)),.pointer (some (Y n 0))] w fun e w' => e = .returned (.pointer (some (Y tb 0))) ∧
   NodeAt w' tb { yt with up := upOf c,l := some n,r := some kb,room := bothX (rnX ys yg) yk.room,high := 1 + greater (hnX ys yg) yk.high } ∧
   NodeAt w' n { x with up := some tb,l := some sb,r := some gb,room := rnX ys yg,high := hnX ys yg } ∧
   NodeAt w' sb { ys with up := some n } ∧ NodeAt w' gb { yg with up := some n } ∧ NodeAt w' kb { yk with up := some tb } ∧ Arnd w' t fat lv c tb ∧ Only [tb,headOf t c,n,sb,gb,kb] w w' := by
 have c1 := hn.c15; have c2 := hn.c16; rw [el] at c1; rw [er] at c2; simp only [y0t] at c1 c2;have c3 := ht.c13; have c4 := hs.c13; have c5 := ht.c15; have c6 := ht.c16; rw [kl] at c5; rw [kr] at c6; simp only [y0t] at c5 c6;have c7 := hk.c13; have c8 := hg.c13;have t1 : decide (ys.high < yt.high) = true := by simp; omega
 have v1 : IntKind.i64.wrap (ys.high + 1) = ys.high + 1 := y3o (by omega) (by omega);have t2 : decide (yt.high ≤ ys.high + 1) = false := by simp; omega
 have t3 : decide (yk.high < yg.high) = false := by simp; omega
 have HN : Hid (NodeAt w n x ∧ NodeAt w tb yt ∧ NodeAt w sb ys ∧ NodeAt w kb yk ∧ NodeAt w gb yg ∧ Arnd w t fat lv c n) := ⟨hn,ht,hs,hk,hg,ha⟩;have HU : Hid (x.up = upOf c ∧ (n :: tb :: sb :: kb :: gb :: t :: cblocks c).Nodup) := ⟨hu,nd⟩;clear hn ht hs hk hg ha el er kl kr hu nd;go_enter Tryz.func151,Tryz.ntmps151
 go_wp2_with fail
 go_quiet (fail)
 generalize hw0 : w.drewN nq = w0;have o0 : Hid (Only [] w w0) := hw0 ▸ Only.drewN w nq;have c3 : w0.cell? (Y tb 13) = some (I yt.high) := hw0 ▸ c3;have c4 : w0.cell? (Y sb 13) = some (I ys.high) := hw0 ▸ c4;have c5 : w0.cell? (Y tb 15) = some (.pointer (some (Y kb 0))) := hw0 ▸ c5;have c6 : w0.cell? (Y tb 16) = some (.pointer (some (Y gb 0))) := hw0 ▸ c6;have c7 : w0.cell? (Y kb 13) = some (I yk.high) := hw0 ▸ c7;have c8 : w0.cell? (Y gb 13) = some (I yg.high) := hw0 ▸ c8;clear hw0 c1 c2;go_wp2_with fail
 go_quiet (fail)
 generalize hw1 : w0.drewN _ = w1;have o1 : Hid (Only [] w w1) := hw1 ▸ o0.out.trans (Only.drewN w0 _);have c3 : w1.cell? (Y tb 13) = some (I yt.high) := hw1 ▸ c3;have c4 : w1.cell? (Y sb 13) = some (I ys.high) := hw1 ▸ c4;have c5 : w1.cell? (Y tb 15) = some (.pointer (some (Y kb 0))) := hw1 ▸ c5;have c6 : w1.cell? (Y tb 16) = some (.pointer (some (Y gb 0))) := hw1 ▸ c6;have c7 : w1.cell? (Y kb 13) = some (I yk.high) := hw1 ▸ c7;have c8 : w1.cell? (Y gb 13) = some (I yg.high) := hw1 ▸ c8;clear hw1 o0;go_wp2_with fail
 go_quiet (fail)
 generalize hw2 : w1.drewN _ = w2;have o2 : Hid (Only [] w w2) := hw2 ▸ o1.out.trans (Only.drewN w1 _);have c5 : w2.cell? (Y tb 15) = some (.pointer (some (Y kb 0))) := hw2 ▸ c5;have c6 : w2.cell? (Y tb 16) = some (.pointer (some (Y gb 0))) := hw2 ▸ c6;have c7 : w2.cell? (Y kb 13) = some (I yk.high) := hw2 ▸ c7;have c8 : w2.cell? (Y gb 13) = some (I yg.high) := hw2 ▸ c8;clear hw2 o1;go_wp2_with fail
 go_quiet (fail)
 generalize hw3 : w2.drewN _ = w3;have o3 : Hid (Only [] w w3) := hw3 ▸ o2.out.trans (Only.drewN w2 _);have c7 : w3.cell? (Y kb 13) = some (I yk.high) := hw3 ▸ c7;have c8 : w3.cell? (Y gb 13) = some (I yg.high) := hw3 ▸ c8;clear hw3 o2;go_wp2_with fail
 go_quiet (fail)
 generalize hw4 : w3.drewN _ = w4;have o4 : Hid (Only [] w w4) := hw4 ▸ o3.out.trans (Only.drewN w3 _);clear hw4 o3;go_wp2_with fail
 obtain ⟨hn,ht,hs,hk,hg,ha⟩ := HN.out;obtain ⟨hu,nd⟩ := HU.out;simp only [List.nodup_cons,zrd,not_or] at nd;obtain ⟨⟨n1,n2,n3,n4,n5,n6⟩,⟨n7,n8,n9,n10,n11⟩,⟨n12,n13,n14,n15⟩,⟨n16,n17,n18⟩,⟨n19,n20⟩,n21,n22⟩ := nd;have hd := y1j t c;have dn : n ≠ headOf t c := fun e => by rw [← e] at hd; simp only [zrd] at hd; rcases hd with q | q; exact n5 q; exact n6 q
 have ds : sb ≠ headOf t c := fun e => by rw [← e] at hd; simp only [zrd] at hd; rcases hd with q | q; exact n14 q; exact n15 q
 have dk : kb ≠ headOf t c := fun e => by rw [← e] at hd; simp only [zrd] at hd; rcases hd with q | q; exact n17 q; exact n18 q
 have dg : gb ≠ headOf t c := fun e => by rw [← e] at hd; simp only [zrd] at hd; rcases hd with q | q; exact n19 q; exact n20 q
 have far4 : ∀ b ∈ t :: cblocks c,b ∉ ([n,sb,gb] : List Nat) ∧ b ∉ ([tb,n,kb] : List Nat) := by
  intro b hb;simp only [zrd] at hb;simp only [zrd,List.not_mem_nil,or_false,not_or];rcases hb with rfl | hb
  ·exact ⟨⟨Ne.symm n5,Ne.symm n14,Ne.symm n19⟩,Ne.symm n10,Ne.symm n5,Ne.symm n17⟩
  ·exact ⟨⟨fun e => n6 (e ▸ hb),fun e => n15 (e ▸ hb),fun e => n20 (e ▸ hb)⟩,fun e => n11 (e ▸ hb),fun e => n6 (e ▸ hb),fun e => n18 (e ▸ hb)⟩
 refine (y1e t n tb x yt fat lv c w4 (Ne.symm n1) (by simp [n10,n11]) (by simp [n5,n6]) (by simp [n21,n22]) (o4.out.node (by simp) hn) hu (o4.out.node (by simp) ht) (ha.only o4.out (by simp))).mono ?_;rintro e w5 ⟨rfl,ht5,ha5,o5⟩;have hn5 := o5.node (by simp [n1,dn]) (o4.out.node (by simp) hn);have hs5 := o5.node (by simp [Ne.symm n7,ds]) (o4.out.node (by simp) hs);have hk5 := o5.node (by simp [Ne.symm n8,dk]) (o4.out.node (by simp) hk);have hg5 := o5.node (by simp [Ne.symm n9,dg]) (o4.out.node (by simp) hg);have H5 : Hid (NodeAt w5 tb { yt with up := upOf c } ∧ Arnd w5 t fat lv c tb ∧ NodeAt w5 n x ∧ NodeAt w5 sb ys ∧ NodeAt w5 kb yk ∧ NodeAt w5 gb yg ∧ Only [tb,headOf t c] w w5) := ⟨ht5,ha5,hn5,hs5,hk5,hg5,(o4.out.mono (by simp)).trans o5⟩;clear ht5 ha5 hn5 hs5 hk5 hg5 o5 o4 hn ht hs hk hg ha HN;go_wp2_with fail
 obtain ⟨ht5,ha5,hn5,hs5,hk5,hg5,o5⟩ := H5.out;refine (y1s n sb gb x ys yg w5 (Ne.symm n2) (Ne.symm n4) n13 hn5 hs5 hg5 b1 (by omega) b5 (by omega)).mono ?_;rintro e w6 ⟨rfl,hn6,hs6,hg6,o6⟩;have ht6 := o6.node (by simp [Ne.symm n1,n7,n9]) ht5;have hk6 := o6.node (by simp [Ne.symm n3,Ne.symm n12,n16]) hk5;have ha6 := ha5.only o6 (fun b hb => (far4 b hb).1);have H6 : Hid (NodeAt w6 tb _ ∧ Arnd w6 t fat lv c tb ∧ NodeAt w6 n _ ∧ NodeAt w6 sb _ ∧ NodeAt w6 kb yk ∧ NodeAt w6 gb _ ∧ Only [tb,headOf t c,n,sb,gb] w w6) := ⟨ht6,ha6,hn6,hs6,hk6,hg6,(o5.mono (by simp)).trans (o6.mono (by simp))⟩;clear ht5 ha5 hn5 hs5 hk5 hg5 o5 H5 ht6 ha6 hn6 hs6 hk6 hg6 o6;go_wp2_with fail
 obtain ⟨ht6,ha6,hn6,hs6,hk6,hg6,o6⟩ := H6.out;have hb := yh1 b1 b2 b5 b6;refine (y1s tb n kb _ _ yk w6 n1 (Ne.symm n8) n3 ht6 hn6 hk6 (show 0 ≤ hnX ys yg from hb.1) (show hnX ys yg ≤ 1000000 by omega) b3 (by omega)).mono ?_;rintro e w7 ⟨rfl,ht7,hn7,hk7,o7⟩;have hs7 := o7.node (by simp [Ne.symm n2,Ne.symm n7,n12]) hs6;have hg7 := o7.node (by simp [Ne.symm n4,Ne.symm n9,Ne.symm n16]) hg6;have ha7 := ha6.only o7 (fun b hb => (far4 b hb).2);have H7 : Hid (NodeAt w7 tb _ ∧ NodeAt w7 n _ ∧ NodeAt w7 sb _ ∧ NodeAt w7 gb _ ∧ NodeAt w7 kb _ ∧ Arnd w7 t fat lv c tb ∧ Only [tb,headOf t c,n,sb,gb,kb] w w7) := ⟨ht7,hn7,hs7,hg7,hk7,ha7,(o6.mono (by simp)).trans (o7.mono (by simp))⟩;clear ht6 ha6 hn6 hs6 hk6 hg6 o6 H6 ht7 ha7 hn7 hs7 hk7 hg7 o7;go_wp2_with fail
 go_ret
 exact ⟨rfl,H7.out⟩
theorem yco (t n tb sb kb gb : Nat) (x yt ys yk yg : Nd) (fat : Int) (lv : Option Nat) (c : List Fr) (w : World) (el : x.l = some sb) (er : x.r = some tb) (kl : yt.l = some gb) (kr : yt.r = some kb)
  (hu : x.up = upOf c) (nd : (n :: tb :: sb :: kb :: gb :: t :: cblocks c).Nodup)
  (hn : NodeAt w n x) (ht : NodeAt w tb yt) (hs : NodeAt w sb ys) (hk : NodeAt w kb yk) (hg : NodeAt w gb yg) (ha : Arnd w t fat lv c n)
  (b1 : 0 ≤ ys.high) (b2 : ys.high ≤ 999) (b3 : 0 ≤ yk.high) (b4 : yk.high ≤ 999) (b5 : 0 ≤ yg.high) (b6 : yg.high ≤ 999) (h1 : ys.high + 1 < yt.high) (h2 : yg.high < yk.high) :
  Calls Tryz.prog 151 #[.pointer (some (Y t 0)),.pointer (some (Y n 0))] w fun e w' => e = .returned (.pointer (some (Y tb 0))) ∧
   NodeAt w' tb { yt with up := upOf c,l := some n,r := some kb,room := bothX (rnX ys yg) yk.room,high := 1 + greater (hnX ys yg) yk.high } ∧
   NodeAt w' n { x with up := some tb,l := some sb,r := some gb,room := rnX ys yg,high := hnX ys yg } ∧
   NodeAt w' sb { ys with up := some n } ∧ NodeAt w' gb { yg with up := some n } ∧ NodeAt w' kb { yk with up := some tb } ∧ Arnd w' t fat lv c tb ∧ Only [tb,headOf t c,n,sb,gb,kb] w w' := by
 have c1 := hn.c15; have c2 := hn.c16; rw [el] at c1; rw [er] at c2; simp only [y0t] at c1 c2;have c3 := ht.c13; have c4 := hs.c13; have c5 := ht.c15; have c6 := ht.c16; rw [kl] at c5; rw [kr] at c6; simp only [y0t] at c5 c6;have c7 := hk.c13; have c8 := hg.c13;have t1 : decide (ys.high < yt.high) = true := by simp; omega
 have v1 : IntKind.i64.wrap (ys.high + 1) = ys.high + 1 := y3o (by omega) (by omega);have t2 : decide (yt.high ≤ ys.high + 1) = false := by simp; omega
 have t3 : decide (yg.high < yk.high) = true := by simp; omega
 have HN : Hid (NodeAt w n x ∧ NodeAt w tb yt ∧ NodeAt w sb ys ∧ NodeAt w kb yk ∧ NodeAt w gb yg ∧ Arnd w t fat lv c n) := ⟨hn,ht,hs,hk,hg,ha⟩;have HU : Hid (x.up = upOf c ∧ (n :: tb :: sb :: kb :: gb :: t :: cblocks c).Nodup) := ⟨hu,nd⟩;clear hn ht hs hk hg ha el er kl kr hu nd;go_enter Tryz.func151,Tryz.ntmps151
 go_wp2_with fail
 go_quiet (fail)
 generalize hw0 : w.drewN nq = w0;have o0 : Hid (Only [] w w0) := hw0 ▸ Only.drewN w nq;have c3 : w0.cell? (Y tb 13) = some (I yt.high) := hw0 ▸ c3;have c4 : w0.cell? (Y sb 13) = some (I ys.high) := hw0 ▸ c4;have c5 : w0.cell? (Y tb 15) = some (.pointer (some (Y gb 0))) := hw0 ▸ c5;have c6 : w0.cell? (Y tb 16) = some (.pointer (some (Y kb 0))) := hw0 ▸ c6;have c7 : w0.cell? (Y kb 13) = some (I yk.high) := hw0 ▸ c7;have c8 : w0.cell? (Y gb 13) = some (I yg.high) := hw0 ▸ c8;clear hw0 c1 c2;go_wp2_with fail
 go_quiet (fail)
 generalize hw1 : w0.drewN _ = w1;have o1 : Hid (Only [] w w1) := hw1 ▸ o0.out.trans (Only.drewN w0 _);have c3 : w1.cell? (Y tb 13) = some (I yt.high) := hw1 ▸ c3;have c4 : w1.cell? (Y sb 13) = some (I ys.high) := hw1 ▸ c4;have c5 : w1.cell? (Y tb 15) = some (.pointer (some (Y gb 0))) := hw1 ▸ c5;have c6 : w1.cell? (Y tb 16) = some (.pointer (some (Y kb 0))) := hw1 ▸ c6;have c7 : w1.cell? (Y kb 13) = some (I yk.high) := hw1 ▸ c7;have c8 : w1.cell? (Y gb 13) = some (I yg.high) := hw1 ▸ c8;clear hw1 o0;go_wp2_with fail
 go_quiet (fail)
 generalize hw2 : w1.drewN _ = w2;have o2 : Hid (Only [] w w2) := hw2 ▸ o1.out.trans (Only.drewN w1 _);have c5 : w2.cell? (Y tb 15) = some (.pointer (some (Y gb 0))) := hw2 ▸ c5;have c6 : w2.cell? (Y tb 16) = some (.pointer (some (Y kb 0))) := hw2 ▸ c6;have c7 : w2.cell? (Y kb 13) = some (I yk.high) := hw2 ▸ c7;have c8 : w2.cell? (Y gb 13) = some (I yg.high) := hw2 ▸ c8;clear hw2 o1;go_wp2_with fail
 go_quiet (fail)
 generalize hw3 : w2.drewN _ = w3;have o3 : Hid (Only [] w w3) := hw3 ▸ o2.out.trans (Only.drewN w2 _);have c7 : w3.cell? (Y kb 13) = some (I yk.high) := hw3 ▸ c7;have c8 : w3.cell? (Y gb 13) = some (I yg.high) := hw3 ▸ c8;clear hw3 o2;go_wp2_with fail
 go_quiet (fail)
 generalize hw4 : w3.drewN _ = w4;have o4 : Hid (Only [] w w4) := hw4 ▸ o3.out.trans (Only.drewN w3 _);clear hw4 o3;go_wp2_with fail
 obtain ⟨hn,ht,hs,hk,hg,ha⟩ := HN.out;obtain ⟨hu,nd⟩ := HU.out;simp only [List.nodup_cons,zrd,not_or] at nd;obtain ⟨⟨n1,n2,n3,n4,n5,n6⟩,⟨n7,n8,n9,n10,n11⟩,⟨n12,n13,n14,n15⟩,⟨n16,n17,n18⟩,⟨n19,n20⟩,n21,n22⟩ := nd;have hd := y1j t c;have dn : n ≠ headOf t c := fun e => by rw [← e] at hd; simp only [zrd] at hd; rcases hd with q | q; exact n5 q; exact n6 q
 have ds : sb ≠ headOf t c := fun e => by rw [← e] at hd; simp only [zrd] at hd; rcases hd with q | q; exact n14 q; exact n15 q
 have dk : kb ≠ headOf t c := fun e => by rw [← e] at hd; simp only [zrd] at hd; rcases hd with q | q; exact n17 q; exact n18 q
 have dg : gb ≠ headOf t c := fun e => by rw [← e] at hd; simp only [zrd] at hd; rcases hd with q | q; exact n19 q; exact n20 q
 have far4 : ∀ b ∈ t :: cblocks c,b ∉ ([n,sb,gb] : List Nat) ∧ b ∉ ([tb,n,kb] : List Nat) := by
  intro b hb;simp only [zrd] at hb;simp only [zrd,List.not_mem_nil,or_false,not_or];rcases hb with rfl | hb
  ·exact ⟨⟨Ne.symm n5,Ne.symm n14,Ne.symm n19⟩,Ne.symm n10,Ne.symm n5,Ne.symm n17⟩
  ·exact ⟨⟨fun e => n6 (e ▸ hb),fun e => n15 (e ▸ hb),fun e => n20 (e ▸ hb)⟩,fun e => n11 (e ▸ hb),fun e => n6 (e ▸ hb),fun e => n18 (e ▸ hb)⟩
 refine (y1e t n tb x yt fat lv c w4 (Ne.symm n1) (by simp [n10,n11]) (by simp [n5,n6]) (by simp [n21,n22]) (o4.out.node (by simp) hn) hu (o4.out.node (by simp) ht) (ha.only o4.out (by simp))).mono ?_;rintro e w5 ⟨rfl,ht5,ha5,o5⟩;have hn5 := o5.node (by simp [n1,dn]) (o4.out.node (by simp) hn);have hs5 := o5.node (by simp [Ne.symm n7,ds]) (o4.out.node (by simp) hs);have hk5 := o5.node (by simp [Ne.symm n8,dk]) (o4.out.node (by simp) hk);have hg5 := o5.node (by simp [Ne.symm n9,dg]) (o4.out.node (by simp) hg);have H5 : Hid (NodeAt w5 tb { yt with up := upOf c } ∧ Arnd w5 t fat lv c tb ∧ NodeAt w5 n x ∧ NodeAt w5 sb ys ∧ NodeAt w5 kb yk ∧ NodeAt w5 gb yg ∧ Only [tb,headOf t c] w w5) := ⟨ht5,ha5,hn5,hs5,hk5,hg5,(o4.out.mono (by simp)).trans o5⟩;clear ht5 ha5 hn5 hs5 hk5 hg5 o5 o4 hn ht hs hk hg ha HN;go_wp2_with fail
 obtain ⟨ht5,ha5,hn5,hs5,hk5,hg5,o5⟩ := H5.out;refine (y1s n sb gb x ys yg w5 (Ne.symm n2) (Ne.symm n4) n13 hn5 hs5 hg5 b1 (by omega) b5 (by omega)).mono ?_;rintro e w6 ⟨rfl,hn6,hs6,hg6,o6⟩;have ht6 := o6.node (by simp [Ne.symm n1,n7,n9]) ht5;have hk6 := o6.node (by simp [Ne.symm n3,Ne.symm n12,n16]) hk5;have ha6 := ha5.only o6 (fun b hb => (far4 b hb).1);have H6 : Hid (NodeAt w6 tb _ ∧ Arnd w6 t fat lv c tb ∧ NodeAt w6 n _ ∧ NodeAt w6 sb _ ∧ NodeAt w6 kb yk ∧ NodeAt w6 gb _ ∧ Only [tb,headOf t c,n,sb,gb] w w6) := ⟨ht6,ha6,hn6,hs6,hk6,hg6,(o5.mono (by simp)).trans (o6.mono (by simp))⟩;clear ht5 ha5 hn5 hs5 hk5 hg5 o5 H5 ht6 ha6 hn6 hs6 hk6 hg6 o6;go_wp2_with fail
 obtain ⟨ht6,ha6,hn6,hs6,hk6,hg6,o6⟩ := H6.out;have hb := yh1 b1 b2 b5 b6;refine (y1s tb n kb _ _ yk w6 n1 (Ne.symm n8) n3 ht6 hn6 hk6 (show 0 ≤ hnX ys yg from hb.1) (show hnX ys yg ≤ 1000000 by omega) b3 (by omega)).mono ?_;rintro e w7 ⟨rfl,ht7,hn7,hk7,o7⟩;have hs7 := o7.node (by simp [Ne.symm n2,Ne.symm n7,n12]) hs6;have hg7 := o7.node (by simp [Ne.symm n4,Ne.symm n9,Ne.symm n16]) hg6;have ha7 := ha6.only o7 (fun b hb => (far4 b hb).2);have H7 : Hid (NodeAt w7 tb _ ∧ NodeAt w7 n _ ∧ NodeAt w7 sb _ ∧ NodeAt w7 gb _ ∧ NodeAt w7 kb _ ∧ Arnd w7 t fat lv c tb ∧ Only [tb,headOf t c,n,sb,gb,kb] w w7) := ⟨ht7,hn7,hs7,hg7,hk7,ha7,(o6.mono (by simp)).trans (o7.mono (by simp))⟩;clear ht6 ha6 hn6 hs6 hk6 hg6 o6 H6 ht7 ha7 hn7 hs7 hk7 hg7 o7;go_wp2_with fail
 go_ret
 exact ⟨rfl,H7.out⟩
theorem y88 (b : Nat) (l r : Tr) (u : Option Nat) : (Tr.node b l r).nd u = ⟨0,bx0,bothX l.room r.room,1 + greater l.high r.high,u,some l.root,some r.root⟩ := rfl
theorem yd7 (b : Nat) (l r : Tr) : (Tr.node b l r).room = bothX l.room r.room := rfl
theorem yjk (b : Nat) (l r : Tr) : (Tr.node b l r).high = 1 + greater l.high r.high := rfl
theorem y8u (b : Nat) (l r : Tr) : (Tr.node b l r).root = b := rfl
def rot (n : Nat) (s : Tr) : Tr → Tr
 | ⟨tb,.inr (kl,kr)⟩ => if kl.high < kr.high then .node tb (.node n s kl) kr else .node tb (.node n s kr) kl
 | T => T
def levelT (n : Nat) (l r : Tr) : Tr :=
 if l.high < r.high then (if r.high ≤ l.high + 1 then .node n l r else rot n l r) else (if l.high ≤ r.high + 1 then .node n l r else rot n r l)
theorem y8m {k g s c : List Nat} (nd : (n :: tb :: (k ++ (g ++ (s ++ (t :: c))))).Nodup) :
  n ≠ tb ∧ (∀ x ∈ k,x ≠ n ∧ x ≠ tb ∧ (∀ y ∈ g,x ≠ y) ∧ (∀ y ∈ s,x ≠ y) ∧ (∀ y ∈ t :: c,x ≠ y)) ∧ (∀ x ∈ g,x ≠ n ∧ x ≠ tb ∧ (∀ y ∈ s,x ≠ y) ∧ (∀ y ∈ t :: c,x ≠ y)) ∧ (∀ x ∈ s,x ≠ n ∧ x ≠ tb ∧ (∀ y ∈ t :: c,x ≠ y)) ∧ (∀ y ∈ t :: c,n ≠ y ∧ tb ≠ y) ∧ k.Nodup ∧ g.Nodup ∧ s.Nodup ∧ (t :: c).Nodup := by
 rw [List.nodup_cons,List.nodup_cons,List.nodup_append,List.nodup_append,List.nodup_append] at nd;obtain ⟨h1,h2,hk,⟨hg,⟨hs,hc,d3⟩,d2⟩,d1⟩ := nd;simp only [zrd,List.mem_append,not_or] at h1 h2 d1 d2
 refine ⟨h1.1,fun x hx => ⟨fun e => h1.2.1 (e ▸ hx),fun e => h2.1 (e ▸ hx),fun y hy => d1 x hx y (Or.inl hy),fun y hy => d1 x hx y (Or.inr (Or.inl hy)),fun y hy => d1 x hx y (Or.inr (Or.inr (by simpa using hy)))⟩,
  fun x hx => ⟨fun e => h1.2.2.1 (e ▸ hx),fun e => h2.2.1 (e ▸ hx),fun y hy => d2 x hx y (Or.inl hy),fun y hy => d2 x hx y (Or.inr (by simpa using hy))⟩,
  fun x hx => ⟨fun e => h1.2.2.2.1 (e ▸ hx),fun e => h2.2.2.1 (e ▸ hx),fun y hy => d3 x hx y hy⟩,fun y hy => ?_,hk,hg,hs,hc⟩
 simp only [zrd] at hy;rcases hy with rfl | hy
 ·exact ⟨h1.2.2.2.2.1,h2.2.2.2.1⟩
 ·exact ⟨fun e => h1.2.2.2.2.2 (e ▸ hy),fun e => h2.2.2.2.2 (e ▸ hy)⟩
theorem turn_in {w' : World} (nd : (n :: tb :: (k.blocks ++ (g.blocks ++ (s.blocks ++ (t :: cblocks c))))).Nodup)
  (hs : In w u1 s) (hk : In w u2 k) (hg : In w u3 g) (ps : NodeAt w' s.root (s.nd (some n))) (pg : NodeAt w' g.root (g.nd (some n))) (pk : NodeAt w' k.root (k.nd (some tb)))
  (pn : NodeAt w' n ((Tr.node n s g).nd (some tb))) (pt : NodeAt w' tb ((Tr.node tb (.node n s g) k).nd (upOf c))) (o : Only [tb,headOf t c,n,s.root,g.root,k.root] w w') :
  In w' (upOf c) (.node tb (.node n s g) k) := by
 obtain ⟨_,dk,dg,ds,_,nk,ng,ns,_⟩ := y8m nd;have hd := y1j t c;refine ⟨pt,⟨pn,hs.reroot o (fun b hb hr => ?_) ns ps,hg.reroot o (fun b hb hr => ?_) ng pg⟩,hk.reroot o (fun b hb hr => ?_) nk pk⟩
 ·have q := ds b hb
  simp only [zrd,List.not_mem_nil,or_false,not_or];exact ⟨q.2.1,q.2.2 _ hd,q.1,hr,fun e => (dg _ (y0m g)).2.2.1 b hb e.symm,fun e => (dk _ (y0m k)).2.2.2.1 b hb e.symm⟩
 ·have q := dg b hb
  simp only [zrd,List.not_mem_nil,or_false,not_or];exact ⟨q.2.1,q.2.2.2 _ hd,q.1,q.2.2.1 _ (y0m s),hr,fun e => (dk _ (y0m k)).2.2.1 b hb e.symm⟩
 ·have q := dk b hb
  simp only [zrd,List.not_mem_nil,or_false,not_or];exact ⟨q.2.1,q.2.2.2.2 _ hd,q.1,q.2.2.2.1 _ (y0m s),q.2.2.1 _ (y0m g),hr⟩
theorem y4l (nd : (n :: tb :: (k.blocks ++ (g.blocks ++ (s.blocks ++ (t :: cblocks c))))).Nodup) : (n :: tb :: s.root :: k.root :: g.root :: t :: cblocks c).Nodup := by
 obtain ⟨h0,dk,dg,ds,dc,_,_,_,nc⟩ := y8m nd;have a1 := ds _ (y0m s); have a2 := dk _ (y0m k); have a3 := dg _ (y0m g);have m : ∀ {x : Nat},(∀ y ∈ t :: cblocks c,x ≠ y) → x ∉ t :: cblocks c := fun h hx => h _ hx rfl;refine List.nodup_cons.2 ⟨?_,List.nodup_cons.2 ⟨?_,List.nodup_cons.2 ⟨?_,List.nodup_cons.2 ⟨?_,List.nodup_cons.2 ⟨?_,nc⟩⟩⟩⟩⟩
 ·simp only [zrd,not_or]
  have q := m (x := n) (fun y hy => (dc y hy).1); simp only [zrd,not_or] at q;exact ⟨h0,Ne.symm a1.1,Ne.symm a2.1,Ne.symm a3.1,q⟩
 ·simp only [zrd,not_or]
  have q := m (x := tb) (fun y hy => (dc y hy).2); simp only [zrd,not_or] at q;exact ⟨Ne.symm a1.2.1,Ne.symm a2.2.1,Ne.symm a3.2.1,q⟩
 ·simp only [zrd,not_or]
  have q := m a1.2.2; simp only [zrd,not_or] at q;exact ⟨fun e => a2.2.2.2.1 _ (y0m s) e.symm,fun e => a3.2.2.1 _ (y0m s) e.symm,q⟩
 ·simp only [zrd,not_or]
  have q := m a2.2.2.2.2; simp only [zrd,not_or] at q;exact ⟨a2.2.2.1 _ (y0m g),q⟩
 ·exact m a3.2.2.2
def LevelPost (w : World) (t : Nat) (fat : Int) (lv : Option Nat) (c : List Fr) (D : List Nat) (T : Tr) (e : Ending) (w' : World) : Prop :=
 e = .returned (.pointer (some ⟨T.root,0,none⟩)) ∧ In w' (upOf c) T ∧ Arnd w' t fat lv c T.root ∧ Only D w w'
theorem y5z {kl kr : Tr} {fat : Int} {lv : Option Nat} {D : List Nat} (nd : (n :: tb :: (k.blocks ++ (g.blocks ++ (s.blocks ++ (t :: cblocks c))))).Nodup)
  {x : Nd} (xi : x.id = 0) (xb : x.box = bx0)
  (hs : In w u1 s) (hk : In w u2 k) (hg : In w u3 g) (hD : ∀ b ∈ n :: tb :: (k.blocks ++ (g.blocks ++ (s.blocks ++ (t :: cblocks c)))),b ∈ D) (e : Ending) (w' : World)
  (h : e = .returned (.pointer (some (Y tb 0))) ∧
   NodeAt w' tb { (Tr.node tb kl kr).nd (some n) with up := upOf c,l := some n,r := some k.root,room := bothX (rnX (s.nd u1) (g.nd u3)) (k.nd u2).room,high := 1 + greater (hnX (s.nd u1) (g.nd u3)) (k.nd u2).high } ∧
   NodeAt w' n { x with up := some tb,l := some s.root,r := some g.root,room := rnX (s.nd u1) (g.nd u3),high := hnX (s.nd u1) (g.nd u3) } ∧
   NodeAt w' s.root { s.nd u1 with up := some n } ∧ NodeAt w' g.root { g.nd u3 with up := some n } ∧ NodeAt w' k.root { k.nd u2 with up := some tb } ∧ Arnd w' t fat lv c tb ∧ Only [tb,headOf t c,n,s.root,g.root,k.root] w w') :
  LevelPost w t fat lv c D (.node tb (.node n s g) k) e w' := by
 obtain ⟨he,pt,pn,ps,pg,pk,ha,o⟩ := h;rw [nd_up] at ps pg pk;refine ⟨he,turn_in nd hs hk hg ps pg pk ?_ ?_ o,ha,o.mono (fun b hb => Or.inl (hD b ?_))⟩
 ·have : { x with up := some tb,l := some s.root,r := some g.root,room := rnX (s.nd u1) (g.nd u3),high := hnX (s.nd u1) (g.nd u3) } = (Tr.node n s g).nd (some tb) := by
   simp only [y88,rnX,hnX,y3w,y1l,xi,xb]
  rw [← this]; exact pn
 ·have : { (Tr.node tb kl kr).nd (some n) with up := upOf c,l := some n,r := some k.root,room := bothX (rnX (s.nd u1) (g.nd u3)) (k.nd u2).room,high := 1 + greater (hnX (s.nd u1) (g.nd u3)) (k.nd u2).high } = (Tr.node tb (.node n s g) k).nd (upOf c) := by
   simp only [y88,yd7,yjk,y8u,rnX,hnX,y3w,y1l]
  rw [← this]; exact pt
 ·simp only [zrd,List.not_mem_nil,or_false] at hb
  simp only [zrd,List.mem_append];have hd := y1j t c;simp only [zrd] at hd;rcases hb with rfl | rfl | rfl | rfl | rfl | rfl
  ·simp
  ·simp [hd]
  ·simp
  ·simp [y0m s]
  ·simp [y0m g]
  ·simp [y0m k]
theorem y9x (t n : Nat) (l r : Tr) (fat : Int) (lv : Option Nat) (c : List Fr) (w : World) (nd : ((Tr.node n l r).blocks ++ (t :: cblocks c)).Nodup) (hi : In w (upOf c) (.node n l r)) (ha : Arnd w t fat lv c n) (bl : l.high ≤ 900) (br : r.high ≤ 900) :
  Calls Tryz.prog 151 #[.pointer (some (Y t 0)),.pointer (some (Y n 0))] w (LevelPost w t fat lv c ((Tr.node n l r).blocks ++ (t :: cblocks c)) (levelT n l r)) := by
 obtain ⟨hn,hl,hr⟩ := hi;have pl := y0a l; have pr := y0a r;have el : ((Tr.node n l r).nd (upOf c)).l = some l.root := rfl;have er : ((Tr.node n l r).nd (upOf c)).r = some r.root := rfl;have nl := y1l (some n) l; have nr := y1l (some n) r;unfold levelT;by_cases h1 : l.high < r.high
 ·rw [if_pos h1]
  by_cases h2 : r.high ≤ l.high + 1
  ·rw [if_pos h2]
   refine (yef t n l.root r.root _ _ _ w el er hn hl.node hr.node (by omega) (by omega) (by omega) (by omega) (by omega) (by omega)).mono ?_;rintro e w' ⟨rfl,o⟩;exact ⟨rfl,⟨o.node (by simp) hn,hl.only o (by simp),hr.only o (by simp)⟩,ha.only o (by simp),o.mono (by simp)⟩
  ·rw [if_neg h2]
   cases r using Tr.cs with
   | leaf => simp only [Tr.high] at h1 h2; omega
   | node tb kl kr =>
    obtain ⟨ht,hkl,hkr⟩ := hr;have hh : (Tr.node tb kl kr).high = 1 + greater kl.high kr.high := rfl;have gg : kl.high ≤ greater kl.high kr.high ∧ kr.high ≤ greater kl.high kr.high := by unfold greater; split <;> omega
    have p1 := y0a kl; have p2 := y0a kr;have q1 := y1l (some tb) kl; have q2 := y1l (some tb) kr;simp only [rot];by_cases h3 : kl.high < kr.high
    ·rw [if_pos h3]
     have pm : (n :: tb :: (kr.blocks ++ (kl.blocks ++ (l.blocks ++ (t :: cblocks c))))).Perm ((Tr.node n l (.node tb kl kr)).blocks ++ (t :: cblocks c)) := by
      simp only [Tr.blocks,List.cons_append,List.append_assoc]; grind
     have nd' := pm.symm.nodup nd;refine (yco t n tb l.root kr.root kl.root _ _ _ _ _ fat lv c w el er rfl rfl rfl (y4l nd') hn ht hl.node hkr.node hkl.node ha (by omega) (by omega) (by omega) (by omega) (by omega) (by omega) (by omega) (by omega)).mono ?_;intro e w' h;exact y5z nd' rfl rfl hl hkr hkl (fun b hb => pm.mem_iff.1 hb) e w' h
    ·rw [if_neg h3]
     have pm : (n :: tb :: (kl.blocks ++ (kr.blocks ++ (l.blocks ++ (t :: cblocks c))))).Perm ((Tr.node n l (.node tb kl kr)).blocks ++ (t :: cblocks c)) := by
      simp only [Tr.blocks,List.cons_append,List.append_assoc]; grind
     have nd' := pm.symm.nodup nd;refine (yck t n tb l.root kl.root kr.root _ _ _ _ _ fat lv c w el er rfl rfl rfl (y4l nd') hn ht hl.node hkl.node hkr.node ha (by omega) (by omega) (by omega) (by omega) (by omega) (by omega) (by omega) (by omega)).mono ?_;intro e w' h;exact y5z nd' rfl rfl hl hkl hkr (fun b hb => pm.mem_iff.1 hb) e w' h
 ·rw [if_neg h1]
  by_cases h2 : l.high ≤ r.high + 1
  ·rw [if_pos h2]
   refine (yej t n l.root r.root _ _ _ w el er hn hl.node hr.node (by omega) (by omega) (by omega) (by omega) (by omega) (by omega)).mono ?_;rintro e w' ⟨rfl,o⟩;exact ⟨rfl,⟨o.node (by simp) hn,hl.only o (by simp),hr.only o (by simp)⟩,ha.only o (by simp),o.mono (by simp)⟩
  ·rw [if_neg h2]
   cases l using Tr.cs with
   | leaf => simp only [Tr.high] at h1 h2; omega
   | node tb kl kr =>
    obtain ⟨ht,hkl,hkr⟩ := hl;have hh : (Tr.node tb kl kr).high = 1 + greater kl.high kr.high := rfl;have gg : kl.high ≤ greater kl.high kr.high ∧ kr.high ≤ greater kl.high kr.high := by unfold greater; split <;> omega
    have p1 := y0a kl; have p2 := y0a kr;have q1 := y1l (some tb) kl; have q2 := y1l (some tb) kr;simp only [rot];by_cases h3 : kl.high < kr.high
    ·rw [if_pos h3]
     have pm : (n :: tb :: (kr.blocks ++ (kl.blocks ++ (r.blocks ++ (t :: cblocks c))))).Perm ((Tr.node n (.node tb kl kr) r).blocks ++ (t :: cblocks c)) := by
      simp only [Tr.blocks,List.cons_append,List.append_assoc]; grind
     have nd' := pm.symm.nodup nd;refine (ycp t n tb r.root kr.root kl.root _ _ _ _ _ fat lv c w el er rfl rfl rfl (y4l nd') hn ht hr.node hkr.node hkl.node ha (by omega) (by omega) (by omega) (by omega) (by omega) (by omega) (by omega) (by omega)).mono ?_;intro e w' h;exact y5z nd' rfl rfl hr hkr hkl (fun b hb => pm.mem_iff.1 hb) e w' h
    ·rw [if_neg h3]
     have pm : (n :: tb :: (kl.blocks ++ (kr.blocks ++ (r.blocks ++ (t :: cblocks c))))).Perm ((Tr.node n (.node tb kl kr) r).blocks ++ (t :: cblocks c)) := by
      simp only [Tr.blocks,List.cons_append,List.append_assoc]; grind
     have nd' := pm.symm.nodup nd;refine (ybj t n tb r.root kl.root kr.root _ _ _ _ _ fat lv c w el er rfl rfl rfl (y4l nd') hn ht hr.node hkl.node hkr.node ha (by omega) (by omega) (by omega) (by omega) (by omega) (by omega) (by omega) (by omega)).mono ?_;intro e w' h;exact y5z nd' rfl rfl hr hkl hkr (fun b hb => pm.mem_iff.1 hb) e w' h
end Go.Proofs.YtbenlgandjjopaaGreatDoor
