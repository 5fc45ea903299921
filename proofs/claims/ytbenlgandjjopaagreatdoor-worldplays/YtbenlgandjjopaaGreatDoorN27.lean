/- . -/
import Derived.Test.YtbenlgandjjopaaGreatDoorN26
import Derived.Laws.AppendOwn
import Derived.Laws.CopyRow
open List renaming getElem?_toArray → zqg
open Go.Value renaming int → J
open Go.IntKind renaming i64 → U
open List renaming mem_singleton → zrc,mem_cons → zrd
namespace Go.Proofs.YtbenlgandjjopaaGreatDoor
set_option maxRecDepth 100000
set_option maxHeartbeats 4000000
open Go.ChangeShapes Go.WideShapes Go.ChangeAt Go.RowKit
set_option linter.unusedVariables false
set_option linter.unusedSimpArgs false
variable {n g i x cap m : Nat} {w wr w' : World} {E : List Nat} {B C : Nat → Bd} {a : Option Addr} {cur : List Value} {c : Wc} {la st : Int}
theorem y23 (x y z m : Int) (w : World) (h : 0 ≤ m) (h' : m ≤ 9223372036854775807) : Calls Tryz.prog 37 #[.agg #[I x,I y,I z],I m] w fun e w' => e = .returned (.bool (beyX m x y z)) ∧ Kept w w' := by
 have HM : Hid (bound m = m ∧ m ≤ 9223372036854775807) := ⟨by unfold bound; rw [if_neg (by omega)],h'⟩;have HB : Hid (beyX m x y z = !decide (cl m x = x ∧ cl m y = y ∧ cl m z = z)) := rfl;clear h h';go_enter Tryz.func37,Tryz.ntmps37
 go_upto_region 1 with fail
 have H1 : Hid (BeyRAt w.heap.size (I x) (I y) (I z) (w.alloc (.cells #[I x,I y,I z] 23)) ∧ Kept w (w.alloc (.cells #[I x,I y,I z] 23))) := by
  refine ⟨⟨?_,?_,?_⟩,(Kept.refl w).alloc _ _⟩ <;> go_simp
 revert H1;generalize w.heap.size = kb;generalize World.alloc w _ = w1;intro H1;refine wp_region_held_drew (S := (fun w' => Kept w1 w' ∧ Zc w' kb 0 x ∧ Zc w' kb 1 y ∧ Zc w' kb 2 z)) (by kernel_rfl) ?_ (fun hJ1 => ?_)
 ·exact BeyRAt.start H1.out.1
 refine tkU 0 (h:=tkU 1 (h:=tkV 3 ?_));try simp only [zP]
 refine rdW 2 rfl fun K hK => ?_;simp only [zQ];go_simp
 (go_at_call 33; refine (y0n _ _ _ _ _ HM.out.2).mono ?_; rintro e w2 ⟨rfl,k2⟩; rw [HM.out.1])
 try go_wp2_with fail
 refine hK.out _ _ ?_ fun hJ2 => ?_
 ·exact BeyR.step k2 hJ1
 clear hK K hJ1;try simp only [zP]
 refine tkW (v := .bool (beyX m x y z)) 4 rfl ?_ (by intro w'' hSw; (try dsimp only at hSw); simp only [zQ]; exact (by rw [HB.out]; exact y6s (j := 7) (k := 8) rfl (by kernel_rfl) (by kernel_rfl)));try simp only [zP]
 refine tkV 5 ?_;try simp only [zP]
 refine wpAnyH_done (by kernel_rfl) ?_ _;go_wp2_with fail
 go_ret
 exact ⟨rfl,H1.out.2.trans hJ2.1⟩
theorem y53 (x : Nat) (c : Wc) (a : Option Addr) (n cap : Nat) (la st : Int) (w : World) (hw : RwAt w x c a n cap la st) :
  Calls Tryz.prog 5 #[.pointer (some (Y x 0))] w fun e w' => e = .returned (I (newW c)) ∧ Only [] w w' := by
 have HW : Hid (RwAt w x c a n cap la st) := hw;clear hw;have HS : Hid (∀ w',Only [] w w' → Only [] w w' ∧ w'.cell? (Y x 0) = some (I c.fx) ∧ w'.cell? (Y x 1) = some (I c.fy) ∧ w'.cell? (Y x 2) = some (I c.fz) ∧ w'.cell? (Y x 6) = some (I c.qt)) := fun w' o => ⟨o,(HW.out.only o (by simp)).off 0,(HW.out.only o (by simp)).off 1,(HW.out.only o (by simp)).off 2,(HW.out.only o (by simp)).off 6⟩;have HM : Hid (bound 6553600 = 6553600) := by unfold Hid bound; decide
 go_enter Tryz.func5,Tryz.ntmps5
 go_upto_region 1 with fail
 cases hb : beyX 6553600 c.fx c.fy c.fz with
 | true =>
  have HN : Hid (newW c = 2) := by unfold Hid newW; rw [if_neg (by rw [hb]; simp)]
  have HB : Hid (true = !decide (cl 6553600 c.fx = c.fx ∧ cl 6553600 c.fy = c.fy ∧ cl 6553600 c.fz = c.fz)) := hb.symm;clear hb;refine wp_region_held_drew (S := (fun w' => Only [] w w' ∧ Zc w' x 0 c.fx ∧ Zc w' x 1 c.fy ∧ Zc w' x 2 c.fz ∧ Zc w' x 6 c.qt)) (by kernel_rfl) ?_ (fun hJ1 => ?_)
  ·exact HS.out _ (Only.refl _ _).drew
  refine tkU 0 (h:=tkU 1 (h:=tkU 2 (h:=tkV 3 ?_)));try simp only [zP]
  refine tkU 5 (h:=tkU 6 (h:=tkU 7 (h:=tkV 8 ?_)));try simp only [zP]
  refine rdW 4 rfl fun K hK => ?_;simp only [zQ];go_simp
  (go_at_call 33; refine (y0n _ _ _ _ _ (by decide)).mono ?_; rintro e w2 ⟨rfl,k2⟩; rw [HM.out])
  try go_wp2_with fail
  refine hK.out _ _ ?_ fun hJ2 => ?_
  ·exact HS.out _ (hJ1.1.trans (Only.of_kept k2))
  clear hK K hJ1;try simp only [zP]
  refine tkW (v := .bool true) 9 rfl ?_ (by intro w'' hSw; (try dsimp only at hSw); simp only [zQ]; exact (by rw [HB.out]; exact y6s (j := 7) (k := 11) rfl (by kernel_rfl) (by kernel_rfl)));try simp only [zP]
  refine tkV 10 ?_;try simp only [zP]
  refine skW 11 rfl ?_; refine skW 12 rfl ?_; refine skW 13 rfl ?_; refine skW 14 rfl ?_;try simp only [zP]
  refine skW 15 rfl ?_;try simp only [zP]
  refine tkU 16 (h:=tkV 17 ?_);try simp only [zP]
  refine skW 18 rfl ?_; refine skW 19 rfl ?_; refine skW 20 rfl ?_; refine skW 21 rfl ?_;try simp only [zP]
  refine skW 22 rfl ?_;try simp only [zP]
  refine tkV 23 ?_;try simp only [zP]
  refine wpAnyH_done (by kernel_rfl) ?_ _;go_wp2_with fail
  go_ret
  exact ⟨by rw [HN.out]; rfl,hJ2.1⟩
 | false =>
  have HB : Hid (false = !decide (cl 6553600 c.fx = c.fx ∧ cl 6553600 c.fy = c.fy ∧ cl 6553600 c.fz = c.fz)) := hb.symm;have HBY : Hid (beyX 6553600 c.fx c.fy c.fz = false) := hb;clear hb;by_cases h1 : c.qt < 0
  ·have HN : Hid (newW c = 2) := by unfold Hid newW; rw [if_neg (by unfold upX; simp; omega)]
   have d1 : decide (c.qt < 0) = true := by simpa using h1
   clear h1;refine wp_region_held_drew (S := (fun w' => Only [] w w' ∧ Zc w' x 0 c.fx ∧ Zc w' x 1 c.fy ∧ Zc w' x 2 c.fz ∧ Zc w' x 6 c.qt)) (by kernel_rfl) ?_ (fun hJ1 => ?_)
   ·exact HS.out _ (Only.refl _ _).drew
   refine tkU 0 (h:=tkU 1 (h:=tkU 2 (h:=tkV 3 ?_)));try simp only [zP]
   refine tkU 5 (h:=tkU 6 (h:=tkU 7 (h:=tkV 8 ?_)));try simp only [zP]
   refine rdW 4 rfl fun K hK => ?_;simp only [zQ];go_simp
   (go_at_call 33; refine (y0n _ _ _ _ _ (by decide)).mono ?_; rintro e w2 ⟨rfl,k2⟩; rw [HM.out])
   try go_wp2_with fail
   refine hK.out _ _ ?_ fun hJ2 => ?_
   ·exact HS.out _ (hJ1.1.trans (Only.of_kept k2))
   clear hK K hJ1;try simp only [zP]
   refine tkW (v := .bool false) 9 rfl ?_ (by intro w'' hSw; (try dsimp only at hSw); simp only [zQ]; exact (by rw [HB.out]; exact y6s (j := 7) (k := 11) rfl (by kernel_rfl) (by kernel_rfl)));try simp only [zP]
   refine tkV 10 ?_;try simp only [zP]
   refine tkU 11 (h:=tkU 12 (h:=tkU 13 (h:=tkV 14 ?_)));try simp only [zP]
   refine tkV 15 ?_;try simp only [zP]
   refine tkU 16 (h:=tkV 17 ?_);try simp only [zP]
   refine skW 18 rfl ?_; refine skW 19 rfl ?_; refine skW 20 rfl ?_; refine skW 21 rfl ?_;try simp only [zP]
   refine skW 22 rfl ?_;try simp only [zP]
   refine tkV 23 ?_;try simp only [zP]
   refine wpAnyH_done (by kernel_rfl) ?_ _;go_wp2_with fail
   go_ret
   exact ⟨by rw [HN.out]; rfl,hJ2.1⟩
  ·have d1 : decide (c.qt < 0) = false := by simpa using h1
   by_cases h2 : 60 < c.qt
   ·have HN : Hid (newW c = 2) := by unfold Hid newW; rw [if_neg (by unfold upX; simp; omega)]
    have d2 : decide (60 < c.qt) = true := by simpa using h2
    clear h1 h2;refine wp_region_held_drew (S := (fun w' => Only [] w w' ∧ Zc w' x 0 c.fx ∧ Zc w' x 1 c.fy ∧ Zc w' x 2 c.fz ∧ Zc w' x 6 c.qt)) (by kernel_rfl) ?_ (fun hJ1 => ?_)
    ·exact HS.out _ (Only.refl _ _).drew
    refine tkU 0 (h:=tkU 1 (h:=tkU 2 (h:=tkV 3 ?_)));try simp only [zP]
    refine tkU 5 (h:=tkU 6 (h:=tkU 7 (h:=tkV 8 ?_)));try simp only [zP]
    refine rdW 4 rfl fun K hK => ?_;simp only [zQ];go_simp
    (go_at_call 33; refine (y0n _ _ _ _ _ (by decide)).mono ?_; rintro e w2 ⟨rfl,k2⟩; rw [HM.out])
    try go_wp2_with fail
    refine hK.out _ _ ?_ fun hJ2 => ?_
    ·exact HS.out _ (hJ1.1.trans (Only.of_kept k2))
    clear hK K hJ1;try simp only [zP]
    refine tkW (v := .bool false) 9 rfl ?_ (by intro w'' hSw; (try dsimp only at hSw); simp only [zQ]; exact (by rw [HB.out]; exact y6s (j := 7) (k := 11) rfl (by kernel_rfl) (by kernel_rfl)));try simp only [zP]
    refine tkV 10 ?_;try simp only [zP]
    refine tkU 11 (h:=tkU 12 (h:=tkU 13 (h:=tkV 14 ?_)));try simp only [zP]
    refine tkV 15 ?_;try simp only [zP]
    refine tkU 16 (h:=tkV 17 ?_);try simp only [zP]
    refine tkU 18 (h:=tkU 19 (h:=tkU 20 (h:=tkV 21 ?_)));try simp only [zP]
    refine tkV 22 ?_;try simp only [zP]
    refine tkV 23 ?_;try simp only [zP]
    refine wpAnyH_done (by kernel_rfl) ?_ _;go_wp2_with fail
    go_ret
    exact ⟨by rw [HN.out]; rfl,hJ2.1⟩
   ·have HN : Hid (newW c = if rightX c.bo c.ru c.ro = true then 0 else 1) := by unfold Hid newW; rw [if_pos ⟨HBY.out,by unfold upX; simp; omega⟩]
    have d2 : decide (60 < c.qt) = false := by simpa using h2
    clear h1 h2;refine wp_region_held_drew (S := (fun w' => Only [] w w' ∧ Zc w' x 0 c.fx ∧ Zc w' x 1 c.fy ∧ Zc w' x 2 c.fz ∧ Zc w' x 6 c.qt)) (by kernel_rfl) ?_ (fun hJ1 => ?_)
    ·exact HS.out _ (Only.refl _ _).drew
    refine tkU 0 (h:=tkU 1 (h:=tkU 2 (h:=tkV 3 ?_)));try simp only [zP]
    refine tkU 5 (h:=tkU 6 (h:=tkU 7 (h:=tkV 8 ?_)));try simp only [zP]
    refine rdW 4 rfl fun K hK => ?_;simp only [zQ];go_simp
    (go_at_call 33; refine (y0n _ _ _ _ _ (by decide)).mono ?_; rintro e w2 ⟨rfl,k2⟩; rw [HM.out])
    try go_wp2_with fail
    refine hK.out _ _ ?_ fun hJ2 => ?_
    ·exact HS.out _ (hJ1.1.trans (Only.of_kept k2))
    clear hK K hJ1;try simp only [zP]
    refine tkW (v := .bool false) 9 rfl ?_ (by intro w'' hSw; (try dsimp only at hSw); simp only [zQ]; exact (by rw [HB.out]; exact y6s (j := 7) (k := 11) rfl (by kernel_rfl) (by kernel_rfl)));try simp only [zP]
    refine tkV 10 ?_;try simp only [zP]
    refine tkU 11 (h:=tkU 12 (h:=tkU 13 (h:=tkV 14 ?_)));try simp only [zP]
    refine tkV 15 ?_;try simp only [zP]
    refine tkU 16 (h:=tkV 17 ?_);try simp only [zP]
    refine tkU 18 (h:=tkU 19 (h:=tkU 20 (h:=tkV 21 ?_)));try simp only [zP]
    refine tkV 22 ?_;try simp only [zP]
    refine tkV 23 ?_;try simp only [zP]
    refine wpAnyH_done (by kernel_rfl) ?_ _;have HO : Hid (Only [] w w2) := hJ2.1;have s3 := (HW.out.only HO.out (by simp)).off 3; have s4 := (HW.out.only HO.out (by simp)).off 4; have s5 := (HW.out.only HO.out (by simp)).off 5;simp only [zR] at s3 s4 s5;clear hJ2;go_wp2_with fail
    refine (y6z _ _ _ _).mono ?_;rintro e w3 ⟨rfl,k3⟩;have H3 : Hid (Only [] w w3) := HO.out.trans (Only.of_kept k3);clear k3 s3 s4 s5 HO
    cases hr : rightX c.bo c.ru c.ro with
    | true =>
     have HR : Hid (rightX c.bo c.ru c.ro = true) := hr;clear hr;go_wp2_with fail
     go_ret
     exact ⟨by rw [HN.out,HR.out]; rfl,H3.out⟩
    | false =>
     have HR : Hid (rightX c.bo c.ru c.ro = false) := hr;clear hr;go_wp2_with fail
     go_ret
     exact ⟨by rw [HN.out,HR.out]; rfl,H3.out⟩
structure RfW (E : List Nat) (w : World) (x g : Nat) (c : Wc) (a : Option Addr) (n cap : Nat) (la st : Int) (C : Nat → Bd) (wr : World) : Prop where
 wa : RwAt wr x c a n cap la st
 own : OwnS wr a g n C
 glt : g < wr.heap.size
 xg : x ≠ g
 xnew : x ∈ E ∨ w.heap.size ≤ x
 gnew : g ∈ E ∨ w.heap.size ≤ g
 only : Only E w wr
 sl : SlArg a n cap
 nc : n ≤ cap
theorem RfW.keep (h : RfW E w x g c a n cap la st C wr) (o : Only [] wr w') : RfW E w x g c a n cap la st C w' :=
 ⟨h.wa.only o (by simp),h.own.only o (by simp),Nat.lt_of_lt_of_le h.glt o.size,h.xg,h.xnew,h.gnew,h.only.trans (o.mono (by simp)),h.sl,h.nc⟩
theorem RfW.turned {C' : Nat → Bd} (h : RfW E w x g c a n cap la st C wr) (ha : a = some (Y g 0)) (hO : OwnB w' g n C') (o : Only [g] wr w') : RfW E w x g c a n cap la st C' w' :=
 ⟨h.wa.only o (by simp only [zrc]; exact h.xg),Or.inr ⟨ha,hO⟩,Nat.lt_of_lt_of_le h.glt o.size,h.xg,h.xnew,h.gnew,h.only.then o (fun b hb => by simp only [zrc] at hb; rw [hb]; exact h.gnew),h.sl,h.nc⟩
def RPushPost (E : List Nat) (w0 : World) (x g : Nat) (c : Wc) (a : Option Addr) (n cap : Nat) (la st : Int) (B : Nat → Bd) (id v1 v2 v3 : Int) (e : Ending) (w' : World) : Prop :=
 (findX B id n = none ∧ e = .returned (J U 7) ∧ RfW E w0 x g c a n cap la st B w') ∨
 ∃ r,findX B id n = some r ∧
  ((beyX 6553600 v1 v2 v3 = true ∧ e = .returned (J U 2) ∧ RfW E w0 x g c a n cap la st B w') ∨
   (beyX 6553600 v1 v2 v3 = false ∧ e = .returned (J U 0) ∧ RfW E w0 x g c a n cap la st (upd B r (pushB (B r) v1 v2 v3)) w'))
theorem ybf (w0 : World) (x g : Nat) (c : Wc) (a : Option Addr) (n cap : Nat) (la st : Int) (B : Nat → Bd) (id v1 v2 v3 : Int) (w : World) (hn : n ≤ 60) (h : RfW E w0 x g c a n cap la st B w) :
  Calls Tryz.prog 12 #[.pointer (some (Y x 0)),I id,.agg #[I v1,I v2,I v3]] w (RPushPost E w0 x g c a n cap la st B id v1 v2 v3) := by
 have HW : Hid (RfW E w0 x g c a n cap la st B w ∧ n ≤ 60) := ⟨h,hn⟩;clear h hn;go_enter Tryz.func12,Tryz.ntmps12
 go_upto_region 1 with fail
 have H1 : Hid (VecAt (w.alloc (.cells #[I v1,I v2,I v3] 23)) w.heap.size v1 v2 v3 ∧ Only [] w (w.alloc (.cells #[I v1,I v2,I v3] 23)) ∧ w.heap.size ≠ g) := ⟨(MapKept.heap_alloc w _).1,(Only.refl [] w).alloc _,by have := HW.out.1.glt; omega⟩;revert H1;generalize w.heap.size = kv;generalize World.alloc w _ = w1;intro H1;have s7 := (HW.out.1.wa.only H1.out.2.1 (by simp)).off 7;simp only [zR] at s7;go_wp2_with fail
 refine (y1v a n cap B id w1 HW.out.2 (HW.out.1.keep H1.out.2.1).own.bodies).mono ?_;rintro e w2 ⟨rfl,k2⟩;have H2 : Hid (VecAt w2 kv v1 v2 v3 ∧ Only [] w w2 ∧ kv ≠ g) := ⟨H1.out.1.only (Only.of_kept (D := []) k2) (by simp),H1.out.2.1.trans (Only.of_kept k2),H1.out.2.2⟩;clear k2 H1 s7;obtain ⟨fx,hfx⟩ : ∃ fx,findX B id n = fx := ⟨_,rfl⟩;have HFX : Hid (findX B id n = fx ∧ ∀ r,fx = some r → r < n) := ⟨hfx,fun r e => (y0c (hfx.trans e)).1⟩;rw [hfx];clear hfx
 cases fx with
 | none =>
  simp only [numX];go_wp2_with fail
  go_ret
  exact Or.inl ⟨HFX.out.1,rfl,HW.out.1.keep H2.out.2.1⟩
 | some r =>
  simp only [numX];have e0 := H2.out.1.off 0; have e1 := H2.out.1.off 1; have e2 := H2.out.1.off 2;simp only [zR] at e0 e1 e2;have hr0 : ¬ ((r : Int) < 0) := by omega
  go_wp2_with fail
  refine (y23 _ _ _ _ _ (by decide) (by decide)).mono ?_;rintro e w3 ⟨rfl,k3⟩;have H3 : Hid (VecAt w3 kv v1 v2 v3 ∧ Only [] w w3 ∧ kv ≠ g) := ⟨H2.out.1.only (Only.of_kept (D := []) k3) (by simp),H2.out.2.1.trans (Only.of_kept k3),H2.out.2.2⟩;clear e0 e1 e2 k3 H2
  cases hb : beyX 6553600 v1 v2 v3 with
  | true =>
   have HBY : Hid (beyX 6553600 v1 v2 v3 = true) := hb;clear hb;go_wp2_with fail
   go_ret
   exact Or.inr ⟨r,HFX.out.1,Or.inl ⟨HBY.out,rfl,HW.out.1.keep H3.out.2.1⟩⟩
  | false =>
   have HBY : Hid (beyX 6553600 v1 v2 v3 = false) := hb;clear hb;have hr : r < n := HFX.out.2 r rfl;have hrl : (r : Int) < (n : Int) := by omega
   have hn := HW.out.2;have HW3 : Hid (RfW E w0 x g c a n cap la st B w3) := HW.out.1.keep H3.out.2.1
   obtain ⟨ha,hO⟩ : a = some (Y g 0) ∧ OwnB w3 g n B := by
    rcases HW3.out.own with q | q
    ·omega
    ·exact q
   have HO : Hid (OwnB w3 g n B ∧ a = some (Y g 0)) := ⟨hO,ha⟩;clear hO;subst ha;go_upto_region 6 with fail
   have HK : Hid (∀ w',Only [g] w3 w' → w'.cell? (Y x 7) = some (.slice (some (Y g 0)) n cap) ∧ w'.cell? (Y kv 0) = some (I v1) ∧ w'.cell? (Y kv 1) = some (I v2) ∧ w'.cell? (Y kv 2) = some (I v3)) := fun w' o => by
    have hk : kv ∉ [g] := by simp only [zrc]; exact H3.out.2.2
    exact ⟨(HW3.out.wa.only o (by simp only [zrc]; exact HW3.out.xg)).off 7,(H3.out.1.only o hk).off 0,(H3.out.1.only o hk).off 1,(H3.out.1.only o hk).off 2⟩
   have c12 := HO.out.1.cell hr (show 12 < 17 by omega); have c13 := HO.out.1.cell hr (show 13 < 17 by omega); have c14 := HO.out.1.cell hr (show 14 < 17 by omega);have f12 := HO.out.1.free (r * 17 + 12); have f13 := HO.out.1.free (r * 17 + 13); have f14 := HO.out.1.free (r * 17 + 14);simp only [bc] at c12 c13 c14;refine wp_region_held_drew (S := (fun w' => w'.cell? (Y x 7) = some (.slice (some (Y g 0)) n cap) ∧ Zc w' kv 0 v1 ∧ Zc w' kv 1 v2 ∧ Zc w' kv 2 v3)) (by kernel_rfl) ?_ (fun hJ1 => ?_)
   ·exact HK.out _ (Only.refl _ _).drew
   refine tkU 0 (h:=tkU 1 (h:=tkU 2 (h:=tkV 3 ?_)));try simp only [zP]
   refine tkU 4 (h:=tkU 5 (h:=tkU 6 (h:=tkV 7 ?_)));try simp only [zP]
   refine rdW 8 rfl fun K hK => ?_;simp only [zQ];go_simp;refine hK.out _ _ ?_ fun hJ2 => ?_
   ·exact HK.out _ (((((Only.refl [g] w3).drew).setCell (p := Y g (r * 17 + 12)) (Or.inl (by simp)) _).setCell (p := Y g (r * 17 + 13)) (Or.inl (by simp)) _).setCell (p := Y g (r * 17 + 14)) (Or.inl (by simp)) _)
   clear hK K;try simp only [zP]
   refine wpAnyH_done (by kernel_rfl) ?_ _
   have HF : Hid (OwnB (((w3.drew.setCell (Y g (r * 17 + 12)) (I v1)).setCell (Y g (r * 17 + 13)) (I v2)).setCell (Y g (r * 17 + 14)) (I v3)) g n (upd B r (pushB (B r) v1 v2 v3)) ∧ Only [g] w3 (((w3.drew.setCell (Y g (r * 17 + 12)) (I v1)).setCell (Y g (r * 17 + 13)) (I v2)).setCell (Y g (r * 17 + 14)) (I v3))) :=
    ⟨(HO.out.1.only (Only.refl [] w3).drew (by simp)).putPu hr v1 v2 v3,((((Only.refl [g] w3).drew).setCell (p := Y g (r * 17 + 12)) (Or.inl (by simp)) _).setCell (p := Y g (r * 17 + 13)) (Or.inl (by simp)) _).setCell (p := Y g (r * 17 + 14)) (Or.inl (by simp)) _⟩
   clear c12 c13 c14 f12 f13 f14 HK;go_wp2_with fail
   go_ret
   exact Or.inr ⟨r,HFX.out.1,Or.inr ⟨HBY.out,rfl,HW3.out.turned rfl HF.out.1 HF.out.2⟩⟩
def delB (B : Nat → Bd) (i : Nat) : Nat → Bd := fun j => if j < i then B j else B (j + 1)
def zeros17 : List Value := [J U 0,J U 0,J U 0,J U 0,J U 0,J U 0,J U 0,J U 0,J U 0,J U 0,J U 0,J U 0,J U 0,J U 0,J U 0,J U 0,J U 0]
def delNews (cur : List Value) (i n : Nat) : List Value := (cur.drop ((i + 1) * 17)).take ((n - 1 - i) * 17)
def delArr (cur : List Value) (i n : Nat) : List Value := cur.take (i * 17) ++ delNews cur i n ++ cur.drop (i * 17 + (delNews cur i n).length)
def delArr2 (cur : List Value) (n : Nat) : List Value := cur.take ((n - 1) * 17) ++ zeros17 ++ cur.drop ((n - 1) * 17 + 17)
theorem y26 (hi : i < n) (hs : n * 17 ≤ cur.length) : (delNews cur i n).length = (n - 1 - i) * 17 := by
 unfold delNews;rw [List.length_take,List.length_drop];omega
theorem y4u (hi : i < n) (hs : n * 17 ≤ cur.length) : (delArr cur i n).length = cur.length := by
 unfold delArr;simp only [List.length_append,List.length_take,List.length_drop,y26 hi hs];omega
theorem yku (hi : i < n) (hs : n * 17 ≤ cur.length) (hm : m < (n - 1) * 17) : (delArr cur i n)[m]? = if m < i * 17 then cur[m]? else cur[m + 17]? := by
 unfold delArr;rw [List.append_assoc];by_cases h : m < i * 17
 ·rw [if_pos h,List.getElem?_append_left (by rw [List.length_take]; omega),List.getElem?_take,if_pos h]
 ·rw [if_neg h,List.getElem?_append_right (by rw [List.length_take]; omega),List.length_take,List.getElem?_append_left (by rw [y26 hi hs]; omega)]
  unfold delNews;rw [List.getElem?_take,if_pos (by omega),List.getElem?_drop];congr 1;omega
theorem yhu (hs : n * 17 ≤ cur.length) (hm : m < (n - 1) * 17) : (delArr2 cur n)[m]? = cur[m]? := by
 unfold delArr2;rw [List.append_assoc,List.getElem?_append_left (by rw [List.length_take]; omega),List.getElem?_take,if_pos hm]
theorem yh9 {w : World} {g : Nat} {cur : Array Value} (hi : i < n) (hs : n * 17 ≤ cur.size) (hc : ∀ j,j < n → ∀ k,k < 17 → cur[j * 17 + k]? = some (bc (B j) k)) :
  ∀ j,j < n - 1 → ∀ k,k < 17 → (delArr2 (delArr cur.toList i n) n).toArray[j * 17 + k]? = some (bc (delB B i j) k) := by
 intro j hj k hk;have hm : j * 17 + k < (n - 1) * 17 := by omega
 rw [zqg,yhu (by rw [y4u hi (by simpa using hs)]; simpa using hs) hm,yku hi (by simpa using hs) hm];unfold delB;by_cases h : j < i
 ·rw [if_pos (by omega),if_pos h,Array.getElem?_toList]; exact hc j (by omega) k hk
 ·rw [if_neg (by omega),if_neg h,Array.getElem?_toList,show j * 17 + k + 17 = (j + 1) * 17 + k by omega]; exact hc (j + 1) (by omega) k hk
theorem OwnB.size {w : World} {g n : Nat} {B : Nat → Bd} {cur : Array Value} (hc : ∀ j,j < n → ∀ k,k < 17 → cur[j * 17 + k]? = some (bc (B j) k)) : n * 17 ≤ cur.size := by
 cases n with
 | zero => omega
 | succ n =>
  have := (Array.getElem?_eq_some_iff.1 (hc n (by omega) 16 (by omega))).1;omega
theorem Only.setRow {D : List Nat} {a w : World} (h : Only D a w) {g : Nat} (hg : g ∈ D ∨ a.heap.size ≤ g) (cs : Array Value) : Only D a (w.setRow g cs) :=
 ⟨h.os,h.tape,h.output,by simpa using h.size,fun b hb hD => by
  have hne : b ≠ g := fun e => by rcases hg with q | q; exact hD (e ▸ q); omega
  rw [← h.block b hb hD]
  simp only [World.setRow,Array.getElem?_modify,if_neg (fun e : g = b => hne e.symm)]⟩
theorem yeh (w : World) (ty : TypeId) (g m c : Nat) (cur : Array Value) (hg : w.heap[g]? = some (.cells cur 45 (0,0))) (hf : m * 17 + 17 ≤ cur.size) :
  (Builtin.clear_ #[36] ty #[.slice (some (Y g (m * 17))) 1 c]).run Tryz.prog w = .ok (.tuple #[]) (w.setRow g (cur.toList.take (m * 17) ++ zeros17 ++ cur.toList.drop (m * 17 + 17)).toArray) := by
 have hst := run_storeCells_at Tryz.prog g (m * 17) 45 zeros17 0 cur w hg (by simpa [zeros17] using hf) (by intro v hv; simp only [zeros17,zrd,List.not_mem_nil,or_false,or_self] at hv; rw [hv]; rfl);simp only [Nat.add_zero,show zeros17.length = 17 from rfl] at hst;have hz : (Builtin.zeroCells #[I 0,I 0,I 0,I 0,I 0,I 0,I 0,I 0,I 0,I 0,I 0,I 0,I 0,I 0,I 0,I 0,I 0] 1).toList = zeros17 := by kernel_rfl
 simp only [Builtin.clear_,Sem.run_bind];simp [run_underlying Tryz.underlying36,Tryz.zeroValue45,Value.cells,hz,hst]
theorem RfW.regrow {w0 : World} {w8 : World} (h : RfW E w0 x g c a n cap la st B w) (o : Only [] w w8) {a' : Option Addr} {g' n' cap' : Nat} (hS : OwnS w8 a' g' n' C) (hg : w.heap.size ≤ g') (hlt : g' < w8.heap.size) (hsl : SlArg a' n' cap') (hnc : n' ≤ cap') :
  RfW E w0 x g' c a' n' cap' la st C (w8.setCell (Y x 7) (.slice a' n' cap')) := by
 have ho : Only [x] w8 (w8.setCell (Y x 7) (.slice a' n' cap')) := (Only.refl [x] w8).setCell (p := Y x 7) (Or.inl (by simp)) _;have hx := h.wa.lt;have hxg : x ≠ g' := by omega
 exact ⟨(h.wa.only o (by simp)).slice a' n' cap',hS.only ho (by simp only [zrc]; exact fun e => hxg e.symm),Nat.lt_of_lt_of_le hlt ho.size,hxg,h.xnew,Or.inr (Nat.le_trans h.only.size hg),(h.only.trans (o.mono (by simp))).then ho (fun b hb => by simp only [zrc] at hb; rw [hb]; exact h.xnew),hsl,hnc⟩
theorem y9q {B C : Nat → Bd} : ∀ {n : Nat},(∀ j,j < n → B j = C j) → rowsL B n = rowsL C n
 | 0,_ => rfl
 | n + 1,h => by rw [rowsL,rowsL,y9q (fun j hj => h j (by omega)),h n (by omega)]
theorem ycx (B : Nat → Bd) (r : Nat) : ∀ m,rowsL B r ++ rowsL (fun j => B (r + 1 + j)) m = rowsL (delB B r) (r + m)
 | 0 => by
  rw [rowsL,List.append_nil,Nat.add_zero];exact y9q (fun j hj => by unfold delB; rw [if_pos hj])
 | m + 1 => by
  rw [rowsL,← List.append_assoc,ycx B r m,← Nat.add_assoc,rowsL];have : delB B r (r + m) = B (r + 1 + m) := by unfold delB; rw [if_neg (by omega)]; congr 1; omega
  rw [this]
theorem rowsBlock {base : Nat} {e : TypeId} {s : Nat} {v : Value} {xs : List Value} (h : w.ownsRow base e s v n xs) {k : Nat} (hk : v.ownBlock = some k) : base ≤ k := by
 obtain ⟨hl,⟨rfl,hn⟩ | ⟨g,cp,cur,rfl,hb,hh,h1,h2,h3,h4⟩⟩ := h
 ·simp [Value.ownBlock] at hk
 ·simp only [Value.ownBlock,Option.some.injEq] at hk
  omega
theorem Room.le {c : Nat} (h : Room w a n c) : n ≤ c := by
 rcases h with ⟨_,h1,h2⟩ | ⟨g,_,h1,_⟩
 ·omega
 ·exact h1
theorem BodiesAt.tail {r : Nat} (h : BodiesAt w (some (Y g 0)) n B) (hr : r < n) {ad : Addr} (had : r + 1 < n → ad = (Y g ((r + 1) * 17))) : BodiesAt w (some ad) (n - (r + 1)) (fun j => B (r + 1 + j)) := by
 intro j hj;obtain ⟨g',o',e,hc⟩ := h (r + 1 + j) (by omega);injection e with e
 injection e with e1 e2 e3;refine ⟨g,(r + 1) * 17,by rw [had (by omega)],fun k hk => ?_⟩;have := hc k hk;rw [← e1,← e2] at this;rw [show (r + 1) * 17 + j * 17 + k = 0 + (r + 1 + j) * 17 + k by omega];exact this
def RRemPost (E : List Nat) (w0 : World) (x g : Nat) (c : Wc) (a : Option Addr) (n cap : Nat) (la st : Int) (B : Nat → Bd) (id : Int) (e : Ending) (w' : World) : Prop :=
 (findX B id n = none ∧ e = .returned (J U 7) ∧ RfW E w0 x g c a n cap la st B w') ∨
 ∃ r,findX B id n = some r ∧ e = .returned (J U 0) ∧ ∃ g' a' cap',RfW E w0 x g' c a' (n - 1) cap' la st (delB B r) w'
theorem y8d (w0 : World) (x g : Nat) (c : Wc) (a : Option Addr) (n cap : Nat) (la st : Int) (B : Nat → Bd) (id : Int) (w : World) (hn : n ≤ 60) (h : RfW E w0 x g c a n cap la st B w) :
  Calls Tryz.prog 10 #[.pointer (some (Y x 0)),I id] w (RRemPost E w0 x g c a n cap la st B id) := by
 have HW : Hid (RfW E w0 x g c a n cap la st B w ∧ n ≤ 60) := ⟨h,hn⟩;clear h hn;go_enter Tryz.func10,Tryz.ntmps10
 have s7 := HW.out.1.wa.off 7;simp only [zR] at s7;go_wp2_with fail
 refine (y1v a n cap B id w HW.out.2 HW.out.1.own.bodies).mono ?_;rintro e w2 ⟨rfl,k2⟩;have H2 : Hid (Only [] w w2) := Only.of_kept k2;clear k2 s7;obtain ⟨fx,hfx⟩ : ∃ fx,findX B id n = fx := ⟨_,rfl⟩;have HFX : Hid (findX B id n = fx ∧ ∀ r,fx = some r → r < n) := ⟨hfx,fun r e => (y0c (hfx.trans e)).1⟩;rw [hfx];clear hfx
 cases fx with
 | none =>
  simp only [numX];go_wp2_with fail
  go_ret
  exact Or.inl ⟨HFX.out.1,rfl,HW.out.1.keep H2.out⟩
 | some r =>
  simp only [numX];have hr0 : ¬ ((r : Int) < 0) := by omega
  have hr : r < n := HFX.out.2 r rfl;have hn := HW.out.2;have hrl : (r : Int) < (n : Int) := by omega
  have HW2 : Hid (RfW E w0 x g c a n cap la st B w2) := HW.out.1.keep H2.out;have hnc0 := HW2.out.nc
  have ha : a = some (Y g 0) := by
   rcases HW2.out.own with q | q
   ·omega
   ·exact q.1
  subst ha;go_upto_region 4 with fail
  have hic : r ≤ cap := by omega
  have hnc : (n : Int) ≤ (cap : Int) := by omega
  have h01 : (0 : Int) ≤ (r : Int) + 1 := by omega
  have hi1 : (r : Int) + 1 ≤ (n : Int) := by omega
  obtain ⟨ad,had1,had2⟩ : ∃ ad : Addr,(if cap = r + 1 then some (Y g 0) else some (Y g ((r + 1) * 17))) = some ad ∧ (r + 1 < n → ad = (Y g ((r + 1) * 17))) := by
   by_cases e : cap = r + 1
   ·exact ⟨_,if_pos e,fun h => by omega⟩
   ·exact ⟨_,if_neg e,fun _ => rfl⟩
  have HAD : Hid ((if cap = r + 1 then some (Y g 0) else some (Y g ((r + 1) * 17))) = some ad) := had1;clear had1;have HWR : Hid (IntKind.i64.wrap ((r : Int) + 1) = (r : Int) + 1) := y3o (by omega) (by omega);refine y0v 17 (fun w' => w'.cell? (Y x 7) = some (.slice (some (Y g 0)) n cap)) (by kernel_rfl) ?_ (fun hJ1 => ?_)
  ·exact (HW2.out.wa.only (Only.refl [] w2).drew (by simp)).off 7
  refine tkF 0 rfl ?_; refine tkF 2 rfl ?_; refine tkF 3 rfl ?_; refine tkF 4 rfl ?_;try simp only [zP]
  refine tkF 5 rfl ?_; refine tkF 6 rfl ?_;try simp only [zP]
  refine tkF 7 rfl ?_;try simp only [zP]
  refine tkF 9 rfl ?_; refine tkF 10 rfl ?_; refine tkF 11 rfl ?_; refine tkF 12 rfl ?_;try simp only [zP]
  refine tkF 13 rfl ?_;try simp only [zP]
  refine tkF (v := I ((r : Int) + 1)) 14 rfl ?_ (by intro w'' hSw; (try dsimp only at hSw); simp only [zQ]; go_simp; rw [HWR.out]);try simp only [zP]
  refine tkF (v := .slice (some ad) (n - (r + 1)) (cap - (r + 1))) 15 rfl ?_ (by intro w'' hSw; (try dsimp only at hSw); simp only [zQ]; go_simp; rw [HAD.out]);try simp only [zP]
  refine y05 (rs := [1]) (by kernel_rfl) (by simp) ?_;refine AllReadyF.cons rfl (fun K hK => ?_) AllReadyF.nil;first | (with_reducible refine iteYes ?hcx ?htx; case hcx => kernel_rfl) | rw [if_pos (by rfl)]
  simp only [zQ];go_simp;refine hK.out _ _ ?_ fun hJ2 => ?_
  ·exact (HW2.out.wa.only ((Only.refl [] w2).drew.alloc _) (by simp)).off 7
  clear hK K;try simp only [zP]
  obtain ⟨i2,hi0,hz0,hz1,hz2⟩ := y0k bodyInfo
  have H7 : Hid (Only [] w2 (w2.alloc (.cells #[] 45)).drew ∧ (w2.alloc (.cells #[] 45)).drew.ownsRow w2.heap.size 45 17 (.slice (some (Y w2.heap.size 0)) 0 0) 0 [] ∧ w2.heap.size < (w2.alloc (.cells #[] 45)).drew.heap.size ∧ w2.heap.size ≤ w2.heap.size) :=
   ⟨((Only.refl [] w2).alloc _).drew,⟨rfl,Or.inr ⟨w2.heap.size,0,#[],rfl,Nat.le_refl _,(MapKept.heap_alloc w2 _).1,by omega,by unfold maxLen; omega,rfl,rfl⟩⟩,(Array.getElem?_eq_some_iff.1 (MapKept.heap_alloc w2 _).1).1,Nat.le_refl _⟩
  revert H7;generalize hkn : w2.heap.size = kn;generalize World.drew (World.alloc w2 _) = w7 at hJ2 ⊢;intro H7;have HKN : Hid (w2.heap.size = kn) := hkn;clear hkn;have hB7 : BodiesAt w7 (some (Y g 0)) n B := HW2.out.own.bodies.only H7.out.1;have hB1 : BodiesAt w7 (some (Y g 0)) r B := fun j hj => hB7 j (by omega);obtain ⟨v1,w8,hr8,hown1,hgrow1,hnil1,hloc1⟩ := run_append_own_at (P := Tryz.prog) w7 kn 36 36 45 i2 (.agg #[I 0,I 0,I 0,I 0,I 0,I 0,I 0,I 0,I 0,I 0,I 0,I 0,I 0,I 0,I 0,I 0,I 0]) 17 136 Tryz.underlying36 hi0 hz0 hz1 hz2 rfl (by decide) (.slice (some (Y kn 0)) 0 0) 0 [] H7.out.2.1 (Y g 0) r cap (rowsL B r) (y18 B r) (y2c hB1) (y1t B r) (by unfold maxLen; omega) (by omega) (by have := H7.out.2.2.1; omega);rw [Nat.zero_add,List.nil_append] at hown1;have o8 : Only [] w2 w8 := H7.out.1.grown hgrow1 (fun k hk => by simp [Value.ownBlock] at hk; exact Or.inr (by have := HKN.out; omega));have hB8 : BodiesAt w8 (some ad) (n - (r + 1)) (fun j => B (r + 1 + j)) := (HW2.out.own.bodies.only o8).tail hr had2;obtain ⟨v2,w9,hr9,hown2,hgrow2,hnil2,hloc2⟩ := run_append_own_at (P := Tryz.prog) w8 kn 36 36 45 i2 (.agg #[I 0,I 0,I 0,I 0,I 0,I 0,I 0,I 0,I 0,I 0,I 0,I 0,I 0,I 0,I 0,I 0,I 0]) 17 136 Tryz.underlying36 hi0 hz0 hz1 hz2 rfl (by decide) v1 r (rowsL B r) hown1 ad (n - (r + 1)) (cap - (r + 1)) (rowsL (fun j => B (r + 1 + j)) (n - (r + 1))) (y18 _ _) (y2c hB8) (y1t _ _) (by unfold maxLen; omega) (by omega) (by have := o8.size; have := HKN.out; omega);have o9 : Only [] w2 w9 := o8.grown hgrow2 (fun k hk => Or.inr (by have := rowsBlock hown1 hk; have := HKN.out; omega));rw [ycx,show r + (n - (r + 1)) = n - 1 by omega] at hown2;obtain ⟨a',g',c',rfl,hS,hgb,hsl⟩ := OwnS.of_rowN hown2;have hroom := Room.of_row hown2
  have H9 : Hid (Only [] w2 w8 ∧ Only [] w2 w9 ∧ ∃ g',RfW E w0 x g' c a' (n - 1) c' la st (delB B r) (w9.setCell (Y x 7) (.slice a' (n - 1) c'))) := by
   refine ⟨o8,o9,?_⟩;by_cases h0 : n - 1 = 0
   ·refine ⟨kn,HW2.out.regrow o9 (Or.inl h0) (Nat.le_of_eq HKN.out) ?_ hsl hroom.le⟩
    have h1 := H7.out.2.2.1;have h2 := hgrow1.size;have h3 := hgrow2.size;omega
   ·exact ⟨g',HW2.out.regrow o9 hS (by have := hgb h0; have := HKN.out; omega) (hS.lt h0) hsl hroom.le⟩
  clear hown1 hown2 hgrow1 hgrow2 hnil1 hnil2 hloc1 hloc2 hS hgb hsl hroom o8 o9 hB7 hB1 hB8 hi0 hz0 hz1 hz2;refine y05 (rs := [8]) (by kernel_rfl) (by simp) ?_;refine AllReadyF.cons rfl (fun K hK => ?_) AllReadyF.nil;first | (with_reducible refine iteYes ?hcx ?htx; case hcx => kernel_rfl) | rw [if_pos (by rfl)]
  refine y0z (s := .tmp 15) (x := .tmp 21) (t := 36) rfl (by kernel_rfl) (by kernel_rfl) hr8 ?_;refine hK.out _ _ ?_ fun hJ3 => ?_
  ·exact (HW2.out.wa.only H9.out.1 (by simp)).off 7
  clear hK K hJ2 hr8;try simp only [zP]
  refine y05 (rs := [16]) (by kernel_rfl) (by simp) ?_;refine AllReadyF.cons rfl (fun K hK => ?_) AllReadyF.nil;first | (with_reducible refine iteYes ?hcx ?htx; case hcx => kernel_rfl) | rw [if_pos (by rfl)]
  refine y0z (s := .tmp 22) (x := .tmp 29) (t := 36) rfl (by kernel_rfl) (by kernel_rfl) hr9 ?_;refine hK.out _ _ ?_ fun hJ4 => ?_
  ·exact (HW2.out.wa.only H9.out.2.1 (by simp)).off 7
  clear hK K hJ3 hr9;try simp only [zP]
  have c7 := (HW2.out.wa.only H9.out.2.1 (by simp)).off 7;have f7 := (HW2.out.wa.only H9.out.2.1 (by simp)).free 7;simp only [zR] at c7;refine y05 (rs := [17]) (by kernel_rfl) (by simp) ?_;refine AllReadyF.fin rfl (by decide) (fun K hK => ?_) AllReadyF.nil;first | (with_reducible refine iteYes ?hcx ?htx; case hcx => kernel_rfl) | rw [if_pos (by rfl)]
  simp only [zQ];go_simp;skip;refine hK.out _ _ ?_;clear hK K;try simp only [zP]
  refine y05 (rs := [18]) (by kernel_rfl) (by simp) ?_;refine AllReadyF.fin rfl (by decide) (fun K hK => ?_) AllReadyF.nil;first | (with_reducible refine iteYes ?hcx ?htx; case hcx => kernel_rfl) | rw [if_pos (by rfl)]
  simp only [zQ];go_simp;skip;refine hK.out _ _ ?_;clear hK K;try simp only [zP]
  refine y05 (rs := [19]) (by kernel_rfl) (by simp) ?_;refine AllReadyF.fin rfl (by decide) (fun K hK => ?_) AllReadyF.nil;first | (with_reducible refine iteYes ?hcx ?htx; case hcx => kernel_rfl) | rw [if_pos (by rfl)]
  simp only [zQ];go_simp;skip;refine hK.out _ _ ?_;clear hK K;try simp only [zP]
  refine y1f (by kernel_rfl) ?_ _;clear c7 f7 hJ4;go_wp2_with fail
  go_ret
  obtain ⟨g2,h2⟩ := H9.out.2.2;exact Or.inr ⟨r,HFX.out.1,rfl,g2,a',c',h2⟩
end Go.Proofs.YtbenlgandjjopaaGreatDoor
