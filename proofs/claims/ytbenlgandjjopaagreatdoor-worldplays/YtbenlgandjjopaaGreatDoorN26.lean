/- . -/
import Derived.Test.YtbenlgandjjopaaGreatDoorN25
open Go.Value renaming int → J
open Go.IntKind renaming i64 → U
open List renaming mem_singleton → zrc
namespace Go.Proofs.YtbenlgandjjopaaGreatDoor
set_option maxRecDepth 100000
set_option maxHeartbeats 8000000
open Go.ChangeShapes Go.WideShapes Go.ChangeAt Go.RowKit
set_option linter.unusedVariables false
set_option linter.unusedSimpArgs false
variable {w w' wr w0 : World} {n cap x g t kb : Nat} {a : Option Addr} {c : Wc} {la st : Int} {D E : List Nat} {B C C' : Nat → Bd} {q : Bd}
def numB (q : Bd) (k : Int) : Bd := { q with id := k }
def spawnC (c : Wc) (B : Nat → Bd) (n : Nat) (M : List (Int × Bx)) (la : Int) (q : Bd) : Int := if rightW q = 0 then (if 60 ≤ n ∨ satX B n q.ow c.qt = true then 4 else putC M (la + 1) (boxB (numB q (la + 1)))) else rightW q
def RowB (w : World) (a : Option Addr) (n cap : Nat) (B : Nat → Bd) : Prop := w.ownsRow 0 45 17 (.slice a n cap) n (rowsL B n)
def SpawnPost (E : List Nat) (w0 : World) (x : Nat) (c : Wc) (n t : Nat) (la st : Int) (B : Nat → Bd) (M : List (Int × Bx)) (q : Bd) (e : Ending) (w' : World) : Prop :=
 (spawnC c B n M la q = 0 → e = .returned (.tuple #[J U (la + 1),.nilIface]) ∧ ∃ g a cap D,WW E w0 x g c a (n + 1) cap t (la + 1) st (upd B n (numB q (la + 1))) (putM M (la + 1) (boxB (numB q (la + 1)))) D w' ∧ RowB w' a (n + 1) cap (upd B n (numB q (la + 1)))) ∧
 (spawnC c B n M la q ≠ 0 → e = .returned (.tuple #[J U 0,errV (spawnC c B n M la q)]) ∧ ∃ g a cap D,WW E w0 x g c a n cap t la st B M D w' ∧ RowB w' a n cap B ∧ Tied a g)
theorem RowB.only (h : RowB w a n cap B) (o : Only D w w') (s : ∀ g o s,a = some ⟨g,o,s⟩ → g ∉ D) : RowB w' a n cap B := by
 obtain ⟨hl,⟨e,hn⟩ | ⟨g,cp,cur,e,hb,hh,h1,h2,h3,h4⟩⟩ := h
 ·exact ⟨hl,Or.inl ⟨e,hn⟩⟩
 ·refine ⟨hl,Or.inr ⟨g,cp,cur,e,hb,(o.block g (Array.getElem?_eq_some_iff.1 hh).1 (s g 0 none ?_)).trans hh,h1,h2,h3,h4⟩⟩
  injection e
theorem SpawnPost.bad {M : List (Int × Bx)} {k : Int} (h : spawnC c B n M la q = k) (hk : k ≠ 0) (hw : WW E w0 x g c a n cap t la st B M D w') (hr : RowB w' a n cap B) (htd : Tied a g) :
  SpawnPost E w0 x c n t la st B M q (.returned (.tuple #[I 0,errV k])) w' :=
 ⟨fun e => absurd (h.symm.trans e) hk,fun _ => ⟨by rw [h],g,a,cap,D,hw,hr,htd⟩⟩
theorem ygn {i : Int} (h : 0 ≤ i) (k : i ≤ 10000000) : In64 i := by
 have e1 : IntKind.i64.min = -9223372036854775808 := rfl;have e2 : IntKind.i64.max = 9223372036854775807 := rfl;show (decide (IntKind.i64.min ≤ i) && decide (i ≤ IntKind.i64.max)) = true;rw [e1,e2]; simp; omega
theorem WorldAt.last (h : WorldAt w x c a n cap t la st) (la' : Int) : WorldAt (w.setCell (Y x 9) (I la')) x c a n cap t la' st := by
 unfold WorldAt at *;simp [World.setCell,Array.getElem?_modify,h]
theorem WW.apart {G : List Nat} {M : List (Int × Bx)} (h : WW E w x g c a n cap t la st C M D wr) (o : Only G wr w') (hx : x ∉ G) (hg : g ∉ G) (hD : ∀ b ∈ D,b ∉ G) (hE : ∀ b ∈ G,w.heap.size ≤ b) : WW E w x g c a n cap t la st C M D w' :=
 ⟨h.wa.only o hx,h.own.onlyN o (fun _ => hg),h.tree.only o hD,h.xD,h.gD,Nat.lt_of_lt_of_le h.glt o.size,h.xg,h.xnew,h.gnew,h.dnew,h.only.then o (fun b hb => Or.inr (hE b hb))⟩
theorem WW.last {E : List Nat} {w : World} {x g : Nat} {c : Wc} {a : Option Addr} {n cap t : Nat} {la st : Int} {C : Nat → Bd} {M : List (Int × Bx)} {D : List Nat} {wr : World} (h : WW E w x g c a n cap t la st C M D wr) (la' : Int) : WW E w x g c a n cap t la' st C M D (wr.setCell (Y x 9) (I la')) := by
 have o : Only [x] wr (wr.setCell (Y x 9) (I la')) := (Only.refl [x] wr).setCell (p := Y x 9) (Or.inl (by simp)) _;exact ⟨h.wa.last la',h.own.onlyN o (fun _ => by simp only [zrc]; exact fun e => h.xg e.symm),h.tree.only o (fun b hb => by simp only [zrc]; exact fun e => h.xD (e ▸ hb)),h.xD,h.gD,Nat.lt_of_lt_of_le h.glt o.size,h.xg,h.xnew,h.gnew,h.dnew,h.only.then o (fun b hb => by simp only [zrc] at hb; subst hb; exact h.xnew)⟩
theorem BodyAt.free (h : BodyAt w kb q) (j : Nat) : w.frozen? (Y kb j) = false := by
 unfold BodyAt at h; simp [World.frozen?,h]
theorem BodyAt.onlyD (h : BodyAt w kb q) (o : Only D w w') (s : kb ∉ D) : BodyAt w' kb q := (o.block kb (Array.getElem?_eq_some_iff.1 h).1 s).trans h
theorem BodyAt.lt (h : BodyAt w kb q) : kb < w.heap.size := (Array.getElem?_eq_some_iff.1 h).1
theorem BodyAt.num (h : BodyAt w kb q) (k : Int) : BodyAt (w.setCell (Y kb 0) (I k)) kb (numB q k) := y0f h 0 _
theorem BodyAt.all (h : BodyAt w kb q) : AllO w kb 0 q :=
 ⟨h.off 0,h.off 1,h.off 2,h.off 3,h.off 4,h.off 5,h.off 6,h.off 7,h.off 8,h.off 9,h.off 10,h.off 11,h.off 12,h.off 13,h.off 14,h.off 15,h.off 16⟩
structure SpW (E : List Nat) (w0 : World) (x g : Nat) (c : Wc) (a : Option Addr) (n cap t : Nat) (la st : Int) (B : Nat → Bd) (M : List (Int × Bx)) (D : List Nat) (kb : Nat) (q : Bd) (wr : World) : Prop where
 ww : WW E w0 x g c a n cap t la st B M D wr
 row : RowB wr a n cap B
 at' : BodyAt wr kb q
 kD : kb ∉ D
 kx : kb ≠ x
 kg : kb ≠ g
 knew : w0.heap.size ≤ kb
theorem WW.regrow {g' : Nat} {a' : Option Addr} {n' cap' : Nat} {M : List (Int × Bx)} {w8 : World} (h : WW E w x g c a n cap t la st C M D wr) (o : Only [g] wr w8) (ho : OwnS w8 a' g' n' C') (hg : g' = g ∨ wr.heap.size ≤ g') (hl : g' < w8.heap.size) (hn : g' ∈ E ∨ w.heap.size ≤ g') : WW E w x g' c a' n' cap' t la st C' M D (w8.setCell (Y x 7) (.slice a' n' cap')) := by
 have hx : x ≠ g' := by
  rcases hg with e | e
  ·rw [e]; exact h.xg
  ·have := h.wa.lt; omega
 have hD : g' ∉ D := by
  rcases hg with e | e
  ·rw [e]; exact h.gD
  ·intro q; have := h.tree.lt _ q; omega
 have hxg : x ∉ [g] := by simp only [zrc]; exact h.xg
 have o2 : Only [x] w8 (w8.setCell (Y x 7) (.slice a' n' cap')) := (Only.refl [x] w8).setCell (p := Y x 7) (Or.inl (by simp)) _;refine ⟨(h.wa.only o hxg).slice a' n' cap',ho.onlyN o2 (fun _ => by simp only [zrc]; exact fun e => hx e.symm),(h.tree.only o ?_).only o2 ?_,h.xD,hD,Nat.lt_of_lt_of_le hl o2.size,hx,h.xnew,hn,h.dnew,?_⟩
 ·intro b hb; simp only [zrc]; exact fun e => h.gD (e ▸ hb)
 ·intro b hb; simp only [zrc]; exact fun e => h.xD (e ▸ hb)
 ·exact (h.only.then o (fun b hb => by simp only [zrc] at hb; subst hb; exact h.gnew)).then o2 (fun b hb => by simp only [zrc] at hb; subst hb; exact h.xnew)
theorem SpW.keep {E : List Nat} {w0 : World} {x g : Nat} {c : Wc} {a : Option Addr} {n cap t : Nat} {la st : Int} {B : Nat → Bd} {M : List (Int × Bx)} {D : List Nat} {kb : Nat} {q : Bd} {wr w' : World} (h : SpW E w0 x g c a n cap t la st B M D kb q wr) (o : Only [] wr w') : SpW E w0 x g c a n cap t la st B M D kb q w' :=
 ⟨h.ww.keep o,h.row.only o (fun _ _ _ _ => by simp),h.at'.only o,h.kD,h.kx,h.kg,h.knew⟩
theorem yev (w0 : World) (x g : Nat) (c : Wc) (a : Option Addr) (n cap t : Nat) (la st : Int) (B : Nat → Bd) (M : List (Int × Bx)) (D : List Nat) (q : Bd) (w : World) (hn : n ≤ 60) (h : WW E w0 x g c a n cap t la st B M D w) (hrow : RowB w a n cap B) (hga : ∀ g' o s,a = some ⟨g',o,s⟩ → g' = g) (hla : 0 ≤ la) (hla' : la ≤ 1000000) :
  Calls Tryz.prog 8 #[.pointer (some (Y x 0)),.agg (bdA q)] w (SpawnPost E w0 x c n t la st B M q) := by
 have HW : Hid (WW E w0 x g c a n cap t la st B M D w ∧ RowB w a n cap B ∧ n ≤ 60 ∧ (∀ g' o s,a = some ⟨g',o,s⟩ → g' = g)) := ⟨h,hrow,hn,hga⟩;have HL : Hid (0 ≤ la ∧ la ≤ 1000000) := ⟨hla,hla'⟩;have HTD : Hid (Tied a g) := hga;clear h hrow hn hga hla hla';go_enter Tryz.func8,Tryz.ntmps8
 go_upto_region 1 with fail
 have H1 : Hid (SpW E w0 x g c a n cap t la st B M D w.heap.size q (w.alloc (.cells (bdA q) 45))) := by
  have o := (Only.refl [] w).alloc (.cells (bdA q) 45);refine ⟨HW.out.1.keep o,HW.out.2.1.only o (fun _ _ _ _ => by simp),(MapKept.heap_alloc w _).1,fun hk => ?_,?_,?_,HW.out.1.only.size⟩
  ·have := HW.out.1.tree.lt _ hk; omega
  ·have := HW.out.1.wa.lt; omega
  ·have := HW.out.1.glt; omega
 revert H1;generalize w.heap.size = kb;generalize World.alloc w _ = w1;intro H1;have hc := H1.out.at'.range;go_wp2_with (first | (refine wpList_load_mid rfl 45 (.tmp 3) rfl kb 0 rfl [I q.id,I q.ow,I q.kd,I q.sx,I q.sy,I q.sz,I q.ax,I q.ay,I q.az,I q.vx,I q.vy,I q.vz,I q.px,I q.py,I q.pz,I q.ms,I q.tm] _ (range17 hc) Tryz.underlying45 rfl bodySize ?_))
 clear hc;refine (ye7 q _).mono ?_;rintro e w2 ⟨rfl,k2⟩;have H2 : Hid (SpW E w0 x g c a n cap t la st B M D kb q w2) := H1.out.keep (Only.of_kept k2);clear k2 H1;by_cases hr : rightW q = 0
 ·have HR : Hid (rightW q = 0) := hr
  rw [hr,show errV 0 = .nilIface from rfl];clear hr;have s7 := H2.out.ww.wa.off 7;have e1 := H2.out.at'.off 1;simp only [zR] at s7 e1;by_cases h60 : 60 ≤ n
  ·have HE : Hid (spawnC c B n M la q = 4) := by show spawnC c B n M la q = 4; unfold spawnC; rw [if_pos HR.out,if_pos (Or.inl h60)]
   have h6 : decide (60 ≤ (n : Int)) = true := by simp; omega
   clear h60;go_wp2_with fail
   exact bodyPost_ret (v := .tuple #[I 0,errV 4]) (by simp [results,Tryz.results8,go_sem,errV]) rfl (SpawnPost.bad HE.out (by decide) H2.out.ww H2.out.row HTD.out)
  ·have h6 : decide (60 ≤ (n : Int)) = false := by simp; omega
   have HN : Hid (n < 60) := by show n < 60; omega
   clear h60;go_wp2_with fail
   refine (ygb x q.ow c a n cap t la st B w2 HW.out.2.2.1 H2.out.ww.wa H2.out.ww.own.bodies).mono ?_;rintro e w3 ⟨rfl,o3⟩;have H3 : Hid (SpW E w0 x g c a n cap t la st B M D kb q w3) := H2.out.keep o3;clear s7 e1 h6 o3 H2
   cases hs : satX B n q.ow c.qt with
   | true =>
    have HE : Hid (spawnC c B n M la q = 4) := by show spawnC c B n M la q = 4; unfold spawnC; rw [if_pos HR.out,if_pos (Or.inr hs)]
    clear hs;go_wp2_with fail
    exact bodyPost_ret (v := .tuple #[I 0,errV 4]) (by simp [results,Tryz.results8,go_sem,errV]) rfl (SpawnPost.bad HE.out (by decide) H3.out.ww H3.out.row HTD.out)
   | false =>
    have HE : Hid (spawnC c B n M la q = putC M (la + 1) (boxB (numB q (la + 1)))) := by show spawnC c B n M la q = _; unfold spawnC; rw [if_pos HR.out,if_neg (by rw [hs]; have := HN.out; simp; omega)]
    clear hs;have l9 := H3.out.ww.wa.off 9;have c0 := H3.out.at'.off 0;have f0 := H3.out.at'.free 0;have hl0 := HL.out.1;have hl1 := HL.out.2;simp only [zR] at l9 c0;go_upto_region 7 with fail
    clear l9 c0 f0
    have H4 : Hid (SpW E w0 x g c a n cap t la st B M D kb (numB q (la + 1)) (w3.setCell (Y kb 0) (I (la + 1)))) := by
     have o : Only [kb] w3 (w3.setCell (Y kb 0) (I (la + 1))) := (Only.refl [kb] w3).setCell (p := Y kb 0) (Or.inl (by simp)) _;refine ⟨H3.out.ww.apart o ?_ ?_ ?_ ?_,H3.out.row.only o ?_,H3.out.at'.num _,H3.out.kD,H3.out.kx,H3.out.kg,H3.out.knew⟩
     ·simp only [zrc]; exact fun e => H3.out.kx e.symm
     ·simp only [zrc]; exact fun e => H3.out.kg e.symm
     ·intro b hb; simp only [zrc]; exact fun e => H3.out.kD (e ▸ hb)
     ·intro b hb; simp only [zrc] at hb; rw [hb]; exact H3.out.knew
     ·intro g' o' s' e; simp only [zrc]; rw [HW.out.2.2.2 g' o' s' e]; exact fun e => H3.out.kg e.symm
    generalize World.setCell w3 _ _ = w4 at H4 ⊢;obtain ⟨q',hq'⟩ : ∃ q',q' = numB q (la + 1) := ⟨_,rfl⟩;have hqi : q'.id = la + 1 := by rw [hq']; rfl
    have HQI : Hid (q'.id = la + 1 ∧ q' = numB q (la + 1)) := ⟨hqi,hq'⟩;rw [← hq'] at H4 HE;clear hqi hq' H3;have hc := H4.out.at'.range;go_wp2_with (first | (refine wpList_load_mid rfl 45 (.tmp 3) rfl kb 0 rfl [I q'.id,I q'.ow,I q'.kd,I q'.sx,I q'.sy,I q'.sz,I q'.ax,I q'.ay,I q'.az,I q'.vx,I q'.vy,I q'.vz,I q'.px,I q'.py,I q'.pz,I q'.ms,I q'.tm] _ (range17 hc) Tryz.underlying45 rfl bodySize ?_))
    clear hc;refine (y8f w0 x g c a n cap t la st B M D q' w4 H4.out.ww (by rw [HQI.out.1]; exact ygn (by omega) (by omega))).mono ?_;rintro e w5 ⟨rfl,D',hW5,o5,hD5⟩
    have H5 : Hid (SpW E w0 x g c a n cap t la st B (putM M q'.id (boxB q')) D' kb q' w5) := by
     refine ⟨hW5,H4.out.row.only o5 ?_,H4.out.at'.onlyD o5 H4.out.kD,fun hk => ?_,H4.out.kx,H4.out.kg,H4.out.knew⟩
     ·intro g' o' s' e; rw [HW.out.2.2.2 g' o' s' e]; exact H4.out.ww.gD
     ·rcases hD5 kb hk with e | e
      ·exact H4.out.kD e
      ·have := H4.out.at'.lt; omega
    clear hW5 o5 hD5 H4;rw [HQI.out.1] at H5;rw [HQI.out.1];by_cases hp : putC M (la + 1) (boxB q') = 0
    ·rw [hp,show errV 0 = .nilIface from rfl]
     have HE0 : Hid (spawnC c B n M la q = 0) := by show spawnC c B n M la q = 0; rw [HE.out,hp]
     clear hp HE;have c0 := H5.out.at'.off 0;have c9 := H5.out.ww.wa.off 9;have f9 := H5.out.ww.wa.free 9;simp only [zR] at c0 c9;go_upto_region 11 with fail
     clear c0 c9 f9
     have H6 : Hid (SpW E w0 x g c a n cap t (la + 1) st B (putM M (la + 1) (boxB q')) D' kb q' (w5.setCell (Y x 9) (I (la + 1)))) := by
      have o : Only [x] w5 (w5.setCell (Y x 9) (I (la + 1))) := (Only.refl [x] w5).setCell (p := Y x 9) (Or.inl (by simp)) _;refine ⟨H5.out.ww.last _,H5.out.row.only o ?_,H5.out.at'.onlyD o ?_,H5.out.kD,H5.out.kx,H5.out.kg,H5.out.knew⟩
      ·intro g' o' s' e; simp only [zrc]; rw [HW.out.2.2.2 g' o' s' e]; exact fun e => H5.out.ww.xg e.symm
      ·simp only [zrc]; exact H5.out.kx
     rw [HQI.out.1];generalize World.setCell w5 _ _ = w6 at H6 ⊢;clear H5;refine y0v 8 (fun w' => w'.cell? (Y x 7) = some (.slice a n cap) ∧ AllO w' kb 0 q') (by kernel_rfl) ?_ (fun hJ1 => ?_)
     ·exact ⟨(H6.out.ww.wa.only (Only.refl [] w6).drew (by simp)).off 7,(H6.out.at'.only (Only.refl [] w6).drew).all⟩
     refine tkF 0 rfl ?_; refine tkF 1 rfl ?_; refine tkF 2 rfl ?_; refine tkF 3 rfl ?_;try simp only [zP]
     refine tkF 4 rfl ?_;try simp only [zP]
     refine tkF (v := (.agg (bdA q'))) 5 rfl ?_ (by intro w'' hSw; (try dsimp only at hSw); simp only [zQ]; exact ybb (k := 3) (g := kb) (o := 0) rfl (by kernel_rfl) hSw.2);try simp only [zP]
     refine y05 (rs := [6]) (by kernel_rfl) (by simp) ?_;refine AllReadyF.cons rfl (fun K hK => ?_) AllReadyF.nil;first | (with_reducible refine iteYes ?hcx ?htx; case hcx => kernel_rfl) | rw [if_pos (by rfl)]
     simp only [zQ];go_simp;refine hK.out _ _ ?_ fun hJ2 => ?_
     ·exact ⟨(H6.out.ww.wa.only ((Only.refl [] w6).drew.alloc _) (by simp)).off 7,(H6.out.at'.only ((Only.refl [] w6).drew.alloc _)).all⟩
     clear hK K;try simp only [zP]
     obtain ⟨i2,hi0,hz0,hz1,hz2⟩ := y0k bodyInfo;have hnews : ∀ j u,[I q'.id,I q'.ow,I q'.kd,I q'.sx,I q'.sy,I q'.sz,I q'.ax,I q'.ay,I q'.az,I q'.vx,I q'.vy,I q'.vz,I q'.px,I q'.py,I q'.pz,I q'.ms,I q'.tm][j]? = some u → (w6.alloc (.cells (bdA q') 45)).drew.cell? ((Y w6.heap.size 0).add j) = some u := yj2 w6 [I q'.id,I q'.ow,I q'.kd,I q'.sx,I q'.sy,I q'.sz,I q'.ax,I q'.ay,I q'.az,I q'.vx,I q'.vy,I q'.vz,I q'.px,I q'.py,I q'.pz,I q'.ms,I q'.tm] _;have H7 : Hid (SpW E w0 x g c a n cap t (la + 1) st B (putM M (la + 1) (boxB q')) D' kb q' (w6.alloc (.cells (bdA q') 45)).drew) := H6.out.keep ((Only.refl [] w6).alloc _).drew;clear H6;generalize w6.heap.size = kn at hnews ⊢;generalize World.drew (World.alloc w6 _) = w7 at hnews H7 hJ2 ⊢;have hn60 := HN.out;obtain ⟨v',w8,hr8,hown,hgrow,hnil,hloc⟩ := run_append_own_at (P := Tryz.prog) w7 0 36 36 45 i2 (.agg #[I 0,I 0,I 0,I 0,I 0,I 0,I 0,I 0,I 0,I 0,I 0,I 0,I 0,I 0,I 0,I 0,I 0]) 17 136 Tryz.underlying36 hi0 hz0 hz1 hz2 rfl (by decide) (.slice a n cap) n (rowsL B n) H7.out.row (Y kn 0) 1 1 [I q'.id,I q'.ow,I q'.kd,I q'.sx,I q'.sy,I q'.sz,I q'.ax,I q'.ay,I q'.az,I q'.vx,I q'.vy,I q'.vz,I q'.px,I q'.py,I q'.pz,I q'.ms,I q'.tm] rfl hnews (by simp [Value.oneCell']) (by unfold maxLen; omega) (by omega) (by omega);have hown2 : w8.ownsRow 0 45 17 v' (n + 1) (rowsL (upd B n q') (n + 1)) := by rw [ya4]; exact hown
     obtain ⟨a',g',c',rfl,hS,hgb,hsl⟩ := OwnS.of_rowN hown2
     have o8 : Only [g] w7 w8 := (Only.refl [g] w7).grown hgrow (fun k hk => Or.inl (by
      cases a with
      | none => simp [Value.ownBlock] at hk
      | some ad =>
       simp only [Value.ownBlock,Option.some.injEq] at hk
       rw [← hk,HW.out.2.2.2 ad.block ad.off ad.spot rfl]; simp))
     have ha' : a' = some (Y g' 0) := by
      rcases hS with e | e
      ·omega
      ·exact e.1
     have hg2 : g' = g ∨ w7.heap.size ≤ g' := by
      rw [ha'] at hloc;rcases hloc with e | e
      ·left
       cases a with
       | none => simp [Value.ownBlock] at e
       | some ad =>
        simp only [Value.ownBlock,Option.some.injEq] at e;rw [e,HW.out.2.2.2 ad.block ad.off ad.spot rfl]
      ·right
       simp only [Value.ownBlock,Option.some.injEq] at e;omega
     have H8 : Hid (WW E w0 x g' c a' (n + 1) c' t (la + 1) st (upd B n q') (putM M (la + 1) (boxB q')) D' (w8.setCell (Y x 7) (.slice a' (n + 1) c')) ∧ RowB (w8.setCell (Y x 7) (.slice a' (n + 1) c')) a' (n + 1) c' (upd B n q')) := by
      have hW := H7.out.ww.regrow (cap' := c') o8 hS hg2 (hS.lt (by omega)) (hg2.elim (fun e => by rw [e]; exact H7.out.ww.gnew) (fun e => Or.inr (Nat.le_trans H7.out.ww.only.size e)));refine ⟨hW,RowB.only (w := w8) (D := [x]) hown2 ((Only.refl [x] w8).setCell (p := Y x 7) (Or.inl (by simp)) _) ?_⟩;intro g2 o2 s2 e;rw [ha'] at e; injection e with e; injection e with e1 e2 e3
      simp only [zrc];rw [← e1]; exact fun e => hW.xg e.symm
     have hxg : x ∉ [g] := by simp only [zrc]; exact H7.out.ww.xg
     have hkg : kb ∉ [g] := by simp only [zrc]; exact H7.out.kg
     have HK8 : Hid (WorldAt w8 x c a n cap t (la + 1) st ∧ BodyAt w8 kb q' ∧ kb ≠ x) := ⟨H7.out.ww.wa.only o8 hxg,H7.out.at'.onlyD o8 hkg,H7.out.kx⟩;clear hown hown2 hgrow hnil hloc hS hgb hsl o8 ha' hg2 hxg hkg H7 hnews hi0 hz0 hz1 hz2;refine y05 (rs := [7]) (by kernel_rfl) (by simp) ?_;refine AllReadyF.cons rfl (fun K hK => ?_) AllReadyF.nil;first | (with_reducible refine iteYes ?hcx ?htx; case hcx => kernel_rfl) | rw [if_pos (by rfl)]
     refine y0z (s := .tmp 47) (x := .tmp 49) (t := 36) rfl (by kernel_rfl) (by kernel_rfl) hr8 ?_;refine hK.out _ _ ?_ fun hJ3 => ?_
     ·exact ⟨HK8.out.1.off 7,HK8.out.2.1.all⟩
     clear hK K hJ2 hr8;try simp only [zP]
     have c7 := HK8.out.1.off 7;have f7 := HK8.out.1.free 7;simp only [zR] at c7;refine y05 (rs := [8]) (by kernel_rfl) (by simp) ?_;refine AllReadyF.fin rfl (by decide) (fun K hK => ?_) AllReadyF.nil;first | (with_reducible refine iteYes ?hcx ?htx; case hcx => kernel_rfl) | rw [if_pos (by rfl)]
     simp only [zQ];go_simp;skip;refine hK.out _ _ ?_;clear hK K;try simp only [zP]
     refine y05 (rs := [9]) (by kernel_rfl) (by simp) ?_;refine AllReadyF.fin rfl (by decide) (fun K hK => ?_) AllReadyF.nil;first | (with_reducible refine iteYes ?hcx ?htx; case hcx => kernel_rfl) | rw [if_pos (by rfl)]
     simp only [zQ];go_simp;skip;refine hK.out _ _ ?_;clear hK K;try simp only [zP]
     refine y05 (rs := [10]) (by kernel_rfl) (by simp) ?_;refine AllReadyF.fin rfl (by decide) (fun K hK => ?_) AllReadyF.nil;first | (with_reducible refine iteYes ?hcx ?htx; case hcx => kernel_rfl) | rw [if_pos (by rfl)]
     simp only [zQ];go_simp;skip;refine hK.out _ _ ?_;clear hK K;try simp only [zP]
     refine y1f (by kernel_rfl) ?_ _;clear c7 f7 hJ3;have e0 : (w8.setCell (Y x 7) (.slice a' (n + 1) c')).cell? (Y kb 0) = some (I q'.id) := (World.cell?_setCell_far _ _ _ _ (fun e => HK8.out.2.2 e.symm)).trans (HK8.out.2.1.off 0);have HQ : Hid (q' = numB q (la + 1)) := HQI.out.2;have hqi := HQI.out.1;rw [hqi] at e0;clear hqi;generalize World.setCell w8 _ _ = w9 at H8 e0 ⊢;go_wp2_with fail
     refine bodyPost_ret (v := .tuple #[I (la + 1),.nilIface]) (by simp [results,Tryz.results8,go_sem]) rfl ⟨fun _ => ⟨rfl,g',a',c',D',?_⟩,fun e => absurd HE0.out e⟩;rw [← HQ.out]; exact H8.out
    ·have HE0 : Hid (spawnC c B n M la q = putC M (la + 1) (boxB q')) := HE.out
     have HV : errV (putC M (la + 1) (boxB q')) = .iface 39 (I (putC M (la + 1) (boxB q'))) := by unfold errV; rw [if_neg hp]
     have HV2 : Hid (errV (putC M (la + 1) (boxB q')) = .iface 39 (I (putC M (la + 1) (boxB q')))) := HV;have HPM : Hid (putM M (la + 1) (boxB q') = M ∧ putC M (la + 1) (boxB q') ≠ 0) := ⟨by unfold putM; rw [if_neg hp],hp⟩;rw [HV];clear HV hp HE;generalize hz : putC M (la + 1) (boxB q') = z at HE0 HV2 HPM ⊢;clear hz;go_wp2_with fail
     exact bodyPost_ret (v := .tuple #[I 0,errV z]) (by simp [results,Tryz.results8,go_sem,HV2.out]) rfl (SpawnPost.bad HE0.out HPM.out.2 (by have := H5.out.ww; rw [HPM.out.1] at this; exact this) H5.out.row HTD.out)
 ·have HE : Hid (spawnC c B n M la q = rightW q) := by show spawnC c B n M la q = rightW q; unfold spawnC; rw [if_neg hr]
  have HV : errV (rightW q) = .iface 39 (I (rightW q)) := by unfold errV; rw [if_neg hr]
  have HV2 : Hid (errV (rightW q) = .iface 39 (I (rightW q)) ∧ rightW q ≠ 0) := ⟨HV,hr⟩;rw [HV];clear HV hr;generalize hz : rightW q = z at HE HV2 ⊢;clear hz;go_wp2_with fail
  exact bodyPost_ret (v := .tuple #[I 0,errV z]) (by simp [results,Tryz.results8,go_sem,HV2.out.1]) rfl (SpawnPost.bad HE.out HV2.out.2 H2.out.ww H2.out.row HTD.out)
theorem ykg {cur : Array Value} (h : ∀ j,j < n → ∀ k,k < 17 → cur[j * 17 + k]? = some (bc (B j) k)) : cur.toList.take (n * 17) = rowsL B n := by
 apply List.ext_getElem?;intro i;by_cases hi : i < n * 17
 ·have hj : i / 17 < n := by omega
  have hk : i % 17 < 17 := by omega
  have h1 := h _ hj _ hk;have h2 := y7j B n _ _ hj hk;have e : i / 17 * 17 + i % 17 = i := by omega
  rw [e] at h1 h2;rw [List.getElem?_take_of_lt hi,Array.getElem?_toList,h1,h2]
 ·rw [List.getElem?_eq_none (by rw [List.length_take]; omega),List.getElem?_eq_none (by rw [y18]; omega)]
theorem RowB.of (h : OwnS w a g n B) (r : Room w a n cap) : RowB w a n cap B := by
 rcases r with ⟨rfl,rfl,rfl⟩ | ⟨g',e,h1,h2,cur,hh,hs⟩
 ·exact ⟨rfl,Or.inl ⟨rfl,rfl⟩⟩
 ·refine ⟨y18 B n,Or.inr ⟨g',cap,cur,by rw [e],Nat.zero_le _,hh,h1,h2,hs,?_⟩⟩
  rcases h with h0 | ⟨ea,cur',hh',hc⟩
  ·subst h0; simp [rowsL]
  ·rw [ea] at e
   injection e with e;injection e with e;subst e;rw [hh'] at hh;injection hh with hh;injection hh with hh;subst hh;exact ykg hc
theorem RowB.room (h : RowB w a n cap B) : Room w a n cap := Room.of_row h
def pushB (b : Bd) (x y z : Int) : Bd := { b with px := x,py := y,pz := z }
theorem OwnB.putPu (h : OwnB w g n B) {i : Nat} (hi : i < n) (x y z : Int) :
  OwnB (((w.setCell (Y g (i * 17 + 12)) (J U x)).setCell (Y g (i * 17 + 12 + 1)) (J U y)).setCell (Y g (i * 17 + 12 + 2)) (J U z)) g n (upd B i (pushB (B i) x y z)) := by
 have h1 := ((RowF.set (F := fun j k => bc (B j) k) h hi (show 12 < 17 by omega) (J U x)).set hi (show 13 < 17 by omega) (J U y)).set hi (show 14 < 17 by omega) (J U z);refine RowF.congr h1 (fun j k hj hk => ?_);by_cases e : j = i
 ·subst e
  rw [y40,if_pos rfl]
  match k,hk with
  | 0,_ => simp [bc,pushB]
  | 1,_ => simp [bc,pushB]
  | 2,_ => simp [bc,pushB]
  | 3,_ => simp [bc,pushB]
  | 4,_ => simp [bc,pushB]
  | 5,_ => simp [bc,pushB]
  | 6,_ => simp [bc,pushB]
  | 7,_ => simp [bc,pushB]
  | 8,_ => simp [bc,pushB]
  | 9,_ => simp [bc,pushB]
  | 10,_ => simp [bc,pushB]
  | 11,_ => simp [bc,pushB]
  | 12,_ => simp [bc,pushB]
  | 13,_ => simp [bc,pushB]
  | 14,_ => simp [bc,pushB]
  | 15,_ => simp [bc,pushB]
  | 16,_ => simp [bc,pushB]
  | k + 17,h => exact absurd h (by omega)
 ·rw [y40]; simp [e]
theorem WW.turned {M : List (Int × Bx)} (h : WW E w x g c a n cap t la st C M D wr) (ha : a = some (Y g 0)) (hO : OwnB w' g n C') (o : Only [g] wr w') : WW E w x g c a n cap t la st C' M D w' :=
 ⟨h.wa.only o (by simp only [zrc]; exact h.xg),Or.inr ⟨ha,hO⟩,h.tree.only o (fun b hb => by simp only [zrc]; exact fun e => h.gD (e ▸ hb)),h.xD,h.gD,Nat.lt_of_lt_of_le h.glt o.size,h.xg,h.xnew,h.gnew,h.dnew,h.only.then o (fun b hb => by simp only [zrc] at hb; rw [hb]; exact h.gnew)⟩
def PushPost (E : List Nat) (w0 : World) (x g : Nat) (c : Wc) (a : Option Addr) (n cap t : Nat) (la st : Int) (B : Nat → Bd) (M : List (Int × Bx)) (D : List Nat) (id v1 v2 v3 : Int) (w : World) (e : Ending) (w' : World) : Prop :=
 ∃ (r : Nat) (v : Bool),FindIs B n id r v ∧
  ((v = false ∧ e = .returned (errV 7) ∧ WW E w0 x g c a n cap t la st B M D w' ∧ Only [] w w') ∨
   (v = true ∧ beyX 6553600 v1 v2 v3 = true ∧ e = .returned (errV 2) ∧ WW E w0 x g c a n cap t la st B M D w' ∧ Only [] w w') ∨
   (v = true ∧ beyX 6553600 v1 v2 v3 = false ∧ e = .returned .nilIface ∧ WW E w0 x g c a n cap t la st (upd B r (pushB (B r) v1 v2 v3)) M D w' ∧ Only [g] w w' ∧ ∀ s,SizeAt w g s → SizeAt w' g s))
theorem yhc (w0 : World) (x g : Nat) (c : Wc) (a : Option Addr) (n cap t : Nat) (la st : Int) (B : Nat → Bd) (M : List (Int × Bx)) (D : List Nat) (id v1 v2 v3 : Int) (w : World) (hn : n ≤ 60) (h : WW E w0 x g c a n cap t la st B M D w) :
  Calls Tryz.prog 11 #[.pointer (some (Y x 0)),I id,.agg #[I v1,I v2,I v3]] w (PushPost E w0 x g c a n cap t la st B M D id v1 v2 v3 w) := by
 have HW : Hid (WW E w0 x g c a n cap t la st B M D w ∧ n ≤ 60) := ⟨h,hn⟩;clear h hn;go_enter Tryz.func11,Tryz.ntmps11
 go_upto_region 1 with fail
 have H1 : Hid (VecAt (w.alloc (.cells #[I v1,I v2,I v3] 23)) w.heap.size v1 v2 v3 ∧ Only [] w (w.alloc (.cells #[I v1,I v2,I v3] 23)) ∧ w.heap.size ≠ g) := ⟨(MapKept.heap_alloc w _).1,(Only.refl [] w).alloc _,by have := HW.out.1.glt; omega⟩;revert H1;generalize w.heap.size = kv;generalize World.alloc w _ = w1;intro H1;go_wp2_with fail
 refine (y5b x id c a n cap t la st B w1 HW.out.2 (HW.out.1.keep H1.out.2.1).wa (HW.out.1.keep H1.out.2.1).own.bodies).mono ?_;rintro e w2 ⟨r,v,rfl,hf,o2⟩;have H2 : Hid (VecAt w2 kv v1 v2 v3 ∧ Only [] w w2 ∧ kv ≠ g ∧ FindIs B n id r v) := ⟨H1.out.1.only o2 (by simp),H1.out.2.1.trans o2,H1.out.2.2,hf⟩;clear o2 H1 hf
 cases v with
 | false =>
  go_wp2_with fail
  go_ret
  exact ⟨r,false,H2.out.2.2.2,Or.inl ⟨rfl,rfl,HW.out.1.keep H2.out.2.1,H2.out.2.1⟩⟩
 | true =>
  have e0 := H2.out.1.off 0; have e1 := H2.out.1.off 1; have e2 := H2.out.1.off 2;simp only [zR] at e0 e1 e2;go_wp2_with fail
  refine (y2e _ _ _ _ _ (by decide) (by decide)).mono ?_;rintro e w3 ⟨rfl,k3⟩;have H3 : Hid (VecAt w3 kv v1 v2 v3 ∧ Only [] w w3 ∧ kv ≠ g ∧ FindIs B n id r true) := ⟨H2.out.1.only (Only.of_kept (D := []) k3) (by simp),H2.out.2.1.trans (Only.of_kept k3),H2.out.2.2.1,H2.out.2.2.2⟩;clear e0 e1 e2 k3 H2
  cases hb : beyX 6553600 v1 v2 v3 with
  | true =>
   have HBY : Hid (beyX 6553600 v1 v2 v3 = true) := hb;clear hb;go_wp2_with fail
   go_ret
   exact ⟨r,true,H3.out.2.2.2,Or.inr (Or.inl ⟨rfl,HBY.out,rfl,HW.out.1.keep H3.out.2.1,H3.out.2.1⟩)⟩
  | false =>
   have HBY : Hid (beyX 6553600 v1 v2 v3 = false) := hb;clear hb;have hr : r < n := by have := H3.out.2.2.2.2; simp at this; exact this.1
   have hrl : (r : Int) < (n : Int) := by omega
   have hn := HW.out.2;have HW3 : Hid (WW E w0 x g c a n cap t la st B M D w3) := HW.out.1.keep H3.out.2.1
   obtain ⟨ha,hO⟩ : a = some (Y g 0) ∧ OwnB w3 g n B := by
    rcases HW3.out.own with q | q
    ·omega
    ·exact q
   have HO : Hid (OwnB w3 g n B ∧ a = some (Y g 0)) := ⟨hO,ha⟩;clear hO;subst ha;go_upto_region 6 with fail
   have HK : Hid (∀ w',Only [g] w3 w' → w'.cell? (Y x 7) = some (.slice (some (Y g 0)) n cap) ∧ w'.cell? (Y kv 0) = some (I v1) ∧ w'.cell? (Y kv 1) = some (I v2) ∧ w'.cell? (Y kv 2) = some (I v3)) := fun w' o => by
    have hk : kv ∉ [g] := by simp only [zrc]; exact H3.out.2.2.1
    exact ⟨(HW3.out.wa.only o (by simp only [zrc]; exact HW3.out.xg)).off 7,(H3.out.1.only o hk).off 0,(H3.out.1.only o hk).off 1,(H3.out.1.only o hk).off 2⟩
   have c12 := HO.out.1.cell hr (show 12 < 17 by omega); have c13 := HO.out.1.cell hr (show 13 < 17 by omega); have c14 := HO.out.1.cell hr (show 14 < 17 by omega);have f12 := HO.out.1.free (r * 17 + 12); have f13 := HO.out.1.free (r * 17 + 13); have f14 := HO.out.1.free (r * 17 + 14);simp only [bc] at c12 c13 c14;refine wp_region_held_drew (S := (fun w' => w'.cell? (Y x 7) = some (.slice (some (Y g 0)) n cap) ∧ Zc w' kv 0 v1 ∧ Zc w' kv 1 v2 ∧ Zc w' kv 2 v3)) (by kernel_rfl) ?_ (fun hJ1 => ?_)
   ·exact HK.out _ (Only.refl _ _).drew
   refine tkU 0 (h:=tkU 1 (h:=tkU 2 (h:=tkV 3 ?_)));try simp only [zP]
   refine tkU 4 (h:=tkU 5 (h:=tkU 6 (h:=tkV 7 ?_)));try simp only [zP]
   refine rdW 8 rfl fun K hK => ?_;simp only [zQ];go_simp;refine hK.out _ _ ?_ fun hJ2 => ?_
   ·exact HK.out _ (((((Only.refl [g] w3).drew).setCell (p := Y g (r * 17 + 12)) (Or.inl (by simp)) _).setCell (p := Y g (r * 17 + 13)) (Or.inl (by simp)) _).setCell (p := Y g (r * 17 + 14)) (Or.inl (by simp)) _)
   clear hK K;try simp only [zP]
   refine wpAnyH_done (by kernel_rfl) ?_ _
   have HF : Hid (OwnB (((w3.drew.setCell (Y g (r * 17 + 12)) (I v1)).setCell (Y g (r * 17 + 13)) (I v2)).setCell (Y g (r * 17 + 14)) (I v3)) g n (upd B r (pushB (B r) v1 v2 v3)) ∧ Only [g] w3 (((w3.drew.setCell (Y g (r * 17 + 12)) (I v1)).setCell (Y g (r * 17 + 13)) (I v2)).setCell (Y g (r * 17 + 14)) (I v3)) ∧ (∀ s,SizeAt w3 g s → SizeAt (((w3.drew.setCell (Y g (r * 17 + 12)) (I v1)).setCell (Y g (r * 17 + 13)) (I v2)).setCell (Y g (r * 17 + 14)) (I v3)) g s)) :=
    ⟨(HO.out.1.only (Only.refl [] w3).drew (by simp)).putPu hr v1 v2 v3,((((Only.refl [g] w3).drew).setCell (p := Y g (r * 17 + 12)) (Or.inl (by simp)) _).setCell (p := Y g (r * 17 + 13)) (Or.inl (by simp)) _).setCell (p := Y g (r * 17 + 14)) (Or.inl (by simp)) _,fun s hs => (((hs.only (Only.refl [] w3).drew (by simp)).put _ _ _).put _ _ _).put _ _ _⟩
   clear c12 c13 c14 f12 f13 f14 HK;go_wp2_with fail
   go_ret
   exact ⟨r,true,H3.out.2.2.2,Or.inr (Or.inr ⟨rfl,HBY.out,rfl,HW3.out.turned rfl HF.out.1 HF.out.2.1,(H3.out.2.1.mono (by simp)).trans HF.out.2.1,fun s hs => HF.out.2.2 s (hs.only H3.out.2.1 (by simp))⟩)⟩
theorem yg1 (x : Nat) (c : Wc) (a : Option Addr) (n cap t : Nat) (la st : Int) (w : World) (hw : WorldAt w x c a n cap t la st) :
  Calls Tryz.prog 24 #[.pointer (some (Y x 0))] w fun e w' => e = .returned (I st) ∧ w' = w := by
 have s10 := hw.off 10;simp only [zR] at s10;clear hw;go_enter Tryz.func24,Tryz.ntmps24
 go_wp2_with fail
 go_ret
 exact ⟨rfl,rfl⟩
def RwAt (w : World) (x : Nat) (c : Wc) (a : Option Addr) (n cap : Nat) (la st : Int) : Prop :=
 w.heap[x]? = some (.cells #[J U c.fx,J U c.fy,J U c.fz,J U c.bo,J U c.ru,J U c.ro,J U c.qt,.slice a n cap,J U la,J U st] 38)
theorem RwAt.off (h : RwAt w x c a n cap la st) (j : Nat) :
  w.cell? (Y x j) = (#[I c.fx,I c.fy,I c.fz,I c.bo,I c.ru,I c.ro,I c.qt,.slice a n cap,I la,I st] : Array Value)[j]? := by unfold RwAt at h; simp [World.cell?,h]
theorem RwAt.lt (h : RwAt w x c a n cap la st) : x < w.heap.size := (Array.getElem?_eq_some_iff.1 h).1
theorem RwAt.only (h : RwAt w x c a n cap la st) (o : Only D w w') (s : x ∉ D) : RwAt w' x c a n cap la st := (o.block x h.lt s).trans h
theorem RwAt.free (h : RwAt w x c a n cap la st) (j : Nat) : w.frozen? (Y x j) = false := by unfold RwAt at h; simp [World.frozen?,h]
theorem RwAt.slice {w : World} {x : Nat} {c : Wc} {a : Option Addr} {n cap : Nat} {la st : Int} (h : RwAt w x c a n cap la st) (a' : Option Addr) (n' cap' : Nat) : RwAt (w.setCell (Y x 7) (.slice a' n' cap')) x c a' n' cap' la st := y0f h _ _
theorem RwAt.last (h : RwAt w x c a n cap la st) (la' : Int) : RwAt (w.setCell (Y x 8) (I la')) x c a n cap la' st := y0f h _ _
theorem RwAt.steps (h : RwAt w x c a n cap la st) (st' : Int) : RwAt (w.setCell (Y x 9) (I st')) x c a n cap la st' := y0f h _ _
def refX (B : Nat → Bd) : Option Nat → Bd
 | some r => B r
 | none => bd0
theorem ycf (x : Nat) (id : Int) (c : Wc) (a : Option Addr) (n cap : Nat) (la st : Int) (B : Nat → Bd) (w : World) (hn : n ≤ 60) (hw : RwAt w x c a n cap la st) (hb : BodiesAt w a n B) :
  Calls Tryz.prog 23 #[.pointer (some (Y x 0)),I id] w fun e w' => e = .returned (.tuple #[bdV (refX B (findX B id n)),.bool (findX B id n).isSome]) ∧ Only [] w w' := by
 have HB : Hid (RwAt w x c a n cap la st ∧ BodiesAt w a n B ∧ n ≤ 60) := ⟨hw,hb,hn⟩;clear hw hb hn;go_enter Tryz.func23,Tryz.ntmps23
 go_upto_region 1 with fail
 have H0 : Hid ((w.alloc (.cells #[I 0,I 0,I 0,I 0,I 0,I 0,I 0,I 0,I 0,I 0,I 0,I 0,I 0,I 0,I 0,I 0,I 0] 45)).heap[w.heap.size]? = some (.cells #[I 0,I 0,I 0,I 0,I 0,I 0,I 0,I 0,I 0,I 0,I 0,I 0,I 0,I 0,I 0,I 0,I 0] 45) ∧ Only [] w (w.alloc (.cells #[I 0,I 0,I 0,I 0,I 0,I 0,I 0,I 0,I 0,I 0,I 0,I 0,I 0,I 0,I 0,I 0,I 0] 45))) := ⟨(MapKept.heap_alloc w _).1,(Only.refl [] w).alloc _⟩;have HK0 : Hid (w.heap.size ≤ w.heap.size) := Nat.le_refl _;revert H0 HK0;generalize hkr : w.heap.size = kr;have HK : Hid (w.heap.size ≤ kr) := Nat.le_of_eq hkr;clear hkr;generalize World.alloc w _ = w1;intro H0 _;have s7 := (HB.out.1.only H0.out.2 (by simp)).off 7;simp only [zR] at s7;go_wp2_with fail
 refine (y1v a n cap B id w1 HB.out.2.2 (HB.out.2.1.only H0.out.2)).mono ?_;rintro e w2 ⟨rfl,k2⟩;have H2 : Hid (w2.heap[kr]? = some (.cells #[I 0,I 0,I 0,I 0,I 0,I 0,I 0,I 0,I 0,I 0,I 0,I 0,I 0,I 0,I 0,I 0,I 0] 45) ∧ Only [] w w2) := ⟨((Only.of_kept (D := []) k2).block kr (Array.getElem?_eq_some_iff.1 H0.out.1).1 (by simp)).trans H0.out.1,H0.out.2.trans (Only.of_kept k2)⟩;clear k2 H0 s7;obtain ⟨fx,hfx⟩ : ∃ fx,findX B id n = fx := ⟨_,rfl⟩;have HFX : Hid (findX B id n = fx ∧ ∀ r,fx = some r → r < n) := ⟨hfx,fun r e => (y0c (hfx.trans e)).1⟩;rw [hfx];clear hfx
 cases fx with
 | none =>
  simp only [numX]
  have hcell : ∀ k,k < 17 → (w2.setCells kr 0 (bdL bd0)).cell? (Y kr k) = some (bc bd0 k) := fun k hk => by
   have h1 := World.cell?_setCells_in kr (bdL bd0) 0 w2 (fun j hj => (there17 H2.out.1 rfl j (by rw [y2y] at hj; exact hj)).1) k (by rw [y2y]; exact hk);rw [Nat.zero_add] at h1;rw [h1,← yar bd0 k hk];simp
  have HON : Hid (Only [] w (w2.setCells kr 0 (bdL bd0))) := H2.out.2.setCells kr (Or.inr HK.out) _ 0;have y0 := hcell 0 (by omega);have y1 := hcell 1 (by omega);have y2 := hcell 2 (by omega);have y3 := hcell 3 (by omega);have y4 := hcell 4 (by omega);have y5 := hcell 5 (by omega);have y6 := hcell 6 (by omega);have y7 := hcell 7 (by omega);have y8 := hcell 8 (by omega);have y9 := hcell 9 (by omega);have y10 := hcell 10 (by omega);have y11 := hcell 11 (by omega);have y12 := hcell 12 (by omega);have y13 := hcell 13 (by omega);have y14 := hcell 14 (by omega);have y15 := hcell 15 (by omega);have y16 := hcell 16 (by omega);simp only [bc] at y0 y1 y2 y3 y4 y5 y6 y7 y8 y9 y10 y11 y12 y13 y14 y15 y16;clear hcell;go_wp2_with (first | (refine wpList_store_mid rfl 45 (.tmp 4) (.tmp 22) rfl kr 0 (bdL bd0).toArray rfl rfl (there17 H2.out.1 rfl) bodySize (one17 bd0) ?_))
  try simp only [List.toList_toArray]
  generalize World.setCells w2 kr 0 (bdL bd0) = w3 at y0 y1 y2 y3 y4 y5 y6 y7 y8 y9 y10 y11 y12 y13 y14 y15 y16 HON ⊢
  as_aux_lemma =>
   exact bodyPost_ret (v := .tuple #[bdV bd0,.bool false]) (by simp [results,Tryz.results23,go_sem,y0,y1,y2,y3,y4,y5,y6,y7,y8,y9,y10,y11,y12,y13,y14,y15,y16,bdV]) rfl ⟨by rw [HFX.out.1]; rfl,HON.out⟩
 | some r =>
  simp only [numX];have hr : r < n := HFX.out.2 r rfl;have hrl : (r : Int) < (n : Int) := by omega
  have s7 := (HB.out.1.only H2.out.2 (by simp)).off 7;simp only [zR] at s7;have hn := HB.out.2.2;obtain ⟨g,o,rfl,hc⟩ := (HB.out.2.1.only H2.out.2) r hr;have HBR : Hid (refX B (some r) = B r) := rfl;generalize B r = q at hc HBR
  have hcell : ∀ k,k < 17 → (w2.setCells kr 0 (bdL q)).cell? (Y kr k) = some (bc q k) := fun k hk => by
   have h1 := World.cell?_setCells_in kr (bdL q) 0 w2 (fun j hj => (there17 H2.out.1 rfl j (by rw [y2y] at hj; exact hj)).1) k (by rw [y2y]; exact hk);rw [Nat.zero_add] at h1;rw [h1,← yar q k hk];simp
  have HON : Hid (Only [] w (w2.setCells kr 0 (bdL q))) := H2.out.2.setCells kr (Or.inr HK.out) _ 0;have y0 := hcell 0 (by omega);have y1 := hcell 1 (by omega);have y2 := hcell 2 (by omega);have y3 := hcell 3 (by omega);have y4 := hcell 4 (by omega);have y5 := hcell 5 (by omega);have y6 := hcell 6 (by omega);have y7 := hcell 7 (by omega);have y8 := hcell 8 (by omega);have y9 := hcell 9 (by omega);have y10 := hcell 10 (by omega);have y11 := hcell 11 (by omega);have y12 := hcell 12 (by omega);have y13 := hcell 13 (by omega);have y14 := hcell 14 (by omega);have y15 := hcell 15 (by omega);have y16 := hcell 16 (by omega);simp only [bc] at y0 y1 y2 y3 y4 y5 y6 y7 y8 y9 y10 y11 y12 y13 y14 y15 y16;clear hcell;go_wp2_with (first | (refine wpList_load_mid rfl 45 (.tmp 20) rfl g (o + r * 17) rfl (bdL q) _ (range17 hc) Tryz.underlying45 rfl bodySize ?_) | (refine wpList_store_mid rfl 45 (.tmp 4) (.tmp 21) rfl kr 0 (bdL q).toArray rfl rfl (there17 H2.out.1 rfl) bodySize (one17 q) ?_))
  try simp only [List.toList_toArray]
  generalize World.setCells w2 kr 0 (bdL q) = w3 at y0 y1 y2 y3 y4 y5 y6 y7 y8 y9 y10 y11 y12 y13 y14 y15 y16 HON ⊢
  as_aux_lemma =>
   exact bodyPost_ret (v := .tuple #[bdV q,.bool true]) (by simp [results,Tryz.results23,go_sem,y0,y1,y2,y3,y4,y5,y6,y7,y8,y9,y10,y11,y12,y13,y14,y15,y16,bdV]) rfl ⟨by rw [HFX.out.1,← HBR.out]; rfl,HON.out⟩
end Go.Proofs.YtbenlgandjjopaaGreatDoor
