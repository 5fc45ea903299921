/- . -/
import Derived.Test.YtbenlgandjjopaaGreatDoorN12
import Derived.Test.YtbenlgandjjopaaGreatDoorN13
open Go.Value renaming int → J
open Go.IntKind renaming i64 → U
open List renaming mem_singleton → zrc
namespace Go.Proofs.YtbenlgandjjopaaGreatDoor
set_option maxRecDepth 100000
set_option maxHeartbeats 8000000
open Go.ChangeShapes Go.WideShapes Go.ChangeAt Go.RowKit
set_option linter.unusedVariables false
set_option linter.unusedSimpArgs false
variable {w w' wr : World} {g n i : Nat} {a : Option Addr} {C : Nat → Bd} {q : Bd}
def AllAt (w : World) (g i : Nat) (q : Bd) : Prop := w.cell? ⟨g,i * 17,none⟩ = some (J U q.id) ∧ w.cell? ⟨g,i * 17 + 1,none⟩ = some (J U q.ow) ∧ w.cell? ⟨g,i * 17 + 2,none⟩ = some (J U q.kd) ∧ w.cell? ⟨g,i * 17 + 3,none⟩ = some (J U q.sx) ∧ w.cell? ⟨g,i * 17 + 4,none⟩ = some (J U q.sy) ∧ w.cell? ⟨g,i * 17 + 5,none⟩ = some (J U q.sz) ∧ w.cell? ⟨g,i * 17 + 6,none⟩ = some (J U q.ax) ∧ w.cell? ⟨g,i * 17 + 7,none⟩ = some (J U q.ay) ∧ w.cell? ⟨g,i * 17 + 8,none⟩ = some (J U q.az) ∧ w.cell? ⟨g,i * 17 + 9,none⟩ = some (J U q.vx) ∧ w.cell? ⟨g,i * 17 + 10,none⟩ = some (J U q.vy) ∧ w.cell? ⟨g,i * 17 + 11,none⟩ = some (J U q.vz) ∧ w.cell? ⟨g,i * 17 + 12,none⟩ = some (J U q.px) ∧ w.cell? ⟨g,i * 17 + 13,none⟩ = some (J U q.py) ∧ w.cell? ⟨g,i * 17 + 14,none⟩ = some (J U q.pz) ∧ w.cell? ⟨g,i * 17 + 15,none⟩ = some (J U q.ms) ∧ w.cell? ⟨g,i * 17 + 16,none⟩ = some (J U q.tm)
theorem OwnB.all {B : Nat → Bd} (h : OwnB w g n B) (hi : i < n) (hq : q = B i) : AllAt w g i q := by
 subst hq;have c : ∀ k,k < 17 → w.cell? (Y g (i * 17 + k)) = some (bc (B i) k) := fun k hk => h.cell hi hk;exact ⟨c 0 (by omega),c 1 (by omega),c 2 (by omega),c 3 (by omega),c 4 (by omega),c 5 (by omega),c 6 (by omega),c 7 (by omega),c 8 (by omega),c 9 (by omega),c 10 (by omega),c 11 (by omega),c 12 (by omega),c 13 (by omega),c 14 (by omega),c 15 (by omega),c 16 (by omega)⟩
theorem AllAt.kept (h : AllAt w g i q) (k : Kept w w') : AllAt w' g i q := by
 obtain ⟨h0,h1,h2,h3,h4,h5,h6,h7,h8,h9,h10,h11,h12,h13,h14,h15,h16⟩ := h;exact ⟨y00 k h0,y00 k h1,y00 k h2,y00 k h3,y00 k h4,y00 k h5,y00 k h6,y00 k h7,y00 k h8,y00 k h9,y00 k h10,y00 k h11,y00 k h12,y00 k h13,y00 k h14,y00 k h15,y00 k h16⟩
theorem Room.fit {c : Nat} (h : Room w a n c) : SlArg a n c ∧ n ≤ c := by
 rcases h with ⟨rfl,rfl,rfl⟩ | ⟨g,rfl,h1,_,_⟩
 ·exact ⟨fun _ => ⟨rfl,rfl⟩,Nat.le_refl _⟩
 ·exact ⟨(fun e => by cases e),h1⟩
def OwnC (n : Nat) (C : Nat → Bd) (w : World) (e : Ending) (w' : World) : Prop := ∃ a g c,e = .returned (.slice a n c) ∧ OwnS w' a g n C ∧ Only [] w w' ∧ w.heap.size ≤ g ∧ SlArg a n c ∧ n ≤ c
structure RW (w : World) (a : Option Addr) (g n : Nat) (C : Nat → Bd) (wr : World) : Prop where
 own : OwnS wr a g n C
 only : Only [] w wr
 new : w.heap.size ≤ g
theorem RW.keep (h : RW w a g n C wr) (o : Only [] wr w') : RW w a g n C w' := ⟨h.own.only o (by simp),h.only.trans o,h.new⟩
theorem RW.turn {D : Nat → Bd} (h : RW w a g n C wr) (ha : a = some (Y g 0)) (hO : OwnB w' g n D) (o : Only [g] wr w') : RW w a g n D w' :=
 ⟨Or.inr ⟨ha,hO⟩,h.only.then o (fun b hb => by simp only [zrc] at hb; subst hb; exact Or.inr h.new),h.new⟩
theorem RW.there (h : RW w a g n C wr) (hi : i < n) : a = some (Y g 0) ∧ OwnB wr g n C := by
 rcases h.own with q | q
 ·omega
 ·exact q
theorem y63 (a b : Option Addr) (n c m d : Nat) (B : Nat → Bd) (T : Nat → Tc) (w : World) (hn : n ≤ 60) (hm : m ≤ 3600) (h : BodiesAt w a n B) (hs : SlArg a n c) (ht : TouchesAt w b m T) :
  Calls Tryz.prog 54 #[.slice a n c,.slice b m d] w (OwnC n (placesX n B T m) w) := by
 have HB : Hid (TouchesAt w b m T ∧ n ≤ 60 ∧ m ≤ 3600) := ⟨ht,hn,hm⟩;have HS : Hid (BodiesAt w a n B ∧ SlArg a n c) := ⟨h,hs⟩;clear h hs ht hn hm;go_enter Tryz.func54,Tryz.ntmps54
 go_upto_region 1 with fail
 go_cut [5] from 14 to 16 (fun s5 wc => ∃ a1 g c1,s5 = .slice a1 n c1 ∧ RW w a1 g n B wc ∧ SlArg a1 n c1 ∧ n ≤ c1)
 case first =>
  cases a with
  | none =>
   obtain ⟨rfl,rfl⟩ := HS.out.2 rfl;go_wp2_with fail
   go_meet
   case rel => exact ⟨_,w.heap.size,_,rfl,⟨Or.inl rfl,(Only.refl [] w).alloc _,Nat.le_refl _⟩,(fun e => by cases e),Nat.le_refl _⟩
  | some ad =>
   obtain ⟨i2,hi0,hz0,hz1,hz2⟩ := y0k bodyInfo;have hcell := y2c (HS.out.1.only ((Only.refl [] w).alloc (.cells #[] 45)));have hn := HB.out.2.1;have hown : (w.alloc (.cells #[] 45)).ownsRow w.heap.size 45 17 (.slice (some ⟨w.heap.size,0,none⟩) 0 0) 0 [] := ⟨rfl,Or.inr ⟨w.heap.size,0,#[],rfl,Nat.le_refl _,(MapKept.heap_alloc w _).1,by omega,by unfold maxLen; omega,rfl,rfl⟩⟩;go_wp2_with (first | (at_builtin; refine wpList_append_own_at _ rfl _ _ 36 rfl w.heap.size 45 i2 (.agg #[J U 0,J U 0,J U 0,J U 0,J U 0,J U 0,J U 0,J U 0,J U 0,J U 0,J U 0,J U 0,J U 0,J U 0,J U 0,J U 0,J U 0]) 17 136 Tryz.underlying36 hi0 hz0 hz1 hz2 rfl (by decide) (.slice (some ⟨w.heap.size,0,none⟩) 0 0) 0 [] rfl hown ad n c (rowsL B n) rfl (y18 B n) hcell (y1t B n) (by unfold maxLen; omega) (by omega) (by simp) ?_; intro v' w5 hown hgrow hnil hloc; simp only [Nat.zero_add,List.nil_append] at hown; have H5 : Hid (w5.ownsRow w.heap.size 45 17 v' n (rowsL B n) ∧ Only [] w w5) := ⟨hown,((Only.refl [] w).alloc _).grown hgrow (fun k hk => by simp [Value.ownBlock] at hk; exact Or.inr (by omega))⟩; clear hown hgrow hnil hloc hcell))
   obtain ⟨a',g',c',rfl,hS,hg⟩ := OwnS.of_row H5.out.1;have HF6 : Hid (SlArg a' n c' ∧ n ≤ c') := (Room.of_row H5.out.1).fit
   have H6 : Hid (∃ g,RW w a' g n B w5) := by
    by_cases h0 : n = 0
    ·exact ⟨w.heap.size,Or.inl h0,H5.out.2,Nat.le_refl _⟩
    ·exact ⟨g',hS,H5.out.2,hg h0⟩
   clear hS hg H5;go_wp2_with fail
   go_meet
   case rel => exact ⟨a',H6.out.choose,c',rfl,H6.out.choose_spec,HF6.out⟩
 case rest =>
  obtain ⟨a1,g,c1,rfl,hrw,hfit⟩ := hcut;have HF1 : Hid (SlArg a1 n c1 ∧ n ≤ c1) := hfit;clear hfit;have H1 : Hid (RW w a1 g n B wc) := hrw;clear hrw HS;go_wp2_with fail
  go_loopg [19] m (fun k idx wr => ∃ j : Nat,idx = J U (j : Int) ∧ Hid (j ≤ m ∧ k = m - j) ∧ Hid (RW w a1 g n (placesX n B T j) wr))
  case atStart => exact ⟨0,rfl,⟨by omega,rfl⟩,H1⟩
  case round =>
   obtain ⟨j,rfl,H2,HP⟩ := hrel;have hm := HB.out.2.2;have hn := HB.out.2.1;by_cases hj : j < m
   ·have hjl : (j : Int) < (m : Int) := by omega
    obtain ⟨i1,i2,gt,ot,rfl,c0,c1',c2,c3,c4,c5⟩ := (HB.out.1.only HP.out.only) j hj;clear i1 i2;obtain ⟨t,htj⟩ : ∃ t,t = T j := ⟨_,rfl⟩;rw [← htj] at c0 c1' c2 c3 c4 c5;have HT : Hid (t = T j) := htj;obtain ⟨C,hC⟩ : ∃ C,C = placesX n B T j := ⟨_,rfl⟩;rw [← hC] at HP;have HC : Hid (C = placesX n B T j) := hC;clear htj hC;go_upto_region 5 with fail
    clear c0 c1' c2 c3 c4 c5;have H3 : Hid (RW w a1 g n C (wr.alloc (.cells #[J U t.a,J U t.b,J U t.way.x,J U t.way.y,J U t.way.z,J U t.deep] 68)) ∧ TouchAt (wr.alloc (.cells #[J U t.a,J U t.b,J U t.way.x,J U t.way.y,J U t.way.z,J U t.deep] 68)) wr.heap.size t ∧ ∀ q,q < n → wr.heap.size ≠ g) := ⟨HP.out.keep ((Only.refl [] wr).alloc _),(MapKept.heap_alloc wr _).1,fun q hq => by have := (HP.out.there hq).2.lt; omega⟩;revert H3;generalize wr.heap.size = kt;generalize World.alloc wr _ = w3;intro H3;have HK : Hid (∀ w',Kept w3 w' → Kept w3 w' ∧ w'.cell? ⟨kt,0,none⟩ = some (J U t.a) ∧ w'.cell? ⟨kt,1,none⟩ = some (J U t.b)) := fun w' o => ⟨o,y00 o (H3.out.2.1.off 0),y00 o (H3.out.2.1.off 1)⟩;refine wp_region_held_drew (S := (fun w' => Kept w3 w' ∧ Zc w' kt 0 t.a ∧ Zc w' kt 1 t.b)) (by kernel_rfl) ?_ (fun hJ1 => ?_)
    ·exact HK.out _ kd
    refine tkW 0 rfl ?_; refine tkW 1 rfl ?_; refine tkW 2 rfl ?_; refine tkW 4 rfl ?_;try simp only [zP]
    refine tkW 5 rfl ?_; refine tkW 6 rfl ?_;try simp only [zP]
    refine rdW 3 rfl fun K hK => ?_;simp only [zQ];go_simp
    (go_at_call 44; refine (y1v a1 n c1 C t.a _ hn (H3.out.1.own.bodies.only (Only.refl [] w3).drew)).mono ?_; rintro e w4 ⟨rfl,k4⟩)
    try go_wp2_with fail
    refine hK.out _ _ ?_ fun hJ2 => ?_
    ·exact HK.out _ ((Kept.refl w3).drew.trans k4)
    clear hK K hJ1;try simp only [zP]
    refine rdW 7 rfl fun K hK => ?_;simp only [zQ];go_simp
    (go_at_call 44; refine (y1v a1 n c1 C t.b _ hn (H3.out.1.own.bodies.only (Only.of_kept ((Kept.refl w3).drew.trans k4)))).mono ?_; rintro e w5 ⟨rfl,k5⟩)
    try go_wp2_with fail
    refine hK.out _ _ ?_ fun hJ3 => ?_
    ·exact HK.out _ (((Kept.refl w3).drew.trans k4).trans k5)
    clear hK K hJ2;try simp only [zP]
    refine tkW 8 rfl ?_; refine tkW 9 rfl ?_;try simp only [zP]
    refine wpAnyH_done (by kernel_rfl) ?_ _;have HRW : Hid (RW w a1 g n C w5) := H3.out.1.keep (Only.of_kept (((Kept.refl w3).drew.trans k4).trans k5));have HTT : Hid (TouchAt w5 kt t) := H3.out.2.1.only (Only.of_kept (D := []) (((Kept.refl w3).drew.trans k4).trans k5)) (by simp);have HGK : Hid (∀ q,q < n → kt ≠ g) := H3.out.2.2;clear hJ3 HK k4 k5 H3 HP;have m5 := HTT.out.off 5;simp only [zR] at m5
    cases hfa : findX C t.a n with
    | none =>
     have HE : Hid (stepX n C t = C) := by show stepX n C t = C; simp [stepX,hfa]
     clear hfa;generalize numX (findX C t.b n) = nb;simp only [numX];go_wp2_with fail
     go_roundg (m - (j + 1))
     case measure => have := H2.out.2; omega
     case rel => exact ⟨j + 1,by go_num,⟨by omega,rfl⟩,by show RW w _ g n (stepX n (placesX n B T j) (T j)) _; rw [← HT.out,← HC.out,HE.out]; exact (HRW.out.keep (Only.refl _ _) : RW ..)⟩
    | some i =>
     cases hfb : findX C t.b n with
     | none =>
      have HE : Hid (stepX n C t = C) := by show stepX n C t = C; simp [stepX,hfa,hfb]
      obtain ⟨hin,_⟩ := y0c hfa;clear hfa hfb;have ti : ¬ (i : Int) < 0 := by omega
      simp only [numX];go_wp2_with fail
      go_roundg (m - (j + 1))
      case measure => have := H2.out.2; omega
      case rel => exact ⟨j + 1,by go_num,⟨by omega,rfl⟩,by show RW w _ g n (stepX n (placesX n B T j) (T j)) _; rw [← HT.out,← HC.out,HE.out]; exact (HRW.out.keep (Only.refl _ _) : RW ..)⟩
     | some k =>
      obtain ⟨hin,_⟩ := y0c hfa;obtain ⟨hkn,_⟩ := y0c hfb;have ti : ¬ (i : Int) < 0 := by omega
      have tk : ¬ (k : Int) < 0 := by omega
      simp only [numX];by_cases hik : i = k
      ·subst hik
       have HE : Hid (stepX n C t = C) := by show stepX n C t = C; simp [stepX,hfa,hfb]
       clear hfa hfb;go_wp2_with fail
       go_roundg (m - (j + 1))
       case measure => have := H2.out.2; omega
       case rel => exact ⟨j + 1,by go_num,⟨by omega,rfl⟩,by show RW w _ g n (stepX n (placesX n B T j) (T j)) _; rw [← HT.out,← HC.out,HE.out]; exact (HRW.out.keep (Only.refl _ _) : RW ..)⟩
      ·have tik : ((i : Int) == (k : Int)) = false := by simp; omega
       by_cases hd : t.deep ≤ 655
       ·have HE : Hid (stepX n C t = C) := by show stepX n C t = C; simp [stepX,hfa,hfb,hd]
        clear hfa hfb;go_wp2_with fail
        go_roundg (m - (j + 1))
        case measure => have := H2.out.2; omega
        case rel => exact ⟨j + 1,by go_num,⟨by omega,rfl⟩,by show RW w _ g n (stepX n (placesX n B T j) (T j)) _; rw [← HT.out,← HC.out,HE.out]; exact (HRW.out.keep (Only.refl _ _) : RW ..)⟩
       ·have HE : Hid (stepX n C t = if 0 < add (lightX (C i).ms) (lightX (C k).ms) then partX C i k (lightX (C i).ms) (lightX (C k).ms) (add (lightX (C i).ms) (lightX (C k).ms)) t.way t.deep else C) := by show stepX n C t = _; simp [stepX,hfa,hfb,hik,hd]
        clear hfa hfb
        as_aux_lemma =>
         have hil : (i : Int) < (n : Int) := by omega
         have hkl : (k : Int) < (n : Int) := by omega
         obtain ⟨ha1,hO⟩ := HRW.out.there hin;subst ha1;go_upto_region 7 with fail
         obtain ⟨qi,hqi⟩ : ∃ q,q = C i := ⟨_,rfl⟩;obtain ⟨qk,hqk⟩ : ∃ q,q = C k := ⟨_,rfl⟩;have HQQ : Hid (qi = C i ∧ qk = C k) := ⟨hqi,hqk⟩;rw [← hqi,← hqk] at HE;have hAi := hO.all hin hqi;have hAk := hO.all hkn hqk;have HLI : Hid (∀ w',Kept w5 w' → AllAt w' g i qi) := fun w' o => hAi.kept o;have HLK : Hid (∀ w',Kept w5 w' → AllAt w' g k qk) := fun w' o => hAk.kept o;clear hqi hqk hAi hAk hO;refine wp_region_held_drew (S := (fun w' => Kept w5 w')) (by kernel_rfl) ?_ (fun hJ1 => ?_)
         ·exact kd
         refine tkW 0 rfl ?_; refine tkW 1 rfl ?_; refine tkW 2 rfl ?_; refine tkW 5 rfl ?_;try simp only [zP]
         refine tkW 6 rfl ?_; refine tkW 7 rfl ?_;try simp only [zP]
         refine tkW 3 rfl ?_ (by intro w'' hSw; (try dsimp only at hSw); obtain ⟨d0,d1,d2,d3,d4,d5,d6,d7,d8,d9,d10,d11,d12,d13,d14,d15,d16⟩ := HLI.out _ hSw; simp only [zQ]; (go_simp <;> with_reducible rfl));try simp only [zP]
         refine tkW 8 rfl ?_ (by intro w'' hSw; (try dsimp only at hSw); obtain ⟨d0,d1,d2,d3,d4,d5,d6,d7,d8,d9,d10,d11,d12,d13,d14,d15,d16⟩ := HLK.out _ hSw; simp only [zQ]; (go_simp <;> with_reducible rfl));try simp only [zP]
         refine rdW 4 rfl fun K hK => ?_;simp only [zQ];go_simp
         (go_at_call 79; refine (y2b qi _).mono ?_; rintro e w6 ⟨rfl,k6⟩)
         try go_wp2_with fail
         refine hK.out _ _ ?_ fun hJ2 => ?_
         ·exact (Kept.refl w5).drew.trans k6
         clear hK K hJ1;try simp only [zP]
         refine rdW 9 rfl fun K hK => ?_;simp only [zQ];go_simp
         (go_at_call 79; refine (y2b qk _).mono ?_; rintro e w7 ⟨rfl,k7⟩)
         try go_wp2_with fail
         refine hK.out _ _ ?_ fun hJ3 => ?_
         ·exact ((Kept.refl w5).drew.trans k6).trans k7
         clear hK K hJ2;try simp only [zP]
         refine tkW 10 rfl ?_; refine tkW 11 rfl ?_;try simp only [zP]
         refine wpAnyH_done (by kernel_rfl) ?_ _;have K7 : Hid (Kept w5 w7) := ((Kept.refl w5).drew.trans k6).trans k7;clear hJ3 k6 k7 HLI HLK m5;generalize hx : lightX qi.ms = x at HE;generalize hy : lightX qk.ms = y at HE;clear hx hy;go_wp2_with fail
         refine (y1x x y _).mono ?_;rintro e w8 ⟨rfl,hw8⟩;subst hw8;generalize hal : add x y = al at HE;clear hal;by_cases hpos : 0 < al
         ·have HE1 : Hid (stepX n C t = partX C i k x y al t.way t.deep) := by show stepX n C t = _; rw [HE.out,if_pos hpos]
          clear HE;have HRW7 : Hid (RW w (some ⟨g,0,none⟩) g n C w8 ∧ TouchAt w8 kt t) := ⟨HRW.out.keep (Only.of_kept K7.out),HTT.out.only (Only.of_kept (D := []) K7.out) (by simp)⟩;have m5 := HRW7.out.2.off 5;simp only [zR] at m5;clear K7 HRW HTT;go_wp2_with fail
          refine (y0x t.deep 655 _).mono ?_;rintro e w9 ⟨rfl,hw9⟩;subst hw9;have hq5 := quo5 (sub t.deep 655) (y1a _) (y19 _);go_wp2_with fail
          refine (y2d ((sub t.deep 655).tdiv 5) al _).mono ?_;rintro e w10 ⟨rfl,hw10⟩;subst hw10;clear hq5 m5;have HDD : Hid (div ((sub t.deep 655).tdiv 5) al = deepX t.deep al) := rfl;generalize div ((sub t.deep 655).tdiv 5) al = dd at HDD ⊢;have HOW : Hid (True ∧ OwnB w10 g n C) := ⟨trivial,(HRW7.out.1.there hin).2⟩;have HTA : Hid (TouchAt w10 kt t ∧ kt ≠ g) := ⟨HRW7.out.2,HGK.out i hin⟩;go_upto_region 11 with fail
          go_cut [12] from 68 to 102 (fun s12 wc => OwnB wc g n (upd C i (backX (C i) t.way (mul dd x))) ∧ Only [g] w10 wc)
          case first =>
           as_aux_lemma =>
            obtain ⟨q,hq⟩ : ∃ q,q = C i := ⟨_,rfl⟩;have HQ : Hid (q = C i) := hq;clear hq
            have HLD : Hid (∀ w',Kept w10 w' → w'.cell? ⟨g,i * 17 + 6,none⟩ = some (J U q.ax) ∧ w'.cell? ⟨g,i * 17 + 7,none⟩ = some (J U q.ay) ∧ w'.cell? ⟨g,i * 17 + 8,none⟩ = some (J U q.az)) := fun w' o => by
             have c6 := HOW.out.2.cell hin (show 6 < 17 by omega); have c7 := HOW.out.2.cell hin (show 7 < 17 by omega); have c8 := HOW.out.2.cell hin (show 8 < 17 by omega);rw [← HQ.out] at c6 c7 c8;exact ⟨y00 o c6,y00 o c7,y00 o c8⟩
            have HK : Hid (∀ w',Kept w10 w' → w'.cell? ⟨g,i * 17 + 6,none⟩ = some (J U q.ax) ∧ w'.cell? ⟨g,i * 17 + 7,none⟩ = some (J U q.ay) ∧ w'.cell? ⟨g,i * 17 + 8,none⟩ = some (J U q.az) ∧ w'.cell? ⟨kt,2,none⟩ = some (J U t.way.x) ∧ w'.cell? ⟨kt,3,none⟩ = some (J U t.way.y) ∧ w'.cell? ⟨kt,4,none⟩ = some (J U t.way.z)) := fun w' o => ⟨(HLD.out w' o).1,(HLD.out w' o).2.1,(HLD.out w' o).2.2,y00 o (HTA.out.1.off 2),y00 o (HTA.out.1.off 3),y00 o (HTA.out.1.off 4)⟩;refine y0v 17 (fun w' => w'.cell? ⟨g,i * 17 + 6,none⟩ = some (J U q.ax) ∧ w'.cell? ⟨g,i * 17 + 7,none⟩ = some (J U q.ay) ∧ w'.cell? ⟨g,i * 17 + 8,none⟩ = some (J U q.az) ∧ w'.cell? ⟨kt,2,none⟩ = some (J U t.way.x) ∧ w'.cell? ⟨kt,3,none⟩ = some (J U t.way.y) ∧ w'.cell? ⟨kt,4,none⟩ = some (J U t.way.z)) (by kernel_rfl) ?_ (fun hJ1 => ?_)
            ·exact HK.out _ (Kept.refl w10).drew
            refine tkL 0 rfl ?_; refine tkL 1 rfl ?_; refine tkL 2 rfl ?_; refine tkL 3 rfl ?_;try simp only [zP]
            refine tkL 4 rfl ?_; refine tkL 5 rfl ?_; refine tkL 6 rfl ?_; refine tkL 7 rfl ?_;try simp only [zP]
            refine tkL 8 rfl ?_; refine tkL 9 rfl ?_; refine tkL 10 rfl ?_;try simp only [zP]
            refine y05 (rs := [11]) (by kernel_rfl) (by simp) ?_;refine AllReadyF.cons rfl (fun K hK => ?_) AllReadyF.nil;first | (with_reducible refine iteYes ?hcx ?htx; case hcx => kernel_rfl) | rw [if_pos (by rfl)]
            simp only [zQ];go_simp
            (go_at_call 83; refine (y1c _ _ _).mono ?_; rintro e wq1 ⟨rfl,hq⟩; subst hq)
            try go_wp2_with fail
            refine hK.out _ _ ?_ fun hJ2 => ?_
            ·exact HK.out _ (Kept.refl w10).drew
            clear hK K hJ1;try simp only [zP]
            refine y05 (rs := [12]) (by kernel_rfl) (by simp) ?_;refine AllReadyF.cons rfl (fun K hK => ?_) AllReadyF.nil;first | (with_reducible refine iteYes ?hcx ?htx; case hcx => kernel_rfl) | rw [if_pos (by rfl)]
            simp only [zQ];go_simp
            (go_at_call 82; refine (y1u _ _ _ _ _).mono ?_; rintro e wq2 ⟨rfl,kq2⟩)
            try go_wp2_with fail
            refine hK.out _ _ ?_ fun hJ3 => ?_
            ·exact HK.out _ ((Kept.refl w10).drew.trans kq2)
            clear hK K hJ2;try simp only [zP]
            refine y05 (rs := [13]) (by kernel_rfl) (by simp) ?_;refine AllReadyF.cons rfl (fun K hK => ?_) AllReadyF.nil;first | (with_reducible refine iteYes ?hcx ?htx; case hcx => kernel_rfl) | rw [if_pos (by rfl)]
            simp only [zQ];go_simp
            (go_at_call 55; refine (y0u _ _ _ _ _ _ _).mono ?_; rintro e wr3 ⟨rfl,kr3⟩)
            try go_wp2_with fail
            refine hK.out _ _ ?_ fun hJ4 => ?_
            ·exact HK.out _ (((Kept.refl w10).drew.trans kq2).trans kr3)
            clear hK K hJ3;try simp only [zP]
            refine y05 (rs := [14]) (by kernel_rfl) (by simp) ?_;refine AllReadyF.cons rfl (fun K hK => ?_) AllReadyF.nil;first | (with_reducible refine iteYes ?hcx ?htx; case hcx => kernel_rfl) | rw [if_pos (by rfl)]
            simp only [zQ];go_simp
            (go_at_call 33; refine (y0n _ _ _ _ _ (by decide)).mono ?_; rintro e wr4 ⟨rfl,kr4⟩; simp only [y25])
            try go_wp2_with fail
            refine hK.out _ _ ?_ fun hJ5 => ?_
            ·exact HK.out _ ((((Kept.refl w10).drew.trans kq2).trans kr3).trans kr4)
            clear hK K hJ4;try simp only [zP]
            have K7 : Hid (Kept w10 wr4) := (((Kept.refl w10).drew.trans kq2).trans kr3).trans kr4;clear kq2 kr3 kr4;refine tkL 15 rfl ?_; refine tkL 16 rfl ?_;try simp only [zP]
            obtain ⟨e6,e7,e8⟩ := HLD.out _ K7.out;have f6 := y01 K7.out (HOW.out.2.free (i * 17 + 6)); have f7 := y01 K7.out (HOW.out.2.free (i * 17 + 7)); have f8 := y01 K7.out (HOW.out.2.free (i * 17 + 8));refine y05 (rs := [17]) (by kernel_rfl) (by simp) ?_;refine AllReadyF.fin rfl (by decide) (fun K hK => ?_) AllReadyF.nil;first | (with_reducible refine iteYes ?hcx ?htx; case hcx => kernel_rfl) | rw [if_pos (by rfl)]
            simp only [zQ];go_simp;skip;refine hK.out _ _ ?_;clear hK K;try simp only [zP]
            refine y1f (by kernel_rfl) ?_ _
            have HFN : Hid (OwnB (((wr4.setCell ⟨g,i * 17 + 6,none⟩ (J U (cl 65536000 (sub q.ax (mul t.way.x (mul dd x)))))).setCell ⟨g,i * 17 + 7,none⟩ (J U (cl 65536000 (sub q.ay (mul t.way.y (mul dd x)))))).setCell ⟨g,i * 17 + 8,none⟩ (J U (cl 65536000 (sub q.az (mul t.way.z (mul dd x)))))) g n (upd C i (backX (C i) t.way (mul dd x))) ∧ Only [g] w10 (((wr4.setCell ⟨g,i * 17 + 6,none⟩ (J U (cl 65536000 (sub q.ax (mul t.way.x (mul dd x)))))).setCell ⟨g,i * 17 + 7,none⟩ (J U (cl 65536000 (sub q.ay (mul t.way.y (mul dd x)))))).setCell ⟨g,i * 17 + 8,none⟩ (J U (cl 65536000 (sub q.az (mul t.way.z (mul dd x))))))) := by
             refine ⟨?_,((((Only.of_kept K7.out).setCell (p := ⟨g,i * 17 + 6,none⟩) (Or.inl (by simp)) _).setCell (p := ⟨g,i * 17 + 7,none⟩) (Or.inl (by simp)) _).setCell (p := ⟨g,i * 17 + 8,none⟩) (Or.inl (by simp)) _)⟩;have h1 := (HOW.out.2.only (Only.of_kept (D := []) K7.out) (by simp)).putAt hin (cl 65536000 (sub q.ax (mul t.way.x (mul dd x)))) (cl 65536000 (sub q.ay (mul t.way.y (mul dd x)))) (cl 65536000 (sub q.az (mul t.way.z (mul dd x))));rw [HQ.out] at h1;show OwnB _ g n (upd C i (backX (C i) t.way (mul dd x)));rw [HQ.out]; exact h1
            clear e6 e7 e8 f6 f7 f8 K7 hJ5;go_wp2_with fail
            go_meet
            case rel => exact HFN.out
          case rest =>
           obtain ⟨hO11,o11⟩ := hcut;obtain ⟨C1,hC1⟩ : ∃ C1,C1 = upd C i (backX (C i) t.way (mul dd x)) := ⟨_,rfl⟩;rw [← hC1] at hO11;have HC1 : Hid (C1 = upd C i (backX (C i) t.way (mul dd x)) ∧ Only [g] w10 wc) := ⟨hC1,o11⟩;have HOW2 : Hid (True ∧ OwnB wc g n C1) := ⟨trivial,hO11⟩;have HTA2 : Hid (TouchAt wc kt t ∧ kt ≠ g) := ⟨HTA.out.1.only o11 (by simp only [zrc]; exact HTA.out.2),HTA.out.2⟩;clear hC1 hO11 o11 HOW HTA;obtain ⟨w11,hw11⟩ : ∃ w11,w11 = wc := ⟨wc,rfl⟩;subst hw11;have HOW := HOW2;have HTA := HTA2;clear HOW2 HTA2;go_upto_region 12 with fail
           as_aux_lemma =>
            obtain ⟨q,hq⟩ : ∃ q,q = C1 k := ⟨_,rfl⟩;have HQ : Hid (q = C1 k) := hq;clear hq
            have HLD : Hid (∀ w',Kept w11 w' → w'.cell? ⟨g,k * 17 + 6,none⟩ = some (J U q.ax) ∧ w'.cell? ⟨g,k * 17 + 7,none⟩ = some (J U q.ay) ∧ w'.cell? ⟨g,k * 17 + 8,none⟩ = some (J U q.az)) := fun w' o => by
             have c6 := HOW.out.2.cell hkn (show 6 < 17 by omega); have c7 := HOW.out.2.cell hkn (show 7 < 17 by omega); have c8 := HOW.out.2.cell hkn (show 8 < 17 by omega);rw [← HQ.out] at c6 c7 c8;exact ⟨y00 o c6,y00 o c7,y00 o c8⟩
            have HK : Hid (∀ w',Kept w11 w' → w'.cell? ⟨g,k * 17 + 6,none⟩ = some (J U q.ax) ∧ w'.cell? ⟨g,k * 17 + 7,none⟩ = some (J U q.ay) ∧ w'.cell? ⟨g,k * 17 + 8,none⟩ = some (J U q.az) ∧ w'.cell? ⟨kt,2,none⟩ = some (J U t.way.x) ∧ w'.cell? ⟨kt,3,none⟩ = some (J U t.way.y) ∧ w'.cell? ⟨kt,4,none⟩ = some (J U t.way.z)) := fun w' o => ⟨(HLD.out w' o).1,(HLD.out w' o).2.1,(HLD.out w' o).2.2,y00 o (HTA.out.1.off 2),y00 o (HTA.out.1.off 3),y00 o (HTA.out.1.off 4)⟩;refine y0v 17 (fun w' => w'.cell? ⟨g,k * 17 + 6,none⟩ = some (J U q.ax) ∧ w'.cell? ⟨g,k * 17 + 7,none⟩ = some (J U q.ay) ∧ w'.cell? ⟨g,k * 17 + 8,none⟩ = some (J U q.az) ∧ w'.cell? ⟨kt,2,none⟩ = some (J U t.way.x) ∧ w'.cell? ⟨kt,3,none⟩ = some (J U t.way.y) ∧ w'.cell? ⟨kt,4,none⟩ = some (J U t.way.z)) (by kernel_rfl) ?_ (fun hJ1 => ?_)
            ·exact HK.out _ (Kept.refl w11).drew
            refine tkL 0 rfl ?_; refine tkL 1 rfl ?_; refine tkL 2 rfl ?_; refine tkL 3 rfl ?_;try simp only [zP]
            refine tkL 4 rfl ?_; refine tkL 5 rfl ?_; refine tkL 6 rfl ?_; refine tkL 7 rfl ?_;try simp only [zP]
            refine tkL 8 rfl ?_; refine tkL 9 rfl ?_; refine tkL 10 rfl ?_;try simp only [zP]
            refine y05 (rs := [11]) (by kernel_rfl) (by simp) ?_;refine AllReadyF.cons rfl (fun K hK => ?_) AllReadyF.nil;first | (with_reducible refine iteYes ?hcx ?htx; case hcx => kernel_rfl) | rw [if_pos (by rfl)]
            simp only [zQ];go_simp
            (go_at_call 83; refine (y1c _ _ _).mono ?_; rintro e wq1 ⟨rfl,hq⟩; subst hq)
            try go_wp2_with fail
            refine hK.out _ _ ?_ fun hJ2 => ?_
            ·exact HK.out _ (Kept.refl w11).drew
            clear hK K hJ1;try simp only [zP]
            refine y05 (rs := [12]) (by kernel_rfl) (by simp) ?_;refine AllReadyF.cons rfl (fun K hK => ?_) AllReadyF.nil;first | (with_reducible refine iteYes ?hcx ?htx; case hcx => kernel_rfl) | rw [if_pos (by rfl)]
            simp only [zQ];go_simp
            (go_at_call 82; refine (y1u _ _ _ _ _).mono ?_; rintro e wq2 ⟨rfl,kq2⟩)
            try go_wp2_with fail
            refine hK.out _ _ ?_ fun hJ3 => ?_
            ·exact HK.out _ ((Kept.refl w11).drew.trans kq2)
            clear hK K hJ2;try simp only [zP]
            refine y05 (rs := [13]) (by kernel_rfl) (by simp) ?_;refine AllReadyF.cons rfl (fun K hK => ?_) AllReadyF.nil;first | (with_reducible refine iteYes ?hcx ?htx; case hcx => kernel_rfl) | rw [if_pos (by rfl)]
            simp only [zQ];go_simp
            (go_at_call 50; refine (y1d _ _ _ _ _ _ _).mono ?_; rintro e wr3 ⟨rfl,kr3⟩)
            try go_wp2_with fail
            refine hK.out _ _ ?_ fun hJ4 => ?_
            ·exact HK.out _ (((Kept.refl w11).drew.trans kq2).trans kr3)
            clear hK K hJ3;try simp only [zP]
            refine y05 (rs := [14]) (by kernel_rfl) (by simp) ?_;refine AllReadyF.cons rfl (fun K hK => ?_) AllReadyF.nil;first | (with_reducible refine iteYes ?hcx ?htx; case hcx => kernel_rfl) | rw [if_pos (by rfl)]
            simp only [zQ];go_simp
            (go_at_call 33; refine (y0n _ _ _ _ _ (by decide)).mono ?_; rintro e wr4 ⟨rfl,kr4⟩; simp only [y25])
            try go_wp2_with fail
            refine hK.out _ _ ?_ fun hJ5 => ?_
            ·exact HK.out _ ((((Kept.refl w11).drew.trans kq2).trans kr3).trans kr4)
            clear hK K hJ4;try simp only [zP]
            have K7 : Hid (Kept w11 wr4) := (((Kept.refl w11).drew.trans kq2).trans kr3).trans kr4;clear kq2 kr3 kr4;refine tkL 15 rfl ?_; refine tkL 16 rfl ?_;try simp only [zP]
            obtain ⟨e6,e7,e8⟩ := HLD.out _ K7.out;have f6 := y01 K7.out (HOW.out.2.free (k * 17 + 6)); have f7 := y01 K7.out (HOW.out.2.free (k * 17 + 7)); have f8 := y01 K7.out (HOW.out.2.free (k * 17 + 8));refine y05 (rs := [17]) (by kernel_rfl) (by simp) ?_;refine AllReadyF.fin rfl (by decide) (fun K hK => ?_) AllReadyF.nil;first | (with_reducible refine iteYes ?hcx ?htx; case hcx => kernel_rfl) | rw [if_pos (by rfl)]
            simp only [zQ];go_simp;skip;refine hK.out _ _ ?_;clear hK K;try simp only [zP]
            refine y1f (by kernel_rfl) ?_ _
            have HFN : Hid (OwnB (((wr4.setCell ⟨g,k * 17 + 6,none⟩ (J U (cl 65536000 (add q.ax (mul t.way.x (mul dd y)))))).setCell ⟨g,k * 17 + 7,none⟩ (J U (cl 65536000 (add q.ay (mul t.way.y (mul dd y)))))).setCell ⟨g,k * 17 + 8,none⟩ (J U (cl 65536000 (add q.az (mul t.way.z (mul dd y)))))) g n (upd C1 k (forthX (C1 k) t.way (mul dd y))) ∧ Only [g] w11 (((wr4.setCell ⟨g,k * 17 + 6,none⟩ (J U (cl 65536000 (add q.ax (mul t.way.x (mul dd y)))))).setCell ⟨g,k * 17 + 7,none⟩ (J U (cl 65536000 (add q.ay (mul t.way.y (mul dd y)))))).setCell ⟨g,k * 17 + 8,none⟩ (J U (cl 65536000 (add q.az (mul t.way.z (mul dd y))))))) := by
             refine ⟨?_,((((Only.of_kept K7.out).setCell (p := ⟨g,k * 17 + 6,none⟩) (Or.inl (by simp)) _).setCell (p := ⟨g,k * 17 + 7,none⟩) (Or.inl (by simp)) _).setCell (p := ⟨g,k * 17 + 8,none⟩) (Or.inl (by simp)) _)⟩;have h1 := (HOW.out.2.only (Only.of_kept (D := []) K7.out) (by simp)).putAt hkn (cl 65536000 (add q.ax (mul t.way.x (mul dd y)))) (cl 65536000 (add q.ay (mul t.way.y (mul dd y)))) (cl 65536000 (add q.az (mul t.way.z (mul dd y))));rw [HQ.out] at h1;show OwnB _ g n (upd C1 k (forthX (C1 k) t.way (mul dd y)));rw [HQ.out]; exact h1
            clear e6 e7 e8 f6 f7 f8 K7 hJ5
            have HFI : Hid (RW w (some ⟨g,0,none⟩) g n (stepX n C t) (((wr4.setCell ⟨g,k * 17 + 6,none⟩ (J U (cl 65536000 (add q.ax (mul t.way.x (mul dd y)))))).setCell ⟨g,k * 17 + 7,none⟩ (J U (cl 65536000 (add q.ay (mul t.way.y (mul dd y)))))).setCell ⟨g,k * 17 + 8,none⟩ (J U (cl 65536000 (add q.az (mul t.way.z (mul dd y))))))) := by
             have e1 : stepX n C t = upd C1 k (forthX (C1 k) t.way (mul dd y)) := by rw [HE1.out,HC1.out.1,HDD.out]; rfl
             rw [e1];exact HRW7.out.1.turn rfl HFN.out.1 (HC1.out.2.trans HFN.out.2)
            clear HFN;go_wp2_with fail
            go_roundg (m - (j + 1))
            case measure => have := H2.out.2; omega
            case rel => exact ⟨j + 1,by go_num,⟨by omega,rfl⟩,by show RW w _ g n (stepX n (placesX n B T j) (T j)) _; rw [← HT.out,← HC.out]; exact HFI.out⟩
         ·have HE1 : Hid (stepX n C t = C) := by show stepX n C t = _; rw [HE.out,if_neg hpos]
          clear HE;go_wp2_with fail
          go_roundg (m - (j + 1))
          case measure => have := H2.out.2; omega
          case rel => exact ⟨j + 1,by go_num,⟨by omega,rfl⟩,by show RW w _ g n (stepX n (placesX n B T j) (T j)) _; rw [← HT.out,← HC.out,HE1.out]; exact (HRW.out.keep (Only.of_kept K7.out) : RW ..)⟩
   ·have hjl : ¬ (j : Int) < (m : Int) := by omega
    obtain rfl : j = m := by have := H2.out.1; omega
    go_wp2_with fail
    go_ret
    exact ⟨a1,g,c1,rfl,HP.out.own,HP.out.only,HP.out.new,HF1.out⟩
end Go.Proofs.YtbenlgandjjopaaGreatDoor
