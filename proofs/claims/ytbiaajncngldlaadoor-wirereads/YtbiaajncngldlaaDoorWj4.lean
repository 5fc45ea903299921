/- gyreref.Asked: whichever bytes. -/
import Derived.Test.YtbiaajncngldlaaDoorWj4a
namespace Go.Proofs.YtbiaajncngldlaaDoor
open Go.ChangeShapes Go.WideShapes Go.ChangeAt Go.RowKit
set_option linter.unusedVariables false
set_option linter.unusedSimpArgs false

set_option maxRecDepth 100000 in
set_option maxHeartbeats 40000000 in
theorem refAsked_calls (a : Option Addr) (c : Nat) (L : List Nat) (w : World) (hl : L.length ≤ 1500) (hs : ∀ x ∈ L, x < 256) (hb : ByAt w a L) (hn : a = none → L = [] ∧ c = 0) :
    Calls Tryd.prog 13 #[.slice a L.length c] w (RAskedPost L w) := by
  have hmf : ∀ (fn : Fn) (first cap : Array Value) (w : World), (Instr.makeFunc fn first cap).run Tryd.prog w = .ok (.func fn first cap) w := fun _ _ _ _ => rfl
  have HB : Hid (ByAt w a L ∧ (∀ x ∈ L, x < 256) ∧ ReadsAs w (.slice a L.length c) L) := ⟨hb, hs, arg_reads hb hn⟩
  clear hb hs hn
  go_enter Tryd.func13, Tryd.ntmps13
  go_upto_region 1 with fail
  have H0 : Hid (CmAt 30 (w.alloc (.cells #[.int .i64 0, .int .i64 0, .int .i64 0, .int .i64 0, .int .i64 0, .int .i64 0, .int .i64 0, .int .i64 0] 30)) w.heap.size ⟨0, 0, 0, 0, 0, 0, 0, 0⟩ ∧ Only [] w (w.alloc (.cells #[.int .i64 0, .int .i64 0, .int .i64 0, .int .i64 0, .int .i64 0, .int .i64 0, .int .i64 0, .int .i64 0] 30))) := ⟨(MapKept.heap_alloc w _).1, (Only.refl _ _).alloc _⟩
  revert H0
  generalize hks : w.heap.size = ks
  have HKS : Hid (w.heap.size = ks) := hks
  clear hks
  generalize World.alloc w _ = w1
  intro H0
  go_wp2_with fail
  refine (open_calls a c L w1 hl HB.out.2.1 (HB.out.1.only H0.out.2 (by simp))).mono ?_
  rintro e w2 ⟨vt, rfl, hsl, o2, hown⟩
  have H1 : Hid (CmAt 30 w2 ks ⟨0, 0, 0, 0, 0, 0, 0, 0⟩ ∧ Only [] w w2 ∧ SlB w2 vt (bitsOf L) ∧ (∀ b ∈ ownL vt, w1.heap.size ≤ b) ∧ ks < w1.heap.size) := ⟨H0.out.1.only o2 (by simp), H0.out.2.trans o2, hsl, hown, H0.out.1.lt⟩
  obtain ⟨a9, c9, rfl, _, _⟩ := hsl.shape
  clear hsl o2 hown H0
  have hL3 : (bitsOf L).length = 8 * L.length := bitsOf_len L
  obtain ⟨m3, hm3⟩ : ∃ m3, m3 = (bitsOf L).length := ⟨_, rfl⟩
  rw [← hm3] at H1 ⊢
  have HM3 : Hid (m3 = 8 * L.length) := by show _ = _; rw [hm3, hL3]
  clear hm3 hL3
  obtain ⟨vt, hvt⟩ : ∃ vt, vt = Value.slice a9 m3 c9 := ⟨_, rfl⟩
  have HVT : Hid (vt = Value.slice a9 m3 c9) := hvt
  go_upto_region 4 with fail
  have H2 : Hid (RQ w w2.heap.size vt L (w2.heap.size + 1) [ks] false 0 ((w2.alloc (.cells #[.slice a9 m3 c9, .int .i64 0] 85)).alloc (.cells #[.bool false] 4)) ∧ CmAt 30 ((w2.alloc (.cells #[.slice a9 m3 c9, .int .i64 0] 85)).alloc (.cells #[.bool false] 4)) ks ⟨0, 0, 0, 0, 0, 0, 0, 0⟩) := by
    obtain ⟨p1, p2, p3, p4, p5⟩ := H1.out
    rw [← hvt] at p3 p4
    have o : Only [] w2 ((w2.alloc (.cells #[.slice a9 m3 c9, .int .i64 0] 85)).alloc (.cells #[.bool false] 4)) := ((Only.refl _ _).alloc _).alloc _
    have hsz := p2.size
    have hkl := p1.lt
    refine ⟨⟨⟨?_, p3.kept o (by simp), fun k => by have := p3.lt _ k; omega, bitsOf_bits L, by rw [bitsOf_len]; omega, by omega⟩, ?_, by omega, fun k => by have := p3.lt _ k; omega, fun k hk => ?_, by omega, p2.trans o⟩, p1.only o (by simp)⟩
    · rw [Below.heap_alloc _ _ _ (by simp), hvt]; exact (MapKept.heap_alloc w2 _).1
    · have := (MapKept.heap_alloc (w2.alloc (.cells #[.slice a9 m3 c9, .int .i64 0] 85)) (.cells #[.bool false] 4)).1
      simpa using this
    · rw [List.mem_singleton.1 hk]
      exact ⟨by omega, by omega, fun hm => by have := p4 _ hm; omega⟩
  clear H1 hvt
  revert H2
  generalize w2.heap.size + 1 = kx
  generalize w2.heap.size = kt
  generalize World.alloc (World.alloc w2 _) _ = w3
  intro H2
  go_wp2_with fail
  refine (tvar_calls kt vt L 0 _ H2.out.1.tp).mono ?_
  rintro e w4 ⟨rfl, h1, o1⟩
  have HM : Hid (RQ w kt vt L kx [ks] false (a0 L).2.2 w4 ∧ CmAt 30 w4 ks ⟨0, 0, 0, 0, 0, 0, 0, 0⟩) := ⟨H2.out.1.read h1 o1, H2.out.2.keepT H2.out.1 (by simp) o1⟩
  clear h1 o1 H2
  go_wp2_with fail
  refine (numA_calls (((a0 L).2.1 : Nat) : Int) (a0 L).1 false kx w4 HM.out.1.bx).mono ?_
  rintro e w5 ⟨rfl, h2, o2⟩
  have H3 : Hid (RQ w kt vt L kx [ks] (false || dE ((a0 L))) (a0 L).2.2 w5 ∧ CmAt 30 w5 ks ⟨0, 0, 0, 0, 0, 0, 0, 0⟩) := ⟨HM.out.1.mark h2 o2, HM.out.2.keepX HM.out.1 (by simp) o2⟩
  clear h2 o2 HM
  go_wp2_with fail
  refine (tvar_calls kt vt L (a0 L).2.2 _ H3.out.1.tp).mono ?_
  rintro e w6 ⟨rfl, h1, o1⟩
  have HM : Hid (RQ w kt vt L kx [ks] (false || dE (a0 L)) (a1 L).2.2 w6 ∧ CmAt 30 w6 ks ⟨0, 0, 0, 0, 0, 0, 0, 0⟩) := ⟨H3.out.1.read h1 o1, H3.out.2.keepT H3.out.1 (by simp) o1⟩
  clear h1 o1 H3
  go_wp2_with fail
  refine (numA_calls (((a1 L).2.1 : Nat) : Int) (a1 L).1 (false || dE (a0 L)) kx w6 HM.out.1.bx).mono ?_
  rintro e w7 ⟨rfl, h2, o2⟩
  have H4 : Hid (RQ w kt vt L kx [ks] ((false || dE (a0 L)) || dE ((a1 L))) (a1 L).2.2 w7 ∧ CmAt 30 w7 ks ⟨0, 0, 0, 0, 0, 0, 0, 0⟩) := ⟨HM.out.1.mark h2 o2, HM.out.2.keepX HM.out.1 (by simp) o2⟩
  clear h2 o2 HM
  go_wp2_with fail
  refine (tvar_calls kt vt L (a1 L).2.2 _ H4.out.1.tp).mono ?_
  rintro e w8 ⟨rfl, h1, o1⟩
  have HM : Hid (RQ w kt vt L kx [ks] ((false || dE (a0 L)) || dE (a1 L)) (a2 L).2.2 w8 ∧ CmAt 30 w8 ks ⟨0, 0, 0, 0, 0, 0, 0, 0⟩) := ⟨H4.out.1.read h1 o1, H4.out.2.keepT H4.out.1 (by simp) o1⟩
  clear h1 o1 H4
  go_wp2_with fail
  refine (numA_calls (((a2 L).2.1 : Nat) : Int) (a2 L).1 ((false || dE (a0 L)) || dE (a1 L)) kx w8 HM.out.1.bx).mono ?_
  rintro e w9 ⟨rfl, h2, o2⟩
  have H5 : Hid (RQ w kt vt L kx [ks] (((false || dE (a0 L)) || dE (a1 L)) || dE ((a2 L))) (a2 L).2.2 w9 ∧ CmAt 30 w9 ks ⟨0, 0, 0, 0, 0, 0, 0, 0⟩) := ⟨HM.out.1.mark h2 o2, HM.out.2.keepX HM.out.1 (by simp) o2⟩
  clear h2 o2 HM
  go_wp2_with fail
  refine (tget_getM kt vt L (a2 L).2.2 (2) _ H5.out.1.tp).mono ?_
  rintro e w10 ⟨rfl, h1, o1⟩
  have HM : Hid (RQ w kt vt L kx [ks] (((false || dE (a0 L)) || dE (a1 L)) || dE (a2 L)) (a3 L).2.2 w10 ∧ CmAt 30 w10 ks ⟨0, 0, 0, 0, 0, 0, 0, 0⟩) := ⟨H5.out.1.read h1 o1, H5.out.2.keepT H5.out.1 (by simp) o1⟩
  clear h1 o1 H5
  go_wp2_with fail
  refine (numA_calls (a3 L).2.1 (a3 L).1 (((false || dE (a0 L)) || dE (a1 L)) || dE (a2 L)) kx w10 HM.out.1.bx).mono ?_
  rintro e w11 ⟨rfl, h2, o2⟩
  have H6 : Hid (RQ w kt vt L kx [ks] ((((false || dE (a0 L)) || dE (a1 L)) || dE (a2 L)) || dE ((a3 L))) (a3 L).2.2 w11 ∧ CmAt 30 w11 ks ⟨0, 0, 0, 0, 0, 0, 0, 0⟩) := ⟨HM.out.1.mark h2 o2, HM.out.2.keepX HM.out.1 (by simp) o2⟩
  clear h2 o2 HM
  obtain ⟨kd, hkd⟩ : ∃ kd, kd = (a3 L).2.1 := ⟨_, rfl⟩
  have HKD : Hid (kd = (a3 L).2.1) := hkd
  obtain ⟨x0, hx0⟩ : ∃ x0 : Int, x0 = (((a0 L).2.1 : Nat) : Int) := ⟨_, rfl⟩
  obtain ⟨x1, hx1⟩ : ∃ x1 : Int, x1 = (((a1 L).2.1 : Nat) : Int) := ⟨_, rfl⟩
  obtain ⟨x2, hx2⟩ : ∃ x2 : Int, x2 = (((a2 L).2.1 : Nat) : Int) := ⟨_, rfl⟩
  have HX : Hid (x0 = (((a0 L).2.1 : Nat) : Int) ∧ x1 = (((a1 L).2.1 : Nat) : Int) ∧ x2 = (((a2 L).2.1 : Nat) : Int)) := ⟨hx0, hx1, hx2⟩
  rw [← hkd, ← hx0, ← hx1, ← hx2]
  clear hkd hx0 hx1 hx2
  go_upto_region 5 with fail
  have H7 : Hid (RQ w kt vt L kx [w11.heap.size, ks] (bad3 L) (a3 L).2.2 (w11.alloc (.cells #[.int .i64 x0, .int .i64 x1, .int .i64 x2, .int .i64 kd, .int .i64 0, .int .i64 0, .int .i64 0, .int .i64 0] 30)) ∧ CmAt 30 (w11.alloc (.cells #[.int .i64 x0, .int .i64 x1, .int .i64 x2, .int .i64 kd, .int .i64 0, .int .i64 0, .int .i64 0, .int .i64 0] 30)) w11.heap.size ⟨x0, x1, x2, kd, 0, 0, 0, 0⟩ ∧ CmAt 30 (w11.alloc (.cells #[.int .i64 x0, .int .i64 x1, .int .i64 x2, .int .i64 kd, .int .i64 0, .int .i64 0, .int .i64 0, .int .i64 0] 30)) ks ⟨0, 0, 0, 0, 0, 0, 0, 0⟩) :=
    ⟨by have := H6.out.1.add (k := w11.heap.size) ((Only.refl [] w11).alloc (.cells #[.int .i64 x0, .int .i64 x1, .int .i64 x2, .int .i64 kd, .int .i64 0, .int .i64 0, .int .i64 0, .int .i64 0] 30)) (Nat.le_refl _); rw [Bool.false_or] at this; exact this, (MapKept.heap_alloc w11 _).1, H6.out.2.only (D := []) ((Only.refl _ _).alloc _) (by simp)⟩
  have HDS : Hid (w11.heap.size ≠ ks ∧ w.heap.size ≤ w11.heap.size) := ⟨fun e => by have := H6.out.2.lt; omega, H6.out.1.only.size⟩
  clear H6
  revert H7 HDS
  generalize w11.heap.size = kc
  generalize World.alloc w11 _ = w12
  intro H7 HDS
  by_cases hk1 : kd = 1
  · subst hk1
    obtain ⟨c0, c1, c2, c3, c4, c5, c6, c7⟩ := H7.out.2.1.cells
    simp only at c0 c1 c2 c3 c4 c5 c6 c7
    go_upto_region 6 with fail
    clear c0 c1 c2 c3 c4 c5 c6 c7
    go_wp2_with fail
    refine (tvar_calls kt vt L (a3 L).2.2 _ H7.out.1.tp).mono ?_
    rintro e w13 ⟨rfl, h1, o1⟩
    have HM : Hid (RQ w kt vt L kx [kc, ks] (bad3 L) (b4 L).2.2 w13 ∧ CmAt 30 w13 kc ⟨x0, x1, x2, 1, 0, 0, 0, 0⟩ ∧ CmAt 30 w13 ks ⟨0, 0, 0, 0, 0, 0, 0, 0⟩) := ⟨H7.out.1.read h1 o1, H7.out.2.1.keepT H7.out.1 (by simp) o1, H7.out.2.2.keepT H7.out.1 (by simp) o1⟩
    clear h1 o1 H7
    go_wp2_with fail
    refine (numA_calls (((b4 L).2.1 : Nat) : Int) (b4 L).1 (bad3 L) kx w13 HM.out.1.bx).mono ?_
    rintro e w14 ⟨rfl, h2, o2⟩
    have H8 : Hid (RQ w kt vt L kx [kc, ks] ((bad3 L) || dE ((b4 L))) (b4 L).2.2 w14 ∧ CmAt 30 w14 kc ⟨x0, x1, x2, 1, 0, 0, 0, 0⟩ ∧ CmAt 30 w14 ks ⟨0, 0, 0, 0, 0, 0, 0, 0⟩) := ⟨HM.out.1.mark h2 o2, HM.out.2.1.keepX HM.out.1 (by simp) o2, HM.out.2.2.keepX HM.out.1 (by simp) o2⟩
    clear h2 o2 HM
    obtain ⟨x4, hx4⟩ : ∃ x4 : Int, x4 = (((b4 L).2.1 : Nat) : Int) := ⟨_, rfl⟩
    have HX4 : Hid (x4 = (((b4 L).2.1 : Nat) : Int)) := hx4
    rw [← hx4]
    clear hx4
    have cc := H8.out.2.1.cells
    simp only at cc
    obtain ⟨c0, c1, c2, c3, c4, c5, c6, c7⟩ := cc
    have ff := H8.out.2.1.free 4
    have H10 : Hid (RQ w kt vt L kx [kc, ks] (bad3 L || dE (b4 L)) (b4 L).2.2 (w14.setCell ⟨kc, 4, none⟩ (.int .i64 x4)) ∧ CmAt 30 (w14.setCell ⟨kc, 4, none⟩ (.int .i64 x4)) kc ⟨x0, x1, x2, 1, x4, 0, 0, 0⟩ ∧ CmAt 30 (w14.setCell ⟨kc, 4, none⟩ (.int .i64 x4)) ks ⟨0, 0, 0, 0, 0, 0, 0, 0⟩) := by
      have o : Only [kc] w14 (w14.setCell ⟨kc, 4, none⟩ (.int .i64 x4)) := (Only.refl _ _).setCell (p := ⟨kc, 4, none⟩) (Or.inl (by simp)) _
      exact ⟨H8.out.1.other (k := kc) (by simp) HDS.out.2 o, H8.out.2.1.put_bd _, H8.out.2.2.only o (by simpa using fun e => HDS.out.1 e.symm)⟩
    go_upto_region 7 with fail
    clear c0 c1 c2 c3 c4 c5 c6 c7 ff H8
    generalize World.setCell w14 _ _ = w15 at H10 ⊢
    obtain ⟨c0, c1, c2, c3, c4, c5, c6, c7⟩ := H10.out.2.1.cells
    simp only at c0 c1 c2 c3 c4 c5 c6 c7
    go_upto_region 8 with fail
    clear c0 c1 c2 c3 c4 c5 c6 c7
    go_wp2_with fail
    refine (tint_calls kt vt L (b4 L).2.2 _ H10.out.1.tp).mono ?_
    rintro e w16 ⟨rfl, h1, o1⟩
    have HM : Hid (RQ w kt vt L kx [kc, ks] (bad3 L || dE (b4 L)) (b5 L).2.2 w16 ∧ CmAt 30 w16 kc ⟨x0, x1, x2, 1, x4, 0, 0, 0⟩ ∧ CmAt 30 w16 ks ⟨0, 0, 0, 0, 0, 0, 0, 0⟩) := ⟨H10.out.1.read h1 o1, H10.out.2.1.keepT H10.out.1 (by simp) o1, H10.out.2.2.keepT H10.out.1 (by simp) o1⟩
    clear h1 o1 H10
    go_wp2_with fail
    refine (numA_calls (b5 L).2.1 (b5 L).1 (bad3 L || dE (b4 L)) kx w16 HM.out.1.bx).mono ?_
    rintro e w17 ⟨rfl, h2, o2⟩
    have HRd : Hid (RQ w kt vt L kx [kc, ks] ((bad3 L || dE (b4 L)) || dE ((b5 L))) (b5 L).2.2 w17 ∧ CmAt 30 w17 kc ⟨x0, x1, x2, 1, x4, 0, 0, 0⟩ ∧ CmAt 30 w17 ks ⟨0, 0, 0, 0, 0, 0, 0, 0⟩) := ⟨HM.out.1.mark h2 o2, HM.out.2.1.keepX HM.out.1 (by simp) o2, HM.out.2.2.keepX HM.out.1 (by simp) o2⟩
    clear h2 o2 HM
    obtain ⟨x5, hx5⟩ : ∃ x5 : Int, x5 = (b5 L).2.1 := ⟨_, rfl⟩
    have HX5 : Hid (x5 = (b5 L).2.1) := hx5
    rw [← hx5]
    clear hx5
    have cc := HRd.out.2.1.cells
    simp only at cc
    obtain ⟨c0, c1, c2, c3, c4, c5, c6, c7⟩ := cc
    have ff := HRd.out.2.1.free 5
    have H11 : Hid (RQ w kt vt L kx [kc, ks] ((bad3 L || dE (b4 L)) || dE (b5 L)) (b5 L).2.2 (w17.setCell ⟨kc, 5, none⟩ (.int .i64 x5)) ∧ CmAt 30 (w17.setCell ⟨kc, 5, none⟩ (.int .i64 x5)) kc ⟨x0, x1, x2, 1, x4, x5, 0, 0⟩ ∧ CmAt 30 (w17.setCell ⟨kc, 5, none⟩ (.int .i64 x5)) ks ⟨0, 0, 0, 0, 0, 0, 0, 0⟩) := by
      have o : Only [kc] w17 (w17.setCell ⟨kc, 5, none⟩ (.int .i64 x5)) := (Only.refl _ _).setCell (p := ⟨kc, 5, none⟩) (Or.inl (by simp)) _
      exact ⟨HRd.out.1.other (k := kc) (by simp) HDS.out.2 o, HRd.out.2.1.put_x _, HRd.out.2.2.only o (by simpa using fun e => HDS.out.1 e.symm)⟩
    go_upto_region 9 with fail
    clear c0 c1 c2 c3 c4 c5 c6 c7 ff HRd
    generalize World.setCell w17 _ _ = w18 at H11 ⊢
    go_wp2_with fail
    refine (tint_calls kt vt L (b5 L).2.2 _ H11.out.1.tp).mono ?_
    rintro e w19 ⟨rfl, h1, o1⟩
    have HM : Hid (RQ w kt vt L kx [kc, ks] ((bad3 L || dE (b4 L)) || dE (b5 L)) (b6 L).2.2 w19 ∧ CmAt 30 w19 kc ⟨x0, x1, x2, 1, x4, x5, 0, 0⟩ ∧ CmAt 30 w19 ks ⟨0, 0, 0, 0, 0, 0, 0, 0⟩) := ⟨H11.out.1.read h1 o1, H11.out.2.1.keepT H11.out.1 (by simp) o1, H11.out.2.2.keepT H11.out.1 (by simp) o1⟩
    clear h1 o1 H11
    go_wp2_with fail
    refine (numA_calls (b6 L).2.1 (b6 L).1 ((bad3 L || dE (b4 L)) || dE (b5 L)) kx w19 HM.out.1.bx).mono ?_
    rintro e w20 ⟨rfl, h2, o2⟩
    have HRd : Hid (RQ w kt vt L kx [kc, ks] (((bad3 L || dE (b4 L)) || dE (b5 L)) || dE ((b6 L))) (b6 L).2.2 w20 ∧ CmAt 30 w20 kc ⟨x0, x1, x2, 1, x4, x5, 0, 0⟩ ∧ CmAt 30 w20 ks ⟨0, 0, 0, 0, 0, 0, 0, 0⟩) := ⟨HM.out.1.mark h2 o2, HM.out.2.1.keepX HM.out.1 (by simp) o2, HM.out.2.2.keepX HM.out.1 (by simp) o2⟩
    clear h2 o2 HM
    obtain ⟨x6, hx6⟩ : ∃ x6 : Int, x6 = (b6 L).2.1 := ⟨_, rfl⟩
    have HX6 : Hid (x6 = (b6 L).2.1) := hx6
    rw [← hx6]
    clear hx6
    have cc := HRd.out.2.1.cells
    simp only at cc
    obtain ⟨c0, c1, c2, c3, c4, c5, c6, c7⟩ := cc
    have ff := HRd.out.2.1.free 6
    have H12 : Hid (RQ w kt vt L kx [kc, ks] (((bad3 L || dE (b4 L)) || dE (b5 L)) || dE (b6 L)) (b6 L).2.2 (w20.setCell ⟨kc, 6, none⟩ (.int .i64 x6)) ∧ CmAt 30 (w20.setCell ⟨kc, 6, none⟩ (.int .i64 x6)) kc ⟨x0, x1, x2, 1, x4, x5, x6, 0⟩ ∧ CmAt 30 (w20.setCell ⟨kc, 6, none⟩ (.int .i64 x6)) ks ⟨0, 0, 0, 0, 0, 0, 0, 0⟩) := by
      have o : Only [kc] w20 (w20.setCell ⟨kc, 6, none⟩ (.int .i64 x6)) := (Only.refl _ _).setCell (p := ⟨kc, 6, none⟩) (Or.inl (by simp)) _
      exact ⟨HRd.out.1.other (k := kc) (by simp) HDS.out.2 o, HRd.out.2.1.put_y _, HRd.out.2.2.only o (by simpa using fun e => HDS.out.1 e.symm)⟩
    go_upto_region 10 with fail
    clear c0 c1 c2 c3 c4 c5 c6 c7 ff HRd
    generalize World.setCell w20 _ _ = w21 at H12 ⊢
    go_wp2_with fail
    refine (tint_calls kt vt L (b6 L).2.2 _ H12.out.1.tp).mono ?_
    rintro e w22 ⟨rfl, h1, o1⟩
    have HM : Hid (RQ w kt vt L kx [kc, ks] (((bad3 L || dE (b4 L)) || dE (b5 L)) || dE (b6 L)) (b7 L).2.2 w22 ∧ CmAt 30 w22 kc ⟨x0, x1, x2, 1, x4, x5, x6, 0⟩ ∧ CmAt 30 w22 ks ⟨0, 0, 0, 0, 0, 0, 0, 0⟩) := ⟨H12.out.1.read h1 o1, H12.out.2.1.keepT H12.out.1 (by simp) o1, H12.out.2.2.keepT H12.out.1 (by simp) o1⟩
    clear h1 o1 H12
    go_wp2_with fail
    refine (numA_calls (b7 L).2.1 (b7 L).1 (((bad3 L || dE (b4 L)) || dE (b5 L)) || dE (b6 L)) kx w22 HM.out.1.bx).mono ?_
    rintro e w23 ⟨rfl, h2, o2⟩
    have HRd : Hid (RQ w kt vt L kx [kc, ks] ((((bad3 L || dE (b4 L)) || dE (b5 L)) || dE (b6 L)) || dE ((b7 L))) (b7 L).2.2 w23 ∧ CmAt 30 w23 kc ⟨x0, x1, x2, 1, x4, x5, x6, 0⟩ ∧ CmAt 30 w23 ks ⟨0, 0, 0, 0, 0, 0, 0, 0⟩) := ⟨HM.out.1.mark h2 o2, HM.out.2.1.keepX HM.out.1 (by simp) o2, HM.out.2.2.keepX HM.out.1 (by simp) o2⟩
    clear h2 o2 HM
    obtain ⟨x7, hx7⟩ : ∃ x7 : Int, x7 = (b7 L).2.1 := ⟨_, rfl⟩
    have HX7 : Hid (x7 = (b7 L).2.1) := hx7
    rw [← hx7]
    clear hx7
    have cc := HRd.out.2.1.cells
    simp only at cc
    obtain ⟨c0, c1, c2, c3, c4, c5, c6, c7⟩ := cc
    have ff := HRd.out.2.1.free 7
    have H13 : Hid (RQ w kt vt L kx [kc, ks] ((((bad3 L || dE (b4 L)) || dE (b5 L)) || dE (b6 L)) || dE (b7 L)) (b7 L).2.2 (w23.setCell ⟨kc, 7, none⟩ (.int .i64 x7)) ∧ CmAt 30 (w23.setCell ⟨kc, 7, none⟩ (.int .i64 x7)) kc ⟨x0, x1, x2, 1, x4, x5, x6, x7⟩ ∧ CmAt 30 (w23.setCell ⟨kc, 7, none⟩ (.int .i64 x7)) ks ⟨0, 0, 0, 0, 0, 0, 0, 0⟩) := by
      have o : Only [kc] w23 (w23.setCell ⟨kc, 7, none⟩ (.int .i64 x7)) := (Only.refl _ _).setCell (p := ⟨kc, 7, none⟩) (Or.inl (by simp)) _
      exact ⟨HRd.out.1.other (k := kc) (by simp) HDS.out.2 o, HRd.out.2.1.put_z _, HRd.out.2.2.only o (by simpa using fun e => HDS.out.1 e.symm)⟩
    go_upto_region 11 with fail
    clear c0 c1 c2 c3 c4 c5 c6 c7 ff HRd
    generalize World.setCell w23 _ _ = w24 at H13 ⊢
    have HC : Hid (askedC L = ⟨x0, x1, x2, 1, x4, x5, x6, x7⟩) := by show _ = _; unfold askedC; rw [if_pos HKD.out.symm, ← HX.out.1, ← HX.out.2.1, ← HX.out.2.2, ← HX4.out, ← HX5.out, ← HX6.out, ← HX7.out]
    have HBD : Hid (askedB L = (((((bad3 L || dE (b4 L)) || dE (b5 L)) || dE (b6 L)) || dE (b7 L)))) := by show _ = _; unfold askedB; rw [if_pos HKD.out.symm]
    obtain ⟨bd, hbd⟩ : ∃ bd, bd = (((((bad3 L || dE (b4 L)) || dE (b5 L)) || dE (b6 L)) || dE (b7 L))) := ⟨_, rfl⟩
    rw [← hbd] at H13 HBD
    clear hbd
    obtain ⟨c0, c1, c2, c3, c4, c5, c6, c7⟩ := H13.out.2.1.cells
    simp only at c0 c1 c2 c3 c4 c5 c6 c7
    go_wp2_with fail
    refine (refAsk_calls ⟨x0, x1, x2, 1, x4, x5, x6, x7⟩ _).mono ?_
    intro e2 wa ha
    have H9 : Hid (RQ w kt vt L kx [kc, ks] bd (b7 L).2.2 wa ∧ CmAt 30 wa kc ⟨x0, x1, x2, 1, x4, x5, x6, x7⟩ ∧ CmAt 30 wa ks ⟨0, 0, 0, 0, 0, 0, 0, 0⟩) := ⟨H13.out.1.keep ha.1, H13.out.2.1.only ha.1 (by simp), H13.out.2.2.only ha.1 (by simp)⟩
    clear c0 c1 c2 c3 c4 c5 c6 c7 H13
    have hsh : ∃ (u : Value) (er : Int), e2 = .returned (.tuple #[u, .int .i64 er]) ∧ ((er = 0 ∧ (0 ≤ (1 : Int) ∧ (1 : Int) ≤ 2) ∧ askOk ⟨x0, x1, x2, 1, x4, x5, x6, x7⟩ ∧ ReadsAs wa u (bytesOf (askT ⟨x0, x1, x2, 1, x4, x5, x6, x7⟩))) ∨ (er ≠ 0 ∧ ¬ ((0 ≤ (1 : Int) ∧ (1 : Int) ≤ 2) ∧ askOk ⟨x0, x1, x2, 1, x4, x5, x6, x7⟩))) := by
      rcases ha.2 with ⟨n, e⟩ | ⟨y, n, e⟩ | ⟨y, k, v, e, hf⟩
      · exact ⟨_, 1, e, Or.inr ⟨by decide, fun q => n q.1⟩⟩
      · exact ⟨_, 2, e, Or.inr ⟨by decide, fun q => n q.2⟩⟩
      · exact ⟨v, 0, e, Or.inl ⟨rfl, y, k, hf.reads⟩⟩
    clear ha
    obtain ⟨u, er, rfl, hcase⟩ := hsh
    have HCS : Hid ((er = 0 ∧ (0 ≤ (1 : Int) ∧ (1 : Int) ≤ 2) ∧ askOk ⟨x0, x1, x2, 1, x4, x5, x6, x7⟩ ∧ ReadsAs wa u (bytesOf (askT ⟨x0, x1, x2, 1, x4, x5, x6, x7⟩))) ∨ (er ≠ 0 ∧ ¬ ((0 ≤ (1 : Int) ∧ (1 : Int) ≤ 2) ∧ askOk ⟨x0, x1, x2, 1, x4, x5, x6, x7⟩))) := hcase
    clear hcase
    have cb := H9.out.1.cell
    cases bd with
    | true =>
      have HNG : Hid (¬ askedGood L) := fun q => by
        have h1 := q.1
        rw [HBD.out] at h1
        cases h1
      obtain ⟨r0, r1, r2, r3, r4, r5, r6, r7⟩ := H9.out.2.2.cells
      have f0 := H9.out.2.2.free 0; have f1 := H9.out.2.2.free 1; have f2 := H9.out.2.2.free 2; have f3 := H9.out.2.2.free 3
      have f4 := H9.out.2.2.free 4; have f5 := H9.out.2.2.free 5; have f6 := H9.out.2.2.free 6; have f7 := H9.out.2.2.free 7
      have HR : Hid (CmAt 30 ((((((((wa.setCell ⟨ks, 0, none⟩ (.int .i64 0)).setCell ⟨ks, 1, none⟩ (.int .i64 0)).setCell ⟨ks, 2, none⟩ (.int .i64 0)).setCell ⟨ks, 3, none⟩ (.int .i64 0)).setCell ⟨ks, 4, none⟩ (.int .i64 0)).setCell ⟨ks, 5, none⟩ (.int .i64 0)).setCell ⟨ks, 6, none⟩ (.int .i64 0)).setCell ⟨ks, 7, none⟩ (.int .i64 0)) ks ⟨0, 0, 0, 0, 0, 0, 0, 0⟩ ∧ Only [] w ((((((((wa.setCell ⟨ks, 0, none⟩ (.int .i64 0)).setCell ⟨ks, 1, none⟩ (.int .i64 0)).setCell ⟨ks, 2, none⟩ (.int .i64 0)).setCell ⟨ks, 3, none⟩ (.int .i64 0)).setCell ⟨ks, 4, none⟩ (.int .i64 0)).setCell ⟨ks, 5, none⟩ (.int .i64 0)).setCell ⟨ks, 6, none⟩ (.int .i64 0)).setCell ⟨ks, 7, none⟩ (.int .i64 0))) := ⟨H9.out.2.2.put8 ⟨0, 0, 0, 0, 0, 0, 0, 0⟩, have hk := Or.inr (Nat.le_of_eq HKS.out); only_put hk (only_put hk (only_put hk (only_put hk (only_put hk (only_put hk (only_put hk (only_put hk H9.out.1.only _ _) _ _) _ _) _ _) _ _) _ _) _ _) _ _⟩
      go_wp2_with fail
      clear r0 r1 r2 r3 r4 r5 r6 r7 f0 f1 f2 f3 f4 f5 f6 f7
      revert HR
      generalize World.setCell (World.setCell (World.setCell (World.setCell (World.setCell (World.setCell (World.setCell (World.setCell wa _ _) _ _) _ _) _ _) _ _) _ _) _ _) _ _ = wz
      intro HR
      obtain ⟨r0, r1, r2, r3, r4, r5, r6, r7⟩ := HR.out.1.cells
      simp only at r0 r1 r2 r3 r4 r5 r6 r7
      refine bodyPost_ret (v := .tuple #[.agg #[.int .i64 0, .int .i64 0, .int .i64 0, .int .i64 0, .int .i64 0, .int .i64 0, .int .i64 0, .int .i64 0], .int .i64 3]) (by simp [results, Tryd.results13, go_sem, r0, r1, r2, r3, r4, r5, r6, r7]) rfl ?_
      exact ⟨HR.out.2, Or.inr ⟨HNG.out, rfl⟩⟩
    | false =>
      by_cases hze : er = 0
      case neg =>
        have HNG : Hid (¬ askedGood L) := fun q => by
          rcases HCS.out with q1 | q1
          · exact hze q1.1
          · have h2 := q.2
            rw [HC.out] at h2
            exact q1.2 ⟨h2.1, h2.2.1⟩
        have hzb : (er == 0) = false := by simpa using hze
        have hzn : (er != 0) = true := by simpa using hze
        clear hze
        obtain ⟨r0, r1, r2, r3, r4, r5, r6, r7⟩ := H9.out.2.2.cells
        have f0 := H9.out.2.2.free 0; have f1 := H9.out.2.2.free 1; have f2 := H9.out.2.2.free 2; have f3 := H9.out.2.2.free 3
        have f4 := H9.out.2.2.free 4; have f5 := H9.out.2.2.free 5; have f6 := H9.out.2.2.free 6; have f7 := H9.out.2.2.free 7
        have HR : Hid (CmAt 30 ((((((((wa.setCell ⟨ks, 0, none⟩ (.int .i64 0)).setCell ⟨ks, 1, none⟩ (.int .i64 0)).setCell ⟨ks, 2, none⟩ (.int .i64 0)).setCell ⟨ks, 3, none⟩ (.int .i64 0)).setCell ⟨ks, 4, none⟩ (.int .i64 0)).setCell ⟨ks, 5, none⟩ (.int .i64 0)).setCell ⟨ks, 6, none⟩ (.int .i64 0)).setCell ⟨ks, 7, none⟩ (.int .i64 0)) ks ⟨0, 0, 0, 0, 0, 0, 0, 0⟩ ∧ Only [] w ((((((((wa.setCell ⟨ks, 0, none⟩ (.int .i64 0)).setCell ⟨ks, 1, none⟩ (.int .i64 0)).setCell ⟨ks, 2, none⟩ (.int .i64 0)).setCell ⟨ks, 3, none⟩ (.int .i64 0)).setCell ⟨ks, 4, none⟩ (.int .i64 0)).setCell ⟨ks, 5, none⟩ (.int .i64 0)).setCell ⟨ks, 6, none⟩ (.int .i64 0)).setCell ⟨ks, 7, none⟩ (.int .i64 0))) := ⟨H9.out.2.2.put8 ⟨0, 0, 0, 0, 0, 0, 0, 0⟩, have hk := Or.inr (Nat.le_of_eq HKS.out); only_put hk (only_put hk (only_put hk (only_put hk (only_put hk (only_put hk (only_put hk (only_put hk H9.out.1.only _ _) _ _) _ _) _ _) _ _) _ _) _ _) _ _⟩
        go_wp2_with fail
        clear r0 r1 r2 r3 r4 r5 r6 r7 f0 f1 f2 f3 f4 f5 f6 f7
        revert HR
        generalize World.setCell (World.setCell (World.setCell (World.setCell (World.setCell (World.setCell (World.setCell (World.setCell wa _ _) _ _) _ _) _ _) _ _) _ _) _ _) _ _ = wz
        intro HR
        obtain ⟨r0, r1, r2, r3, r4, r5, r6, r7⟩ := HR.out.1.cells
        simp only at r0 r1 r2 r3 r4 r5 r6 r7
        refine bodyPost_ret (v := .tuple #[.agg #[.int .i64 0, .int .i64 0, .int .i64 0, .int .i64 0, .int .i64 0, .int .i64 0, .int .i64 0, .int .i64 0], .int .i64 3]) (by simp [results, Tryd.results13, go_sem, r0, r1, r2, r3, r4, r5, r6, r7]) rfl ?_
        exact ⟨HR.out.2, Or.inr ⟨HNG.out, rfl⟩⟩
      have HY : Hid ((0 ≤ (1 : Int) ∧ (1 : Int) ≤ 2) ∧ askOk ⟨x0, x1, x2, 1, x4, x5, x6, x7⟩ ∧ ReadsAs wa u (bytesOf (askT ⟨x0, x1, x2, 1, x4, x5, x6, x7⟩))) := by
        rcases HCS.out with q1 | q1
        · exact q1.2
        · exact absurd hze q1.1
      subst hze
      have HCC : Hid (askedGood L ↔ sameB (bytesOf (askT ⟨x0, x1, x2, 1, x4, x5, x6, x7⟩)) L = true) := by
        show _ ↔ _
        unfold askedGood
        rw [HC.out]
        exact ⟨fun q => q.2.2.2, fun q => ⟨HBD.out, HY.out.1, HY.out.2.1, q⟩⟩
      have hc1 := HY.out.2.2 wa (Only.refl _ _)
      have hc2 := HB.out.2.2 wa H9.out.1.only
      by_cases hsb : sameB (bytesOf (askT ⟨x0, x1, x2, 1, x4, x5, x6, x7⟩)) L = true
      · have hsl : ((strB (bytesOf (askT ⟨x0, x1, x2, 1, x4, x5, x6, x7⟩))).toList == (strB L).toList) = true := hsb
        have HGD : Hid (askedGood L) := HCC.out.2 hsb
        clear hsb HCC
        obtain ⟨c0, c1, c2, c3, c4, c5, c6, c7⟩ := H9.out.2.1.cells
        simp only at c0 c1 c2 c3 c4 c5 c6 c7
        obtain ⟨r0, r1, r2, r3, r4, r5, r6, r7⟩ := H9.out.2.2.cells
        have f0 := H9.out.2.2.free 0; have f1 := H9.out.2.2.free 1; have f2 := H9.out.2.2.free 2; have f3 := H9.out.2.2.free 3
        have f4 := H9.out.2.2.free 4; have f5 := H9.out.2.2.free 5; have f6 := H9.out.2.2.free 6; have f7 := H9.out.2.2.free 7
        have HR : Hid (CmAt 30 ((((((((wa.setCell ⟨ks, 0, none⟩ (.int .i64 x0)).setCell ⟨ks, 1, none⟩ (.int .i64 x1)).setCell ⟨ks, 2, none⟩ (.int .i64 x2)).setCell ⟨ks, 3, none⟩ (.int .i64 1)).setCell ⟨ks, 4, none⟩ (.int .i64 x4)).setCell ⟨ks, 5, none⟩ (.int .i64 x5)).setCell ⟨ks, 6, none⟩ (.int .i64 x6)).setCell ⟨ks, 7, none⟩ (.int .i64 x7)) ks ⟨x0, x1, x2, 1, x4, x5, x6, x7⟩ ∧ Only [] w ((((((((wa.setCell ⟨ks, 0, none⟩ (.int .i64 x0)).setCell ⟨ks, 1, none⟩ (.int .i64 x1)).setCell ⟨ks, 2, none⟩ (.int .i64 x2)).setCell ⟨ks, 3, none⟩ (.int .i64 1)).setCell ⟨ks, 4, none⟩ (.int .i64 x4)).setCell ⟨ks, 5, none⟩ (.int .i64 x5)).setCell ⟨ks, 6, none⟩ (.int .i64 x6)).setCell ⟨ks, 7, none⟩ (.int .i64 x7))) := ⟨H9.out.2.2.put8 ⟨x0, x1, x2, 1, x4, x5, x6, x7⟩, have hk := Or.inr (Nat.le_of_eq HKS.out); only_put hk (only_put hk (only_put hk (only_put hk (only_put hk (only_put hk (only_put hk (only_put hk H9.out.1.only _ _) _ _) _ _) _ _) _ _) _ _) _ _) _ _⟩
        go_wp2_with fail
        clear r0 r1 r2 r3 r4 r5 r6 r7 f0 f1 f2 f3 f4 f5 f6 f7
        revert HR
        generalize World.setCell (World.setCell (World.setCell (World.setCell (World.setCell (World.setCell (World.setCell (World.setCell wa _ _) _ _) _ _) _ _) _ _) _ _) _ _) _ _ = wz
        intro HR
        obtain ⟨r0, r1, r2, r3, r4, r5, r6, r7⟩ := HR.out.1.cells
        simp only at r0 r1 r2 r3 r4 r5 r6 r7
        refine bodyPost_ret (v := .tuple #[.agg #[.int .i64 x0, .int .i64 x1, .int .i64 x2, .int .i64 1, .int .i64 x4, .int .i64 x5, .int .i64 x6, .int .i64 x7], .int .i64 0]) (by simp [results, Tryd.results13, go_sem, r0, r1, r2, r3, r4, r5, r6, r7]) rfl ?_
        exact ⟨HR.out.2, Or.inl ⟨HGD.out, by rw [HC.out]; rfl⟩⟩
      · have hsl : ((strB (bytesOf (askT ⟨x0, x1, x2, 1, x4, x5, x6, x7⟩))).toList == (strB L).toList) = false := by simpa [sameB] using hsb
        have HNG : Hid (¬ askedGood L) := fun q => hsb (HCC.out.1 q)
        clear hsb HCC
        obtain ⟨r0, r1, r2, r3, r4, r5, r6, r7⟩ := H9.out.2.2.cells
        have f0 := H9.out.2.2.free 0; have f1 := H9.out.2.2.free 1; have f2 := H9.out.2.2.free 2; have f3 := H9.out.2.2.free 3
        have f4 := H9.out.2.2.free 4; have f5 := H9.out.2.2.free 5; have f6 := H9.out.2.2.free 6; have f7 := H9.out.2.2.free 7
        have HR : Hid (CmAt 30 ((((((((wa.setCell ⟨ks, 0, none⟩ (.int .i64 0)).setCell ⟨ks, 1, none⟩ (.int .i64 0)).setCell ⟨ks, 2, none⟩ (.int .i64 0)).setCell ⟨ks, 3, none⟩ (.int .i64 0)).setCell ⟨ks, 4, none⟩ (.int .i64 0)).setCell ⟨ks, 5, none⟩ (.int .i64 0)).setCell ⟨ks, 6, none⟩ (.int .i64 0)).setCell ⟨ks, 7, none⟩ (.int .i64 0)) ks ⟨0, 0, 0, 0, 0, 0, 0, 0⟩ ∧ Only [] w ((((((((wa.setCell ⟨ks, 0, none⟩ (.int .i64 0)).setCell ⟨ks, 1, none⟩ (.int .i64 0)).setCell ⟨ks, 2, none⟩ (.int .i64 0)).setCell ⟨ks, 3, none⟩ (.int .i64 0)).setCell ⟨ks, 4, none⟩ (.int .i64 0)).setCell ⟨ks, 5, none⟩ (.int .i64 0)).setCell ⟨ks, 6, none⟩ (.int .i64 0)).setCell ⟨ks, 7, none⟩ (.int .i64 0))) := ⟨H9.out.2.2.put8 ⟨0, 0, 0, 0, 0, 0, 0, 0⟩, have hk := Or.inr (Nat.le_of_eq HKS.out); only_put hk (only_put hk (only_put hk (only_put hk (only_put hk (only_put hk (only_put hk (only_put hk H9.out.1.only _ _) _ _) _ _) _ _) _ _) _ _) _ _) _ _⟩
        go_wp2_with fail
        clear r0 r1 r2 r3 r4 r5 r6 r7 f0 f1 f2 f3 f4 f5 f6 f7
        revert HR
        generalize World.setCell (World.setCell (World.setCell (World.setCell (World.setCell (World.setCell (World.setCell (World.setCell wa _ _) _ _) _ _) _ _) _ _) _ _) _ _) _ _ = wz
        intro HR
        obtain ⟨r0, r1, r2, r3, r4, r5, r6, r7⟩ := HR.out.1.cells
        simp only at r0 r1 r2 r3 r4 r5 r6 r7
        refine bodyPost_ret (v := .tuple #[.agg #[.int .i64 0, .int .i64 0, .int .i64 0, .int .i64 0, .int .i64 0, .int .i64 0, .int .i64 0, .int .i64 0], .int .i64 3]) (by simp [results, Tryd.results13, go_sem, r0, r1, r2, r3, r4, r5, r6, r7]) rfl ?_
        exact ⟨HR.out.2, Or.inr ⟨HNG.out, rfl⟩⟩
  by_cases hk2 : kd = 2
  · subst hk2
    clear hk1
    obtain ⟨c0, c1, c2, c3, c4, c5, c6, c7⟩ := H7.out.2.1.cells
    simp only at c0 c1 c2 c3 c4 c5 c6 c7
    go_upto_region 6 with fail
    clear c0 c1 c2 c3 c4 c5 c6 c7
    go_wp2_with fail
    refine (tvar_calls kt vt L (a3 L).2.2 _ H7.out.1.tp).mono ?_
    rintro e w13 ⟨rfl, h1, o1⟩
    have HM : Hid (RQ w kt vt L kx [kc, ks] (bad3 L) (b4 L).2.2 w13 ∧ CmAt 30 w13 kc ⟨x0, x1, x2, 2, 0, 0, 0, 0⟩ ∧ CmAt 30 w13 ks ⟨0, 0, 0, 0, 0, 0, 0, 0⟩) := ⟨H7.out.1.read h1 o1, H7.out.2.1.keepT H7.out.1 (by simp) o1, H7.out.2.2.keepT H7.out.1 (by simp) o1⟩
    clear h1 o1 H7
    go_wp2_with fail
    refine (numA_calls (((b4 L).2.1 : Nat) : Int) (b4 L).1 (bad3 L) kx w13 HM.out.1.bx).mono ?_
    rintro e w14 ⟨rfl, h2, o2⟩
    have H8 : Hid (RQ w kt vt L kx [kc, ks] ((bad3 L) || dE ((b4 L))) (b4 L).2.2 w14 ∧ CmAt 30 w14 kc ⟨x0, x1, x2, 2, 0, 0, 0, 0⟩ ∧ CmAt 30 w14 ks ⟨0, 0, 0, 0, 0, 0, 0, 0⟩) := ⟨HM.out.1.mark h2 o2, HM.out.2.1.keepX HM.out.1 (by simp) o2, HM.out.2.2.keepX HM.out.1 (by simp) o2⟩
    clear h2 o2 HM
    obtain ⟨x4, hx4⟩ : ∃ x4 : Int, x4 = (((b4 L).2.1 : Nat) : Int) := ⟨_, rfl⟩
    have HX4 : Hid (x4 = (((b4 L).2.1 : Nat) : Int)) := hx4
    rw [← hx4]
    clear hx4
    have cc := H8.out.2.1.cells
    simp only at cc
    obtain ⟨c0, c1, c2, c3, c4, c5, c6, c7⟩ := cc
    have ff := H8.out.2.1.free 4
    have H10 : Hid (RQ w kt vt L kx [kc, ks] (bad3 L || dE (b4 L)) (b4 L).2.2 (w14.setCell ⟨kc, 4, none⟩ (.int .i64 x4)) ∧ CmAt 30 (w14.setCell ⟨kc, 4, none⟩ (.int .i64 x4)) kc ⟨x0, x1, x2, 2, x4, 0, 0, 0⟩ ∧ CmAt 30 (w14.setCell ⟨kc, 4, none⟩ (.int .i64 x4)) ks ⟨0, 0, 0, 0, 0, 0, 0, 0⟩) := by
      have o : Only [kc] w14 (w14.setCell ⟨kc, 4, none⟩ (.int .i64 x4)) := (Only.refl _ _).setCell (p := ⟨kc, 4, none⟩) (Or.inl (by simp)) _
      exact ⟨H8.out.1.other (k := kc) (by simp) HDS.out.2 o, H8.out.2.1.put_bd _, H8.out.2.2.only o (by simpa using fun e => HDS.out.1 e.symm)⟩
    go_upto_region 7 with fail
    clear c0 c1 c2 c3 c4 c5 c6 c7 ff H8
    generalize World.setCell w14 _ _ = w15 at H10 ⊢
    obtain ⟨c0, c1, c2, c3, c4, c5, c6, c7⟩ := H10.out.2.1.cells
    simp only at c0 c1 c2 c3 c4 c5 c6 c7
    go_upto_region 11 with fail
    clear c0 c1 c2 c3 c4 c5 c6 c7
    have HC : Hid (askedC L = ⟨x0, x1, x2, 2, x4, 0, 0, 0⟩) := by show _ = _; unfold askedC; rw [if_neg (by rw [← HKD.out]; decide), if_pos HKD.out.symm, ← HX.out.1, ← HX.out.2.1, ← HX.out.2.2, ← HX4.out]
    have HBD : Hid (askedB L = (bad3 L || dE (b4 L))) := by show _ = _; unfold askedB; rw [if_neg (by rw [← HKD.out]; decide), if_pos HKD.out.symm]
    obtain ⟨bd, hbd⟩ : ∃ bd, bd = (bad3 L || dE (b4 L)) := ⟨_, rfl⟩
    rw [← hbd] at H10 HBD
    clear hbd
    obtain ⟨c0, c1, c2, c3, c4, c5, c6, c7⟩ := H10.out.2.1.cells
    simp only at c0 c1 c2 c3 c4 c5 c6 c7
    go_wp2_with fail
    refine (refAsk_calls ⟨x0, x1, x2, 2, x4, 0, 0, 0⟩ _).mono ?_
    intro e2 wa ha
    have H9 : Hid (RQ w kt vt L kx [kc, ks] bd (b4 L).2.2 wa ∧ CmAt 30 wa kc ⟨x0, x1, x2, 2, x4, 0, 0, 0⟩ ∧ CmAt 30 wa ks ⟨0, 0, 0, 0, 0, 0, 0, 0⟩) := ⟨H10.out.1.keep ha.1, H10.out.2.1.only ha.1 (by simp), H10.out.2.2.only ha.1 (by simp)⟩
    clear c0 c1 c2 c3 c4 c5 c6 c7 H10
    have hsh : ∃ (u : Value) (er : Int), e2 = .returned (.tuple #[u, .int .i64 er]) ∧ ((er = 0 ∧ (0 ≤ (2 : Int) ∧ (2 : Int) ≤ 2) ∧ askOk ⟨x0, x1, x2, 2, x4, 0, 0, 0⟩ ∧ ReadsAs wa u (bytesOf (askT ⟨x0, x1, x2, 2, x4, 0, 0, 0⟩))) ∨ (er ≠ 0 ∧ ¬ ((0 ≤ (2 : Int) ∧ (2 : Int) ≤ 2) ∧ askOk ⟨x0, x1, x2, 2, x4, 0, 0, 0⟩))) := by
      rcases ha.2 with ⟨n, e⟩ | ⟨y, n, e⟩ | ⟨y, k, v, e, hf⟩
      · exact ⟨_, 1, e, Or.inr ⟨by decide, fun q => n q.1⟩⟩
      · exact ⟨_, 2, e, Or.inr ⟨by decide, fun q => n q.2⟩⟩
      · exact ⟨v, 0, e, Or.inl ⟨rfl, y, k, hf.reads⟩⟩
    clear ha
    obtain ⟨u, er, rfl, hcase⟩ := hsh
    have HCS : Hid ((er = 0 ∧ (0 ≤ (2 : Int) ∧ (2 : Int) ≤ 2) ∧ askOk ⟨x0, x1, x2, 2, x4, 0, 0, 0⟩ ∧ ReadsAs wa u (bytesOf (askT ⟨x0, x1, x2, 2, x4, 0, 0, 0⟩))) ∨ (er ≠ 0 ∧ ¬ ((0 ≤ (2 : Int) ∧ (2 : Int) ≤ 2) ∧ askOk ⟨x0, x1, x2, 2, x4, 0, 0, 0⟩))) := hcase
    clear hcase
    have cb := H9.out.1.cell
    cases bd with
    | true =>
      have HNG : Hid (¬ askedGood L) := fun q => by
        have h1 := q.1
        rw [HBD.out] at h1
        cases h1
      obtain ⟨r0, r1, r2, r3, r4, r5, r6, r7⟩ := H9.out.2.2.cells
      have f0 := H9.out.2.2.free 0; have f1 := H9.out.2.2.free 1; have f2 := H9.out.2.2.free 2; have f3 := H9.out.2.2.free 3
      have f4 := H9.out.2.2.free 4; have f5 := H9.out.2.2.free 5; have f6 := H9.out.2.2.free 6; have f7 := H9.out.2.2.free 7
      have HR : Hid (CmAt 30 ((((((((wa.setCell ⟨ks, 0, none⟩ (.int .i64 0)).setCell ⟨ks, 1, none⟩ (.int .i64 0)).setCell ⟨ks, 2, none⟩ (.int .i64 0)).setCell ⟨ks, 3, none⟩ (.int .i64 0)).setCell ⟨ks, 4, none⟩ (.int .i64 0)).setCell ⟨ks, 5, none⟩ (.int .i64 0)).setCell ⟨ks, 6, none⟩ (.int .i64 0)).setCell ⟨ks, 7, none⟩ (.int .i64 0)) ks ⟨0, 0, 0, 0, 0, 0, 0, 0⟩ ∧ Only [] w ((((((((wa.setCell ⟨ks, 0, none⟩ (.int .i64 0)).setCell ⟨ks, 1, none⟩ (.int .i64 0)).setCell ⟨ks, 2, none⟩ (.int .i64 0)).setCell ⟨ks, 3, none⟩ (.int .i64 0)).setCell ⟨ks, 4, none⟩ (.int .i64 0)).setCell ⟨ks, 5, none⟩ (.int .i64 0)).setCell ⟨ks, 6, none⟩ (.int .i64 0)).setCell ⟨ks, 7, none⟩ (.int .i64 0))) := ⟨H9.out.2.2.put8 ⟨0, 0, 0, 0, 0, 0, 0, 0⟩, have hk := Or.inr (Nat.le_of_eq HKS.out); only_put hk (only_put hk (only_put hk (only_put hk (only_put hk (only_put hk (only_put hk (only_put hk H9.out.1.only _ _) _ _) _ _) _ _) _ _) _ _) _ _) _ _⟩
      go_wp2_with fail
      clear r0 r1 r2 r3 r4 r5 r6 r7 f0 f1 f2 f3 f4 f5 f6 f7
      revert HR
      generalize World.setCell (World.setCell (World.setCell (World.setCell (World.setCell (World.setCell (World.setCell (World.setCell wa _ _) _ _) _ _) _ _) _ _) _ _) _ _) _ _ = wz
      intro HR
      obtain ⟨r0, r1, r2, r3, r4, r5, r6, r7⟩ := HR.out.1.cells
      simp only at r0 r1 r2 r3 r4 r5 r6 r7
      refine bodyPost_ret (v := .tuple #[.agg #[.int .i64 0, .int .i64 0, .int .i64 0, .int .i64 0, .int .i64 0, .int .i64 0, .int .i64 0, .int .i64 0], .int .i64 3]) (by simp [results, Tryd.results13, go_sem, r0, r1, r2, r3, r4, r5, r6, r7]) rfl ?_
      exact ⟨HR.out.2, Or.inr ⟨HNG.out, rfl⟩⟩
    | false =>
      by_cases hze : er = 0
      case neg =>
        have HNG : Hid (¬ askedGood L) := fun q => by
          rcases HCS.out with q1 | q1
          · exact hze q1.1
          · have h2 := q.2
            rw [HC.out] at h2
            exact q1.2 ⟨h2.1, h2.2.1⟩
        have hzb : (er == 0) = false := by simpa using hze
        have hzn : (er != 0) = true := by simpa using hze
        clear hze
        obtain ⟨r0, r1, r2, r3, r4, r5, r6, r7⟩ := H9.out.2.2.cells
        have f0 := H9.out.2.2.free 0; have f1 := H9.out.2.2.free 1; have f2 := H9.out.2.2.free 2; have f3 := H9.out.2.2.free 3
        have f4 := H9.out.2.2.free 4; have f5 := H9.out.2.2.free 5; have f6 := H9.out.2.2.free 6; have f7 := H9.out.2.2.free 7
        have HR : Hid (CmAt 30 ((((((((wa.setCell ⟨ks, 0, none⟩ (.int .i64 0)).setCell ⟨ks, 1, none⟩ (.int .i64 0)).setCell ⟨ks, 2, none⟩ (.int .i64 0)).setCell ⟨ks, 3, none⟩ (.int .i64 0)).setCell ⟨ks, 4, none⟩ (.int .i64 0)).setCell ⟨ks, 5, none⟩ (.int .i64 0)).setCell ⟨ks, 6, none⟩ (.int .i64 0)).setCell ⟨ks, 7, none⟩ (.int .i64 0)) ks ⟨0, 0, 0, 0, 0, 0, 0, 0⟩ ∧ Only [] w ((((((((wa.setCell ⟨ks, 0, none⟩ (.int .i64 0)).setCell ⟨ks, 1, none⟩ (.int .i64 0)).setCell ⟨ks, 2, none⟩ (.int .i64 0)).setCell ⟨ks, 3, none⟩ (.int .i64 0)).setCell ⟨ks, 4, none⟩ (.int .i64 0)).setCell ⟨ks, 5, none⟩ (.int .i64 0)).setCell ⟨ks, 6, none⟩ (.int .i64 0)).setCell ⟨ks, 7, none⟩ (.int .i64 0))) := ⟨H9.out.2.2.put8 ⟨0, 0, 0, 0, 0, 0, 0, 0⟩, have hk := Or.inr (Nat.le_of_eq HKS.out); only_put hk (only_put hk (only_put hk (only_put hk (only_put hk (only_put hk (only_put hk (only_put hk H9.out.1.only _ _) _ _) _ _) _ _) _ _) _ _) _ _) _ _⟩
        go_wp2_with fail
        clear r0 r1 r2 r3 r4 r5 r6 r7 f0 f1 f2 f3 f4 f5 f6 f7
        revert HR
        generalize World.setCell (World.setCell (World.setCell (World.setCell (World.setCell (World.setCell (World.setCell (World.setCell wa _ _) _ _) _ _) _ _) _ _) _ _) _ _) _ _ = wz
        intro HR
        obtain ⟨r0, r1, r2, r3, r4, r5, r6, r7⟩ := HR.out.1.cells
        simp only at r0 r1 r2 r3 r4 r5 r6 r7
        refine bodyPost_ret (v := .tuple #[.agg #[.int .i64 0, .int .i64 0, .int .i64 0, .int .i64 0, .int .i64 0, .int .i64 0, .int .i64 0, .int .i64 0], .int .i64 3]) (by simp [results, Tryd.results13, go_sem, r0, r1, r2, r3, r4, r5, r6, r7]) rfl ?_
        exact ⟨HR.out.2, Or.inr ⟨HNG.out, rfl⟩⟩
      have HY : Hid ((0 ≤ (2 : Int) ∧ (2 : Int) ≤ 2) ∧ askOk ⟨x0, x1, x2, 2, x4, 0, 0, 0⟩ ∧ ReadsAs wa u (bytesOf (askT ⟨x0, x1, x2, 2, x4, 0, 0, 0⟩))) := by
        rcases HCS.out with q1 | q1
        · exact q1.2
        · exact absurd hze q1.1
      subst hze
      have HCC : Hid (askedGood L ↔ sameB (bytesOf (askT ⟨x0, x1, x2, 2, x4, 0, 0, 0⟩)) L = true) := by
        show _ ↔ _
        unfold askedGood
        rw [HC.out]
        exact ⟨fun q => q.2.2.2, fun q => ⟨HBD.out, HY.out.1, HY.out.2.1, q⟩⟩
      have hc1 := HY.out.2.2 wa (Only.refl _ _)
      have hc2 := HB.out.2.2 wa H9.out.1.only
      by_cases hsb : sameB (bytesOf (askT ⟨x0, x1, x2, 2, x4, 0, 0, 0⟩)) L = true
      · have hsl : ((strB (bytesOf (askT ⟨x0, x1, x2, 2, x4, 0, 0, 0⟩))).toList == (strB L).toList) = true := hsb
        have HGD : Hid (askedGood L) := HCC.out.2 hsb
        clear hsb HCC
        obtain ⟨c0, c1, c2, c3, c4, c5, c6, c7⟩ := H9.out.2.1.cells
        simp only at c0 c1 c2 c3 c4 c5 c6 c7
        obtain ⟨r0, r1, r2, r3, r4, r5, r6, r7⟩ := H9.out.2.2.cells
        have f0 := H9.out.2.2.free 0; have f1 := H9.out.2.2.free 1; have f2 := H9.out.2.2.free 2; have f3 := H9.out.2.2.free 3
        have f4 := H9.out.2.2.free 4; have f5 := H9.out.2.2.free 5; have f6 := H9.out.2.2.free 6; have f7 := H9.out.2.2.free 7
        have HR : Hid (CmAt 30 ((((((((wa.setCell ⟨ks, 0, none⟩ (.int .i64 x0)).setCell ⟨ks, 1, none⟩ (.int .i64 x1)).setCell ⟨ks, 2, none⟩ (.int .i64 x2)).setCell ⟨ks, 3, none⟩ (.int .i64 2)).setCell ⟨ks, 4, none⟩ (.int .i64 x4)).setCell ⟨ks, 5, none⟩ (.int .i64 0)).setCell ⟨ks, 6, none⟩ (.int .i64 0)).setCell ⟨ks, 7, none⟩ (.int .i64 0)) ks ⟨x0, x1, x2, 2, x4, 0, 0, 0⟩ ∧ Only [] w ((((((((wa.setCell ⟨ks, 0, none⟩ (.int .i64 x0)).setCell ⟨ks, 1, none⟩ (.int .i64 x1)).setCell ⟨ks, 2, none⟩ (.int .i64 x2)).setCell ⟨ks, 3, none⟩ (.int .i64 2)).setCell ⟨ks, 4, none⟩ (.int .i64 x4)).setCell ⟨ks, 5, none⟩ (.int .i64 0)).setCell ⟨ks, 6, none⟩ (.int .i64 0)).setCell ⟨ks, 7, none⟩ (.int .i64 0))) := ⟨H9.out.2.2.put8 ⟨x0, x1, x2, 2, x4, 0, 0, 0⟩, have hk := Or.inr (Nat.le_of_eq HKS.out); only_put hk (only_put hk (only_put hk (only_put hk (only_put hk (only_put hk (only_put hk (only_put hk H9.out.1.only _ _) _ _) _ _) _ _) _ _) _ _) _ _) _ _⟩
        go_wp2_with fail
        clear r0 r1 r2 r3 r4 r5 r6 r7 f0 f1 f2 f3 f4 f5 f6 f7
        revert HR
        generalize World.setCell (World.setCell (World.setCell (World.setCell (World.setCell (World.setCell (World.setCell (World.setCell wa _ _) _ _) _ _) _ _) _ _) _ _) _ _) _ _ = wz
        intro HR
        obtain ⟨r0, r1, r2, r3, r4, r5, r6, r7⟩ := HR.out.1.cells
        simp only at r0 r1 r2 r3 r4 r5 r6 r7
        refine bodyPost_ret (v := .tuple #[.agg #[.int .i64 x0, .int .i64 x1, .int .i64 x2, .int .i64 2, .int .i64 x4, .int .i64 0, .int .i64 0, .int .i64 0], .int .i64 0]) (by simp [results, Tryd.results13, go_sem, r0, r1, r2, r3, r4, r5, r6, r7]) rfl ?_
        exact ⟨HR.out.2, Or.inl ⟨HGD.out, by rw [HC.out]; rfl⟩⟩
      · have hsl : ((strB (bytesOf (askT ⟨x0, x1, x2, 2, x4, 0, 0, 0⟩))).toList == (strB L).toList) = false := by simpa [sameB] using hsb
        have HNG : Hid (¬ askedGood L) := fun q => hsb (HCC.out.1 q)
        clear hsb HCC
        obtain ⟨r0, r1, r2, r3, r4, r5, r6, r7⟩ := H9.out.2.2.cells
        have f0 := H9.out.2.2.free 0; have f1 := H9.out.2.2.free 1; have f2 := H9.out.2.2.free 2; have f3 := H9.out.2.2.free 3
        have f4 := H9.out.2.2.free 4; have f5 := H9.out.2.2.free 5; have f6 := H9.out.2.2.free 6; have f7 := H9.out.2.2.free 7
        have HR : Hid (CmAt 30 ((((((((wa.setCell ⟨ks, 0, none⟩ (.int .i64 0)).setCell ⟨ks, 1, none⟩ (.int .i64 0)).setCell ⟨ks, 2, none⟩ (.int .i64 0)).setCell ⟨ks, 3, none⟩ (.int .i64 0)).setCell ⟨ks, 4, none⟩ (.int .i64 0)).setCell ⟨ks, 5, none⟩ (.int .i64 0)).setCell ⟨ks, 6, none⟩ (.int .i64 0)).setCell ⟨ks, 7, none⟩ (.int .i64 0)) ks ⟨0, 0, 0, 0, 0, 0, 0, 0⟩ ∧ Only [] w ((((((((wa.setCell ⟨ks, 0, none⟩ (.int .i64 0)).setCell ⟨ks, 1, none⟩ (.int .i64 0)).setCell ⟨ks, 2, none⟩ (.int .i64 0)).setCell ⟨ks, 3, none⟩ (.int .i64 0)).setCell ⟨ks, 4, none⟩ (.int .i64 0)).setCell ⟨ks, 5, none⟩ (.int .i64 0)).setCell ⟨ks, 6, none⟩ (.int .i64 0)).setCell ⟨ks, 7, none⟩ (.int .i64 0))) := ⟨H9.out.2.2.put8 ⟨0, 0, 0, 0, 0, 0, 0, 0⟩, have hk := Or.inr (Nat.le_of_eq HKS.out); only_put hk (only_put hk (only_put hk (only_put hk (only_put hk (only_put hk (only_put hk (only_put hk H9.out.1.only _ _) _ _) _ _) _ _) _ _) _ _) _ _) _ _⟩
        go_wp2_with fail
        clear r0 r1 r2 r3 r4 r5 r6 r7 f0 f1 f2 f3 f4 f5 f6 f7
        revert HR
        generalize World.setCell (World.setCell (World.setCell (World.setCell (World.setCell (World.setCell (World.setCell (World.setCell wa _ _) _ _) _ _) _ _) _ _) _ _) _ _) _ _ = wz
        intro HR
        obtain ⟨r0, r1, r2, r3, r4, r5, r6, r7⟩ := HR.out.1.cells
        simp only at r0 r1 r2 r3 r4 r5 r6 r7
        refine bodyPost_ret (v := .tuple #[.agg #[.int .i64 0, .int .i64 0, .int .i64 0, .int .i64 0, .int .i64 0, .int .i64 0, .int .i64 0, .int .i64 0], .int .i64 3]) (by simp [results, Tryd.results13, go_sem, r0, r1, r2, r3, r4, r5, r6, r7]) rfl ?_
        exact ⟨HR.out.2, Or.inr ⟨HNG.out, rfl⟩⟩
  · have HN12 : Hid (kd ≠ 1 ∧ kd ≠ 2) := ⟨hk1, hk2⟩
    have hn1 : (kd == 1) = false := by simpa using hk1
    have hn2 : (kd == 2) = false := by simpa using hk2
    clear hk1 hk2
    obtain ⟨c0, c1, c2, c3, c4, c5, c6, c7⟩ := H7.out.2.1.cells
    simp only at c0 c1 c2 c3 c4 c5 c6 c7
    go_upto_region 11 with fail
    clear c0 c1 c2 c3 c4 c5 c6 c7
    have HC : Hid (askedC L = ⟨x0, x1, x2, kd, 0, 0, 0, 0⟩) := by show _ = _; unfold askedC; rw [if_neg (by rw [← HKD.out]; exact HN12.out.1), if_neg (by rw [← HKD.out]; exact HN12.out.2), ← HX.out.1, ← HX.out.2.1, ← HX.out.2.2, ← HKD.out]
    have HBD : Hid (askedB L = (bad3 L)) := by show _ = _; unfold askedB; rw [if_neg (by rw [← HKD.out]; exact HN12.out.1), if_neg (by rw [← HKD.out]; exact HN12.out.2)]
    obtain ⟨bd, hbd⟩ : ∃ bd, bd = (bad3 L) := ⟨_, rfl⟩
    rw [← hbd] at H7 HBD
    clear hbd
    obtain ⟨c0, c1, c2, c3, c4, c5, c6, c7⟩ := H7.out.2.1.cells
    simp only at c0 c1 c2 c3 c4 c5 c6 c7
    go_wp2_with fail
    refine (refAsk_calls ⟨x0, x1, x2, kd, 0, 0, 0, 0⟩ _).mono ?_
    intro e2 wa ha
    have H9 : Hid (RQ w kt vt L kx [kc, ks] bd (a3 L).2.2 wa ∧ CmAt 30 wa kc ⟨x0, x1, x2, kd, 0, 0, 0, 0⟩ ∧ CmAt 30 wa ks ⟨0, 0, 0, 0, 0, 0, 0, 0⟩) := ⟨H7.out.1.keep ha.1, H7.out.2.1.only ha.1 (by simp), H7.out.2.2.only ha.1 (by simp)⟩
    clear c0 c1 c2 c3 c4 c5 c6 c7 H7
    have hsh : ∃ (u : Value) (er : Int), e2 = .returned (.tuple #[u, .int .i64 er]) ∧ ((er = 0 ∧ (0 ≤ (kd : Int) ∧ (kd : Int) ≤ 2) ∧ askOk ⟨x0, x1, x2, kd, 0, 0, 0, 0⟩ ∧ ReadsAs wa u (bytesOf (askT ⟨x0, x1, x2, kd, 0, 0, 0, 0⟩))) ∨ (er ≠ 0 ∧ ¬ ((0 ≤ (kd : Int) ∧ (kd : Int) ≤ 2) ∧ askOk ⟨x0, x1, x2, kd, 0, 0, 0, 0⟩))) := by
      rcases ha.2 with ⟨n, e⟩ | ⟨y, n, e⟩ | ⟨y, k, v, e, hf⟩
      · exact ⟨_, 1, e, Or.inr ⟨by decide, fun q => n q.1⟩⟩
      · exact ⟨_, 2, e, Or.inr ⟨by decide, fun q => n q.2⟩⟩
      · exact ⟨v, 0, e, Or.inl ⟨rfl, y, k, hf.reads⟩⟩
    clear ha
    obtain ⟨u, er, rfl, hcase⟩ := hsh
    have HCS : Hid ((er = 0 ∧ (0 ≤ (kd : Int) ∧ (kd : Int) ≤ 2) ∧ askOk ⟨x0, x1, x2, kd, 0, 0, 0, 0⟩ ∧ ReadsAs wa u (bytesOf (askT ⟨x0, x1, x2, kd, 0, 0, 0, 0⟩))) ∨ (er ≠ 0 ∧ ¬ ((0 ≤ (kd : Int) ∧ (kd : Int) ≤ 2) ∧ askOk ⟨x0, x1, x2, kd, 0, 0, 0, 0⟩))) := hcase
    clear hcase
    have cb := H9.out.1.cell
    cases bd with
    | true =>
      have HNG : Hid (¬ askedGood L) := fun q => by
        have h1 := q.1
        rw [HBD.out] at h1
        cases h1
      obtain ⟨r0, r1, r2, r3, r4, r5, r6, r7⟩ := H9.out.2.2.cells
      have f0 := H9.out.2.2.free 0; have f1 := H9.out.2.2.free 1; have f2 := H9.out.2.2.free 2; have f3 := H9.out.2.2.free 3
      have f4 := H9.out.2.2.free 4; have f5 := H9.out.2.2.free 5; have f6 := H9.out.2.2.free 6; have f7 := H9.out.2.2.free 7
      have HR : Hid (CmAt 30 ((((((((wa.setCell ⟨ks, 0, none⟩ (.int .i64 0)).setCell ⟨ks, 1, none⟩ (.int .i64 0)).setCell ⟨ks, 2, none⟩ (.int .i64 0)).setCell ⟨ks, 3, none⟩ (.int .i64 0)).setCell ⟨ks, 4, none⟩ (.int .i64 0)).setCell ⟨ks, 5, none⟩ (.int .i64 0)).setCell ⟨ks, 6, none⟩ (.int .i64 0)).setCell ⟨ks, 7, none⟩ (.int .i64 0)) ks ⟨0, 0, 0, 0, 0, 0, 0, 0⟩ ∧ Only [] w ((((((((wa.setCell ⟨ks, 0, none⟩ (.int .i64 0)).setCell ⟨ks, 1, none⟩ (.int .i64 0)).setCell ⟨ks, 2, none⟩ (.int .i64 0)).setCell ⟨ks, 3, none⟩ (.int .i64 0)).setCell ⟨ks, 4, none⟩ (.int .i64 0)).setCell ⟨ks, 5, none⟩ (.int .i64 0)).setCell ⟨ks, 6, none⟩ (.int .i64 0)).setCell ⟨ks, 7, none⟩ (.int .i64 0))) := ⟨H9.out.2.2.put8 ⟨0, 0, 0, 0, 0, 0, 0, 0⟩, have hk := Or.inr (Nat.le_of_eq HKS.out); only_put hk (only_put hk (only_put hk (only_put hk (only_put hk (only_put hk (only_put hk (only_put hk H9.out.1.only _ _) _ _) _ _) _ _) _ _) _ _) _ _) _ _⟩
      go_wp2_with fail
      clear r0 r1 r2 r3 r4 r5 r6 r7 f0 f1 f2 f3 f4 f5 f6 f7
      revert HR
      generalize World.setCell (World.setCell (World.setCell (World.setCell (World.setCell (World.setCell (World.setCell (World.setCell wa _ _) _ _) _ _) _ _) _ _) _ _) _ _) _ _ = wz
      intro HR
      obtain ⟨r0, r1, r2, r3, r4, r5, r6, r7⟩ := HR.out.1.cells
      simp only at r0 r1 r2 r3 r4 r5 r6 r7
      refine bodyPost_ret (v := .tuple #[.agg #[.int .i64 0, .int .i64 0, .int .i64 0, .int .i64 0, .int .i64 0, .int .i64 0, .int .i64 0, .int .i64 0], .int .i64 3]) (by simp [results, Tryd.results13, go_sem, r0, r1, r2, r3, r4, r5, r6, r7]) rfl ?_
      exact ⟨HR.out.2, Or.inr ⟨HNG.out, rfl⟩⟩
    | false =>
      by_cases hze : er = 0
      case neg =>
        have HNG : Hid (¬ askedGood L) := fun q => by
          rcases HCS.out with q1 | q1
          · exact hze q1.1
          · have h2 := q.2
            rw [HC.out] at h2
            exact q1.2 ⟨h2.1, h2.2.1⟩
        have hzb : (er == 0) = false := by simpa using hze
        have hzn : (er != 0) = true := by simpa using hze
        clear hze
        obtain ⟨r0, r1, r2, r3, r4, r5, r6, r7⟩ := H9.out.2.2.cells
        have f0 := H9.out.2.2.free 0; have f1 := H9.out.2.2.free 1; have f2 := H9.out.2.2.free 2; have f3 := H9.out.2.2.free 3
        have f4 := H9.out.2.2.free 4; have f5 := H9.out.2.2.free 5; have f6 := H9.out.2.2.free 6; have f7 := H9.out.2.2.free 7
        have HR : Hid (CmAt 30 ((((((((wa.setCell ⟨ks, 0, none⟩ (.int .i64 0)).setCell ⟨ks, 1, none⟩ (.int .i64 0)).setCell ⟨ks, 2, none⟩ (.int .i64 0)).setCell ⟨ks, 3, none⟩ (.int .i64 0)).setCell ⟨ks, 4, none⟩ (.int .i64 0)).setCell ⟨ks, 5, none⟩ (.int .i64 0)).setCell ⟨ks, 6, none⟩ (.int .i64 0)).setCell ⟨ks, 7, none⟩ (.int .i64 0)) ks ⟨0, 0, 0, 0, 0, 0, 0, 0⟩ ∧ Only [] w ((((((((wa.setCell ⟨ks, 0, none⟩ (.int .i64 0)).setCell ⟨ks, 1, none⟩ (.int .i64 0)).setCell ⟨ks, 2, none⟩ (.int .i64 0)).setCell ⟨ks, 3, none⟩ (.int .i64 0)).setCell ⟨ks, 4, none⟩ (.int .i64 0)).setCell ⟨ks, 5, none⟩ (.int .i64 0)).setCell ⟨ks, 6, none⟩ (.int .i64 0)).setCell ⟨ks, 7, none⟩ (.int .i64 0))) := ⟨H9.out.2.2.put8 ⟨0, 0, 0, 0, 0, 0, 0, 0⟩, have hk := Or.inr (Nat.le_of_eq HKS.out); only_put hk (only_put hk (only_put hk (only_put hk (only_put hk (only_put hk (only_put hk (only_put hk H9.out.1.only _ _) _ _) _ _) _ _) _ _) _ _) _ _) _ _⟩
        go_wp2_with fail
        clear r0 r1 r2 r3 r4 r5 r6 r7 f0 f1 f2 f3 f4 f5 f6 f7
        revert HR
        generalize World.setCell (World.setCell (World.setCell (World.setCell (World.setCell (World.setCell (World.setCell (World.setCell wa _ _) _ _) _ _) _ _) _ _) _ _) _ _) _ _ = wz
        intro HR
        obtain ⟨r0, r1, r2, r3, r4, r5, r6, r7⟩ := HR.out.1.cells
        simp only at r0 r1 r2 r3 r4 r5 r6 r7
        refine bodyPost_ret (v := .tuple #[.agg #[.int .i64 0, .int .i64 0, .int .i64 0, .int .i64 0, .int .i64 0, .int .i64 0, .int .i64 0, .int .i64 0], .int .i64 3]) (by simp [results, Tryd.results13, go_sem, r0, r1, r2, r3, r4, r5, r6, r7]) rfl ?_
        exact ⟨HR.out.2, Or.inr ⟨HNG.out, rfl⟩⟩
      have HY : Hid ((0 ≤ (kd : Int) ∧ (kd : Int) ≤ 2) ∧ askOk ⟨x0, x1, x2, kd, 0, 0, 0, 0⟩ ∧ ReadsAs wa u (bytesOf (askT ⟨x0, x1, x2, kd, 0, 0, 0, 0⟩))) := by
        rcases HCS.out with q1 | q1
        · exact q1.2
        · exact absurd hze q1.1
      subst hze
      have HCC : Hid (askedGood L ↔ sameB (bytesOf (askT ⟨x0, x1, x2, kd, 0, 0, 0, 0⟩)) L = true) := by
        show _ ↔ _
        unfold askedGood
        rw [HC.out]
        exact ⟨fun q => q.2.2.2, fun q => ⟨HBD.out, HY.out.1, HY.out.2.1, q⟩⟩
      have hc1 := HY.out.2.2 wa (Only.refl _ _)
      have hc2 := HB.out.2.2 wa H9.out.1.only
      by_cases hsb : sameB (bytesOf (askT ⟨x0, x1, x2, kd, 0, 0, 0, 0⟩)) L = true
      · have hsl : ((strB (bytesOf (askT ⟨x0, x1, x2, kd, 0, 0, 0, 0⟩))).toList == (strB L).toList) = true := hsb
        have HGD : Hid (askedGood L) := HCC.out.2 hsb
        clear hsb HCC
        obtain ⟨c0, c1, c2, c3, c4, c5, c6, c7⟩ := H9.out.2.1.cells
        simp only at c0 c1 c2 c3 c4 c5 c6 c7
        obtain ⟨r0, r1, r2, r3, r4, r5, r6, r7⟩ := H9.out.2.2.cells
        have f0 := H9.out.2.2.free 0; have f1 := H9.out.2.2.free 1; have f2 := H9.out.2.2.free 2; have f3 := H9.out.2.2.free 3
        have f4 := H9.out.2.2.free 4; have f5 := H9.out.2.2.free 5; have f6 := H9.out.2.2.free 6; have f7 := H9.out.2.2.free 7
        have HR : Hid (CmAt 30 ((((((((wa.setCell ⟨ks, 0, none⟩ (.int .i64 x0)).setCell ⟨ks, 1, none⟩ (.int .i64 x1)).setCell ⟨ks, 2, none⟩ (.int .i64 x2)).setCell ⟨ks, 3, none⟩ (.int .i64 kd)).setCell ⟨ks, 4, none⟩ (.int .i64 0)).setCell ⟨ks, 5, none⟩ (.int .i64 0)).setCell ⟨ks, 6, none⟩ (.int .i64 0)).setCell ⟨ks, 7, none⟩ (.int .i64 0)) ks ⟨x0, x1, x2, kd, 0, 0, 0, 0⟩ ∧ Only [] w ((((((((wa.setCell ⟨ks, 0, none⟩ (.int .i64 x0)).setCell ⟨ks, 1, none⟩ (.int .i64 x1)).setCell ⟨ks, 2, none⟩ (.int .i64 x2)).setCell ⟨ks, 3, none⟩ (.int .i64 kd)).setCell ⟨ks, 4, none⟩ (.int .i64 0)).setCell ⟨ks, 5, none⟩ (.int .i64 0)).setCell ⟨ks, 6, none⟩ (.int .i64 0)).setCell ⟨ks, 7, none⟩ (.int .i64 0))) := ⟨H9.out.2.2.put8 ⟨x0, x1, x2, kd, 0, 0, 0, 0⟩, have hk := Or.inr (Nat.le_of_eq HKS.out); only_put hk (only_put hk (only_put hk (only_put hk (only_put hk (only_put hk (only_put hk (only_put hk H9.out.1.only _ _) _ _) _ _) _ _) _ _) _ _) _ _) _ _⟩
        go_wp2_with fail
        clear r0 r1 r2 r3 r4 r5 r6 r7 f0 f1 f2 f3 f4 f5 f6 f7
        revert HR
        generalize World.setCell (World.setCell (World.setCell (World.setCell (World.setCell (World.setCell (World.setCell (World.setCell wa _ _) _ _) _ _) _ _) _ _) _ _) _ _) _ _ = wz
        intro HR
        obtain ⟨r0, r1, r2, r3, r4, r5, r6, r7⟩ := HR.out.1.cells
        simp only at r0 r1 r2 r3 r4 r5 r6 r7
        refine bodyPost_ret (v := .tuple #[.agg #[.int .i64 x0, .int .i64 x1, .int .i64 x2, .int .i64 kd, .int .i64 0, .int .i64 0, .int .i64 0, .int .i64 0], .int .i64 0]) (by simp [results, Tryd.results13, go_sem, r0, r1, r2, r3, r4, r5, r6, r7]) rfl ?_
        exact ⟨HR.out.2, Or.inl ⟨HGD.out, by rw [HC.out]; rfl⟩⟩
      · have hsl : ((strB (bytesOf (askT ⟨x0, x1, x2, kd, 0, 0, 0, 0⟩))).toList == (strB L).toList) = false := by simpa [sameB] using hsb
        have HNG : Hid (¬ askedGood L) := fun q => hsb (HCC.out.1 q)
        clear hsb HCC
        obtain ⟨r0, r1, r2, r3, r4, r5, r6, r7⟩ := H9.out.2.2.cells
        have f0 := H9.out.2.2.free 0; have f1 := H9.out.2.2.free 1; have f2 := H9.out.2.2.free 2; have f3 := H9.out.2.2.free 3
        have f4 := H9.out.2.2.free 4; have f5 := H9.out.2.2.free 5; have f6 := H9.out.2.2.free 6; have f7 := H9.out.2.2.free 7
        have HR : Hid (CmAt 30 ((((((((wa.setCell ⟨ks, 0, none⟩ (.int .i64 0)).setCell ⟨ks, 1, none⟩ (.int .i64 0)).setCell ⟨ks, 2, none⟩ (.int .i64 0)).setCell ⟨ks, 3, none⟩ (.int .i64 0)).setCell ⟨ks, 4, none⟩ (.int .i64 0)).setCell ⟨ks, 5, none⟩ (.int .i64 0)).setCell ⟨ks, 6, none⟩ (.int .i64 0)).setCell ⟨ks, 7, none⟩ (.int .i64 0)) ks ⟨0, 0, 0, 0, 0, 0, 0, 0⟩ ∧ Only [] w ((((((((wa.setCell ⟨ks, 0, none⟩ (.int .i64 0)).setCell ⟨ks, 1, none⟩ (.int .i64 0)).setCell ⟨ks, 2, none⟩ (.int .i64 0)).setCell ⟨ks, 3, none⟩ (.int .i64 0)).setCell ⟨ks, 4, none⟩ (.int .i64 0)).setCell ⟨ks, 5, none⟩ (.int .i64 0)).setCell ⟨ks, 6, none⟩ (.int .i64 0)).setCell ⟨ks, 7, none⟩ (.int .i64 0))) := ⟨H9.out.2.2.put8 ⟨0, 0, 0, 0, 0, 0, 0, 0⟩, have hk := Or.inr (Nat.le_of_eq HKS.out); only_put hk (only_put hk (only_put hk (only_put hk (only_put hk (only_put hk (only_put hk (only_put hk H9.out.1.only _ _) _ _) _ _) _ _) _ _) _ _) _ _) _ _⟩
        go_wp2_with fail
        clear r0 r1 r2 r3 r4 r5 r6 r7 f0 f1 f2 f3 f4 f5 f6 f7
        revert HR
        generalize World.setCell (World.setCell (World.setCell (World.setCell (World.setCell (World.setCell (World.setCell (World.setCell wa _ _) _ _) _ _) _ _) _ _) _ _) _ _) _ _ = wz
        intro HR
        obtain ⟨r0, r1, r2, r3, r4, r5, r6, r7⟩ := HR.out.1.cells
        simp only at r0 r1 r2 r3 r4 r5 r6 r7
        refine bodyPost_ret (v := .tuple #[.agg #[.int .i64 0, .int .i64 0, .int .i64 0, .int .i64 0, .int .i64 0, .int .i64 0, .int .i64 0, .int .i64 0], .int .i64 3]) (by simp [results, Tryd.results13, go_sem, r0, r1, r2, r3, r4, r5, r6, r7]) rfl ?_
        exact ⟨HR.out.2, Or.inr ⟨HNG.out, rfl⟩⟩
end Go.Proofs.YtbiaajncngldlaaDoor
