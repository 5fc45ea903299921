/- gyrekeep.SnapBack: whichever views. -/
import Derived.Test.YticdkhijjlcacaaDoorSk1
import Derived.Test.YticdkhijjlcacaaDoorAt3
namespace Go.Proofs.YticdkhijjlcacaaDoor
open Go.ChangeShapes Go.WideShapes Go.ChangeAt Go.RowKit
set_option linter.unusedVariables false
set_option linter.unusedSimpArgs false

theorem EtIs.stay {w w' : World} (h : EtIs w) (o : Only [] w w') : EtIs w' := o.cell h (by simp)
theorem dpost_right {F T : List Sn} {w w' : World} {e : Ending} (h : (¬ (rightL F = true ∧ rightL T = true) ∧ e = .returned (.tuple #[.slice none 0 0, errV 1])) ∨
    (rightL F = true ∧ rightL T = true ∧ 31872 < (deltaT F T).length ∧ e = .returned (.tuple #[.slice none 0 0, errV 4])) ∨
    (rightL F = true ∧ rightL T = true ∧ (deltaT F T).length ≤ 31872 ∧ ∃ v, e = .returned (.tuple #[v, .nilIface]) ∧ Fresh w v (bytesOf (deltaT F T)) w')) (hF : rightL F = true) (hT : rightL T = true) :
    ∃ v ev, e = .returned (.tuple #[v, ev]) ∧ ((31872 < (deltaT F T).length ∧ ev = errV 4) ∨ ((deltaT F T).length ≤ 31872 ∧ ev = .nilIface ∧ Fresh w v (bytesOf (deltaT F T)) w')) := by
  rcases h with ⟨hno, _⟩ | ⟨_, _, hgt, rfl⟩ | ⟨_, _, hle, v, rfl, hf⟩
  · exact absurd ⟨hF, hT⟩ hno
  · exact ⟨_, _, rfl, Or.inl ⟨hgt, rfl⟩⟩
  · exact ⟨_, _, rfl, Or.inr ⟨hle, rfl, hf⟩⟩
theorem snapBack_long (a b c : Option Addr) (l m n d e f : Nat) (w : World) (h : 200 < l + m + n) (hl : l < 1537228672809129301) (hm : m < 1537228672809129301) (hn : n < 1537228672809129301) :
    Calls Tryd.prog 5 #[.slice a l d, .slice b m e, .slice c n f] w fun e w' => e = .returned (.bool true) ∧ Only [] w w' := by
  have h0 : (l : Int) ≤ 1537228672809129300 := by omega
  have h1 : (m : Int) ≤ 1537228672809129300 := by omega
  have h2 : (n : Int) ≤ 1537228672809129300 := by omega
  have h3 : (200 : Int) < (l : Int) + (m : Int) + (n : Int) := by omega
  have h4 : decide ((200 : Int) < (l : Int) + (m : Int) + (n : Int)) = true := decide_eq_true h3
  go_enter Tryd.func5, Tryd.ntmps5
  go_wp2_with fail
  go_ret
  exact ⟨rfl, Only.refl _ _⟩
set_option maxRecDepth 100000 in
set_option maxHeartbeats 4000000 in
theorem snapBack_calls (A B C : List Sn) (u v x : Value) (w : World) (hg : EtIs w) (hu : SvAt w u A) (hv : SvAt w v B) (hx : SvAt w x C) (nu : NilOk u) (nv : NilOk v) (hl : A.length + B.length + C.length ≤ 200) :
    Calls Tryd.prog 5 #[u, v, x] w fun e w' => e = .returned (.bool true) ∧ Only [] w w' := by
  have HB : Hid (EtIs w ∧ A.length + B.length + C.length ≤ 200) := ⟨hg, hl⟩
  have HA1 : Hid (∀ w', Only [] w w' → SvAt w' u A) := fun w' o => hu.grow o
  have HA2 : Hid (∀ w', Only [] w w' → SvAt w' v B) := fun w' o => hv.grow o
  have HA3 : Hid (∀ w', Only [] w w' → SvAt w' x C) := fun w' o => hx.grow o
  have HNU : Hid (NilOk u) := nu
  obtain ⟨a0, c0, rfl, _, _⟩ := hu
  obtain ⟨a1, c1, rfl, _, _⟩ := hv
  obtain ⟨a2, c2, rfl, _, _⟩ := hx
  clear hg nu nv
  have hs : ¬ (200 : Int) < (A.length : Int) + (B.length : Int) + (C.length : Int) := by omega
  have hsd : decide ((200 : Int) < (A.length : Int) + (B.length : Int) + (C.length : Int)) = false := decide_eq_false hs
  go_enter Tryd.func5, Tryd.ntmps5
  go_wp2_with fail
  refine (viewed_calls w).mono ?_
  rintro e w1 ⟨rfl, o1⟩
  have H1 : Hid (Only [] w w1) := o1
  clear o1
  go_wp2_with fail
  refine (rightS_calls _ A w1 (HA1.out w1 H1.out) (by omega)).mono ?_
  rintro e w2 ⟨rfl, o2⟩
  have H2 : Hid (Only [] w w2) := H1.out.trans o2
  clear o2 H1
  cases hA : rightL A with
  | false =>
    clear hA
    go_wp2_with fail
    go_ret
    exact ⟨rfl, H2.out⟩
  | true =>
    have RA : Hid (rightL A = true) := hA
    clear hA
    go_wp2_with fail
    refine (rightS_calls _ B w2 (HA2.out w2 H2.out) (by omega)).mono ?_
    rintro e w3 ⟨rfl, o3⟩
    have H3 : Hid (Only [] w w3) := H2.out.trans o3
    clear o3 H2
    cases hB : rightL B with
    | false =>
      clear hB
      go_wp2_with fail
      go_ret
      exact ⟨rfl, H3.out⟩
    | true =>
      have RB2 : Hid (rightL B = true) := hB
      clear hB
      go_wp2_with fail
      refine (rightS_calls _ C w3 (HA3.out w3 H3.out) (by omega)).mono ?_
      rintro e w4 ⟨rfl, o4⟩
      have H4 : Hid (Only [] w w4) := H3.out.trans o4
      clear o4 H3
      cases hC : rightL C with
      | false =>
        clear hC
        go_wp2_with fail
        go_ret
        exact ⟨rfl, H4.out⟩
      | true =>
        have RC : Hid (rightL C = true) := hC
        clear hC
        go_wp2_with fail
        refine (delta_calls A B _ _ w4 (HA1.out w4 H4.out) (HA2.out w4 H4.out) (by omega) (by omega)).mono ?_
        rintro e w5 ⟨o5, hc5⟩
        have H5 : Hid (Only [] w w5) := H4.out.trans o5
        clear o5
        have hD5 := dpost_right hc5 RA.out RB2.out
        clear hc5 H4
        obtain ⟨vx, ex, rfl, HX⟩ : ∃ vx ex, e = .returned (.tuple #[vx, ex]) ∧ Hid ((31872 < (deltaT A B).length ∧ ex = errV 4) ∨ ((deltaT A B).length ≤ 31872 ∧ ex = .nilIface ∧ Fresh w4 vx (bytesOf (deltaT A B)) w5)) := hD5
        go_wp2_with fail
        refine (delta_calls B C _ _ w5 (HA2.out w5 H5.out) (HA3.out w5 H5.out) (by omega) (by omega)).mono ?_
        rintro e w6 ⟨o6, hc6⟩
        have H6 : Hid (Only [] w w6 ∧ Only [] w5 w6) := ⟨H5.out.trans o6, o6⟩
        clear o6
        have hD6 := dpost_right hc6 RB2.out RC.out
        clear hc6
        obtain ⟨vy, ey, rfl, HY⟩ : ∃ vy ey, e = .returned (.tuple #[vy, ey]) ∧ Hid ((31872 < (deltaT B C).length ∧ ey = errV 4) ∨ ((deltaT B C).length ≤ 31872 ∧ ey = .nilIface ∧ Fresh w5 vy (bytesOf (deltaT B C)) w6)) := hD6
        go_wp2_with fail
        refine (delta_calls A A _ _ w6 (HA1.out w6 H6.out.1) (HA1.out w6 H6.out.1) (by omega) (by omega)).mono ?_
        rintro e w7 ⟨o7, hc7⟩
        have H7 : Hid (Only [] w w7 ∧ Only [] w5 w7 ∧ Only [] w6 w7) := ⟨H6.out.1.trans o7, H6.out.2.trans o7, o7⟩
        clear o7
        have hD7 := dpost_right hc7 RA.out RA.out
        clear hc7
        obtain ⟨vz, ez, rfl, hZ⟩ := hD7
        have hself := delta_self RA.out
        rcases hZ with ⟨hgt, _⟩ | ⟨_, rfl, hfz⟩
        · have := hself.2; omega
        rw [hself.1] at hfz
        obtain ⟨gz, cz, rfl, _, _, hbz, _⟩ := hfz
        have hz0 : w7.cell? ⟨gz, 0, none⟩ = some (.int .u8 192) := by
          obtain ⟨g', o', e', hc⟩ := hbz 0 (by simp)
          injection e' with e'; injection e' with e1 e2 _; subst e1 e2
          simpa using hc
        have HZ0 : Hid (w7.cell? ⟨gz, 0, none⟩ = some (.int .u8 192)) := hz0
        clear hz0 hbz hself
        rcases HX.out with ⟨hgt, hex⟩ | ⟨hle, hex, hfx⟩
        · subst hex
          clear HX hgt
          simp only [errV]
          go_wp2_with fail
          refine (tell_errno 4 _ (HB.out.1.stay H7.out.1)).mono ?_
          rintro e w8 ⟨rfl, k8⟩
          have H8 : Hid (Only [] w w8) := H7.out.1.trans (Only.of_kept k8)
          clear k8
          go_wp2_with fail
          go_ret
          exact ⟨rfl, H8.out⟩
        · subst hex
          have HDX : Hid (Del A (bytesOf (deltaT A B)) B) := ⟨RB2.out, hle, rfl⟩
          obtain ⟨gx, cx, rfl, _, _, hbx, _⟩ := hfx
          have HBX : Hid (ByAt w5 (some ⟨gx, 0, none⟩) (bytesOf (deltaT A B))) := hbx
          clear HX hle hbx
          rcases HY.out with ⟨hgt, hey⟩ | ⟨hle, hey, hfy⟩
          · subst hey
            clear HY hgt
            simp only [errV]
            go_wp2_with fail
            refine (tell_nil _).mono ?_
            rintro e w8 ⟨rfl, k8⟩
            have H8 : Hid (Only [] w w8) := H7.out.1.trans (Only.of_kept k8)
            clear k8
            go_wp2_with fail
            refine (tell_errno 4 _ (HB.out.1.stay H8.out)).mono ?_
            rintro e w9 ⟨rfl, k9⟩
            have H9 : Hid (Only [] w w9) := H8.out.trans (Only.of_kept k9)
            clear k9
            go_wp2_with fail
            go_ret
            exact ⟨rfl, H9.out⟩
          · subst hey
            have HDY : Hid (Del B (bytesOf (deltaT B C)) C) := ⟨RC.out, hle, rfl⟩
            obtain ⟨gy, cy, rfl, _, _, hby, _⟩ := hfy
            have HBY : Hid (ByAt w6 (some ⟨gy, 0, none⟩) (bytesOf (deltaT B C))) := hby
            clear HY hle hby
            have HSX : Hid ((∀ y ∈ bytesOf (deltaT A B), y < 256) ∧ (bytesOf (deltaT A B)).length ≤ 3984 ∧ (∀ y ∈ bytesOf (deltaT B C), y < 256) ∧ (bytesOf (deltaT B C)).length ≤ 3984) := ⟨bytesOf_small (delta_bits _ _), HDX.out.len, bytesOf_small (delta_bits _ _), HDY.out.len⟩
            generalize bytesOf (deltaT A B) = LX at HDX HBX HSX ⊢
            generalize bytesOf (deltaT B C) = LY at HDY HBY HSX ⊢
            go_wp2_with fail
            refine (apply_calls A _ (some ⟨gx, 0, none⟩) cx LX w7 (HA1.out w7 H7.out.1) HNU.out (by omega) (by have := HSX.out.2.1; omega) HSX.out.1 (HBX.out.only H7.out.2.1 (by simp)) (fun e => by cases e)).mono ?_
            rintro e w8 ⟨o8, h8⟩
            rcases h8 with ⟨hr, _⟩ | ⟨_, hno, _⟩ | ⟨_, T, vp, hdel, huni, rfl, hown⟩
            · rw [RA.out] at hr; cases hr
            · exact absurd HDX.out (hno _)
            obtain rfl := huni _ HDX.out
            have H8 : Hid (Only [] w w8 ∧ Only [] w6 w8 ∧ Only [] w7 w8 ∧ SvAt w8 vp B ∧ NilOk vp) := ⟨H7.out.1.trans o8, H7.out.2.2.trans o8, o8, (own_sv hown).1, (own_sv hown).2⟩
            clear o8 hdel huni hown
            go_wp2_with fail
            refine (apply_calls B vp (some ⟨gy, 0, none⟩) cy LY w8 H8.out.2.2.2.1 H8.out.2.2.2.2 (by omega) (by have := HSX.out.2.2.2; omega) HSX.out.2.2.1 (HBY.out.only H8.out.2.1 (by simp)) (fun e => by cases e)).mono ?_
            rintro e w9 ⟨o9, h9⟩
            rcases h9 with ⟨hr, _⟩ | ⟨_, hno, _⟩ | ⟨_, T, vq, hdel, huni, rfl, hown⟩
            · rw [RB2.out] at hr; cases hr
            · exact absurd HDY.out (hno _)
            obtain rfl := huni _ HDY.out
            have H9 : Hid (Only [] w w9 ∧ SvAt w9 vp B ∧ SvAt w9 vq C) := ⟨H8.out.1.trans o9, H8.out.2.2.2.1.grow o9, (own_sv hown).1⟩
            have hz9 : w9.cell? ⟨gz, 0, none⟩ = some (.int .u8 192) := (H8.out.2.2.1.trans o9).cell HZ0.out (by simp)
            clear o9 hdel huni hown H8
            simp only [List.length_singleton]
            go_wp2_with fail
            refine (sameViews_calls B _ _ w9 H9.out.2.1 (HA2.out w9 H9.out.1) (by omega)).mono ?_
            rintro e w10 ⟨rfl, o10⟩
            have H10 : Hid (Only [] w w10 ∧ SvAt w10 vq C) := ⟨H9.out.1.trans o10, H9.out.2.2.grow o10⟩
            clear o10 hz9 H9
            go_wp2_with fail
            refine (sameViews_calls C _ _ w10 H10.out.2 (HA3.out w10 H10.out.1) (by omega)).mono ?_
            rintro e w11 ⟨rfl, o11⟩
            have H11 : Hid (Only [] w w11) := H10.out.1.trans o11
            clear o11 H10
            go_wp2_with fail
            go_ret
            exact ⟨rfl, H11.out⟩
        end Go.Proofs.YticdkhijjlcacaaDoor
