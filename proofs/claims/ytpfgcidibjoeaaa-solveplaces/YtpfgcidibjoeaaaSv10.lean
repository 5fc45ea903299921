/- gyrelaw.SolvePlaces: whatever the bodies and the touches. -/
import Derived.Test.YtpfgcidibjoeaaaSv9
namespace Go.Proofs.Ytpfgcidibjoeaaa
open Go.ChangeShapes Go.WideShapes Go.ChangeAt Go.RowKit
set_option linter.unusedVariables false
set_option linter.unusedSimpArgs false

theorem solvePlaces_calls (a b : Option Addr) (n c m d : Nat) (B : Nat → Bd) (T : Nat → Tc) (w : World) (h : BodiesAt w a n B) (hs : SlArg a n c) (ht : TouchesAt w b m T) (hid : ∀ j, j < n → In64S (B j).id) :
    Calls Try.prog 12 #[.slice a n c, .slice b m d] w fun e w' => e = .returned (.bool true) ∧ Only [] w w' := by
  have HB : Hid (BodiesAt w a n B ∧ SlArg a n c ∧ TouchesAt w b m T ∧ (∀ j, j < n → In64S (B j).id)) := ⟨h, hs, ht, hid⟩
  clear h hs ht hid
  by_cases hn : n ≤ 30
  · have t0 : decide ((30 : Int) < (n : Int)) = false := by simp; omega
    by_cases hm : m ≤ 60
    · have t1 : decide ((60 : Int) < (m : Int)) = false := by simp; omega
      have HN : Hid (n ≤ 30 ∧ m ≤ 60) := ⟨hn, hm⟩
      clear hn hm
      go_enter Try.func12, Try.ntmps12
      go_wp2_with fail
      refine (alone_calls a n c B w HN.out.1 HB.out.1).mono ?_
      rintro e w1 ⟨v, rfl, hal, o1⟩
      have H1 : Hid ((v = true → Alone n B) ∧ Only [] w w1) := ⟨hal, o1⟩
      clear hal o1
      cases v with
      | false =>
        go_wp2_with fail
        go_ret
        exact ⟨rfl, H1.out.2⟩
      | true =>
        go_wp2_with fail
        refine (places_calls a b n c m d B T w1 HN.out.1 HN.out.2 (HB.out.1.only H1.out.2) HB.out.2.1 (HB.out.2.2.1.only H1.out.2) (H1.out.1 (by simp)) HB.out.2.2.2).mono ?_
        rintro e w2 ⟨a2, c2, rfl, hb2, o2⟩
        have H2 : Hid (BodiesAt w2 a2 n (placesX n B T m) ∧ Only [] w w2) := ⟨hb2, H1.out.2.trans o2⟩
        clear hb2 o2
        go_wp2_with fail
        refine (refPlaces_calls a b n c m d B T w2 HN.out.1 HN.out.2 (HB.out.1.only H2.out.2) HB.out.2.1 (HB.out.2.2.1.only H2.out.2)).mono ?_
        rintro e w3 ⟨a3, c3, rfl, hb3, o3⟩
        have H3 : Hid (BodiesAt w3 a2 n (placesX n B T m) ∧ BodiesAt w3 a3 n (placesX n B T m) ∧ Only [] w w3) := ⟨H2.out.1.only o3, hb3, H2.out.2.trans o3⟩
        clear hb3 o3
        go_wp2_with fail
        refine (sameBodies_calls a2 a3 n c2 c3 (placesX n B T m) w3 HN.out.1 H3.out.1 H3.out.2.1).mono ?_
        rintro e w4 ⟨rfl, o4⟩
        go_wp2_with fail
        go_ret
        exact ⟨rfl, H3.out.2.2.trans o4⟩
    · have t1 : decide ((60 : Int) < (m : Int)) = true := by simp; omega
      go_enter Try.func12, Try.ntmps12
      go_wp2_with fail
      go_ret
      exact ⟨rfl, Only.refl _ _⟩
  · have t0 : decide ((30 : Int) < (n : Int)) = true := by simp; omega
    go_enter Try.func12, Try.ntmps12
    go_wp2_with fail
    go_ret
    exact ⟨rfl, Only.refl _ _⟩
end Go.Proofs.Ytpfgcidibjoeaaa
