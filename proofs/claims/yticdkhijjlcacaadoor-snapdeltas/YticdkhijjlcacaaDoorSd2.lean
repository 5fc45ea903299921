/- gyrelaw.SnapDeltas: whichever views. -/
import Derived.Test.YticdkhijjlcacaaDoorSd1
import Derived.Test.YticdkhijjlcacaaDoorAp7
import Derived.Test.YticdkhijjlcacaaDoorSnk
import Derived.Test.YticdkhijjlcacaaDoorStr
namespace Go.Proofs.YticdkhijjlcacaaDoor
open Go.ChangeShapes Go.WideShapes Go.ChangeAt Go.RowKit
set_option linter.unusedVariables false
set_option linter.unusedSimpArgs false

theorem snapDeltas_long (a b : Option Addr) (m n c d : Nat) (w : World) (h : 150 < m + n) (hm : m < 4611686018427387904) (hn : n < 4611686018427387904) :
    Calls Tryd.prog 3 #[.slice a m c, .slice b n d] w fun e w' => e = .returned (.bool true) ∧ Only [] w w' := by
  have h1 : (m : Int) ≤ 4611686018427387903 := by omega
  have h2 : (n : Int) ≤ 4611686018427387903 := by omega
  have h3 : (150 : Int) < (m : Int) + (n : Int) := by omega
  have h4 : decide ((150 : Int) < (m : Int) + (n : Int)) = true := decide_eq_true h3
  go_enter Tryd.func3, Tryd.ntmps3
  go_wp2_with fail
  go_ret
  exact ⟨rfl, Only.refl _ _⟩
set_option maxRecDepth 100000 in
set_option maxHeartbeats 4000000 in
theorem snapDeltas_calls (F T : List Sn) (u v : Value) (w : World) (hg : EtIs w) (hu : SvAt w u F) (hv : SvAt w v T) (hl : F.length + T.length ≤ 150) :
    Calls Tryd.prog 3 #[u, v] w fun e w' => e = .returned (.bool true) ∧ Only [] w w' := by
  have HB : Hid (SvAt w u F ∧ SvAt w v T ∧ F.length + T.length ≤ 150 ∧ EtIs w) := ⟨hu, hv, hl, hg⟩
  obtain ⟨au, cu, rfl, _, _⟩ := hu
  obtain ⟨av, cv, rfl, _, _⟩ := hv
  clear hg
  have hs : ¬ (150 : Int) < (F.length : Int) + (T.length : Int) := by omega
  have hsd : decide ((150 : Int) < (F.length : Int) + (T.length : Int)) = false := decide_eq_false hs
  go_enter Tryd.func3, Tryd.ntmps3
  go_wp2_with fail
  refine (seenG_calls F _ w HB.out.1 (by omega)).mono ?_
  rintro e w1 ⟨v1, rfl, hown1, o1⟩
  have H1 : Hid (w1.ownsRow w.heap.size 57 11 v1 F.length (rowS F) ∧ Only [] w w1) := ⟨hown1, o1⟩
  clear hown1 o1
  go_wp2_with fail
  refine (seenG_calls T _ w1 (HB.out.2.1.grow H1.out.2) (by omega)).mono ?_
  rintro e w2 ⟨v2, rfl, hown2, o2⟩
  have H2 : Hid (SvAt w2 v1 F ∧ SvAt w2 v2 T ∧ Only [] w w2) := ⟨(own_sv H1.out.1).1.grow o2, (own_sv hown2).1, H1.out.2.trans o2⟩
  clear hown2 o2 H1
  go_wp2_with fail
  refine (refDelta_calls F T v1 v2 w2 H2.out.1 H2.out.2.1 (by omega) (by omega)).mono ?_
  rintro e w3 ⟨o3, hc3⟩
  have H3 : Hid (Only [] w w3) := H2.out.2.2.trans o3
  clear o3 H2
  have HD : Hid (∀ w', Only [] w w' → Calls Tryd.prog 8 #[.slice au F.length cu, .slice av T.length cv] w' (DeltaPost F T w')) := fun w' o => delta_calls F T _ _ w' (HB.out.1.grow o) (HB.out.2.1.grow o) (by have := HB.out.2.2.1; omega) (by have := HB.out.2.2.1; omega)
  have HE : Hid (∀ w', Only [] w w' → Calls Tryd.prog 10 #[.slice au F.length cu] w' (fun e w'' => e = .returned (.bool (rightL F)) ∧ Only [] w' w'')) := fun w' o => rightS_calls _ F w' (HB.out.1.grow o) (by have := HB.out.2.2.1; omega)
  have HG : Hid (∀ w', Only [] w w' → Calls Tryd.prog 7 #[.slice au F.length cu] w' (SeenGPost F w')) := fun w' o => seenG_calls F _ w' (HB.out.1.grow o) (by have := HB.out.2.2.1; omega)
  have HV : Hid (∀ w' v', SvAt w' v' F → Calls Tryd.prog 11 #[v'] w' (fun e w'' => e = .returned (.bool (rightL F)) ∧ Only [] w' w'')) := fun w' v' h => by
    obtain ⟨a, c, rfl, _, h⟩ := h
    exact rightView_calls a F.length c _ w' (by have := HB.out.2.2.1; omega) h
  rcases hc3 with ⟨hno, rfl⟩ | ⟨hF, hT, hgt, rfl⟩ | ⟨hF, hT, hle, w0, rfl, hsl⟩
  · have HC : Hid (¬ (rightL F = true ∧ rightL T = true)) := hno
    clear hno
    go_wp2_with fail
    refine (HD.out _ H3.out).mono ?_
    rintro e w4 ⟨o4, hc4⟩
    have H4 : Hid (Only [] w w4) := H3.out.trans o4
    clear o4
    rcases hc4 with ⟨hno, rfl⟩ | ⟨hF, hT, hgt, rfl⟩ | ⟨hF, hT, hle, w5, rfl, hfr⟩
    · clear hno
      have hsn := fun u (ou : Only [] w u) => str_none u
      go_wp2_with fail
      refine (bare_yes 1 _ (HB.out.2.2.2.only H4.out)).mono ?_
      rintro e w6 ⟨rfl, o6⟩
      have H6 : Hid (Only [] w w6) := H4.out.trans o6
      clear o6
      have hs6 := str_none w6
      have hss : ((strB []).toList == (strB []).toList) = true := by simp
      generalize strB [] = sb at hs6 hss
      go_wp2_with fail
      refine (HE.out _ H6.out).mono ?_
      rintro e w7 ⟨rfl, o7⟩
      have H7 : Hid (Only [] w w7) := H6.out.trans o7
      clear o7 H6
      go_wp2_with fail
      refine (HG.out _ H7.out).mono ?_
      rintro e w8 ⟨v8, rfl, hown8, o8⟩
      have H8 : Hid (SvAt w8 v8 F ∧ Only [] w w8) := ⟨(own_sv hown8).1, H7.out.trans o8⟩
      clear hown8 o8 H7
      go_wp2_with fail
      refine (HV.out _ _ H8.out.1).mono ?_
      rintro e w9 ⟨rfl, o9⟩
      have H9 : Hid (Only [] w w9) := H8.out.2.trans o9
      clear o9 H8
      have hbb : (rightL F == rightL F) = true := by simp
      generalize rightL F = rb at hbb ⊢
      go_wp2_with fail
      go_ret
      exact ⟨rfl, H9.out⟩
    · exact absurd ⟨hF, hT⟩ HC.out
    · exact absurd ⟨hF, hT⟩ HC.out
  · have HC : Hid (rightL F = true ∧ rightL T = true ∧ 31872 < (deltaT F T).length) := ⟨hF, hT, hgt⟩
    clear hF hT hgt
    go_wp2_with fail
    refine (HD.out _ H3.out).mono ?_
    rintro e w4 ⟨o4, hc4⟩
    have H4 : Hid (Only [] w w4) := H3.out.trans o4
    clear o4
    rcases hc4 with ⟨hno, rfl⟩ | ⟨hF, hT, hgt, rfl⟩ | ⟨hF, hT, hle, w5, rfl, hfr⟩
    · exact absurd ⟨HC.out.1, HC.out.2.1⟩ hno
    · clear hF hT hgt
      have hsn := fun u (ou : Only [] w u) => str_none u
      go_wp2_with fail
      refine (bare_yes 4 _ (HB.out.2.2.2.only H4.out)).mono ?_
      rintro e w6 ⟨rfl, o6⟩
      have H6 : Hid (Only [] w w6) := H4.out.trans o6
      clear o6
      have hs6 := str_none w6
      have hss : ((strB []).toList == (strB []).toList) = true := by simp
      generalize strB [] = sb at hs6 hss
      go_wp2_with fail
      refine (HE.out _ H6.out).mono ?_
      rintro e w7 ⟨rfl, o7⟩
      have H7 : Hid (Only [] w w7) := H6.out.trans o7
      clear o7 H6
      go_wp2_with fail
      refine (HG.out _ H7.out).mono ?_
      rintro e w8 ⟨v8, rfl, hown8, o8⟩
      have H8 : Hid (SvAt w8 v8 F ∧ Only [] w w8) := ⟨(own_sv hown8).1, H7.out.trans o8⟩
      clear hown8 o8 H7
      go_wp2_with fail
      refine (HV.out _ _ H8.out.1).mono ?_
      rintro e w9 ⟨rfl, o9⟩
      have H9 : Hid (Only [] w w9) := H8.out.2.trans o9
      clear o9 H8
      have hbb : (rightL F == rightL F) = true := by simp
      generalize rightL F = rb at hbb ⊢
      go_wp2_with fail
      go_ret
      exact ⟨rfl, H9.out⟩
    · have := HC.out.2.2; omega
  · have HC : Hid (rightL F = true ∧ rightL T = true ∧ (deltaT F T).length ≤ 31872 ∧ ReadsAs w3 w0 (bytesOf (deltaT F T))) := ⟨hF, hT, hle, hsl.reads⟩
    clear hF hT hle hsl
    go_wp2_with fail
    refine (HD.out _ H3.out).mono ?_
    rintro e w4 ⟨o4, hc4⟩
    have H4 : Hid (Only [] w w4) := H3.out.trans o4
    have H5s : Hid (ReadsAs w4 w0 (bytesOf (deltaT F T))) := HC.out.2.2.2.only o4
    clear o4
    rcases hc4 with ⟨hno, rfl⟩ | ⟨hF, hT, hgt, rfl⟩ | ⟨hF, hT, hle, w5, rfl, hfr⟩
    · exact absurd ⟨HC.out.1, HC.out.2.1⟩ hno
    · have := HC.out.2.2.1; omega
    · have HR : Hid (ReadsAs w4 w5 (bytesOf (deltaT F T)) ∧ ReadsAs w4 w0 (bytesOf (deltaT F T))) := ⟨hfr.reads, H5s.out⟩
      clear hF hT hle hfr
      go_wp2_with fail
      refine (bare_none _).mono ?_
      rintro e w6 ⟨rfl, o6⟩
      have H6 : Hid (Only [] w w6) := H4.out.trans o6
      have hs6 := HR.out.1 w6 o6
      have hs7 := HR.out.2 w6 o6
      clear o6
      have hss : ((strB (bytesOf (deltaT F T))).toList == (strB (bytesOf (deltaT F T))).toList) = true := by simp
      generalize strB (bytesOf (deltaT F T)) = sb at hs6 hs7 hss
      go_wp2_with fail
      refine (HE.out _ H6.out).mono ?_
      rintro e w7 ⟨rfl, o7⟩
      have H7 : Hid (Only [] w w7) := H6.out.trans o7
      clear o7 H6
      go_wp2_with fail
      refine (HG.out _ H7.out).mono ?_
      rintro e w8 ⟨v8, rfl, hown8, o8⟩
      have H8 : Hid (SvAt w8 v8 F ∧ Only [] w w8) := ⟨(own_sv hown8).1, H7.out.trans o8⟩
      clear hown8 o8 H7
      go_wp2_with fail
      refine (HV.out _ _ H8.out.1).mono ?_
      rintro e w9 ⟨rfl, o9⟩
      have H9 : Hid (Only [] w w9) := H8.out.2.trans o9
      clear o9 H8
      have hbb : (rightL F == rightL F) = true := by simp
      generalize rightL F = rb at hbb ⊢
      go_wp2_with fail
      go_ret
      exact ⟨rfl, H9.out⟩
end Go.Proofs.YticdkhijjlcacaaDoor
