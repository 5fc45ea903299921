/- The reference's Bits: Var, Int; Open: whichever numbers and bytes. -/
import Derived.Test.YtedhdmahdioboaaSu1
namespace Go.Proofs.Ytedhdmahdioboaa
open Go.ChangeShapes Go.WideShapes Go.ChangeAt Go.RowKit
set_option linter.unusedVariables false
set_option linter.unusedSimpArgs false

theorem putB_one (b : Nat) (h : b ≤ 1) : putB b 1 = [b] := by simp [putB]; omega
theorem putB_join (n : Nat) (h : n < 32) : putB 1 1 ++ putB n 5 = putB (32 + n) 6 := by
  have : ∀ m : Fin 32, putB 1 1 ++ putB m.1 5 = putB (32 + m.1) 6 := by decide
  exact this ⟨n, h⟩
theorem putB_last (n : Nat) (h : n < 32) : putB 0 1 ++ putB n 5 = putB n 6 := by
  have : ∀ m : Fin 32, putB 0 1 ++ putB m.1 5 = putB m.1 6 := by decide
  exact this ⟨n, h⟩
set_option maxRecDepth 100000 in
set_option maxHeartbeats 4000000 in
theorem refVar_calls (kb : Nat) (v : Value) (l : List Nat) (n : Nat) (w : World) (h : BtAt w kb v l) (hn : n < 2 ^ 62) (hl : l.length ≤ 50000) :
    Calls Try.prog 45 #[.pointer (some ⟨kb, 0, none⟩), .int .i64 ((n : Int))] w fun e w' => e = .returned (.tuple #[]) ∧ ∃ v', BtAt w' kb v' (l ++ varB n) ∧ PP w kb v w' v' := by
  have HB : Hid (n < 2 ^ 62 ∧ l.length ≤ 50000 ∧ (varB n).length ≤ 78) := ⟨hn, hl, by rw [varB_len]; have := piecesM_13 hn; omega⟩
  have H0 : Hid (∃ v' P, BtAt w kb v' (l ++ P) ∧ P ++ varB n = varB n ∧ PP w kb v w v') := ⟨v, [], by rw [List.append_nil]; exact h, rfl, PP.refl _ _ _⟩
  clear h hn hl
  go_enter Try.func45, Try.ntmps45
  go_wp2_with fail
  go_loopg [1] n (fun k x wr => ∃ m : Nat, x = .int .i64 (m : Int) ∧ Hid (m ≤ n ∧ k = m) ∧ Hid (∃ v' P, BtAt wr kb v' (l ++ P) ∧ P ++ varB m = varB n ∧ PP w kb v wr v'))
  case atStart => exact ⟨n, rfl, ⟨by omega, rfl⟩, H0⟩
  case round =>
    clear H0
    obtain ⟨m, rfl, H1, HE⟩ := hrel
    have hm := H1.out.1; have hn := HB.out.1
    obtain ⟨v1, P, hB, hV, hP⟩ := HE.out
    have hPl : P.length + (varB m).length ≤ 78 := by rw [← List.length_append, hV]; exact HB.out.2.2
    have HN : Hid (BtAt wr kb v1 (l ++ P) ∧ P ++ varB m = varB n ∧ PP w kb v wr v1 ∧ P.length ≤ 78 ∧ l.length ≤ 50000) := ⟨hB, hV, hP, by omega, HB.out.2.1⟩
    clear hB hV hP hPl HE
    by_cases hg : m < 32
    · have hgl : ¬ (m : Int) > 31 := by omega
      go_wp2_with fail
      refine (show Calls Try.prog 43 #[.pointer (some ⟨kb, 0, none⟩), .int .i64 0, .int .i64 1] wr _ from refPut_calls kb v1 (l ++ P) 0 1 wr HN.out.1 (by omega) (by omega) (by rw [List.length_append]; have := HN.out.2.2.2; omega)).mono ?_
      rintro e w2 ⟨rfl, v2, hB2, hP2⟩
      have H2 : Hid (BtAt w2 kb v2 (l ++ P ++ putB 0 1) ∧ PP w kb v w2 v2) := ⟨hB2, HN.out.2.2.1.trans hP2⟩
      clear hB2 hP2
      go_wp2_with fail
      refine (show Calls Try.prog 43 #[.pointer (some ⟨kb, 0, none⟩), .int .i64 (m : Int), .int .i64 5] w2 _ from refPut_calls kb v2 (l ++ P ++ putB 0 1) m 5 w2 H2.out.1 (by omega) (by omega) (by simp only [List.length_append, putB_len]; have := HN.out.2.2.2; omega)).mono ?_
      rintro e w3 ⟨rfl, v3, hB3, hP3⟩
      have H3 : Hid (BtAt w3 kb v3 (l ++ varB n) ∧ PP w kb v w3 v3) := ⟨by rw [← HN.out.2.1, varB_small hg, ← putB_last m hg, ← List.append_assoc, ← List.append_assoc]; exact hB3, H2.out.2.trans hP3⟩
      clear hB3 hP3 H2
      go_wp2_with fail
      refine bodyPost_end (results_none rfl _ _ _) rfl ?_
      exact ⟨rfl, v3, H3.out.1, H3.out.2⟩
    · have hgl : (m : Int) > 31 := by omega
      go_wp2_with fail
      refine (show Calls Try.prog 43 #[.pointer (some ⟨kb, 0, none⟩), .int .i64 1, .int .i64 1] wr _ from refPut_calls kb v1 (l ++ P) 1 1 wr HN.out.1 (by omega) (by omega) (by rw [List.length_append]; have := HN.out.2.2.2; omega)).mono ?_
      rintro e w2 ⟨rfl, v2, hB2, hP2⟩
      have H2 : Hid (BtAt w2 kb v2 (l ++ P ++ putB 1 1) ∧ PP w kb v w2 v2) := ⟨hB2, HN.out.2.2.1.trans hP2⟩
      clear hB2 hP2
      go_wp2_with fail
      refine (show Calls Try.prog 43 #[.pointer (some ⟨kb, 0, none⟩), .int .i64 ((m : Int) % 32), .int .i64 5] w2 _ from refPut_calls kb v2 (l ++ P ++ putB 1 1) (m % 32) 5 w2 H2.out.1 (by omega) (by omega) (by simp only [List.length_append, putB_len]; have := HN.out.2.2.2; omega)).mono ?_
      rintro e w3 ⟨rfl, v3, hB3, hP3⟩
      have H3 : Hid (∃ v' P', BtAt w3 kb v' (l ++ P') ∧ P' ++ varB (m / 32) = varB n ∧ PP w kb v w3 v') :=
        ⟨v3, P ++ putB (32 + m % 32) 6, by rw [← putB_join (m % 32) (by omega), ← List.append_assoc, ← List.append_assoc]; exact hB3, by rw [← HN.out.2.1, varB_great hg, List.append_assoc], H2.out.2.trans hP3⟩
      clear hB3 hP3 H2 HN
      have HQ : Hid (IntKind.i64.wrap ((m : Int) / 32) = ((m / 32 : Nat) : Int)) := by show _ = _; rw [← wrap_i64 (m / 32) (by omega)]; rfl
      go_wp2_with fail
      go_roundg (m / 32)
      case measure => have := H1.out.2; omega
      case rel => exact ⟨m / 32, by first | rfl | (rw [HQ.out]) | simp, ⟨by omega, rfl⟩, H3⟩
set_option maxRecDepth 100000 in
set_option maxHeartbeats 2000000 in
theorem refInt_calls (kb : Nat) (v : Value) (l : List Nat) (n : Int) (w : World) (h : BtAt w kb v l) (hn : ¬ badInt n) (hl : l.length ≤ 50000) :
    Calls Try.prog 41 #[.pointer (some ⟨kb, 0, none⟩), .int .i64 n] w fun e w' => e = .returned (.tuple #[]) ∧ ∃ v', BtAt w' kb v' (l ++ varB (codeM n)) ∧ PP w kb v w' v' := by
  have HB : Hid (BtAt w kb v l ∧ l.length ≤ 50000) := ⟨h, hl⟩
  clear h hl
  have h0 : -1152921504606846976 ≤ n := by unfold badInt at hn; omega
  have h1 : n ≤ 1152921504606846976 := by unfold badInt at hn; omega
  clear hn
  by_cases h2 : n < 0
  · obtain ⟨c, hc⟩ : ∃ c : Nat, (c : Int) = -2 * n - 1 := ⟨(-2 * n - 1).toNat, by omega⟩
    have e1 : c = codeM n := by unfold codeM; rw [if_pos h2]; omega
    have HE : Hid (c = codeM n ∧ (c : Int) = -2 * n - 1 ∧ c < 2 ^ 62) := ⟨e1, hc, by omega⟩
    clear hc e1
    go_enter Try.func41, Try.ntmps41
    go_wp2_with fail
    rw [← HE.out.2.1]
    refine (refVar_calls kb v l c w HB.out.1 HE.out.2.2 HB.out.2).mono ?_
    rintro e w1 ⟨rfl, v1, hB, hP⟩
    have H1 : Hid (BtAt w1 kb v1 (l ++ varB (codeM n)) ∧ PP w kb v w1 v1) := ⟨by rw [← HE.out.1]; exact hB, hP⟩
    clear hB hP
    go_wp2_with fail
    refine bodyPost_end (results_none rfl _ _ _) rfl ?_
    exact ⟨rfl, v1, H1.out.1, H1.out.2⟩
  · obtain ⟨c, hc⟩ : ∃ c : Nat, (c : Int) = 2 * n := ⟨(2 * n).toNat, by omega⟩
    have e1 : c = codeM n := by unfold codeM; rw [if_neg h2]; omega
    have HE : Hid (c = codeM n ∧ (c : Int) = 2 * n ∧ c < 2 ^ 62) := ⟨e1, hc, by omega⟩
    clear hc e1
    go_enter Try.func41, Try.ntmps41
    go_wp2_with fail
    rw [← HE.out.2.1]
    refine (refVar_calls kb v l c w HB.out.1 HE.out.2.2 HB.out.2).mono ?_
    rintro e w1 ⟨rfl, v1, hB, hP⟩
    have H1 : Hid (BtAt w1 kb v1 (l ++ varB (codeM n)) ∧ PP w kb v w1 v1) := ⟨by rw [← HE.out.1]; exact hB, hP⟩
    clear hB hP
    go_wp2_with fail
    refine bodyPost_end (results_none rfl _ _ _) rfl ?_
    exact ⟨rfl, v1, H1.out.1, H1.out.2⟩
end Go.Proofs.Ytedhdmahdioboaa
