/- Package bits: pieces, Put, Var, Int, Many: whichever numbers. -/
import Derived.Test.YtedhdmahdioboaaSg1
namespace Go.Proofs.Ytedhdmahdioboaa
open Go.ChangeShapes Go.WideShapes Go.ChangeAt Go.RowKit
set_option linter.unusedVariables false
set_option linter.unusedSimpArgs false
variable {R : Array Value} {T : TypeId}

/-- An error of this number. -/
def errV (k : Int) : Value := .iface 62 (.int .i64 k)
set_option maxRecDepth 100000 in
set_option maxHeartbeats 2000000 in
theorem pieces_calls (n : Nat) (w : World) (hn : n < 2 ^ 62) : Calls Try.prog 153 #[.int .i64 ((n : Int))] w fun e w' => e = .returned (.int .i64 ((piecesM n : Nat))) ∧ w' = w := by
  have HB : Hid (n < 2 ^ 62 ∧ piecesM n ≤ 13) := ⟨hn, piecesM_13 hn⟩
  clear hn
  go_enter Try.func153, Try.ntmps153
  go_wp2_with fail
  go_loopg [0, 3] n (fun k v m wr => ∃ a c : Nat, v = .int .i64 (a : Int) ∧ m = .int .i64 (c : Int) ∧ Hid (a ≤ n ∧ k = a ∧ c + piecesM a = piecesM n + 1) ∧ wr = w)
  case atStart => exact ⟨n, 1, rfl, rfl, ⟨by omega, rfl, by omega⟩, rfl⟩
  case round =>
    obtain ⟨a, c, rfl, rfl, H1, rfl⟩ := hrel
    have h2 := HB.out; have h1 := H1.out
    have hp := piecesM_pos a
    by_cases hi : a < 32
    · have hil : ¬ (a : Int) ≥ 32 := by omega
      rw [piecesM_small hi] at h1
      go_wp2_with fail
      go_ret
      refine ⟨?_, rfl⟩
      rw [show c = piecesM n by omega]; rfl
    · have hil : (a : Int) ≥ 32 := by omega
      have e := piecesM_great hi
      have hp2 := piecesM_pos (a / 32)
      have HQ : Hid (IntKind.i64.wrap ((a : Int) / 32) = ((a / 32 : Nat) : Int)) := by show _ = _; rw [← wrap_i64 (a / 32) (by omega)]; rfl
      have hc : c ≤ 13 := by omega
      go_wp2_with fail
      go_roundg (a / 32)
      case measure => omega
      case rel => exact ⟨a / 32, c + 1, by first | rfl | (rw [HQ.out]) | simp, by go_num, ⟨by omega, rfl, by omega⟩, rfl⟩
theorem many_calls (x : Nat) (l : List Nat) (w : World) (h : WrAt R T w x l) : Calls Try.prog 150 #[.pointer (some ⟨x, 0, none⟩)] w fun e w' => e = .returned (.int .i64 ((l.length : Int))) ∧ w' = w := by
  have hm := h.many
  clear h
  go_enter Try.func150, Try.ntmps150
  go_wp2_with fail
  go_ret
  exact ⟨rfl, rfl⟩
/-- What a Writer's call tells: an error, and the bits that it has then. -/
def WrPost (R : Array Value) (T : TypeId) (x : Nat) (l : List Nat) (bad : Prop) (more : List Nat) (w : World) (e : Ending) (w' : World) : Prop :=
  Only [x] w w' ∧ ((bad ∧ e = .returned (errV 2) ∧ WrAt R T w' x l) ∨ (¬ bad ∧ 32000 < l.length + more.length ∧ e = .returned (errV 4) ∧ WrAt R T w' x l) ∨ (¬ bad ∧ l.length + more.length ≤ 32000 ∧ e = .returned .nilIface ∧ WrAt R T w' x (l ++ more)))
def badPut (n wd : Int) : Prop := wd < 0 ∨ 62 < wd ∨ n < 0 ∨ 2 ^ wd.toNat ≤ n
def badVar (n : Int) : Prop := n < 0 ∨ 2 ^ 62 ≤ n
def badInt (n : Int) : Prop := n < -(2 ^ 60) ∨ 2 ^ 60 < n
set_option maxRecDepth 100000 in
set_option maxHeartbeats 2000000 in
theorem put_calls (x : Nat) (l : List Nat) (n wd : Int) (w : World) (h : WrAt R T w x l) :
    Calls Try.prog 138 #[.pointer (some ⟨x, 0, none⟩), .int .i64 n, .int .i64 wd] w (WrPost R T x l (badPut n wd) (putB n.toNat wd.toNat) w) := by
  have HW : Hid (WrAt R T w x l) := h
  clear h
  go_enter Try.func138, Try.ntmps138
  go_wp2_with fail
  refine (mayBe_calls wd w).mono ?_
  rintro e w1 ⟨rfl, rfl⟩
  by_cases hm : 0 ≤ wd ∧ wd ≤ 62
  · simp only [hm, and_self, decide_true]
    by_cases hn : n < 0
    · go_wp2_with fail
      go_ret
      exact ⟨Only.refl _ _, Or.inl ⟨Or.inr (Or.inr (Or.inl hn)), rfl, HW.out⟩⟩
    · obtain ⟨m, rfl⟩ : ∃ m : Nat, n = (m : Int) := ⟨n.toNat, by omega⟩
      obtain ⟨d, rfl⟩ : ∃ d : Nat, wd = (d : Int) := ⟨wd.toNat, by omega⟩
      have hd : d ≤ 62 := by omega
      obtain ⟨p, hp⟩ : ∃ p : Nat, p = 2 ^ d := ⟨_, rfl⟩
      have hpw : wrap64 (2 ^ d) = (p : Int) := by
        have h1 : 2 ^ d ≤ 2 ^ 62 := Nat.pow_le_pow_right (by omega) hd
        rw [hp]
        have h2 : ((2 ^ d : Nat) : Int) = (2 : Int) ^ d := by simp
        rw [← h2]
        unfold wrap64; omega
      have HP : Hid (p = 2 ^ d ∧ d ≤ 62) := ⟨hp, hd⟩
      clear hp hd
      by_cases hlt : m < p
      · have hl2 : (m : Int) < (p : Int) := by omega
        go_wp2_with fail
        refine (fits_calls x l (d : Int) w1 HW.out (by omega) (by have := HP.out.2; omega)).mono ?_
        rintro e w2 ⟨rfl, hw2⟩
        subst hw2
        by_cases hf : (l.length : Int) + d ≤ 32000
        · simp only [hf, decide_true]
          go_wp2_with fail
          refine (add_calls x l m d w2 HW.out HP.out.2 (by have := HP.out; have h1 : 2 ^ d ≤ 2 ^ 62 := Nat.pow_le_pow_right (by omega) this.2; omega) (by omega)).mono ?_
          rintro e w3 ⟨rfl, hw3, o3⟩
          go_wp2_with fail
          go_ret
          refine ⟨o3, Or.inr (Or.inr ⟨?_, ?_, rfl, hw3⟩)⟩
          · unfold badPut; have := HP.out; rw [Int.toNat_natCast]; have h2 : ((2 ^ d : Nat) : Int) = (2 : Int) ^ d := by simp
            omega
          · rw [putB_len]; omega
        · simp only [hf, decide_false]
          go_wp2_with fail
          go_ret
          refine ⟨Only.refl _ _, Or.inr (Or.inl ⟨?_, ?_, rfl, HW.out⟩)⟩
          · unfold badPut; have := HP.out; rw [Int.toNat_natCast]; have h2 : ((2 ^ d : Nat) : Int) = (2 : Int) ^ d := by simp
            omega
          · rw [putB_len]; omega
      · have hl2 : ¬ (m : Int) < (p : Int) := by omega
        go_wp2_with fail
        go_ret
        refine ⟨Only.refl _ _, Or.inl ⟨?_, rfl, HW.out⟩⟩
        have h2 : ((2 ^ d : Nat) : Int) = (2 : Int) ^ d := by simp
        have := HP.out.1
        exact Or.inr (Or.inr (Or.inr (by rw [Int.toNat_natCast]; omega)))
  · simp only [hm, decide_false]
    go_wp2_with fail
    go_ret
    exact ⟨Only.refl _ _, Or.inl ⟨by unfold badPut; omega, rfl, HW.out⟩⟩
theorem piecesM_two {a : Nat} (h : 2 ≤ piecesM a) : ¬ a < 32 := fun q => by rw [piecesM_small q] at h; omega
theorem piecesM_one {a : Nat} (h : piecesM a = 1) : a < 32 := by
  by_cases q : a < 32
  · exact q
  · rw [piecesM_great q] at h; have := piecesM_pos (a / 32); omega
set_option maxRecDepth 100000 in
set_option maxHeartbeats 2000000 in
theorem var_calls (x : Nat) (l : List Nat) (n : Int) (w : World) (h : WrAt R T w x l) :
    Calls Try.prog 137 #[.pointer (some ⟨x, 0, none⟩), .int .i64 n] w (WrPost R T x l (badVar n) (varB n.toNat) w) := by
  have HW : Hid (WrAt R T w x l) := h
  clear h
  by_cases hn : n < 0
  · go_enter Try.func137, Try.ntmps137
    go_wp2_with fail
    go_ret
    exact ⟨Only.refl _ _, Or.inl ⟨Or.inl hn, rfl, HW.out⟩⟩
  · by_cases hg : n < 4611686018427387904
    · go_enter Try.func137, Try.ntmps137
      go_wp2_with fail
      obtain ⟨m, rfl⟩ : ∃ m : Nat, n = (m : Int) := ⟨n.toNat, by omega⟩
      refine (pieces_calls m w (by omega)).mono ?_
      rintro e w1 ⟨rfl, rfl⟩
      have HP : Hid (m < 2 ^ 62 ∧ 1 ≤ piecesM m ∧ (varB m).length = 6 * piecesM m ∧ ¬ badVar (m : Int)) := ⟨by omega, piecesM_pos m, varB_len m, by unfold badVar; omega⟩
      have hpm := piecesM_13 (n := m) (by omega)
      obtain ⟨p, hp⟩ : ∃ p, p = piecesM m := ⟨_, rfl⟩
      rw [← hp] at hpm ⊢
      have HPP : Hid (p = piecesM m) := hp
      clear hp hg hn
      go_wp2_with fail
      refine (fits_calls x l (p * 6 : Int) w1 HW.out (by omega) (by omega)).mono ?_
      rintro e w2 ⟨rfl, rfl⟩
      by_cases hf : (l.length : Int) + p * 6 ≤ 32000
      · simp only [hf, decide_true]
        go_wp2_with fail
        have H0 : Hid (∃ P, WrAt R T w2 x (l ++ P) ∧ P ++ varB m = varB m ∧ P.length = 6 * 0 ∧ 0 + piecesM m = p ∧ Only [x] w2 w2) := ⟨[], by rw [List.append_nil]; exact HW.out, rfl, rfl, by rw [HPP.out]; omega, Only.refl _ _⟩
        go_loopg [1, 23] p (fun k v idx wr => ∃ a i : Nat, v = .int .i64 (a : Int) ∧ idx = .int .i64 (i : Int) ∧ Hid (a ≤ m ∧ i + 1 ≤ p ∧ k = p - i) ∧ Hid (∃ P, WrAt R T wr x (l ++ P) ∧ P ++ varB a = varB m ∧ P.length = 6 * i ∧ i + piecesM a = p ∧ Only [x] w2 wr))
        case atStart => exact ⟨m, 0, rfl, rfl, ⟨by omega, by have := HP.out.2.1; have := HPP.out; omega, rfl⟩, H0⟩
        case round =>
          clear H0 HW
          obtain ⟨a, i, rfl, rfl, H1, HE⟩ := hrel
          have h1 := H1.out
          have hm62 := HP.out.1
          obtain ⟨P, hP⟩ := HE.out
          have HE2 : Hid (WrAt R T wr x (l ++ P) ∧ P ++ varB a = varB m ∧ P.length = 6 * i ∧ i + piecesM a = p ∧ Only [x] w2 wr) := hP
          clear hP HE
          by_cases hi : i < p - 1
          · have hil : (i : Int) < (p : Int) - 1 := by omega
            have ha : ¬ a < 32 := piecesM_two (by have := HE2.out.2.2.2.1; omega)
            have HQ : Hid (IntKind.i64.wrap ((a : Int) / 32) = ((a / 32 : Nat) : Int)) := by show _ = _; rw [← wrap_i64 (a / 32) (by omega)]; rfl
            have ho : Go.bits .or .i64 32 ((a : Int) % 32) = ((32 + a % 32 : Nat) : Int) := by rw [← or_32 (a % 32) (by omega)]; rfl
            have ho2 : Go.bits .or .i64 32 (Int.tmod (a : Int) 32) = ((32 + a % 32 : Nat) : Int) := by rw [Int.tmod_eq_emod_of_nonneg (by omega)]; exact ho
            go_wp2_with fail
            refine (show Calls Try.prog 155 #[.pointer (some ⟨x, 0, none⟩), .int .i64 (32 + (a : Int) % 32), .int .i64 6] wr _ from add_calls x (l ++ P) (32 + a % 32) 6 wr HE2.out.1 (by omega) (by omega) (by rw [List.length_append]; have := HE2.out.2.2.1; omega)).mono ?_
            rintro e w3 ⟨rfl, hw3, o3⟩
            have H3 : Hid (∃ Q, WrAt R T w3 x (l ++ Q) ∧ Q ++ varB (a / 32) = varB m ∧ Q.length = 6 * (i + 1) ∧ i + 1 + piecesM (a / 32) = p ∧ Only [x] w2 w3) :=
              ⟨P ++ putB (32 + a % 32) 6, by rw [← List.append_assoc]; exact hw3, by rw [← HE2.out.2.1, varB_great ha, List.append_assoc], by rw [List.length_append, putB_len]; have := HE2.out.2.2.1; omega, by have := HE2.out.2.2.2.1; rw [piecesM_great ha] at this; omega, HE2.out.2.2.2.2.trans o3⟩
            clear hw3 o3 HE2
            go_wp2_with fail
            go_roundg (p - (i + 1))
            case measure => omega
            case rel => exact ⟨a / 32, i + 1, by first | rfl | (rw [HQ.out]) | simp, by go_num, ⟨by omega, by omega, rfl⟩, H3⟩
          · have hil : ¬ (i : Int) < (p : Int) - 1 := by omega
            have ha : a < 32 := piecesM_one (by have := HE2.out.2.2.2.1; omega)
            go_wp2_with fail
            refine (add_calls x (l ++ P) a 6 wr HE2.out.1 (by omega) (by omega) (by rw [List.length_append]; have := HE2.out.2.2.1; omega)).mono ?_
            rintro e w3 ⟨rfl, hw3, o3⟩
            go_wp2_with fail
            go_ret
            refine ⟨HE2.out.2.2.2.2.trans o3, Or.inr (Or.inr ⟨HP.out.2.2.2, ?_, rfl, ?_⟩)⟩
            · have := HP.out.2.2.1; have := HPP.out; rw [Int.toNat_natCast]; omega
            · rw [Int.toNat_natCast, ← HE2.out.2.1, varB_small ha, ← List.append_assoc]; exact hw3
      · simp only [hf, decide_false]
        go_wp2_with fail
        go_ret
        refine ⟨Only.refl _ _, Or.inr (Or.inl ⟨HP.out.2.2.2, ?_, rfl, HW.out⟩)⟩
        have := HP.out.2.2.1; have := HPP.out; omega
    · go_enter Try.func137, Try.ntmps137
      go_wp2_with fail
      go_ret
      exact ⟨Only.refl _ _, Or.inl ⟨Or.inr (by omega), rfl, HW.out⟩⟩
set_option maxRecDepth 100000 in
set_option maxHeartbeats 2000000 in
theorem int_calls (x : Nat) (l : List Nat) (n : Int) (w : World) (h : WrAt R T w x l) :
    Calls Try.prog 164 #[.pointer (some ⟨x, 0, none⟩), .int .i64 n] w (WrPost R T x l (badInt n) (varB (codeM n)) w) := by
  have HW : Hid (WrAt R T w x l) := h
  clear h
  by_cases h0 : n < -1152921504606846976
  · go_enter Try.func164, Try.ntmps164
    go_wp2_with fail
    go_ret
    exact ⟨Only.refl _ _, Or.inl ⟨Or.inl (by omega), rfl, HW.out⟩⟩
  · by_cases h1 : n > 1152921504606846976
    · go_enter Try.func164, Try.ntmps164
      go_wp2_with fail
      go_ret
      exact ⟨Only.refl _ _, Or.inl ⟨Or.inr (by omega), rfl, HW.out⟩⟩
    · by_cases h2 : n < 0
      · go_enter Try.func164, Try.ntmps164
        go_wp2_with fail
        refine (var_calls x l (-2 * n - 1) w HW.out).mono ?_
        rintro e w1 ⟨o1, hr⟩
        have e1 : (-2 * n - 1).toNat = codeM n := by unfold codeM; rw [if_pos (by omega)]
        have e2 : ¬ badVar (-2 * n - 1) := by unfold badVar; omega
        have e3 : ¬ badInt n := by unfold badInt; omega
        rw [e1] at hr
        rcases hr with ⟨hb, _⟩ | ⟨_, hl, rfl, hw⟩ | ⟨_, hl, rfl, hw⟩
        · exact absurd hb e2
        · go_wp2_with fail
          go_ret
          exact ⟨o1, Or.inr (Or.inl ⟨e3, hl, rfl, hw⟩)⟩
        · go_wp2_with fail
          go_ret
          exact ⟨o1, Or.inr (Or.inr ⟨e3, hl, rfl, hw⟩)⟩
      · go_enter Try.func164, Try.ntmps164
        go_wp2_with fail
        refine (var_calls x l (2 * n) w HW.out).mono ?_
        rintro e w1 ⟨o1, hr⟩
        have e1 : (2 * n).toNat = codeM n := by unfold codeM; rw [if_neg (by omega)]
        have e2 : ¬ badVar (2 * n) := by unfold badVar; omega
        have e3 : ¬ badInt n := by unfold badInt; omega
        rw [e1] at hr
        rcases hr with ⟨hb, _⟩ | ⟨_, hl, rfl, hw⟩ | ⟨_, hl, rfl, hw⟩
        · exact absurd hb e2
        · go_wp2_with fail
          go_ret
          exact ⟨o1, Or.inr (Or.inl ⟨e3, hl, rfl, hw⟩)⟩
        · go_wp2_with fail
          go_ret
          exact ⟨o1, Or.inr (Or.inr ⟨e3, hl, rfl, hw⟩)⟩
end Go.Proofs.Ytedhdmahdioboaa
