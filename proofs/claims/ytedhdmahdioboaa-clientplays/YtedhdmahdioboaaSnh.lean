/- The closure vec of gyreref.Delta: whatever the vectors. -/
import Derived.Test.YtedhdmahdioboaaSng
namespace Go.Proofs.Ytedhdmahdioboaa
open Go.ChangeShapes Go.WideShapes Go.ChangeAt Go.RowKit
set_option linter.unusedVariables false
set_option linter.unusedSimpArgs false

def vpB (a b c p q r : Int) : Nat → List Nat
  | 0 => []
  | i + 1 => vpB a b c p q r i ++ varB (codeM (v3 a b c i - v3 p q r i))
theorem vpB_3 (a b c p q r : Int) : vpB a b c p q r 3 = vecB (a - p) (b - q) (c - r) := rfl
theorem far_v3 {a b c : Int} (h : farB a = true ∧ farB b = true ∧ farB c = true) (i : Nat) : farB (v3 a b c i) = true := by
  match i with
  | 0 => exact h.1
  | 1 => exact h.2.1
  | i + 2 => exact h.2.2
theorem code_len {n : Int} (h : ¬ badInt n) : (varB (codeM n)).length ≤ 78 := by
  rw [varB_len]
  have : codeM n < 2 ^ 62 := by unfold badInt at h; unfold codeM; split <;> omega
  have := piecesM_13 this
  omega
structure VcS (w : World) (kb : Nat) (K l : List Nat) (gp k4 : Nat) (a b c p q r : Int) (i : Nat) (w0 wr : World) : Prop where
  rb : RB w kb (gp :: k4 :: K) (l ++ vpB a b c p q r i) wr
  at1 : ∀ j, j < 3 → wr.cell? ⟨gp, j, none⟩ = some (.int .i64 (v3 a b c j))
  at2 : ∀ j, j < 3 → wr.cell? ⟨k4, j, none⟩ = some (.int .i64 (v3 p q r j))
  same : ∀ k ∈ K, wr.heap[k]? = w0.heap[k]?
  len : (vpB a b c p q r i).length ≤ 78 * i
theorem cell_same {w w' : World} {k j : Nat} (h : w'.heap[k]? = w.heap[k]?) : w'.cell? ⟨k, j, none⟩ = w.cell? ⟨k, j, none⟩ := by simp [World.cell?, h]
set_option maxRecDepth 100000 in
set_option maxHeartbeats 4000000 in
theorem vecR_calls (w : World) (kb : Nat) (K l : List Nat) (a b c p q r : Int) (ws : World) (h : RB w kb K l ws) (h1 : farB a = true ∧ farB b = true ∧ farB c = true) (h2 : farB p = true ∧ farB q = true ∧ farB r = true) (hl : l.length ≤ 40000) :
    Calls Try.prog 40 #[.agg #[.int .i64 a, .int .i64 b, .int .i64 c], .agg #[.int .i64 p, .int .i64 q, .int .i64 r], .pointer (some ⟨kb, 0, none⟩)] ws (RBPost w kb K (l ++ vecB (a - p) (b - q) (c - r)) ws) := by
  have HB : Hid (RB w kb K l ws ∧ l.length ≤ 40000) := ⟨h, hl⟩
  have HF : Hid ((∀ i, farB (v3 a b c i) = true) ∧ ∀ i, farB (v3 p q r i) = true) := ⟨far_v3 h1, far_v3 h2⟩
  clear h hl h1 h2
  go_enter Try.func40, Try.ntmps40
  go_wp2_with fail
  have H0 : Hid (RB w kb ((ws.heap.size + 1) :: K) l ((ws.alloc (.cells #[.int .i64 a, .int .i64 b, .int .i64 c] 27)).alloc (.cells #[.int .i64 p, .int .i64 q, .int .i64 r] 27)) ∧ (∀ j, j < 3 → ((ws.alloc (.cells #[.int .i64 a, .int .i64 b, .int .i64 c] 27)).alloc (.cells #[.int .i64 p, .int .i64 q, .int .i64 r] 27)).cell? ⟨ws.heap.size + 1, j, none⟩ = some (.int .i64 (v3 p q r j))) ∧ Only [] ws ((ws.alloc (.cells #[.int .i64 a, .int .i64 b, .int .i64 c] 27)).alloc (.cells #[.int .i64 p, .int .i64 q, .int .i64 r] 27))) := by
    have o : Only [] ws ((ws.alloc (.cells #[.int .i64 a, .int .i64 b, .int .i64 c] 27)).alloc (.cells #[.int .i64 p, .int .i64 q, .int .i64 r] 27)) := ((Only.refl [] ws).alloc _).alloc _
    refine ⟨HB.out.1.add o (by omega) (by simp), fun j hj => ?_, o⟩
    have h3 := ints_new3 (ws.alloc (.cells #[.int .i64 a, .int .i64 b, .int .i64 c] 27)) p q r 27 j (by simpa using hj)
    have e : (ws.alloc (.cells #[.int .i64 a, .int .i64 b, .int .i64 c] 27)).heap.size = ws.heap.size + 1 := by simp
    rw [e] at h3
    rw [h3]
    match j, hj with
    | 0, _ => rfl
    | 1, _ => rfl
    | 2, _ => rfl
    | j + 3, h => exact absurd h (by omega)
  revert H0
  generalize ws.heap.size + 1 = k4
  generalize World.alloc (World.alloc ws _) _ = w0
  intro H0
  refine (refParts_calls a b c _).mono ?_
  rintro e w1 ⟨gp, rfl, hg, hin, o1⟩
  have H1 : Hid (VcS w kb K l gp k4 a b c p q r 0 ws w1) := by
    have hlt : gp < w1.heap.size := World.block_lt_of_cell? w1 ⟨gp, 0, none⟩ (hin 0 (by simp))
    refine ⟨?_, fun j hj => ?_, fun j hj => o1.cell (a := ⟨k4, j, none⟩) (H0.out.2.1 j hj) (by simp), fun k hk => ?_, by simp [vpB]⟩
    · rw [show l ++ vpB a b c p q r 0 = l from List.append_nil l]; exact H0.out.1.add o1 hg hlt
    · have h3 := hin j (by simpa using hj)
      rw [h3]
      match j, hj with
      | 0, _ => rfl
      | 1, _ => rfl
      | 2, _ => rfl
      | j + 3, h => exact absurd h (by omega)
    · obtain ⟨v, _, _, h3⟩ := HB.out.1.ex
      exact (H0.out.2.2.trans o1).block k (h3 k hk).2.2 (by simp)
  clear hg hin o1 H0
  go_wp2_with fail
  go_loopg [10] 3 (fun k idx w2 => ∃ i : Nat, idx = .int .i64 (i : Int) ∧ Hid (i ≤ 3 ∧ k = 3 - i) ∧ Hid (VcS w kb K l gp k4 a b c p q r i ws w2))
  case atStart => exact ⟨0, rfl, ⟨by omega, rfl⟩, H1⟩
  case round =>
    clear H1
    obtain ⟨i, rfl, H2, HV⟩ := hrel
    by_cases hi : i < 3
    · have hil : (i : Int) < 3 := by omega
      have c1 := HV.out.at1 i hi
      have e0 := HV.out.at2 0 (by omega)
      have e1 := HV.out.at2 1 (by omega)
      have e2 := HV.out.at2 2 (by omega)
      simp only [v3] at e0 e1 e2
      have hx := HF.out.1 i
      have hy := HF.out.2 i
      have HN : Hid (¬ badInt (v3 a b c i - v3 p q r i)) := not_badInt hx hy
      simp only [farB, Bool.not_eq_true', Bool.or_eq_false_iff, decide_eq_false_iff_not] at hx hy
      have HS : Hid (vpB a b c p q r (i + 1) = vpB a b c p q r i ++ varB (codeM (v3 a b c i - v3 p q r i))) := rfl
      have HY : Hid (∀ j (hj : j < [p, q, r].length), j = i → [p, q, r][j] = v3 p q r i) := fun j hj e => by
        subst e
        match j, hj with
        | 0, _ => rfl
        | 1, _ => rfl
        | 2, _ => rfl
        | j + 3, h => simp at h; omega
      generalize v3 a b c i = x at c1 hx HS HN
      generalize v3 p q r i = y at hy HS HY HN
      go_wp2_with fail
      refine (refParts_calls p q r _).mono ?_
      rintro e w3 ⟨g2, rfl, hg, hin, o3⟩
      have c2 : w3.cell? ⟨g2, i, none⟩ = some (.int .i64 y) := by rw [hin i (by simpa using hi), HY.out i (by simpa using hi) rfl]
      have H3 : Hid (Only [] wr w3) := o3
      clear hg hin o3 c1 e0 e1 e2 HY
      go_wp2_with fail
      refine (intR_calls w kb (gp :: k4 :: K) _ (x - y) _ (HV.out.rb.keep H3.out) HN.out (by have h1 := HV.out.len; have h2 := HB.out.2; rw [List.length_append]; omega)).mono ?_
      rintro e w4 ⟨rfl, hr, hs⟩
      have H4 : Hid (VcS w kb K l gp k4 a b c p q r (i + 1) ws w4) := by
        refine ⟨by rw [HS.out, ← List.append_assoc]; exact hr, fun j hj => ?_, fun j hj => ?_, fun k hk => ?_, ?_⟩
        · rw [cell_same (hs gp (by simp))]; exact H3.out.cell (a := ⟨gp, j, none⟩) (HV.out.at1 j hj) (by simp)
        · rw [cell_same (hs k4 (by simp))]; exact H3.out.cell (a := ⟨k4, j, none⟩) (HV.out.at2 j hj) (by simp)
        · obtain ⟨v, _, _, h3⟩ := HV.out.rb.ex
          rw [hs k (by simp [hk]), H3.out.block k (h3 k (by simp [hk])).2.2 (by simp)]
          exact HV.out.same k hk
        · rw [HS.out, List.length_append]; have h1 := HV.out.len; have h2 := code_len HN.out; omega
      clear hr hs H3 c2
      go_wp2_with fail
      go_roundg (3 - (i + 1))
      case measure => have := H2.out.2; omega
      case rel => exact ⟨i + 1, by go_num, ⟨by omega, rfl⟩, H4⟩
    · have hil : ¬ (i : Int) < 3 := by omega
      obtain rfl : i = 3 := by have := H2.out.1; omega
      go_wp2_with fail
      refine bodyPost_end (results_none rfl _ _ _) rfl ?_
      exact ⟨rfl, (by have := HV.out.rb; rw [vpB_3] at this; exact this.less (fun k hk => by simp [hk])), HV.out.same⟩
end Go.Proofs.Ytedhdmahdioboaa
