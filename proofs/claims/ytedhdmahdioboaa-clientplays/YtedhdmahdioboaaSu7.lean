/- The reference's Bytes: whichever bits; append of nothing; strings of bytes. -/
import Derived.Test.YtedhdmahdioboaaSu2
import Derived.Laws.BytesArg
namespace Go.Proofs.Ytedhdmahdioboaa
open Go.ChangeShapes Go.WideShapes Go.ChangeAt Go.RowKit
set_option linter.unusedVariables false
set_option linter.unusedSimpArgs false

def partB (l : List Nat) (k j : Nat) : Nat := valB ((List.range j).map (fun t => l.getD (8 * k + t) 0))
theorem partB_succ (l : List Nat) (k j : Nat) : partB l k (j + 1) = 2 * partB l k j + l.getD (8 * k + j) 0 := by
  unfold partB
  rw [List.range_succ, List.map_append, List.map_singleton, valB_snoc]
theorem partB_lt {l : List Nat} (h : Bits l) (k j : Nat) : partB l k j < 2 ^ j := by
  have := valB_lt (l := (List.range j).map (fun t => l.getD (8 * k + t) 0)) (fun b hb => by
    obtain ⟨t, _, rfl⟩ := List.mem_map.1 hb
    exact h.getD _)
  simpa [partB] using this
theorem partB_8 (l : List Nat) (k : Nat) : partB l k 8 = byteAt l k := by
  rw [partB_succ, partB_succ, partB_succ, partB_succ, partB_succ, partB_succ, partB_succ, partB_succ]
  unfold byteAt
  rw [show partB l k 0 = 0 from rfl, Nat.add_zero]
  omega
theorem byte_more {w2 w3 : World} {v v' : Value} {P : List Nat} {b : Nat} {T : TypeId} (hown : w3.ownsRow 0 5 1 v' (P.length + 1) (byV P ++ [.int .u8 (b : Int)])) (hgrow : (w2.alloc (.cells #[.int .u8 (b : Int)] T)).grownBy w3 v.ownBlock)
    (hloc : v'.ownBlock = v.ownBlock ∨ v'.ownBlock = some (w2.alloc (.cells #[.int .u8 (b : Int)] T)).heap.size) : Hid (SlB w3 v' (P ++ [b]) ∧ Only (ownL v) w2 w3 ∧ (∀ x ∈ ownL v', x ∈ ownL v ∨ w2.heap.size ≤ x)) := by
  refine ⟨?_, ?_, ?_⟩
  · unfold SlB; rw [List.length_append]; simpa [byV] using hown
  · exact ((Only.refl _ _).alloc _).grown hgrow (fun k hk => Or.inl (by simp [ownL, hk]))
  · intro x hx
    rcases hloc with e | e
    · left; simpa [ownL, e] using hx
    · right
      simp only [ownL, e, Option.toList_some, List.mem_singleton] at hx
      simp at hx; omega
set_option maxRecDepth 100000 in
set_option maxHeartbeats 4000000 in
theorem refBytes_calls (v : Value) (l : List Nat) (w : World) (h : SlB w v l) (hb : Bits l) (hl : l.length ≤ 32000) :
    Calls Try.prog 46 #[v] w fun e w' => ∃ v', e = .returned v' ∧ SlB w' v' (bytesOf l) ∧ Only [] w w' := by
  obtain ⟨i2, hi0, hz0, hz1, hz2⟩ := info_parts byteInfo
  obtain ⟨a, cv, rfl, _, hcell⟩ := h.shape
  have HC : Hid ((∀ j, j < l.length → ∃ g, a = some ⟨g, 0, none⟩ ∧ w.cell? ⟨g, j, none⟩ = some (.int .u8 ((l.getD j 0 : Nat) : Int))) ∧ Bits l) := ⟨hcell, hb⟩
  clear hcell hb h
  have H0 : Hid (SlB w (.slice none 0 0) ((List.range 0).map (byteAt l)) ∧ Only [] w w ∧ (∀ b ∈ ownL (.slice none 0 0), w.heap.size ≤ b)) := ⟨SlB.nil w, Only.refl _ _, by simp [ownL, Value.ownBlock]⟩
  go_enter Try.func46, Try.ntmps46
  go_wp2_with fail
  go_loopg [3, 4] 4001 (fun m u idx wr => ∃ k : Nat, idx = .int .i64 (((8 * k : Nat)) : Int) ∧ Hid (m = 4001 - k ∧ k ≤ (l.length + 7) / 8) ∧ Hid (SlB wr u ((List.range k).map (byteAt l)) ∧ Only [] w wr ∧ (∀ b ∈ ownL u, w.heap.size ≤ b)))
  case atStart => exact ⟨0, rfl, ⟨rfl, by omega⟩, H0⟩
  case round =>
    clear H0
    obtain ⟨k, rfl, HI, HE⟩ := hrel
    obtain ⟨K, hK⟩ : ∃ K, K = 8 * k := ⟨_, rfl⟩
    rw [← hK]
    have HK : Hid (K = 8 * k ∧ k ≤ (l.length + 7) / 8) := ⟨hK, HI.out.2⟩
    clear hK
    have hKl : K ≤ 32008 := by have := HK.out; omega
    by_cases hk : K < l.length
    · have hkl : (K : Int) < (l.length : Int) := by omega
      have HKL : Hid (K < l.length) := hk
      clear hk
      go_wp2_with fail
      go_loopg [5, 6] 8 (fun mm x idx wz => ∃ j n : Nat, x = .int .i64 (n : Int) ∧ idx = .int .i64 ((K + j : Nat) : Int) ∧ Hid (mm = 8 - j ∧ j ≤ 8 ∧ n = partB l k j) ∧ wz = wr)
      case atStart => exact ⟨0, 0, rfl, by simp, ⟨rfl, by omega, rfl⟩, rfl⟩
      case round =>
        obtain ⟨j, n, rfl, rfl, HJ, rfl⟩ := hrel
        obtain ⟨J, hJ⟩ : ∃ J, J = K + j := ⟨_, rfl⟩
        rw [← hJ]
        have HJJ : Hid (J = K + j) := hJ
        have hJ8 : J ≤ K + 8 := by have := HJ.out.2.1; omega
        clear hJ
        have hn256 : n ≤ 256 := by rw [HJ.out.2.2]; have h1 := partB_lt HC.out.2 k j; have h2 : 2 ^ j ≤ 2 ^ 8 := Nat.pow_le_pow_right (by omega) HJ.out.2.1; omega
        by_cases hj : J < K + 8
        · have hjl : (J : Int) < (K : Int) + 8 := by omega
          by_cases hin : J < l.length
          · have hinl : (J : Int) < (l.length : Int) := by omega
            obtain ⟨g, rfl, hc0⟩ := HC.out.1 J hin
            have hc := HE.out.2.1.cell hc0 (by simp)
            have hb1 := HC.out.2.getD J
            have HG : Hid (l.getD J 0 = l.getD (8 * k + j) 0) := by show _ = _; rw [HJJ.out, HK.out.1]
            clear hc0
            revert HG
            generalize l.getD J 0 = b at hc hb1
            intro HG
            go_wp2_with fail
            go_roundg (8 - (j + 1))
            case measure => have := HJ.out.1; have := HJJ.out; omega
            case rel => exact ⟨j + 1, 2 * n + b, by go_num, by have := HJJ.out; go_num, ⟨rfl, by have := HJJ.out; omega, by rw [partB_succ, ← HJ.out.2.2, HG.out]⟩, rfl⟩
          · have hinl : ¬ (J : Int) < (l.length : Int) := by omega
            have HG : Hid (l.getD (8 * k + j) 0 = 0) := by show _ = _; rw [← HK.out.1, ← HJJ.out]; exact getD_beyond _ _ (by omega)
            go_wp2_with fail
            go_roundg (8 - (j + 1))
            case measure => have := HJ.out.1; have := HJJ.out; omega
            case rel => exact ⟨j + 1, 2 * n, by go_num, by have := HJJ.out; go_num, ⟨rfl, by have := HJJ.out; omega, by rw [partB_succ, ← HJ.out.2.2, HG.out, Nat.add_zero]⟩, rfl⟩
        · have hjl : ¬ (J : Int) < (K : Int) + 8 := by omega
          have hn : n = byteAt l k := by
            have e : j = 8 := by have := HJJ.out; have := HJ.out.2.1; omega
            rw [HJ.out.2.2, e, partB_8]
          have HN : Hid (n = byteAt l k ∧ n < 256) := ⟨hn, by rw [hn]; exact byteAt_lt HC.out.2 k⟩
          have hw8 : IntKind.u8.wrap (n : Int) = (n : Int) := wrap_u8 n HN.out.2
          have hs3 := HE.out.1
          clear hn
          have hlen2 : ((List.range k).map (byteAt l)).length ≤ 4001 := by simp; have := HK.out; omega
          go_wp2_with (first | (at_builtin; refine wpList_append_own_at _ rfl _ _ 53 rfl 0 5 i2 (.int .u8 0) 1 1 Try.underlying53 hi0 hz0 hz1 hz2 rfl (by decide) u3 _ _ rfl (World.ownsRow.alloc hs3 _) ⟨wr.heap.size, 0, none⟩ 1 1 [.int .u8 (n : Int)] rfl rfl (cell_one_new _ _ _) (by simp [Value.oneCell']) (by unfold maxLen; omega) (by omega) (by simp) ?_; intro v' w5 hown hgrow hnil hloc; have H5 := byte_more (b := n) hown hgrow hloc; clear hown hgrow hnil hloc hs3))
          go_roundg (4001 - (k + 1))
          case measure => have := HI.out.1; have := HK.out; omega
          case rel =>
            refine ⟨k + 1, by have := HK.out; go_num, ⟨rfl, by have := HK.out; have := HKL.out; omega⟩, ?_⟩
            refine ⟨?_, HE.out.2.1.then H5.out.2.1 (fun b hb => Or.inr (HE.out.2.2 b hb)), fun b hb => ?_⟩
            · rw [List.range_succ, List.map_append, List.map_singleton, ← HN.out.1]; exact H5.out.1
            · rcases H5.out.2.2 b hb with e | e
              · exact HE.out.2.2 b e
              · exact Nat.le_trans HE.out.2.1.size e
    · have hkl : ¬ (K : Int) < (l.length : Int) := by omega
      go_wp2_with fail
      go_ret
      refine ⟨_, rfl, ?_, HE.out.2.1⟩
      have e : k = (l.length + 7) / 8 := by have := HK.out; omega
      unfold bytesOf
      rw [← e]; exact HE.out.1
end Go.Proofs.Ytedhdmahdioboaa
