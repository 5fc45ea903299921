/- fx.Root and gyreref.Root answer 'root', whatever the number. -/
import Derived.Test.YtpegjobehdihbaaWide2
namespace Go.Proofs.Ytpegjobehdihbaa
open Go.ChangeShapes Go.WideShapes Go.ChangeAt Go.RowKit

/-- What holds of both ends at each round's head: the root of s lies between them. -/
def Ends (s l h : Int) : Prop := 0 ≤ l ∧ l ≤ h ∧ h ≤ 2147483648 ∧ l * l ≤ s ∧ s < (h + 1) * (h + 1)
theorem ends_up {s l h : Int} (e : Ends s l h) (k : l < h) (m : (l + h + 1) / 2 * ((l + h + 1) / 2) ≤ s) : Ends s ((l + h + 1) / 2) h := by
  obtain ⟨a, b, c, d, f⟩ := e
  exact ⟨by omega, by omega, c, m, f⟩
theorem ends_down {s l h : Int} (e : Ends s l h) (k : l < h) (m : ¬ (l + h + 1) / 2 * ((l + h + 1) / 2) ≤ s) : Ends s l ((l + h + 1) / 2 - 1) := by
  obtain ⟨a, b, c, d, f⟩ := e
  refine ⟨a, by omega, by omega, d, ?_⟩
  rw [show (l + h + 1) / 2 - 1 + 1 = (l + h + 1) / 2 by omega]; omega
theorem ends_meet {n l h : Int} (p : 0 ≤ cut n) (e : Ends (65536 * cut n) l h) (k : ¬ l < h) : l = root n := by
  obtain ⟨a, b, c, d, f⟩ := e
  have : h = l := by omega
  subst this
  exact (root_eq p a d f).symm
theorem ends_start {s : Int} (a : 0 ≤ s) (b : s ≤ 4611686018427387904) : Ends s 0 2147483648 := ⟨by omega, by omega, by omega, by omega, by omega⟩

set_option maxHeartbeats 1000000 in
theorem root_calls (n : Int) (w : World) : Calls Try.prog 40 #[.int .i64 n] w fun e w' => e = .returned (.int .i64 (root n)) ∧ Kept w w' := by
  have a1 := cut_le n; have a2 := cut_ge n
  by_cases p : cut n ≤ 0
  · have F : root n = 0 := by
      by_cases q : cut n < 0
      · exact root_neg q
      · exact root_zero (by omega)
    have HF : Hid _ := F
    clear F
    have q : 65536 * cut n ≤ 0 := by omega
    go_enter Try.func40, Try.ntmps40
    go_wp2_with fail
    refine (cut_calls _ _).mono ?_; rintro e w1 ⟨rfl, k1⟩
    go_wp2_with fail
    go_ret
    exact ⟨ret_int HF.out.symm, k1⟩
  · have p0 : 0 < 65536 * cut n := by omega
    have p' : 0 ≤ cut n := by omega
    have hd : decide (65536 * cut n ≤ 0) = false := by simpa using p0
    go_enter Try.func40, Try.ntmps40
    go_wp2_with fail
    refine (cut_calls _ _).mono ?_; rintro e w1 ⟨rfl, k1⟩
    go_wp2_with fail
    go_loop [4, 5] (fun lo hi => ∃ l h : Int, Ends (65536 * cut n) l h ∧ lo = .int .i64 l ∧ hi = .int .i64 h) (fun lo hi => (intOf hi - intOf lo).toNat)
    case atStart => exact ⟨0, 2147483648, ends_start (by omega) (by omega), rfl, rfl⟩
    case round =>
      obtain ⟨l, h, he, rfl, rfl⟩ := hrel
      obtain ⟨h0, h1, h2, _, _⟩ := id he
      by_cases k : l < h
      · obtain ⟨m0, m1⟩ := mid_sq h0 h2 k
        by_cases m : (l + h + 1) / 2 * ((l + h + 1) / 2) ≤ 65536 * cut n
        · have up := ends_up he k m
          go_wp2
          go_round
          case rel => exact ⟨_, _, up, rfl, rfl⟩
          case measure => simp [intOf]; omega
        · have down := ends_down he k m
          go_wp2
          go_round
          case rel => exact ⟨_, _, down, rfl, rfl⟩
          case measure => simp [intOf]; omega
      · have fin := ends_meet p' he k
        have HF : Hid _ := fin
        clear fin
        go_wp2
        go_ret
        exact ⟨ret_int HF.out, k1⟩

end Go.Proofs.Ytpegjobehdihbaa
