/- Seen bodies as they lie in memory; gyrelaw.sameView of two views that are the same: whatever they are. -/
import Derived.Test.YtedhdmahdioboaaHeld
import Derived.Deep.LoopGhost
import Derived.Deep.QuietTactic
import Derived.BigQuiet
namespace Go.Proofs.Ytedhdmahdioboaa
open Go.ChangeShapes Go.WideShapes Go.ChangeAt Go.RowKit
set_option linter.unusedVariables false
set_option linter.unusedSimpArgs false

structure Sn where
  (id kd sx sy sz ax ay az vx vy vz : Int)
/-- The cells of one, one by one. -/
def sc (b : Sn) : Nat → Value
  | 0 => .int .i64 (b.id)
  | 1 => .int .i64 (b.kd)
  | 2 => .int .i64 (b.sx)
  | 3 => .int .i64 (b.sy)
  | 4 => .int .i64 (b.sz)
  | 5 => .int .i64 (b.ax)
  | 6 => .int .i64 (b.ay)
  | 7 => .int .i64 (b.az)
  | 8 => .int .i64 (b.vx)
  | 9 => .int .i64 (b.vy)
  | _ => .int .i64 (b.vz)
/-- The seen ones of a slice. -/
def SeenAt (w : World) (a : Option Addr) (n : Nat) (V : Nat → Sn) : Prop := ∀ j, j < n → ∃ g o, a = some ⟨g, o, none⟩ ∧ ∀ k, k < 11 → w.cell? ⟨g, o + j * 11 + k, none⟩ = some (sc (V j) k)
theorem SeenAt.kept {w w' : World} {a : Option Addr} {n : Nat} {V : Nat → Sn} (h : SeenAt w a n V) (k : Kept w w') : SeenAt w' a n V := by
  intro j hj
  obtain ⟨g, f, e, hc⟩ := h j hj
  exact ⟨g, f, e, fun i hi => kept_cell k (hc i hi)⟩
theorem keptN (w : World) (n : Nat) : Kept w (w.drewN n) := by
  induction n with
  | zero => exact Kept.refl _
  | succ n ih => exact ih.drew
set_option maxRecDepth 100000 in
set_option maxHeartbeats 8000000 in
theorem sameView_calls (a b : Option Addr) (n c d : Nat) (V : Nat → Sn) (w : World) (hn : n ≤ 1000) (h : SeenAt w a n V) (h' : SeenAt w b n V) :
    Calls Try.prog 22 #[.slice a n c, .slice b n d] w fun e w' => e = .returned (.bool true) ∧ Kept w w' := by
  have HB : Hid (SeenAt w a n V ∧ SeenAt w b n V ∧ n ≤ 1000) := ⟨h, h', hn⟩
  clear h h' hn
  go_enter Try.func22, Try.ntmps22
  go_wp2_with fail
  go_loopg [5] n (fun k idx wr => ∃ i : Nat, idx = .int .i64 (i : Int) ∧ Hid (i ≤ n ∧ k = n - i) ∧ Hid (Kept w wr))
  case atStart => exact ⟨0, rfl, ⟨by omega, rfl⟩, Kept.refl _⟩
  case round =>
    obtain ⟨i, rfl, H1, HO⟩ := hrel
    have hn := HB.out.2.2
    by_cases hi : i < n
    · have hil : (i : Int) < (n : Int) := by omega
      obtain ⟨g, o, rfl, c1⟩ := (HB.out.1.kept HO.out) i hi
      obtain ⟨g', o', rfl, c2⟩ := (HB.out.2.1.kept HO.out) i hi
      generalize hb : V i = q at c1 c2
      clear hb
      have d0 := c1 0 (by omega); have e0 := c2 0 (by omega)
      have d1 := c1 1 (by omega); have e1 := c2 1 (by omega)
      have d2 := c1 2 (by omega); have e2 := c2 2 (by omega)
      have d3 := c1 3 (by omega); have e3 := c2 3 (by omega)
      have d4 := c1 4 (by omega); have e4 := c2 4 (by omega)
      have d5 := c1 5 (by omega); have e5 := c2 5 (by omega)
      have d6 := c1 6 (by omega); have e6 := c2 6 (by omega)
      have d7 := c1 7 (by omega); have e7 := c2 7 (by omega)
      have d8 := c1 8 (by omega); have e8 := c2 8 (by omega)
      have d9 := c1 9 (by omega); have e9 := c2 9 (by omega)
      have d10 := c1 10 (by omega); have e10 := c2 10 (by omega)
      simp only [sc, Nat.add_zero] at d0 e0 d1 e1 d2 e2 d3 e3 d4 e4 d5 e5 d6 e6 d7 e7 d8 e8 d9 e9 d10 e10
      clear c1 c2
      go_wp2_with fail
      go_quiet (fail)
      go_wp2_with fail
      go_roundg (n - (i + 1))
      case measure => have := H1.out.2; omega
      case rel => exact ⟨i + 1, by go_num, ⟨by omega, rfl⟩, HO.out.trans (keptN _ _)⟩
    · have hil : ¬ (i : Int) < (n : Int) := by omega
      go_wp2_with fail
      go_ret
      exact ⟨rfl, HO.out⟩
end Go.Proofs.Ytedhdmahdioboaa
