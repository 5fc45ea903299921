/- Bodies as they lie in memory; gyrelaw.alone, gyrelaw.sameBodies: whatever the bodies. -/
import Derived.Test.YtbfkloclmlnahaaBr1
import Derived.Test.YtbfkloclmlnahaaVec6
import Derived.Deep.LoopGhost
namespace Go.Proofs.Ytbfkloclmlnahaa
open Go.ChangeShapes Go.WideShapes Go.ChangeAt Go.RowKit
set_option linter.unusedVariables false
set_option linter.unusedSimpArgs false

structure Bd where
  (id ow kd sx sy sz ax ay az vx vy vz px py pz ms tm : Int)
def bd0 : Bd := ⟨0, 0, 0, 0, 0, 0, 0, 0, 0, 0, 0, 0, 0, 0, 0, 0, 0⟩
def bdV (b : Bd) : Value := .agg #[.int .i64 (b.id), .int .i64 (b.ow), .int .i64 (b.kd), .int .i64 (b.sx), .int .i64 (b.sy), .int .i64 (b.sz), .int .i64 (b.ax), .int .i64 (b.ay), .int .i64 (b.az), .int .i64 (b.vx), .int .i64 (b.vy), .int .i64 (b.vz), .int .i64 (b.px), .int .i64 (b.py), .int .i64 (b.pz), .int .i64 (b.ms), .int .i64 (b.tm)]
/-- A body's cells, one by one. -/
def bc (b : Bd) : Nat → Value
  | 0 => .int .i64 (b.id)
  | 1 => .int .i64 (b.ow)
  | 2 => .int .i64 (b.kd)
  | 3 => .int .i64 (b.sx)
  | 4 => .int .i64 (b.sy)
  | 5 => .int .i64 (b.sz)
  | 6 => .int .i64 (b.ax)
  | 7 => .int .i64 (b.ay)
  | 8 => .int .i64 (b.az)
  | 9 => .int .i64 (b.vx)
  | 10 => .int .i64 (b.vy)
  | 11 => .int .i64 (b.vz)
  | 12 => .int .i64 (b.px)
  | 13 => .int .i64 (b.py)
  | 14 => .int .i64 (b.pz)
  | 15 => .int .i64 (b.ms)
  | _ => .int .i64 (b.tm)
/-- The bodies of a slice. -/
def BodiesAt (w : World) (a : Option Addr) (n : Nat) (B : Nat → Bd) : Prop := ∀ j, j < n → ∃ g o, a = some ⟨g, o, none⟩ ∧ ∀ k, k < 17 → w.cell? ⟨g, o + j * 17 + k, none⟩ = some (bc (B j) k)
theorem cell_only {D : List Nat} {w w' : World} (o : Only D w w') {a : Addr} {v : Value} (h : w.cell? a = some v) (s : a.block ∉ D) : w'.cell? a = some v := by
  rw [World.cell?_of_block (w := w) (o.block a.block (World.block_lt_of_cell? w a h) s)]; exact h
theorem cell_old1 {w w' : World} (o : Only [] w w') {a : Addr} {v : Value} (h : w.cell? a = some v) : w'.cell? a = some v := cell_only o h (by simp)
theorem BodiesAt.only {w w' : World} {a : Option Addr} {n : Nat} {B : Nat → Bd} (h : BodiesAt w a n B) (o : Only [] w w') : BodiesAt w' a n B := by
  intro j hj
  obtain ⟨g, f, e, hc⟩ := h j hj
  exact ⟨g, f, e, fun k hk => cell_old1 o (hc k hk)⟩
/-- Two of a slice lie in one block. -/
theorem BodiesAt.two {w : World} {a : Option Addr} {n : Nat} {B : Nat → Bd} (h : BodiesAt w a n B) {i j : Nat} (hi : i < n) (hj : j < n) : ∃ g o, a = some ⟨g, o, none⟩ ∧ (∀ k, k < 17 → w.cell? ⟨g, o + i * 17 + k, none⟩ = some (bc (B i) k)) ∧ (∀ k, k < 17 → w.cell? ⟨g, o + j * 17 + k, none⟩ = some (bc (B j) k)) := by
  obtain ⟨g, o, e, c1⟩ := h i hi
  obtain ⟨g', o', e', c2⟩ := h j hj
  rw [e] at e'
  injection e' with e'; injection e' with e1 e2
  subst e1; subst e2
  exact ⟨g, o, e, c1, c2⟩
/-- No two have one number. -/
def Alone (n : Nat) (B : Nat → Bd) : Prop := ∀ i k, i < n → k < n → (B i).id = (B k).id → i = k
def AlonePost (n : Nat) (B : Nat → Bd) (w : World) (e : Ending) (w' : World) : Prop := ∃ v, e = .returned (.bool v) ∧ (v = true → Alone n B) ∧ Only [] w w'
set_option maxRecDepth 100000 in
theorem alone_calls (a : Option Addr) (n c : Nat) (B : Nat → Bd) (w : World) (hn : n ≤ 30) (h : BodiesAt w a n B) :
    Calls Try.prog 65 #[.slice a n c] w (AlonePost n B w) := by
  have HB : Hid (BodiesAt w a n B ∧ n ≤ 30) := ⟨h, hn⟩
  clear h hn
  go_enter Try.func65, Try.ntmps65
  go_wp2_with fail
  go_loopg [3] n (fun k idx wr => ∃ i : Nat, idx = .int .i64 (i : Int) ∧ Hid (i ≤ n ∧ k = n - i ∧ (∀ x y, x < i → y < x → (B x).id ≠ (B y).id)) ∧ Hid (Only [] w wr))
  case atStart => exact ⟨0, rfl, ⟨by omega, rfl, fun x y hx => by omega⟩, Only.refl _ _⟩
  case round =>
    obtain ⟨i, rfl, H1, HO⟩ := hrel
    have hn := HB.out.2
    by_cases hi : i < n
    · have hil : (i : Int) < (n : Int) := by omega
      go_wp2_with fail
      go_loopg [4] i (fun k idx wr => ∃ j : Nat, idx = .int .i64 (j : Int) ∧ Hid (j ≤ i ∧ k = i - j ∧ (∀ y, y < j → (B i).id ≠ (B y).id)) ∧ Hid (Only [] w wr))
      case atStart => exact ⟨0, rfl, ⟨by omega, rfl, fun y hy => by omega⟩, HO.out⟩
      case round =>
        clear HO
        obtain ⟨j, rfl, H2, HO⟩ := hrel
        by_cases hj : j < i
        · have hjl : (j : Int) < (i : Int) := by omega
          have hjn : (j : Int) < (n : Int) := by omega
          obtain ⟨g, o, rfl, c1, c2⟩ := (HB.out.1.only HO.out).two hi (show j < n by omega)
          have d1 := c1 0 (by omega)
          have d2 := c2 0 (by omega)
          simp only [bc, Nat.add_zero] at d1 d2
          clear c1 c2
          by_cases he : (B i).id = (B j).id
          · have t : ((B i).id == (B j).id) = true := by simpa using he
            clear he
            go_wp2_with fail
            go_quiet (fail)
            go_wp2_with fail
            go_ret
            exact ⟨false, rfl, by simp, HO.out.trans (Only.drewN _ _)⟩
          · have t : ((B i).id == (B j).id) = false := by simpa using he
            have HE : Hid (¬ (B i).id = (B j).id) := he
            clear he
            go_wp2_with fail
            go_quiet (fail)
            go_wp2_with fail
            go_roundg (i - (j + 1))
            case measure => have := H2.out.2.1; omega
            case rel =>
              refine ⟨j + 1, by go_num, ⟨by omega, rfl, fun y hy => ?_⟩, HO.out.trans (Only.drewN _ _)⟩
              by_cases e : y = j
              · subst e; exact HE.out
              · exact H2.out.2.2 y (by omega)
        · have hjl : ¬ (j : Int) < (i : Int) := by omega
          go_wp2_with fail
          go_roundg (n - (i + 1))
          case measure => have := H1.out.2.1; omega
          case rel =>
            refine ⟨i + 1, by go_num, ⟨by omega, rfl, fun x y hx hy => ?_⟩, HO.out⟩
            by_cases e : x = i
            · subst e; exact H2.out.2.2 y (by have := H2.out.1; omega)
            · exact H1.out.2.2 x y (by omega) hy
    · have hil : ¬ (i : Int) < (n : Int) := by omega
      go_wp2_with fail
      go_ret
      refine ⟨true, rfl, fun _ x y hx hy e => ?_, HO.out⟩
      have h1 := H1.out.1
      rcases Nat.lt_trichotomy x y with q | q | q
      · exact absurd e.symm (H1.out.2.2 y x (by omega) q)
      · exact q
      · exact absurd e (H1.out.2.2 x y (by omega) q)
set_option maxRecDepth 100000 in
theorem sameBodies_calls (a b : Option Addr) (n c d : Nat) (B : Nat → Bd) (w : World) (hn : n ≤ 30) (h : BodiesAt w a n B) (h' : BodiesAt w b n B) :
    Calls Try.prog 68 #[.slice a n c, .slice b n d] w fun e w' => e = .returned (.bool true) ∧ Only [] w w' := by
  have HB : Hid (BodiesAt w a n B ∧ BodiesAt w b n B ∧ n ≤ 30) := ⟨h, h', hn⟩
  clear h h' hn
  go_enter Try.func68, Try.ntmps68
  go_wp2_with fail
  go_loopg [5] n (fun k idx wr => ∃ i : Nat, idx = .int .i64 (i : Int) ∧ Hid (i ≤ n ∧ k = n - i) ∧ Hid (Only [] w wr))
  case atStart => exact ⟨0, rfl, ⟨by omega, rfl⟩, Only.refl _ _⟩
  case round =>
    obtain ⟨i, rfl, H1, HO⟩ := hrel
    have hn := HB.out.2.2
    by_cases hi : i < n
    · have hil : (i : Int) < (n : Int) := by omega
      obtain ⟨g, o, rfl, c1⟩ := (HB.out.1.only HO.out) i hi
      obtain ⟨g', o', rfl, c2⟩ := (HB.out.2.1.only HO.out) i hi
      generalize hb : B i = q at c1 c2
      clear hb
      have d0 := c1 0 (by omega); have e0 := c2 0 (by omega)
      have d1 := c1 1 (by omega); have e1 := c2 1 (by omega)
      have d2 := c1 2 (by omega); have e2 := c2 2 (by omega)
      have d3 := c1 3 (by omega); have e3 := c2 3 (by omega)
      have d4 := c1 4 (by omega); have e4 := c2 4 (by omega)
      have d5 := c1 5 (by omega); have e5 := c2 5 (by omega)
      have d6 := c1 6 (by omega); have e6 := c2 6 (by omega)
      have d7 := c1 7 (by omega); have e7 := c2 7 (by omega)
      have d8 := c1 8 (by omega); have e8 := c2 8 (by omega)
      have d9 := c1 9 (by omega); have e9 := c2 9 (by omega)
      have d10 := c1 10 (by omega); have e10 := c2 10 (by omega)
      have d11 := c1 11 (by omega); have e11 := c2 11 (by omega)
      have d12 := c1 12 (by omega); have e12 := c2 12 (by omega)
      have d13 := c1 13 (by omega); have e13 := c2 13 (by omega)
      have d14 := c1 14 (by omega); have e14 := c2 14 (by omega)
      have d15 := c1 15 (by omega); have e15 := c2 15 (by omega)
      have d16 := c1 16 (by omega); have e16 := c2 16 (by omega)
      simp only [bc, Nat.add_zero] at d0 e0 d1 e1 d2 e2 d3 e3 d4 e4 d5 e5 d6 e6 d7 e7 d8 e8 d9 e9 d10 e10 d11 e11 d12 e12 d13 e13 d14 e14 d15 e15 d16 e16
      clear c1 c2
      go_wp2_with fail
      go_quiet (fail)
      go_wp2_with fail
      go_roundg (n - (i + 1))
      case measure => have := H1.out.2; omega
      case rel => exact ⟨i + 1, by go_num, ⟨by omega, rfl⟩, HO.out.trans (Only.drewN _ _)⟩
    · have hil : ¬ (i : Int) < (n : Int) := by omega
      go_wp2_with fail
      go_ret
      exact ⟨rfl, HO.out⟩
end Go.Proofs.Ytbfkloclmlnahaa
