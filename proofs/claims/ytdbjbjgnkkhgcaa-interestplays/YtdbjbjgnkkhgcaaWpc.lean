/- gyrelaw.sameInts: of one list twice. -/
import Derived.Test.YtdbjbjgnkkhgcaaSli
namespace Go.Proofs.Ytdbjbjgnkkhgcaa
open Go.ChangeShapes Go.WideShapes Go.ChangeAt Go.RowKit
set_option linter.unusedVariables false
set_option linter.unusedSimpArgs false

/-- Numbers in memory. -/
def IntsAt (w : World) (a : Option Addr) (xs : List Int) : Prop := ∀ j (hj : j < xs.length), ∃ g, a = some ⟨g, 0, none⟩ ∧ w.cell? ⟨g, j, none⟩ = some (.int .i64 (xs[j]))
theorem IntsAt.only {w w' : World} {a : Option Addr} {xs : List Int} (h : IntsAt w a xs) (o : Only [] w w') : IntsAt w' a xs := fun j hj => by
  obtain ⟨g, e, hc⟩ := h j hj
  exact ⟨g, e, by rw [World.cell?_of_block (w := w) (o.block g (World.block_lt_of_cell? w ⟨g, j, none⟩ hc) (by simp))]; exact hc⟩
set_option maxRecDepth 100000 in
theorem sameInts_calls (a b : Option Addr) (c d : Nat) (xs : List Int) (n : Nat) (w : World) (hx : xs.length = n) (hn : n ≤ 1000000) (h : IntsAt w a xs) (h' : IntsAt w b xs) :
    Calls Try.prog 10 #[.slice a n c, .slice b n d] w fun e w' => e = .returned (.bool true) ∧ Only [] w w' := by
  have HB : Hid (IntsAt w a xs ∧ IntsAt w b xs ∧ n ≤ 1000000 ∧ xs.length = n) := ⟨h, h', hn, hx⟩
  clear h h' hn hx
  go_enter Try.func10, Try.ntmps10
  go_wp2_with fail
  go_loopg [5] n (fun k idx wr => ∃ i : Nat, idx = .int .i64 (i : Int) ∧ Hid (i ≤ n ∧ k = n - i) ∧ Hid (Only [] w wr))
  case atStart => exact ⟨0, rfl, ⟨by omega, rfl⟩, Only.refl _ _⟩
  case round =>
    obtain ⟨i, rfl, H1, HO⟩ := hrel
    have hn := HB.out.2.2.1
    by_cases hi : i < n
    · have hil : (i : Int) < (n : Int) := by omega
      have hix : i < xs.length := by have := HB.out.2.2.2; omega
      obtain ⟨g, rfl, c1⟩ := (HB.out.1.only HO.out) i hix
      obtain ⟨g', rfl, c2⟩ := (HB.out.2.1.only HO.out) i hix
      generalize xs[i] = y at c1 c2
      go_wp2_with fail
      go_quiet (fail)
      go_wp2_with fail
      go_roundg (n - (i + 1))
      case measure => have := H1.out.2; omega
      case rel => exact ⟨i + 1, by go_num, ⟨by omega, rfl⟩, HO.out.trans (Only.drewN _ _)⟩
    · have hil : ¬ (i : Int) < (n : Int) := by omega
      go_wp2_with fail
      go_ret
      exact ⟨rfl, HO.out⟩
end Go.Proofs.Ytdbjbjgnkkhgcaa
