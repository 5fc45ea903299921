/- geom.each answers, part by part, what it is handed: whatever that is. -/
import Derived.Test.YtdhbcgdlmkkdfaaGreatDoorGeo1
namespace Go.Proofs.YtdhbcgdlmkkdfaaGreatDoor
open Go.ChangeShapes Go.WideShapes Go.ChangeAt Go.RowKit

def G3o (w : World) (b0 b1 : Nat) (v0 v1 v2 : Value) (w' : World) : Prop :=
  Kept w w' ∧
  w'.cell? ⟨b0, 0, none⟩ = some v0 ∧
  w'.cell? ⟨b0, 1, none⟩ = some v1 ∧
  w'.cell? ⟨b0, 2, none⟩ = some v2 ∧
  w'.cell? ⟨b1, 0, none⟩ = some (cellV w' ⟨b1, 0, none⟩) ∧
  w'.cell? ⟨b1, 1, none⟩ = some (cellV w' ⟨b1, 1, none⟩) ∧
  w'.cell? ⟨b1, 2, none⟩ = some (cellV w' ⟨b1, 2, none⟩) ∧
  w'.frozen? ⟨b1, 0, none⟩ = false ∧
  w'.frozen? ⟨b1, 1, none⟩ = false ∧
  w'.frozen? ⟨b1, 2, none⟩ = false
theorem G3o.step {w w1 w2 : World} {b0 b1 : Nat} {v0 v1 v2 : Value} (k : Kept w1 w2) (h : G3o w b0 b1 v0 v1 v2 w1) : G3o w b0 b1 v0 v1 v2 w2 := by
  obtain ⟨h0, h1, h2, h3, h4, h5, h6, h7, h8, h9⟩ := h
  exact ⟨h0.trans k, kept_cell k h1, kept_cell k h2, kept_cell k h3, kept_there k h4, kept_there k h5, kept_there k h6, kept_frozen k h7, kept_frozen k h8, kept_frozen k h9⟩
theorem G3o.drew {w w1 : World} {b0 b1 : Nat} {v0 v1 v2 : Value} (h : G3o w b0 b1 v0 v1 v2 w1) : G3o w b0 b1 v0 v1 v2 w1.drew := h.step (Kept.refl _).drew
theorem G3o.put {w w1 : World} {b0 b1 : Nat} {v0 v1 v2 : Value} (i : Nat) (v : Value) (ho : w.heap.size ≤ b1) (n0 : b0 ≠ b1) (h : G3o w b0 b1 v0 v1 v2 w1) : G3o w b0 b1 v0 v1 v2 (w1.setCell ⟨b1, i, none⟩ v) := by
  obtain ⟨h0, h1, h2, h3, h4, h5, h6, h7, h8, h9⟩ := h
  exact ⟨h0.setCell (p := ⟨b1, i, none⟩) ho v, (World.cell?_setCell_other _ _ _ _ (fun e => n0 (by injection e with e; exact e.symm))).trans h1, (World.cell?_setCell_other _ _ _ _ (fun e => n0 (by injection e with e; exact e.symm))).trans h2, (World.cell?_setCell_other _ _ _ _ (fun e => n0 (by injection e with e; exact e.symm))).trans h3, put_there h4, put_there h5, put_there h6, (World.frozen?_setCell _ _ _ _).trans h7, (World.frozen?_setCell _ _ _ _).trans h8, (World.frozen?_setCell _ _ _ _).trans h9⟩

set_option maxHeartbeats 4000000 in
theorem geach_calls (fn : Nat) (cap : Array Value) (r0 r1 r2 : Int) (he : ∀ args w, (callFunc fn args).run Tryz.prog w = .ok (.enter fn args) w)
    (Pre : World → Prop) (hs : Hid (∀ w w', Kept w w' → Pre w → Pre w'))
    (h0 : Ans fn (#[.func (.func 88) #[] #[]] ++ cap) Pre (.int .i64 r0)) (h1 : Ans fn (#[.func (.func 89) #[] #[]] ++ cap) Pre (.int .i64 r1)) (h2 : Ans fn (#[.func (.func 90) #[] #[]] ++ cap) Pre (.int .i64 r2))
    (w : World) (hp : Pre w) : Calls Tryz.prog 91 #[.func (.func fn) #[] cap] w fun e w' => e = .returned (.agg #[.int .i64 r0, .int .i64 r1, .int .i64 r2]) ∧ Kept w w' := by
  go_enter Tryz.func91, Tryz.ntmps91
  go_wp2_with fail
  refine (parts_calls _).mono ?_; rintro e w1 ⟨rfl, k1⟩
  go_wp2_with fail
  have hlt : w.heap.size < w1.heap.size := by have := k1.below.size; simp at this; omega
  have hn : w1.heap.size ≠ w.heap.size := by omega
  have HR : G3o w w1.heap.size w.heap.size (.func (.func 88) #[] #[]) (.func (.func 89) #[] #[]) (.func (.func 90) #[] #[]) (w1.alloc (.cells #[.func (.func 88) #[] #[], .func (.func 89) #[] #[], .func (.func 90) #[] #[]] 124)) := by
    refine ⟨(((Kept.refl w).alloc _ _).trans k1).alloc _ _, ?_, ?_, ?_, cellV_of (later (kept_cell k1 (v := .int .i64 0) ?_) _), cellV_of (later (kept_cell k1 (v := .int .i64 0) ?_) _), cellV_of (later (kept_cell k1 (v := .int .i64 0) ?_) _), laterF (kept_frozen k1 ?_) _ _, laterF (kept_frozen k1 ?_) _ _, laterF (kept_frozen k1 ?_) _ _⟩
    all_goals go_simp
  have HP : Hid (Pre w) := hp
  clear hp k1
  go_region_held3 (fun w' => Kept w w' ∧ w'.cell? ⟨w1.heap.size, 0, none⟩ = some (.func (.func 88) #[] #[]) ∧ w'.cell? ⟨w1.heap.size, 1, none⟩ = some (.func (.func 89) #[] #[]) ∧ w'.cell? ⟨w1.heap.size, 2, none⟩ = some (.func (.func 90) #[] #[]) ∧ w'.cell? ⟨w.heap.size, 0, none⟩ = some (cellV w' ⟨w.heap.size, 0, none⟩) ∧ w'.cell? ⟨w.heap.size, 1, none⟩ = some (cellV w' ⟨w.heap.size, 1, none⟩) ∧ w'.cell? ⟨w.heap.size, 2, none⟩ = some (cellV w' ⟨w.heap.size, 2, none⟩) ∧ w'.frozen? ⟨w.heap.size, 0, none⟩ = false ∧ w'.frozen? ⟨w.heap.size, 1, none⟩ = false ∧ w'.frozen? ⟨w.heap.size, 2, none⟩ = false)
    (first | (refine G3o.step k ?_; assumption) | exact G3o.drew HR | (refine G3o.put 2 _ (Nat.le_refl _) hn (G3o.put 1 _ (Nat.le_refl _) hn (G3o.put 0 _ (Nat.le_refl _) hn ?_)); assumption))
    (first | (go_at_fn fn; refine (h0 _ (hs.out _ _ (And.left (by assumption)) HP.out)).mono ?_; rintro e w' ⟨rfl, k⟩) | (go_at_fn fn; refine (h1 _ (hs.out _ _ (And.left (by assumption)) HP.out)).mono ?_; rintro e w' ⟨rfl, k⟩) | (go_at_fn fn; refine (h2 _ (hs.out _ _ (And.left (by assumption)) HP.out)).mono ?_; rintro e w' ⟨rfl, k⟩))
  rename_i hh
  go_wp2
  obtain ⟨hk, _, _, _, c0, c1, c2, _⟩ := hh
  obtain ⟨e0, e1, e2⟩ := set3 c0 c1 c2
  clear c0 c1 c2
  exact bodyPost_ret (v := .agg #[.int .i64 r0, .int .i64 r1, .int .i64 r2]) (by simp [results, Tryz.results91, go_sem, e0, e1, e2]) rfl ⟨rfl, hk⟩
end Go.Proofs.YtdhbcgdlmkkdfaaGreatDoor
