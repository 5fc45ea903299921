/- What a region that draws its order may lean on: cells that calls keep. Plain laws on worlds, no condition but those typed. -/
import Derived.Test.YtdhbcgdlmkkdfaaGreatDoorBase
import Derived.Deep.RegionHeld
import Derived.Deep.RegionHeld3
namespace Go.Proofs.YtdhbcgdlmkkdfaaGreatDoor
open Go.ChangeShapes Go.WideShapes Go.ChangeAt Go.RowKit

theorem kept_cell {w1 w2 : World} (k : Kept w1 w2) {a : Addr} {v : Value} (h : w1.cell? a = some v) : w2.cell? a = some v := by
  rw [k.below.cell (World.block_lt_of_cell? w1 a h)]; exact h
theorem kept_frozen {w1 w2 : World} (k : Kept w1 w2) {a : Addr} {b : Bool} (h : w1.frozen? a = b) : w2.frozen? a = b := (k.grown.2.1 a).trans h
/-- What a cell holds, whichever. -/
def cellV (w : World) (a : Addr) : Value := (w.cell? a).getD undef
theorem cellV_of {w : World} {a : Addr} {v : Value} (h : w.cell? a = some v) : w.cell? a = some (cellV w a) := by unfold cellV; rw [h]; rfl
theorem kept_there {w1 w2 : World} (k : Kept w1 w2) {a : Addr} (h : w1.cell? a = some (cellV w1 a)) : w2.cell? a = some (cellV w2 a) := cellV_of (kept_cell k h)
theorem put_there {w1 : World} {p a : Addr} {v : Value} (h : w1.cell? a = some (cellV w1 a)) : (w1.setCell p v).cell? a = some (cellV (w1.setCell p v) a) := by
  obtain ⟨u, hu⟩ := cell?_setCell_some (w := w1) (p := p) (x := v) (q := a) h
  exact cellV_of hu

theorem later {w : World} {a : Addr} {v : Value} (h : w.cell? a = some v) : ∀ o, (w.alloc o).cell? a = some v := fun _ => (World.cell?_alloc_lt _ _ _ (World.block_lt_of_cell? w a h)).trans h
theorem laterF {w : World} {a : Addr} {b : Bool} (h : w.frozen? a = b) : ∀ c t, (w.alloc (.cells c t)).frozen? a = b := fun c t => (frozen?_alloc_cells w c t a).trans h
/-- A cell that was just stored into holds what was stored. -/
theorem got_set {w : World} {p : Addr} {v u : Value} (h : (w.setCell p v).cell? p = some u) : (w.setCell p v).cell? p = some v := by
  cases hw : w.cell? p with
  | some x => exact World.cell?_setCell_same w p v hw
  | none =>
    exfalso
    simp only [World.setCell, World.cell?, Array.getElem?_modify, if_true] at h hw
    cases hh : w.heap[p.block]? with
    | none => simp [hh] at h
    | some o =>
      cases o with
      | cells c e f =>
        simp only [hh, Option.map_some] at h hw
        cases hs : p.spot.isSome with
        | true => simp [hs] at h
        | false =>
          simp only [hs, Bool.false_eq_true, if_false] at h hw
          have : ¬ p.off < c.size := fun hl => by simp [Array.getElem?_eq_getElem hl] at hw
          rw [Array.getElem?_eq_none (by simp; omega)] at h
          cases h
      | _ => simp [hh] at h
theorem set3 {w : World} {b : Nat} {v0 v1 v2 u0 u1 u2 : Value}
    (h0 : (((w.setCell ⟨b, 0, none⟩ v0).setCell ⟨b, 1, none⟩ v1).setCell ⟨b, 2, none⟩ v2).cell? ⟨b, 0, none⟩ = some u0)
    (h1 : (((w.setCell ⟨b, 0, none⟩ v0).setCell ⟨b, 1, none⟩ v1).setCell ⟨b, 2, none⟩ v2).cell? ⟨b, 1, none⟩ = some u1)
    (h2 : (((w.setCell ⟨b, 0, none⟩ v0).setCell ⟨b, 1, none⟩ v1).setCell ⟨b, 2, none⟩ v2).cell? ⟨b, 2, none⟩ = some u2) :
    (((w.setCell ⟨b, 0, none⟩ v0).setCell ⟨b, 1, none⟩ v1).setCell ⟨b, 2, none⟩ v2).cell? ⟨b, 0, none⟩ = some v0 ∧
    (((w.setCell ⟨b, 0, none⟩ v0).setCell ⟨b, 1, none⟩ v1).setCell ⟨b, 2, none⟩ v2).cell? ⟨b, 1, none⟩ = some v1 ∧
    (((w.setCell ⟨b, 0, none⟩ v0).setCell ⟨b, 1, none⟩ v1).setCell ⟨b, 2, none⟩ v2).cell? ⟨b, 2, none⟩ = some v2 := by
  have n1 : ∀ i j : Nat, i ≠ j → (⟨b, i, none⟩ : Addr) ≠ ⟨b, j, none⟩ := fun i j h e => h (by injection e)
  refine ⟨?_, ?_, got_set h2⟩
  · rw [World.cell?_setCell_other _ _ _ _ (n1 2 0 (by omega)), World.cell?_setCell_other _ _ _ _ (n1 1 0 (by omega))] at h0 ⊢
    exact got_set h0
  · rw [World.cell?_setCell_other _ _ _ _ (n1 2 1 (by omega))] at h1 ⊢
    exact got_set h1

theorem set3_of {w : World} {b : Nat} {v0 v1 v2 u0 u1 u2 : Value} (h0 : w.cell? ⟨b, 0, none⟩ = some u0) (h1 : w.cell? ⟨b, 1, none⟩ = some u1) (h2 : w.cell? ⟨b, 2, none⟩ = some u2) :
    (((w.setCell ⟨b, 0, none⟩ v0).setCell ⟨b, 1, none⟩ v1).setCell ⟨b, 2, none⟩ v2).cell? ⟨b, 0, none⟩ = some v0 ∧
    (((w.setCell ⟨b, 0, none⟩ v0).setCell ⟨b, 1, none⟩ v1).setCell ⟨b, 2, none⟩ v2).cell? ⟨b, 1, none⟩ = some v1 ∧
    (((w.setCell ⟨b, 0, none⟩ v0).setCell ⟨b, 1, none⟩ v1).setCell ⟨b, 2, none⟩ v2).cell? ⟨b, 2, none⟩ = some v2 := by
  obtain ⟨_, a0⟩ := cell?_setCell_some (w := w) (p := ⟨b, 0, none⟩) (x := v0) h0
  obtain ⟨_, a1⟩ := cell?_setCell_some (w := w) (p := ⟨b, 0, none⟩) (x := v0) h1
  obtain ⟨_, a2⟩ := cell?_setCell_some (w := w) (p := ⟨b, 0, none⟩) (x := v0) h2
  obtain ⟨_, b0⟩ := cell?_setCell_some (p := ⟨b, 1, none⟩) (x := v1) a0
  obtain ⟨_, b1⟩ := cell?_setCell_some (p := ⟨b, 1, none⟩) (x := v1) a1
  obtain ⟨_, b2⟩ := cell?_setCell_some (p := ⟨b, 1, none⟩) (x := v1) a2
  obtain ⟨_, d0⟩ := cell?_setCell_some (p := ⟨b, 2, none⟩) (x := v2) b0
  obtain ⟨_, d1⟩ := cell?_setCell_some (p := ⟨b, 2, none⟩) (x := v2) b1
  obtain ⟨_, d2⟩ := cell?_setCell_some (p := ⟨b, 2, none⟩) (x := v2) b2
  exact set3 d0 d1 d2
theorem kept_set3 {w w1 : World} {b : Nat} (k : Kept w w1) (h : w.heap.size ≤ b) (v0 v1 v2 : Value) : Kept w (((w1.setCell ⟨b, 0, none⟩ v0).setCell ⟨b, 1, none⟩ v1).setCell ⟨b, 2, none⟩ v2) :=
  ((k.setCell (p := ⟨b, 0, none⟩) h v0).setCell (p := ⟨b, 1, none⟩) h v1).setCell (p := ⟨b, 2, none⟩) h v2

def Room33o (w : World) (v0 v1 v2 v3 v4 v5 : Value) (w' : World) : Prop :=
  Kept w w' ∧
  w'.cell? ⟨w.heap.size, 0, none⟩ = some v0 ∧
  w'.cell? ⟨w.heap.size, 1, none⟩ = some v1 ∧
  w'.cell? ⟨w.heap.size, 2, none⟩ = some v2 ∧
  w'.cell? ⟨w.heap.size + 1, 0, none⟩ = some v3 ∧
  w'.cell? ⟨w.heap.size + 1, 1, none⟩ = some v4 ∧
  w'.cell? ⟨w.heap.size + 1, 2, none⟩ = some v5 ∧
  w'.cell? ⟨w.heap.size + 1 + 1, 0, none⟩ = some (cellV w' ⟨w.heap.size + 1 + 1, 0, none⟩) ∧
  w'.cell? ⟨w.heap.size + 1 + 1, 1, none⟩ = some (cellV w' ⟨w.heap.size + 1 + 1, 1, none⟩) ∧
  w'.cell? ⟨w.heap.size + 1 + 1, 2, none⟩ = some (cellV w' ⟨w.heap.size + 1 + 1, 2, none⟩) ∧
  w'.frozen? ⟨w.heap.size + 1 + 1, 0, none⟩ = false ∧
  w'.frozen? ⟨w.heap.size + 1 + 1, 1, none⟩ = false ∧
  w'.frozen? ⟨w.heap.size + 1 + 1, 2, none⟩ = false
theorem Room33o.step {w w1 w2 : World} {v0 v1 v2 v3 v4 v5 : Value} (k : Kept w1 w2) (h : Room33o w v0 v1 v2 v3 v4 v5 w1) : Room33o w v0 v1 v2 v3 v4 v5 w2 := by
  obtain ⟨h0, h1, h2, h3, h4, h5, h6, h7, h8, h9, h10, h11, h12⟩ := h
  exact ⟨h0.trans k, kept_cell k h1, kept_cell k h2, kept_cell k h3, kept_cell k h4, kept_cell k h5, kept_cell k h6, kept_there k h7, kept_there k h8, kept_there k h9, kept_frozen k h10, kept_frozen k h11, kept_frozen k h12⟩
theorem Room33o.start (w : World) (v0 v1 v2 v3 v4 v5 : Value) (o0_0 o0_1 o0_2 : Value) (t0 t1 t2 : TypeId) : Room33o w v0 v1 v2 v3 v4 v5 (((w.alloc (.cells #[v0, v1, v2] t0)).alloc (.cells #[v3, v4, v5] t1)).alloc (.cells #[o0_0, o0_1, o0_2] t2)).drew := by
  refine ⟨((((Kept.refl w).alloc _ _).alloc _ _).alloc _ _).drew, ?_, ?_, ?_, ?_, ?_, ?_, cellV_of (v := o0_0) ?_, cellV_of (v := o0_1) ?_, cellV_of (v := o0_2) ?_, ?_, ?_, ?_⟩
  all_goals go_simp
theorem Room33o.put {w w1 : World} {v0 v1 v2 v3 v4 v5 : Value} (q i : Nat) (v : Value) (hq : 2 ≤ q) (h : Room33o w v0 v1 v2 v3 v4 v5 w1) : Room33o w v0 v1 v2 v3 v4 v5 (w1.setCell ⟨w.heap.size + q, i, none⟩ v) := by
  obtain ⟨h0, h1, h2, h3, h4, h5, h6, h7, h8, h9, h10, h11, h12⟩ := h
  exact ⟨h0.setCell (p := ⟨w.heap.size + q, i, none⟩) (Nat.le_add_right _ _) v, (World.cell?_setCell_far _ _ _ _ (by simp; omega)).trans h1, (World.cell?_setCell_far _ _ _ _ (by simp; omega)).trans h2, (World.cell?_setCell_far _ _ _ _ (by simp; omega)).trans h3, (World.cell?_setCell_far _ _ _ _ (by simp; omega)).trans h4, (World.cell?_setCell_far _ _ _ _ (by simp; omega)).trans h5, (World.cell?_setCell_far _ _ _ _ (by simp; omega)).trans h6, put_there h7, put_there h8, put_there h9, (World.frozen?_setCell _ _ _ _).trans h10, (World.frozen?_setCell _ _ _ _).trans h11, (World.frozen?_setCell _ _ _ _).trans h12⟩

def Room33 (w : World) (v0 v1 v2 v3 v4 v5 : Value) (w' : World) : Prop :=
  Kept w w' ∧
  w'.cell? ⟨w.heap.size, 0, none⟩ = some v0 ∧
  w'.cell? ⟨w.heap.size, 1, none⟩ = some v1 ∧
  w'.cell? ⟨w.heap.size, 2, none⟩ = some v2 ∧
  w'.cell? ⟨w.heap.size + 1, 0, none⟩ = some v3 ∧
  w'.cell? ⟨w.heap.size + 1, 1, none⟩ = some v4 ∧
  w'.cell? ⟨w.heap.size + 1, 2, none⟩ = some v5
theorem Room33.step {w w1 w2 : World} {v0 v1 v2 v3 v4 v5 : Value} (k : Kept w1 w2) (h : Room33 w v0 v1 v2 v3 v4 v5 w1) : Room33 w v0 v1 v2 v3 v4 v5 w2 := by
  obtain ⟨h0, h1, h2, h3, h4, h5, h6⟩ := h
  exact ⟨h0.trans k, kept_cell k h1, kept_cell k h2, kept_cell k h3, kept_cell k h4, kept_cell k h5, kept_cell k h6⟩
theorem Room33.start (w : World) (v0 v1 v2 v3 v4 v5 : Value) (t0 t1 : TypeId) : Room33 w v0 v1 v2 v3 v4 v5 ((w.alloc (.cells #[v0, v1, v2] t0)).alloc (.cells #[v3, v4, v5] t1)).drew := by
  refine ⟨(((Kept.refl w).alloc _ _).alloc _ _).drew, ?_, ?_, ?_, ?_, ?_, ?_⟩
  all_goals go_simp

def Room3o (w : World) (v0 v1 v2 : Value) (w' : World) : Prop :=
  Kept w w' ∧
  w'.cell? ⟨w.heap.size, 0, none⟩ = some v0 ∧
  w'.cell? ⟨w.heap.size, 1, none⟩ = some v1 ∧
  w'.cell? ⟨w.heap.size, 2, none⟩ = some v2 ∧
  w'.cell? ⟨w.heap.size + 1, 0, none⟩ = some (cellV w' ⟨w.heap.size + 1, 0, none⟩) ∧
  w'.cell? ⟨w.heap.size + 1, 1, none⟩ = some (cellV w' ⟨w.heap.size + 1, 1, none⟩) ∧
  w'.cell? ⟨w.heap.size + 1, 2, none⟩ = some (cellV w' ⟨w.heap.size + 1, 2, none⟩) ∧
  w'.frozen? ⟨w.heap.size + 1, 0, none⟩ = false ∧
  w'.frozen? ⟨w.heap.size + 1, 1, none⟩ = false ∧
  w'.frozen? ⟨w.heap.size + 1, 2, none⟩ = false
theorem Room3o.step {w w1 w2 : World} {v0 v1 v2 : Value} (k : Kept w1 w2) (h : Room3o w v0 v1 v2 w1) : Room3o w v0 v1 v2 w2 := by
  obtain ⟨h0, h1, h2, h3, h4, h5, h6, h7, h8, h9⟩ := h
  exact ⟨h0.trans k, kept_cell k h1, kept_cell k h2, kept_cell k h3, kept_there k h4, kept_there k h5, kept_there k h6, kept_frozen k h7, kept_frozen k h8, kept_frozen k h9⟩
theorem Room3o.start (w : World) (v0 v1 v2 : Value) (o0_0 o0_1 o0_2 : Value) (t0 t1 : TypeId) : Room3o w v0 v1 v2 ((w.alloc (.cells #[v0, v1, v2] t0)).alloc (.cells #[o0_0, o0_1, o0_2] t1)).drew := by
  refine ⟨(((Kept.refl w).alloc _ _).alloc _ _).drew, ?_, ?_, ?_, cellV_of (v := o0_0) ?_, cellV_of (v := o0_1) ?_, cellV_of (v := o0_2) ?_, ?_, ?_, ?_⟩
  all_goals go_simp
theorem Room3o.put {w w1 : World} {v0 v1 v2 : Value} (q i : Nat) (v : Value) (hq : 1 ≤ q) (h : Room3o w v0 v1 v2 w1) : Room3o w v0 v1 v2 (w1.setCell ⟨w.heap.size + q, i, none⟩ v) := by
  obtain ⟨h0, h1, h2, h3, h4, h5, h6, h7, h8, h9⟩ := h
  exact ⟨h0.setCell (p := ⟨w.heap.size + q, i, none⟩) (Nat.le_add_right _ _) v, (World.cell?_setCell_far _ _ _ _ (by simp; omega)).trans h1, (World.cell?_setCell_far _ _ _ _ (by simp; omega)).trans h2, (World.cell?_setCell_far _ _ _ _ (by simp; omega)).trans h3, put_there h4, put_there h5, put_there h6, (World.frozen?_setCell _ _ _ _).trans h7, (World.frozen?_setCell _ _ _ _).trans h8, (World.frozen?_setCell _ _ _ _).trans h9⟩

/-! A take of a region's walk in few words: the library's own, its side conditions found by tactics. -/
section
variable {P : Program} {ops : Array Oper} {Q : Exit → Act → World → Prop} {md : Region.Mode} {S : World → Prop}
theorem tkW {v : Value} {oi : Oper} {fuel : Nat} {listed : Array Bool} {a : Act} {w : World} (i : Nat) (hi : ops[i]? = some oi)
    (h : wpAnyH P md ops Q S fuel (listed.setIfInBounds i true) (a.put oi.dst v) w)
    (hy : ∀ w'', S w'' → (execOp a.eval oi).run P w'' = .ok (.value v) w'' := by intro w'' hSw; (try dsimp only at hSw); simp only [List.getElem_toArray, List.getElem_cons_succ, List.getElem_cons_zero]; (go_simp <;> with_reducible rfl))
    (hs : Region.noSelect ops = true := by kernel_rfl) (hf : Region.free md ops listed i = true := by kernel_rfl) (hr : (Region.ready md ops listed).contains i = true := by kernel_rfl)
    (hQ : ∀ c a w, Q (.panic c) (a.put oi.dst v) w → Q (.panic c) a w := by exact fun _ _ _ h => h) (hwt : Region.wanted oi (yielded ops a.tmps) = true := by kernel_rfl) (hS : S w := by assumption) : wpAnyH P md ops Q S (fuel + 1) listed a w :=
  wpAnyH_take hi hs hf hr hQ (Or.inl ⟨hwt, hy⟩) hS h
/-- An operation whose guard is false. -/
theorem skW {oi : Oper} {fuel : Nat} {listed : Array Bool} {a : Act} {w : World} (i : Nat) (hi : ops[i]? = some oi)
    (h : wpAnyH P md ops Q S fuel (listed.setIfInBounds i true) (a.put oi.dst undef) w)
    (hs : Region.noSelect ops = true := by kernel_rfl) (hf : Region.free md ops listed i = true := by kernel_rfl) (hr : (Region.ready md ops listed).contains i = true := by kernel_rfl)
    (hQ : ∀ c a w, Q (.panic c) (a.put oi.dst undef) w → Q (.panic c) a w := by exact fun _ _ _ h => h) (hwt : Region.wanted oi (yielded ops a.tmps) = false := by kernel_rfl) (hS : S w := by assumption) : wpAnyH P md ops Q S (fuel + 1) listed a w :=
  wpAnyH_take hi hs hf hr hQ (Or.inr ⟨hwt, rfl⟩) hS h
end
end Go.Proofs.YtdhbcgdlmkkdfaaGreatDoor
