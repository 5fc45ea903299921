/- . -/
import Derived.Test.YtbenlgandjjopaaGreatDoorN0
import Derived.Deep.RegionHeld
import Derived.Deep.RegionHeld3
import Derived.Shelf.Abstract
open Go.World renaming cell?_setCell_other → zra,frozen?_setCell → zrb
namespace Go.Proofs.YtbenlgandjjopaaGreatDoor
open Go.ChangeShapes Go.WideShapes Go.ChangeAt Go.RowKit
variable {w w1 w2 : World} {a p : Addr} {v0 v1 v2 v v3 v4 v5 u0 u1 u2 : Value} {b fuel : Nat} {listed : Array Bool} {oi : Oper}
theorem y00 (k : Kept w1 w2) (h : w1.cell? a = some v) : w2.cell? a = some v := by
 rw [k.below.cell (World.block_lt_of_cell? w1 a h)]; exact h
theorem y01 (k : Kept w1 w2) {b : Bool} (h : w1.frozen? a = b) : w2.frozen? a = b := (k.grown.2.1 a).trans h
def cellV (w : World) (a : Addr) : Value := (w.cell? a).getD undef
theorem y02 (h : w.cell? a = some v) : w.cell? a = some (cellV w a) := by unfold cellV; rw [h]; rfl
theorem y06 (k : Kept w1 w2) (h : w1.cell? a = some (cellV w1 a)) : w2.cell? a = some (cellV w2 a) := y02 (y00 k h)
theorem y04 (h : w1.cell? a = some (cellV w1 a)) : (w1.setCell p v).cell? a = some (cellV (w1.setCell p v) a) := by
 obtain ⟨u,hu⟩ := cell?_setCell_some (w := w1) (p := p) (x := v) (q := a) h;exact y02 hu
theorem later (h : w.cell? a = some v) : ∀ o,(w.alloc o).cell? a = some v := fun _ => (World.cell?_alloc_lt _ _ _ (World.block_lt_of_cell? w a h)).trans h
theorem laterF {b : Bool} (h : w.frozen? a = b) : ∀ c t,(w.alloc (.cells c t)).frozen? a = b := fun c t => (frozen?_alloc_cells w c t a).trans h
theorem yes {u : Value} (h : (w.setCell p v).cell? p = some u) : (w.setCell p v).cell? p = some v := by
 cases hw : w.cell? p with
 | some x => exact World.cell?_setCell_same w p v hw
 | none =>
  exfalso;simp only [World.setCell,World.cell?,Array.getElem?_modify,if_true] at h hw
  cases hh : w.heap[p.block]? with
  | none => simp [hh] at h
  | some o =>
   cases o with
   | cells c e f =>
    simp only [hh,Option.map_some] at h hw
    cases hs : p.spot.isSome with
    | true => simp [hs] at h
    | false =>
     simp only [hs,Bool.false_eq_true,if_false] at h hw;have : ¬ p.off < c.size := fun hl => by simp [Array.getElem?_eq_getElem hl] at hw
     rw [Array.getElem?_eq_none (by simp; omega)] at h;cases h
   | _ => simp [hh] at h
theorem set3
  (h0 : (((w.setCell (Y b 0) v0).setCell (Y b 1) v1).setCell (Y b 2) v2).cell? (Y b 0) = some u0)
  (h1 : (((w.setCell (Y b 0) v0).setCell (Y b 1) v1).setCell (Y b 2) v2).cell? (Y b 1) = some u1)
  (h2 : (((w.setCell (Y b 0) v0).setCell (Y b 1) v1).setCell (Y b 2) v2).cell? (Y b 2) = some u2) :
  (((w.setCell (Y b 0) v0).setCell (Y b 1) v1).setCell (Y b 2) v2).cell? (Y b 0) = some v0 ∧
  (((w.setCell (Y b 0) v0).setCell (Y b 1) v1).setCell (Y b 2) v2).cell? (Y b 1) = some v1 ∧
  (((w.setCell (Y b 0) v0).setCell (Y b 1) v1).setCell (Y b 2) v2).cell? (Y b 2) = some v2 := by
 have n1 : ∀ i j : Nat,i ≠ j → (Y b i) ≠ (Y b j) := fun i j h e => h (by injection e);refine ⟨?_,?_,yes h2⟩
 ·rw [zra _ _ _ _ (n1 2 0 (by omega)),zra _ _ _ _ (n1 1 0 (by omega))] at h0 ⊢
  exact yes h0
 ·rw [zra _ _ _ _ (n1 2 1 (by omega))] at h1 ⊢
  exact yes h1
theorem y0b (h0 : w.cell? (Y b 0) = some u0) (h1 : w.cell? (Y b 1) = some u1) (h2 : w.cell? (Y b 2) = some u2) :
  (((w.setCell (Y b 0) v0).setCell (Y b 1) v1).setCell (Y b 2) v2).cell? (Y b 0) = some v0 ∧
  (((w.setCell (Y b 0) v0).setCell (Y b 1) v1).setCell (Y b 2) v2).cell? (Y b 1) = some v1 ∧
  (((w.setCell (Y b 0) v0).setCell (Y b 1) v1).setCell (Y b 2) v2).cell? (Y b 2) = some v2 := by
 obtain ⟨_,a0⟩ := cell?_setCell_some (w := w) (p := Y b 0) (x := v0) h0;obtain ⟨_,a1⟩ := cell?_setCell_some (w := w) (p := Y b 0) (x := v0) h1;obtain ⟨_,a2⟩ := cell?_setCell_some (w := w) (p := Y b 0) (x := v0) h2;obtain ⟨_,b0⟩ := cell?_setCell_some (p := Y b 1) (x := v1) a0;obtain ⟨_,b1⟩ := cell?_setCell_some (p := Y b 1) (x := v1) a1;obtain ⟨_,b2⟩ := cell?_setCell_some (p := Y b 1) (x := v1) a2;obtain ⟨_,d0⟩ := cell?_setCell_some (p := Y b 2) (x := v2) b0;obtain ⟨_,d1⟩ := cell?_setCell_some (p := Y b 2) (x := v2) b1;obtain ⟨_,d2⟩ := cell?_setCell_some (p := Y b 2) (x := v2) b2;exact set3 d0 d1 d2
theorem y07 (k : Kept w w1) (h : w.heap.size ≤ b) (v0 v1 v2 : Value) : Kept w (((w1.setCell (Y b 0) v0).setCell (Y b 1) v1).setCell (Y b 2) v2) :=
 ((k.setCell (p := Y b 0) h v0).setCell (p := Y b 1) h v1).setCell (p := Y b 2) h v2
def Room33o (w : World) (v0 v1 v2 v3 v4 v5 : Value) (w' : World) : Prop :=
 Kept w w' ∧
 w'.cell? ⟨w.heap.size,0,none⟩ = some v0 ∧
 w'.cell? ⟨w.heap.size,1,none⟩ = some v1 ∧
 w'.cell? ⟨w.heap.size,2,none⟩ = some v2 ∧
 w'.cell? ⟨w.heap.size + 1,0,none⟩ = some v3 ∧
 w'.cell? ⟨w.heap.size + 1,1,none⟩ = some v4 ∧
 w'.cell? ⟨w.heap.size + 1,2,none⟩ = some v5 ∧
 w'.cell? ⟨w.heap.size + 1 + 1,0,none⟩ = some (cellV w' ⟨w.heap.size + 1 + 1,0,none⟩) ∧
 w'.cell? ⟨w.heap.size + 1 + 1,1,none⟩ = some (cellV w' ⟨w.heap.size + 1 + 1,1,none⟩) ∧
 w'.cell? ⟨w.heap.size + 1 + 1,2,none⟩ = some (cellV w' ⟨w.heap.size + 1 + 1,2,none⟩) ∧
 w'.frozen? ⟨w.heap.size + 1 + 1,0,none⟩ = false ∧
 w'.frozen? ⟨w.heap.size + 1 + 1,1,none⟩ = false ∧
 w'.frozen? ⟨w.heap.size + 1 + 1,2,none⟩ = false
theorem Room33o.step (k : Kept w1 w2) (h : Room33o w v0 v1 v2 v3 v4 v5 w1) : Room33o w v0 v1 v2 v3 v4 v5 w2 := by
 obtain ⟨h0,h1,h2,h3,h4,h5,h6,h7,h8,h9,h10,h11,h12⟩ := h;exact ⟨h0.trans k,y00 k h1,y00 k h2,y00 k h3,y00 k h4,y00 k h5,y00 k h6,y06 k h7,y06 k h8,y06 k h9,y01 k h10,y01 k h11,y01 k h12⟩
theorem Room33o.start (w : World) (v0 v1 v2 v3 v4 v5 : Value) (o0_0 o0_1 o0_2 : Value) (t0 t1 t2 : TypeId) : Room33o w v0 v1 v2 v3 v4 v5 (((w.alloc (.cells #[v0,v1,v2] t0)).alloc (.cells #[v3,v4,v5] t1)).alloc (.cells #[o0_0,o0_1,o0_2] t2)).drew := by
 refine ⟨((((Kept.refl w).alloc _ _).alloc _ _).alloc _ _).drew,?_,?_,?_,?_,?_,?_,y02 (v := o0_0) ?_,y02 (v := o0_1) ?_,y02 (v := o0_2) ?_,?_,?_,?_⟩
 all_goals go_simp
theorem Room33o.put (q i : Nat) (v : Value) (hq : 2 ≤ q) (h : Room33o w v0 v1 v2 v3 v4 v5 w1) : Room33o w v0 v1 v2 v3 v4 v5 (w1.setCell (Y (w.heap.size + q) i) v) := by
 obtain ⟨h0,h1,h2,h3,h4,h5,h6,h7,h8,h9,h10,h11,h12⟩ := h;exact ⟨h0.setCell (p := Y (w.heap.size + q) i) (Nat.le_add_right _ _) v,(World.cell?_setCell_far _ _ _ _ (by simp; omega)).trans h1,(World.cell?_setCell_far _ _ _ _ (by simp; omega)).trans h2,(World.cell?_setCell_far _ _ _ _ (by simp; omega)).trans h3,(World.cell?_setCell_far _ _ _ _ (by simp; omega)).trans h4,(World.cell?_setCell_far _ _ _ _ (by simp; omega)).trans h5,(World.cell?_setCell_far _ _ _ _ (by simp; omega)).trans h6,y04 h7,y04 h8,y04 h9,(zrb _ _ _ _).trans h10,(zrb _ _ _ _).trans h11,(zrb _ _ _ _).trans h12⟩
def Room33 (w : World) (v0 v1 v2 v3 v4 v5 : Value) (w' : World) : Prop :=
 Kept w w' ∧
 w'.cell? ⟨w.heap.size,0,none⟩ = some v0 ∧
 w'.cell? ⟨w.heap.size,1,none⟩ = some v1 ∧
 w'.cell? ⟨w.heap.size,2,none⟩ = some v2 ∧
 w'.cell? ⟨w.heap.size + 1,0,none⟩ = some v3 ∧
 w'.cell? ⟨w.heap.size + 1,1,none⟩ = some v4 ∧
 w'.cell? ⟨w.heap.size + 1,2,none⟩ = some v5
theorem Room33.step (k : Kept w1 w2) (h : Room33 w v0 v1 v2 v3 v4 v5 w1) : Room33 w v0 v1 v2 v3 v4 v5 w2 := by
 obtain ⟨h0,h1,h2,h3,h4,h5,h6⟩ := h;exact ⟨h0.trans k,y00 k h1,y00 k h2,y00 k h3,y00 k h4,y00 k h5,y00 k h6⟩
theorem Room33.start (w : World) (v0 v1 v2 v3 v4 v5 : Value) (t0 t1 : TypeId) : Room33 w v0 v1 v2 v3 v4 v5 ((w.alloc (.cells #[v0,v1,v2] t0)).alloc (.cells #[v3,v4,v5] t1)).drew := by
 refine ⟨(((Kept.refl w).alloc _ _).alloc _ _).drew,?_,?_,?_,?_,?_,?_⟩
 all_goals go_simp
def Room3o (w : World) (v0 v1 v2 : Value) (w' : World) : Prop :=
 Kept w w' ∧
 w'.cell? ⟨w.heap.size,0,none⟩ = some v0 ∧
 w'.cell? ⟨w.heap.size,1,none⟩ = some v1 ∧
 w'.cell? ⟨w.heap.size,2,none⟩ = some v2 ∧
 w'.cell? ⟨w.heap.size + 1,0,none⟩ = some (cellV w' ⟨w.heap.size + 1,0,none⟩) ∧
 w'.cell? ⟨w.heap.size + 1,1,none⟩ = some (cellV w' ⟨w.heap.size + 1,1,none⟩) ∧
 w'.cell? ⟨w.heap.size + 1,2,none⟩ = some (cellV w' ⟨w.heap.size + 1,2,none⟩) ∧
 w'.frozen? ⟨w.heap.size + 1,0,none⟩ = false ∧
 w'.frozen? ⟨w.heap.size + 1,1,none⟩ = false ∧
 w'.frozen? ⟨w.heap.size + 1,2,none⟩ = false
theorem Room3o.step (k : Kept w1 w2) (h : Room3o w v0 v1 v2 w1) : Room3o w v0 v1 v2 w2 := by
 obtain ⟨h0,h1,h2,h3,h4,h5,h6,h7,h8,h9⟩ := h;exact ⟨h0.trans k,y00 k h1,y00 k h2,y00 k h3,y06 k h4,y06 k h5,y06 k h6,y01 k h7,y01 k h8,y01 k h9⟩
theorem Room3o.start (w : World) (v0 v1 v2 : Value) (o0_0 o0_1 o0_2 : Value) (t0 t1 : TypeId) : Room3o w v0 v1 v2 ((w.alloc (.cells #[v0,v1,v2] t0)).alloc (.cells #[o0_0,o0_1,o0_2] t1)).drew := by
 refine ⟨(((Kept.refl w).alloc _ _).alloc _ _).drew,?_,?_,?_,y02 (v := o0_0) ?_,y02 (v := o0_1) ?_,y02 (v := o0_2) ?_,?_,?_,?_⟩
 all_goals go_simp
theorem Room3o.put (q i : Nat) (v : Value) (hq : 1 ≤ q) (h : Room3o w v0 v1 v2 w1) : Room3o w v0 v1 v2 (w1.setCell (Y (w.heap.size + q) i) v) := by
 obtain ⟨h0,h1,h2,h3,h4,h5,h6,h7,h8,h9⟩ := h;exact ⟨h0.setCell (p := Y (w.heap.size + q) i) (Nat.le_add_right _ _) v,(World.cell?_setCell_far _ _ _ _ (by simp; omega)).trans h1,(World.cell?_setCell_far _ _ _ _ (by simp; omega)).trans h2,(World.cell?_setCell_far _ _ _ _ (by simp; omega)).trans h3,y04 h4,y04 h5,y04 h6,(zrb _ _ _ _).trans h7,(zrb _ _ _ _).trans h8,(zrb _ _ _ _).trans h9⟩
/-! A take of a region's walk in few words: the library's own,its side conditions found by tactics. -/
section
variable {P : Program} {ops : Array Oper} {Q : Exit → Act → World → Prop} {md : Region.Mode} {S : World → Prop}
theorem rdW {P : Program} {ops : Array Oper} {Q : Exit → Act → World → Prop} {md : Region.Mode} {S : World → Prop} {o : Oper} {a : Act} (i : Nat) (ho : ops[i]? = some o)
  (h : ∀ K' : Act → World → Prop,Shut (∀ a w,S w → (S w → wpAnyH P md ops Q S fuel (listed.setIfInBounds i true) a w) → K' a w) → Oper.wp P o a w K' Q)
  (hr : Region.ready md ops listed = [i] := by kernel_rfl) (hc : Region.wanted o (yielded ops a.tmps) = true := by kernel_rfl) : wpAnyH P md ops Q S (fuel + 1) listed a w :=
 wpAnyH_ready hr (by simp) (AllReadyH.cons ho (fun K hK => by rw [if_pos hc]; exact h K hK) AllReadyH.nil)
theorem tkW {a : Act} (i : Nat) (hi : ops[i]? = some oi)
  (h : wpAnyH P md ops Q S fuel (listed.setIfInBounds i true) (a.put oi.dst v) w)
  (hy : ∀ w'',S w'' → (execOp a.eval oi).run P w'' = .ok (.value v) w'' := by intro w'' hSw; (try dsimp only at hSw); simp only [zQ]; (go_simp <;> with_reducible rfl))
  (hs : Region.noSelect ops = true := by kernel_rfl) (hf : Region.free md ops listed i = true := by kernel_rfl) (hr : (Region.ready md ops listed).contains i = true := by kernel_rfl)
  (hQ : ∀ c a w,Q (.panic c) (a.put oi.dst v) w → Q (.panic c) a w := by exact fun _ _ _ h => h) (hwt : Region.wanted oi (yielded ops a.tmps) = true := by kernel_rfl) (hS : S w := by assumption) : wpAnyH P md ops Q S (fuel + 1) listed a w :=
 wpAnyH_take hi hs hf hr hQ (Or.inl ⟨hwt,hy⟩) hS h
theorem tkV {P : Program} {ops : Array Oper} {Q : Exit → Act → World → Prop} {md : Region.Mode} {S : World → Prop} {v : Value} {oi : Oper} {fuel : Nat} {listed : Array Bool} {a : Act} {w : World} (i : Nat)
 (h : wpAnyH P md ops Q S fuel (listed.setIfInBounds i true) (a.put oi.dst v) w) (hi : ops[i]? = some oi := by rfl)
 (hy : ∀ w'',S w'' → (execOp a.eval oi).run P w'' = .ok (.value v) w'' := by intro w'' hSw; (try dsimp only at hSw); simp only [zQ]; (go_simp <;> with_reducible rfl))
 (hs : Region.noSelect ops = true := by kernel_rfl) (hf : Region.free md ops listed i = true := by kernel_rfl) (hr : (Region.ready md ops listed).contains i = true := by kernel_rfl)
 (hQ : ∀ c a w,Q (.panic c) (a.put oi.dst v) w → Q (.panic c) a w := by exact fun _ _ _ h => h) (hwt : Region.wanted oi (yielded ops a.tmps) = true := by kernel_rfl) (hS : S w := by assumption) : wpAnyH P md ops Q S (fuel + 1) listed a w :=
 wpAnyH_take hi hs hf hr hQ (Or.inl ⟨hwt,hy⟩) hS h
theorem tkU {P : Program} {ops : Array Oper} {Q : Exit → Act → World → Prop} {md : Region.Mode} {S : World → Prop} {v : Value} {oi : Oper} {fuel : Nat} {listed : Array Bool} {a : Act} {w : World} (i : Nat)
 (hi : ops[i]? = some oi := by rfl)
 (hy : ∀ w'',S w'' → (execOp a.eval oi).run P w'' = .ok (.value v) w'' := by intro w'' hSw; (try dsimp only at hSw); simp only [zQ]; (go_simp <;> with_reducible rfl))
 (hs : Region.noSelect ops = true := by kernel_rfl) (hf : Region.free md ops listed i = true := by kernel_rfl) (hr : (Region.ready md ops listed).contains i = true := by kernel_rfl)
 (hQ : ∀ c a w,Q (.panic c) (a.put oi.dst v) w → Q (.panic c) a w := by exact fun _ _ _ h => h) (hwt : Region.wanted oi (yielded ops a.tmps) = true := by kernel_rfl) (hS : S w := by assumption) (h : wpAnyH P md ops Q S fuel (listed.setIfInBounds i true) (a.put oi.dst v) w) : wpAnyH P md ops Q S (fuel + 1) listed a w :=
 wpAnyH_take hi hs hf hr hQ (Or.inl ⟨hwt,hy⟩) hS h
theorem skW {a : Act} (i : Nat) (hi : ops[i]? = some oi)
  (h : wpAnyH P md ops Q S fuel (listed.setIfInBounds i true) (a.put oi.dst undef) w)
  (hs : Region.noSelect ops = true := by kernel_rfl) (hf : Region.free md ops listed i = true := by kernel_rfl) (hr : (Region.ready md ops listed).contains i = true := by kernel_rfl)
  (hQ : ∀ c a w,Q (.panic c) (a.put oi.dst undef) w → Q (.panic c) a w := by exact fun _ _ _ h => h) (hwt : Region.wanted oi (yielded ops a.tmps) = false := by kernel_rfl) (hS : S w := by assumption) : wpAnyH P md ops Q S (fuel + 1) listed a w :=
 wpAnyH_take hi hs hf hr hQ (Or.inr ⟨hwt,rfl⟩) hS h
end
theorem y1y (x y z x' y' z' : Int) (w : World) :
  Calls Tryz.prog 73 #[.agg #[I x,I y,I z],.agg #[I x',I y',I z']] w fun e w' => e = .returned (.agg #[I (add x x'),I (add y y'),I (add z z')]) ∧ Kept w w' := by
 go_enter Tryz.func73,Tryz.ntmps73
 go_wp2
 go_region_held3 (fun w' => Kept w w' ∧ Zc w' w.heap.size 0 x ∧ Zc w' w.heap.size 1 y ∧ Zc w' w.heap.size 2 z ∧ Zc w' (w.heap.size + 1) 0 x' ∧ Zc w' (w.heap.size + 1) 1 y' ∧ Zc w' (w.heap.size + 1) 2 z' ∧ w'.cell? (Y (w.heap.size + 1 + 1) 0) = some (cellV w' (Y (w.heap.size + 1 + 1) 0)) ∧ w'.cell? (Y (w.heap.size + 1 + 1) 1) = some (cellV w' (Y (w.heap.size + 1 + 1) 1)) ∧ w'.cell? (Y (w.heap.size + 1 + 1) 2) = some (cellV w' (Y (w.heap.size + 1 + 1) 2)) ∧ w'.frozen? (Y (w.heap.size + 1 + 1) 0) = false ∧ w'.frozen? (Y (w.heap.size + 1 + 1) 1) = false ∧ w'.frozen? (Y (w.heap.size + 1 + 1) 2) = false)
  (first | (refine Room33o.step k ?_; assumption) | exact Room33o.start .. | (refine Room33o.put 2 2 _ (by omega) (Room33o.put 2 1 _ (by omega) (Room33o.put 2 0 _ (by omega) ?_)); assumption))
  (first | (go_at_call 95; refine (y44 _ _ _).mono ?_; rintro e w' ⟨rfl,k⟩))
 rename_i hh;go_wp2
 obtain ⟨hk,_,_,_,_,_,_,c0,c1,c2,_⟩ := hh;obtain ⟨e0,e1,e2⟩ := set3 c0 c1 c2;clear c0 c1 c2;exact bodyPost_ret (v := .agg #[I (add x x'),I (add y y'),I (add z z')]) (by simp [results,Tryz.results73,go_sem,e0,e1,e2]) rfl ⟨rfl,hk⟩
theorem y0o (x y z x' y' z' : Int) (w : World) :
  Calls Tryz.prog 96 #[.agg #[I x,I y,I z],.agg #[I x',I y',I z']] w fun e w' => e = .returned (.agg #[I (sub x x'),I (sub y y'),I (sub z z')]) ∧ Kept w w' := by
 go_enter Tryz.func96,Tryz.ntmps96
 go_wp2
 go_region_held3 (fun w' => Kept w w' ∧ Zc w' w.heap.size 0 x ∧ Zc w' w.heap.size 1 y ∧ Zc w' w.heap.size 2 z ∧ Zc w' (w.heap.size + 1) 0 x' ∧ Zc w' (w.heap.size + 1) 1 y' ∧ Zc w' (w.heap.size + 1) 2 z' ∧ w'.cell? (Y (w.heap.size + 1 + 1) 0) = some (cellV w' (Y (w.heap.size + 1 + 1) 0)) ∧ w'.cell? (Y (w.heap.size + 1 + 1) 1) = some (cellV w' (Y (w.heap.size + 1 + 1) 1)) ∧ w'.cell? (Y (w.heap.size + 1 + 1) 2) = some (cellV w' (Y (w.heap.size + 1 + 1) 2)) ∧ w'.frozen? (Y (w.heap.size + 1 + 1) 0) = false ∧ w'.frozen? (Y (w.heap.size + 1 + 1) 1) = false ∧ w'.frozen? (Y (w.heap.size + 1 + 1) 2) = false)
  (first | (refine Room33o.step k ?_; assumption) | exact Room33o.start .. | (refine Room33o.put 2 2 _ (by omega) (Room33o.put 2 1 _ (by omega) (Room33o.put 2 0 _ (by omega) ?_)); assumption))
  (first | (go_at_call 124; refine (y6a _ _ _).mono ?_; rintro e w' ⟨rfl,k⟩))
 rename_i hh;go_wp2
 obtain ⟨hk,_,_,_,_,_,_,c0,c1,c2,_⟩ := hh;obtain ⟨e0,e1,e2⟩ := set3 c0 c1 c2;clear c0 c1 c2;exact bodyPost_ret (v := .agg #[I (sub x x'),I (sub y y'),I (sub z z')]) (by simp [results,Tryz.results96,go_sem,e0,e1,e2]) rfl ⟨rfl,hk⟩
theorem y4t (fn : Nat) (p : Addr) (k : Int) (f : Int → Int) (he : ∀ args w,(callFunc fn args).run Tryz.prog w = .ok (.enter fn args) w)
  (hf : Hid (∀ n w',w'.cell? p = some (I k) → Calls Tryz.prog fn #[I n,.pointer (some p)] w' fun e w'' => e = .returned (I (f n)) ∧ Kept w' w''))
  (x y z : Int) (w : World) (hp : w.cell? p = some (I k)) :
  Calls Tryz.prog 101 #[.agg #[I x,I y,I z],.func (.func fn) #[] #[.pointer (some p)]] w fun e w' => e = .returned (.agg #[I (f x),I (f y),I (f z)]) ∧ Kept w w' := by
 have HP : Hid (w.cell? p = some (I k)) := hp;clear hp;go_enter Tryz.func101,Tryz.ntmps101
 go_wp2
 go_region_held3 (fun w' => Kept w w' ∧ Zc w' w.heap.size 0 x ∧ Zc w' w.heap.size 1 y ∧ Zc w' w.heap.size 2 z ∧ w'.cell? (Y (w.heap.size + 1) 0) = some (cellV w' (Y (w.heap.size + 1) 0)) ∧ w'.cell? (Y (w.heap.size + 1) 1) = some (cellV w' (Y (w.heap.size + 1) 1)) ∧ w'.cell? (Y (w.heap.size + 1) 2) = some (cellV w' (Y (w.heap.size + 1) 2)) ∧ w'.frozen? (Y (w.heap.size + 1) 0) = false ∧ w'.frozen? (Y (w.heap.size + 1) 1) = false ∧ w'.frozen? (Y (w.heap.size + 1) 2) = false)
  (first | (refine Room3o.step k ?_; assumption) | exact Room3o.start .. | (refine Room3o.put 1 2 _ (by omega) (Room3o.put 1 1 _ (by omega) (Room3o.put 1 0 _ (by omega) ?_)); assumption))
  (first | (go_at_fn fn; refine (hf.out _ _ (y00 (And.left (by assumption)) HP.out)).mono ?_; rintro e w' ⟨rfl,k⟩))
 rename_i hh;go_wp2
 obtain ⟨hk,_,_,_,c0,c1,c2,_⟩ := hh;obtain ⟨e0,e1,e2⟩ := set3 c0 c1 c2;clear c0 c1 c2;exact bodyPost_ret (v := .agg #[I (f x),I (f y),I (f z)]) (by simp [results,Tryz.results101,go_sem,e0,e1,e2]) rfl ⟨rfl,hk⟩
theorem y2g (fn : Nat) (p : Addr) (k : Int) (f : Int → Int → Int) (he : ∀ args w,(callFunc fn args).run Tryz.prog w = .ok (.enter fn args) w)
  (hf : Hid (∀ n m w',w'.cell? p = some (I k) → Calls Tryz.prog fn #[I n,I m,.pointer (some p)] w' fun e w'' => e = .returned (I (f n m)) ∧ Kept w' w''))
  (x y z x' y' z' : Int) (w : World) (hp : w.cell? p = some (I k)) :
  Calls Tryz.prog 64 #[.agg #[I x,I y,I z],.agg #[I x',I y',I z'],.func (.func fn) #[] #[.pointer (some p)]] w fun e w' => e = .returned (.agg #[I (f x x'),I (f y y'),I (f z z')]) ∧ Kept w w' := by
 have HP : Hid (w.cell? p = some (I k)) := hp;clear hp;go_enter Tryz.func64,Tryz.ntmps64
 go_wp2
 go_region_held3 (fun w' => Kept w w' ∧ Zc w' w.heap.size 0 x ∧ Zc w' w.heap.size 1 y ∧ Zc w' w.heap.size 2 z ∧ Zc w' (w.heap.size + 1) 0 x' ∧ Zc w' (w.heap.size + 1) 1 y' ∧ Zc w' (w.heap.size + 1) 2 z' ∧ w'.cell? (Y (w.heap.size + 1 + 1) 0) = some (cellV w' (Y (w.heap.size + 1 + 1) 0)) ∧ w'.cell? (Y (w.heap.size + 1 + 1) 1) = some (cellV w' (Y (w.heap.size + 1 + 1) 1)) ∧ w'.cell? (Y (w.heap.size + 1 + 1) 2) = some (cellV w' (Y (w.heap.size + 1 + 1) 2)) ∧ w'.frozen? (Y (w.heap.size + 1 + 1) 0) = false ∧ w'.frozen? (Y (w.heap.size + 1 + 1) 1) = false ∧ w'.frozen? (Y (w.heap.size + 1 + 1) 2) = false)
  (first | (refine Room33o.step k ?_; assumption) | exact Room33o.start .. | (refine Room33o.put 2 2 _ (by omega) (Room33o.put 2 1 _ (by omega) (Room33o.put 2 0 _ (by omega) ?_)); assumption))
  (first | (go_at_fn fn; refine (hf.out _ _ _ (y00 (And.left (by assumption)) HP.out)).mono ?_; rintro e w' ⟨rfl,k⟩))
 rename_i hh;go_wp2
 obtain ⟨hk,_,_,_,_,_,_,c0,c1,c2,_⟩ := hh;obtain ⟨e0,e1,e2⟩ := set3 c0 c1 c2;clear c0 c1 c2;exact bodyPost_ret (v := .agg #[I (f x x'),I (f y y'),I (f z z')]) (by simp [results,Tryz.results64,go_sem,e0,e1,e2]) rfl ⟨rfl,hk⟩
theorem y37 (fn : Nat) (f : Int → Int → Int) (he : ∀ args w,(callFunc fn args).run Tryz.prog w = .ok (.enter fn args) w)
  (hf : Hid (∀ n m w',Calls Tryz.prog fn #[I n,I m] w' fun e w'' => e = .returned (I (f n m)) ∧ Kept w' w''))
  (x y z x' y' z' : Int) (w : World) :
  Calls Tryz.prog 64 #[.agg #[I x,I y,I z],.agg #[I x',I y',I z'],.func (.func fn) #[] #[]] w fun e w' => e = .returned (.agg #[I (f x x'),I (f y y'),I (f z z')]) ∧ Kept w w' := by
 go_enter Tryz.func64,Tryz.ntmps64
 go_wp2
 go_region_held3 (fun w' => Kept w w' ∧ Zc w' w.heap.size 0 x ∧ Zc w' w.heap.size 1 y ∧ Zc w' w.heap.size 2 z ∧ Zc w' (w.heap.size + 1) 0 x' ∧ Zc w' (w.heap.size + 1) 1 y' ∧ Zc w' (w.heap.size + 1) 2 z' ∧ w'.cell? (Y (w.heap.size + 1 + 1) 0) = some (cellV w' (Y (w.heap.size + 1 + 1) 0)) ∧ w'.cell? (Y (w.heap.size + 1 + 1) 1) = some (cellV w' (Y (w.heap.size + 1 + 1) 1)) ∧ w'.cell? (Y (w.heap.size + 1 + 1) 2) = some (cellV w' (Y (w.heap.size + 1 + 1) 2)) ∧ w'.frozen? (Y (w.heap.size + 1 + 1) 0) = false ∧ w'.frozen? (Y (w.heap.size + 1 + 1) 1) = false ∧ w'.frozen? (Y (w.heap.size + 1 + 1) 2) = false)
  (first | (refine Room33o.step k ?_; assumption) | exact Room33o.start .. | (refine Room33o.put 2 2 _ (by omega) (Room33o.put 2 1 _ (by omega) (Room33o.put 2 0 _ (by omega) ?_)); assumption))
  (first | (go_at_fn fn; refine (hf.out _ _ _).mono ?_; rintro e w' ⟨rfl,k⟩))
 rename_i hh;go_wp2
 obtain ⟨hk,_,_,_,_,_,_,c0,c1,c2,_⟩ := hh;obtain ⟨e0,e1,e2⟩ := set3 c0 c1 c2;clear c0 c1 c2;exact bodyPost_ret (v := .agg #[I (f x x'),I (f y y'),I (f z z')]) (by simp [results,Tryz.results64,go_sem,e0,e1,e2]) rfl ⟨rfl,hk⟩
theorem ydq (p : Addr) (k n : Int) (w : World) (hp : w.cell? p = some (I k)) :
  Calls Tryz.prog 156 #[I n,.pointer (some p)] w fun e w' => e = .returned (I (mul n k)) ∧ Kept w w' := by
 go_enter Tryz.func156,Tryz.ntmps156
 go_wp2_with (go_at_call 119; refine (y3d _ _ _).mono ?_; rintro e w1 ⟨rfl,k1⟩)
 go_ret
 exact ⟨rfl,k1⟩
theorem yey (p : Addr) (k n : Int) (w : World) (hp : w.cell? p = some (I k)) :
  Calls Tryz.prog 158 #[I n,.pointer (some p)] w fun e w' => e = .returned (I (div n k)) ∧ Kept w w' := by
 go_enter Tryz.func158,Tryz.ntmps158
 go_wp2_with (go_at_call 118; refine (y4e _ _ _).mono ?_; rintro e w1 ⟨rfl,k1⟩)
 go_ret
 exact ⟨rfl,k1⟩
theorem y99 (p : Addr) (k n m : Int) (w : World) (hp : w.cell? p = some (I k)) :
  Calls Tryz.prog 127 #[I n,I m,.pointer (some p)] w fun e w' => e = .returned (I (mul n k)) ∧ Kept w w' := by
 go_enter Tryz.func127,Tryz.ntmps127
 go_wp2_with (go_at_call 83; refine (y1c _ _ _).mono ?_; rintro e w1 ⟨rfl,rfl⟩)
 go_ret
 exact ⟨rfl,Kept.refl _⟩
theorem y9n (p : Addr) (k n m : Int) (w : World) (hp : w.cell? p = some (I k)) :
  Calls Tryz.prog 130 #[I n,I m,.pointer (some p)] w fun e w' => e = .returned (I (div n k)) ∧ Kept w w' := by
 go_enter Tryz.func130,Tryz.ntmps130
 go_wp2_with (go_at_call 84; refine (y2d _ _ _).mono ?_; rintro e w1 ⟨rfl,rfl⟩)
 go_ret
 exact ⟨rfl,Kept.refl _⟩
theorem y5x (p : Addr) (k n : Int) (w : World) (k0 : 0 ≤ k) (k1 : k ≤ 9223372036854775807) (hp : w.cell? p = some (I k)) :
  Calls Tryz.prog 141 #[I n,.pointer (some p)] w fun e w' => e = .returned (I (cl k n)) ∧ Kept w w' := by
 by_cases h1 : k < n
 ·rw [cl_hi h1]
  go_enter Tryz.func141,Tryz.ntmps141
  go_wp2
  go_ret
  exact ⟨rfl,Kept.refl _⟩
 ·by_cases h2 : n < -k
  ·rw [cl_lo h1 h2]
   go_enter Tryz.func141,Tryz.ntmps141
   go_wp2
   go_ret
   exact ⟨rfl,Kept.refl _⟩
  ·rw [y7y h1 h2]
   go_enter Tryz.func141,Tryz.ntmps141
   go_wp2
   go_ret
   exact ⟨rfl,Kept.refl _⟩
theorem y46 (p : Addr) (k n m : Int) (w : World) (k0 : 0 ≤ k) (k1 : k ≤ 9223372036854775807) (hp : w.cell? p = some (I k)) :
  Calls Tryz.prog 65 #[I n,I m,.pointer (some p)] w fun e w' => e = .returned (I (cl k n)) ∧ Kept w w' := by
 by_cases h1 : k < n
 ·rw [cl_hi h1]
  go_enter Tryz.func65,Tryz.ntmps65
  go_wp2
  go_ret
  exact ⟨rfl,Kept.refl _⟩
 ·by_cases h2 : n < -k
  ·rw [cl_lo h1 h2]
   go_enter Tryz.func65,Tryz.ntmps65
   go_wp2
   go_ret
   exact ⟨rfl,Kept.refl _⟩
  ·rw [y7y h1 h2]
   go_enter Tryz.func65,Tryz.ntmps65
   go_wp2
   go_ret
   exact ⟨rfl,Kept.refl _⟩
theorem y30 (x y z k : Int) (w : World) :
  Calls Tryz.prog 121 #[.agg #[I x,I y,I z],I k] w fun e w' => e = .returned (.agg #[I (mul x k),I (mul y k),I (mul z k)]) ∧ Kept w w' := by
 have hmf := hmfT;go_enter Tryz.func121,Tryz.ntmps121
 go_wp2_with fail
 refine (y4t 156 _ k (fun n => mul n k) (enters_of Tryz.func156 (by kernel_rfl) rfl) (fun n w' h => ydq _ k n w' h) x y z _ (by go_simp)).mono ?_;rintro e w1 ⟨rfl,k1⟩;have c0 : w1.cell? (Y (w.heap.size + 1 + 1) 0) = some (I 0) := y00 k1 (by go_simp);have c1 : w1.cell? (Y (w.heap.size + 1 + 1) 1) = some (I 0) := y00 k1 (by go_simp);have c2 : w1.cell? (Y (w.heap.size + 1 + 1) 2) = some (I 0) := y00 k1 (by go_simp);have f0 : w1.frozen? (Y (w.heap.size + 1 + 1) 0) = false := y01 k1 (by go_simp);have f1 : w1.frozen? (Y (w.heap.size + 1 + 1) 1) = false := y01 k1 (by go_simp);have f2 : w1.frozen? (Y (w.heap.size + 1 + 1) 2) = false := y01 k1 (by go_simp);go_wp2
 obtain ⟨e0,e1,e2⟩ := y0b (v0 := I (mul x k)) (v1 := I (mul y k)) (v2 := I (mul z k)) c0 c1 c2
 exact bodyPost_ret (v := .agg #[I (mul x k),I (mul y k),I (mul z k)]) (by simp [results,Tryz.results121,go_sem,e0,e1,e2]) rfl
  ⟨rfl,y07 (((((Kept.refl w).alloc _ _).alloc _ _).alloc _ _).trans k1) (by omega) _ _ _⟩
theorem y1d (x y z x' y' z' : Int) (w : World) :
  Calls Tryz.prog 50 #[.agg #[I x,I y,I z],.agg #[I x',I y',I z']] w fun e w' => e = .returned (.agg #[I (add x x'),I (add y y'),I (add z z')]) ∧ Kept w w' := by
 go_enter Tryz.func50,Tryz.ntmps50
 go_wp2_with fail
 refine (y37 78 add (enters_of Tryz.func78 (by kernel_rfl) rfl) (fun n m w' => (y1x n m w').mono fun _ _ h => ⟨h.1,h.2 ▸ Kept.refl _⟩) x y z x' y' z' _).mono ?_;rintro e w1 ⟨rfl,k1⟩;have c0 : w1.cell? (Y (w.heap.size + 1 + 1) 0) = some (I 0) := y00 k1 (by go_simp);have c1 : w1.cell? (Y (w.heap.size + 1 + 1) 1) = some (I 0) := y00 k1 (by go_simp);have c2 : w1.cell? (Y (w.heap.size + 1 + 1) 2) = some (I 0) := y00 k1 (by go_simp);have f0 : w1.frozen? (Y (w.heap.size + 1 + 1) 0) = false := y01 k1 (by go_simp);have f1 : w1.frozen? (Y (w.heap.size + 1 + 1) 1) = false := y01 k1 (by go_simp);have f2 : w1.frozen? (Y (w.heap.size + 1 + 1) 2) = false := y01 k1 (by go_simp);go_wp2
 obtain ⟨e0,e1,e2⟩ := y0b (v0 := I (add x x')) (v1 := I (add y y')) (v2 := I (add z z')) c0 c1 c2
 exact bodyPost_ret (v := .agg #[I (add x x'),I (add y y'),I (add z z')]) (by simp [results,Tryz.results50,go_sem,e0,e1,e2]) rfl
  ⟨rfl,y07 (((((Kept.refl w).alloc _ _).alloc _ _).alloc _ _).trans k1) (by omega) _ _ _⟩
theorem y0u (x y z x' y' z' : Int) (w : World) :
  Calls Tryz.prog 55 #[.agg #[I x,I y,I z],.agg #[I x',I y',I z']] w fun e w' => e = .returned (.agg #[I (sub x x'),I (sub y y'),I (sub z z')]) ∧ Kept w w' := by
 go_enter Tryz.func55,Tryz.ntmps55
 go_wp2_with fail
 refine (y37 87 sub (enters_of Tryz.func87 (by kernel_rfl) rfl) (fun n m w' => (y0x n m w').mono fun _ _ h => ⟨h.1,h.2 ▸ Kept.refl _⟩) x y z x' y' z' _).mono ?_;rintro e w1 ⟨rfl,k1⟩;have c0 : w1.cell? (Y (w.heap.size + 1 + 1) 0) = some (I 0) := y00 k1 (by go_simp);have c1 : w1.cell? (Y (w.heap.size + 1 + 1) 1) = some (I 0) := y00 k1 (by go_simp);have c2 : w1.cell? (Y (w.heap.size + 1 + 1) 2) = some (I 0) := y00 k1 (by go_simp);have f0 : w1.frozen? (Y (w.heap.size + 1 + 1) 0) = false := y01 k1 (by go_simp);have f1 : w1.frozen? (Y (w.heap.size + 1 + 1) 1) = false := y01 k1 (by go_simp);have f2 : w1.frozen? (Y (w.heap.size + 1 + 1) 2) = false := y01 k1 (by go_simp);go_wp2
 obtain ⟨e0,e1,e2⟩ := y0b (v0 := I (sub x x')) (v1 := I (sub y y')) (v2 := I (sub z z')) c0 c1 c2
 exact bodyPost_ret (v := .agg #[I (sub x x'),I (sub y y'),I (sub z z')]) (by simp [results,Tryz.results55,go_sem,e0,e1,e2]) rfl
  ⟨rfl,y07 (((((Kept.refl w).alloc _ _).alloc _ _).alloc _ _).trans k1) (by omega) _ _ _⟩
theorem y1u (x y z k : Int) (w : World) :
  Calls Tryz.prog 82 #[.agg #[I x,I y,I z],I k] w fun e w' => e = .returned (.agg #[I (mul x k),I (mul y k),I (mul z k)]) ∧ Kept w w' := by
 have hmf := hmfT;go_enter Tryz.func82,Tryz.ntmps82
 go_wp2_with fail
 refine (y2g 127 _ k (fun n _ => mul n k) (enters_of Tryz.func127 (by kernel_rfl) rfl) (fun n m w' h => y99 _ k n m w' h) x y z x y z _ (by go_simp)).mono ?_;rintro e w1 ⟨rfl,k1⟩;have c0 : w1.cell? (Y (w.heap.size + 1 + 1) 0) = some (I 0) := y00 k1 (by go_simp);have c1 : w1.cell? (Y (w.heap.size + 1 + 1) 1) = some (I 0) := y00 k1 (by go_simp);have c2 : w1.cell? (Y (w.heap.size + 1 + 1) 2) = some (I 0) := y00 k1 (by go_simp);have f0 : w1.frozen? (Y (w.heap.size + 1 + 1) 0) = false := y01 k1 (by go_simp);have f1 : w1.frozen? (Y (w.heap.size + 1 + 1) 1) = false := y01 k1 (by go_simp);have f2 : w1.frozen? (Y (w.heap.size + 1 + 1) 2) = false := y01 k1 (by go_simp);go_wp2
 obtain ⟨e0,e1,e2⟩ := y0b (v0 := I (mul x k)) (v1 := I (mul y k)) (v2 := I (mul z k)) c0 c1 c2
 exact bodyPost_ret (v := .agg #[I (mul x k),I (mul y k),I (mul z k)]) (by simp [results,Tryz.results82,go_sem,e0,e1,e2]) rfl
  ⟨rfl,y07 (((((Kept.refl w).alloc _ _).alloc _ _).alloc _ _).trans k1) (by omega) _ _ _⟩
theorem y5w (x y z x' y' z' : Int) (w : World) :
  Calls Tryz.prog 116 #[.agg #[I x,I y,I z],.agg #[I x',I y',I z']] w fun e w' => e = .returned (I (dot x y z x' y' z')) ∧ Kept w w' := by
 go_enter Tryz.func116,Tryz.ntmps116
 go_wp2
 go_region_held3 (fun w' => Kept w w' ∧ Zc w' w.heap.size 0 x ∧ Zc w' w.heap.size 1 y ∧ Zc w' w.heap.size 2 z ∧ Zc w' (w.heap.size + 1) 0 x' ∧ Zc w' (w.heap.size + 1) 1 y' ∧ Zc w' (w.heap.size + 1) 2 z')
  (first | (refine Room33.step k ?_; assumption) | exact Room33.start ..)
  (first | (go_at_call 119; refine (y3d _ _ _).mono ?_; rintro e w' ⟨rfl,k⟩) | (go_at_call 95; refine (y44 _ _ _).mono ?_; rintro e w' ⟨rfl,k⟩))
 rename_i hh;have hk := hh.1;clear hh;go_wp2
 go_ret
 exact ⟨rfl,hk⟩
theorem y49 (x y z x' y' z' : Int) (w : World) :
  Calls Tryz.prog 80 #[.agg #[I x,I y,I z],.agg #[I x',I y',I z']] w fun e w' => e = .returned (I (dot x y z x' y' z')) ∧ Kept w w' := by
 go_enter Tryz.func80,Tryz.ntmps80
 go_wp2_with (first | (go_at_call 83; refine (y1c _ _ _).mono ?_; rintro e w' ⟨rfl,rfl⟩) | (go_at_call 78; refine (y1x _ _ _).mono ?_; rintro e w' ⟨rfl,rfl⟩))
 go_ret
 exact ⟨rfl,((Kept.refl w).alloc _ _).alloc _ _⟩
theorem y3e (x y z : Int) (w : World) :
  Calls Tryz.prog 122 #[.agg #[I x,I y,I z]] w fun e w' => e = .returned (I (long x y z)) ∧ Kept w w' := by
 go_enter Tryz.func122,Tryz.ntmps122
 go_wp2_with fail
 refine (y5w _ _ _ _ _ _ _).mono ?_; rintro e w1 ⟨rfl,k1⟩;go_wp2_with fail
 refine (yh8 _ _).mono ?_; rintro e w2 ⟨rfl,k2⟩;go_wp2_with fail
 go_ret
 exact ⟨rfl,(((Kept.refl w).alloc _ _).trans k1).trans k2⟩
theorem y24 (x y z : Int) (w : World) :
  Calls Tryz.prog 85 #[.agg #[I x,I y,I z]] w fun e w' => e = .returned (I (long x y z)) ∧ Kept w w' := by
 go_enter Tryz.func85,Tryz.ntmps85
 go_wp2_with fail
 refine (y49 _ _ _ _ _ _ _).mono ?_; rintro e w1 ⟨rfl,k1⟩;go_wp2_with fail
 refine (ybs _ _).mono ?_; rintro e w2 ⟨rfl,rfl⟩;go_wp2_with fail
 go_ret
 exact ⟨rfl,((Kept.refl w).alloc _ _).trans k1⟩
theorem yit (x y z : Int) (w : World) (h : long x y z = 0) :
  Calls Tryz.prog 123 #[.agg #[I x,I y,I z]] w fun e w' => e = .returned (.agg #[I 0,I 65536,I 0]) ∧ Kept w w' := by
 have HH : Hid (long x y z = 0) := h;clear h;go_enter Tryz.func123,Tryz.ntmps123
 go_wp2_with fail
 refine (y3e _ _ _ _).mono ?_; rintro e w1 ⟨rfl,k1⟩;rw [HH.out];have hz : w.heap.size + 1 < w1.heap.size := by have := k1.below.size; simp at this; omega
 have c0 : w1.cell? (Y (w.heap.size + 1) 0) = some (I 0) := y00 k1 (by go_simp);have c1 : w1.cell? (Y (w.heap.size + 1) 1) = some (I 0) := y00 k1 (by go_simp);have c2 : w1.cell? (Y (w.heap.size + 1) 2) = some (I 0) := y00 k1 (by go_simp);have f0 : w1.frozen? (Y (w.heap.size + 1) 0) = false := y01 k1 (by go_simp);have f1 : w1.frozen? (Y (w.heap.size + 1) 1) = false := y01 k1 (by go_simp);have f2 : w1.frozen? (Y (w.heap.size + 1) 2) = false := y01 k1 (by go_simp);have c0' := later c0; have c1' := later c1; have c2' := later c2;have f0' := laterF f0; have f1' := laterF f1; have f2' := laterF f2;go_wp2
 obtain ⟨e0,e1,e2⟩ := y0b (v0 := I 0) (v1 := I 65536) (v2 := I 0) c0 c1 c2;have g0 := later e0; have g1 := later e1; have g2 := later e2
 exact bodyPost_ret (v := .agg #[I 0,I 65536,I 0]) (by simp [results,Tryz.results123,go_sem,g0,g1,g2]) rfl
  ⟨rfl,(y07 ((((Kept.refl w).alloc _ _).alloc _ _).trans k1) (by omega) _ _ _).alloc _ _⟩
theorem ykh (x y z : Int) (w : World) (h : (long x y z == 0) = false) :
  Calls Tryz.prog 123 #[.agg #[I x,I y,I z]] w fun e w' => e = .returned (.agg #[I (div x (long x y z)),I (div y (long x y z)),I (div z (long x y z))]) ∧ Kept w w' := by
 have hmf := hmfT;go_enter Tryz.func123,Tryz.ntmps123
 go_wp2_with fail
 refine (y3e _ _ _ _).mono ?_; rintro e w1 ⟨rfl,k1⟩;have hz : w.heap.size + 1 < w1.heap.size := by have := k1.below.size; simp at this; omega
 have b0 := later (y00 k1 (a := Y w.heap.size 0) (v := I x) (by go_simp));have b1 := later (y00 k1 (a := Y w.heap.size 1) (v := I y) (by go_simp));have b2 := later (y00 k1 (a := Y w.heap.size 2) (v := I z) (by go_simp));have c0 : w1.cell? (Y (w.heap.size + 1) 0) = some (I 0) := y00 k1 (by go_simp);have c1 : w1.cell? (Y (w.heap.size + 1) 1) = some (I 0) := y00 k1 (by go_simp);have c2 : w1.cell? (Y (w.heap.size + 1) 2) = some (I 0) := y00 k1 (by go_simp);have f0 : w1.frozen? (Y (w.heap.size + 1) 0) = false := y01 k1 (by go_simp);have f1 : w1.frozen? (Y (w.heap.size + 1) 1) = false := y01 k1 (by go_simp);have f2 : w1.frozen? (Y (w.heap.size + 1) 2) = false := y01 k1 (by go_simp);go_wp2_with fail
 refine (y4t 158 _ (long x y z) (fun n => div n (long x y z)) (enters_of Tryz.func158 (by kernel_rfl) rfl) (fun n w' h => yey _ _ n w' h) x y z _ (by go_simp)).mono ?_;rintro e w2 ⟨rfl,k2⟩;replace c0 := y00 k2 (later c0 _);replace c1 := y00 k2 (later c1 _);replace c2 := y00 k2 (later c2 _);replace f0 := y01 k2 (laterF f0 _ _);replace f1 := y01 k2 (laterF f1 _ _);replace f2 := y01 k2 (laterF f2 _ _);clear b0 b1 b2;go_wp2
 obtain ⟨e0,e1,e2⟩ := y0b (v0 := I (div x (long x y z))) (v1 := I (div y (long x y z))) (v2 := I (div z (long x y z))) c0 c1 c2
 exact bodyPost_ret (v := .agg #[I (div x (long x y z)),I (div y (long x y z)),I (div z (long x y z))]) (by simp [results,Tryz.results123,go_sem,e0,e1,e2]) rfl
  ⟨rfl,y07 ((((((Kept.refl w).alloc _ _).alloc _ _).trans k1).alloc _ _).trans k2) (by omega) _ _ _⟩
theorem ydk (x y z : Int) (w : World) (h : long x y z = 0) :
  Calls Tryz.prog 86 #[.agg #[I x,I y,I z]] w fun e w' => e = .returned (.agg #[I 0,I 65536,I 0]) ∧ Kept w w' := by
 have HH : Hid (long x y z = 0) := h;clear h;go_enter Tryz.func86,Tryz.ntmps86
 go_wp2_with fail
 refine (y24 _ _ _ _).mono ?_; rintro e w1 ⟨rfl,k1⟩;rw [HH.out];have hz : w.heap.size + 1 < w1.heap.size := by have := k1.below.size; simp at this; omega
 have c0 : w1.cell? (Y (w.heap.size + 1) 0) = some (I 0) := y00 k1 (by go_simp);have c1 : w1.cell? (Y (w.heap.size + 1) 1) = some (I 0) := y00 k1 (by go_simp);have c2 : w1.cell? (Y (w.heap.size + 1) 2) = some (I 0) := y00 k1 (by go_simp);have f0 : w1.frozen? (Y (w.heap.size + 1) 0) = false := y01 k1 (by go_simp);have f1 : w1.frozen? (Y (w.heap.size + 1) 1) = false := y01 k1 (by go_simp);have f2 : w1.frozen? (Y (w.heap.size + 1) 2) = false := y01 k1 (by go_simp);have c0' := later c0; have c1' := later c1; have c2' := later c2;have f0' := laterF f0; have f1' := laterF f1; have f2' := laterF f2;go_wp2
 obtain ⟨e0,e1,e2⟩ := y0b (v0 := I 0) (v1 := I 65536) (v2 := I 0) c0 c1 c2;have g0 := later e0; have g1 := later e1; have g2 := later e2
 exact bodyPost_ret (v := .agg #[I 0,I 65536,I 0]) (by simp [results,Tryz.results86,go_sem,g0,g1,g2]) rfl
  ⟨rfl,(y07 ((((Kept.refl w).alloc _ _).alloc _ _).trans k1) (by omega) _ _ _).alloc _ _⟩
theorem ye3 (x y z : Int) (w : World) (h : (long x y z == 0) = false) :
  Calls Tryz.prog 86 #[.agg #[I x,I y,I z]] w fun e w' => e = .returned (.agg #[I (div x (long x y z)),I (div y (long x y z)),I (div z (long x y z))]) ∧ Kept w w' := by
 have hmf := hmfT;go_enter Tryz.func86,Tryz.ntmps86
 go_wp2_with fail
 refine (y24 _ _ _ _).mono ?_; rintro e w1 ⟨rfl,k1⟩;have hz : w.heap.size + 1 < w1.heap.size := by have := k1.below.size; simp at this; omega
 have b0 := later (y00 k1 (a := Y w.heap.size 0) (v := I x) (by go_simp));have b1 := later (y00 k1 (a := Y w.heap.size 1) (v := I y) (by go_simp));have b2 := later (y00 k1 (a := Y w.heap.size 2) (v := I z) (by go_simp));have c0 : w1.cell? (Y (w.heap.size + 1) 0) = some (I 0) := y00 k1 (by go_simp);have c1 : w1.cell? (Y (w.heap.size + 1) 1) = some (I 0) := y00 k1 (by go_simp);have c2 : w1.cell? (Y (w.heap.size + 1) 2) = some (I 0) := y00 k1 (by go_simp);have f0 : w1.frozen? (Y (w.heap.size + 1) 0) = false := y01 k1 (by go_simp);have f1 : w1.frozen? (Y (w.heap.size + 1) 1) = false := y01 k1 (by go_simp);have f2 : w1.frozen? (Y (w.heap.size + 1) 2) = false := y01 k1 (by go_simp);go_wp2_with fail
 refine (y2g 130 _ (long x y z) (fun n _ => div n (long x y z)) (enters_of Tryz.func130 (by kernel_rfl) rfl) (fun n m w' h => y9n _ _ n m w' h) x y z x y z _ (by go_simp)).mono ?_;rintro e w2 ⟨rfl,k2⟩;replace c0 := y00 k2 (later c0 _);replace c1 := y00 k2 (later c1 _);replace c2 := y00 k2 (later c2 _);replace f0 := y01 k2 (laterF f0 _ _);replace f1 := y01 k2 (laterF f1 _ _);replace f2 := y01 k2 (laterF f2 _ _);clear b0 b1 b2;go_wp2
 obtain ⟨e0,e1,e2⟩ := y0b (v0 := I (div x (long x y z))) (v1 := I (div y (long x y z))) (v2 := I (div z (long x y z))) c0 c1 c2
 exact bodyPost_ret (v := .agg #[I (div x (long x y z)),I (div y (long x y z)),I (div z (long x y z))]) (by simp [results,Tryz.results86,go_sem,e0,e1,e2]) rfl
  ⟨rfl,y07 ((((((Kept.refl w).alloc _ _).alloc _ _).trans k1).alloc _ _).trans k2) (by omega) _ _ _⟩
theorem y71 (k : Int) (w : World) :
  Calls Tryz.prog 102 #[I k] w fun e w' => ∃ p,e = .returned (.func (.func 141) #[] #[.pointer (some p)]) ∧ Kept w w' ∧ w'.cell? p = some (I k) := by
 have hmf := hmfT;go_enter Tryz.func102,Tryz.ntmps102
 go_wp2
 go_ret
 exact ⟨_,rfl,(Kept.refl _).alloc _ _,by go_simp⟩
end Go.Proofs.YtbenlgandjjopaaGreatDoor
