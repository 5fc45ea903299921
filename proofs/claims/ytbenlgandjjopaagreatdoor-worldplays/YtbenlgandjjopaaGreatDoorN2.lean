/- . -/
import Derived.Test.YtbenlgandjjopaaGreatDoorN1
import Derived.Deep.QuietTactic
import Derived.BigQuiet
import Derived.Deep.CutRange
import Derived.Deep.CutBlock
import Derived.Deep.LoopGhost
open Go.Value renaming int → J
open Go.IntKind renaming i64 → U
namespace Go.Proofs.YtbenlgandjjopaaGreatDoor
set_option maxRecDepth 100000
open Go.ChangeShapes Go.WideShapes Go.ChangeAt Go.RowKit
variable {w w' a w1 c w2 : World} {b b0 : Nat} {D E : List Nat} {f : Int} {r l : Option Nat} {v0 v1 v2 v : Value} {p : Addr}
theorem ykt (x y z k : Int) (w : World) (h : k < 0) :
  Calls Tryz.prog 62 #[.agg #[I x,I y,I z],I k] w fun e w' => e = .returned (.agg #[I (cl 0 x),I (cl 0 y),I (cl 0 z)]) ∧ Kept w w' := by
 go_enter Tryz.func62,Tryz.ntmps62
 go_wp2
 go_region_held3 (fun w' => Kept w w' ∧ Zc w' w.heap.size 0 x ∧ Zc w' w.heap.size 1 y ∧ Zc w' w.heap.size 2 z ∧ w'.cell? (Y (w.heap.size + 1) 0) = some (cellV w' (Y (w.heap.size + 1) 0)) ∧ w'.cell? (Y (w.heap.size + 1) 1) = some (cellV w' (Y (w.heap.size + 1) 1)) ∧ w'.cell? (Y (w.heap.size + 1) 2) = some (cellV w' (Y (w.heap.size + 1) 2)) ∧ w'.frozen? (Y (w.heap.size + 1) 0) = false ∧ w'.frozen? (Y (w.heap.size + 1) 1) = false ∧ w'.frozen? (Y (w.heap.size + 1) 2) = false)
  (first | (refine Room3o.step kk ?_; assumption) | exact Room3o.start .. | (refine Room3o.put 1 2 _ (by omega) (Room3o.put 1 1 _ (by omega) (Room3o.put 1 0 _ (by omega) ?_)); assumption))
  (first | (go_at_call 102; refine (y71 _ _).mono ?_; rintro e w' ⟨p,rfl,kk,hpc⟩) | (go_at_call 101; refine (y4t 141 p 0 (cl 0) (enters_of Tryz.func141 (by kernel_rfl) rfl) (fun n w' h => y5x p _ n w' (by omega) (by omega) h) x y z _ hpc).mono ?_; rintro e w' ⟨rfl,kk⟩))
 rename_i hh;go_wp2
 obtain ⟨hk,_,_,_,c0,c1,c2,_⟩ := hh;obtain ⟨e0,e1,e2⟩ := set3 c0 c1 c2;clear c0 c1 c2;exact bodyPost_ret (v := .agg #[I (cl 0 x),I (cl 0 y),I (cl 0 z)]) (by simp [results,Tryz.results62,go_sem,e0,e1,e2]) rfl ⟨rfl,hk⟩
theorem yk6 (x y z k : Int) (w : World) (h : ¬ k < 0) (h' : k ≤ 9223372036854775807) :
  Calls Tryz.prog 62 #[.agg #[I x,I y,I z],I k] w fun e w' => e = .returned (.agg #[I (cl k x),I (cl k y),I (cl k z)]) ∧ Kept w w' := by
 go_enter Tryz.func62,Tryz.ntmps62
 go_wp2
 go_region_held3 (fun w' => Kept w w' ∧ Zc w' w.heap.size 0 x ∧ Zc w' w.heap.size 1 y ∧ Zc w' w.heap.size 2 z ∧ w'.cell? (Y (w.heap.size + 1) 0) = some (cellV w' (Y (w.heap.size + 1) 0)) ∧ w'.cell? (Y (w.heap.size + 1) 1) = some (cellV w' (Y (w.heap.size + 1) 1)) ∧ w'.cell? (Y (w.heap.size + 1) 2) = some (cellV w' (Y (w.heap.size + 1) 2)) ∧ w'.frozen? (Y (w.heap.size + 1) 0) = false ∧ w'.frozen? (Y (w.heap.size + 1) 1) = false ∧ w'.frozen? (Y (w.heap.size + 1) 2) = false)
  (first | (refine Room3o.step kk ?_; assumption) | exact Room3o.start .. | (refine Room3o.put 1 2 _ (by omega) (Room3o.put 1 1 _ (by omega) (Room3o.put 1 0 _ (by omega) ?_)); assumption))
  (first | (go_at_call 102; refine (y71 _ _).mono ?_; rintro e w' ⟨p,rfl,kk,hpc⟩) | (go_at_call 101; refine (y4t 141 p k (cl k) (enters_of Tryz.func141 (by kernel_rfl) rfl) (fun n w' h => y5x p _ n w' (by omega) (by omega) h) x y z _ hpc).mono ?_; rintro e w' ⟨rfl,kk⟩))
 rename_i hh;go_wp2
 obtain ⟨hk,_,_,_,c0,c1,c2,_⟩ := hh;obtain ⟨e0,e1,e2⟩ := set3 c0 c1 c2;clear c0 c1 c2;exact bodyPost_ret (v := .agg #[I (cl k x),I (cl k y),I (cl k z)]) (by simp [results,Tryz.results62,go_sem,e0,e1,e2]) rfl ⟨rfl,hk⟩
theorem ydo (x y z k : Int) (w : World) (h : k < 0) :
  Calls Tryz.prog 33 #[.agg #[I x,I y,I z],I k] w fun e w' => e = .returned (.agg #[I (cl 0 x),I (cl 0 y),I (cl 0 z)]) ∧ Kept w w' := by
 have hmf := hmfT;go_enter Tryz.func33,Tryz.ntmps33
 go_wp2_with fail
 refine (y2g 65 _ 0 (fun n _ => cl 0 n) (enters_of Tryz.func65 (by kernel_rfl) rfl) (fun n m w' h => y46 _ _ n m w' (by omega) (by omega) h) x y z x y z _ (by go_simp)).mono ?_;rintro e w1 ⟨rfl,k1⟩;have c0 : w1.cell? (Y (w.heap.size + 1 + 1) 0) = some (I 0) := y00 k1 (by go_simp);have c1 : w1.cell? (Y (w.heap.size + 1 + 1) 1) = some (I 0) := y00 k1 (by go_simp);have c2 : w1.cell? (Y (w.heap.size + 1 + 1) 2) = some (I 0) := y00 k1 (by go_simp);have f0 : w1.frozen? (Y (w.heap.size + 1 + 1) 0) = false := y01 k1 (by go_simp);have f1 : w1.frozen? (Y (w.heap.size + 1 + 1) 1) = false := y01 k1 (by go_simp);have f2 : w1.frozen? (Y (w.heap.size + 1 + 1) 2) = false := y01 k1 (by go_simp);go_wp2
 obtain ⟨e0,e1,e2⟩ := y0b (v0 := I (cl 0 x)) (v1 := I (cl 0 y)) (v2 := I (cl 0 z)) c0 c1 c2
 exact bodyPost_ret (v := .agg #[I (cl 0 x),I (cl 0 y),I (cl 0 z)]) (by simp [results,Tryz.results33,go_sem,e0,e1,e2]) rfl
  ⟨rfl,y07 (((((Kept.refl w).alloc _ _).alloc _ _).alloc _ _).trans k1) (by omega) _ _ _⟩
theorem yd6 (x y z k : Int) (w : World) (h : ¬ k < 0) (h' : k ≤ 9223372036854775807) :
  Calls Tryz.prog 33 #[.agg #[I x,I y,I z],I k] w fun e w' => e = .returned (.agg #[I (cl k x),I (cl k y),I (cl k z)]) ∧ Kept w w' := by
 have hmf := hmfT;go_enter Tryz.func33,Tryz.ntmps33
 go_wp2_with fail
 refine (y2g 65 _ k (fun n _ => cl k n) (enters_of Tryz.func65 (by kernel_rfl) rfl) (fun n m w' h => y46 _ _ n m w' (by omega) (by omega) h) x y z x y z _ (by go_simp)).mono ?_;rintro e w1 ⟨rfl,k1⟩;have c0 : w1.cell? (Y (w.heap.size + 1 + 1) 0) = some (I 0) := y00 k1 (by go_simp);have c1 : w1.cell? (Y (w.heap.size + 1 + 1) 1) = some (I 0) := y00 k1 (by go_simp);have c2 : w1.cell? (Y (w.heap.size + 1 + 1) 2) = some (I 0) := y00 k1 (by go_simp);have f0 : w1.frozen? (Y (w.heap.size + 1 + 1) 0) = false := y01 k1 (by go_simp);have f1 : w1.frozen? (Y (w.heap.size + 1 + 1) 1) = false := y01 k1 (by go_simp);have f2 : w1.frozen? (Y (w.heap.size + 1 + 1) 2) = false := y01 k1 (by go_simp);go_wp2
 obtain ⟨e0,e1,e2⟩ := y0b (v0 := I (cl k x)) (v1 := I (cl k y)) (v2 := I (cl k z)) c0 c1 c2
 exact bodyPost_ret (v := .agg #[I (cl k x),I (cl k y),I (cl k z)]) (by simp [results,Tryz.results33,go_sem,e0,e1,e2]) rfl
  ⟨rfl,y07 (((((Kept.refl w).alloc _ _).alloc _ _).alloc _ _).trans k1) (by omega) _ _ _⟩
def unitPart (l d n : Int) : Int := if l = 0 then d else div n l
theorem y9v (x y z : Int) (w : World) :
  Calls Tryz.prog 123 #[.agg #[I x,I y,I z]] w fun e w' => e = .returned (.agg #[I (unitPart (long x y z) 0 x),I (unitPart (long x y z) 65536 y),I (unitPart (long x y z) 0 z)]) ∧ Kept w w' := by
 unfold unitPart;by_cases h : long x y z = 0
 ·rw [if_pos h,if_pos h,if_pos h]; exact yit x y z w h
 ·rw [if_neg h,if_neg h,if_neg h]; exact ykh x y z w (by simpa using h)
theorem y3x (x y z : Int) (w : World) :
  Calls Tryz.prog 86 #[.agg #[I x,I y,I z]] w fun e w' => e = .returned (.agg #[I (unitPart (long x y z) 0 x),I (unitPart (long x y z) 65536 y),I (unitPart (long x y z) 0 z)]) ∧ Kept w w' := by
 unfold unitPart;by_cases h : long x y z = 0
 ·rw [if_pos h,if_pos h,if_pos h]; exact ydk x y z w h
 ·rw [if_neg h,if_neg h,if_neg h]; exact ye3 x y z w (by simpa using h)
theorem y28 (x y z k : Int) (w : World) (h' : k ≤ 9223372036854775807) :
  Calls Tryz.prog 62 #[.agg #[I x,I y,I z],I k] w fun e w' => e = .returned (.agg #[I (cl (bound k) x),I (cl (bound k) y),I (cl (bound k) z)]) ∧ Kept w w' := by
 unfold bound;by_cases h : k < 0
 ·rw [if_pos h]; exact ykt x y z k w h
 ·rw [if_neg h]; exact yk6 x y z k w h h'
theorem y0n (x y z k : Int) (w : World) (h' : k ≤ 9223372036854775807) :
  Calls Tryz.prog 33 #[.agg #[I x,I y,I z],I k] w fun e w' => e = .returned (.agg #[I (cl (bound k) x),I (cl (bound k) y),I (cl (bound k) z)]) ∧ Kept w w' := by
 unfold bound;by_cases h : k < 0
 ·rw [if_pos h]; exact ydo x y z k w h
 ·rw [if_neg h]; exact yd6 x y z k w h h'
set_option linter.unusedVariables false
set_option linter.unusedSimpArgs false
structure Bx where
 x0 : Int
 x1 : Int
 x2 : Int
 x3 : Int
 x4 : Int
 x5 : Int
structure Nd where
 id : Int
 box : Bx
 room : Bx
 high : Int
 up : Option Nat
 l : Option Nat
 r : Option Nat
variable {n : Nd}
def bx0 : Bx := ⟨0,0,0,0,0,0⟩
def ptr : Option Nat → Value
 | none => .pointer none
 | some b => .pointer (some ⟨b,0,none⟩)
@[simp] theorem y7p : ptr none = .pointer none := rfl
@[simp] theorem y0t (b : Nat) : ptr (some b) = .pointer (some (Y b 0)) := rfl
def Nd.cells (n : Nd) : Array Value := #[J U n.id,J U n.box.x0,J U n.box.x1,J U n.box.x2,J U n.box.x3,J U n.box.x4,J U n.box.x5,J U n.room.x0,J U n.room.x1,J U n.room.x2,J U n.room.x3,J U n.room.x4,J U n.room.x5,J U n.high,ptr n.up,ptr n.l,ptr n.r]
def NodeAt (w : World) (b : Nat) (n : Nd) : Prop := w.heap[b]? = some (.cells n.cells 142)
def TreeAt (w : World) (t : Nat) (fat : Int) (root lv : Option Nat) : Prop := w.heap[t]? = some (.cells #[J U fat,ptr root,.map lv] 113)
theorem NodeAt.lt (h : NodeAt w b n) : b < w.heap.size := (Array.getElem?_eq_some_iff.1 h).1
theorem TreeAt.lt (h : TreeAt w b f r l) : b < w.heap.size := (Array.getElem?_eq_some_iff.1 h).1
theorem NodeAt.off (h : NodeAt w b n) (i : Nat) : w.cell? (Y b i) = n.cells[i]? := by
 unfold NodeAt at h; simp [World.cell?,h]
theorem NodeAt.free (h : NodeAt w b n) (i : Nat) : w.frozen? (Y b i) = false := by
 unfold NodeAt at h; simp [World.frozen?,h]
theorem NodeAt.c0 (h : NodeAt w b n) : w.cell? (Y b 0) = some (I n.id) := h.off 0
theorem NodeAt.c1 (h : NodeAt w b n) : w.cell? (Y b 1) = some (I n.box.x0) := h.off 1
theorem NodeAt.c2 (h : NodeAt w b n) : w.cell? (Y b 2) = some (I n.box.x1) := h.off 2
theorem NodeAt.c3 (h : NodeAt w b n) : w.cell? (Y b 3) = some (I n.box.x2) := h.off 3
theorem NodeAt.c4 (h : NodeAt w b n) : w.cell? (Y b 4) = some (I n.box.x3) := h.off 4
theorem NodeAt.c5 (h : NodeAt w b n) : w.cell? (Y b 5) = some (I n.box.x4) := h.off 5
theorem NodeAt.c6 (h : NodeAt w b n) : w.cell? (Y b 6) = some (I n.box.x5) := h.off 6
theorem NodeAt.c7 (h : NodeAt w b n) : w.cell? (Y b 7) = some (I n.room.x0) := h.off 7
theorem NodeAt.c8 (h : NodeAt w b n) : w.cell? (Y b 8) = some (I n.room.x1) := h.off 8
theorem NodeAt.c9 (h : NodeAt w b n) : w.cell? (Y b 9) = some (I n.room.x2) := h.off 9
theorem NodeAt.c10 (h : NodeAt w b n) : w.cell? (Y b 10) = some (I n.room.x3) := h.off 10
theorem NodeAt.c11 (h : NodeAt w b n) : w.cell? (Y b 11) = some (I n.room.x4) := h.off 11
theorem NodeAt.c12 (h : NodeAt w b n) : w.cell? (Y b 12) = some (I n.room.x5) := h.off 12
theorem NodeAt.c13 (h : NodeAt w b n) : w.cell? (Y b 13) = some (I n.high) := h.off 13
theorem NodeAt.c14 (h : NodeAt w b n) : w.cell? (Y b 14) = some (ptr n.up) := h.off 14
theorem NodeAt.c15 (h : NodeAt w b n) : w.cell? (Y b 15) = some (ptr n.l) := h.off 15
theorem NodeAt.c16 (h : NodeAt w b n) : w.cell? (Y b 16) = some (ptr n.r) := h.off 16
theorem TreeAt.c0 (h : TreeAt w b f r l) : w.cell? (Y b 0) = some (I f) := by unfold TreeAt at h; simp [World.cell?,h]
theorem TreeAt.c1 (h : TreeAt w b f r l) : w.cell? (Y b 1) = some (ptr r) := by unfold TreeAt at h; simp [World.cell?,h]
theorem TreeAt.c2 (h : TreeAt w b f r l) : w.cell? (Y b 2) = some (.map l) := by unfold TreeAt at h; simp [World.cell?,h]
theorem TreeAt.free (h : TreeAt w b f r l) (i : Nat) : w.frozen? (Y b i) = false := by unfold TreeAt at h; simp [World.frozen?,h]
theorem y0f {c : Array Value} {t : TypeId} (h : w.heap[b]? = some (.cells c t)) (i : Nat) (v : Value) : (w.setCell (Y b i) v).heap[b]? = some (.cells (c.setIfInBounds i v) t) := by
 simp only [World.setCell,Array.getElem?_modify,if_true,h,Option.map_some]; rfl
theorem NodeAt.putHigh (h : NodeAt w b n) (k : Int) : NodeAt (w.setCell (Y b 13) (I k)) b { n with high := k } := y0f h _ _
theorem NodeAt.putUp (h : NodeAt w b n) (k : Option Nat) : NodeAt (w.setCell (Y b 14) (ptr k)) b { n with up := k } := y0f h _ _
theorem NodeAt.putL (h : NodeAt w b n) (k : Option Nat) : NodeAt (w.setCell (Y b 15) (ptr k)) b { n with l := k } := y0f h _ _
theorem NodeAt.putR (h : NodeAt w b n) (k : Option Nat) : NodeAt (w.setCell (Y b 16) (ptr k)) b { n with r := k } := y0f h _ _
theorem NodeAt.putRoom (h : NodeAt w b n) (k : Bx) : NodeAt ((((((w.setCell (Y b 7) (I k.x0)).setCell (Y b 8) (I k.x1)).setCell (Y b 9) (I k.x2)).setCell (Y b 10) (I k.x3)).setCell (Y b 11) (I k.x4)).setCell (Y b 12) (I k.x5)) b { n with room := k } :=
 y0f (y0f (y0f (y0f (y0f (y0f h _ _) _ _) _ _) _ _) _ _) _ _
theorem NodeAt.putBox (h : NodeAt w b n) (k : Bx) : NodeAt ((((((w.setCell (Y b 1) (I k.x0)).setCell (Y b 2) (I k.x1)).setCell (Y b 3) (I k.x2)).setCell (Y b 4) (I k.x3)).setCell (Y b 5) (I k.x4)).setCell (Y b 6) (I k.x5)) b { n with box := k } :=
 y0f (y0f (y0f (y0f (y0f (y0f h _ _) _ _) _ _) _ _) _ _) _ _
theorem TreeAt.putRoot (h : TreeAt w b f r l) (k : Option Nat) : TreeAt (w.setCell (Y b 1) (ptr k)) b f k l := y0f h _ _
theorem TreeAt.putMap (h : TreeAt w b f r l) (k : Option Nat) : TreeAt (w.setCell (Y b 2) (.map k)) b f r k := y0f h _ _
structure Only (D : List Nat) (w w' : World) : Prop where
 os : w'.os = w.os
 tape : w'.tape = w.tape
 output : w'.output = w.output
 size : w.heap.size ≤ w'.heap.size
 block : ∀ b,b < w.heap.size → b ∉ D → w'.heap[b]? = w.heap[b]?
theorem Only.refl (D : List Nat) (w : World) : Only D w w := ⟨rfl,rfl,rfl,Nat.le_refl _,fun _ _ _ => rfl⟩
theorem Only.mono (h : Only D w w') (s : ∀ b ∈ D,b ∈ E ∨ w.heap.size ≤ b) : Only E w w' :=
 ⟨h.os,h.tape,h.output,h.size,fun b hb hE => h.block b hb (fun hD => by rcases s b hD with k | k; exact hE k; omega)⟩
theorem Only.trans {D : List Nat} {a b c : World} (h : Only D a b) (k : Only D b c) : Only D a c :=
 ⟨k.os.trans h.os,k.tape.trans h.tape,k.output.trans h.output,Nat.le_trans h.size k.size,fun i hi hD => (k.block i (Nat.lt_of_lt_of_le hi h.size) hD).trans (h.block i hi hD)⟩
theorem Only.then {b : World} (h : Only D a b) (k : Only E b c) (s : ∀ x ∈ E,x ∈ D ∨ a.heap.size ≤ x) : Only D a c :=
 ⟨k.os.trans h.os,k.tape.trans h.tape,k.output.trans h.output,Nat.le_trans h.size k.size,fun i hi hD => (k.block i (Nat.lt_of_lt_of_le hi h.size) (fun hE => by rcases s i hE with q | q; exact hD q; omega)).trans (h.block i hi hD)⟩
theorem Only.of_kept (k : Kept w w') : Only D w w' :=
 ⟨k.below.os,k.below.tape,k.below.output,k.below.size,fun b hb _ => k.below.block b hb⟩
theorem Only.drew {D : List Nat} {a w : World} (h : Only D a w) : Only D a w.drew := ⟨h.os,h.tape,h.output,h.size,h.block⟩
theorem Only.setCell {D : List Nat} {a w : World} (h : Only D a w) {p : Addr} (hp : p.block ∈ D ∨ a.heap.size ≤ p.block) (v : Value) : Only D a (w.setCell p v) :=
 ⟨h.os,h.tape,h.output,by simpa [World.setCell] using h.size,fun b hb hD => by
  rw [Below.heap_setCell _ _ _ _ (fun e => by rcases hp with q | q; exact hD (e ▸ q); omega)]; exact h.block b hb hD⟩
theorem Only.alloc {D : List Nat} {a w : World} (h : Only D a w) (o : Obj) : Only D a (w.alloc o) :=
 ⟨h.os,h.tape,h.output,Nat.le_trans h.size (by simp),fun b hb hD => by rw [Below.heap_alloc _ _ _ (Nat.lt_of_lt_of_le hb h.size)]; exact h.block b hb hD⟩
theorem Only.grown {row : Option Nat} (h : Only D a w) (g : w.grownBy w' row) (s : ∀ k,row = some k → k ∈ D ∨ a.heap.size ≤ k) : Only D a w' :=
 ⟨g.os.trans h.os,g.tape.trans h.tape,g.output.trans h.output,Nat.le_trans h.size g.size,fun b hb hD => (g.block b (Nat.lt_of_lt_of_le hb h.size) (fun e => by rcases s b e.symm with q | q; exact hD q; omega)).trans (h.block b hb hD)⟩
theorem Only.below (h : Only D w w') {B : Nat} (s : ∀ b ∈ D,B ≤ b) (hB : B ≤ w.heap.size) : Below B w w' :=
 ⟨h.os,h.tape,h.output,h.size,fun k hk => h.block k (by omega) (fun hD => by have := s k hD; omega)⟩
theorem Only.node (h : Only D w w') (s : b ∉ D) (k : NodeAt w b n) : NodeAt w' b n := (h.block b k.lt s).trans k
theorem Only.tree (h : Only D w w') (s : b ∉ D) (k : TreeAt w b f r l) : TreeAt w' b f r l := (h.block b k.lt s).trans k
theorem NodeAt.drewN {w : World} {b : Nat} {n : Nd} (h : NodeAt w b n) (k : Nat) : NodeAt (w.drewN k) b n := h
theorem NodeAt.drew {w : World} {b : Nat} {n : Nd} (h : NodeAt w b n) : NodeAt w.drew b n := h
theorem NodeAt.kept (h : NodeAt w b n) (k : Kept w w') : NodeAt w' b n := (k.below.block b h.lt).trans h
theorem NodeAt.far (h : NodeAt w b n) (hp : b ≠ p.block) (v : Value) : NodeAt (w.setCell p v) b n := (Below.heap_setCell _ _ _ _ hp).trans h
theorem TreeAt.far (h : TreeAt w b f r l) (hp : b ≠ p.block) (v : Value) : TreeAt (w.setCell p v) b f r l := (Below.heap_setCell _ _ _ _ hp).trans h
theorem Only.drewN {D : List Nat} (w : World) (k : Nat) : Only D w (w.drewN k) := ⟨rfl,rfl,rfl,Nat.le_refl _,fun _ _ _ => rfl⟩
def beyX (m x y z : Int) : Bool := !decide (cl m x = x ∧ cl m y = y ∧ cl m z = z)
def upX (n m : Int) : Bool := decide (0 ≤ n ∧ n ≤ m)
def BeyR (w : World) (b0 : Nat) (v0 v1 v2 : Value) (w' : World) : Prop :=
 Kept w w' ∧
 w'.cell? ⟨b0,0,none⟩ = some v0 ∧
 w'.cell? ⟨b0,1,none⟩ = some v1 ∧
 w'.cell? ⟨b0,2,none⟩ = some v2
theorem BeyR.step (k : Kept w1 w2) (h : BeyR w b0 v0 v1 v2 w1) : BeyR w b0 v0 v1 v2 w2 := by
 obtain ⟨h0,h1,h2,h3⟩ := h;exact ⟨h0.trans k,y00 k h1,y00 k h2,y00 k h3⟩
theorem BeyR.drew {w w1 : World} {b0 : Nat} {v0 v1 v2 : Value} (h : BeyR w b0 v0 v1 v2 w1) : BeyR w b0 v0 v1 v2 w1.drew := h.step kd
def BeyRAt (b0 : Nat) (v0 v1 v2 : Value) (w' : World) : Prop :=
 w'.cell? ⟨b0,0,none⟩ = some v0 ∧
 w'.cell? ⟨b0,1,none⟩ = some v1 ∧
 w'.cell? ⟨b0,2,none⟩ = some v2
theorem BeyRAt.step (k : Kept w1 w2) (h : BeyRAt b0 v0 v1 v2 w1) : BeyRAt b0 v0 v1 v2 w2 := by
 obtain ⟨h1,h2,h3⟩ := h;exact ⟨y00 k h1,y00 k h2,y00 k h3⟩
theorem BeyRAt.start (h : BeyRAt b0 v0 v1 v2 w1) : BeyR w1 b0 v0 v1 v2 w1.drew := ⟨kd,h.step kd⟩
theorem y6s {ρ : Operand → Value} {op : Oper} {j k : Nat} {x y z x' y' z' : Int} (ho : op.op = .binOp .neq 23 (.tmp j) (.tmp k) 23) (hj : ρ (.tmp j) = .agg #[I x,I y,I z]) (hk : ρ (.tmp k) = .agg #[I x',I y',I z']) : (execOp ρ op).run Tryz.prog w = .ok (.value (.bool (!decide (x = x' ∧ y = y' ∧ z = z')))) w := by
 simp only [execOp,ho,hj,hk];by_cases h1 : x = x'
 ·subst h1
  by_cases h2 : y = y'
  ·subst h2
   by_cases h3 : z = z'
   ·subst h3
    go_simp <;> simp
   ·have : (z == z') = false := by simpa using h3
    go_simp <;> simp [h3]
  ·have : (y == y') = false := by simpa using h2
   go_simp <;> simp [h2]
 ·have : (x == x') = false := by simpa using h1
  go_simp <;> simp [h1]
theorem y2e (x y z m : Int) (w : World) (h : 0 ≤ m) (h' : m ≤ 9223372036854775807) : Calls Tryz.prog 29 #[.agg #[I x,I y,I z],I m] w fun e w' => e = .returned (.bool (beyX m x y z)) ∧ Kept w w' := by
 have HM : Hid (bound m = m ∧ m ≤ 9223372036854775807) := ⟨by unfold bound; rw [if_neg (by omega)],h'⟩;have HB : Hid (beyX m x y z = !decide (cl m x = x ∧ cl m y = y ∧ cl m z = z)) := rfl;clear h h';go_enter Tryz.func29,Tryz.ntmps29
 go_upto_region 1 with fail
 have H1 : Hid (BeyRAt w.heap.size (I x) (I y) (I z) (w.alloc (.cells #[I x,I y,I z] 23)) ∧ Kept w (w.alloc (.cells #[I x,I y,I z] 23))) := by
  refine ⟨⟨?_,?_,?_⟩,(Kept.refl w).alloc _ _⟩ <;> go_simp
 revert H1;generalize w.heap.size = kb;generalize World.alloc w _ = w1;intro H1;refine wp_region_held_drew (S := (fun w' => Kept w1 w' ∧ Zc w' kb 0 x ∧ Zc w' kb 1 y ∧ Zc w' kb 2 z)) (by kernel_rfl) ?_ (fun hJ1 => ?_)
 ·exact BeyRAt.start H1.out.1
 refine tkU 0 (h:=tkU 1 (h:=tkV 3 ?_));try simp only [zP]
 refine rdW 2 rfl fun K hK => ?_;simp only [zQ];go_simp
 (go_at_call 62; refine (y28 _ _ _ _ _ HM.out.2).mono ?_; rintro e w2 ⟨rfl,k2⟩; rw [HM.out.1])
 try go_wp2_with fail
 refine hK.out _ _ ?_ fun hJ2 => ?_
 ·exact BeyR.step k2 hJ1
 clear hK K hJ1;try simp only [zP]
 refine tkW (v := .bool (beyX m x y z)) 4 rfl ?_ (by intro w'' hSw; (try dsimp only at hSw); simp only [zQ]; exact (by rw [HB.out]; exact y6s (j := 7) (k := 8) rfl (by kernel_rfl) (by kernel_rfl)));try simp only [zP]
 refine tkV 5 ?_;try simp only [zP]
 refine wpAnyH_done (by kernel_rfl) ?_ _;go_wp2_with fail
 go_ret
 exact ⟨rfl,H1.out.2.trans hJ2.1⟩
theorem y6j (n m : Int) (w : World) : Calls Tryz.prog 30 #[I n,I m] w fun e w' => e = .returned (.bool (upX n m)) ∧ w' = w := by
 unfold upX;go_enter Tryz.func30,Tryz.ntmps30
 by_cases h : 0 ≤ n
 ·have h1 : decide (0 ≤ n) = true := by simpa using h
  go_wp2_with fail
  go_ret
  exact ⟨by simp [h],rfl⟩
 ·have h1 : decide (0 ≤ n) = false := by simpa using h
  go_wp2_with fail
  go_ret
  exact ⟨by simp [h],rfl⟩
structure Bd where
 (id ow kd sx sy sz ax ay az vx vy vz px py pz ms tm : Int)
variable {B : Nat → Bd}
abbrev bdA (q : Bd) : Array Value := #[.int .i64 q.id,.int .i64 q.ow,.int .i64 q.kd,.int .i64 q.sx,.int .i64 q.sy,.int .i64 q.sz,.int .i64 q.ax,.int .i64 q.ay,.int .i64 q.az,.int .i64 q.vx,.int .i64 q.vy,.int .i64 q.vz,.int .i64 q.px,.int .i64 q.py,.int .i64 q.pz,.int .i64 q.ms,.int .i64 q.tm]
def bd0 : Bd := ⟨0,0,0,0,0,0,0,0,0,0,0,0,0,0,0,0,0⟩
def bdV (b : Bd) : Value := .agg #[J U b.id,J U b.ow,J U b.kd,J U b.sx,J U b.sy,J U b.sz,J U b.ax,J U b.ay,J U b.az,J U b.vx,J U b.vy,J U b.vz,J U b.px,J U b.py,J U b.pz,J U b.ms,J U b.tm]
def bc (b : Bd) : Nat → Value
 | 0 => J U b.id
 | 1 => J U b.ow
 | 2 => J U b.kd
 | 3 => J U b.sx
 | 4 => J U b.sy
 | 5 => J U b.sz
 | 6 => J U b.ax
 | 7 => J U b.ay
 | 8 => J U b.az
 | 9 => J U b.vx
 | 10 => J U b.vy
 | 11 => J U b.vz
 | 12 => J U b.px
 | 13 => J U b.py
 | 14 => J U b.pz
 | 15 => J U b.ms
 | _ => J U b.tm
def BodiesAt (w : World) (a : Option Addr) (n : Nat) (B : Nat → Bd) : Prop := ∀ j,j < n → ∃ g o,a = some ⟨g,o,none⟩ ∧ ∀ k,k < 17 → w.cell? ⟨g,o + j * 17 + k,none⟩ = some (bc (B j) k)
theorem y03 (o : Only D w w') {a : Addr} (h : w.cell? a = some v) (s : a.block ∉ D) : w'.cell? a = some v := by
 rw [World.cell?_of_block (w := w) (o.block a.block (World.block_lt_of_cell? w a h) s)]; exact h
theorem y09 (o : Only [] w w') {a : Addr} (h : w.cell? a = some v) : w'.cell? a = some v := y03 o h (by simp)
theorem BodiesAt.only {a : Option Addr} {n : Nat} (h : BodiesAt w a n B) (o : Only [] w w') : BodiesAt w' a n B := by
 intro j hj;obtain ⟨g,f,e,hc⟩ := h j hj;exact ⟨g,f,e,fun k hk => y09 o (hc k hk)⟩
def Alone (n : Nat) (B : Nat → Bd) : Prop := ∀ i k,i < n → k < n → (B i).id = (B k).id → i = k
theorem y7d (a b : Option Addr) (n c d : Nat) (B : Nat → Bd) (w : World) (hn : n ≤ 60) (h : BodiesAt w a n B) (h' : BodiesAt w b n B) :
  Calls Tryz.prog 27 #[.slice a n c,.slice b n d] w fun e w' => e = .returned (.bool true) ∧ Only [] w w' := by
 have HB : Hid (BodiesAt w a n B ∧ BodiesAt w b n B ∧ n ≤ 60) := ⟨h,h',hn⟩;clear h h' hn;go_enter Tryz.func27,Tryz.ntmps27
 go_wp2_with fail
 go_loopg [5] n (fun k idx wr => ∃ i : Nat,idx = I (i : Int) ∧ Hid (i ≤ n ∧ k = n - i) ∧ Hid (Only [] w wr))
 case atStart => exact ⟨0,rfl,⟨by omega,rfl⟩,Only.refl _ _⟩
 case round =>
  obtain ⟨i,rfl,H1,HO⟩ := hrel;have hn := HB.out.2.2;by_cases hi : i < n
  ·have hil : (i : Int) < (n : Int) := by omega
   obtain ⟨g,o,rfl,c1⟩ := (HB.out.1.only HO.out) i hi;obtain ⟨g',o',rfl,c2⟩ := (HB.out.2.1.only HO.out) i hi;generalize hb : B i = q at c1 c2;clear hb;have d0 := c1 0 (by omega); have e0 := c2 0 (by omega);have d1 := c1 1 (by omega); have e1 := c2 1 (by omega);have d2 := c1 2 (by omega); have e2 := c2 2 (by omega);have d3 := c1 3 (by omega); have e3 := c2 3 (by omega);have d4 := c1 4 (by omega); have e4 := c2 4 (by omega);have d5 := c1 5 (by omega); have e5 := c2 5 (by omega);have d6 := c1 6 (by omega); have e6 := c2 6 (by omega);have d7 := c1 7 (by omega); have e7 := c2 7 (by omega);have d8 := c1 8 (by omega); have e8 := c2 8 (by omega);have d9 := c1 9 (by omega); have e9 := c2 9 (by omega);have d10 := c1 10 (by omega); have e10 := c2 10 (by omega);have d11 := c1 11 (by omega); have e11 := c2 11 (by omega);have d12 := c1 12 (by omega); have e12 := c2 12 (by omega);have d13 := c1 13 (by omega); have e13 := c2 13 (by omega);have d14 := c1 14 (by omega); have e14 := c2 14 (by omega);have d15 := c1 15 (by omega); have e15 := c2 15 (by omega);have d16 := c1 16 (by omega); have e16 := c2 16 (by omega);simp only [bc,Nat.add_zero] at d0 e0 d1 e1 d2 e2 d3 e3 d4 e4 d5 e5 d6 e6 d7 e7 d8 e8 d9 e9 d10 e10 d11 e11 d12 e12 d13 e13 d14 e14 d15 e15 d16 e16;clear c1 c2;go_wp2_with fail
   go_quiet (fail)
   go_wp2_with fail
   go_roundg (n - (i + 1))
   case measure => have := H1.out.2; omega
   case rel => exact ⟨i + 1,by go_num,⟨by omega,rfl⟩,HO.out.trans (Only.drewN _ _)⟩
  ·have hil : ¬ (i : Int) < (n : Int) := by omega
   go_wp2_with fail
   go_ret
   exact ⟨rfl,HO.out⟩
def findX (B : Nat → Bd) (id : Int) : Nat → Option Nat
 | 0 => none
 | n + 1 => match findX B id n with
  | some i => some i
  | none => if (B n).id = id then some n else none
theorem y0c {B : Nat → Bd} {id : Int} : ∀ {n i : Nat},findX B id n = some i → i < n ∧ (B i).id = id
 | 0,i,h => by simp [findX] at h
 | n + 1,i,h => by
  simp only [findX] at h;split at h
  ·rename_i j hj
   injection h with h; subst h;have := y0c hj;exact ⟨by omega,this.2⟩
  ·split at h
   ·rename_i e
    injection h with h; subst h;exact ⟨by omega,e⟩
   ·cases h
theorem y4o {B : Nat → Bd} {id : Int} : ∀ {n : Nat},findX B id n = none → ∀ i,i < n → (B i).id ≠ id
 | 0,_,i,hi => by omega
 | n + 1,h,i,hi => by
  simp only [findX] at h;split at h
  ·cases h
  ·rename_i hn
   split at h
   ·cases h
   ·rename_i e
    by_cases q : i = n
    ·subst q; exact e
    ·exact y4o hn i (by omega)
theorem y3n {B : Nat → Bd} {id : Int} : ∀ {n i : Nat},i < n → (B i).id = id → (∀ x,x < i → (B x).id ≠ id) → findX B id n = some i
 | 0,i,h,_,_ => by omega
 | n + 1,i,h,e,l => by
  simp only [findX];by_cases q : i = n
  ·subst q
   cases hf : findX B id i with
   | some k => have := y0c hf; exact absurd this.2 (l k this.1)
   | none => simp [e]
  ·rw [y3n (by omega) e l]
theorem y3v {B C : Nat → Bd} {id : Int} (h : ∀ i,(B i).id = (C i).id) : ∀ n,findX B id n = findX C id n
 | 0 => rfl
 | n + 1 => by simp only [findX,y3v h n,h n]
def numX : Option Nat → Int
 | some i => i
 | none => -1
def lightX (m : Int) : Int := if m ≤ 0 then 0 else div 65536 m
structure V3 where
 (x y z : Int)
structure Tc where
 (a b : Int) (way : V3) (deep : Int)
def upd (B : Nat → Bd) (i : Nat) (b : Bd) : Nat → Bd := fun j => if j = i then b else B j
def atX (b : Bd) (x y z : Int) : Bd := { b with ax := x,ay := y,az := z }
def spX (b : Bd) (x y z : Int) : Bd := { b with vx := x,vy := y,vz := z }
def backX (b : Bd) (w : V3) (m : Int) : Bd := atX b (cl 65536000 (sub b.ax (mul w.x m))) (cl 65536000 (sub b.ay (mul w.y m))) (cl 65536000 (sub b.az (mul w.z m)))
def forthX (b : Bd) (w : V3) (m : Int) : Bd := atX b (cl 65536000 (add b.ax (mul w.x m))) (cl 65536000 (add b.ay (mul w.y m))) (cl 65536000 (add b.az (mul w.z m)))
def deepX (deep all : Int) : Int := div ((sub deep 655).tdiv 5) all
def partX (B : Nat → Bd) (i k : Nat) (x y all : Int) (w : V3) (deep : Int) : Nat → Bd :=
 let B1 := upd B i (backX (B i) w (mul (deepX deep all) x))
 upd B1 k (forthX (B1 k) w (mul (deepX deep all) y))
def stepX (n : Nat) (B : Nat → Bd) (t : Tc) : Nat → Bd :=
 match findX B t.a n,findX B t.b n with
 | some i,some k => if i = k ∨ t.deep ≤ 655 then B else
   if 0 < add (lightX (B i).ms) (lightX (B k).ms) then partX B i k (lightX (B i).ms) (lightX (B k).ms) (add (lightX (B i).ms) (lightX (B k).ms)) t.way t.deep else B
 | _,_ => B
def placesX (n : Nat) (B : Nat → Bd) (T : Nat → Tc) : Nat → Nat → Bd
 | 0 => B
 | m + 1 => stepX n (placesX n B T m) (T m)
theorem partX_id (B : Nat → Bd) (i k : Nat) (x y all : Int) (w : V3) (deep : Int) (j : Nat) : (partX B i k x y all w deep j).id = (B j).id ∧ (partX B i k x y all w deep j).ms = (B j).ms := by
 simp only [partX,upd,backX,forthX,atX];by_cases h1 : j = k
 ·subst h1
  by_cases h2 : j = i
  ·subst h2; simp
  ·simp [h2]
 ·by_cases h2 : j = i
  ·subst h2; simp [h1]
  ·simp [h1,h2]
theorem y5f (n : Nat) (B : Nat → Bd) (t : Tc) : stepX n B t = B ∨ ∃ i k x y all,stepX n B t = partX B i k x y all t.way t.deep := by
 unfold stepX
 cases findX B t.a n with
 | none => exact Or.inl rfl
 | some i =>
  cases findX B t.b n with
  | none => exact Or.inl rfl
  | some k =>
   simp only;by_cases h : i = k ∨ t.deep ≤ 655
   ·rw [if_pos h]; exact Or.inl rfl
   ·rw [if_neg h]
    by_cases h2 : 0 < add (lightX (B i).ms) (lightX (B k).ms)
    ·rw [if_pos h2]; exact Or.inr ⟨_,_,_,_,_,rfl⟩
    ·rw [if_neg h2]; exact Or.inl rfl
theorem stepX_id (n : Nat) (B : Nat → Bd) (t : Tc) (j : Nat) : (stepX n B t j).id = (B j).id ∧ (stepX n B t j).ms = (B j).ms := by
 rcases y5f n B t with h | ⟨i,k,x,y,all,h⟩
 ·rw [h]; exact ⟨rfl,rfl⟩
 ·rw [h]; exact partX_id ..
theorem y1z (n : Nat) (B : Nat → Bd) (T : Nat → Tc) : ∀ m j,(placesX n B T m j).id = (B j).id ∧ (placesX n B T m j).ms = (B j).ms
 | 0,j => ⟨rfl,rfl⟩
 | m + 1,j => by
  have h1 := stepX_id n (placesX n B T m) (T m) j;have h2 := y1z n B T m j;exact ⟨h1.1.trans h2.1,h1.2.trans h2.2⟩
theorem y32 (m : Int) (w : World) : Calls Tryz.prog 115 #[I m] w fun e w' => e = .returned (I (lightX m)) ∧ Kept w w' := by
 by_cases h : m ≤ 0
 ·have t : decide (m ≤ 0) = true := by simpa using h
  have HR : Hid (lightX m = 0) := if_pos h;clear h;go_enter Tryz.func115,Tryz.ntmps115
  go_wp2_with fail
  go_ret
  exact ⟨y1n HR.out.symm,Kept.refl _⟩
 ·have t : decide (m ≤ 0) = false := by simpa using h
  have HR : Hid (lightX m = div 65536 m) := if_neg h;clear h;go_enter Tryz.func115,Tryz.ntmps115
  go_wp2_with fail
  refine (y4e 65536 m _).mono ?_;rintro e w1 ⟨rfl,k1⟩;go_wp2_with fail
  go_ret
  exact ⟨y1n HR.out.symm,k1⟩
theorem y2b (q : Bd) (w : World) : Calls Tryz.prog 79 #[.agg (bdA q)] w fun e w' => e = .returned (I (lightX q.ms)) ∧ Kept w w' := by
 by_cases h : q.ms ≤ 0
 ·have t : decide (q.ms ≤ 0) = true := by simpa using h
  have HR : Hid (lightX q.ms = 0) := if_pos h;clear h;go_enter Tryz.func79,Tryz.ntmps79
  go_wp2_with fail
  go_ret
  exact ⟨y1n HR.out.symm,(Kept.refl _).alloc _ _⟩
 ·have t : decide (q.ms ≤ 0) = false := by simpa using h
  have HR : Hid (lightX q.ms = div 65536 q.ms) := if_neg h;clear h;go_enter Tryz.func79,Tryz.ntmps79
  go_wp2_with fail
  refine (y2d 65536 q.ms _).mono ?_;rintro e w1 ⟨rfl,hw⟩;subst hw;go_wp2_with fail
  go_ret
  exact ⟨y1n HR.out.symm,(Kept.refl _).alloc _ _⟩
theorem y1v (a : Option Addr) (n c : Nat) (B : Nat → Bd) (id : Int) (w : World) (hn : n ≤ 60) (h : BodiesAt w a n B) :
  Calls Tryz.prog 44 #[.slice a n c,I id] w fun e w' => e = .returned (I (numX (findX B id n))) ∧ Kept w w' := by
 have HB : Hid (BodiesAt w a n B ∧ n ≤ 60) := ⟨h,hn⟩;clear h hn;go_enter Tryz.func44,Tryz.ntmps44
 go_wp2_with fail
 go_loopg [9] n (fun k idx wr => ∃ i : Nat,idx = I (i : Int) ∧ Hid (i ≤ n ∧ k = n - i ∧ (∀ x,x < i → (B x).id ≠ id)) ∧ Hid (Kept w wr))
 case atStart => exact ⟨0,rfl,⟨by omega,rfl,fun x hx => by omega⟩,Kept.refl _⟩
 case round =>
  obtain ⟨i,rfl,H1,HO⟩ := hrel;have hn := HB.out.2;by_cases hi : i < n
  ·have hil : (i : Int) < (n : Int) := by omega
   obtain ⟨g,o,rfl,c1⟩ := (HB.out.1.only (Only.of_kept HO.out)) i hi;obtain ⟨q,hq⟩ : ∃ q,q = B i := ⟨_,rfl⟩;rw [← hq] at c1;have HQ : Hid (q = B i) := hq;clear hq;have d0 := c1 0 (by omega);have d1 := c1 1 (by omega);have d2 := c1 2 (by omega);have d3 := c1 3 (by omega);have d4 := c1 4 (by omega);have d5 := c1 5 (by omega);have d6 := c1 6 (by omega);have d7 := c1 7 (by omega);have d8 := c1 8 (by omega);have d9 := c1 9 (by omega);have d10 := c1 10 (by omega);have d11 := c1 11 (by omega);have d12 := c1 12 (by omega);have d13 := c1 13 (by omega);have d14 := c1 14 (by omega);have d15 := c1 15 (by omega);have d16 := c1 16 (by omega);simp only [bc,Nat.add_zero] at d0 d1 d2 d3 d4 d5 d6 d7 d8 d9 d10 d11 d12 d13 d14 d15 d16;clear c1;by_cases he : q.id = id
   ·have t : (q.id == id) = true := by simpa using he
    have HR : Hid (numX (findX B id n) = i) := by
     show numX (findX B id n) = i;rw [y3n hi (by rw [← HQ.out]; exact he) H1.out.2.2]; rfl
    clear he;go_wp2_with fail
    go_ret
    exact ⟨y1n HR.out.symm,(HO.out.alloc _ _)⟩
   ·have t : (q.id == id) = false := by simpa using he
    have HE : Hid (¬ q.id = id) := he;clear he;go_wp2_with fail
    go_roundg (n - (i + 1))
    case measure => have := H1.out.2.1; omega
    case rel =>
     refine ⟨i + 1,by go_num,⟨by omega,rfl,fun x hx => ?_⟩,HO.out.alloc _ _⟩;by_cases e : x = i
     ·subst e; rw [← HQ.out]; exact HE.out
     ·exact H1.out.2.2 x (by omega)
  ·have hil : ¬ (i : Int) < (n : Int) := by omega
   have HR : Hid (numX (findX B id n) = -1) := by
    show numX (findX B id n) = -1
    cases hf : findX B id n with
    | none => rfl
    | some k => have := y0c hf; exact absurd this.2 (H1.out.2.2 k (by have := H1.out.1; omega))
   go_wp2_with fail
   go_ret
   exact ⟨y1n HR.out.symm,HO.out⟩
end Go.Proofs.YtbenlgandjjopaaGreatDoor
