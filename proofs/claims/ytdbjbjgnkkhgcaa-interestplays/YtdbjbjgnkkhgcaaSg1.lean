/- What a call may turn; a Writer of package bits as it lies in memory; mayBe, fits, add, pieces: whichever numbers. -/
import Derived.Test.YtdbjbjgnkkhgcaaBt0
import Derived.Test.YtdbjbjgnkkhgcaaOnl
import Derived.Deep.QuietTactic
import Derived.BigQuiet
import Derived.Deep.CutRange
import Derived.Deep.LoopGhost
import Derived.LoopN
namespace Go.Proofs.Ytdbjbjgnkkhgcaa
open Go.ChangeShapes Go.WideShapes Go.ChangeAt Go.RowKit
set_option linter.unusedVariables false
set_option linter.unusedSimpArgs false

/-! A Writer: its bytes, and how many bits. -/
def wcells (l : List Nat) : Array Value := ((List.range 4000).map (fun k => Value.int .u8 ((byteAt l k : Nat) : Int)) ++ [Value.int .i64 ((l.length : Nat) : Int)]).toArray
structure WrAt (R : Array Value) (T : TypeId) (w : World) (x : Nat) (l : List Nat) : Prop where
  at_ : w.heap[x]? = some (.cells (wcells l ++ R) T)
  bits : Bits l
  len : l.length ≤ 32000
variable {R : Array Value} {T : TypeId}
theorem wcells_at (l : List Nat) (k : Nat) (h : k < 4000) : (wcells l)[k]? = some (.int .u8 ((byteAt l k : Nat) : Int)) := by
  unfold wcells
  rw [List.getElem?_toArray, List.getElem?_append_left (by simpa using h), List.getElem?_map, List.getElem?_range h]; rfl
theorem wcells_many (l : List Nat) : (wcells l)[4000]? = some (.int .i64 ((l.length : Nat) : Int)) := by
  unfold wcells
  rw [List.getElem?_toArray, List.getElem?_append_right (by simp)]; simp
theorem wcells_size (l : List Nat) : (wcells l).size = 4001 := by simp [wcells]
theorem WrAt.lt {w : World} {x : Nat} {l : List Nat} (h : WrAt R T w x l) : x < w.heap.size := (Array.getElem?_eq_some_iff.1 h.at_).1
theorem WrAt.off {w : World} {x : Nat} {l : List Nat} (h : WrAt R T w x l) (i : Nat) (hi : i < 4001) : w.cell? ⟨x, i, none⟩ = (wcells l)[i]? := by
  have e : (wcells l ++ R)[i]? = (wcells l)[i]? := Array.getElem?_append_left (by rw [wcells_size]; exact hi)
  simp [World.cell?, h.at_, e]
theorem WrAt.tail {w : World} {x : Nat} {l : List Nat} (h : WrAt R T w x l) (i : Nat) : w.cell? ⟨x, 4001 + i, none⟩ = R[i]? := by
  have e : (wcells l ++ R)[4001 + i]? = R[i]? := by
    rw [Array.getElem?_append_right (by rw [wcells_size]; omega), wcells_size, Nat.add_sub_cancel_left]
  simp [World.cell?, h.at_, e]
theorem app_set (A B : Array Value) (i : Nat) (v : Value) (h : i < A.size) : (A ++ B).setIfInBounds i v = A.setIfInBounds i v ++ B := by
  apply Array.ext_getElem?
  intro j
  rw [Array.getElem?_setIfInBounds, Array.getElem?_append, Array.getElem?_append, Array.getElem?_setIfInBounds, Array.size_setIfInBounds]
  by_cases e : i = j
  · subst e; simp [h]; omega
  · simp [e]
theorem WrAt.many {w : World} {x : Nat} {l : List Nat} (h : WrAt R T w x l) : w.cell? ⟨x, 4000, none⟩ = some (.int .i64 ((l.length : Nat) : Int)) := by rw [h.off _ (by omega), wcells_many]
theorem WrAt.byte {w : World} {x : Nat} {l : List Nat} (h : WrAt R T w x l) {k : Nat} (hk : k < 4000) : w.cell? ⟨x, k, none⟩ = some (.int .u8 ((byteAt l k : Nat) : Int)) := by rw [h.off _ (by omega), wcells_at _ _ hk]
theorem WrAt.free {w : World} {x : Nat} {l : List Nat} (h : WrAt R T w x l) (i : Nat) : w.frozen? ⟨x, i, none⟩ = false := by simp [World.frozen?, h.at_]
theorem WrAt.only {w w' : World} {x : Nat} {l : List Nat} (h : WrAt R T w x l) {D : List Nat} (o : Only D w w') (s : x ∉ D) : WrAt R T w' x l := ⟨(o.block x h.lt s).trans h.at_, h.bits, h.len⟩
theorem WrAt.drew {w : World} {x : Nat} {l : List Nat} (h : WrAt R T w x l) : WrAt R T w.drew x l := ⟨h.at_, h.bits, h.len⟩
theorem wcells_put (l : List Nat) (b : Nat) (hl : l.length < 32000) : ((wcells l).setIfInBounds (l.length / 8) (.int .u8 ((byteAt (l ++ [b]) (l.length / 8) : Nat) : Int))).setIfInBounds 4000 (.int .i64 (((l.length + 1 : Nat)) : Int)) = wcells (l ++ [b]) := by
  apply Array.ext_getElem?
  intro i
  rw [Array.getElem?_setIfInBounds, Array.size_setIfInBounds, wcells_size]
  by_cases e : 4000 = i
  · rw [if_pos e, if_pos (by omega), ← e, wcells_many, List.length_append]; rfl
  · rw [if_neg e, Array.getElem?_setIfInBounds, wcells_size]
    by_cases q : l.length / 8 = i
    · rw [if_pos q, if_pos (by omega), ← q, wcells_at _ _ (by omega)]
    · rw [if_neg q]
      by_cases p : i < 4000
      · rw [wcells_at _ _ p, wcells_at _ _ p, byteAt_other _ _ _ (fun e => q e.symm)]
      · rw [Array.getElem?_eq_none (by rw [wcells_size]; omega), Array.getElem?_eq_none (by rw [wcells_size]; omega)]
/-- One bit more. -/
theorem WrAt.put {w : World} {x : Nat} {l : List Nat} (h : WrAt R T w x l) (hl : l.length < 32000) {b : Nat} (hb : b ≤ 1) :
    WrAt R T ((w.setCell ⟨x, l.length / 8, none⟩ (.int .u8 ((byteAt (l ++ [b]) (l.length / 8) : Nat) : Int))).setCell ⟨x, 4000, none⟩ (.int .i64 (((l.length + 1 : Nat)) : Int))) x (l ++ [b]) := by
  refine ⟨?_, h.bits.app (fun c hc => by simp only [List.mem_singleton] at hc; omega), by simp only [List.length_append, List.length_singleton]; omega⟩
  rw [heap_put (heap_put h.at_ _ _), app_set _ _ _ _ (by rw [wcells_size]; have := h.len; omega), app_set _ _ _ _ (by rw [Array.size_setIfInBounds, wcells_size]; omega), wcells_put _ _ hl]
theorem wcells_nil : wcells [] = (List.replicate 4000 (Value.int .u8 0) ++ [Value.int .i64 0]).toArray := by
  have e : (List.range 4000).map (fun k => Value.int .u8 ((byteAt [] k : Nat) : Int)) = List.replicate 4000 (Value.int .u8 0) := by
    apply List.ext_getElem?
    intro i
    rw [List.getElem?_map, List.getElem?_replicate]
    by_cases p : i < 4000
    · rw [List.getElem?_range p, if_pos p, Option.map_some, byteAt_nil]; rfl
    · rw [if_neg p, List.getElem?_eq_none (by rw [List.length_range]; omega)]; rfl
  unfold wcells
  rw [e]
  rfl
theorem ofInt_nat (m a : Nat) (h : a < 2 ^ m) : (BitVec.ofInt m (a : Int)).toNat = a := by
  rw [BitVec.ofInt_natCast, BitVec.toNat_ofNat, Nat.mod_eq_of_lt h]
theorem wrap_i64 (n : Nat) (h : n < 2 ^ 63) : IntKind.i64.wrap (n : Int) = (n : Int) := by
  have e : (n : Int) % 2 ^ 64 = n := Int.emod_eq_of_lt (by omega) (by omega)
  simp only [IntKind.wrap, IntKind.bits, IntKind.signed, e]
  rw [if_neg]
  simp
  omega
theorem wrap_u8 (n : Nat) (h : n < 256) : IntKind.u8.wrap (n : Int) = (n : Int) := by
  have e : (n : Int) % 2 ^ 8 = n := Int.emod_eq_of_lt (by omega) (by omega)
  simp only [IntKind.wrap, IntKind.bits, IntKind.signed, e]
  rfl
theorem and_one (a : Nat) (h : a < 2 ^ 63) : Go.bits .and .i64 (a : Int) 1 = ((a % 2 : Nat) : Int) := by
  show IntKind.i64.wrap ((BitVec.ofInt 64 (a : Int) &&& BitVec.ofInt 64 ((1 : Nat) : Int)).toNat : Int) = _
  rw [BitVec.toNat_and, ofInt_nat 64 a (by omega), ofInt_nat 64 1 (by omega), Nat.and_one_is_mod]
  exact wrap_i64 _ (by omega)
theorem and_one_u8 (a : Nat) (h : a < 256) : Go.bits .and .u8 (a : Int) 1 = ((a % 2 : Nat) : Int) := by
  show IntKind.u8.wrap ((BitVec.ofInt 8 (a : Int) &&& BitVec.ofInt 8 ((1 : Nat) : Int)).toNat : Int) = _
  rw [BitVec.toNat_and, ofInt_nat 8 a (by omega), ofInt_nat 8 1 (by omega), Nat.and_one_is_mod]
  exact wrap_u8 _ (by omega)
theorem or_u8 (a b : Nat) (h : a < 256) (k : b < 256) : Go.bits .or .u8 (a : Int) (b : Int) = ((a ||| b : Nat) : Int) := by
  show IntKind.u8.wrap ((BitVec.ofInt 8 (a : Int) ||| BitVec.ofInt 8 (b : Int)).toNat : Int) = _
  rw [BitVec.toNat_or, ofInt_nat 8 a (by omega), ofInt_nat 8 b (by omega)]
  exact wrap_u8 _ (Nat.or_lt_two_pow (n := 8) h k)
theorem or_32 (a : Nat) (h : a < 32) : Go.bits .or .i64 32 (a : Int) = ((32 + a : Nat) : Int) := by
  show IntKind.i64.wrap ((BitVec.ofInt 64 ((32 : Nat) : Int) ||| BitVec.ofInt 64 (a : Int)).toNat : Int) = _
  rw [BitVec.toNat_or, ofInt_nat 64 32 (by omega), ofInt_nat 64 a (by omega)]
  have e := Nat.shiftLeft_add_eq_or_of_lt (i := 5) (b := a) h 1
  rw [show (1 : Nat) <<< 5 = 32 from rfl] at e
  rw [← e]
  exact wrap_i64 _ (by omega)

end Go.Proofs.Ytdbjbjgnkkhgcaa
