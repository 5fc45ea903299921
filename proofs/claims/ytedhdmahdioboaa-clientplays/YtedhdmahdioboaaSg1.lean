/- What a call may turn; a Writer of package bits as it lies in memory; mayBe, fits, add, pieces: whichever numbers. -/
import Derived.Test.YtedhdmahdioboaaBt0
import Derived.Deep.QuietTactic
import Derived.BigQuiet
import Derived.Deep.CutRange
import Derived.Deep.LoopGhost
import Derived.LoopN
namespace Go.Proofs.Ytedhdmahdioboaa
open Go.ChangeShapes Go.WideShapes Go.ChangeAt Go.RowKit
set_option linter.unusedVariables false
set_option linter.unusedSimpArgs false

/-- A store into one cell of a block. -/
theorem heap_put {w : World} {b : Nat} {c : Array Value} {t : TypeId} (h : w.heap[b]? = some (.cells c t)) (i : Nat) (v : Value) : (w.setCell ⟨b, i, none⟩ v).heap[b]? = some (.cells (c.setIfInBounds i v) t) := by
  simp only [World.setCell, Array.getElem?_modify, if_true, h, Option.map_some]; rfl
/-- Of the blocks that were there those of D alone may have turned. -/
structure Only (D : List Nat) (w w' : World) : Prop where
  os : w'.os = w.os
  tape : w'.tape = w.tape
  output : w'.output = w.output
  size : w.heap.size ≤ w'.heap.size
  block : ∀ b, b < w.heap.size → b ∉ D → w'.heap[b]? = w.heap[b]?
theorem Only.refl (D : List Nat) (w : World) : Only D w w := ⟨rfl, rfl, rfl, Nat.le_refl _, fun _ _ _ => rfl⟩
theorem Only.mono {D E : List Nat} {w w' : World} (h : Only D w w') (s : ∀ b ∈ D, b ∈ E ∨ w.heap.size ≤ b) : Only E w w' :=
  ⟨h.os, h.tape, h.output, h.size, fun b hb hE => h.block b hb (fun hD => by rcases s b hD with k | k; exact hE k; omega)⟩
theorem Only.trans {D : List Nat} {a b c : World} (h : Only D a b) (k : Only D b c) : Only D a c :=
  ⟨k.os.trans h.os, k.tape.trans h.tape, k.output.trans h.output, Nat.le_trans h.size k.size, fun i hi hD => (k.block i (Nat.lt_of_lt_of_le hi h.size) hD).trans (h.block i hi hD)⟩
/-- .. the second step may turn blocks that the first one has made. -/
theorem Only.then {D E : List Nat} {a b c : World} (h : Only D a b) (k : Only E b c) (s : ∀ x ∈ E, x ∈ D ∨ a.heap.size ≤ x) : Only D a c :=
  ⟨k.os.trans h.os, k.tape.trans h.tape, k.output.trans h.output, Nat.le_trans h.size k.size, fun i hi hD => (k.block i (Nat.lt_of_lt_of_le hi h.size) (fun hE => by rcases s i hE with q | q; exact hD q; omega)).trans (h.block i hi hD)⟩
theorem Only.of_kept {D : List Nat} {w w' : World} (k : Kept w w') : Only D w w' :=
  ⟨k.below.os, k.below.tape, k.below.output, k.below.size, fun b hb _ => k.below.block b hb⟩
theorem Only.of_below {D : List Nat} {w w' : World} (k : Below w.heap.size w w') : Only D w w' :=
  ⟨k.os, k.tape, k.output, k.size, fun b hb _ => k.block b hb⟩
theorem Only.drew {D : List Nat} {a w : World} (h : Only D a w) : Only D a w.drew := ⟨h.os, h.tape, h.output, h.size, h.block⟩
theorem Only.setCell {D : List Nat} {a w : World} (h : Only D a w) {p : Addr} (hp : p.block ∈ D ∨ a.heap.size ≤ p.block) (v : Value) : Only D a (w.setCell p v) :=
  ⟨h.os, h.tape, h.output, by simpa [World.setCell] using h.size, fun b hb hD => by
    rw [Below.heap_setCell _ _ _ _ (fun e => by rcases hp with q | q; exact hD (e ▸ q); omega)]; exact h.block b hb hD⟩
theorem Only.alloc {D : List Nat} {a w : World} (h : Only D a w) (o : Obj) : Only D a (w.alloc o) :=
  ⟨h.os, h.tape, h.output, Nat.le_trans h.size (by simp), fun b hb hD => by rw [Below.heap_alloc _ _ _ (Nat.lt_of_lt_of_le hb h.size)]; exact h.block b hb hD⟩
theorem Only.grown {D : List Nat} {a w w' : World} {row : Option Nat} (h : Only D a w) (g : w.grownBy w' row) (s : ∀ k, row = some k → k ∈ D ∨ a.heap.size ≤ k) : Only D a w' :=
  ⟨g.os.trans h.os, g.tape.trans h.tape, g.output.trans h.output, Nat.le_trans h.size g.size, fun b hb hD => (g.block b (Nat.lt_of_lt_of_le hb h.size) (fun e => by rcases s b e.symm with q | q; exact hD q; omega)).trans (h.block b hb hD)⟩
theorem Only.below {D : List Nat} {w w' : World} (h : Only D w w') {B : Nat} (s : ∀ b ∈ D, B ≤ b) (hB : B ≤ w.heap.size) : Below B w w' :=
  ⟨h.os, h.tape, h.output, h.size, fun k hk => h.block k (by omega) (fun hD => by have := s k hD; omega)⟩
theorem Only.cell {D : List Nat} {w w' : World} (h : Only D w w') {a : Addr} {v : Value} (k : w.cell? a = some v) (s : a.block ∉ D) : w'.cell? a = some v := by
  have hb := h.block a.block (World.block_lt_of_cell? w a k) s
  rw [← k]; simp only [World.cell?, hb]

/-! A Writer: its bytes, and how many bits. -/
def wcells (l : List Nat) : Array Value := ((List.range 4000).map (fun k => Value.int .u8 ((byteAt l k : Nat) : Int)) ++ [Value.int .i64 ((l.length : Nat) : Int)]).toArray
structure WrAt (R : Array Value) (T : TypeId) (w : World) (x : Nat) (l : List Nat) : Prop where
  at_ : w.heap[x]? = some (.cells (wcells l ++ R) T)
  bits : Bits l
  len : l.length ≤ 32000
variable {R : Array Value} {T : TypeId}
theorem wcells_at (l : List Nat) (k : Nat) (h : k < 4000) : (wcells l)[k]? = some (.int .u8 ((byteAt l k : Nat) : Int)) := by
  unfold wcells
  rw [List.getElem?_toArray, List.getElem?_append_left (by simpa using h), List.getElem?_map, List.getElem?_range h]; rfl
theorem wcells_many (l : List Nat) : (wcells l)[4000]? = some (.int .i64 ((l.length : Nat) : Int)) := by
  unfold wcells
  rw [List.getElem?_toArray, List.getElem?_append_right (by simp)]; simp
theorem wcells_size (l : List Nat) : (wcells l).size = 4001 := by simp [wcells]
theorem WrAt.lt {w : World} {x : Nat} {l : List Nat} (h : WrAt R T w x l) : x < w.heap.size := (Array.getElem?_eq_some_iff.1 h.at_).1
theorem WrAt.off {w : World} {x : Nat} {l : List Nat} (h : WrAt R T w x l) (i : Nat) (hi : i < 4001) : w.cell? ⟨x, i, none⟩ = (wcells l)[i]? := by
  have e : (wcells l ++ R)[i]? = (wcells l)[i]? := Array.getElem?_append_left (by rw [wcells_size]; exact hi)
  simp [World.cell?, h.at_, e]
theorem WrAt.tail {w : World} {x : Nat} {l : List Nat} (h : WrAt R T w x l) (i : Nat) : w.cell? ⟨x, 4001 + i, none⟩ = R[i]? := by
  have e : (wcells l ++ R)[4001 + i]? = R[i]? := by
    rw [Array.getElem?_append_right (by rw [wcells_size]; omega), wcells_size, Nat.add_sub_cancel_left]
  simp [World.cell?, h.at_, e]
theorem app_set (A B : Array Value) (i : Nat) (v : Value) (h : i < A.size) : (A ++ B).setIfInBounds i v = A.setIfInBounds i v ++ B := by
  apply Array.ext_getElem?
  intro j
  rw [Array.getElem?_setIfInBounds, Array.getElem?_append, Array.getElem?_append, Array.getElem?_setIfInBounds, Array.size_setIfInBounds]
  by_cases e : i = j
  · subst e; simp [h]; omega
  · simp [e]
theorem WrAt.many {w : World} {x : Nat} {l : List Nat} (h : WrAt R T w x l) : w.cell? ⟨x, 4000, none⟩ = some (.int .i64 ((l.length : Nat) : Int)) := by rw [h.off _ (by omega), wcells_many]
theorem WrAt.byte {w : World} {x : Nat} {l : List Nat} (h : WrAt R T w x l) {k : Nat} (hk : k < 4000) : w.cell? ⟨x, k, none⟩ = some (.int .u8 ((byteAt l k : Nat) : Int)) := by rw [h.off _ (by omega), wcells_at _ _ hk]
theorem WrAt.free {w : World} {x : Nat} {l : List Nat} (h : WrAt R T w x l) (i : Nat) : w.frozen? ⟨x, i, none⟩ = false := by simp [World.frozen?, h.at_]
theorem WrAt.only {w w' : World} {x : Nat} {l : List Nat} (h : WrAt R T w x l) {D : List Nat} (o : Only D w w') (s : x ∉ D) : WrAt R T w' x l := ⟨(o.block x h.lt s).trans h.at_, h.bits, h.len⟩
theorem WrAt.drew {w : World} {x : Nat} {l : List Nat} (h : WrAt R T w x l) : WrAt R T w.drew x l := ⟨h.at_, h.bits, h.len⟩
theorem wcells_put (l : List Nat) (b : Nat) (hl : l.length < 32000) : ((wcells l).setIfInBounds (l.length / 8) (.int .u8 ((byteAt (l ++ [b]) (l.length / 8) : Nat) : Int))).setIfInBounds 4000 (.int .i64 (((l.length + 1 : Nat)) : Int)) = wcells (l ++ [b]) := by
  apply Array.ext_getElem?
  intro i
  rw [Array.getElem?_setIfInBounds, Array.size_setIfInBounds, wcells_size]
  by_cases e : 4000 = i
  · rw [if_pos e, if_pos (by omega), ← e, wcells_many, List.length_append]; rfl
  · rw [if_neg e, Array.getElem?_setIfInBounds, wcells_size]
    by_cases q : l.length / 8 = i
    · rw [if_pos q, if_pos (by omega), ← q, wcells_at _ _ (by omega)]
    · rw [if_neg q]
      by_cases p : i < 4000
      · rw [wcells_at _ _ p, wcells_at _ _ p, byteAt_other _ _ _ (fun e => q e.symm)]
      · rw [Array.getElem?_eq_none (by rw [wcells_size]; omega), Array.getElem?_eq_none (by rw [wcells_size]; omega)]
/-- One bit more. -/
theorem WrAt.put {w : World} {x : Nat} {l : List Nat} (h : WrAt R T w x l) (hl : l.length < 32000) {b : Nat} (hb : b ≤ 1) :
    WrAt R T ((w.setCell ⟨x, l.length / 8, none⟩ (.int .u8 ((byteAt (l ++ [b]) (l.length / 8) : Nat) : Int))).setCell ⟨x, 4000, none⟩ (.int .i64 (((l.length + 1 : Nat)) : Int))) x (l ++ [b]) := by
  refine ⟨?_, h.bits.app (fun c hc => by simp only [List.mem_singleton] at hc; omega), by simp only [List.length_append, List.length_singleton]; omega⟩
  rw [heap_put (heap_put h.at_ _ _), app_set _ _ _ _ (by rw [wcells_size]; have := h.len; omega), app_set _ _ _ _ (by rw [Array.size_setIfInBounds, wcells_size]; omega), wcells_put _ _ hl]
theorem wcells_nil : wcells [] = (List.replicate 4000 (Value.int .u8 0) ++ [Value.int .i64 0]).toArray := by
  have e : (List.range 4000).map (fun k => Value.int .u8 ((byteAt [] k : Nat) : Int)) = List.replicate 4000 (Value.int .u8 0) := by
    apply List.ext_getElem?
    intro i
    rw [List.getElem?_map, List.getElem?_replicate]
    by_cases p : i < 4000
    · rw [List.getElem?_range p, if_pos p, Option.map_some, byteAt_nil]; rfl
    · rw [if_neg p, List.getElem?_eq_none (by rw [List.length_range]; omega)]; rfl
  unfold wcells
  rw [e]
  rfl
theorem writer_zero : Try.t204.zero = some (.agg (wcells [])) := by
  rw [wcells_nil]
  kernel_rfl
/-- A Writer's zero value. -/
theorem writer_new (w : World) : Sem.run Try.prog (zeroValue 204) w = .ok (.agg (wcells [])) w := by
  have := Try.typeInfo204 w
  simp [zeroValue, this, writer_zero]

/-! Bits of numbers that are not below 0. -/
theorem ofInt_nat (m a : Nat) (h : a < 2 ^ m) : (BitVec.ofInt m (a : Int)).toNat = a := by
  rw [BitVec.ofInt_natCast, BitVec.toNat_ofNat, Nat.mod_eq_of_lt h]
theorem wrap_i64 (n : Nat) (h : n < 2 ^ 63) : IntKind.i64.wrap (n : Int) = (n : Int) := by
  have e : (n : Int) % 2 ^ 64 = n := Int.emod_eq_of_lt (by omega) (by omega)
  simp only [IntKind.wrap, IntKind.bits, IntKind.signed, e]
  rw [if_neg]
  simp
  omega
theorem wrap_u8 (n : Nat) (h : n < 256) : IntKind.u8.wrap (n : Int) = (n : Int) := by
  have e : (n : Int) % 2 ^ 8 = n := Int.emod_eq_of_lt (by omega) (by omega)
  simp only [IntKind.wrap, IntKind.bits, IntKind.signed, e]
  rfl
theorem and_one (a : Nat) (h : a < 2 ^ 63) : Go.bits .and .i64 (a : Int) 1 = ((a % 2 : Nat) : Int) := by
  show IntKind.i64.wrap ((BitVec.ofInt 64 (a : Int) &&& BitVec.ofInt 64 ((1 : Nat) : Int)).toNat : Int) = _
  rw [BitVec.toNat_and, ofInt_nat 64 a (by omega), ofInt_nat 64 1 (by omega), Nat.and_one_is_mod]
  exact wrap_i64 _ (by omega)
theorem and_one_u8 (a : Nat) (h : a < 256) : Go.bits .and .u8 (a : Int) 1 = ((a % 2 : Nat) : Int) := by
  show IntKind.u8.wrap ((BitVec.ofInt 8 (a : Int) &&& BitVec.ofInt 8 ((1 : Nat) : Int)).toNat : Int) = _
  rw [BitVec.toNat_and, ofInt_nat 8 a (by omega), ofInt_nat 8 1 (by omega), Nat.and_one_is_mod]
  exact wrap_u8 _ (by omega)
theorem or_u8 (a b : Nat) (h : a < 256) (k : b < 256) : Go.bits .or .u8 (a : Int) (b : Int) = ((a ||| b : Nat) : Int) := by
  show IntKind.u8.wrap ((BitVec.ofInt 8 (a : Int) ||| BitVec.ofInt 8 (b : Int)).toNat : Int) = _
  rw [BitVec.toNat_or, ofInt_nat 8 a (by omega), ofInt_nat 8 b (by omega)]
  exact wrap_u8 _ (Nat.or_lt_two_pow (n := 8) h k)
theorem or_32 (a : Nat) (h : a < 32) : Go.bits .or .i64 32 (a : Int) = ((32 + a : Nat) : Int) := by
  show IntKind.i64.wrap ((BitVec.ofInt 64 ((32 : Nat) : Int) ||| BitVec.ofInt 64 (a : Int)).toNat : Int) = _
  rw [BitVec.toNat_or, ofInt_nat 64 32 (by omega), ofInt_nat 64 a (by omega)]
  have e := Nat.shiftLeft_add_eq_or_of_lt (i := 5) (b := a) h 1
  rw [show (1 : Nat) <<< 5 = 32 from rfl] at e
  rw [← e]
  exact wrap_i64 _ (by omega)

theorem mayBe_calls (n : Int) (w : World) : Calls Try.prog 133 #[.int .i64 n] w fun e w' => e = .returned (.bool (decide (0 ≤ n ∧ n ≤ 62))) ∧ w' = w := by
  by_cases h0 : n ≥ 0 <;> by_cases h1 : n ≤ 62
  all_goals
    go_enter Try.func133, Try.ntmps133
    go_wp2_with fail
    go_ret
    exact ⟨by simp [h0, h1] <;> omega, rfl⟩
theorem fits_calls (x : Nat) (l : List Nat) (n : Int) (w : World) (h : WrAt R T w x l) (hn : 0 ≤ n) (hb : n ≤ 100) : Calls Try.prog 154 #[.pointer (some ⟨x, 0, none⟩), .int .i64 n] w fun e w' => e = .returned (.bool (decide (l.length + n ≤ 32000))) ∧ w' = w := by
  have hm := h.many
  have hl := h.len
  clear h
  go_enter Try.func154, Try.ntmps154
  go_wp2_with fail
  go_ret
  exact ⟨by simp; omega, rfl⟩

set_option maxRecDepth 100000 in
set_option maxHeartbeats 2000000 in
theorem add_calls (x : Nat) (l : List Nat) (n wd : Nat) (w : World) (h : WrAt R T w x l) (hw : wd ≤ 62) (hn : n < 2 ^ 62) (hl : l.length + wd ≤ 32000) :
    Calls Try.prog 155 #[.pointer (some ⟨x, 0, none⟩), .int .i64 ((n : Int)), .int .i64 ((wd : Int))] w fun e w' => e = .returned (.tuple #[]) ∧ WrAt R T w' x (l ++ putB n wd) ∧ Only [x] w w' := by
  have HB : Hid (wd ≤ 62 ∧ n < 2 ^ 62 ∧ l.length + wd ≤ 32000) := ⟨hw, hn, hl⟩
  have H0 : Hid (WrAt R T w x (l ++ putB (n / 2 ^ (wd - 0)) 0) ∧ Only [x] w w) := ⟨by simpa [putB] using h, Only.refl _ _⟩
  clear h hw hn hl
  go_enter Try.func155, Try.ntmps155
  go_wp2_with fail
  go_loopg [9] wd (fun k idx wr => ∃ i : Nat, idx = .int .i64 (i : Int) ∧ Hid (i ≤ wd ∧ k = wd - i) ∧ Hid (WrAt R T wr x (l ++ putB (n / 2 ^ (wd - i)) i) ∧ Only [x] w wr))
  case atStart => exact ⟨0, rfl, ⟨by omega, rfl⟩, H0⟩
  case round =>
    clear H0
    obtain ⟨i, rfl, H1, HE⟩ := hrel
    have hwd := HB.out.1
    by_cases hi : i < wd
    · have hil : (i : Int) < (wd : Int) := by omega
      go_upto_region 4 with fail
      have hn := HB.out.2.1
      have hq : n / 2 ^ (wd - 1 - i) < 2 ^ 63 := Nat.lt_of_le_of_lt (Nat.div_le_self _ _) (by omega)
      have hbit : Go.bits .and .i64 ((n : Int) / 2 ^ (wd - 1 - i)) 1 = ((n / 2 ^ (wd - 1 - i) % 2 : Nat) : Int) := by
        rw [← and_one _ hq]; congr 1
      rw [hbit]
      have HN : Hid (WrAt R T wr x (l ++ putB (n / 2 ^ (wd - i)) i) ∧ (l ++ putB (n / 2 ^ (wd - i)) i).length < 32000 ∧ l ++ putB (n / 2 ^ (wd - (i + 1))) (i + 1) = l ++ putB (n / 2 ^ (wd - i)) i ++ [n / 2 ^ (wd - 1 - i) % 2] ∧ n / 2 ^ (wd - 1 - i) % 2 ≤ 1) :=
        ⟨HE.out.1, by rw [List.length_append, putB_len]; have := HB.out.2.2; omega, by rw [putB_step _ _ _ hi, List.append_assoc], by omega⟩
      have HO : Hid (Only [x] w wr) := HE.out.2
      clear hn hq hbit HE
      revert HN
      generalize n / 2 ^ (wd - 1 - i) % 2 = b
      generalize l ++ putB (n / 2 ^ (wd - i)) i = L
      intro HN
      have hm := HN.out.1.many
      have hL := HN.out.2.1
      obtain ⟨q, hq⟩ : ∃ q, q = L.length / 8 := ⟨_, rfl⟩
      obtain ⟨s, hs⟩ : ∃ s, s = 7 - L.length % 8 := ⟨_, rfl⟩
      obtain ⟨c, hc⟩ : ∃ c, c = b * 2 ^ s := ⟨_, rfl⟩
      obtain ⟨d, hd⟩ : ∃ d, d = byteAt (L ++ [b]) q := ⟨_, rfl⟩
      have hb1 := HN.out.2.2.2
      have h2s : 2 ^ s ≤ 128 := Nat.le_trans (Nat.pow_le_pow_right (n := 2) (j := 7) (by omega) (by omega)) (by omega)
      have hc2 : c ≤ 128 := by rw [hc]; rcases (show b = 0 ∨ b = 1 by omega) with e | e <;> subst e <;> omega
      have hby := HN.out.1.byte (k := q) (by omega)
      have hbl := byteAt_lt HN.out.1.bits q
      have hdor : byteAt L q ||| c = d := by rw [hd, hc, hs, hq, byteAt_put _ _ hb1]
      have hfr := HN.out.1.free q
      have HW8 : Hid (IntKind.i64.wrap ((L.length : Int) / 8) = (q : Int)) := by show _ = _; rw [hq, ← wrap_i64 (L.length / 8) (by omega)]; rfl
      have HS7 : Hid (IntKind.i64.wrap (7 - (L.length : Int).tmod 8) = (s : Int)) := by
        show _ = _
        rw [Int.tmod_eq_emod_of_nonneg (by omega), hs, ← wrap_i64 (7 - L.length % 8) (by omega)]
        congr 1
        omega
      have HC : Hid (IntKind.i64.wrap ((b : Int) * 2 ^ s) = (c : Int)) := by show _ = _; rw [← wrap_i64 c (by omega), hc]; congr 1
      have HC8 : Hid (IntKind.u8.wrap (c : Int) = (c : Int)) := wrap_u8 c (by omega)
      have HD : Hid (Go.bits .or .u8 ((byteAt L q : Nat) : Int) (c : Int) = (d : Int)) := by show _ = _; rw [or_u8 _ _ hbl (by omega), hdor]
      have hq4 : (q : Int) < 4000 := by omega
      have hs64 : s ≤ 7 := by omega
      have HQ : Hid (q = L.length / 8 ∧ d = byteAt (L ++ [b]) q) := ⟨hq, hd⟩
      clear hq hs hc hd hb1 h2s hc2 hbl hdor
      refine wp_region_held_drew (S := (fun w' => w'.cell? ⟨x, 4000, none⟩ = some (.int .i64 ((L.length : Nat) : Int)))) (by kernel_rfl) ?_ (fun hHeld1 => ?_)
      · (try dsimp only); exact hm
      refine tkW 0 rfl ?_; refine tkW 1 rfl ?_; refine tkW 2 rfl ?_; refine tkW 3 rfl ?_
      try simp only [Act.put, List.setIfInBounds_toArray, List.set_cons_zero, List.set_cons_succ, List.getElem_toArray, List.getElem_cons_succ, List.getElem_cons_zero]
      refine tkW 4 rfl ?_
      try simp only [Act.put, List.setIfInBounds_toArray, List.set_cons_zero, List.set_cons_succ, List.getElem_toArray, List.getElem_cons_succ, List.getElem_cons_zero]
      refine tkW (v := .int .i64 (q : Int)) 5 rfl ?_ (by intro w'' hSw; (try dsimp only at hSw); simp only [List.getElem_toArray, List.getElem_cons_succ, List.getElem_cons_zero]; go_simp; rw [HW8.out])
      try simp only [Act.put, List.setIfInBounds_toArray, List.set_cons_zero, List.set_cons_succ, List.getElem_toArray, List.getElem_cons_succ, List.getElem_cons_zero]
      refine tkW 6 rfl ?_; refine tkW 7 rfl ?_; refine tkW 8 rfl ?_; refine tkW 10 rfl ?_
      try simp only [Act.put, List.setIfInBounds_toArray, List.set_cons_zero, List.set_cons_succ, List.getElem_toArray, List.getElem_cons_succ, List.getElem_cons_zero]
      refine tkW 11 rfl ?_; refine tkW 12 rfl ?_; refine tkW 13 rfl ?_; refine tkW 14 rfl ?_
      try simp only [Act.put, List.setIfInBounds_toArray, List.set_cons_zero, List.set_cons_succ, List.getElem_toArray, List.getElem_cons_succ, List.getElem_cons_zero]
      refine tkW 15 rfl ?_
      try simp only [Act.put, List.setIfInBounds_toArray, List.set_cons_zero, List.set_cons_succ, List.getElem_toArray, List.getElem_cons_succ, List.getElem_cons_zero]
      refine tkW (v := .int .i64 (s : Int)) 16 rfl ?_ (by intro w'' hSw; (try dsimp only at hSw); simp only [List.getElem_toArray, List.getElem_cons_succ, List.getElem_cons_zero]; go_simp; rw [HS7.out])
      try simp only [Act.put, List.setIfInBounds_toArray, List.set_cons_zero, List.set_cons_succ, List.getElem_toArray, List.getElem_cons_succ, List.getElem_cons_zero]
      refine tkW (v := .int .i64 (c : Int)) 17 rfl ?_ (by intro w'' hSw; (try dsimp only at hSw); simp only [List.getElem_toArray, List.getElem_cons_succ, List.getElem_cons_zero]; go_simp; rw [HC.out])
      try simp only [Act.put, List.setIfInBounds_toArray, List.set_cons_zero, List.set_cons_succ, List.getElem_toArray, List.getElem_cons_succ, List.getElem_cons_zero]
      refine tkW (v := .int .u8 (c : Int)) 18 rfl ?_ (by intro w'' hSw; (try dsimp only at hSw); simp only [List.getElem_toArray, List.getElem_cons_succ, List.getElem_cons_zero]; go_simp; rw [HC8.out])
      try simp only [Act.put, List.setIfInBounds_toArray, List.set_cons_zero, List.set_cons_succ, List.getElem_toArray, List.getElem_cons_succ, List.getElem_cons_zero]
      refine tkW 20 rfl ?_; refine tkW 21 rfl ?_
      try simp only [Act.put, List.setIfInBounds_toArray, List.set_cons_zero, List.set_cons_succ, List.getElem_toArray, List.getElem_cons_succ, List.getElem_cons_zero]
      refine wpAnyH_ready (rs := [9]) (by kernel_rfl) (by simp) ?_
      refine AllReadyH.cons rfl (fun K hK => ?_) AllReadyH.nil
      first | (with_reducible refine iteYes ?hcx ?htx; case hcx => kernel_rfl) | rw [if_pos (by rfl)]
      simp only [List.getElem_toArray, List.getElem_cons_succ, List.getElem_cons_zero]
      go_simp
      refine hK.out _ _ ?_ (fun hHeld2 => ?_)
      · (try dsimp only); exact hm
      clear hK K
      try simp only [Act.put, List.setIfInBounds_toArray, List.set_cons_zero, List.set_cons_succ, List.getElem_toArray, List.getElem_cons_succ, List.getElem_cons_zero]
      refine tkW (v := .int .u8 (d : Int)) 19 rfl ?_ (by intro w'' hSw; (try dsimp only at hSw); simp only [List.getElem_toArray, List.getElem_cons_succ, List.getElem_cons_zero]; go_simp; rw [HD.out])
      try simp only [Act.put, List.setIfInBounds_toArray, List.set_cons_zero, List.set_cons_succ, List.getElem_toArray, List.getElem_cons_succ, List.getElem_cons_zero]
      refine tkW 22 rfl ?_
      try simp only [Act.put, List.setIfInBounds_toArray, List.set_cons_zero, List.set_cons_succ, List.getElem_toArray, List.getElem_cons_succ, List.getElem_cons_zero]
      refine wpAnyH_ready (rs := [23]) (by kernel_rfl) (by simp) ?_
      refine AllReadyH.cons rfl (fun K hK => ?_) AllReadyH.nil
      first | (with_reducible refine iteYes ?hcx ?htx; case hcx => kernel_rfl) | rw [if_pos (by rfl)]
      simp only [List.getElem_toArray, List.getElem_cons_succ, List.getElem_cons_zero]
      go_simp
      refine hK.out _ _ ?_ (fun hHeld3 => ?_)
      · (try dsimp only); exact (World.cell?_setCell_other wr _ _ _ (by intro e; injection e with _ e2; omega)).trans hm
      clear hK K
      try simp only [Act.put, List.setIfInBounds_toArray, List.set_cons_zero, List.set_cons_succ, List.getElem_toArray, List.getElem_cons_succ, List.getElem_cons_zero]
      refine wpAnyH_done (by kernel_rfl) ?_ _
      have H9 : Hid (WrAt R T ((wr.setCell ⟨x, q, none⟩ (.int .u8 (d : Int))).drew.setCell ⟨x, 4000, none⟩ (.int .i64 ((L.length + 1 : Nat) : Int))) x (L ++ [b])) := by
        have := HN.out.1.put HN.out.2.1 HN.out.2.2.2
        rw [← HQ.out.1, ← HQ.out.2] at this
        exact ⟨this.at_, this.bits, this.len⟩
      have hm2 : (wr.setCell ⟨x, q, none⟩ (.int .u8 (d : Int))).drew.cell? ⟨x, 4000, none⟩ = some (.int .i64 ((L.length : Nat) : Int)) :=
        (World.cell?_setCell_other wr _ _ _ (by intro e; injection e with _ e2; omega)).trans hm
      have hf2 : (wr.setCell ⟨x, q, none⟩ (.int .u8 (d : Int))).drew.frozen? ⟨x, 4000, none⟩ = false := (World.frozen?_setCell wr _ _ _).trans (HN.out.1.free 4000)
      have HO2 : Hid (Only [x] w ((wr.setCell ⟨x, q, none⟩ (.int .u8 (d : Int))).drew.setCell ⟨x, 4000, none⟩ (.int .i64 ((L.length + 1 : Nat) : Int)))) := ((HO.out.setCell (p := ⟨x, q, none⟩) (Or.inl (by simp)) _).drew).setCell (p := ⟨x, 4000, none⟩) (Or.inl (by simp)) _
      clear hm hby hfr
      generalize World.drew (World.setCell wr _ _) = w5 at H9 hm2 hf2 HO2 ⊢
      go_wp2_with fail
      go_roundg (wd - (i + 1))
      case measure => have := H1.out.2; omega
      case rel => exact ⟨i + 1, by go_num, ⟨by omega, rfl⟩, by rw [HN.out.2.2.1]; exact ⟨H9.out, HO2.out⟩⟩
    · have hil : ¬ (i : Int) < (wd : Int) := by omega
      obtain rfl : i = wd := by have := H1.out.1; omega
      go_wp2_with fail
      refine bodyPost_end (results_none rfl _ _ _) rfl ?_
      exact ⟨rfl, by have := HE.out.1; rw [putB_all] at this; exact this, HE.out.2⟩
end Go.Proofs.Ytedhdmahdioboaa
