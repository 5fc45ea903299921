/- The reference's bits, beside blocks that stay: what is put into them. -/
import Derived.Test.YtedhdmahdioboaaSu2
import Derived.Test.YtedhdmahdioboaaSu7
import Derived.Test.YtedhdmahdioboaaWMa
import Derived.Maps.AppendAt
import Derived.OwnWalk
import Derived.Test.YtedhdmahdioboaaSu5
import Derived.Test.YtedhdmahdioboaaRdt
import Derived.Test.YtedhdmahdioboaaStrl
namespace Go.Proofs.Ytedhdmahdioboaa
open Go.ChangeShapes Go.WideShapes Go.ChangeAt Go.RowKit
set_option linter.unusedVariables false
set_option linter.unusedSimpArgs false

/-- Bits that were made since w, in a variable of their own; the blocks of K lie apart from them. -/
structure RBW (w : World) (kb : Nat) (K : List Nat) (l : List Nat) (wr : World) : Prop where
  ex : ∃ v, BtAt wr kb v l ∧ (∀ b ∈ ownL v, w.heap.size ≤ b) ∧ (∀ k ∈ K, k ≠ kb ∧ k ∉ ownL v ∧ k < wr.heap.size)
  only : Only [] w wr
  new : w.heap.size ≤ kb
theorem RBW.keep {w : World} {kb : Nat} {K l : List Nat} {wr w' : World} (h : RBW w kb K l wr) (o : Only [] wr w') : RBW w kb K l w' := by
  obtain ⟨v, h1, h2, h3⟩ := h.ex
  exact ⟨⟨v, h1.keep o, h2, fun k hk => ⟨(h3 k hk).1, (h3 k hk).2.1, Nat.lt_of_lt_of_le (h3 k hk).2.2 o.size⟩⟩, h.only.trans o, h.new⟩
theorem RBW.add {w : World} {kb g : Nat} {K l : List Nat} {wr w' : World} (h : RBW w kb K l wr) (o : Only [] wr w') (h1 : wr.heap.size ≤ g) (h2 : g < w'.heap.size) : RBW w kb (g :: K) l w' := by
  obtain ⟨v, hb, hw, hk⟩ := (h.keep o).ex
  obtain ⟨v0, hb0, hw0, hk0⟩ := h.ex
  refine ⟨⟨v0, hb0.keep o, hw0, fun k hk => ?_⟩, (h.keep o).only, h.new⟩
  rcases List.mem_cons.1 hk with e | e
  · rw [e]
    refine ⟨fun e => by have := hb0.lt; omega, fun hg => by have := hb0.sl.lt g hg; omega, h2⟩
  · exact ⟨(hk0 k e).1, (hk0 k e).2.1, Nat.lt_of_lt_of_le (hk0 k e).2.2 o.size⟩
theorem RBW.less {w : World} {kb : Nat} {K K' l : List Nat} {wr : World} (h : RBW w kb K l wr) (s : ∀ k ∈ K', k ∈ K) : RBW w kb K' l wr := by
  obtain ⟨v, h1, h2, h3⟩ := h.ex
  exact ⟨⟨v, h1, h2, fun k hk => h3 k (s k hk)⟩, h.only, h.new⟩
/-- What a call that puts bits leaves. -/
def RBPostW (w : World) (kb : Nat) (K l : List Nat) (wr : World) (e : Ending) (w' : World) : Prop := e = .returned (.tuple #[]) ∧ RBW w kb K l w' ∧ ∀ k ∈ K, w'.heap[k]? = wr.heap[k]?
theorem rb_postW {w : World} {kb : Nat} {K l l' : List Nat} {wr w' : World} {v v' : Value} (hw : ∀ b ∈ ownL v, w.heap.size ≤ b) (hk : ∀ k ∈ K, k ≠ kb ∧ k ∉ ownL v ∧ k < wr.heap.size) (ho : Only [] w wr) (hn : w.heap.size ≤ kb) (hb : BtAt w' kb v' l') (hp : PP wr kb v w' v') :
    RBW w kb K l' w' ∧ ∀ k ∈ K, w'.heap[k]? = wr.heap[k]? := by
  refine ⟨⟨⟨v', hb, fun b hb => ?_, fun k hq => ⟨(hk k hq).1, fun hm => ?_, Nat.lt_of_lt_of_le (hk k hq).2.2 hp.only.size⟩⟩, ho.then hp.only (fun b hb => ?_), hn⟩, fun k hq => hp.only.block k (hk k hq).2.2 (fun hm => ?_)⟩
  · rcases hp.loc b hb with e | e
    · exact hw b e
    · exact Nat.le_trans ho.size e
  · rcases hp.loc k hm with e | e
    · exact (hk k hq).2.1 e
    · have := (hk k hq).2.2; omega
  · rcases List.mem_cons.1 hb with e | e
    · right; rw [e]; exact hn
    · right; exact hw b e
  · rcases List.mem_cons.1 hm with e | e
    · exact (hk k hq).1 e
    · exact (hk k hq).2.1 e
theorem putRW_calls (w : World) (kb : Nat) (K l : List Nat) (n wd : Nat) (wr : World) (h : RBW w kb K l wr) (hw : wd ≤ 62) (hn : n < 2 ^ 62) (hl : l.length + wd ≤ 100000) :
    Calls Try.prog 43 #[.pointer (some ⟨kb, 0, none⟩), .int .i64 ((n : Int)), .int .i64 ((wd : Int))] wr (RBPostW w kb K (l ++ putB n wd) wr) := by
  obtain ⟨v, h1, h2, h3⟩ := h.ex
  refine (refPut_calls kb v l n wd wr h1 hw hn hl).mono fun e w' ⟨he, v', hb, hp⟩ => ⟨he, rb_postW (l := l) h2 h3 h.only h.new hb hp⟩
theorem varRW_calls (w : World) (kb : Nat) (K l : List Nat) (n : Nat) (wr : World) (h : RBW w kb K l wr) (hn : n < 2 ^ 62) (hl : l.length ≤ 50000) :
    Calls Try.prog 45 #[.pointer (some ⟨kb, 0, none⟩), .int .i64 ((n : Int))] wr (RBPostW w kb K (l ++ varB n) wr) := by
  obtain ⟨v, h1, h2, h3⟩ := h.ex
  refine (refVar_calls kb v l n wr h1 hn hl).mono fun e w' ⟨he, v', hb, hp⟩ => ⟨he, rb_postW (l := l) h2 h3 h.only h.new hb hp⟩
theorem intRW_calls (w : World) (kb : Nat) (K l : List Nat) (n : Int) (wr : World) (h : RBW w kb K l wr) (hn : ¬ badInt n) (hl : l.length ≤ 50000) :
    Calls Try.prog 41 #[.pointer (some ⟨kb, 0, none⟩), .int .i64 n] wr (RBPostW w kb K (l ++ varB (codeM n)) wr) := by
  obtain ⟨v, h1, h2, h3⟩ := h.ex
  refine (refInt_calls kb v l n wr h1 hn hl).mono fun e w' ⟨he, v', hb, hp⟩ => ⟨he, rb_postW (l := l) h2 h3 h.only h.new hb hp⟩
end Go.Proofs.Ytedhdmahdioboaa
/- gyreref.Ask: whichever command. -/
namespace Go.Proofs.Ytedhdmahdioboaa
open Go.ChangeShapes Go.WideShapes Go.ChangeAt Go.RowKit
set_option linter.unusedVariables false
set_option linter.unusedSimpArgs false

theorem intInfoW : (Try.prog.info? 3).map (fun i => (i.zero, i.size, i.bytes)) = some (some (.int .i64 0), 1, 8) := by kernel_rfl
def SlInts (w : World) (v : Value) (xs : List Int) : Prop := w.ownsRow 0 3 1 v xs.length (xs.map (Value.int .i64))
theorem SlInts.shape {w : World} {v : Value} {xs : List Int} (h : SlInts w v xs) (hx : xs ≠ []) : ∃ g c, v = .slice (some ⟨g, 0, none⟩) xs.length c ∧ NumsAt w g xs ∧ xs.length ≤ c ∧ g < w.heap.size ∧ ownL v = [g] := by
  obtain ⟨hlen, ⟨rfl, hq⟩ | ⟨g, cap, cur, rfl, hb, hg, hn, hc, hs, ht⟩⟩ := h
  · exfalso
    have : xs.length = 0 := by simpa using hq
    exact hx (List.length_eq_zero_iff.1 this)
  · refine ⟨g, cap, rfl, fun j hj => ?_, by omega, (Array.getElem?_eq_some_iff.1 hg).1, rfl⟩
    have e : (cur.toList.take (xs.length * 1))[j]? = some (.int .i64 (xs[j])) := by
      rw [ht, List.getElem?_map, List.getElem?_eq_getElem hj]; rfl
    rw [List.getElem?_take] at e
    simp only [Nat.mul_one, hj, if_true] at e
    simp only [World.cell?, hg, Option.isSome_none, Bool.false_eq_true, if_false]
    rw [← e, Array.getElem?_toList]
theorem SlInts.new3 (w : World) (a b c : Int) : SlInts (w.alloc (.cells #[.int .i64 a, .int .i64 b, .int .i64 c] 3)) (.slice (some ⟨w.heap.size, 0, none⟩) 3 3) [a, b, c] :=
  ⟨rfl, Or.inr ⟨w.heap.size, 3, #[.int .i64 a, .int .i64 b, .int .i64 c], rfl, Nat.zero_le _, (MapKept.heap_alloc w _).1, by simp, by unfold maxLen; decide, rfl, rfl⟩⟩
set_option maxRecDepth 100000 in
theorem partsW_calls (x y z : Int) (w : World) : Calls Try.prog 26 #[.agg #[.int .i64 x, .int .i64 y, .int .i64 z]] w fun e w' => ∃ g, e = .returned (.slice (some ⟨g, 0, none⟩) 3 3) ∧ w.heap.size ≤ g ∧ g < w'.heap.size ∧ NumsAt w' g [x, y, z] ∧ Only [] w w' := by
  go_enter Try.func26, Try.ntmps26
  go_wp2_with fail
  go_ret
  have h := NumsAt.new3 (w.alloc (.cells #[.int .i64 x, .int .i64 y, .int .i64 z] 27)) x y z 3
  rw [World.size_alloc] at h
  exact ⟨w.heap.size + 1, rfl, by omega, by simp, h, ((Only.refl _ _).alloc _).alloc _⟩
def RAskPost (c : Cm) (w : World) (e : Ending) (w' : World) : Prop :=
  Only [] w w' ∧ ((¬ (0 ≤ c.kd ∧ c.kd ≤ 2) ∧ e = .returned (.tuple #[.slice none 0 0, .int .i64 1])) ∨ ((0 ≤ c.kd ∧ c.kd ≤ 2) ∧ ¬ askOk c ∧ e = .returned (.tuple #[.slice none 0 0, .int .i64 2])) ∨ ((0 ≤ c.kd ∧ c.kd ≤ 2) ∧ askOk c ∧ ∃ v, e = .returned (.tuple #[v, .int .i64 0]) ∧ SlB w' v (bytesOf (askT c))))
theorem NumsAt.block {w w' : World} {g : Nat} {xs : List Int} (h : NumsAt w g xs) (e : w'.heap[g]? = w.heap[g]?) : NumsAt w' g xs := fun j hj => by
  rw [World.cell?_of_block (w := w) e]; exact h j hj
theorem bits_new {w wr : World} {k g : Nat} (o : Only [] w wr) (hk : k < wr.heap.size) (hg : g < wr.heap.size) : RBW w wr.heap.size [k, g] [] (wr.alloc (.cells #[.slice none 0 0] 111)) :=
  ⟨⟨.slice none 0 0, ⟨(MapKept.heap_alloc wr _).1, SlB.nil _, by simp [ownL, Value.ownBlock]⟩, by simp [ownL, Value.ownBlock], fun b hb => by
    simp only [List.mem_cons, List.mem_nil_iff, or_false] at hb
    rcases hb with rfl | rfl <;> simp [ownL, Value.ownBlock] <;> omega⟩, o.alloc _, o.size⟩
theorem inM_mem_false {lo hi : Int} {xs : List Int} {z : Int} (hz : z ∈ xs) (h : ¬ (lo ≤ z ∧ z ≤ hi)) : inM lo hi xs = false := by
  unfold inM
  rw [List.all_eq_false]
  exact ⟨z, hz, by simpa using h⟩
theorem varsB_snoc {xs : List Int} {i : Nat} (h : i < xs.length) : varsB (xs.take (i + 1)) = varsB (xs.take i) ++ varB (xs[i]).toNat := by
  unfold varsB; rw [List.take_succ_eq_append_getElem h, flat_snoc]
theorem intsB_snoc {xs : List Int} {i : Nat} (h : i < xs.length) : intsB (xs.take (i + 1)) = intsB (xs.take i) ++ varB (codeM xs[i]) := by
  unfold intsB; rw [List.take_succ_eq_append_getElem h, flat_snoc]
theorem intsB_len (xs : List Int) (h : ∀ n ∈ xs, ¬ badInt n) : (intsB xs).length ≤ 78 * xs.length := flat_len _ 78 _ (fun n hn => varB_78 (codeM_lt (h n hn)))
theorem putsB_bits (wd : Nat) (xs : List Int) : Bits (putsB wd xs) := by
  intro b hb
  obtain ⟨n, _, h⟩ := List.mem_flatMap.1 hb
  exact putB_bits _ _ b h
theorem varsB_bits (xs : List Int) : Bits (varsB xs) := by
  intro b hb
  obtain ⟨n, _, h⟩ := List.mem_flatMap.1 hb
  exact varB_bits _ b h
theorem intsB_bits (xs : List Int) : Bits (intsB xs) := by
  intro b hb
  obtain ⟨n, _, h⟩ := List.mem_flatMap.1 hb
  exact varB_bits _ b h
theorem askT_bits (c : Cm) : Bits (askT c) := by
  unfold askT
  refine Bits.app (Bits.app (Bits.app (varsB_bits _) (putsB_bits _ _)) ?_) ?_
  · split
    · exact varsB_bits _
    · exact Bits.nil
  · split
    · exact intsB_bits _
    · exact Bits.nil
end Go.Proofs.Ytedhdmahdioboaa
/- gyreref.Tell: whichever piece. -/
namespace Go.Proofs.Ytedhdmahdioboaa
open Go.ChangeShapes Go.WideShapes Go.ChangeAt Go.RowKit
set_option linter.unusedVariables false
set_option linter.unusedSimpArgs false

def RTellPost (p : Pc) (L : List Nat) (w : World) (e : Ending) (w' : World) : Prop :=
  Only [] w w' ∧ ((¬ tellOk p L.length ∧ e = .returned (.tuple #[.slice none 0 0, .int .i64 1])) ∨ (tellOk p L.length ∧ ∃ v, e = .returned (.tuple #[v, .int .i64 0]) ∧ SlB w' v (bytesOf (tellT p L))))
theorem tell_ways (p : Pc) (L : List Nat) (h : ¬ tellOk p L.length) : (decide (p.st < 1) = true) ∨ (decide (p.st < 1) = false ∧ decide (p.st > 70368744177664) = true) ∨ (decide (p.st < 1) = false ∧ decide (p.st > 70368744177664) = false ∧ decide (p.ba < 0) = true) ∨ (decide (p.st < 1) = false ∧ decide (p.st > 70368744177664) = false ∧ decide (p.ba < 0) = false ∧ decide (p.ba ≥ p.st) = true) ∨ (decide (p.st < 1) = false ∧ decide (p.st > 70368744177664) = false ∧ decide (p.ba < 0) = false ∧ decide (p.ba ≥ p.st) = false ∧ decide (p.mn < 1) = true) ∨ (decide (p.st < 1) = false ∧ decide (p.st > 70368744177664) = false ∧ decide (p.ba < 0) = false ∧ decide (p.ba ≥ p.st) = false ∧ decide (p.mn < 1) = false ∧ decide (p.mn > 40) = true) ∨ (decide (p.st < 1) = false ∧ decide (p.st > 70368744177664) = false ∧ decide (p.ba < 0) = false ∧ decide (p.ba ≥ p.st) = false ∧ decide (p.mn < 1) = false ∧ decide (p.mn > 40) = false ∧ decide (p.ix < 0) = true) ∨ (decide (p.st < 1) = false ∧ decide (p.st > 70368744177664) = false ∧ decide (p.ba < 0) = false ∧ decide (p.ba ≥ p.st) = false ∧ decide (p.mn < 1) = false ∧ decide (p.mn > 40) = false ∧ decide (p.ix < 0) = false ∧ decide (p.ix ≥ p.mn) = true) ∨ (decide (p.st < 1) = false ∧ decide (p.st > 70368744177664) = false ∧ decide (p.ba < 0) = false ∧ decide (p.ba ≥ p.st) = false ∧ decide (p.mn < 1) = false ∧ decide (p.mn > 40) = false ∧ decide (p.ix < 0) = false ∧ decide (p.ix ≥ p.mn) = false ∧ decide ((L.length : Int) > 100) = true) := by
  by_cases b0 : p.st < 1
  · exact Or.inl (decide_eq_true b0)
  by_cases b1 : p.st > 70368744177664
  · exact Or.inr (Or.inl ⟨decide_eq_false b0, decide_eq_true b1⟩)
  by_cases b2 : p.ba < 0
  · exact Or.inr (Or.inr (Or.inl ⟨decide_eq_false b0, decide_eq_false b1, decide_eq_true b2⟩))
  by_cases b3 : p.ba ≥ p.st
  · exact Or.inr (Or.inr (Or.inr (Or.inl ⟨decide_eq_false b0, decide_eq_false b1, decide_eq_false b2, decide_eq_true b3⟩)))
  by_cases b4 : p.mn < 1
  · exact Or.inr (Or.inr (Or.inr (Or.inr (Or.inl ⟨decide_eq_false b0, decide_eq_false b1, decide_eq_false b2, decide_eq_false b3, decide_eq_true b4⟩))))
  by_cases b5 : p.mn > 40
  · exact Or.inr (Or.inr (Or.inr (Or.inr (Or.inr (Or.inl ⟨decide_eq_false b0, decide_eq_false b1, decide_eq_false b2, decide_eq_false b3, decide_eq_false b4, decide_eq_true b5⟩)))))
  by_cases b6 : p.ix < 0
  · exact Or.inr (Or.inr (Or.inr (Or.inr (Or.inr (Or.inr (Or.inl ⟨decide_eq_false b0, decide_eq_false b1, decide_eq_false b2, decide_eq_false b3, decide_eq_false b4, decide_eq_false b5, decide_eq_true b6⟩))))))
  by_cases b7 : p.ix ≥ p.mn
  · exact Or.inr (Or.inr (Or.inr (Or.inr (Or.inr (Or.inr (Or.inr (Or.inl ⟨decide_eq_false b0, decide_eq_false b1, decide_eq_false b2, decide_eq_false b3, decide_eq_false b4, decide_eq_false b5, decide_eq_false b6, decide_eq_true b7⟩)))))))
  by_cases b8 : (L.length : Int) > 100
  · exact Or.inr (Or.inr (Or.inr (Or.inr (Or.inr (Or.inr (Or.inr (Or.inr (⟨decide_eq_false b0, decide_eq_false b1, decide_eq_false b2, decide_eq_false b3, decide_eq_false b4, decide_eq_false b5, decide_eq_false b6, decide_eq_false b7, decide_eq_true b8⟩))))))))
  exact absurd (show tellOk p L.length from ⟨⟨by omega, by omega, by omega, by omega⟩, ⟨by omega, by omega⟩, ⟨by omega, by omega⟩, by omega⟩) h
theorem tellT_bits (p : Pc) (L : List Nat) : Bits (tellT p L) := by
  unfold tellT
  exact Bits.app (Bits.app (Bits.app (varsB_bits _) (putsB_bits _ _)) (putsB_bits _ _)) (putsB_bits _ _)
set_option maxRecDepth 100000 in
set_option maxHeartbeats 4000000 in
theorem refTell_bad (p : Pc) (a : Option Addr) (c : Nat) (L : List Nat) (w : World) (h : ¬ tellOk p L.length) (hL : L.length ≤ 100000) : Calls Try.prog 18 #[.agg #[.int .i64 (p.st), .int .i64 (p.ba), .int .i64 (p.ix), .int .i64 (p.mn), .slice a L.length c]] w (RTellPost p L w) := by
  have HN : Hid (¬ tellOk p L.length) := h
  have hw := tell_ways p L h
  clear h
  rcases hw with q0 | ⟨q0, q1⟩ | ⟨q0, q1, q2⟩ | ⟨q0, q1, q2, q3⟩ | ⟨q0, q1, q2, q3, q4⟩ | ⟨q0, q1, q2, q3, q4, q5⟩ | ⟨q0, q1, q2, q3, q4, q5, q6⟩ | ⟨q0, q1, q2, q3, q4, q5, q6, q7⟩ | ⟨q0, q1, q2, q3, q4, q5, q6, q7, q8⟩
  all_goals
    go_enter Try.func18, Try.ntmps18
    go_wp2_with fail
    go_ret2
    exact ⟨(Only.refl _ _).alloc _, Or.inl ⟨HN.out, rfl⟩⟩
/-- Bits that are written beside a piece. -/
structure RT (w : World) (k kb : Nat) (p : Pc) (v : Value) (l : List Nat) (wr : World) : Prop where
  pc : PcAt 69 wr k p v
  rb : RBW w kb [k] l wr
theorem RT.put {w : World} {k kb : Nat} {p : Pc} {v : Value} {l l' : List Nat} {wr w' : World} {e : Ending} (h : RT w k kb p v l wr) (q : RBPostW w kb [k] l' wr e w') : RT w k kb p v l' w' :=
  ⟨(q.2.2 k (by simp)).trans h.pc, q.2.1⟩
theorem bits_new1 {w wr : World} {k : Nat} (o : Only [] w wr) (hk : k < wr.heap.size) : RBW w wr.heap.size [k] [] (wr.alloc (.cells #[.slice none 0 0] 111)) :=
  ⟨⟨.slice none 0 0, ⟨(MapKept.heap_alloc wr _).1, SlB.nil _, by simp [ownL, Value.ownBlock]⟩, by simp [ownL, Value.ownBlock], fun b hb => by
    rw [List.mem_singleton.1 hb]
    simp [ownL, Value.ownBlock]; omega⟩, o.alloc _, o.size⟩
theorem varI_calls (w : World) (kb : Nat) (K l : List Nat) (n : Int) (wr : World) (h : RBW w kb K l wr) (hn : 0 ≤ n) (hn2 : n < 2 ^ 62) (hl : l.length ≤ 50000) :
    Calls Try.prog 45 #[.pointer (some ⟨kb, 0, none⟩), .int .i64 n] wr (RBPostW w kb K (l ++ varsB [n]) wr) := by
  obtain ⟨m, rfl⟩ : ∃ m : Nat, n = (m : Int) := ⟨n.toNat, by omega⟩
  have := varRW_calls w kb K l m wr h (by omega) hl
  rw [show varsB [(m : Int)] = varB m by simp [varsB]]
  exact this
theorem putI_calls (w : World) (kb : Nat) (K l : List Nat) (n : Int) (wd : Nat) (wr : World) (h : RBW w kb K l wr) (hn : 0 ≤ n) (hn2 : n < 2 ^ 62) (hw : wd ≤ 62) (hl : l.length ≤ 50000) :
    Calls Try.prog 43 #[.pointer (some ⟨kb, 0, none⟩), .int .i64 n, .int .i64 ((wd : Int))] wr (RBPostW w kb K (l ++ putsB wd [n]) wr) := by
  obtain ⟨m, rfl⟩ : ∃ m : Nat, n = (m : Int) := ⟨n.toNat, by omega⟩
  have := putRW_calls w kb K l m wd wr h hw (by omega) (by omega)
  rw [show putsB wd [(m : Int)] = putB m wd by simp [putsB]]
  exact this
set_option maxRecDepth 100000 in
set_option maxHeartbeats 4000000 in
theorem refTell_good (p : Pc) (a : Option Addr) (c : Nat) (L : List Nat) (w : World) (h : tellOk p L.length) (hs : ∀ x ∈ L, x < 256) (hb : ByAt w a L) : Calls Try.prog 18 #[.agg #[.int .i64 (p.st), .int .i64 (p.ba), .int .i64 (p.ix), .int .i64 (p.mn), .slice a L.length c]] w (RTellPost p L w) := by
  have HOK : Hid (tellOk p L.length) := h
  have HB : Hid (ByAt w a L ∧ ∀ x ∈ L, x < 256) := ⟨hb, hs⟩
  have hl2 : L.length ≤ 100 := h.2.2.2
  have q0 : decide (p.st < 1) = false := by obtain ⟨h1, h2, h3, h4⟩ := h; simp; omega
  have q1 : decide (p.st > 70368744177664) = false := by obtain ⟨h1, h2, h3, h4⟩ := h; simp; omega
  have q2 : decide (p.ba < 0) = false := by obtain ⟨h1, h2, h3, h4⟩ := h; simp; omega
  have q3 : decide (p.ba ≥ p.st) = false := by obtain ⟨h1, h2, h3, h4⟩ := h; simp; omega
  have q4 : decide (p.mn < 1) = false := by obtain ⟨h1, h2, h3, h4⟩ := h; simp; omega
  have q5 : decide (p.mn > 40) = false := by obtain ⟨h1, h2, h3, h4⟩ := h; simp; omega
  have q6 : decide (p.ix < 0) = false := by obtain ⟨h1, h2, h3, h4⟩ := h; simp; omega
  have q7 : decide (p.ix ≥ p.mn) = false := by obtain ⟨h1, h2, h3, h4⟩ := h; simp; omega
  have q8 : decide ((L.length : Int) > 100) = false := by obtain ⟨h1, h2, h3, h4⟩ := h; simp; omega
  clear hb hs h
  go_enter Try.func18, Try.ntmps18
  go_upto_region 1 with fail
  have H0 : Hid (PcAt 69 (w.alloc (.cells #[.int .i64 (p.st), .int .i64 (p.ba), .int .i64 (p.ix), .int .i64 (p.mn), .slice a L.length c] 69)) w.heap.size p (.slice a L.length c) ∧ Only [] w (w.alloc (.cells #[.int .i64 (p.st), .int .i64 (p.ba), .int .i64 (p.ix), .int .i64 (p.mn), .slice a L.length c] 69))) := ⟨(MapKept.heap_alloc w _).1, (Only.refl _ _).alloc _⟩
  revert H0
  generalize w.heap.size = k
  generalize World.alloc w _ = w1
  intro H0
  obtain ⟨c0, c1, c2, c3, c4⟩ := H0.out.1.cells
  go_upto_region 4 with fail
  have H1 : Hid (RT w k w1.heap.size p (.slice a L.length c) [] (w1.alloc (.cells #[.slice none 0 0] 111))) := ⟨H0.out.1.only (D := []) ((Only.refl _ _).alloc _) (by simp), bits_new1 H0.out.2 H0.out.1.lt⟩
  clear c0 c1 c2 c3 c4 H0 q0 q1 q2 q3 q4 q5 q6 q7 q8
  revert H1
  generalize w1.heap.size = kb
  generalize World.alloc w1 _ = w2
  intro H1
  obtain ⟨c0, c1, c2, c3, c4⟩ := H1.out.pc.cells
  go_wp2_with fail
  refine (varI_calls w kb [k] _ p.st _ H1.out.rb (by have := HOK.out.1; omega) (by have := HOK.out.1; omega) (by simp)).mono ?_
  intro e w3 hp
  have H2 : Hid (RT w k kb p (.slice a L.length c) ([] ++ varsB [p.st]) w3) := H1.out.put hp
  obtain ⟨rfl, _, _⟩ := hp
  clear c0 c1 c2 c3 c4
  have HL1 : Hid (([] ++ varsB [p.st]).length ≤ 78) := by
    show _ ≤ _
    have h1 := varsB_len [p.st] (fun n hn => by have := HOK.out.1; rw [List.mem_singleton.1 hn]; unfold badVar; omega)
    simp only [List.length_singleton, Nat.mul_one] at h1
    have h0 : ([] : List Nat).length ≤ 0 := Nat.le_refl _
    rw [List.length_append]; omega
  obtain ⟨c0, c1, c2, c3, c4⟩ := H2.out.pc.cells
  go_wp2_with fail
  refine (varI_calls w kb [k] _ p.ba _ H2.out.rb (by have := HOK.out.1; omega) (by have := HOK.out.1; omega) (by have := HL1.out; omega)).mono ?_
  intro e w4 hp
  have H3 : Hid (RT w k kb p (.slice a L.length c) ([] ++ varsB [p.st] ++ varsB [p.ba]) w4) := H2.out.put hp
  obtain ⟨rfl, _, _⟩ := hp
  clear c0 c1 c2 c3 c4
  have HL2 : Hid (([] ++ varsB [p.st] ++ varsB [p.ba]).length ≤ 156) := by
    show _ ≤ _
    have h1 := varsB_len [p.ba] (fun n hn => by have := HOK.out.1; rw [List.mem_singleton.1 hn]; unfold badVar; omega)
    simp only [List.length_singleton, Nat.mul_one] at h1
    have h0 := HL1.out
    rw [List.length_append]; omega
  obtain ⟨c0, c1, c2, c3, c4⟩ := H3.out.pc.cells
  go_wp2_with fail
  refine (putI_calls w kb [k] _ p.mn 6 _ H3.out.rb (by have := HOK.out.2.1; omega) (by have := HOK.out.2.1; omega) (by omega) (by have := HL2.out; omega)).mono ?_
  intro e w5 hp
  have H4 : Hid (RT w k kb p (.slice a L.length c) ([] ++ varsB [p.st] ++ varsB [p.ba] ++ putsB 6 [p.mn]) w5) := H3.out.put hp
  obtain ⟨rfl, _, _⟩ := hp
  clear c0 c1 c2 c3 c4
  have HL3 : Hid (([] ++ varsB [p.st] ++ varsB [p.ba] ++ putsB 6 [p.mn]).length ≤ 162) := by
    show _ ≤ _
    have h1 := putsB_len 6 [p.mn]
    simp only [List.length_singleton, Nat.mul_one] at h1
    have h0 := HL2.out
    rw [List.length_append]; omega
  obtain ⟨c0, c1, c2, c3, c4⟩ := H4.out.pc.cells
  go_wp2_with fail
  refine (putI_calls w kb [k] _ p.ix 6 _ H4.out.rb (by have := HOK.out.2; omega) (by have := HOK.out.2; omega) (by omega) (by have := HL3.out; omega)).mono ?_
  intro e w6 hp
  have H5 : Hid (RT w k kb p (.slice a L.length c) ([] ++ varsB [p.st] ++ varsB [p.ba] ++ putsB 6 [p.mn] ++ putsB 6 [p.ix]) w6) := H4.out.put hp
  obtain ⟨rfl, _, _⟩ := hp
  clear c0 c1 c2 c3 c4
  have HL4 : Hid (([] ++ varsB [p.st] ++ varsB [p.ba] ++ putsB 6 [p.mn] ++ putsB 6 [p.ix]).length ≤ 168) := by
    show _ ≤ _
    have h1 := putsB_len 6 [p.ix]
    simp only [List.length_singleton, Nat.mul_one] at h1
    have h0 := HL3.out
    rw [List.length_append]; omega
  obtain ⟨c0, c1, c2, c3, c4⟩ := H5.out.pc.cells
  go_wp2_with fail
  refine (putI_calls w kb [k] _ (L.length : Int) 7 _ H5.out.rb (by omega) (by omega) (by omega) (by have := HL4.out; omega)).mono ?_
  intro e w7 hp
  have H6 : Hid (RT w k kb p (.slice a L.length c) ([] ++ varsB [p.st] ++ varsB [p.ba] ++ putsB 6 [p.mn] ++ putsB 6 [p.ix] ++ putsB 7 [(L.length : Int)]) w7) := H5.out.put hp
  obtain ⟨rfl, _, _⟩ := hp
  clear c0 c1 c2 c3 c4
  have HL5 : Hid (([] ++ varsB [p.st] ++ varsB [p.ba] ++ putsB 6 [p.mn] ++ putsB 6 [p.ix] ++ putsB 7 [(L.length : Int)]).length ≤ 175) := by
    show _ ≤ _
    have h1 := putsB_len 7 [(L.length : Int)]
    simp only [List.length_singleton, Nat.mul_one] at h1
    have h0 := HL4.out
    rw [List.length_append]; omega
  obtain ⟨l3, hl3⟩ : ∃ l3, l3 = [] ++ varsB [p.st] ++ varsB [p.ba] ++ putsB 6 [p.mn] ++ putsB 6 [p.ix] ++ putsB 7 [(L.length : Int)] := ⟨_, rfl⟩
  have HE : Hid (l3 = [] ++ varsB [p.st] ++ varsB [p.ba] ++ putsB 6 [p.mn] ++ putsB 6 [p.ix] ++ putsB 7 [(L.length : Int)]) := hl3
  rw [← hl3] at H6 HL5
  clear hl3 HL1 HL2 HL3 HL4 H1 H2 H3 H4 H5
  have H8 : Hid (RT w k kb p (.slice a L.length c) (l3 ++ putsB 8 ((L.map (fun c : Nat => (c : Int))).take 0)) w7) := by show RT w k kb p (.slice a L.length c) (l3 ++ []) w7; rw [List.append_nil]; exact H6.out
  have hc4 := H6.out.pc.cells.2.2.2.2
  clear H6
  go_wp2_with fail
  clear hc4
  go_loopg [74] L.length (fun k' idx wr => ∃ i : Nat, idx = .int .i64 (i : Int) ∧ Hid (i ≤ L.length ∧ k' = L.length - i) ∧ Hid (RT w k kb p (.slice a L.length c) (l3 ++ putsB 8 ((L.map (fun c : Nat => (c : Int))).take i)) wr))
  case atStart => exact ⟨0, rfl, ⟨by omega, rfl⟩, H8⟩
  case round =>
    clear H8
    obtain ⟨i, rfl, HI, HW⟩ := hrel
    have HLL : Hid ((l3 ++ putsB 8 ((L.map (fun c : Nat => (c : Int))).take i)).length ≤ 975) := by
      show _ ≤ _
      have h1 := HL5.out
      have h2 := putsB_len 8 ((L.map (fun c : Nat => (c : Int))).take i)
      have h3 : ((L.map (fun c : Nat => (c : Int))).take i).length ≤ 100 := by rw [List.length_take, List.length_map]; omega
      rw [List.length_append]; omega
    by_cases hi : i < L.length
    · have hil : (i : Int) < (L.length : Int) := by omega
      obtain ⟨g0, o0, rfl, cb⟩ := (HB.out.1.only HW.out.rb.only (by simp)) i hi
      have him : i < (L.map (fun c : Nat => (c : Int))).length := by simpa using hi
      obtain ⟨y, hy⟩ : ∃ y, y = L.getD i 0 := ⟨_, rfl⟩
      have hy256 : y < 256 := by rw [hy, List.getD_eq_getElem?_getD, List.getElem?_eq_getElem hi]; exact HB.out.2 _ (List.getElem_mem hi)
      have HS : Hid (putsB 8 ((L.map (fun c : Nat => (c : Int))).take (i + 1)) = putsB 8 ((L.map (fun c : Nat => (c : Int))).take i) ++ putsB 8 [(y : Int)]) := by show _ = _; rw [putsB_snoc him, map_getD L i hi, hy]
      rw [← hy] at cb
      clear hy
      go_wp2_with fail
      refine (putI_calls w kb [k] _ (y : Int) 8 _ HW.out.rb (by omega) (by omega) (by omega) (by have := HLL.out; omega)).mono ?_
      intro e w8 hp
      have H9 : Hid (RT w k kb p (.slice (some ⟨g0, o0, none⟩) L.length c) (l3 ++ putsB 8 ((L.map (fun c : Nat => (c : Int))).take (i + 1))) w8) := by
        have := HW.out.put hp
        rw [HS.out, ← List.append_assoc]; exact this
      obtain ⟨rfl, _, _⟩ := hp
      clear cb
      go_wp2_with fail
      go_roundg (L.length - (i + 1))
      case measure => have := HI.out.2; omega
      case rel => exact ⟨i + 1, by go_num, ⟨by omega, rfl⟩, H9⟩
    have hil : ¬ (i : Int) < (L.length : Int) := by omega
    have HT : Hid (tellT p L = l3 ++ putsB 8 ((L.map (fun c : Nat => (c : Int))).take i)) := by
      show _ = _
      rw [List.take_of_length_le (by simp; omega), HE.out]
      simp [tellT, varsB, putsB]
    obtain ⟨vb, q1, q2, q3⟩ := HW.out.rb.ex
    have cb := q1.c0
    have HQ : Hid (SlB wr vb (l3 ++ putsB 8 ((L.map (fun c : Nat => (c : Int))).take i)) ∧ Only [] w wr) := ⟨q1.sl, HW.out.rb.only⟩
    clear q1 q2 q3
    go_wp2_with fail
    refine (refBytes_calls vb _ _ HQ.out.1 (by rw [← HT.out]; exact tellT_bits _ _) (by have := HLL.out; omega)).mono ?_
    rintro e wz ⟨vz, rfl, hs, oz⟩
    have HZ : Hid (SlB wz vz (bytesOf (tellT p L)) ∧ Only [] w wz) := ⟨by rw [HT.out]; exact hs, HQ.out.2.trans oz⟩
    clear hs oz
    go_wp2_with fail
    go_ret2
    exact ⟨HZ.out.2, Or.inr ⟨HOK.out, vz, rfl, HZ.out.1⟩⟩
theorem refTell_calls (p : Pc) (a : Option Addr) (c : Nat) (L : List Nat) (w : World) (hs : ∀ x ∈ L, x < 256) (hL : L.length ≤ 100000) (hb : ByAt w a L) : Calls Try.prog 18 #[.agg #[.int .i64 (p.st), .int .i64 (p.ba), .int .i64 (p.ix), .int .i64 (p.mn), .slice a L.length c]] w (RTellPost p L w) := by
  by_cases h : tellOk p L.length
  · exact refTell_good p a c L w h hs hb
  · exact refTell_bad p a c L w h hL
end Go.Proofs.Ytedhdmahdioboaa
/- The reference reads: a Tape, a mark; whichever bytes. -/
namespace Go.Proofs.Ytedhdmahdioboaa
open Go.ChangeShapes Go.WideShapes Go.ChangeAt Go.RowKit
set_option linter.unusedVariables false
set_option linter.unusedSimpArgs false

/-- A Tape and a mark that something was wrong; the blocks of K lie apart from them. -/
structure RQ (w : World) (kt : Nat) (v : Value) (L : List Nat) (kx : Nat) (K : List Nat) (b : Bool) (p : Nat) (wr : World) : Prop where
  tp : TpAt wr kt v (bitsOf L) p
  bx : wr.heap[kx]? = some (.cells #[.bool b] 4)
  d : kt ≠ kx
  dv : kx ∉ ownL v
  dk : ∀ k ∈ K, k ≠ kt ∧ k ≠ kx ∧ k ∉ ownL v
  n : w.heap.size ≤ kt ∧ w.heap.size ≤ kx
  only : Only [] w wr
section
variable {w : World} {kt : Nat} {v : Value} {L : List Nat} {kx : Nat} {K : List Nat} {b b' : Bool} {p q : Nat} {wr w' : World}
theorem RQ.lt (h : RQ w kt v L kx K b p wr) : kx < wr.heap.size := (Array.getElem?_eq_some_iff.1 h.bx).1
theorem RQ.cell (h : RQ w kt v L kx K b p wr) : wr.cell? ⟨kx, 0, none⟩ = some (.bool b) := by have := h.bx; simp [World.cell?, this]
theorem RQ.free (h : RQ w kt v L kx K b p wr) : wr.frozen? ⟨kx, 0, none⟩ = false := by have := h.bx; simp [World.frozen?, this]
theorem RQ.keep (h : RQ w kt v L kx K b p wr) (o : Only [] wr w') : RQ w kt v L kx K b p w' :=
  ⟨h.tp.keep o, (o.block kx h.lt (by simp)).trans h.bx, h.d, h.dv, h.dk, h.n, h.only.trans o⟩
theorem RQ.read (h : RQ w kt v L kx K b p wr) (ht : TpAt w' kt v (bitsOf L) q) (o : Only [kt] wr w') : RQ w kt v L kx K b q w' :=
  ⟨ht, (o.block kx h.lt (by simpa using fun e => h.d e.symm)).trans h.bx, h.d, h.dv, h.dk, h.n, h.only.then o (fun x hx => by rw [List.mem_singleton.1 hx]; exact Or.inr h.n.1)⟩
theorem RQ.mark (h : RQ w kt v L kx K b p wr) (hb : w'.heap[kx]? = some (.cells #[.bool b'] 4)) (o : Only [kx] wr w') : RQ w kt v L kx K b' p w' :=
  ⟨h.tp.only o (by simpa using h.d) (fun x hx => by simp; exact fun e => h.dv (e ▸ hx)), hb, h.d, h.dv, h.dk, h.n, h.only.then o (fun x hx => by rw [List.mem_singleton.1 hx]; exact Or.inr h.n.2)⟩
theorem RQ.other {k : Nat} (h : RQ w kt v L kx K b p wr) (hk : k ∈ K) (hw : w.heap.size ≤ k) (o : Only [k] wr w') : RQ w kt v L kx K b p w' := by
  obtain ⟨e1, e2, e3⟩ := h.dk k hk
  exact ⟨h.tp.only o (by simpa using fun e => e1 e.symm) (fun x hx => by simp; exact fun e => e3 (e ▸ hx)), (o.block kx h.lt (by simpa using fun e => e2 e.symm)).trans h.bx, h.d, h.dv, h.dk, h.n, h.only.then o (fun x hx => by rw [List.mem_singleton.1 hx]; exact Or.inr hw)⟩
theorem RQ.add {k : Nat} (h : RQ w kt v L kx K b p wr) (o : Only [] wr w') (hk : wr.heap.size ≤ k) : RQ w kt v L kx (k :: K) b p w' := by
  have h1 := h.tp.lt; have h2 := h.lt
  refine ⟨h.tp.keep o, (o.block kx h.lt (by simp)).trans h.bx, h.d, h.dv, fun x hx => ?_, h.n, h.only.trans o⟩
  rcases List.mem_cons.1 hx with e | e
  · subst e
    exact ⟨by omega, by omega, fun hm => by have := h.tp.sl.lt _ hm; omega⟩
  · exact h.dk x e
theorem CmAt.keepT {T : TypeId} {k : Nat} {c : Cm} (h : CmAt T wr k c) (hq : RQ w kt v L kx K b p wr) (hk : k ∈ K) (o : Only [kt] wr w') : CmAt T w' k c := h.only o (by simpa using (hq.dk k hk).1)
theorem CmAt.keepX {T : TypeId} {k : Nat} {c : Cm} (h : CmAt T wr k c) (hq : RQ w kt v L kx K b p wr) (hk : k ∈ K) (o : Only [kx] wr w') : CmAt T w' k c := h.only o (by simpa using (hq.dk k hk).2.1)
end
theorem numT_calls (n : Int) (er : Nat) (b : Bool) (kx : Nat) (w : World) (h : w.heap[kx]? = some (.cells #[.bool b] 4)) :
    Calls Try.prog 79 #[.int .i64 n, .int .i64 ((er : Int)), .pointer (some ⟨kx, 0, none⟩)] w fun e w' => e = .returned (.int .i64 n) ∧ w'.heap[kx]? = some (.cells #[.bool (b || decide (er ≠ 0))] 4) ∧ Only [kx] w w' := by
  have c0 : w.cell? ⟨kx, 0, none⟩ = some (.bool b) := by simp [World.cell?, h]
  have f0 : w.frozen? ⟨kx, 0, none⟩ = false := by simp [World.frozen?, h]
  have HP : Hid (∀ b', (w.setCell ⟨kx, 0, none⟩ (.bool b')).heap[kx]? = some (.cells #[.bool b'] 4) ∧ Only [kx] w (w.setCell ⟨kx, 0, none⟩ (.bool b'))) := fun b' => ⟨by rw [heap_put h]; rfl, (Only.refl _ _).setCell (p := ⟨kx, 0, none⟩) (Or.inl (by simp)) _⟩
  clear h
  cases b with
  | true =>
    go_enter Try.func79, Try.ntmps79
    go_wp2_with fail
    go_ret
    exact ⟨rfl, (HP.out true).1, (HP.out true).2⟩
  | false =>
    by_cases he : er = 0
    · subst he
      go_enter Try.func79, Try.ntmps79
      go_wp2_with fail
      go_ret
      exact ⟨rfl, (HP.out false).1, (HP.out false).2⟩
    · have hb : ((er : Int) == 0) = false := by simp; omega
      have HD : Hid ((false || decide (er ≠ 0)) = true) := by show _ = _; simp [he]
      have HNE : Hid (((er : Int) != 0) = true) := by show _ = _; simp; omega
      clear he
      go_enter Try.func79, Try.ntmps79
      go_wp2_with fail
      go_ret
      refine ⟨rfl, ?_, (HP.out _).2⟩
      have h9 := (HP.out ((er : Int) != 0)).1
      rw [HD.out]
      rw [HNE.out] at h9 ⊢
      exact h9
theorem CmAt.put_bd {T : TypeId} {w : World} {k : Nat} {c : Cm} (h : CmAt T w k c) (n : Int) : CmAt T (w.setCell ⟨k, 4, none⟩ (.int .i64 n)) k { c with bd := n } := by
  have h1 := heap_put h 4 (.int .i64 n)
  simp only [List.setIfInBounds_toArray, List.set_cons_zero, List.set_cons_succ] at h1
  exact h1
theorem CmAt.put_x {T : TypeId} {w : World} {k : Nat} {c : Cm} (h : CmAt T w k c) (n : Int) : CmAt T (w.setCell ⟨k, 5, none⟩ (.int .i64 n)) k { c with x := n } := by
  have h1 := heap_put h 5 (.int .i64 n)
  simp only [List.setIfInBounds_toArray, List.set_cons_zero, List.set_cons_succ] at h1
  exact h1
theorem CmAt.put_y {T : TypeId} {w : World} {k : Nat} {c : Cm} (h : CmAt T w k c) (n : Int) : CmAt T (w.setCell ⟨k, 6, none⟩ (.int .i64 n)) k { c with y := n } := by
  have h1 := heap_put h 6 (.int .i64 n)
  simp only [List.setIfInBounds_toArray, List.set_cons_zero, List.set_cons_succ] at h1
  exact h1
theorem CmAt.put_z {T : TypeId} {w : World} {k : Nat} {c : Cm} (h : CmAt T w k c) (n : Int) : CmAt T (w.setCell ⟨k, 7, none⟩ (.int .i64 n)) k { c with z := n } := by
  have h1 := heap_put h 7 (.int .i64 n)
  simp only [List.setIfInBounds_toArray, List.set_cons_zero, List.set_cons_succ] at h1
  exact h1
def RAskedPost (L : List Nat) (w : World) (e : Ending) (w' : World) : Prop :=
  Only [] w w' ∧ ((askedGood L ∧ e = .returned (.tuple #[cmV (askedC L), .int .i64 0])) ∨ (¬ askedGood L ∧ e = .returned (.tuple #[cmV ⟨0, 0, 0, 0, 0, 0, 0, 0⟩, .int .i64 3])))
end Go.Proofs.Ytedhdmahdioboaa
/- gyreref.Told: whichever bytes. -/
namespace Go.Proofs.Ytedhdmahdioboaa
open Go.ChangeShapes Go.WideShapes Go.ChangeAt Go.RowKit
set_option linter.unusedVariables false
set_option linter.unusedSimpArgs false

section
variable {w : World} {kt : Nat} {v : Value} {L : List Nat} {kx : Nat} {K : List Nat} {b b' : Bool} {p q : Nat} {wr w' : World}
theorem PcAt.keepT {T : TypeId} {k : Nat} {c : Pc} {u : Value} (h : PcAt T wr k c u) (hq : RQ w kt v L kx K b p wr) (hk : k ∈ K) (o : Only [kt] wr w') : PcAt T w' k c u := h.only o (by simpa using (hq.dk k hk).1)
theorem PcAt.keepX {T : TypeId} {k : Nat} {c : Pc} {u : Value} (h : PcAt T wr k c u) (hq : RQ w kt v L kx K b p wr) (hk : k ∈ K) (o : Only [kx] wr w') : PcAt T w' k c u := h.only o (by simpa using (hq.dk k hk).2.1)
end
theorem bIter_bad (L : List Nat) (t : List Nat × Bool × Nat) (i k : Nat) (h : (bIter L t i).2.1 = true) : (bIter L t (i + k)).2.1 = true := by
  induction k with
  | zero => exact h
  | succ k ih => show (bStep L (bIter L t (i + k))).2.1 = true; unfold bStep; simp [ih]
def RToldN (L : List Nat) (w : World) (e : Ending) (w' : World) : Prop :=
  Only [] w w' ∧ ((toldGood L ∧ ∃ u, e = .returned (.tuple #[pcV (toldP L) u, .int .i64 0]) ∧ SlB w' u (toldY L) ∧ ∀ b ∈ ownL u, w.heap.size ≤ b) ∨ (¬ toldGood L ∧ e = .returned (.tuple #[pcV ⟨0, 0, 0, 0⟩ (.slice none 0 0), .int .i64 3])))
def RToldPost (L : List Nat) (w : World) (e : Ending) (w' : World) : Prop :=
  Only [] w w' ∧ ((toldGood L ∧ ∃ u, e = .returned (.tuple #[pcV (toldP L) u, .int .i64 0]) ∧ SlB w' u (toldY L)) ∨ (¬ toldGood L ∧ e = .returned (.tuple #[pcV ⟨0, 0, 0, 0⟩ (.slice none 0 0), .int .i64 3])))
/-- While a piece's bytes are gathered. -/
structure RP (w : World) (kt : Nat) (vt : Value) (L : List Nat) (kx kc ks : Nat) (P : Pc) (B : List Nat) (b : Bool) (p : Nat) (vb : Value) (wr : World) : Prop where
  rq : RQ w kt vt L kx [kc, ks] b p wr
  pc : PcAt 69 wr kc P vb
  sl : SlB wr vb B
  ap : ∀ x ∈ ownL vb, x ≠ kt ∧ x ≠ kx ∧ x ∉ ownL vt ∧ x ≠ kc ∧ x ≠ ks ∧ w.heap.size ≤ x
  rs : PcAt 69 wr ks ⟨0, 0, 0, 0⟩ (.slice none 0 0)
  d : kc ≠ ks
  n : w.heap.size ≤ kc ∧ w.heap.size ≤ ks
section
variable {w : World} {kt : Nat} {vt : Value} {L : List Nat} {kx kc ks : Nat} {P : Pc} {B : List Nat} {b b' : Bool} {p q : Nat} {vb vb' : Value} {wr w' : World}
theorem RP.keep (h : RP w kt vt L kx kc ks P B b p vb wr) (o : Only [] wr w') : RP w kt vt L kx kc ks P B b p vb w' :=
  ⟨h.rq.keep o, h.pc.only o (by simp), h.sl.kept o (by simp), h.ap, h.rs.only o (by simp), h.d, h.n⟩
theorem RP.read (h : RP w kt vt L kx kc ks P B b p vb wr) (ht : TpAt w' kt vt (bitsOf L) q) (o : Only [kt] wr w') : RP w kt vt L kx kc ks P B b q vb w' :=
  ⟨h.rq.read ht o, h.pc.keepT h.rq (by simp) o, h.sl.kept o (fun x hx => by simpa using (h.ap x hx).1), h.ap, h.rs.keepT h.rq (by simp) o, h.d, h.n⟩
theorem RP.mark (h : RP w kt vt L kx kc ks P B b p vb wr) (hb : w'.heap[kx]? = some (.cells #[.bool b'] 4)) (o : Only [kx] wr w') : RP w kt vt L kx kc ks P B b' p vb w' :=
  ⟨h.rq.mark hb o, h.pc.keepX h.rq (by simp) o, h.sl.kept o (fun x hx => by simpa using (h.ap x hx).2.1), h.ap, h.rs.keepX h.rq (by simp) o, h.d, h.n⟩
theorem PcAt.put4 {T : TypeId} {w : World} {k : Nat} {c : Pc} {u : Value} (h : PcAt T w k c u) (u' : Value) : PcAt T (w.setCell ⟨k, 4, none⟩ u') k c u' := by
  have h1 := heap_put h 4 u'
  simp only [List.setIfInBounds_toArray, List.set_cons_zero, List.set_cons_succ] at h1
  exact h1
/-- One byte more: its slice, then its place in the piece. -/
theorem RP.grow {y : Nat} (h : RP w kt vt L kx kc ks P B b p vb wr) (hown : w'.ownsRow 0 5 1 vb' (B.length + 1) (byV B ++ [.int .u8 (y : Int)])) (hgrow : wr.grownBy w' vb.ownBlock) (hloc : vb'.ownBlock = vb.ownBlock ∨ vb'.ownBlock = some wr.heap.size) :
    (w'.cell? ⟨kc, 4, none⟩ = some vb ∧ w'.frozen? ⟨kc, 4, none⟩ = false) ∧ RP w kt vt L kx kc ks P (B ++ [y]) b p vb' (w'.setCell ⟨kc, 4, none⟩ vb') := by
  have o8 : Only (ownL vb) wr w' := (Only.refl _ _).grown hgrow (fun k hk => Or.inl (by simp [ownL, hk]))
  have hl : ∀ x ∈ ownL vb', x ∈ ownL vb ∨ wr.heap.size ≤ x := by
    intro x hx
    rcases hloc with e | e
    · left; simpa [ownL, e] using hx
    · right; simp only [ownL, e, Option.toList_some, List.mem_singleton] at hx; omega
  have hkt := h.rq.tp.lt; have hkx := h.rq.lt; have hkc := h.pc.lt; have hks := h.rs.lt
  have hsz := h.rq.only.size
  have hap : ∀ x ∈ ownL vb', x ≠ kt ∧ x ≠ kx ∧ x ∉ ownL vt ∧ x ≠ kc ∧ x ≠ ks ∧ w.heap.size ≤ x := fun x hx => by
    rcases hl x hx with q | q
    · exact h.ap x q
    · exact ⟨by omega, by omega, fun hm => by have := h.rq.tp.sl.lt _ hm; omega, by omega, by omega, by omega⟩
  have o9 : Only [kc] w' (w'.setCell ⟨kc, 4, none⟩ vb') := (Only.refl _ _).setCell (p := ⟨kc, 4, none⟩) (Or.inl (by simp)) _
  have nin : ∀ k, (∀ x ∈ ownL vb, x ≠ k) → k ∉ ownL vb := fun k hk hm => hk k hm rfl
  have pc8 : PcAt 69 w' kc P vb := h.pc.only o8 (nin kc (fun x hx => (h.ap x hx).2.2.2.1))
  have rs8 : PcAt 69 w' ks ⟨0, 0, 0, 0⟩ (.slice none 0 0) := h.rs.only o8 (nin ks (fun x hx => (h.ap x hx).2.2.2.2.1))
  have rq8 : RQ w kt vt L kx [kc, ks] b p w' := ⟨h.rq.tp.only o8 (nin kt (fun x hx => (h.ap x hx).1)) (fun x hx hm => (h.ap x hm).2.2.1 hx), (o8.block kx hkx (nin kx (fun x hx => (h.ap x hx).2.1))).trans h.rq.bx, h.rq.d, h.rq.dv, h.rq.dk, h.rq.n, h.rq.only.then o8 (fun x hx => Or.inr (h.ap x hx).2.2.2.2.2)⟩
  have sl8 : SlB w' vb' (B ++ [y]) := by unfold SlB; rw [List.length_append, byV, List.map_append]; exact hown
  exact ⟨⟨pc8.cells.2.2.2.2, pc8.free 4⟩, rq8.other (k := kc) (by simp) h.n.1 o9, pc8.put4 _, sl8.kept o9 (fun x hx => by simpa using (hap x hx).2.2.2.1), hap, rs8.only o9 (by simpa using fun e => h.d e.symm), h.d, h.n⟩
end
set_option maxRecDepth 100000 in
set_option maxHeartbeats 20000000 in
theorem refToldN_calls (a : Option Addr) (c : Nat) (L : List Nat) (w : World) (hl : L.length ≤ 1500) (hs : ∀ x ∈ L, x < 256) (hb : ByAt w a L) (hn : a = none → L = [] ∧ c = 0) :
    Calls Try.prog 51 #[.slice a L.length c] w (RToldN L w) := by
  have hmf : ∀ (fn : Fn) (first cap : Array Value) (w : World), (Instr.makeFunc fn first cap).run Try.prog w = .ok (.func fn first cap) w := fun _ _ _ _ => rfl
  have HB : Hid (ByAt w a L ∧ (∀ x ∈ L, x < 256) ∧ ReadsAs w (.slice a L.length c) L) := ⟨hb, hs, arg_reads hb hn⟩
  obtain ⟨i0, hi0, hz0, hz1, hz2⟩ := info_parts byteInfo
  clear hb hs hn
  go_enter Try.func51, Try.ntmps51
  go_upto_region 1 with fail
  have H0 : Hid (PcAt 69 (w.alloc (.cells #[.int .i64 0, .int .i64 0, .int .i64 0, .int .i64 0, .slice none 0 0] 69)) w.heap.size ⟨0, 0, 0, 0⟩ (.slice none 0 0) ∧ Only [] w (w.alloc (.cells #[.int .i64 0, .int .i64 0, .int .i64 0, .int .i64 0, .slice none 0 0] 69))) := ⟨(MapKept.heap_alloc w _).1, (Only.refl _ _).alloc _⟩
  revert H0
  generalize hks : w.heap.size = ks
  have HKS : Hid (w.heap.size = ks) := hks
  clear hks
  generalize World.alloc w _ = w1
  intro H0
  go_wp2_with fail
  refine (open_calls a c L w1 (by omega) HB.out.2.1 (HB.out.1.only H0.out.2 (by simp))).mono ?_
  rintro e w2 ⟨vt, rfl, hsl, o2, hown⟩
  have H1 : Hid (PcAt 69 w2 ks ⟨0, 0, 0, 0⟩ (.slice none 0 0) ∧ Only [] w w2 ∧ SlB w2 vt (bitsOf L) ∧ (∀ b ∈ ownL vt, w1.heap.size ≤ b) ∧ ks < w1.heap.size) := ⟨H0.out.1.only o2 (by simp), H0.out.2.trans o2, hsl, hown, H0.out.1.lt⟩
  obtain ⟨a9, c9, rfl, _, _⟩ := hsl.shape
  clear hsl o2 hown H0
  have hL3 : (bitsOf L).length = 8 * L.length := bitsOf_len L
  obtain ⟨m3, hm3⟩ : ∃ m3, m3 = (bitsOf L).length := ⟨_, rfl⟩
  rw [← hm3] at H1 ⊢
  have HM3 : Hid (m3 = 8 * L.length) := by show _ = _; rw [hm3, hL3]
  clear hm3 hL3
  obtain ⟨vt, hvt⟩ : ∃ vt, vt = Value.slice a9 m3 c9 := ⟨_, rfl⟩
  have HVT : Hid (vt = Value.slice a9 m3 c9) := hvt
  go_upto_region 4 with fail
  have H2 : Hid (RQ w w2.heap.size vt L (w2.heap.size + 1) [ks] false 0 ((w2.alloc (.cells #[.slice a9 m3 c9, .int .i64 0] 166)).alloc (.cells #[.bool false] 4)) ∧ PcAt 69 ((w2.alloc (.cells #[.slice a9 m3 c9, .int .i64 0] 166)).alloc (.cells #[.bool false] 4)) ks ⟨0, 0, 0, 0⟩ (.slice none 0 0)) := by
    obtain ⟨p1, p2, p3, p4, p5⟩ := H1.out
    rw [← hvt] at p3 p4
    have o : Only [] w2 ((w2.alloc (.cells #[.slice a9 m3 c9, .int .i64 0] 166)).alloc (.cells #[.bool false] 4)) := ((Only.refl _ _).alloc _).alloc _
    have hsz := p2.size
    have hkl := p1.lt
    refine ⟨⟨⟨?_, p3.kept o (by simp), fun k => by have := p3.lt _ k; omega, bitsOf_bits L, by rw [bitsOf_len]; omega, by omega⟩, ?_, by omega, fun k => by have := p3.lt _ k; omega, fun k hk => ?_, by omega, p2.trans o⟩, p1.only o (by simp)⟩
    · rw [Below.heap_alloc _ _ _ (by simp), hvt]; exact (MapKept.heap_alloc w2 _).1
    · have := (MapKept.heap_alloc (w2.alloc (.cells #[.slice a9 m3 c9, .int .i64 0] 166)) (.cells #[.bool false] 4)).1
      simpa using this
    · rw [List.mem_singleton.1 hk]
      exact ⟨by omega, by omega, fun hm => by have := p4 _ hm; omega⟩
  clear H1 hvt
  revert H2
  generalize w2.heap.size + 1 = kx
  generalize w2.heap.size = kt
  generalize World.alloc (World.alloc w2 _) _ = w3
  intro H2
  go_wp2_with fail
  refine (tvar_calls kt vt L 0 _ H2.out.1.tp).mono ?_
  rintro e w4 ⟨rfl, h1, o1⟩
  have HM : Hid (RQ w kt vt L kx [ks] false (a0 L).2.2 w4 ∧ PcAt 69 w4 ks ⟨0, 0, 0, 0⟩ (.slice none 0 0)) := ⟨H2.out.1.read h1 o1, H2.out.2.keepT H2.out.1 (by simp) o1⟩
  clear h1 o1 H2
  go_wp2_with fail
  refine (numT_calls (((a0 L).2.1 : Nat) : Int) (a0 L).1 false kx w4 HM.out.1.bx).mono ?_
  rintro e w5 ⟨rfl, h2, o2⟩
  have H3 : Hid (RQ w kt vt L kx [ks] (false || dE ((a0 L))) (a0 L).2.2 w5 ∧ PcAt 69 w5 ks ⟨0, 0, 0, 0⟩ (.slice none 0 0)) := ⟨HM.out.1.mark h2 o2, HM.out.2.keepX HM.out.1 (by simp) o2⟩
  clear h2 o2 HM
  go_wp2_with fail
  refine (tvar_calls kt vt L (a0 L).2.2 _ H3.out.1.tp).mono ?_
  rintro e w6 ⟨rfl, h1, o1⟩
  have HM : Hid (RQ w kt vt L kx [ks] (false || dE (a0 L)) (a1 L).2.2 w6 ∧ PcAt 69 w6 ks ⟨0, 0, 0, 0⟩ (.slice none 0 0)) := ⟨H3.out.1.read h1 o1, H3.out.2.keepT H3.out.1 (by simp) o1⟩
  clear h1 o1 H3
  go_wp2_with fail
  refine (numT_calls (((a1 L).2.1 : Nat) : Int) (a1 L).1 (false || dE (a0 L)) kx w6 HM.out.1.bx).mono ?_
  rintro e w7 ⟨rfl, h2, o2⟩
  have H4 : Hid (RQ w kt vt L kx [ks] ((false || dE (a0 L)) || dE ((a1 L))) (a1 L).2.2 w7 ∧ PcAt 69 w7 ks ⟨0, 0, 0, 0⟩ (.slice none 0 0)) := ⟨HM.out.1.mark h2 o2, HM.out.2.keepX HM.out.1 (by simp) o2⟩
  clear h2 o2 HM
  go_wp2_with fail
  refine (tget_getM kt vt L (a1 L).2.2 (6) _ H4.out.1.tp).mono ?_
  rintro e w8 ⟨rfl, h1, o1⟩
  have HM : Hid (RQ w kt vt L kx [ks] ((false || dE (a0 L)) || dE (a1 L)) (t2 L).2.2 w8 ∧ PcAt 69 w8 ks ⟨0, 0, 0, 0⟩ (.slice none 0 0)) := ⟨H4.out.1.read h1 o1, H4.out.2.keepT H4.out.1 (by simp) o1⟩
  clear h1 o1 H4
  go_wp2_with fail
  refine (numT_calls (t2 L).2.1 (t2 L).1 ((false || dE (a0 L)) || dE (a1 L)) kx w8 HM.out.1.bx).mono ?_
  rintro e w9 ⟨rfl, h2, o2⟩
  have H5 : Hid (RQ w kt vt L kx [ks] (((false || dE (a0 L)) || dE (a1 L)) || dE ((t2 L))) (t2 L).2.2 w9 ∧ PcAt 69 w9 ks ⟨0, 0, 0, 0⟩ (.slice none 0 0)) := ⟨HM.out.1.mark h2 o2, HM.out.2.keepX HM.out.1 (by simp) o2⟩
  clear h2 o2 HM
  go_wp2_with fail
  refine (tget_getM kt vt L (t2 L).2.2 (6) _ H5.out.1.tp).mono ?_
  rintro e w10 ⟨rfl, h1, o1⟩
  have HM : Hid (RQ w kt vt L kx [ks] (((false || dE (a0 L)) || dE (a1 L)) || dE (t2 L)) (t3 L).2.2 w10 ∧ PcAt 69 w10 ks ⟨0, 0, 0, 0⟩ (.slice none 0 0)) := ⟨H5.out.1.read h1 o1, H5.out.2.keepT H5.out.1 (by simp) o1⟩
  clear h1 o1 H5
  go_wp2_with fail
  refine (numT_calls (t3 L).2.1 (t3 L).1 (((false || dE (a0 L)) || dE (a1 L)) || dE (t2 L)) kx w10 HM.out.1.bx).mono ?_
  rintro e w11 ⟨rfl, h2, o2⟩
  have H6 : Hid (RQ w kt vt L kx [ks] ((((false || dE (a0 L)) || dE (a1 L)) || dE (t2 L)) || dE ((t3 L))) (t3 L).2.2 w11 ∧ PcAt 69 w11 ks ⟨0, 0, 0, 0⟩ (.slice none 0 0)) := ⟨HM.out.1.mark h2 o2, HM.out.2.keepX HM.out.1 (by simp) o2⟩
  clear h2 o2 HM
  obtain ⟨p, hp⟩ : ∃ p, p = toldP L := ⟨_, rfl⟩
  have HP : Hid (p = toldP L) := hp
  rw [show (((a0 L).2.1 : Nat) : Int) = p.st by rw [hp]; rfl, show (((a1 L).2.1 : Nat) : Int) = p.ba by rw [hp]; rfl, show (t2 L).2.1 = p.mn by rw [hp]; rfl, show (t3 L).2.1 = p.ix by rw [hp]; rfl]
  clear hp
  obtain ⟨bf, hbf⟩ : ∃ bf, bf = ((((false || dE (a0 L)) || dE (a1 L)) || dE (t2 L)) || dE (t3 L)) := ⟨_, rfl⟩
  have HBF : Hid (bf = (dE (a0 L) || dE (a1 L) || dE (t2 L) || dE (t3 L))) := by show _ = _; rw [hbf, Bool.false_or]
  rw [← hbf] at H6
  clear hbf
  go_upto_region 5 with fail
  have H7 : Hid (RQ w kt vt L kx [w11.heap.size, ks] bf (t3 L).2.2 (w11.alloc (.cells #[.int .i64 (p.st), .int .i64 (p.ba), .int .i64 (p.ix), .int .i64 (p.mn), .slice none 0 0] 69)) ∧ PcAt 69 (w11.alloc (.cells #[.int .i64 (p.st), .int .i64 (p.ba), .int .i64 (p.ix), .int .i64 (p.mn), .slice none 0 0] 69)) w11.heap.size p (.slice none 0 0) ∧ PcAt 69 (w11.alloc (.cells #[.int .i64 (p.st), .int .i64 (p.ba), .int .i64 (p.ix), .int .i64 (p.mn), .slice none 0 0] 69)) ks ⟨0, 0, 0, 0⟩ (.slice none 0 0)) :=
    ⟨H6.out.1.add (k := w11.heap.size) ((Only.refl [] w11).alloc (.cells #[.int .i64 (p.st), .int .i64 (p.ba), .int .i64 (p.ix), .int .i64 (p.mn), .slice none 0 0] 69)) (Nat.le_refl _), (MapKept.heap_alloc w11 _).1, H6.out.2.only (D := []) ((Only.refl _ _).alloc _) (by simp)⟩
  have HDS : Hid (w11.heap.size ≠ ks ∧ w.heap.size ≤ w11.heap.size) := ⟨fun e => by have := H6.out.2.lt; omega, H6.out.1.only.size⟩
  clear H6
  revert H7 HDS
  generalize w11.heap.size = kc
  generalize World.alloc w11 _ = w12
  intro H7 HDS
  go_wp2_with fail
  refine (tget_getM kt vt L (t3 L).2.2 (7) _ H7.out.1.tp).mono ?_
  rintro e w13 ⟨rfl, h1, o1⟩
  have HM : Hid (RQ w kt vt L kx [kc, ks] bf (t4 L).2.2 w13 ∧ PcAt 69 w13 kc p (.slice none 0 0) ∧ PcAt 69 w13 ks ⟨0, 0, 0, 0⟩ (.slice none 0 0)) := ⟨H7.out.1.read h1 o1, H7.out.2.1.keepT H7.out.1 (by simp) o1, H7.out.2.2.keepT H7.out.1 (by simp) o1⟩
  clear h1 o1 H7
  go_wp2_with fail
  refine (numT_calls (t4 L).2.1 (t4 L).1 bf kx w13 HM.out.1.bx).mono ?_
  rintro e w14 ⟨rfl, h2, o2⟩
  have H8 : Hid (RQ w kt vt L kx [kc, ks] (bf || dE ((t4 L))) (t4 L).2.2 w14 ∧ PcAt 69 w14 kc p (.slice none 0 0) ∧ PcAt 69 w14 ks ⟨0, 0, 0, 0⟩ (.slice none 0 0)) := ⟨HM.out.1.mark h2 o2, HM.out.2.1.keepX HM.out.1 (by simp) o2, HM.out.2.2.keepX HM.out.1 (by simp) o2⟩
  clear h2 o2 HM
  have hlt := (toldN_lt L).1
  obtain ⟨n, hnn⟩ : ∃ n, n = toldN L := ⟨_, rfl⟩
  have HNN : Hid (n = toldN L) := hnn
  rw [show (t4 L).2.1 = (n : Int) by rw [(toldN_lt L).2, hnn]]
  rw [← hnn] at hlt
  clear hnn
  have H10 : Hid (RP w kt vt L kx kc ks p (toldI L 0).1 (toldI L 0).2.1 (toldI L 0).2.2 (.slice none 0 0) w14) :=
    ⟨by have := H8.out.1; rw [HBF.out] at this; exact this, H8.out.2.1, SlB.nil _, by simp [ownL, Value.ownBlock], H8.out.2.2, HDS.out.1, HDS.out.2, Nat.le_of_eq HKS.out⟩
  clear H8 HBF
  go_wp2_with fail
  go_loopg [8] n (fun k' nv wr => ∃ i : Nat, nv = .int .i64 (((n - i : Nat) : Nat) : Int) ∧ Hid (i ≤ n ∧ k' = n - i) ∧ Hid (∃ vb, RP w kt vt L kx kc ks p (toldI L i).1 (toldI L i).2.1 (toldI L i).2.2 vb wr))
  case atStart => exact ⟨0, rfl, ⟨by omega, rfl⟩, ⟨_, H10.out⟩⟩
  case round =>
    clear H10
    obtain ⟨i, rfl, HI, HE0⟩ := hrel
    obtain ⟨vb, hE⟩ := HE0.out
    clear HE0
    obtain ⟨B, bd, q, ht⟩ : ∃ B bd q, toldI L i = (B, bd, q) := ⟨_, _, _, rfl⟩
    rw [ht] at hE
    have HBL : Hid (B.length = i ∧ ∀ x ∈ B, x < 256) := by
      have h1 := bIter_len L ([], tb5 L, (t4 L).2.2) i
      have h2 := bIter_small L ([], tb5 L, (t4 L).2.2) i (by simp)
      have e : bIter L ([], tb5 L, (t4 L).2.2) i = (B, bd, q) := ht
      rw [e] at h1 h2
      exact ⟨by simpa using h1, h2⟩
    have HT : Hid (toldI L i = (B, bd, q)) := ht
    clear ht
    obtain ⟨ab, cb, rfl, hcb, hcells⟩ := hE.sl.shape
    have HBY : Hid (ByAt wr ab B) := fun j hj => by
      obtain ⟨g, e, hc⟩ := hcells j hj
      exact ⟨g, 0, e, by rw [Nat.zero_add]; exact hc⟩
    have HE : Hid (RP w kt vt L kx kc ks p B bd q (.slice ab B.length cb) wr) := hE
    clear hE hcells
    have hin : i ≤ n := HI.out.1
    have cbd := HE.out.rq.cell
    by_cases hgo : i < n ∧ bd = false
    · obtain ⟨hi, rfl⟩ := hgo
      have d1 : decide (((n - i : Nat) : Int) > 0) = true := by simp; omega
      have hpos : (((n - i : Nat) : Nat) : Int) > 0 := by omega
      have hle : B.length ≤ 200 := by have := HBL.out.1; omega
      obtain ⟨y, hy⟩ : ∃ y, y = getM L q ((8 : Nat) : Int) := ⟨_, rfl⟩
      have hyr := getM_range L q 8 (by omega)
      rw [← hy] at hyr
      have hy0 : 0 ≤ y.2.1 := hyr.1
      have hy1 : y.2.1 < 256 := hyr.2
      obtain ⟨yn, hyn⟩ : ∃ yn : Nat, y.2.1 = (yn : Int) := ⟨y.2.1.toNat, by omega⟩
      have HS : Hid (toldI L (i + 1) = (B ++ [yn], false || dE y, y.2.2)) := by
        show bStep L (toldI L i) = _
        rw [HT.out]
        unfold bStep
        show (B ++ [(getM L q ((8 : Nat) : Int)).2.1.toNat], false || dE (getM L q ((8 : Nat) : Int)), (getM L q ((8 : Nat) : Int)).2.2) = _
        rw [← hy, hyn, Int.toNat_natCast]
      have hyn1 : yn < 256 := by omega
      have HW8 : Hid (IntKind.u8.wrap (yn : Int) = (yn : Int)) := wrap_u8 yn hyn1
      have TG : Hid (∀ u, TpAt u kt vt (bitsOf L) q → Calls Try.prog 81 #[.pointer (some ⟨kt, 0, none⟩), .int .i64 8] u fun e w' => e = .returned (.tuple #[.int .i64 ((yn : Int)), .int .i64 (((y.1 : Nat) : Int))]) ∧ TpAt w' kt vt (bitsOf L) y.2.2 ∧ Only [kt] u w') := by
        intro u hu
        have := tget_getM kt vt L q ((8 : Nat) : Int) u hu
        rw [← hy] at this
        unfold TpPost at this
        rw [hyn] at this
        exact this
      clear hy hyn hy0 hy1 hyr
      go_upto_region 8 with fail
      have HD : Hid (RP w kt vt L kx kc ks p B false q (.slice ab B.length cb) wr.drew) := HE.out.keep (Only.refl [] wr).drew
      have c4 := HE.out.pc.cells.2.2.2.2
      clear HE cbd d1
      refine wp_region_F_drew 11 (fun w' => w'.cell? ⟨kc, 4, none⟩ = some (.slice ab B.length cb)) (by kernel_rfl) ?_ (fun hHeld1 => ?_)
      · (try dsimp only); exact c4
      refine tkF 0 rfl ?_; refine tkF 1 rfl ?_; refine tkF 2 rfl ?_; refine tkF 3 rfl ?_
      try simp only [Act.put, List.setIfInBounds_toArray, List.set_cons_zero, List.set_cons_succ, List.getElem_toArray, List.getElem_cons_succ, List.getElem_cons_zero]
      generalize World.drew wr = wd at HD hHeld1 ⊢
      refine wpAnyF_ready (rs := [4]) (by kernel_rfl) (by simp) ?_
      refine AllReadyF.cons rfl (fun K hK => ?_) AllReadyF.nil
      first | (with_reducible refine iteYes ?hcx ?htx; case hcx => kernel_rfl) | rw [if_pos (by rfl)]
      simp only [List.getElem_toArray, List.getElem_cons_succ, List.getElem_cons_zero]
      go_simp
      (go_at_call 81; refine (TG.out wd HD.out.rq.tp).mono ?_; rintro e w15 ⟨rfl, h1, o1⟩; have HD1 : Hid (RP w kt vt L kx kc ks p B false y.2.2 (.slice ab B.length cb) w15) := HD.out.read h1 o1; clear h1 o1)
      try go_wp2_with fail
      refine hK.out _ _ ?_ (fun hHeld2 => ?_)
      · (try dsimp only); exact HD1.out.pc.cells.2.2.2.2
      clear hK K hHeld1
      try simp only [Act.put, List.setIfInBounds_toArray, List.set_cons_zero, List.set_cons_succ, List.getElem_toArray, List.getElem_cons_succ, List.getElem_cons_zero]
      refine tkF 5 rfl ?_; refine tkF 6 rfl ?_
      try simp only [Act.put, List.setIfInBounds_toArray, List.set_cons_zero, List.set_cons_succ, List.getElem_toArray, List.getElem_cons_succ, List.getElem_cons_zero]
      refine wpAnyF_ready (rs := [7]) (by kernel_rfl) (by simp) ?_
      refine AllReadyF.cons rfl (fun K hK => ?_) AllReadyF.nil
      first | (with_reducible refine iteYes ?hcx ?htx; case hcx => kernel_rfl) | rw [if_pos (by rfl)]
      simp only [List.getElem_toArray, List.getElem_cons_succ, List.getElem_cons_zero]
      go_simp
      (refine (numT_calls (yn : Int) y.1 false kx w15 HD1.out.rq.bx).mono ?_; rintro e w16 ⟨rfl, h2, o2⟩; have HD2 : Hid (RP w kt vt L kx kc ks p B (false || dE y) y.2.2 (.slice ab B.length cb) w16) := HD1.out.mark h2 o2; clear h2 o2)
      try go_wp2_with fail
      refine hK.out _ _ ?_ (fun hHeld3 => ?_)
      · (try dsimp only); exact HD2.out.pc.cells.2.2.2.2
      clear hK K hHeld2
      try simp only [Act.put, List.setIfInBounds_toArray, List.set_cons_zero, List.set_cons_succ, List.getElem_toArray, List.getElem_cons_succ, List.getElem_cons_zero]
      refine tkF (v := .int .u8 (yn : Int)) 8 rfl ?_ (by intro w'' hSw; (try dsimp only at hSw); simp only [List.getElem_toArray, List.getElem_cons_succ, List.getElem_cons_zero]; go_simp; rw [HW8.out])
      try simp only [Act.put, List.setIfInBounds_toArray, List.set_cons_zero, List.set_cons_succ, List.getElem_toArray, List.getElem_cons_succ, List.getElem_cons_zero]
      refine wpAnyF_ready (rs := [9]) (by kernel_rfl) (by simp) ?_
      refine AllReadyF.cons rfl (fun K hK => ?_) AllReadyF.nil
      first | (with_reducible refine iteYes ?hcx ?htx; case hcx => kernel_rfl) | rw [if_pos (by rfl)]
      simp only [List.getElem_toArray, List.getElem_cons_succ, List.getElem_cons_zero]
      go_simp
      refine hK.out _ _ ?_ (fun hHeld4 => ?_)
      · (try dsimp only); exact (HD2.out.keep ((Only.refl [] w16).alloc _)).pc.cells.2.2.2.2
      clear hK K
      try simp only [Act.put, List.setIfInBounds_toArray, List.set_cons_zero, List.set_cons_succ, List.getElem_toArray, List.getElem_cons_succ, List.getElem_cons_zero]
      have hnews : ∀ j u, [Value.int .u8 (yn : Int)][j]? = some u → (w16.alloc (.cells #[.int .u8 (yn : Int)] 5)).cell? ((⟨w16.heap.size, 0, none⟩ : Addr).add j) = some u := cell_one_new w16 _ _
      have H17 : Hid (RP w kt vt L kx kc ks p B (false || dE y) y.2.2 (.slice ab B.length cb) (w16.alloc (.cells #[.int .u8 (yn : Int)] 5))) := HD2.out.keep ((Only.refl [] w16).alloc _)
      clear HD HD1 HD2
      generalize w16.heap.size = kn at hnews ⊢
      generalize World.alloc w16 _ = w17 at hnews H17 hHeld4 ⊢
      obtain ⟨v', w8, hr8, hown, hgrow, hnil, hloc⟩ := run_append_own_at (P := Try.prog) w17 0 53 53 5 i0 (.int .u8 0) 1 1 Try.underlying53 hi0 hz0 hz1 hz2 rfl (by decide) (.slice ab B.length cb) B.length (byV B) H17.out.sl ⟨kn, 0, none⟩ 1 1 [.int .u8 (yn : Int)] rfl hnews (by simp [Value.oneCell']) (by unfold maxLen; omega) (by omega) (by omega)
      obtain ⟨⟨c8, f8⟩, hG⟩ := H17.out.grow hown hgrow hloc
      have H18 : Hid (∃ vb, RP w kt vt L kx kc ks p (toldI L (i + 1)).1 (toldI L (i + 1)).2.1 (toldI L (i + 1)).2.2 vb (w8.setCell ⟨kc, 4, none⟩ v')) := ⟨v', by rw [HS.out]; exact hG⟩
      obtain ⟨a', c', hv', _⟩ := hG.sl.shape
      obtain ⟨m', hm'⟩ : ∃ m', m' = (B ++ [yn]).length := ⟨_, rfl⟩
      rw [← hm'] at hv'
      subst hv'
      clear hm' hown hgrow hnil hloc hG hnews H17 c4
      refine wpAnyF_ready (rs := [10]) (by kernel_rfl) (by simp) ?_
      refine AllReadyF.cons rfl (fun K hK => ?_) AllReadyF.nil
      first | (with_reducible refine iteYes ?hcx ?htx; case hcx => kernel_rfl) | rw [if_pos (by rfl)]
      refine step_append (s := .tmp 56) (x := .tmp 64) (t := 53) rfl (by kernel_rfl) (by kernel_rfl) hr8 ?_
      refine hK.out _ _ ?_ (fun hHeld5 => ?_)
      · (try dsimp only); exact c8
      clear hK K hHeld4 hr8
      try simp only [Act.put, List.setIfInBounds_toArray, List.set_cons_zero, List.set_cons_succ, List.getElem_toArray, List.getElem_cons_succ, List.getElem_cons_zero]
      refine wpAnyF_ready (rs := [11]) (by kernel_rfl) (by simp) ?_
      refine AllReadyF.fin rfl (by decide) (fun K hK => ?_) AllReadyF.nil
      first | (with_reducible refine iteYes ?hcx ?htx; case hcx => kernel_rfl) | rw [if_pos (by rfl)]
      simp only [List.getElem_toArray, List.getElem_cons_succ, List.getElem_cons_zero]
      go_simp
      skip
      refine hK.out _ _ ?_
      clear hK K
      try simp only [Act.put, List.setIfInBounds_toArray, List.set_cons_zero, List.set_cons_succ, List.getElem_toArray, List.getElem_cons_succ, List.getElem_cons_zero]
      refine wpAnyF_ready (rs := [12]) (by kernel_rfl) (by simp) ?_
      refine AllReadyF.fin rfl (by decide) (fun K hK => ?_) AllReadyF.nil
      first | (with_reducible refine iteYes ?hcx ?htx; case hcx => kernel_rfl) | rw [if_pos (by rfl)]
      simp only [List.getElem_toArray, List.getElem_cons_succ, List.getElem_cons_zero]
      go_simp
      skip
      refine hK.out _ _ ?_
      clear hK K
      try simp only [Act.put, List.setIfInBounds_toArray, List.set_cons_zero, List.set_cons_succ, List.getElem_toArray, List.getElem_cons_succ, List.getElem_cons_zero]
      refine wpAnyF_done (by kernel_rfl) ?_ _
      clear c8 f8
      go_wp2_with fail
      go_roundg (n - (i + 1))
      case measure => have := HI.out.2; omega
      case rel => exact ⟨i + 1, by congr 1; omega, ⟨by omega, rfl⟩, H18⟩
    have HND : Hid (bd = false → i = n) := fun h => by
      rcases Nat.lt_or_ge i n with q | q
      · exact absurd ⟨q, h⟩ hgo
      · omega
    have HGE : Hid (bd = true → ¬ toldGood L) := fun h q => by
      have h1 := q.1
      have h2 : (toldI L i).2.1 = true := by rw [HT.out]; exact h
      have h3 := bIter_bad L ([], tb5 L, (t4 L).2.2) i (n - i) h2
      rw [show i + (n - i) = n by omega] at h3
      rw [← HNN.out] at h1
      rw [show (toldI L n).2.1 = true from h3] at h1
      cases h1
    have HGF : Hid (bd = false → toldGood L = (tellOk p B.length ∧ sameB (bytesOf (tellT p B)) L = true) ∧ toldY L = B) := fun h => by
      have e : i = n := HND.out h
      have e1 : toldI L (toldN L) = (B, bd, q) := by rw [← HNN.out, ← e]; exact HT.out
      have e2 : toldY L = B := by unfold toldY; rw [e1]
      refine ⟨?_, e2⟩
      unfold toldGood
      rw [e1, e2, ← HP.out, h]
      simp
    by_cases hni : i < n
    · have hbd : bd = true := by
        cases bd with
        | true => rfl
        | false => exact absurd ⟨hni, rfl⟩ hgo
      subst hbd
      have d1 : decide (((n - i : Nat) : Int) > 0) = true := by simp; omega
      have hpos : (((n - i : Nat) : Nat) : Int) > 0 := by omega
      clear hgo
      go_upto_region 9 with fail
      obtain ⟨c0, c1, c2, c3, c4⟩ := HE.out.pc.cells
      go_wp2_with fail
      refine (refTell_calls p ab cb B _ HBL.out.2 (by have := HBL.out.1; omega) HBY.out).mono ?_
      intro e2 wa ha
      have H9 : Hid (RP w kt vt L kx kc ks p B true q (.slice ab B.length cb) wa) := HE.out.keep ha.1
      clear c0 c1 c2 c3 c4 HE cbd
      have cbd := H9.out.rq.cell
      have hsh : ∃ (u : Value) (er : Int), e2 = .returned (.tuple #[u, .int .i64 er]) ∧ ((er = 0 ∧ tellOk p B.length ∧ ReadsAs wa u (bytesOf (tellT p B))) ∨ (er ≠ 0 ∧ ¬ tellOk p B.length)) := by
        rcases ha.2 with ⟨n, e⟩ | ⟨k, v, e, hf⟩
        · exact ⟨_, 1, e, Or.inr ⟨by decide, n⟩⟩
        · exact ⟨v, 0, e, Or.inl ⟨rfl, k, hf.reads⟩⟩
      clear ha
      obtain ⟨u, er, rfl, hcase⟩ := hsh
      have HCS : Hid ((er = 0 ∧ tellOk p B.length ∧ ReadsAs wa u (bytesOf (tellT p B))) ∨ (er ≠ 0 ∧ ¬ tellOk p B.length)) := hcase
      clear hcase
      have HNG : Hid (¬ toldGood L) := HGE.out (by first | trivial | rfl)
      obtain ⟨r0, r1, r2, r3, r4⟩ := H9.out.rs.cells
      have f0 := H9.out.rs.free 0; have f1 := H9.out.rs.free 1; have f2 := H9.out.rs.free 2; have f3 := H9.out.rs.free 3; have f4 := H9.out.rs.free 4
      have HR : Hid (PcAt 69 (((((wa.setCell ⟨ks, 0, none⟩ (.int .i64 0)).setCell ⟨ks, 1, none⟩ (.int .i64 0)).setCell ⟨ks, 2, none⟩ (.int .i64 0)).setCell ⟨ks, 3, none⟩ (.int .i64 0)).setCell ⟨ks, 4, none⟩ (.slice none 0 0)) ks ⟨0, 0, 0, 0⟩ (.slice none 0 0) ∧ Only [] w (((((wa.setCell ⟨ks, 0, none⟩ (.int .i64 0)).setCell ⟨ks, 1, none⟩ (.int .i64 0)).setCell ⟨ks, 2, none⟩ (.int .i64 0)).setCell ⟨ks, 3, none⟩ (.int .i64 0)).setCell ⟨ks, 4, none⟩ (.slice none 0 0)) ∧ SlB (((((wa.setCell ⟨ks, 0, none⟩ (.int .i64 0)).setCell ⟨ks, 1, none⟩ (.int .i64 0)).setCell ⟨ks, 2, none⟩ (.int .i64 0)).setCell ⟨ks, 3, none⟩ (.int .i64 0)).setCell ⟨ks, 4, none⟩ (.slice none 0 0)) (.slice ab B.length cb) B) := by
        have hk := Or.inr (a := ks ∈ ([] : List Nat)) H9.out.n.2
        have hk2 := Or.inl (b := wa.heap.size ≤ ks) (show ks ∈ [ks] by simp)
        exact ⟨H9.out.rs.put5 ⟨0, 0, 0, 0⟩ (.slice none 0 0), only_put hk (only_put hk (only_put hk (only_put hk (only_put hk H9.out.rq.only _ _) _ _) _ _) _ _) _ _, H9.out.sl.kept (only_put hk2 (only_put hk2 (only_put hk2 (only_put hk2 (only_put hk2 (Only.refl [ks] _) _ _) _ _) _ _) _ _) _ _) (fun x hx => by simpa using (H9.out.ap x hx).2.2.2.2.1)⟩
      go_wp2_with fail
      clear r0 r1 r2 r3 r4 f0 f1 f2 f3 f4
      revert HR
      generalize World.setCell (World.setCell (World.setCell (World.setCell (World.setCell wa _ _) _ _) _ _) _ _) _ _ = wz
      intro HR
      obtain ⟨r0, r1, r2, r3, r4⟩ := HR.out.1.cells
      simp only at r0 r1 r2 r3 r4
      refine bodyPost_ret (v := .tuple #[.agg #[.int .i64 0, .int .i64 0, .int .i64 0, .int .i64 0, .slice none 0 0], .int .i64 3]) (by simp [results, Try.results51, go_sem, r0, r1, r2, r3, r4]) rfl ?_
      exact ⟨HR.out.2.1, Or.inr ⟨HNG.out, rfl⟩⟩
    · have d1 : decide (((n - i : Nat) : Int) > 0) = false := by simp; omega
      have hpos : ¬ (((n - i : Nat) : Nat) : Int) > 0 := by omega
      clear hgo
      cases bd with
      | true =>
        go_upto_region 9 with fail
        obtain ⟨c0, c1, c2, c3, c4⟩ := HE.out.pc.cells
        go_wp2_with fail
        refine (refTell_calls p ab cb B _ HBL.out.2 (by have := HBL.out.1; omega) HBY.out).mono ?_
        intro e2 wa ha
        have H9 : Hid (RP w kt vt L kx kc ks p B true q (.slice ab B.length cb) wa) := HE.out.keep ha.1
        clear c0 c1 c2 c3 c4 HE cbd
        have cbd := H9.out.rq.cell
        have hsh : ∃ (u : Value) (er : Int), e2 = .returned (.tuple #[u, .int .i64 er]) ∧ ((er = 0 ∧ tellOk p B.length ∧ ReadsAs wa u (bytesOf (tellT p B))) ∨ (er ≠ 0 ∧ ¬ tellOk p B.length)) := by
          rcases ha.2 with ⟨n, e⟩ | ⟨k, v, e, hf⟩
          · exact ⟨_, 1, e, Or.inr ⟨by decide, n⟩⟩
          · exact ⟨v, 0, e, Or.inl ⟨rfl, k, hf.reads⟩⟩
        clear ha
        obtain ⟨u, er, rfl, hcase⟩ := hsh
        have HCS : Hid ((er = 0 ∧ tellOk p B.length ∧ ReadsAs wa u (bytesOf (tellT p B))) ∨ (er ≠ 0 ∧ ¬ tellOk p B.length)) := hcase
        clear hcase
        have HNG : Hid (¬ toldGood L) := HGE.out (by first | trivial | rfl)
        obtain ⟨r0, r1, r2, r3, r4⟩ := H9.out.rs.cells
        have f0 := H9.out.rs.free 0; have f1 := H9.out.rs.free 1; have f2 := H9.out.rs.free 2; have f3 := H9.out.rs.free 3; have f4 := H9.out.rs.free 4
        have HR : Hid (PcAt 69 (((((wa.setCell ⟨ks, 0, none⟩ (.int .i64 0)).setCell ⟨ks, 1, none⟩ (.int .i64 0)).setCell ⟨ks, 2, none⟩ (.int .i64 0)).setCell ⟨ks, 3, none⟩ (.int .i64 0)).setCell ⟨ks, 4, none⟩ (.slice none 0 0)) ks ⟨0, 0, 0, 0⟩ (.slice none 0 0) ∧ Only [] w (((((wa.setCell ⟨ks, 0, none⟩ (.int .i64 0)).setCell ⟨ks, 1, none⟩ (.int .i64 0)).setCell ⟨ks, 2, none⟩ (.int .i64 0)).setCell ⟨ks, 3, none⟩ (.int .i64 0)).setCell ⟨ks, 4, none⟩ (.slice none 0 0)) ∧ SlB (((((wa.setCell ⟨ks, 0, none⟩ (.int .i64 0)).setCell ⟨ks, 1, none⟩ (.int .i64 0)).setCell ⟨ks, 2, none⟩ (.int .i64 0)).setCell ⟨ks, 3, none⟩ (.int .i64 0)).setCell ⟨ks, 4, none⟩ (.slice none 0 0)) (.slice ab B.length cb) B) := by
          have hk := Or.inr (a := ks ∈ ([] : List Nat)) H9.out.n.2
          have hk2 := Or.inl (b := wa.heap.size ≤ ks) (show ks ∈ [ks] by simp)
          exact ⟨H9.out.rs.put5 ⟨0, 0, 0, 0⟩ (.slice none 0 0), only_put hk (only_put hk (only_put hk (only_put hk (only_put hk H9.out.rq.only _ _) _ _) _ _) _ _) _ _, H9.out.sl.kept (only_put hk2 (only_put hk2 (only_put hk2 (only_put hk2 (only_put hk2 (Only.refl [ks] _) _ _) _ _) _ _) _ _) _ _) (fun x hx => by simpa using (H9.out.ap x hx).2.2.2.2.1)⟩
        go_wp2_with fail
        clear r0 r1 r2 r3 r4 f0 f1 f2 f3 f4
        revert HR
        generalize World.setCell (World.setCell (World.setCell (World.setCell (World.setCell wa _ _) _ _) _ _) _ _) _ _ = wz
        intro HR
        obtain ⟨r0, r1, r2, r3, r4⟩ := HR.out.1.cells
        simp only at r0 r1 r2 r3 r4
        refine bodyPost_ret (v := .tuple #[.agg #[.int .i64 0, .int .i64 0, .int .i64 0, .int .i64 0, .slice none 0 0], .int .i64 3]) (by simp [results, Try.results51, go_sem, r0, r1, r2, r3, r4]) rfl ?_
        exact ⟨HR.out.2.1, Or.inr ⟨HNG.out, rfl⟩⟩
      | false =>
        go_upto_region 9 with fail
        obtain ⟨c0, c1, c2, c3, c4⟩ := HE.out.pc.cells
        go_wp2_with fail
        refine (refTell_calls p ab cb B _ HBL.out.2 (by have := HBL.out.1; omega) HBY.out).mono ?_
        intro e2 wa ha
        have H9 : Hid (RP w kt vt L kx kc ks p B false q (.slice ab B.length cb) wa) := HE.out.keep ha.1
        clear c0 c1 c2 c3 c4 HE cbd
        have cbd := H9.out.rq.cell
        have hsh : ∃ (u : Value) (er : Int), e2 = .returned (.tuple #[u, .int .i64 er]) ∧ ((er = 0 ∧ tellOk p B.length ∧ ReadsAs wa u (bytesOf (tellT p B))) ∨ (er ≠ 0 ∧ ¬ tellOk p B.length)) := by
          rcases ha.2 with ⟨n, e⟩ | ⟨k, v, e, hf⟩
          · exact ⟨_, 1, e, Or.inr ⟨by decide, n⟩⟩
          · exact ⟨v, 0, e, Or.inl ⟨rfl, k, hf.reads⟩⟩
        clear ha
        obtain ⟨u, er, rfl, hcase⟩ := hsh
        have HCS : Hid ((er = 0 ∧ tellOk p B.length ∧ ReadsAs wa u (bytesOf (tellT p B))) ∨ (er ≠ 0 ∧ ¬ tellOk p B.length)) := hcase
        clear hcase
        by_cases hze : er = 0
        case neg =>
          have HNG : Hid (¬ toldGood L) := fun q => by
            rw [(HGF.out (by first | trivial | rfl)).1] at q
            rcases HCS.out with q1 | q1
            · exact hze q1.1
            · exact q1.2 q.1
          have hzb : (er == 0) = false := by simpa using hze
          have hzn : (er != 0) = true := by simpa using hze
          clear hze
          obtain ⟨r0, r1, r2, r3, r4⟩ := H9.out.rs.cells
          have f0 := H9.out.rs.free 0; have f1 := H9.out.rs.free 1; have f2 := H9.out.rs.free 2; have f3 := H9.out.rs.free 3; have f4 := H9.out.rs.free 4
          have HR : Hid (PcAt 69 (((((wa.setCell ⟨ks, 0, none⟩ (.int .i64 0)).setCell ⟨ks, 1, none⟩ (.int .i64 0)).setCell ⟨ks, 2, none⟩ (.int .i64 0)).setCell ⟨ks, 3, none⟩ (.int .i64 0)).setCell ⟨ks, 4, none⟩ (.slice none 0 0)) ks ⟨0, 0, 0, 0⟩ (.slice none 0 0) ∧ Only [] w (((((wa.setCell ⟨ks, 0, none⟩ (.int .i64 0)).setCell ⟨ks, 1, none⟩ (.int .i64 0)).setCell ⟨ks, 2, none⟩ (.int .i64 0)).setCell ⟨ks, 3, none⟩ (.int .i64 0)).setCell ⟨ks, 4, none⟩ (.slice none 0 0)) ∧ SlB (((((wa.setCell ⟨ks, 0, none⟩ (.int .i64 0)).setCell ⟨ks, 1, none⟩ (.int .i64 0)).setCell ⟨ks, 2, none⟩ (.int .i64 0)).setCell ⟨ks, 3, none⟩ (.int .i64 0)).setCell ⟨ks, 4, none⟩ (.slice none 0 0)) (.slice ab B.length cb) B) := by
            have hk := Or.inr (a := ks ∈ ([] : List Nat)) H9.out.n.2
            have hk2 := Or.inl (b := wa.heap.size ≤ ks) (show ks ∈ [ks] by simp)
            exact ⟨H9.out.rs.put5 ⟨0, 0, 0, 0⟩ (.slice none 0 0), only_put hk (only_put hk (only_put hk (only_put hk (only_put hk H9.out.rq.only _ _) _ _) _ _) _ _) _ _, H9.out.sl.kept (only_put hk2 (only_put hk2 (only_put hk2 (only_put hk2 (only_put hk2 (Only.refl [ks] _) _ _) _ _) _ _) _ _) _ _) (fun x hx => by simpa using (H9.out.ap x hx).2.2.2.2.1)⟩
          go_wp2_with fail
          clear r0 r1 r2 r3 r4 f0 f1 f2 f3 f4
          revert HR
          generalize World.setCell (World.setCell (World.setCell (World.setCell (World.setCell wa _ _) _ _) _ _) _ _) _ _ = wz
          intro HR
          obtain ⟨r0, r1, r2, r3, r4⟩ := HR.out.1.cells
          simp only at r0 r1 r2 r3 r4
          refine bodyPost_ret (v := .tuple #[.agg #[.int .i64 0, .int .i64 0, .int .i64 0, .int .i64 0, .slice none 0 0], .int .i64 3]) (by simp [results, Try.results51, go_sem, r0, r1, r2, r3, r4]) rfl ?_
          exact ⟨HR.out.2.1, Or.inr ⟨HNG.out, rfl⟩⟩
        have HY : Hid (tellOk p B.length ∧ ReadsAs wa u (bytesOf (tellT p B))) := by
          rcases HCS.out with q1 | q1
          · exact q1.2
          · exact absurd hze q1.1
        subst hze
        have HCC : Hid (toldGood L ↔ sameB (bytesOf (tellT p B)) L = true) := by
          show _ ↔ _
          rw [(HGF.out (by first | trivial | rfl)).1]
          exact ⟨fun q => q.2, fun q => ⟨HY.out.1, q⟩⟩
        have hc1 := HY.out.2 wa (Only.refl _ _)
        have hc2 := HB.out.2.2 wa H9.out.rq.only
        by_cases hsb : sameB (bytesOf (tellT p B)) L = true
        · have hsl : ((strB (bytesOf (tellT p B))).toList == (strB L).toList) = true := hsb
          have HGD : Hid (toldGood L) := HCC.out.2 hsb
          clear hsb HCC
          obtain ⟨c0, c1, c2, c3, c4⟩ := H9.out.pc.cells
          obtain ⟨r0, r1, r2, r3, r4⟩ := H9.out.rs.cells
          have f0 := H9.out.rs.free 0; have f1 := H9.out.rs.free 1; have f2 := H9.out.rs.free 2; have f3 := H9.out.rs.free 3; have f4 := H9.out.rs.free 4
          have HR : Hid (PcAt 69 (((((wa.setCell ⟨ks, 0, none⟩ (.int .i64 (p.st))).setCell ⟨ks, 1, none⟩ (.int .i64 (p.ba))).setCell ⟨ks, 2, none⟩ (.int .i64 (p.ix))).setCell ⟨ks, 3, none⟩ (.int .i64 (p.mn))).setCell ⟨ks, 4, none⟩ (.slice ab B.length cb)) ks ⟨p.st, p.ba, p.ix, p.mn⟩ (.slice ab B.length cb) ∧ Only [] w (((((wa.setCell ⟨ks, 0, none⟩ (.int .i64 (p.st))).setCell ⟨ks, 1, none⟩ (.int .i64 (p.ba))).setCell ⟨ks, 2, none⟩ (.int .i64 (p.ix))).setCell ⟨ks, 3, none⟩ (.int .i64 (p.mn))).setCell ⟨ks, 4, none⟩ (.slice ab B.length cb)) ∧ SlB (((((wa.setCell ⟨ks, 0, none⟩ (.int .i64 (p.st))).setCell ⟨ks, 1, none⟩ (.int .i64 (p.ba))).setCell ⟨ks, 2, none⟩ (.int .i64 (p.ix))).setCell ⟨ks, 3, none⟩ (.int .i64 (p.mn))).setCell ⟨ks, 4, none⟩ (.slice ab B.length cb)) (.slice ab B.length cb) B) := by
            have hk := Or.inr (a := ks ∈ ([] : List Nat)) H9.out.n.2
            have hk2 := Or.inl (b := wa.heap.size ≤ ks) (show ks ∈ [ks] by simp)
            exact ⟨H9.out.rs.put5 ⟨p.st, p.ba, p.ix, p.mn⟩ (.slice ab B.length cb), only_put hk (only_put hk (only_put hk (only_put hk (only_put hk H9.out.rq.only _ _) _ _) _ _) _ _) _ _, H9.out.sl.kept (only_put hk2 (only_put hk2 (only_put hk2 (only_put hk2 (only_put hk2 (Only.refl [ks] _) _ _) _ _) _ _) _ _) _ _) (fun x hx => by simpa using (H9.out.ap x hx).2.2.2.2.1)⟩
          go_wp2_with fail
          clear r0 r1 r2 r3 r4 f0 f1 f2 f3 f4
          revert HR
          generalize World.setCell (World.setCell (World.setCell (World.setCell (World.setCell wa _ _) _ _) _ _) _ _) _ _ = wz
          intro HR
          obtain ⟨r0, r1, r2, r3, r4⟩ := HR.out.1.cells
          simp only at r0 r1 r2 r3 r4
          refine bodyPost_ret (v := .tuple #[.agg #[.int .i64 (p.st), .int .i64 (p.ba), .int .i64 (p.ix), .int .i64 (p.mn), .slice ab B.length cb], .int .i64 0]) (by simp [results, Try.results51, go_sem, r0, r1, r2, r3, r4]) rfl ?_
          exact ⟨HR.out.2.1, Or.inl ⟨HGD.out, _, by rw [← HP.out]; rfl, by rw [(HGF.out (by first | trivial | rfl)).2]; exact HR.out.2.2, fun b hb => (H9.out.ap b hb).2.2.2.2.2⟩⟩
        · have hsl : ((strB (bytesOf (tellT p B))).toList == (strB L).toList) = false := by simpa [sameB] using hsb
          have HNG : Hid (¬ toldGood L) := fun q => hsb (HCC.out.1 q)
          clear hsb HCC
          obtain ⟨r0, r1, r2, r3, r4⟩ := H9.out.rs.cells
          have f0 := H9.out.rs.free 0; have f1 := H9.out.rs.free 1; have f2 := H9.out.rs.free 2; have f3 := H9.out.rs.free 3; have f4 := H9.out.rs.free 4
          have HR : Hid (PcAt 69 (((((wa.setCell ⟨ks, 0, none⟩ (.int .i64 0)).setCell ⟨ks, 1, none⟩ (.int .i64 0)).setCell ⟨ks, 2, none⟩ (.int .i64 0)).setCell ⟨ks, 3, none⟩ (.int .i64 0)).setCell ⟨ks, 4, none⟩ (.slice none 0 0)) ks ⟨0, 0, 0, 0⟩ (.slice none 0 0) ∧ Only [] w (((((wa.setCell ⟨ks, 0, none⟩ (.int .i64 0)).setCell ⟨ks, 1, none⟩ (.int .i64 0)).setCell ⟨ks, 2, none⟩ (.int .i64 0)).setCell ⟨ks, 3, none⟩ (.int .i64 0)).setCell ⟨ks, 4, none⟩ (.slice none 0 0)) ∧ SlB (((((wa.setCell ⟨ks, 0, none⟩ (.int .i64 0)).setCell ⟨ks, 1, none⟩ (.int .i64 0)).setCell ⟨ks, 2, none⟩ (.int .i64 0)).setCell ⟨ks, 3, none⟩ (.int .i64 0)).setCell ⟨ks, 4, none⟩ (.slice none 0 0)) (.slice ab B.length cb) B) := by
            have hk := Or.inr (a := ks ∈ ([] : List Nat)) H9.out.n.2
            have hk2 := Or.inl (b := wa.heap.size ≤ ks) (show ks ∈ [ks] by simp)
            exact ⟨H9.out.rs.put5 ⟨0, 0, 0, 0⟩ (.slice none 0 0), only_put hk (only_put hk (only_put hk (only_put hk (only_put hk H9.out.rq.only _ _) _ _) _ _) _ _) _ _, H9.out.sl.kept (only_put hk2 (only_put hk2 (only_put hk2 (only_put hk2 (only_put hk2 (Only.refl [ks] _) _ _) _ _) _ _) _ _) _ _) (fun x hx => by simpa using (H9.out.ap x hx).2.2.2.2.1)⟩
          go_wp2_with fail
          clear r0 r1 r2 r3 r4 f0 f1 f2 f3 f4
          revert HR
          generalize World.setCell (World.setCell (World.setCell (World.setCell (World.setCell wa _ _) _ _) _ _) _ _) _ _ = wz
          intro HR
          obtain ⟨r0, r1, r2, r3, r4⟩ := HR.out.1.cells
          simp only at r0 r1 r2 r3 r4
          refine bodyPost_ret (v := .tuple #[.agg #[.int .i64 0, .int .i64 0, .int .i64 0, .int .i64 0, .slice none 0 0], .int .i64 3]) (by simp [results, Try.results51, go_sem, r0, r1, r2, r3, r4]) rfl ?_
          exact ⟨HR.out.2.1, Or.inr ⟨HNG.out, rfl⟩⟩
theorem refTold_calls (a : Option Addr) (c : Nat) (L : List Nat) (w : World) (hl : L.length ≤ 1500) (hs : ∀ x ∈ L, x < 256) (hb : ByAt w a L) (hn : a = none → L = [] ∧ c = 0) :
    Calls Try.prog 51 #[.slice a L.length c] w (RToldPost L w) := by
  refine (refToldN_calls a c L w hl hs hb hn).mono ?_
  rintro e w' ⟨o, ⟨h1, u, h2, h3, _⟩ | h⟩
  · exact ⟨o, Or.inl ⟨h1, u, h2, h3⟩⟩
  · exact ⟨o, Or.inr h⟩
end Go.Proofs.Ytedhdmahdioboaa
