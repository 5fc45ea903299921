/- gyrekeep.BitsBack: what was written is read again: marks in lists, the fact ahead of it, pick. -/
import Derived.Test.YtakncikdomipnaaBt5
import Derived.Maps.RangeWalk
namespace Go.Proofs.Ytakncikdomipnaa
open Go.ChangeShapes Go.WideShapes Go.ChangeAt Go.RowKit
set_option linter.unusedVariables false
set_option linter.unusedSimpArgs false

structure Mk where
  wt : Int
  n : Int
  wd : Int
def encM (x : Mk) : List Nat := if x.wt = 0 then putB x.n.toNat x.wd.toNat else if x.wt = 1 then varB x.n.toNat else varB (codeM x.n)
def badM (x : Mk) : Prop := if x.wt = 0 then badPut x.n x.wd else if x.wt = 1 then badVar x.n else badInt x.n
def mk0 : Mk := ⟨0, 0, 0⟩
theorem encM_bits (x : Mk) : Bits (encM x) := by
  unfold encM
  split
  · exact putB_bits _ _
  · split
    · exact varB_bits _
    · exact varB_bits _
/-- Marks that came in. -/
def MarksAt (w : World) (a : Option Addr) (len : Nat) (M : Nat → Mk) : Prop :=
  ∀ j, j < len → ∃ b o, a = some ⟨b, o, none⟩ ∧ w.cell? ⟨b, o + j * 3, none⟩ = some (.int .i64 ((M j).wt)) ∧ w.cell? ⟨b, o + j * 3 + 1, none⟩ = some (.int .i64 ((M j).n)) ∧ w.cell? ⟨b, o + j * 3 + 2, none⟩ = some (.int .i64 ((M j).wd))
theorem MarksAt.only {w w' : World} {a : Option Addr} {len : Nat} {M : Nat → Mk} (h : MarksAt w a len M) (o : Only [] w w') : MarksAt w' a len M := fun j hj => by
  obtain ⟨b, p, e, h0, h1, h2⟩ := h j hj
  exact ⟨b, p, e, o.cell h0 (by simp), o.cell h1 (by simp), o.cell h2 (by simp)⟩

/-! Marks that a call has collected. -/
def ownL (v : Value) : List Nat := v.ownBlock.toList
def enc3 (p : Mk) : List Value := [.int .i64 (p.wt), .int .i64 (p.n), .int .i64 (p.wd)]
def SlMarks (w : World) (v : Value) (P : List Mk) : Prop := w.ownsRow 0 28 3 v P.length (P.flatMap enc3)
theorem markInfo : (Try.prog.info? 28).map (fun i => (i.zero, i.size, i.bytes)) = some (some (.agg #[.int .i64 0, .int .i64 0, .int .i64 0]), 3, 24) := by kernel_rfl
theorem SlMarks.kept {w w' : World} {v : Value} {P : List Mk} (h : SlMarks w v P) {D : List Nat} (o : Only D w w') (s : ∀ b ∈ ownL v, b ∉ D) : SlMarks w' v P := by
  obtain ⟨h1, h2⟩ := h
  refine ⟨h1, ?_⟩
  rcases h2 with h2 | ⟨g, cap, cur, rfl, hb, hg, r⟩
  · exact Or.inl h2
  · exact Or.inr ⟨g, cap, cur, rfl, hb, (o.block g (Array.getElem?_eq_some_iff.1 hg).1 (s g (by simp [ownL, Value.ownBlock]))).trans hg, r⟩
theorem SlMarks.lt {w : World} {v : Value} {P : List Mk} (h : SlMarks w v P) : ∀ b ∈ ownL v, b < w.heap.size := by
  intro b hb
  obtain ⟨_, ⟨rfl, _⟩ | ⟨g, cap, cur, rfl, _, hg, _⟩⟩ := h
  · simp [ownL, Value.ownBlock] at hb
  · simp only [ownL, Value.ownBlock, Option.toList_some, List.mem_singleton] at hb
    subst hb
    exact (Array.getElem?_eq_some_iff.1 hg).1
theorem SlMarks.nil (w : World) : SlMarks w (.slice none 0 0) [] := World.ownsRow_nil w 0 _ _
theorem flat3 : ∀ (Q : List Mk) (j : Nat) (hj : j < Q.length), (Q.flatMap enc3)[j * 3]? = some (.int .i64 (Q[j].wt)) ∧ (Q.flatMap enc3)[j * 3 + 1]? = some (.int .i64 (Q[j].n)) ∧ (Q.flatMap enc3)[j * 3 + 2]? = some (.int .i64 (Q[j].wd)) := by
  intro Q
  induction Q with
  | nil => intro j hj; simp at hj
  | cons p Q ih =>
    intro j hj
    cases j with
    | zero => simp [enc3]
    | succ j =>
      have := ih j (by simpa using hj)
      simp only [List.flatMap_cons, enc3, List.cons_append, List.nil_append]
      rw [show (j + 1) * 3 = j * 3 + 1 + 1 + 1 by omega]
      simpa using this
theorem SlMarks.shape {w : World} {v : Value} {P : List Mk} (h : SlMarks w v P) : ∃ a c, v = .slice a P.length c ∧ (∀ j (hj : j < P.length), ∃ g, a = some ⟨g, 0, none⟩ ∧ w.cell? ⟨g, j * 3, none⟩ = some (.int .i64 (P[j].wt)) ∧ w.cell? ⟨g, j * 3 + 1, none⟩ = some (.int .i64 (P[j].n)) ∧ w.cell? ⟨g, j * 3 + 2, none⟩ = some (.int .i64 (P[j].wd))) := by
  obtain ⟨h1, ⟨rfl, h2⟩ | ⟨g, cap, cur, rfl, hb, hg, hn, hc, hs, ht⟩⟩ := h
  · exact ⟨none, 0, by rw [h2], fun j hj => by omega⟩
  · refine ⟨some ⟨g, 0, none⟩, cap, rfl, fun j hj => ⟨g, rfl, ?_⟩⟩
    have e := flat3 P j hj
    rw [← ht, List.getElem?_take, List.getElem?_take, List.getElem?_take, if_pos (by omega), if_pos (by omega), if_pos (by omega)] at e
    simp only [World.cell?, hg, Option.isSome_none, Bool.false_eq_true, if_false]
    rw [← e.1, ← e.2.1, ← e.2.2, Array.getElem?_toList, Array.getElem?_toList, Array.getElem?_toList]
    exact ⟨rfl, rfl, rfl⟩
/-- What a list has become by one more mark. -/
def MarkPost (w : World) (v : Value) (P : List Mk) (v' : Value) (w' : World) : Prop := SlMarks w' v' P ∧ Only (ownL v) w w' ∧ (∀ b ∈ ownL v', b ∈ ownL v ∨ w.heap.size ≤ b)
theorem mark_post {w2 w3 : World} {v v' : Value} {P : List Mk} {p : Mk} {T : TypeId} (hown : w3.ownsRow 0 28 3 v' (P.length + 1) (P.flatMap enc3 ++ [.int .i64 (p.wt), .int .i64 (p.n), .int .i64 (p.wd)])) (hgrow : (w2.alloc (.cells #[.int .i64 (p.wt), .int .i64 (p.n), .int .i64 (p.wd)] T)).grownBy w3 v.ownBlock)
    (hloc : v'.ownBlock = v.ownBlock ∨ v'.ownBlock = some (w2.alloc (.cells #[.int .i64 (p.wt), .int .i64 (p.n), .int .i64 (p.wd)] T)).heap.size) : Hid (MarkPost w2 v (P ++ [p]) v' w3) := by
  refine ⟨?_, ?_, ?_⟩
  · unfold SlMarks; rw [List.flatMap_append, List.length_append]; exact hown
  · refine ((Only.refl _ _).alloc _).grown hgrow (fun k hk => Or.inl ?_)
    simp [ownL, hk]
  · intro x hx
    rcases hloc with e | e
    · left; simpa [ownL, e] using hx
    · right
      simp only [ownL, e, Option.toList_some, List.mem_singleton] at hx
      simp at hx; omega
theorem cell_three (w : World) (a b c : Value) (t : TypeId) : ∀ j u, [a, b, c][j]? = some u → (w.alloc (.cells #[a, b, c] t)).cell? ((⟨w.heap.size, 0, none⟩ : Addr).add j) = some u := by
  intro j u hj
  match j, hj with
  | 0, hj => simp at hj; subst hj; simp [Addr.add]
  | 1, hj => simp at hj; subst hj; simp [Addr.add]
  | 2, hj => simp at hj; subst hj; simp [Addr.add]
  | j + 3, hj => simp at hj

theorem pick_calls (a n : Int) (w : World) (h0 : 0 < n) (h1 : n ≤ 1000) : Calls Try.prog 5 #[.int .i64 a, .int .i64 n] w fun e w' => ∃ p, e = .returned (.int .i64 p) ∧ 0 ≤ p ∧ p < n ∧ w' = w := by
  have hn : n ≠ 0 := by omega
  go_enter Try.func5, Try.ntmps5
  go_wp2_with fail
  go_ret
  have hu : 0 ≤ IntKind.u64.wrap a := by show 0 ≤ a % _; exact Int.emod_nonneg _ (by decide)
  have e1 : (IntKind.u64.wrap a).tmod n = IntKind.u64.wrap a % n := Int.tmod_eq_emod_of_nonneg hu
  have e2 := Int.emod_nonneg (IntKind.u64.wrap a) hn
  have e3 := Int.emod_lt_of_pos (IntKind.u64.wrap a) h0
  have e4 : wrap64 ((IntKind.u64.wrap a).tmod n) = IntKind.u64.wrap a % n := by rw [e1]; unfold wrap64; omega
  exact ⟨_, rfl, by rw [e4]; exact e2, by rw [e4]; exact e3, rfl⟩

/-- Bits that were written, byte by byte, and what fills the last one up. -/
theorem bitsOf_written {l : List Nat} (h : Bits l) : ∃ pad, bitsOf (bytesOf l) = l ++ pad ∧ pad.length = 8 * ((l.length + 7) / 8) - l.length := ⟨_, bitsOf_bytesOf h, by simp⟩
theorem bytesOf_small {l : List Nat} (h : Bits l) : ∀ x ∈ bytesOf l, x < 256 := by
  intro x hx
  obtain ⟨k, _, rfl⟩ := List.mem_map.1 hx
  exact byteAt_lt h k
/-- A new Writer. -/
theorem WrAt.new (w : World) (t : TypeId) (ht : t = 26) : WrAt (w.alloc (.cells (wcells []) t)) w.heap.size [] := by
  subst ht
  exact ⟨(MapKept.heap_alloc w _).1, Bits.nil, by simp⟩
set_option maxRecDepth 100000 in
set_option maxHeartbeats 2000000 in
theorem written_calls (w : World) : Calls Try.prog 4 #[] w fun e w' => e = .returned (.bool true) ∧ Only [] w w' := by
  have hz := writer_new
  go_enter Try.func4, Try.ntmps4
  go_upto_region 2 with fail
  have H0 : Hid (WrAt (w.alloc (.cells (wcells []) 26)) w.heap.size [] ∧ Only [] w (w.alloc (.cells (wcells []) 26)) ∧ w.heap.size ≤ w.heap.size) := ⟨WrAt.new w _ rfl, (Only.refl [] w).alloc _, Nat.le_refl _⟩
  revert H0
  generalize World.alloc w _ = w1
  generalize hx : w.heap.size = x
  intro H0
  have HX : Hid (w.heap.size = x) := hx
  clear hx
  go_wp2_with fail
  refine (put_calls x [] 5 3 w1 H0.out.1).mono ?_
  rintro e w2 ⟨o2, hr⟩
  have hb1 : ¬ badPut 5 3 := by unfold badPut; decide
  rcases hr with ⟨hb, _⟩ | ⟨_, hl, _⟩ | ⟨_, hl, rfl, hw2⟩
  · exact absurd hb hb1
  · rw [putB_len] at hl; simp at hl
  have H2 : Hid (WrAt w2 x (putB 5 3) ∧ Only [] w w2) := ⟨hw2, H0.out.2.1.then o2 (fun b hb => by simp only [List.mem_singleton] at hb; rw [hb, ← HX.out]; exact Or.inr (Nat.le_refl _))⟩
  clear hl hw2 o2 H0 hb1
  go_wp2_with fail
  refine (int_calls x (putB 5 3) (-70) w2 H2.out.1).mono ?_
  have hb2 : ¬ badInt (-70) := by unfold badInt; decide
  have hc70 : (varB (codeM (-70))).length = 12 := by rw [varB_len, show codeM (-70) = 139 by decide, piecesM_great (by omega), piecesM_small (by omega)]
  rintro e w3 ⟨o3, hr⟩
  rcases hr with ⟨hb, _⟩ | ⟨_, hl, _⟩ | ⟨_, hl, rfl, hw3⟩
  · exact absurd hb hb2
  · rw [putB_len, hc70] at hl; omega
  have H3 : Hid (WrAt w3 x (putB 5 3 ++ varB (codeM (-70))) ∧ Only [] w w3 ∧ (putB 5 3 ++ varB (codeM (-70))).length = 15) := ⟨hw3, H2.out.2.then o3 (fun b hb => by simp only [List.mem_singleton] at hb; rw [hb, ← HX.out]; exact Or.inr (Nat.le_refl _)), by rw [List.length_append, putB_len, hc70]⟩
  clear hl hw3 o3 H2
  obtain ⟨l, hl⟩ : ∃ l, l = putB 5 3 ++ varB (codeM (-70)) := ⟨_, rfl⟩
  rw [← hl] at H3
  have HL : Hid (l = putB 5 3 ++ varB (codeM (-70)) ∧ (varB (codeM (-70))).length = 12 ∧ ¬ badInt (-70)) := ⟨hl, hc70, hb2⟩
  clear hl hc70 hb2
  go_wp2_with fail
  refine (bytes_calls x l w3 H3.out.1).mono ?_
  rintro e w4 ⟨v4, rfl, ⟨g, c, rfl, hg0, hg1, hby, _⟩, o4⟩
  go_wp2_with fail
  refine (read_calls g 0 c (bytesOf l) w4 (by rw [bytesOf_len]; have := H3.out.2.2; omega) (bytesOf_small H3.out.1.bits) hby).mono ?_
  rintro e w5 ⟨v5, rfl, ⟨r, a, c5, rfl, hr0, hrd, hra⟩, o5⟩
  have H5 : Hid (WrAt w5 x l ∧ Only [] w w5 ∧ RdAt w5 r a c5 (bytesOf l) 0 ∧ x ≠ r ∧ w.heap.size ≤ r ∧ l.length = 15) := by
    have hx4 := (H3.out.1.only o4 (by simp)).lt
    exact ⟨(H3.out.1.only o4 (by simp)).only o5 (by simp), (H3.out.2.1.trans o4).trans o5, hrd, by omega, by have := H3.out.2.1.size; have := o4.size; omega, H3.out.2.2⟩
  clear hg0 hg1 hby o4 hr0 hrd hra o5 H3
  go_wp2_with fail
  refine (get_calls r a c5 (bytesOf l) 0 3 w5 H5.out.2.2.1).mono ?_
  obtain ⟨pad, hpad, _⟩ := bitsOf_written H5.out.1.bits
  have HP : Hid (bitsOf (bytesOf l) = putB 5 3 ++ varB (codeM (-70)) ++ pad) := by show _ = _; rw [hpad, HL.out.1]
  have hlen : (bytesOf l).length = 2 := by rw [bytesOf_len, H5.out.2.2.2.2.2]
  clear hpad
  rintro e w6 (⟨hb, _⟩ | ⟨_, hl, _⟩ | ⟨_, hl, rfl, hr, o6⟩)
  · omega
  · rw [hlen] at hl; simp at hl
  have hv : valB (((bitsOf (bytesOf l)).drop 0).take (3 : Int).toNat) = 5 := by
    rw [HP.out, show (3 : Int).toNat = 3 from rfl, List.drop_zero, List.append_assoc, List.take_left' (putB_len 5 3)]; decide
  rw [hv]
  have H6 : Hid (WrAt w6 x l ∧ Only [] w w6 ∧ RdAt w6 r a c5 (bytesOf l) 3 ∧ l.length = 15 ∧ x ≠ r ∧ w.heap.size ≤ r) :=
    ⟨H5.out.1.only o6 (by simp only [List.mem_singleton]; exact H5.out.2.2.2.1), H5.out.2.1.then o6 (fun b hb => by simp only [List.mem_singleton] at hb; rw [hb]; exact Or.inr H5.out.2.2.2.2.1), hr, H5.out.2.2.2.2.2, H5.out.2.2.2.1, H5.out.2.2.2.2.1⟩
  clear hl hr o6 hv H5 hlen
  simp only [if_true]
  go_wp2_with fail
  refine (rint_calls r a c5 (bytesOf l) 3 w6 H6.out.2.2.1).mono ?_
  have hi : intM (bytesOf l) 3 = (0, -70, 3 + (varB (codeM (-70))).length) := by
    have := intM_back (-70) (bytesOf l) (putB 5 3) pad HP.out HL.out.2.2
    rw [putB_len] at this; exact this
  rw [hi]
  rintro e w7 ⟨rfl, hr, o7⟩
  have H7 : Hid (WrAt w7 x l ∧ Only [] w w7 ∧ l.length = 15) :=
    ⟨H6.out.1.only o7 (by simp only [List.mem_singleton]; exact H6.out.2.2.2.2.1), H6.out.2.1.then o7 (fun b hb => by simp only [List.mem_singleton] at hb; rw [hb]; exact Or.inr H6.out.2.2.2.2.2), H6.out.2.2.2.1⟩
  clear hr o7 H6 hi HP
  simp only [show (((0 : Nat) : Int) = 0) = True by simp, if_true]
  go_wp2_with fail
  refine (many_calls x l w7 H7.out.1).mono ?_
  rintro e w8 ⟨rfl, rfl⟩
  rw [H7.out.2.2]
  go_wp2_with fail
  go_ret
  exact ⟨rfl, H7.out.2.1⟩
end Go.Proofs.Ytakncikdomipnaa
