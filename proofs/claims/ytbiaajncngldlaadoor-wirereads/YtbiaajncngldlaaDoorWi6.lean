/- gyreref.Tell: whichever piece. -/
import Derived.Test.YtbiaajncngldlaaDoorWi5
namespace Go.Proofs.YtbiaajncngldlaaDoor
open Go.ChangeShapes Go.WideShapes Go.ChangeAt Go.RowKit
set_option linter.unusedVariables false
set_option linter.unusedSimpArgs false

def RTellPost (p : Pc) (L : List Nat) (w : World) (e : Ending) (w' : World) : Prop :=
  Only [] w w' ∧ ((¬ tellOk p L.length ∧ e = .returned (.tuple #[.slice none 0 0, .int .i64 1])) ∨ (tellOk p L.length ∧ ∃ v, e = .returned (.tuple #[v, .int .i64 0]) ∧ SlB w' v (bytesOf (tellT p L))))
theorem tell_ways (p : Pc) (L : List Nat) (h : ¬ tellOk p L.length) : (decide (p.st < 1) = true) ∨ (decide (p.st < 1) = false ∧ decide (p.st > 70368744177664) = true) ∨ (decide (p.st < 1) = false ∧ decide (p.st > 70368744177664) = false ∧ decide (p.ba < 0) = true) ∨ (decide (p.st < 1) = false ∧ decide (p.st > 70368744177664) = false ∧ decide (p.ba < 0) = false ∧ decide (p.ba ≥ p.st) = true) ∨ (decide (p.st < 1) = false ∧ decide (p.st > 70368744177664) = false ∧ decide (p.ba < 0) = false ∧ decide (p.ba ≥ p.st) = false ∧ decide (p.mn < 1) = true) ∨ (decide (p.st < 1) = false ∧ decide (p.st > 70368744177664) = false ∧ decide (p.ba < 0) = false ∧ decide (p.ba ≥ p.st) = false ∧ decide (p.mn < 1) = false ∧ decide (p.mn > 40) = true) ∨ (decide (p.st < 1) = false ∧ decide (p.st > 70368744177664) = false ∧ decide (p.ba < 0) = false ∧ decide (p.ba ≥ p.st) = false ∧ decide (p.mn < 1) = false ∧ decide (p.mn > 40) = false ∧ decide (p.ix < 0) = true) ∨ (decide (p.st < 1) = false ∧ decide (p.st > 70368744177664) = false ∧ decide (p.ba < 0) = false ∧ decide (p.ba ≥ p.st) = false ∧ decide (p.mn < 1) = false ∧ decide (p.mn > 40) = false ∧ decide (p.ix < 0) = false ∧ decide (p.ix ≥ p.mn) = true) ∨ (decide (p.st < 1) = false ∧ decide (p.st > 70368744177664) = false ∧ decide (p.ba < 0) = false ∧ decide (p.ba ≥ p.st) = false ∧ decide (p.mn < 1) = false ∧ decide (p.mn > 40) = false ∧ decide (p.ix < 0) = false ∧ decide (p.ix ≥ p.mn) = false ∧ decide ((L.length : Int) > 100) = true) := by
  by_cases b0 : p.st < 1
  · exact Or.inl (decide_eq_true b0)
  by_cases b1 : p.st > 70368744177664
  · exact Or.inr (Or.inl ⟨decide_eq_false b0, decide_eq_true b1⟩)
  by_cases b2 : p.ba < 0
  · exact Or.inr (Or.inr (Or.inl ⟨decide_eq_false b0, decide_eq_false b1, decide_eq_true b2⟩))
  by_cases b3 : p.ba ≥ p.st
  · exact Or.inr (Or.inr (Or.inr (Or.inl ⟨decide_eq_false b0, decide_eq_false b1, decide_eq_false b2, decide_eq_true b3⟩)))
  by_cases b4 : p.mn < 1
  · exact Or.inr (Or.inr (Or.inr (Or.inr (Or.inl ⟨decide_eq_false b0, decide_eq_false b1, decide_eq_false b2, decide_eq_false b3, decide_eq_true b4⟩))))
  by_cases b5 : p.mn > 40
  · exact Or.inr (Or.inr (Or.inr (Or.inr (Or.inr (Or.inl ⟨decide_eq_false b0, decide_eq_false b1, decide_eq_false b2, decide_eq_false b3, decide_eq_false b4, decide_eq_true b5⟩)))))
  by_cases b6 : p.ix < 0
  · exact Or.inr (Or.inr (Or.inr (Or.inr (Or.inr (Or.inr (Or.inl ⟨decide_eq_false b0, decide_eq_false b1, decide_eq_false b2, decide_eq_false b3, decide_eq_false b4, decide_eq_false b5, decide_eq_true b6⟩))))))
  by_cases b7 : p.ix ≥ p.mn
  · exact Or.inr (Or.inr (Or.inr (Or.inr (Or.inr (Or.inr (Or.inr (Or.inl ⟨decide_eq_false b0, decide_eq_false b1, decide_eq_false b2, decide_eq_false b3, decide_eq_false b4, decide_eq_false b5, decide_eq_false b6, decide_eq_true b7⟩)))))))
  by_cases b8 : (L.length : Int) > 100
  · exact Or.inr (Or.inr (Or.inr (Or.inr (Or.inr (Or.inr (Or.inr (Or.inr (⟨decide_eq_false b0, decide_eq_false b1, decide_eq_false b2, decide_eq_false b3, decide_eq_false b4, decide_eq_false b5, decide_eq_false b6, decide_eq_false b7, decide_eq_true b8⟩))))))))
  exact absurd (show tellOk p L.length from ⟨⟨by omega, by omega, by omega, by omega⟩, ⟨by omega, by omega⟩, ⟨by omega, by omega⟩, by omega⟩) h
theorem tellT_bits (p : Pc) (L : List Nat) : Bits (tellT p L) := by
  unfold tellT
  exact Bits.app (Bits.app (Bits.app (varsB_bits _) (putsB_bits _ _)) (putsB_bits _ _)) (putsB_bits _ _)
set_option maxRecDepth 100000 in
set_option maxHeartbeats 4000000 in
theorem refTell_bad (p : Pc) (a : Option Addr) (c : Nat) (L : List Nat) (w : World) (h : ¬ tellOk p L.length) (hL : L.length ≤ 100000) : Calls Tryd.prog 11 #[.agg #[.int .i64 (p.st), .int .i64 (p.ba), .int .i64 (p.ix), .int .i64 (p.mn), .slice a L.length c]] w (RTellPost p L w) := by
  have HN : Hid (¬ tellOk p L.length) := h
  have hw := tell_ways p L h
  clear h
  rcases hw with q0 | ⟨q0, q1⟩ | ⟨q0, q1, q2⟩ | ⟨q0, q1, q2, q3⟩ | ⟨q0, q1, q2, q3, q4⟩ | ⟨q0, q1, q2, q3, q4, q5⟩ | ⟨q0, q1, q2, q3, q4, q5, q6⟩ | ⟨q0, q1, q2, q3, q4, q5, q6, q7⟩ | ⟨q0, q1, q2, q3, q4, q5, q6, q7, q8⟩
  all_goals
    go_enter Tryd.func11, Tryd.ntmps11
    go_wp2_with fail
    go_ret2
    exact ⟨(Only.refl _ _).alloc _, Or.inl ⟨HN.out, rfl⟩⟩
/-- Bits that are written beside a piece. -/
structure RT (w : World) (k kb : Nat) (p : Pc) (v : Value) (l : List Nat) (wr : World) : Prop where
  pc : PcAt 41 wr k p v
  rb : RB w kb [k] l wr
theorem RT.put {w : World} {k kb : Nat} {p : Pc} {v : Value} {l l' : List Nat} {wr w' : World} {e : Ending} (h : RT w k kb p v l wr) (q : RBPost w kb [k] l' wr e w') : RT w k kb p v l' w' :=
  ⟨(q.2.2 k (by simp)).trans h.pc, q.2.1⟩
theorem bits_new1 {w wr : World} {k : Nat} (o : Only [] w wr) (hk : k < wr.heap.size) : RB w wr.heap.size [k] [] (wr.alloc (.cells #[.slice none 0 0] 63)) :=
  ⟨⟨.slice none 0 0, ⟨(MapKept.heap_alloc wr _).1, SlB.nil _, by simp [ownL, Value.ownBlock]⟩, by simp [ownL, Value.ownBlock], fun b hb => by
    rw [List.mem_singleton.1 hb]
    simp [ownL, Value.ownBlock]; omega⟩, o.alloc _, o.size⟩
theorem varI_calls (w : World) (kb : Nat) (K l : List Nat) (n : Int) (wr : World) (h : RB w kb K l wr) (hn : 0 ≤ n) (hn2 : n < 2 ^ 62) (hl : l.length ≤ 50000) :
    Calls Tryd.prog 20 #[.pointer (some ⟨kb, 0, none⟩), .int .i64 n] wr (RBPost w kb K (l ++ varsB [n]) wr) := by
  obtain ⟨m, rfl⟩ : ∃ m : Nat, n = (m : Int) := ⟨n.toNat, by omega⟩
  have := varR_calls w kb K l m wr h (by omega) hl
  rw [show varsB [(m : Int)] = varB m by simp [varsB]]
  exact this
theorem putI_calls (w : World) (kb : Nat) (K l : List Nat) (n : Int) (wd : Nat) (wr : World) (h : RB w kb K l wr) (hn : 0 ≤ n) (hn2 : n < 2 ^ 62) (hw : wd ≤ 62) (hl : l.length ≤ 50000) :
    Calls Tryd.prog 21 #[.pointer (some ⟨kb, 0, none⟩), .int .i64 n, .int .i64 ((wd : Int))] wr (RBPost w kb K (l ++ putsB wd [n]) wr) := by
  obtain ⟨m, rfl⟩ : ∃ m : Nat, n = (m : Int) := ⟨n.toNat, by omega⟩
  have := putR_calls w kb K l m wd wr h hw (by omega) (by omega)
  rw [show putsB wd [(m : Int)] = putB m wd by simp [putsB]]
  exact this
set_option maxRecDepth 100000 in
set_option maxHeartbeats 4000000 in
theorem refTell_good (p : Pc) (a : Option Addr) (c : Nat) (L : List Nat) (w : World) (h : tellOk p L.length) (hs : ∀ x ∈ L, x < 256) (hb : ByAt w a L) : Calls Tryd.prog 11 #[.agg #[.int .i64 (p.st), .int .i64 (p.ba), .int .i64 (p.ix), .int .i64 (p.mn), .slice a L.length c]] w (RTellPost p L w) := by
  have HOK : Hid (tellOk p L.length) := h
  have HB : Hid (ByAt w a L ∧ ∀ x ∈ L, x < 256) := ⟨hb, hs⟩
  have hl2 : L.length ≤ 100 := h.2.2.2
  have q0 : decide (p.st < 1) = false := by obtain ⟨h1, h2, h3, h4⟩ := h; simp; omega
  have q1 : decide (p.st > 70368744177664) = false := by obtain ⟨h1, h2, h3, h4⟩ := h; simp; omega
  have q2 : decide (p.ba < 0) = false := by obtain ⟨h1, h2, h3, h4⟩ := h; simp; omega
  have q3 : decide (p.ba ≥ p.st) = false := by obtain ⟨h1, h2, h3, h4⟩ := h; simp; omega
  have q4 : decide (p.mn < 1) = false := by obtain ⟨h1, h2, h3, h4⟩ := h; simp; omega
  have q5 : decide (p.mn > 40) = false := by obtain ⟨h1, h2, h3, h4⟩ := h; simp; omega
  have q6 : decide (p.ix < 0) = false := by obtain ⟨h1, h2, h3, h4⟩ := h; simp; omega
  have q7 : decide (p.ix ≥ p.mn) = false := by obtain ⟨h1, h2, h3, h4⟩ := h; simp; omega
  have q8 : decide ((L.length : Int) > 100) = false := by obtain ⟨h1, h2, h3, h4⟩ := h; simp; omega
  clear hb hs h
  go_enter Tryd.func11, Tryd.ntmps11
  go_upto_region 1 with fail
  have H0 : Hid (PcAt 41 (w.alloc (.cells #[.int .i64 (p.st), .int .i64 (p.ba), .int .i64 (p.ix), .int .i64 (p.mn), .slice a L.length c] 41)) w.heap.size p (.slice a L.length c) ∧ Only [] w (w.alloc (.cells #[.int .i64 (p.st), .int .i64 (p.ba), .int .i64 (p.ix), .int .i64 (p.mn), .slice a L.length c] 41))) := ⟨(MapKept.heap_alloc w _).1, (Only.refl _ _).alloc _⟩
  revert H0
  generalize w.heap.size = k
  generalize World.alloc w _ = w1
  intro H0
  obtain ⟨c0, c1, c2, c3, c4⟩ := H0.out.1.cells
  go_upto_region 4 with fail
  have H1 : Hid (RT w k w1.heap.size p (.slice a L.length c) [] (w1.alloc (.cells #[.slice none 0 0] 63))) := ⟨H0.out.1.only (D := []) ((Only.refl _ _).alloc _) (by simp), bits_new1 H0.out.2 H0.out.1.lt⟩
  clear c0 c1 c2 c3 c4 H0 q0 q1 q2 q3 q4 q5 q6 q7 q8
  revert H1
  generalize w1.heap.size = kb
  generalize World.alloc w1 _ = w2
  intro H1
  obtain ⟨c0, c1, c2, c3, c4⟩ := H1.out.pc.cells
  go_wp2_with fail
  refine (varI_calls w kb [k] _ p.st _ H1.out.rb (by have := HOK.out.1; omega) (by have := HOK.out.1; omega) (by simp)).mono ?_
  intro e w3 hp
  have H2 : Hid (RT w k kb p (.slice a L.length c) ([] ++ varsB [p.st]) w3) := H1.out.put hp
  obtain ⟨rfl, _, _⟩ := hp
  clear c0 c1 c2 c3 c4
  have HL1 : Hid (([] ++ varsB [p.st]).length ≤ 78) := by
    show _ ≤ _
    have h1 := varsB_len [p.st] (fun n hn => by have := HOK.out.1; rw [List.mem_singleton.1 hn]; unfold badVar; omega)
    simp only [List.length_singleton, Nat.mul_one] at h1
    have h0 : ([] : List Nat).length ≤ 0 := Nat.le_refl _
    rw [List.length_append]; omega
  obtain ⟨c0, c1, c2, c3, c4⟩ := H2.out.pc.cells
  go_wp2_with fail
  refine (varI_calls w kb [k] _ p.ba _ H2.out.rb (by have := HOK.out.1; omega) (by have := HOK.out.1; omega) (by have := HL1.out; omega)).mono ?_
  intro e w4 hp
  have H3 : Hid (RT w k kb p (.slice a L.length c) ([] ++ varsB [p.st] ++ varsB [p.ba]) w4) := H2.out.put hp
  obtain ⟨rfl, _, _⟩ := hp
  clear c0 c1 c2 c3 c4
  have HL2 : Hid (([] ++ varsB [p.st] ++ varsB [p.ba]).length ≤ 156) := by
    show _ ≤ _
    have h1 := varsB_len [p.ba] (fun n hn => by have := HOK.out.1; rw [List.mem_singleton.1 hn]; unfold badVar; omega)
    simp only [List.length_singleton, Nat.mul_one] at h1
    have h0 := HL1.out
    rw [List.length_append]; omega
  obtain ⟨c0, c1, c2, c3, c4⟩ := H3.out.pc.cells
  go_wp2_with fail
  refine (putI_calls w kb [k] _ p.mn 6 _ H3.out.rb (by have := HOK.out.2.1; omega) (by have := HOK.out.2.1; omega) (by omega) (by have := HL2.out; omega)).mono ?_
  intro e w5 hp
  have H4 : Hid (RT w k kb p (.slice a L.length c) ([] ++ varsB [p.st] ++ varsB [p.ba] ++ putsB 6 [p.mn]) w5) := H3.out.put hp
  obtain ⟨rfl, _, _⟩ := hp
  clear c0 c1 c2 c3 c4
  have HL3 : Hid (([] ++ varsB [p.st] ++ varsB [p.ba] ++ putsB 6 [p.mn]).length ≤ 162) := by
    show _ ≤ _
    have h1 := putsB_len 6 [p.mn]
    simp only [List.length_singleton, Nat.mul_one] at h1
    have h0 := HL2.out
    rw [List.length_append]; omega
  obtain ⟨c0, c1, c2, c3, c4⟩ := H4.out.pc.cells
  go_wp2_with fail
  refine (putI_calls w kb [k] _ p.ix 6 _ H4.out.rb (by have := HOK.out.2; omega) (by have := HOK.out.2; omega) (by omega) (by have := HL3.out; omega)).mono ?_
  intro e w6 hp
  have H5 : Hid (RT w k kb p (.slice a L.length c) ([] ++ varsB [p.st] ++ varsB [p.ba] ++ putsB 6 [p.mn] ++ putsB 6 [p.ix]) w6) := H4.out.put hp
  obtain ⟨rfl, _, _⟩ := hp
  clear c0 c1 c2 c3 c4
  have HL4 : Hid (([] ++ varsB [p.st] ++ varsB [p.ba] ++ putsB 6 [p.mn] ++ putsB 6 [p.ix]).length ≤ 168) := by
    show _ ≤ _
    have h1 := putsB_len 6 [p.ix]
    simp only [List.length_singleton, Nat.mul_one] at h1
    have h0 := HL3.out
    rw [List.length_append]; omega
  obtain ⟨c0, c1, c2, c3, c4⟩ := H5.out.pc.cells
  go_wp2_with fail
  refine (putI_calls w kb [k] _ (L.length : Int) 7 _ H5.out.rb (by omega) (by omega) (by omega) (by have := HL4.out; omega)).mono ?_
  intro e w7 hp
  have H6 : Hid (RT w k kb p (.slice a L.length c) ([] ++ varsB [p.st] ++ varsB [p.ba] ++ putsB 6 [p.mn] ++ putsB 6 [p.ix] ++ putsB 7 [(L.length : Int)]) w7) := H5.out.put hp
  obtain ⟨rfl, _, _⟩ := hp
  clear c0 c1 c2 c3 c4
  have HL5 : Hid (([] ++ varsB [p.st] ++ varsB [p.ba] ++ putsB 6 [p.mn] ++ putsB 6 [p.ix] ++ putsB 7 [(L.length : Int)]).length ≤ 175) := by
    show _ ≤ _
    have h1 := putsB_len 7 [(L.length : Int)]
    simp only [List.length_singleton, Nat.mul_one] at h1
    have h0 := HL4.out
    rw [List.length_append]; omega
  obtain ⟨l3, hl3⟩ : ∃ l3, l3 = [] ++ varsB [p.st] ++ varsB [p.ba] ++ putsB 6 [p.mn] ++ putsB 6 [p.ix] ++ putsB 7 [(L.length : Int)] := ⟨_, rfl⟩
  have HE : Hid (l3 = [] ++ varsB [p.st] ++ varsB [p.ba] ++ putsB 6 [p.mn] ++ putsB 6 [p.ix] ++ putsB 7 [(L.length : Int)]) := hl3
  rw [← hl3] at H6 HL5
  clear hl3 HL1 HL2 HL3 HL4 H1 H2 H3 H4 H5
  have H8 : Hid (RT w k kb p (.slice a L.length c) (l3 ++ putsB 8 ((L.map (fun c : Nat => (c : Int))).take 0)) w7) := by show RT w k kb p (.slice a L.length c) (l3 ++ []) w7; rw [List.append_nil]; exact H6.out
  have hc4 := H6.out.pc.cells.2.2.2.2
  clear H6
  go_wp2_with fail
  clear hc4
  go_loopg [74] L.length (fun k' idx wr => ∃ i : Nat, idx = .int .i64 (i : Int) ∧ Hid (i ≤ L.length ∧ k' = L.length - i) ∧ Hid (RT w k kb p (.slice a L.length c) (l3 ++ putsB 8 ((L.map (fun c : Nat => (c : Int))).take i)) wr))
  case atStart => exact ⟨0, rfl, ⟨by omega, rfl⟩, H8⟩
  case round =>
    clear H8
    obtain ⟨i, rfl, HI, HW⟩ := hrel
    have HLL : Hid ((l3 ++ putsB 8 ((L.map (fun c : Nat => (c : Int))).take i)).length ≤ 975) := by
      show _ ≤ _
      have h1 := HL5.out
      have h2 := putsB_len 8 ((L.map (fun c : Nat => (c : Int))).take i)
      have h3 : ((L.map (fun c : Nat => (c : Int))).take i).length ≤ 100 := by rw [List.length_take, List.length_map]; omega
      rw [List.length_append]; omega
    by_cases hi : i < L.length
    · have hil : (i : Int) < (L.length : Int) := by omega
      obtain ⟨g0, o0, rfl, cb⟩ := (HB.out.1.only HW.out.rb.only (by simp)) i hi
      have him : i < (L.map (fun c : Nat => (c : Int))).length := by simpa using hi
      obtain ⟨y, hy⟩ : ∃ y, y = L.getD i 0 := ⟨_, rfl⟩
      have hy256 : y < 256 := by rw [hy, List.getD_eq_getElem?_getD, List.getElem?_eq_getElem hi]; exact HB.out.2 _ (List.getElem_mem hi)
      have HS : Hid (putsB 8 ((L.map (fun c : Nat => (c : Int))).take (i + 1)) = putsB 8 ((L.map (fun c : Nat => (c : Int))).take i) ++ putsB 8 [(y : Int)]) := by show _ = _; rw [putsB_snoc him, map_getD L i hi, hy]
      rw [← hy] at cb
      clear hy
      go_wp2_with fail
      refine (putI_calls w kb [k] _ (y : Int) 8 _ HW.out.rb (by omega) (by omega) (by omega) (by have := HLL.out; omega)).mono ?_
      intro e w8 hp
      have H9 : Hid (RT w k kb p (.slice (some ⟨g0, o0, none⟩) L.length c) (l3 ++ putsB 8 ((L.map (fun c : Nat => (c : Int))).take (i + 1))) w8) := by
        have := HW.out.put hp
        rw [HS.out, ← List.append_assoc]; exact this
      obtain ⟨rfl, _, _⟩ := hp
      clear cb
      go_wp2_with fail
      go_roundg (L.length - (i + 1))
      case measure => have := HI.out.2; omega
      case rel => exact ⟨i + 1, by go_num, ⟨by omega, rfl⟩, H9⟩
    have hil : ¬ (i : Int) < (L.length : Int) := by omega
    have HT : Hid (tellT p L = l3 ++ putsB 8 ((L.map (fun c : Nat => (c : Int))).take i)) := by
      show _ = _
      rw [List.take_of_length_le (by simp; omega), HE.out]
      simp [tellT, varsB, putsB]
    obtain ⟨vb, q1, q2, q3⟩ := HW.out.rb.ex
    have cb := q1.c0
    have HQ : Hid (SlB wr vb (l3 ++ putsB 8 ((L.map (fun c : Nat => (c : Int))).take i)) ∧ Only [] w wr) := ⟨q1.sl, HW.out.rb.only⟩
    clear q1 q2 q3
    go_wp2_with fail
    refine (refBytes_calls vb _ _ HQ.out.1 (by rw [← HT.out]; exact tellT_bits _ _) (by have := HLL.out; omega)).mono ?_
    rintro e wz ⟨vz, rfl, hs, oz⟩
    have HZ : Hid (SlB wz vz (bytesOf (tellT p L)) ∧ Only [] w wz) := ⟨by rw [HT.out]; exact hs, HQ.out.2.trans oz⟩
    clear hs oz
    go_wp2_with fail
    go_ret2
    exact ⟨HZ.out.2, Or.inr ⟨HOK.out, vz, rfl, HZ.out.1⟩⟩
theorem refTell_calls (p : Pc) (a : Option Addr) (c : Nat) (L : List Nat) (w : World) (hs : ∀ x ∈ L, x < 256) (hL : L.length ≤ 100000) (hb : ByAt w a L) : Calls Tryd.prog 11 #[.agg #[.int .i64 (p.st), .int .i64 (p.ba), .int .i64 (p.ix), .int .i64 (p.mn), .slice a L.length c]] w (RTellPost p L w) := by
  by_cases h : tellOk p L.length
  · exact refTell_good p a c L w h hs hb
  · exact refTell_bad p a c L w h hL
end Go.Proofs.YtbiaajncngldlaaDoor
