/- wire.Tell: whichever piece. -/
import Derived.Test.YtbiaajncngldlaaDoorWi2
namespace Go.Proofs.YtbiaajncngldlaaDoor
open Go.ChangeShapes Go.WideShapes Go.ChangeAt Go.RowKit
set_option linter.unusedVariables false
set_option linter.unusedSimpArgs false

/-- A piece: four numbers, and a slice of bytes. -/
structure Pc where
  st : Int
  ba : Int
  ix : Int
  mn : Int
def PcAt (T : TypeId) (w : World) (k : Nat) (p : Pc) (v : Value) : Prop := w.heap[k]? = some (.cells #[.int .i64 (p.st), .int .i64 (p.ba), .int .i64 (p.ix), .int .i64 (p.mn), v] T)
theorem PcAt.lt {T : TypeId} {w : World} {k : Nat} {p : Pc} {v : Value} (h : PcAt T w k p v) : k < w.heap.size := (Array.getElem?_eq_some_iff.1 h).1
theorem PcAt.cells {T : TypeId} {w : World} {k : Nat} {p : Pc} {v : Value} (h : PcAt T w k p v) : w.cell? ⟨k, 0, none⟩ = some (.int .i64 (p.st)) ∧ w.cell? ⟨k, 1, none⟩ = some (.int .i64 (p.ba)) ∧ w.cell? ⟨k, 2, none⟩ = some (.int .i64 (p.ix)) ∧ w.cell? ⟨k, 3, none⟩ = some (.int .i64 (p.mn)) ∧ w.cell? ⟨k, 4, none⟩ = some v := by
  unfold PcAt at h
  simp [World.cell?, h]
theorem PcAt.free {T : TypeId} {w : World} {k : Nat} {p : Pc} {v : Value} (h : PcAt T w k p v) (i : Nat) : w.frozen? ⟨k, i, none⟩ = false := by unfold PcAt at h; simp [World.frozen?, h]
theorem PcAt.only {T : TypeId} {w w' : World} {k : Nat} {p : Pc} {v : Value} (h : PcAt T w k p v) {D : List Nat} (o : Only D w w') (s : k ∉ D) : PcAt T w' k p v := (o.block k h.lt s).trans h
def tellOk (p : Pc) (n : Nat) : Prop := (1 ≤ p.st ∧ p.st ≤ 70368744177664 ∧ 0 ≤ p.ba ∧ p.ba < p.st) ∧ (1 ≤ p.mn ∧ p.mn ≤ 40) ∧ (0 ≤ p.ix ∧ p.ix < p.mn) ∧ n ≤ 100
def tellT (p : Pc) (L : List Nat) : List Nat := varsB [p.st, p.ba] ++ putsB 6 [p.mn, p.ix] ++ putsB 7 [(L.length : Int)] ++ putsB 8 (L.map (fun c : Nat => (c : Int)))
def TellPost (p : Pc) (L : List Nat) (w : World) (e : Ending) (w' : World) : Prop :=
  Only [] w w' ∧ ((¬ tellOk p L.length ∧ e = .returned (.tuple #[.slice none 0 0, errV 1])) ∨ (tellOk p L.length ∧ ∃ v, e = .returned (.tuple #[v, .nilIface]) ∧ Fresh w v (bytesOf (tellT p L)) w'))
/-- While a piece is written: it, its bytes, and the writer. -/
structure TW (w : World) (k x : Nat) (p : Pc) (a : Option Addr) (c : Nat) (L : List Nat) (l : List Nat) (wr : World) : Prop where
  pc : PcAt 39 wr k p (.slice a L.length c)
  wa : WA wr x l
  hkx : k ≠ x
  hx : w.heap.size ≤ x
  only : Only [] w wr
theorem TW.nums {w : World} {k x : Nat} {p : Pc} {a : Option Addr} {c : Nat} {L : List Nat} {l : List Nat} {wr : World} (h : TW w k x p a c L l wr) (o : Obj) : TW w k x p a c L l (wr.alloc o) :=
  ⟨h.pc.only (D := []) ((Only.refl _ _).alloc _) (by simp), h.wa.only (D := []) ((Only.refl _ _).alloc _) (by simp), h.hkx, h.hx, h.only.alloc _⟩
theorem TW.put {w : World} {k x : Nat} {p : Pc} {a : Option Addr} {c : Nat} {L : List Nat} {l l' : List Nat} {wr w' : World} (h : TW w k x p a c L l wr) (hw : WA w' x l') (o : Only [x] wr w') : TW w k x p a c L l' w' :=
  ⟨h.pc.only o (by simpa using h.hkx), hw, h.hkx, h.hx, h.only.then o (fun b hb => by rw [List.mem_singleton.1 hb]; exact Or.inr h.hx)⟩
theorem putsB_len (wd : Nat) (xs : List Int) : (putsB wd xs).length ≤ wd * xs.length := flat_len _ wd _ (fun n _ => by rw [putB_len]; exact Nat.le_refl _)
theorem putsB_snoc {wd : Nat} {xs : List Int} {i : Nat} (h : i < xs.length) : putsB wd (xs.take (i + 1)) = putsB wd (xs.take i) ++ putsB wd [xs[i]] := by
  unfold putsB; rw [List.take_succ_eq_append_getElem h, flat_snoc]; simp
theorem map_getD (L : List Nat) (i : Nat) (h : i < L.length) : (L.map (fun c : Nat => (c : Int)))[i]'(by simpa using h) = ((L.getD i 0 : Nat) : Int) := by
  simp [List.getD_eq_getElem?_getD, List.getElem?_eq_getElem h]
set_option maxRecDepth 100000 in
set_option maxHeartbeats 4000000 in
theorem tell_calls (p : Pc) (a : Option Addr) (c : Nat) (L : List Nat) (w : World) (hs : ∀ x ∈ L, x < 256) (hL : L.length ≤ 100000) (hb : ByAt w a L) : Calls Tryd.prog 12 #[.agg #[.int .i64 (p.st), .int .i64 (p.ba), .int .i64 (p.ix), .int .i64 (p.mn), .slice a L.length c]] w (TellPost p L w) := by
  have hz := wwriter_new
  have HB : Hid (ByAt w a L ∧ ∀ x ∈ L, x < 256) := ⟨hb, hs⟩
  clear hb hs
  go_enter Tryd.func12, Tryd.ntmps12
  go_upto_region 1 with fail
  have H0 : Hid (PcAt 39 (w.alloc (.cells #[.int .i64 (p.st), .int .i64 (p.ba), .int .i64 (p.ix), .int .i64 (p.mn), .slice a L.length c] 39)) w.heap.size p (.slice a L.length c) ∧ Only [] w (w.alloc (.cells #[.int .i64 (p.st), .int .i64 (p.ba), .int .i64 (p.ix), .int .i64 (p.mn), .slice a L.length c] 39))) := ⟨(MapKept.heap_alloc w _).1, (Only.refl _ _).alloc _⟩
  revert H0
  generalize w.heap.size = k
  generalize World.alloc w _ = w1
  intro H0
  obtain ⟨c0, c1, c2, c3, c4⟩ := H0.out.1.cells
  go_wp2_with fail
  refine (mayFollow_calls p.st p.ba w1).mono ?_
  rintro e w2 ⟨rfl, o2⟩
  have H1 : Hid (PcAt 39 w2 k p (.slice a L.length c) ∧ Only [] w w2) := ⟨H0.out.1.only o2 (by simp), H0.out.2.trans o2⟩
  clear c0 c1 c2 c3 c4 o2 H0
  by_cases hA : 1 ≤ p.st ∧ p.st ≤ 70368744177664 ∧ 0 ≤ p.ba ∧ p.ba < p.st
  case neg =>
    rw [show followM p.st p.ba = false by unfold followM; simpa using hA]
    have HNO : Hid (¬ tellOk p L.length) := fun q => hA q.1
    go_wp2_with fail
    go_ret2
    exact ⟨H1.out.2, Or.inl ⟨HNO.out, rfl⟩⟩
  rw [show followM p.st p.ba = true by unfold followM; simpa using hA]
  have HA : Hid (1 ≤ p.st ∧ p.st ≤ 70368744177664 ∧ 0 ≤ p.ba ∧ p.ba < p.st) := hA
  clear hA
  obtain ⟨c0, c1, c2, c3, c4⟩ := H1.out.1.cells
  go_wp2_with fail
  have H2 : Hid (PcAt 39 (w2.alloc (.cells #[.int .i64 (p.mn)] 3)) k p (.slice a L.length c) ∧ Only [] w (w2.alloc (.cells #[.int .i64 (p.mn)] 3))) := ⟨H1.out.1.only (D := []) ((Only.refl _ _).alloc _) (by simp), H1.out.2.alloc _⟩
  have h0 := NumsAt.new1 w2 p.mn 3
  revert h0 H2
  generalize w2.heap.size = g
  generalize World.alloc w2 _ = w3
  intro H2 h0
  refine (within_calls 1 40 g [p.mn] _ w3 h0 (by simp)).mono ?_
  rintro e w3 ⟨rfl, rfl⟩
  clear c0 c1 c2 c3 c4 h0 H1
  by_cases hM : 1 ≤ p.mn ∧ p.mn ≤ 40
  case neg =>
    rw [show inM 1 40 [p.mn] = false by simp [inM]; omega]
    have HNO : Hid (¬ tellOk p L.length) := fun q => hM q.2.1
    go_wp2_with fail
    go_ret2
    exact ⟨H2.out.2, Or.inl ⟨HNO.out, rfl⟩⟩
  rw [show inM 1 40 [p.mn] = true by simp [inM]; omega]
  have hm0 := hM.1; have hm1 := hM.2
  obtain ⟨c0, c1, c2, c3, c4⟩ := H2.out.1.cells
  go_wp2_with fail
  have H3 : Hid (PcAt 39 (w3.alloc (.cells #[.int .i64 (p.ix)] 3)) k p (.slice a L.length c) ∧ Only [] w (w3.alloc (.cells #[.int .i64 (p.ix)] 3))) := ⟨H2.out.1.only (D := []) ((Only.refl _ _).alloc _) (by simp), H2.out.2.alloc _⟩
  have h0 := NumsAt.new1 w3 p.ix 3
  revert h0 H3
  generalize w3.heap.size = g
  generalize World.alloc w3 _ = w4
  intro H3 h0
  refine (within_calls 0 (p.mn - 1) g [p.ix] _ w4 h0 (by simp)).mono ?_
  rintro e w4 ⟨rfl, rfl⟩
  clear c0 c1 c2 c3 c4 h0 H2
  by_cases hI : 0 ≤ p.ix ∧ p.ix < p.mn
  case neg =>
    rw [show inM 0 (p.mn - 1) [p.ix] = false by simp [inM]; omega]
    have HNO : Hid (¬ tellOk p L.length) := fun q => hI q.2.2.1
    go_wp2_with fail
    go_ret2
    exact ⟨H3.out.2, Or.inl ⟨HNO.out, rfl⟩⟩
  rw [show inM 0 (p.mn - 1) [p.ix] = true by simp [inM]; omega]
  have HMI : Hid ((1 ≤ p.mn ∧ p.mn ≤ 40) ∧ (0 ≤ p.ix ∧ p.ix < p.mn)) := ⟨hM, hI⟩
  clear hM hI
  obtain ⟨c0, c1, c2, c3, c4⟩ := H3.out.1.cells
  by_cases hl : (L.length : Int) > 100
  · have d1 : decide ((L.length : Int) > 100) = true := by simpa using hl
    have HNO : Hid (¬ tellOk p L.length) := fun q => by have := q.2.2.2; omega
    go_wp2_with fail
    go_ret2
    exact ⟨H3.out.2, Or.inl ⟨HNO.out, rfl⟩⟩
  have d1 : decide ((L.length : Int) > 100) = false := by simpa using hl
  have HOK : Hid (tellOk p L.length) := ⟨HA.out, HMI.out.1, HMI.out.2, by omega⟩
  have hl2 : L.length ≤ 100 := by omega
  go_upto_region 4 with fail
  have H4 : Hid (TW w k w4.heap.size p a c L [] (w4.alloc (.cells ((wcells []).push .nilIface) 74))) :=
    ⟨H3.out.1.only (D := []) ((Only.refl _ _).alloc _) (by simp), WA.new w4, by have := H3.out.1.lt; omega, H3.out.2.size, H3.out.2.alloc _⟩
  clear c0 c1 c2 c3 c4 H3 d1 hl
  revert H4
  generalize w4.heap.size = xw
  generalize World.alloc w4 _ = w5
  intro H4
  obtain ⟨c0, c1, c2, c3, c4⟩ := H4.out.pc.cells
  go_wp2_with fail
  have HN : Hid (TW w k xw p a c L ([]) (w5.alloc (.cells #[.int .i64 (p.st), .int .i64 (p.ba)] 3))) := H4.out.nums _
  have h0 := NumsAt.new2 w5 (p.st) (p.ba) 3
  have HG : Hid (w5.heap.size ≠ xw) := fun e => by have := H4.out.wa.lt; omega
  revert h0 HN HG
  generalize w5.heap.size = g
  generalize World.alloc w5 _ = w6
  intro HN h0 HG
  refine (varsW_calls xw _ g [p.st, p.ba] _ w6 HN.out.wa h0 HG.out (fun n hn => by have := HA.out; simp at hn; unfold badVar; omega) (by simp) (by simp)).mono ?_
  rintro e w7 ⟨rfl, h1, o1⟩
  have H5 : Hid (TW w k xw p a c L ([] ++ varsB [p.st, p.ba]) w7) := HN.out.put h1 o1
  clear h0 h1 o1 HN HG c0 c1 c2 c3 c4 H4
  have HL1 : Hid (([] ++ varsB [p.st, p.ba]).length ≤ 156) := by
    show _ ≤ _
    rw [List.nil_append]
    exact varsB_len _ (fun n hn => by have := HA.out; simp at hn; unfold badVar; omega)
  obtain ⟨c0, c1, c2, c3, c4⟩ := H5.out.pc.cells
  go_wp2_with fail
  have HN : Hid (TW w k xw p a c L ([] ++ varsB [p.st, p.ba]) (w7.alloc (.cells #[.int .i64 (p.mn), .int .i64 (p.ix)] 3))) := H5.out.nums _
  have h0 := NumsAt.new2 w7 (p.mn) (p.ix) 3
  have HG : Hid (w7.heap.size ≠ xw) := fun e => by have := H5.out.wa.lt; omega
  revert h0 HN HG
  generalize w7.heap.size = g
  generalize World.alloc w7 _ = w8
  intro HN h0 HG
  refine (putsW_calls xw _ 6 g [p.mn, p.ix] _ w8 HN.out.wa h0 HG.out (fun n hn => by have := HMI.out; simp at hn; unfold badPut; simp; omega) (by have := HL1.out; simp at this ⊢; omega) (by simp)).mono ?_
  rintro e w9 ⟨rfl, h1, o1⟩
  have H6 : Hid (TW w k xw p a c L ([] ++ varsB [p.st, p.ba] ++ putsB 6 [p.mn, p.ix]) w9) := HN.out.put h1 o1
  clear h0 h1 o1 HN HG c0 c1 c2 c3 c4 H5
  have HL2 : Hid (([] ++ varsB [p.st, p.ba] ++ putsB 6 [p.mn, p.ix]).length ≤ 168) := by
    show _ ≤ _
    have := HL1.out
    have h2 := putsB_len 6 [p.mn, p.ix]
    rw [List.length_append]; simp at h2 ⊢; simp at this; omega
  obtain ⟨c0, c1, c2, c3, c4⟩ := H6.out.pc.cells
  go_wp2_with fail
  have HN : Hid (TW w k xw p a c L ([] ++ varsB [p.st, p.ba] ++ putsB 6 [p.mn, p.ix]) (w9.alloc (.cells #[.int .i64 ((L.length : Int))] 3))) := H6.out.nums _
  have h0 := NumsAt.new1 w9 ((L.length : Int)) 3
  have HG : Hid (w9.heap.size ≠ xw) := fun e => by have := H6.out.wa.lt; omega
  revert h0 HN HG
  generalize w9.heap.size = g
  generalize World.alloc w9 _ = w10
  intro HN h0 HG
  refine (putsW_calls xw _ 7 g [(L.length : Int)] _ w10 HN.out.wa h0 HG.out (fun n hn => by rw [List.mem_singleton.1 hn]; unfold badPut; simp; omega) (by have := HL2.out; simp at this ⊢; omega) (by simp)).mono ?_
  rintro e w11 ⟨rfl, h1, o1⟩
  have H7 : Hid (TW w k xw p a c L ([] ++ varsB [p.st, p.ba] ++ putsB 6 [p.mn, p.ix] ++ putsB 7 [(L.length : Int)]) w11) := HN.out.put h1 o1
  clear h0 h1 o1 HN HG c0 c1 c2 c3 c4 H6
  have HL3 : Hid (([] ++ varsB [p.st, p.ba] ++ putsB 6 [p.mn, p.ix] ++ putsB 7 [(L.length : Int)]).length ≤ 175) := by
    show _ ≤ _
    have := HL2.out
    have h2 := putsB_len 7 [(L.length : Int)]
    rw [List.length_append]; simp at h2 ⊢; simp at this; omega
  obtain ⟨l3, hl3⟩ : ∃ l3, l3 = [] ++ varsB [p.st, p.ba] ++ putsB 6 [p.mn, p.ix] ++ putsB 7 [(L.length : Int)] := ⟨_, rfl⟩
  have HE : Hid (l3 = [] ++ varsB [p.st, p.ba] ++ putsB 6 [p.mn, p.ix] ++ putsB 7 [(L.length : Int)]) := hl3
  rw [← hl3] at H7 HL3
  clear hl3 HL1 HL2
  have H8 : Hid (TW w k xw p a c L (l3 ++ putsB 8 ((L.map (fun c : Nat => (c : Int))).take 0)) w11) := by show TW w k xw p a c L (l3 ++ []) w11; rw [List.append_nil]; exact H7.out
  have hc4 := H7.out.pc.cells.2.2.2.2
  clear H7
  go_wp2_with fail
  clear hc4
  go_loopg [57] L.length (fun k' idx wr => ∃ i : Nat, idx = .int .i64 (i : Int) ∧ Hid (i ≤ L.length ∧ k' = L.length - i) ∧ Hid (TW w k xw p a c L (l3 ++ putsB 8 ((L.map (fun c : Nat => (c : Int))).take i)) wr))
  case atStart => exact ⟨0, rfl, ⟨by omega, rfl⟩, H8⟩
  case round =>
    clear H8
    obtain ⟨i, rfl, HI, HW⟩ := hrel
    by_cases hi : i < L.length
    · have hil : (i : Int) < (L.length : Int) := by omega
      obtain ⟨g0, o0, rfl, cb⟩ := (HB.out.1.only HW.out.only (by simp)) i hi
      have him : i < (L.map (fun c : Nat => (c : Int))).length := by simpa using hi
      obtain ⟨y, hy⟩ : ∃ y, y = L.getD i 0 := ⟨_, rfl⟩
      have hy256 : y < 256 := by rw [hy, List.getD_eq_getElem?_getD, List.getElem?_eq_getElem hi]; exact HB.out.2 _ (List.getElem_mem hi)
      have HS : Hid (putsB 8 ((L.map (fun c : Nat => (c : Int))).take (i + 1)) = putsB 8 ((L.map (fun c : Nat => (c : Int))).take i) ++ putsB 8 [(y : Int)]) := by show _ = _; rw [putsB_snoc him, map_getD L i hi, hy]
      have HLL : Hid ((l3 ++ putsB 8 ((L.map (fun c : Nat => (c : Int))).take i)).length ≤ 975) := by
        show _ ≤ _
        have h1 := HL3.out
        have h2 := putsB_len 8 ((L.map (fun c : Nat => (c : Int))).take i)
        have h3 : ((L.map (fun c : Nat => (c : Int))).take i).length ≤ 100 := by rw [List.length_take]; omega
        rw [List.length_append]; omega
      rw [← hy] at cb
      clear hy
      go_wp2_with fail
      have HN : Hid (TW w k xw p (some ⟨g0, o0, none⟩) c L (l3 ++ putsB 8 ((L.map (fun c : Nat => (c : Int))).take i)) (wr.alloc (.cells #[.int .i64 ((y : Int))] 3))) := HW.out.nums _
      have h0 := NumsAt.new1 wr (y : Int) 3
      have HG : Hid (wr.heap.size ≠ xw) := fun e => by have := HW.out.wa.lt; omega
      revert h0 HN HG
      generalize wr.heap.size = g
      generalize World.alloc wr _ = w12
      intro HN h0 HG
      refine (putsW_calls xw _ 8 g [(y : Int)] _ w12 HN.out.wa h0 HG.out (fun n hn => by rw [List.mem_singleton.1 hn]; unfold badPut; simp; omega) (by have := HLL.out; simp only [List.length_singleton]; omega) (by simp)).mono ?_
      rintro e w13 ⟨rfl, h1, o1⟩
      have H9 : Hid (TW w k xw p (some ⟨g0, o0, none⟩) c L (l3 ++ putsB 8 ((L.map (fun c : Nat => (c : Int))).take (i + 1))) w13) := by
        have := HN.out.put h1 o1
        rw [HS.out, ← List.append_assoc]; exact this
      clear h0 h1 o1 HN HG cb
      go_wp2_with fail
      go_roundg (L.length - (i + 1))
      case measure => have := HI.out.2; omega
      case rel => exact ⟨i + 1, by go_num, ⟨by omega, rfl⟩, H9⟩
    have hil : ¬ (i : Int) < (L.length : Int) := by omega
    have HT : Hid (tellT p L = l3 ++ putsB 8 ((L.map (fun c : Nat => (c : Int))).take i)) := by
      show _ = _
      rw [List.take_of_length_le (by simp; omega), HE.out]
      simp [tellT]
    go_wp2_with fail
    refine (allW_calls xw _ _ HW.out.wa).mono ?_
    rintro e wz ⟨v, rfl, hf, oz⟩
    have HZ : Hid (Fresh w v (bytesOf (tellT p L)) wz ∧ Only [] w wz) := ⟨by rw [HT.out]; exact fresh_base hf HW.out.only.size, HW.out.only.trans oz⟩
    clear hf oz
    go_wp2_with fail
    go_ret2
    exact ⟨HZ.out.2, Or.inr ⟨HOK.out, v, rfl, HZ.out.1⟩⟩
end Go.Proofs.YtbiaajncngldlaaDoor
