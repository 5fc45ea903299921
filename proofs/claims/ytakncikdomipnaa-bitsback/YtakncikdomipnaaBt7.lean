/- gyrekeep.BitsBack returns true, whatever marks it is given. -/
import Derived.Test.YtakncikdomipnaaBt6
namespace Go.Proofs.Ytakncikdomipnaa
open Go.ChangeShapes Go.WideShapes Go.ChangeAt Go.RowKit
set_option linter.unusedVariables false
set_option linter.unusedSimpArgs false

/-- Marks that were written: what their kinds are. -/
def OkM (d : Mk) : Prop := ¬ badM d ∧ 0 ≤ d.wt ∧ d.wt < 3
/-- As the first loop goes: a Writer, and the marks that it took. -/
structure LA (w : World) (x : Nat) (v : Value) (Q : List Mk) (wr : World) : Prop where
  wa : WrAt wr x (Q.flatMap encM)
  sl : SlMarks wr v Q
  xv : x ∉ ownL v
  xnew : w.heap.size ≤ x
  vnew : ∀ b ∈ ownL v, w.heap.size ≤ b
  ok : ∀ d ∈ Q, OkM d
  only : Only [] w wr
theorem LA.keep {w : World} {x : Nat} {v : Value} {Q : List Mk} {wr w' : World} (h : LA w x v Q wr) (o : Only [] wr w') : LA w x v Q w' :=
  ⟨h.wa.only o (by simp), h.sl.kept o (by simp), h.xv, h.xnew, h.vnew, h.ok, h.only.trans o⟩
/-- A step at a block that is new. -/
theorem LA.put {w : World} {x : Nat} {v : Value} {Q : List Mk} {wr w' : World} (h : LA w x v Q wr) {k : Nat} (o : Only [k] wr w') (hk : w.heap.size ≤ k) (hx : k ≠ x) (hv : k ∉ ownL v) : LA w x v Q w' :=
  ⟨h.wa.only o (by simp only [List.mem_singleton]; exact fun e => hx e.symm), h.sl.kept o (fun b hb => by simp only [List.mem_singleton]; exact fun e => hv (e ▸ hb)), h.xv, h.xnew, h.vnew, h.ok, h.only.then o (fun b hb => by simp only [List.mem_singleton] at hb; rw [hb]; exact Or.inr hk)⟩
def MkAt (w : World) (k : Nat) (q : Mk) : Prop := w.heap[k]? = some (.cells #[.int .i64 (q.wt), .int .i64 (q.n), .int .i64 (q.wd)] 28)
theorem MkAt.off {w : World} {k : Nat} {q : Mk} (h : MkAt w k q) (i : Nat) : w.cell? ⟨k, i, none⟩ = #[.int .i64 (q.wt), .int .i64 (q.n), .int .i64 (q.wd)][i]? := by unfold MkAt at h; simp [World.cell?, h]
theorem MkAt.lt {w : World} {k : Nat} {q : Mk} (h : MkAt w k q) : k < w.heap.size := (Array.getElem?_eq_some_iff.1 h).1
theorem MkAt.free {w : World} {k : Nat} {q : Mk} (h : MkAt w k q) (i : Nat) : w.frozen? ⟨k, i, none⟩ = false := by unfold MkAt at h; simp [World.frozen?, h]
theorem MkAt.only {w w' : World} {k : Nat} {q : Mk} (h : MkAt w k q) {D : List Nat} (o : Only D w w') (s : k ∉ D) : MkAt w' k q := (o.block k h.lt s).trans h
/-- What a call of the Writer made of it. -/
theorem LA.wrote {w : World} {x : Nat} {v : Value} {Q : List Mk} {wr w' : World} (h : LA w x v Q wr) {l : List Nat} (o : Only [x] wr w') (hw : WrAt w' x l) (hQ : l = Q.flatMap encM) : LA w x v Q w' :=
  ⟨hQ ▸ hw, h.sl.kept o (fun b hb => by simp only [List.mem_singleton]; exact fun e => h.xv (e ▸ hb)), h.xv, h.xnew, h.vnew, h.ok, h.only.then o (fun b hb => by simp only [List.mem_singleton] at hb; rw [hb]; exact Or.inr h.xnew)⟩
theorem wrote_cases {w : World} {x : Nat} {v : Value} {Q : List Mk} {wr w' : World} {e : Ending} (h : LA w x v Q wr) (q : Mk) (hq : 0 ≤ q.wt ∧ q.wt < 3) (hp : WrPost x (Q.flatMap encM) (badM q) (encM q) wr e w') :
    (∃ k : Int, e = .returned (errV k) ∧ LA w x v Q w') ∨ (e = .returned .nilIface ∧ OkM q ∧ WrAt w' x ((Q ++ [q]).flatMap encM) ∧ LA w x v Q wr ∧ Only [x] wr w') := by
  obtain ⟨o, ⟨_, he, hw⟩ | ⟨_, _, he, hw⟩ | ⟨hb, _, he, hw⟩⟩ := hp
  · exact Or.inl ⟨2, he, h.wrote o hw rfl⟩
  · exact Or.inl ⟨4, he, h.wrote o hw rfl⟩
  · exact Or.inr ⟨he, ⟨hb, hq⟩, by rw [List.flatMap_append]; simpa using hw, h, o⟩
/-- One mark more is collected. -/
theorem LA.more {w : World} {x : Nat} {v : Value} {Q : List Mk} {wr w1 w2 : World} {v' : Value} {q : Mk} (h : LA w x v Q wr) (hq : OkM q) (hw : WrAt w1 x ((Q ++ [q]).flatMap encM)) (o : Only [x] wr w1) (hp : MarkPost w1 v (Q ++ [q]) v' w2) : LA w x v' (Q ++ [q]) w2 := by
  have hnew : ∀ b ∈ ownL v', w.heap.size ≤ b ∧ b ≠ x := fun b hb => by
    rcases hp.2.2 b hb with k | k
    · exact ⟨h.vnew b k, fun e => h.xv (e ▸ k)⟩
    · have := hw.lt; have := h.only.size; have := o.size; exact ⟨by omega, by omega⟩
  exact ⟨hw.only hp.2.1 h.xv, hp.1, fun k => (hnew x k).2 rfl, h.xnew, fun b hb => (hnew b hb).1, fun d hd => by
    rcases List.mem_append.1 hd with k | k
    · exact h.ok d k
    · rw [List.mem_singleton.1 k]; exact hq, (h.only.then o (fun b hb => by simp only [List.mem_singleton] at hb; rw [hb]; exact Or.inr h.xnew)).then hp.2.1 (fun b hb => Or.inr (h.vnew b hb))⟩
/-- As the second loop goes: a Reader that stands behind what was read. -/
structure LB (w : World) (x r : Nat) (ar : Option Addr) (c : Nat) (v : Value) (Q : List Mk) (i : Nat) (wr : World) : Prop where
  la : LA w x v Q wr
  rd : RdAt wr r ar c (bytesOf (Q.flatMap encM)) ((Q.take i).flatMap encM).length
  xr : x ≠ r
  vr : r ∉ ownL v
  rnew : w.heap.size ≤ r
  anew : ∀ g o, ar = some ⟨g, o, none⟩ → bytesOf (Q.flatMap encM) ≠ [] → w.heap.size ≤ g ∧ g ≠ x
  il : i ≤ Q.length
theorem LB.read {w : World} {x r : Nat} {ar : Option Addr} {c : Nat} {v : Value} {Q : List Mk} {i : Nat} {wr w' : World} (h : LB w x r ar c v Q i wr) (hi : i < Q.length) (o : Only [r] wr w') (hr : RdAt w' r ar c (bytesOf (Q.flatMap encM)) (((Q.take i).flatMap encM).length + (encM Q[i]).length)) : LB w x r ar c v Q (i + 1) w' :=
  ⟨h.la.put o h.rnew (fun e => h.xr e.symm) h.vr, by rw [List.take_succ_eq_append_getElem hi, List.flatMap_append, List.length_append]; simpa using hr, h.xr, h.vr, h.rnew, h.anew, hi⟩
/-- The bits ahead of a mark, its own, those behind. -/
theorem bits_split (Q : List Mk) (i : Nat) (hi : i < Q.length) (h : Bits (Q.flatMap encM)) : ∃ c, bitsOf (bytesOf (Q.flatMap encM)) = (Q.take i).flatMap encM ++ encM Q[i] ++ c := by
  obtain ⟨pad, hp, _⟩ := bitsOf_written h
  refine ⟨(Q.drop (i + 1)).flatMap encM ++ pad, ?_⟩
  rw [hp]
  have e : Q = Q.take i ++ Q[i] :: Q.drop (i + 1) := by rw [List.getElem_cons_drop, List.take_append_drop]
  have e2 : Q.flatMap encM = (Q.take i).flatMap encM ++ (encM Q[i] ++ (Q.drop (i + 1)).flatMap encM) := by
    conv => lhs; rw [e, List.flatMap_append, List.flatMap_cons]
  rw [e2]
  simp only [List.append_assoc]
set_option maxRecDepth 100000 in
set_option maxHeartbeats 4000000 in
theorem bitsBack_calls (a : Option Addr) (len cap : Nat) (M : Nat → Mk) (w : World) (h : MarksAt w a len M) :
    Calls Try.prog 3 #[.slice a len cap] w fun e w' => e = .returned (.bool true) ∧ Only [] w w' := by
  obtain ⟨i2, hi0, hz0, hz1, hz2⟩ := info_parts markInfo
  have hz := writer_new
  have HM : Hid (MarksAt w a len M) := h
  clear h
  by_cases hlen : (len : Int) > 100
  · go_enter Try.func3, Try.ntmps3
    go_wp2_with fail
    go_ret
    exact ⟨rfl, Only.refl _ _⟩
  · go_enter Try.func3, Try.ntmps3
    go_wp2_with fail
    refine (written_calls w).mono ?_
    rintro e w1 ⟨rfl, o1⟩
    go_upto_region 6 with fail
    have H0 : Hid (LA w w1.heap.size (.slice none 0 0) [] (w1.alloc (.cells (wcells []) 26))) :=
      ⟨WrAt.new w1 _ rfl, SlMarks.nil _, by simp [ownL, Value.ownBlock], o1.size, by simp [ownL, Value.ownBlock], by simp, o1.alloc _⟩
    clear o1
    revert H0
    generalize World.alloc w1 _ = w2
    generalize w1.heap.size = x
    intro H0
    go_wp2_with fail
    clear hz
    go_loopg [4, 5] len (fun k v idx wr => ∃ i : Nat, ∃ Q, idx = .int .i64 (i : Int) ∧ Hid (i ≤ len ∧ k = len - i ∧ Q.length ≤ i) ∧ Hid (LA w x v Q wr))
    case atStart => exact ⟨0, [], rfl, ⟨by omega, rfl, by simp⟩, H0⟩
    case round =>
      clear H0
      obtain ⟨i, Q, rfl, H1, HE⟩ := hrel
      by_cases hi : i < len
      · have hil : (i : Int) < (len : Int) := by omega
        obtain ⟨b, o, rfl, c0, c1, c2⟩ := (HM.out.only HE.out.only) i hi
        go_upto_region 11 with fail
        have H2 : Hid (LA w x u4 Q (wr.alloc (.cells #[.int .i64 ((M i).wt), .int .i64 ((M i).n), .int .i64 ((M i).wd)] 28)) ∧ MkAt (wr.alloc (.cells #[.int .i64 ((M i).wt), .int .i64 ((M i).n), .int .i64 ((M i).wd)] 28)) wr.heap.size (M i) ∧ wr.heap.size ≠ x ∧ wr.heap.size ∉ ownL u4 ∧ w.heap.size ≤ wr.heap.size) :=
          ⟨HE.out.keep ((Only.refl [] wr).alloc _), (MapKept.heap_alloc wr _).1, by have := HE.out.wa.lt; omega, fun k => by have := HE.out.sl.lt _ k; omega, HE.out.only.size⟩
        clear c0 c1 c2 HE
        revert H2
        generalize World.alloc wr _ = w3
        generalize wr.heap.size = kx
        generalize M i = q
        obtain ⟨q0, qn, qd⟩ := q
        intro H2
        have d0 := H2.out.2.1.off 0; have f0 := H2.out.2.1.free 0
        simp only [List.getElem?_toArray, List.getElem?_cons_succ, List.getElem?_cons_zero] at d0
        go_wp2_with fail
        refine (pick_calls q0 3 w3 (by omega) (by omega)).mono ?_
        rintro e w3' ⟨t, rfl, ht0, ht3, hw⟩
        subst hw
        go_upto_region 12 with fail
        have H4 : Hid (LA w x u4 Q (w3'.setCell ⟨kx, 0, none⟩ (.int .i64 t)) ∧ MkAt (w3'.setCell ⟨kx, 0, none⟩ (.int .i64 t)) kx ⟨t, qn, qd⟩ ∧ kx ≠ x) :=
          ⟨H2.out.1.put ((Only.refl [kx] w3').setCell (p := ⟨kx, 0, none⟩) (Or.inl (by simp)) _) H2.out.2.2.2.2 H2.out.2.2.1 H2.out.2.2.2.1, by have := heap_put H2.out.2.1 0 (.int .i64 t); exact this, H2.out.2.2.1⟩
        clear d0 f0 H2
        generalize World.setCell w3' _ _ = w4 at H4 ⊢
        have d0 := H4.out.2.1.off 0; have d1 := H4.out.2.1.off 1; have d2 := H4.out.2.1.off 2
        simp only [List.getElem?_toArray, List.getElem?_cons_succ, List.getElem?_cons_zero] at d0 d1 d2
        have hcs : t = 0 ∨ t = 1 ∨ t = 2 := by omega
        clear ht0 ht3
        rcases hcs with rfl | rfl | rfl
        · go_wp2_with fail
          refine (put_calls x (Q.flatMap encM) qn qd w4 H4.out.1.wa).mono ?_
          rintro e w5 hp
          have hp2 : WrPost x (Q.flatMap encM) (badM ⟨0, qn, qd⟩) (encM ⟨0, qn, qd⟩) w4 e w5 := by simpa [badM, encM] using hp
          rcases wrote_cases H4.out.1 ⟨0, qn, qd⟩ (by constructor <;> simp) hp2 with ⟨k, rfl, h5⟩ | ⟨rfl, h5⟩
          · have H5 : Hid (LA w x u4 Q w5) := h5
            clear h5 hp hp2
            simp only [errV]
            go_wp2_with fail
            go_roundg (len - (i + 1))
            case measure => have := H1.out.2.1; omega
            case rel => exact ⟨i + 1, Q, by go_num, ⟨by omega, rfl, by have := H1.out.2.2; omega⟩, H5⟩
          · have H5 : Hid (OkM ⟨0, qn, qd⟩ ∧ WrAt w5 x ((Q ++ [(⟨0, qn, qd⟩ : Mk)]).flatMap encM) ∧ LA w x u4 Q w4 ∧ Only [x] w4 w5 ∧ MkAt w5 kx ⟨0, qn, qd⟩) := ⟨h5.1, h5.2.1, h5.2.2.1, h5.2.2.2, H4.out.2.1.only h5.2.2.2 (by simp only [List.mem_singleton]; exact H4.out.2.2)⟩
            have hs3 : SlMarks w5 u4 Q := (H4.out.1.sl.kept h5.2.2.2 (fun b hb => by simp only [List.mem_singleton]; exact fun e => H4.out.1.xv (e ▸ hb)))
            clear h5 hp hp2 d1 d2 d0
            have d0 := H5.out.2.2.2.2.off 0; have d1 := H5.out.2.2.2.2.off 1; have d2 := H5.out.2.2.2.2.off 2
            simp only [List.getElem?_toArray, List.getElem?_cons_succ, List.getElem?_cons_zero] at d0 d1 d2
            have hQl := H1.out.2.2
            go_wp2_with (first | (at_builtin; refine wpList_append_own_at _ rfl _ _ 22 rfl 0 28 i2 (.agg #[.int .i64 0, .int .i64 0, .int .i64 0]) 3 24 Try.underlying22 hi0 hz0 hz1 hz2 rfl (by decide) u4 Q.length (Q.flatMap enc3) rfl (World.ownsRow.alloc hs3 _) ⟨w5.heap.size, 0, none⟩ 1 1 [.int .i64 0, .int .i64 qn, .int .i64 qd] rfl rfl (cell_three _ _ _ _ _) (by simp [Value.oneCell']) (by unfold maxLen; omega) (by omega) (by simp) ?_; intro v' w6 hown hgrow hnil hloc; have H6 := mark_post (p := ⟨0, qn, qd⟩) hown hgrow hloc; clear hown hgrow hnil hloc hs3))
            go_roundg (len - (i + 1))
            case measure => have := H1.out.2.1; omega
            case rel => exact ⟨i + 1, Q ++ [(⟨0, qn, qd⟩ : Mk)], by go_num, ⟨by omega, rfl, by have := H1.out.2.2; rw [List.length_append]; simp; omega⟩, H5.out.2.2.1.more H5.out.1 H5.out.2.1 H5.out.2.2.2.1 H6.out⟩
        · go_wp2_with fail
          refine (var_calls x (Q.flatMap encM) qn w4 H4.out.1.wa).mono ?_
          rintro e w5 hp
          have hp2 : WrPost x (Q.flatMap encM) (badM ⟨1, qn, qd⟩) (encM ⟨1, qn, qd⟩) w4 e w5 := by simpa [badM, encM] using hp
          rcases wrote_cases H4.out.1 ⟨1, qn, qd⟩ (by constructor <;> simp) hp2 with ⟨k, rfl, h5⟩ | ⟨rfl, h5⟩
          · have H5 : Hid (LA w x u4 Q w5) := h5
            clear h5 hp hp2
            simp only [errV]
            go_wp2_with fail
            go_roundg (len - (i + 1))
            case measure => have := H1.out.2.1; omega
            case rel => exact ⟨i + 1, Q, by go_num, ⟨by omega, rfl, by have := H1.out.2.2; omega⟩, H5⟩
          · have H5 : Hid (OkM ⟨1, qn, qd⟩ ∧ WrAt w5 x ((Q ++ [(⟨1, qn, qd⟩ : Mk)]).flatMap encM) ∧ LA w x u4 Q w4 ∧ Only [x] w4 w5 ∧ MkAt w5 kx ⟨1, qn, qd⟩) := ⟨h5.1, h5.2.1, h5.2.2.1, h5.2.2.2, H4.out.2.1.only h5.2.2.2 (by simp only [List.mem_singleton]; exact H4.out.2.2)⟩
            have hs3 : SlMarks w5 u4 Q := (H4.out.1.sl.kept h5.2.2.2 (fun b hb => by simp only [List.mem_singleton]; exact fun e => H4.out.1.xv (e ▸ hb)))
            clear h5 hp hp2 d1 d2 d0
            have d0 := H5.out.2.2.2.2.off 0; have d1 := H5.out.2.2.2.2.off 1; have d2 := H5.out.2.2.2.2.off 2
            simp only [List.getElem?_toArray, List.getElem?_cons_succ, List.getElem?_cons_zero] at d0 d1 d2
            have hQl := H1.out.2.2
            go_wp2_with (first | (at_builtin; refine wpList_append_own_at _ rfl _ _ 22 rfl 0 28 i2 (.agg #[.int .i64 0, .int .i64 0, .int .i64 0]) 3 24 Try.underlying22 hi0 hz0 hz1 hz2 rfl (by decide) u4 Q.length (Q.flatMap enc3) rfl (World.ownsRow.alloc hs3 _) ⟨w5.heap.size, 0, none⟩ 1 1 [.int .i64 1, .int .i64 qn, .int .i64 qd] rfl rfl (cell_three _ _ _ _ _) (by simp [Value.oneCell']) (by unfold maxLen; omega) (by omega) (by simp) ?_; intro v' w6 hown hgrow hnil hloc; have H6 := mark_post (p := ⟨1, qn, qd⟩) hown hgrow hloc; clear hown hgrow hnil hloc hs3))
            go_roundg (len - (i + 1))
            case measure => have := H1.out.2.1; omega
            case rel => exact ⟨i + 1, Q ++ [(⟨1, qn, qd⟩ : Mk)], by go_num, ⟨by omega, rfl, by have := H1.out.2.2; rw [List.length_append]; simp; omega⟩, H5.out.2.2.1.more H5.out.1 H5.out.2.1 H5.out.2.2.2.1 H6.out⟩
        · go_wp2_with fail
          refine (int_calls x (Q.flatMap encM) qn w4 H4.out.1.wa).mono ?_
          rintro e w5 hp
          have hp2 : WrPost x (Q.flatMap encM) (badM ⟨2, qn, qd⟩) (encM ⟨2, qn, qd⟩) w4 e w5 := by simpa [badM, encM] using hp
          rcases wrote_cases H4.out.1 ⟨2, qn, qd⟩ (by constructor <;> simp) hp2 with ⟨k, rfl, h5⟩ | ⟨rfl, h5⟩
          · have H5 : Hid (LA w x u4 Q w5) := h5
            clear h5 hp hp2
            simp only [errV]
            go_wp2_with fail
            go_roundg (len - (i + 1))
            case measure => have := H1.out.2.1; omega
            case rel => exact ⟨i + 1, Q, by go_num, ⟨by omega, rfl, by have := H1.out.2.2; omega⟩, H5⟩
          · have H5 : Hid (OkM ⟨2, qn, qd⟩ ∧ WrAt w5 x ((Q ++ [(⟨2, qn, qd⟩ : Mk)]).flatMap encM) ∧ LA w x u4 Q w4 ∧ Only [x] w4 w5 ∧ MkAt w5 kx ⟨2, qn, qd⟩) := ⟨h5.1, h5.2.1, h5.2.2.1, h5.2.2.2, H4.out.2.1.only h5.2.2.2 (by simp only [List.mem_singleton]; exact H4.out.2.2)⟩
            have hs3 : SlMarks w5 u4 Q := (H4.out.1.sl.kept h5.2.2.2 (fun b hb => by simp only [List.mem_singleton]; exact fun e => H4.out.1.xv (e ▸ hb)))
            clear h5 hp hp2 d1 d2 d0
            have d0 := H5.out.2.2.2.2.off 0; have d1 := H5.out.2.2.2.2.off 1; have d2 := H5.out.2.2.2.2.off 2
            simp only [List.getElem?_toArray, List.getElem?_cons_succ, List.getElem?_cons_zero] at d0 d1 d2
            have hQl := H1.out.2.2
            go_wp2_with (first | (at_builtin; refine wpList_append_own_at _ rfl _ _ 22 rfl 0 28 i2 (.agg #[.int .i64 0, .int .i64 0, .int .i64 0]) 3 24 Try.underlying22 hi0 hz0 hz1 hz2 rfl (by decide) u4 Q.length (Q.flatMap enc3) rfl (World.ownsRow.alloc hs3 _) ⟨w5.heap.size, 0, none⟩ 1 1 [.int .i64 2, .int .i64 qn, .int .i64 qd] rfl rfl (cell_three _ _ _ _ _) (by simp [Value.oneCell']) (by unfold maxLen; omega) (by omega) (by simp) ?_; intro v' w6 hown hgrow hnil hloc; have H6 := mark_post (p := ⟨2, qn, qd⟩) hown hgrow hloc; clear hown hgrow hnil hloc hs3))
            go_roundg (len - (i + 1))
            case measure => have := H1.out.2.1; omega
            case rel => exact ⟨i + 1, Q ++ [(⟨2, qn, qd⟩ : Mk)], by go_num, ⟨by omega, rfl, by have := H1.out.2.2; rw [List.length_append]; simp; omega⟩, H5.out.2.2.1.more H5.out.1 H5.out.2.1 H5.out.2.2.2.1 H6.out⟩
      · have hil : ¬ (i : Int) < (len : Int) := by omega
        clear hi0 hz0 hz1 hz2 HM
        have hQl := H1.out.2.2
        have hil2 := H1.out.1
        clear H1
        obtain ⟨a4, cap4, rfl, _⟩ := HE.out.sl.shape
        go_wp2_with fail
        refine (bytes_calls x (Q.flatMap encM) wr HE.out.wa).mono ?_
        rintro e w4 ⟨v4, rfl, ⟨g, c, rfl, hg0, hg1, hby, _⟩, o4⟩
        have hwl := HE.out.wa.len
        go_wp2_with fail
        refine (read_calls g 0 c (bytesOf (Q.flatMap encM)) w4 (by rw [bytesOf_len]; omega) (bytesOf_small HE.out.wa.bits) hby).mono ?_
        rintro e w5 ⟨v5, rfl, ⟨r, ar, c5, rfl, hr0, hrd, hra⟩, o5⟩
        have H5 : Hid (LB w x r ar c5 (.slice a4 Q.length cap4) Q 0 w5) := by
          have l1 := (HE.out.keep o4)
          exact ⟨l1.keep o5, hrd, by have := l1.wa.lt; omega, fun k => by have := l1.sl.lt _ k; omega, by have := l1.only.size; omega, fun g o e hL => by have := hra g o e hL; have := l1.only.size; exact ⟨by omega, by have := l1.wa.lt; omega⟩, by omega⟩
        clear hg0 hg1 hby o4 hr0 hrd hra o5 HE hwl
        go_wp2_with fail
        go_loopg [9] Q.length (fun k idx wr => ∃ i : Nat, idx = .int .i64 (i : Int) ∧ Hid (k = Q.length - i) ∧ Hid (LB w x r ar c5 (.slice a4 Q.length cap4) Q i wr))
        case atStart => exact ⟨0, rfl, rfl, H5⟩
        case round =>
          clear H5
          obtain ⟨j, rfl, H1, HE⟩ := hrel
          have hjq := HE.out.il
          have hQ100 : Q.length ≤ 100 := by omega
          by_cases hj : j < Q.length
          · have hjl : (j : Int) < (Q.length : Int) := by omega
            obtain ⟨a', c', e', hcs⟩ := HE.out.la.sl.shape
            injection e' with e1 e2 e3
            obtain ⟨g4, hg4, c0, c1, c2⟩ := hcs j hj
            rw [hg4] at e1
            subst e1
            have HS : Hid (∃ c, bitsOf (bytesOf (Q.flatMap encM)) = (Q.take j).flatMap encM ++ encM Q[j] ++ c) := bits_split Q j hj HE.out.la.wa.bits
            have HQ2 : Hid (OkM Q[j]) := HE.out.la.ok _ (List.getElem_mem hj)
            obtain ⟨q, hq⟩ : ∃ q, q = Q[j] := ⟨_, rfl⟩
            rw [← hq] at HS HQ2 c0 c1 c2
            have HQ : Hid (Q[j] = q) := hq.symm
            clear hq hcs e2 e3 hg4
            obtain ⟨t, qn, qd⟩ := q
            simp only at c0 c1 c2
            have hcs : t = 0 ∨ t = 1 ∨ t = 2 := by have := HQ2.out.2; simp only at this; omega
            rcases hcs with rfl | rfl | rfl
            · go_wp2_with fail
              refine (get_calls r ar c5 (bytesOf (Q.flatMap encM)) _ qd wr HE.out.rd).mono ?_
              obtain ⟨post, hpo⟩ := HS.out
              have hp0 : ((Q.take j).flatMap encM).length + qd.toNat ≤ 8 * (bytesOf (Q.flatMap encM)).length := by
                rw [← bitsOf_len, hpo]; simp only [List.length_append, encM, if_true, putB_len]; omega
              have hb := HQ2.out.1
              simp only [badM, if_true, badPut] at hb
              rintro e w6 (⟨hb2, _⟩ | ⟨_, hl, _⟩ | ⟨_, hl, rfl, hr, o6⟩)
              · omega
              · omega
              have hv : valB (((bitsOf (bytesOf (Q.flatMap encM))).drop ((Q.take j).flatMap encM).length).take qd.toNat) = qn.toNat := by
                rw [hpo, take_mid' _ _ _ _ _ rfl (by simp only [encM, if_true, putB_len])]
                simp only [encM, if_true]
                rw [valB_putB]
                exact Nat.mod_eq_of_lt (by have h2 : ((2 ^ qd.toNat : Nat) : Int) = (2 : Int) ^ qd.toNat := by simp
                                           omega)
              rw [hv, show ((qn.toNat : Nat) : Int) = qn by omega]
              have hr := (show RdAt w6 r ar c5 (bytesOf (Q.flatMap encM)) (((Q.take j).flatMap encM).length + (encM ⟨0, qn, qd⟩).length) by simp only [encM, if_true, putB_len]; exact hr)
              clear hp0 hb hl hv hpo
              have H6 : Hid (LB w x r ar c5 (.slice (some ⟨g4, 0, none⟩) Q.length cap4) Q (j + 1) w6) := HE.out.read hj o6 (by rw [HQ.out]; exact hr)
              have k1 : w6.cell? ⟨g4, j * 3 + 1, none⟩ = some (.int .i64 qn) := o6.cell c1 (by simp only [List.mem_singleton]; exact fun e => HE.out.vr (by rw [← e]; simp [ownL, Value.ownBlock]))
              clear hr o6 c0 c1 c2
              simp only [show (((0 : Nat) : Int) = 0) = True by simp, if_true]
              go_wp2_with fail
              go_roundg (Q.length - (j + 1))
              case measure => have := H1.out; omega
              case rel => exact ⟨j + 1, by go_num, rfl, H6⟩
            · go_wp2_with fail
              refine (rvar_calls r ar c5 (bytesOf (Q.flatMap encM)) _ wr HE.out.rd).mono ?_
              obtain ⟨post, hpo⟩ := HS.out
              have hb := HQ2.out.1
              simp only [badM, badVar, show ((1 : Int) = 0) = False by simp, if_false, if_true] at hb
              have hv := numM_back 4611686018427387903 qn.toNat (bytesOf (Q.flatMap encM)) ((Q.take j).flatMap encM) post (by rw [hpo]; simp [encM]) (by omega) (by omega)
              rw [hv]
              rintro e w6 ⟨rfl, hr, o6⟩
              rw [show ((qn.toNat : Nat) : Int) = qn by omega]
              have hr := (show RdAt w6 r ar c5 (bytesOf (Q.flatMap encM)) (((Q.take j).flatMap encM).length + (encM ⟨1, qn, qd⟩).length) by simpa [encM] using hr)
              clear hb hv hpo
              have H6 : Hid (LB w x r ar c5 (.slice (some ⟨g4, 0, none⟩) Q.length cap4) Q (j + 1) w6) := HE.out.read hj o6 (by rw [HQ.out]; exact hr)
              have k1 : w6.cell? ⟨g4, j * 3 + 1, none⟩ = some (.int .i64 qn) := o6.cell c1 (by simp only [List.mem_singleton]; exact fun e => HE.out.vr (by rw [← e]; simp [ownL, Value.ownBlock]))
              clear hr o6 c0 c1 c2
              simp only [show (((0 : Nat) : Int) = 0) = True by simp, if_true]
              go_wp2_with fail
              go_roundg (Q.length - (j + 1))
              case measure => have := H1.out; omega
              case rel => exact ⟨j + 1, by go_num, rfl, H6⟩
            · go_wp2_with fail
              refine (rint_calls r ar c5 (bytesOf (Q.flatMap encM)) _ wr HE.out.rd).mono ?_
              obtain ⟨post, hpo⟩ := HS.out
              have hb := HQ2.out.1
              simp only [badM, show ((2 : Int) = 0) = False by simp, show ((2 : Int) = 1) = False by simp, if_false] at hb
              have hv := intM_back qn (bytesOf (Q.flatMap encM)) ((Q.take j).flatMap encM) post (by rw [hpo]; simp [encM]) hb
              rw [hv]
              rintro e w6 ⟨rfl, hr, o6⟩
              have hr := (show RdAt w6 r ar c5 (bytesOf (Q.flatMap encM)) (((Q.take j).flatMap encM).length + (encM ⟨2, qn, qd⟩).length) by simpa [encM] using hr)
              clear hb hv hpo
              have H6 : Hid (LB w x r ar c5 (.slice (some ⟨g4, 0, none⟩) Q.length cap4) Q (j + 1) w6) := HE.out.read hj o6 (by rw [HQ.out]; exact hr)
              have k1 : w6.cell? ⟨g4, j * 3 + 1, none⟩ = some (.int .i64 qn) := o6.cell c1 (by simp only [List.mem_singleton]; exact fun e => HE.out.vr (by rw [← e]; simp [ownL, Value.ownBlock]))
              clear hr o6 c0 c1 c2
              simp only [show (((0 : Nat) : Int) = 0) = True by simp, if_true]
              go_wp2_with fail
              go_roundg (Q.length - (j + 1))
              case measure => have := H1.out; omega
              case rel => exact ⟨j + 1, by go_num, rfl, H6⟩
          · have hjl : ¬ (j : Int) < (Q.length : Int) := by omega
            obtain rfl : j = Q.length := by omega
            go_wp2_with fail
            refine (left_calls r ar c5 (bytesOf (Q.flatMap encM)) _ wr HE.out.rd).mono ?_
            rintro e w6 ⟨rfl, o6⟩
            rw [List.take_length, bytesOf_len]
            have H6 : Hid (WrAt w6 x (Q.flatMap encM) ∧ Only [] w w6) := ⟨HE.out.la.wa.only o6 (by simp), HE.out.la.only.trans o6⟩
            have hlm := HE.out.la.wa.len
            clear HE o6
            obtain ⟨l, hl⟩ : ∃ l, l = Q.flatMap encM := ⟨_, rfl⟩
            rw [← hl] at H6 hlm ⊢
            clear hl
            have hlt : ((8 * ((l.length + 7) / 8) - l.length : Nat) : Int) < 8 := by omega
            obtain ⟨d, hd⟩ : ∃ d, d = 8 * ((l.length + 7) / 8) - l.length := ⟨_, rfl⟩
            rw [← hd] at hlt ⊢
            clear hd
            go_wp2_with fail
            refine (bytes_calls x l w6 H6.out.1).mono ?_
            rintro e w7 ⟨v7, rfl, ⟨g, c, rfl, _, _, _, _⟩, o7⟩
            have H7 : Hid (WrAt w7 x l ∧ Only [] w w7) := ⟨H6.out.1.only o7 (by simp), H6.out.2.trans o7⟩
            rw [bytesOf_len]
            obtain ⟨m, hm⟩ : ∃ m, m = (l.length + 7) / 8 := ⟨_, rfl⟩
            rw [← hm]
            clear o7 H6
            go_wp2_with fail
            refine (many_calls x l w7 H7.out.1).mono ?_
            rintro e w8 ⟨rfl, rfl⟩
            have hmm : (m : Int) = ((l.length : Int) + 7) / 8 := by omega
            go_wp2_with fail
            go_ret
            exact ⟨by simp [hmm], H7.out.2⟩
end Go.Proofs.Ytakncikdomipnaa
