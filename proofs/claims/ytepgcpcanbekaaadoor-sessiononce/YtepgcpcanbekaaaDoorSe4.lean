/- gyreref.Wicket: Newest, Take: whichever numbers. -/
import Derived.Test.YtepgcpcanbekaaaDoorSe3
import Derived.Maps.AppendAt
import Derived.OwnWalk
namespace Go.Proofs.YtepgcpcanbekaaaDoor
open Go.ChangeShapes Go.WideShapes Go.ChangeAt Go.RowKit
set_option linter.unusedVariables false
set_option linter.unusedSimpArgs false

def ownL (v : Value) : List Nat := v.ownBlock.toList
theorem intInfo : (Tryd.prog.info? 3).map (fun i => (i.zero, i.size, i.bytes)) = some (some (.int .i64 0), 1, 8) := by kernel_rfl
def SlInts (w : World) (v : Value) (xs : List Int) : Prop := w.ownsRow 0 3 1 v xs.length (xs.map (Value.int .i64))
theorem SlInts.kept {w w' : World} {v : Value} {xs : List Int} (h : SlInts w v xs) {D : List Nat} (o : Only D w w') (s : ∀ b ∈ ownL v, b ∉ D) : SlInts w' v xs := by
  obtain ⟨h1, h2⟩ := h
  refine ⟨h1, ?_⟩
  rcases h2 with h2 | ⟨g, cap, cur, rfl, hb, hg, r⟩
  · exact Or.inl h2
  · exact Or.inr ⟨g, cap, cur, rfl, hb, (o.block g (Array.getElem?_eq_some_iff.1 hg).1 (s g (by simp [ownL, Value.ownBlock]))).trans hg, r⟩
theorem SlInts.shape {w : World} {v : Value} {xs : List Int} (h : SlInts w v xs) : ∃ a c, v = .slice a xs.length c ∧ (∀ j (hj : j < xs.length), ∃ g, a = some ⟨g, 0, none⟩ ∧ w.cell? ⟨g, j, none⟩ = some (.int .i64 (xs[j]))) := by
  obtain ⟨hlen, ⟨rfl, hx⟩ | ⟨g, cap, cur, rfl, hb, hg, hn, hc, hs, ht⟩⟩ := h
  · have : xs.length = 0 := by simpa using hx
    exact ⟨none, 0, by rw [this], fun j hj => by omega⟩
  · refine ⟨_, _, rfl, fun j hj => ⟨g, rfl, ?_⟩⟩
    have e : (cur.toList.take (xs.length * 1))[j]? = some (.int .i64 (xs[j])) := by
      rw [ht, List.getElem?_map, List.getElem?_eq_getElem hj]; rfl
    rw [List.getElem?_take] at e
    simp only [Nat.mul_one, hj, if_true] at e
    simp only [World.cell?, hg, Option.isSome_none, Bool.false_eq_true, if_false]
    rw [← e, Array.getElem?_toList]
structure Wk where
  tok : Int
  most : Int
  each : Int
  left : Int
def WkAt (w : World) (y : Nat) (k : Wk) (v : Value) : Prop := w.heap[y]? = some (.cells #[.int .i64 (k.tok), .int .i64 (k.most), .int .i64 (k.each), .int .i64 (k.left), v] 44)
theorem WkAt.lt {w : World} {y : Nat} {k : Wk} {v : Value} (h : WkAt w y k v) : y < w.heap.size := (Array.getElem?_eq_some_iff.1 h).1
theorem WkAt.c0 {w : World} {y : Nat} {k : Wk} {v : Value} (h : WkAt w y k v) : w.cell? ⟨y, 0, none⟩ = some (.int .i64 (k.tok)) := by unfold WkAt at h; simp [World.cell?, h]
theorem WkAt.c3 {w : World} {y : Nat} {k : Wk} {v : Value} (h : WkAt w y k v) : w.cell? ⟨y, 3, none⟩ = some (.int .i64 (k.left)) := by unfold WkAt at h; simp [World.cell?, h]
theorem WkAt.c4 {w : World} {y : Nat} {k : Wk} {v : Value} (h : WkAt w y k v) : w.cell? ⟨y, 4, none⟩ = some v := by unfold WkAt at h; simp [World.cell?, h]
theorem WkAt.free {w : World} {y : Nat} {k : Wk} {v : Value} (h : WkAt w y k v) (i : Nat) : w.frozen? ⟨y, i, none⟩ = false := by unfold WkAt at h; simp [World.frozen?, h]
theorem WkAt.only {w w' : World} {y : Nat} {k : Wk} {v : Value} (h : WkAt w y k v) {D : List Nat} (o : Only D w w') (hy : y ∉ D) : WkAt w' y k v := (o.block y h.lt hy).trans h
theorem WkAt.drew {w : World} {y : Nat} {k : Wk} {v : Value} (h : WkAt w y k v) : WkAt w.drew y k v := h
theorem WkAt.putLeft {w : World} {y : Nat} {k : Wk} {v : Value} (h : WkAt w y k v) (n : Int) : WkAt (w.setCell ⟨y, 3, none⟩ (.int .i64 n)) y { k with left := n } v := heap_put h _ _
theorem WkAt.putCame {w : World} {y : Nat} {k : Wk} {v : Value} (h : WkAt w y k v) (u : Value) : WkAt (w.setCell ⟨y, 4, none⟩ u) y k u := heap_put h _ _
/-- A wicket with these numbers, its list in a block of its own, beside the blocks X, new since the heap had B blocks. -/
def WkS (X : List Nat) (B : Nat) (y : Nat) (k : Wk) (S : List Int) (w : World) : Prop := ∃ v, WkAt w y k v ∧ SlInts w v S ∧ y ∈ X ∧ ∀ b ∈ ownL v, b ∉ X ∧ B ≤ b
set_option maxRecDepth 100000 in
theorem refNewest_calls (y : Nat) (k : Wk) (v : Value) (S : List Int) (w : World) (h : WkAt w y k v) (hs : SlInts w v S) (hl : S.length ≤ 1000) :
    Calls Tryd.prog 14 #[.pointer (some ⟨y, 0, none⟩)] w fun e w' => e = .returned (.int .i64 (mx S)) ∧ w' = w := by
  have c4 := h.c4
  obtain ⟨a, c, rfl, hc⟩ := hs.shape
  have HC : Hid ((∀ j (hj : j < S.length), ∃ g, a = some ⟨g, 0, none⟩ ∧ w.cell? ⟨g, j, none⟩ = some (.int .i64 (S[j]))) ∧ S.length ≤ 1000) := ⟨hc, hl⟩
  clear h hs hc hl
  go_enter Tryd.func14, Tryd.ntmps14
  go_wp2_with fail
  go_loopg [3, 11] S.length (fun k n idx wr => ∃ i : Nat, ∃ m : Int, n = .int .i64 m ∧ idx = .int .i64 (i : Int) ∧ Hid (i ≤ S.length ∧ k = S.length - i ∧ m = mx (S.take i)) ∧ wr = w)
  case atStart => exact ⟨0, -1, rfl, rfl, ⟨by omega, rfl, rfl⟩, rfl⟩
  case round =>
    obtain ⟨i, m, rfl, rfl, H1, rfl⟩ := hrel
    have hn := HC.out.2
    by_cases hi : i < S.length
    · have hil : (i : Int) < (S.length : Int) := by omega
      obtain ⟨g, rfl, c1⟩ := HC.out.1 i hi
      obtain ⟨z, hz⟩ : ∃ z, S[i] = z := ⟨_, rfl⟩
      rw [hz] at c1
      have HZ : Hid (S[i] = z) := hz
      clear hz
      by_cases hmz : m < z
      · have hm2 : ¬ z < m := by omega
        go_wp2_with fail
        go_roundg (S.length - (i + 1))
        case measure => have := H1.out.2.1; omega
        case rel => exact ⟨i + 1, z, rfl, by go_num, ⟨by omega, rfl, by rw [List.take_succ_eq_append_getElem hi, mx_snoc, ← H1.out.2.2, HZ.out]; omega⟩, rfl⟩
      · by_cases hm2 : z < m
        · go_wp2_with fail
          go_roundg (S.length - (i + 1))
          case measure => have := H1.out.2.1; omega
          case rel => exact ⟨i + 1, m, rfl, by go_num, ⟨by omega, rfl, by rw [List.take_succ_eq_append_getElem hi, mx_snoc, ← H1.out.2.2, HZ.out]; omega⟩, rfl⟩
        · obtain rfl : m = z := by omega
          go_wp2_with fail
          go_roundg (S.length - (i + 1))
          case measure => have := H1.out.2.1; omega
          case rel => exact ⟨i + 1, m, rfl, by go_num, ⟨by omega, rfl, by rw [List.take_succ_eq_append_getElem hi, mx_snoc, ← H1.out.2.2, HZ.out]; omega⟩, rfl⟩
    · have hil : ¬ (i : Int) < (S.length : Int) := by omega
      go_wp2_with fail
      go_ret
      exact ⟨ret_int (by rw [H1.out.2.2, List.take_of_length_le (by omega)]), rfl⟩
theorem not_mem_take {S : List Int} {i : Nat} {n : Int} (hi : i < S.length) (h : n ∉ S.take i) (hn : S[i] ≠ n) : n ∉ S.take (i + 1) := by
  rw [List.take_succ_eq_append_getElem hi]
  intro q
  rcases List.mem_append.1 q with q | q
  · exact h q
  · exact hn (List.mem_singleton.1 q).symm
/-- What a call may have turned of what the heap held: the block y, and blocks that are none of X and not below B. -/
def Turns (X : List Nat) (B y : Nat) (w w' : World) : Prop := ∃ D, Only D w w' ∧ ∀ b ∈ D, b = y ∨ (b ∉ X ∧ B ≤ b)
/-- What Take tells of a wicket, and what it is then. -/
def TakePost (X : List Nat) (B y : Nat) (k : Wk) (S : List Int) (tok n : Int) (w : World) (e : Ending) (w' : World) : Prop :=
  e = .returned (.int .i64 (takeR k.tok k.left S tok n)) ∧ WkS X B y (if takeR k.tok k.left S tok n = 0 then { k with left := k.left - 1 } else k) (if takeR k.tok k.left S tok n = 0 then S ++ [n] else S) w' ∧ Turns X B y w w'
theorem Turns.refl (X : List Nat) (B y : Nat) (w : World) : Turns X B y w w := ⟨[], Only.refl _ _, by simp⟩
theorem TakePost.same {X : List Nat} {B y : Nat} {k : Wk} {S : List Int} {tok n : Int} {w : World} (c : Int) (h : takeR k.tok k.left S tok n = c) (hc : c ≠ 0) (hw : WkS X B y k S w) : TakePost X B y k S tok n w (.returned (.int .i64 c)) w := by
  unfold TakePost
  rw [h, if_neg hc, if_neg hc]
  exact ⟨rfl, hw, Turns.refl _ _ _ _⟩
theorem came_post {w w2 w3 : World} {y : Nat} {k : Wk} {v v' : Value} {S : List Int} {n : Int} {T : TypeId} (hw : WkAt w2 y k v) (o : Only [y] w w2) (hy : y ∉ ownL v) (hown : w3.ownsRow 0 3 1 v' (S.length + 1) (S.map (Value.int .i64) ++ [.int .i64 n])) (hgrow : (w2.alloc (.cells #[.int .i64 n] T)).grownBy w3 v.ownBlock)
    (hloc : v'.ownBlock = v.ownBlock ∨ v'.ownBlock = some (w2.alloc (.cells #[.int .i64 n] T)).heap.size) : ∃ a c, v' = .slice a (S.length + 1) c ∧ Hid (WkAt w3 y k v ∧ SlInts w3 v' (S ++ [n]) ∧ Only (y :: ownL v) w w3 ∧ (∀ b ∈ ownL v', b ∈ ownL v ∨ w.heap.size < b) ∧ (∀ b ∈ ownL v', b ∈ ownL v ∨ w2.heap.size < b)) := by
  have hs : SlInts w3 v' (S ++ [n]) := by unfold SlInts; rw [List.map_append, List.length_append]; exact hown
  obtain ⟨a, c, e, _⟩ := hs.shape
  have o2 : Only (ownL v) w2 w3 := ((Only.refl _ w2).alloc _).grown hgrow (fun q hq => Or.inl (by simp [ownL, hq]))
  have hb : ∀ b ∈ ownL v', b ∈ ownL v ∨ w2.heap.size < b := fun b hb => by
    rcases hloc with e | e
    · left; simpa [ownL, e] using hb
    · right
      simp only [ownL, e, Option.toList_some, List.mem_singleton] at hb
      simp at hb; omega
  refine ⟨a, c, by rw [e, List.length_append]; rfl, hw.only o2 hy, hs, (o.mono (fun b hb => Or.inl (List.mem_cons.2 (Or.inl (List.mem_singleton.1 hb))))).trans (o2.mono (fun b hb => Or.inl (List.mem_cons_of_mem _ hb))), fun b h => ?_, hb⟩
  rcases hb b h with q | q
  · exact Or.inl q
  · have := o.size; exact Or.inr (by omega)
set_option maxRecDepth 100000 in
set_option maxHeartbeats 2000000 in
theorem refTake_calls (X : List Nat) (B y : Nat) (k : Wk) (S : List Int) (tok n : Int) (w : World) (h : WkS X B y k S w) (hl : S.length ≤ 1000) (hk : 0 ≤ k.left ∧ k.left ≤ 1000) (hS : -1 ≤ mx S ∧ mx S ≤ 70368744177664) (hX : (∀ b ∈ X, b < w.heap.size) ∧ B ≤ w.heap.size) :
    Calls Tryd.prog 12 #[.pointer (some ⟨y, 0, none⟩), .int .i64 tok, .int .i64 n] w (TakePost X B y k S tok n w) := by
  obtain ⟨i0, hi0, hz0, hz1, hz2⟩ := info_parts intInfo
  obtain ⟨v, hw, hs, hy, ho⟩ := h
  have c0 := hw.c0; have c3 := hw.c3; have c4 := hw.c4
  have H : Hid (WkAt w y k v ∧ SlInts w v S ∧ y ∈ X ∧ (∀ b ∈ ownL v, b ∉ X ∧ B ≤ b) ∧ S.length ≤ 1000 ∧ (∀ b ∈ X, b < w.heap.size) ∧ B ≤ w.heap.size) := ⟨hw, hs, hy, ho, hl, hX⟩
  have HW : Hid (WkS X B y k S w) := ⟨v, hw, hs, hy, ho⟩
  have hk0 := hk.1; have hk1 := hk.2; have hm0 := hS.1; have hm1 := hS.2
  clear hw hs hy ho hl hX hk hS
  by_cases h1 : tok = k.tok
  case neg =>
    have e : takeR k.tok k.left S tok n = 5 := if_pos h1
    have hb : (tok == k.tok) = false := by simpa using h1
    have E : Hid (_ = _) := e
    clear e
    go_enter Tryd.func12, Tryd.ntmps12
    go_wp2_with fail
    go_ret
    exact TakePost.same _ E.out (by decide) HW.out
  subst h1
  by_cases h2 : 0 ≤ n ∧ n ≤ 70368744177664
  case neg =>
    have e : takeR k.tok k.left S k.tok n = 2 := by unfold takeR; rw [if_neg (by simp), if_pos h2]
    have E : Hid (_ = _) := e
    clear e
    go_enter Tryd.func12, Tryd.ntmps12
    by_cases hn : n < 0
    · have hd : decide (n < 0) = true := by simpa using hn
      go_wp2_with fail
      go_ret
      exact TakePost.same _ E.out (by decide) HW.out
    · have hd : decide (n < 0) = false := by simpa using hn
      have hd2 : decide (n > 70368744177664) = true := by simp; omega
      go_wp2_with fail
      go_ret
      exact TakePost.same _ E.out (by decide) HW.out
  have hd : decide (n < 0) = false := by simp; omega
  have hd2 : decide (n > 70368744177664) = false := by simp; omega
  by_cases h3 : n ≤ mx S - 64
  case pos =>
    have e : takeR k.tok k.left S k.tok n = 10 := by unfold takeR; rw [if_neg (by simp), if_neg (by simp [h2]), if_pos h3]
    have E : Hid (_ = _) := e
    clear e
    go_enter Tryd.func12, Tryd.ntmps12
    go_wp2_with fail
    refine (refNewest_calls y k v S w H.out.1 H.out.2.1 H.out.2.2.2.2.1).mono ?_
    rintro e w1 ⟨rfl, rfl⟩
    go_wp2_with fail
    go_ret
    exact TakePost.same _ E.out (by decide) HW.out
  obtain ⟨a, c, rfl, hc⟩ := H.out.2.1.shape
  have HC : Hid (∀ j (hj : j < S.length), ∃ g, a = some ⟨g, 0, none⟩ ∧ w.cell? ⟨g, j, none⟩ = some (.int .i64 (S[j]))) := hc
  have hSl := H.out.2.2.2.2.1
  have E9 : Hid (n ∈ S → takeR k.tok k.left S k.tok n = 9) := by intro q; unfold takeR; rw [if_neg (by simp), if_neg (by simp [h2]), if_neg h3, if_pos q]
  have E4 : Hid (n ∉ S → k.left = 0 → takeR k.tok k.left S k.tok n = 4) := by intro q q2; unfold takeR; rw [if_neg (by simp), if_neg (by simp [h2]), if_neg h3, if_neg q, if_pos q2]
  have E0 : Hid (n ∉ S → k.left ≠ 0 → takeR k.tok k.left S k.tok n = 0) := by intro q q2; unfold takeR; rw [if_neg (by simp), if_neg (by simp [h2]), if_neg h3, if_neg q, if_neg q2]
  clear hc
  go_enter Tryd.func12, Tryd.ntmps12
  go_wp2_with fail
  refine (refNewest_calls y k _ S w H.out.1 H.out.2.1 H.out.2.2.2.2.1).mono ?_
  rintro e w1 ⟨rfl, rfl⟩
  go_wp2_with fail
  go_loopg [31] S.length (fun k' idx wr => ∃ i : Nat, idx = .int .i64 (i : Int) ∧ Hid (i ≤ S.length ∧ k' = S.length - i ∧ n ∉ S.take i) ∧ wr = w1)
  case atStart => exact ⟨0, rfl, ⟨by omega, rfl, by simp⟩, rfl⟩
  case round =>
    obtain ⟨i, rfl, HI, rfl⟩ := hrel
    by_cases hi : i < S.length
    · have hil : (i : Int) < (S.length : Int) := by omega
      obtain ⟨g, rfl, c1⟩ := HC.out i hi
      obtain ⟨z, hz⟩ : ∃ z, S[i] = z := ⟨_, rfl⟩
      rw [hz] at c1
      have HZ : Hid (S[i] = z) := hz
      clear hz
      by_cases hzn : z = n
      · have hq : (z == n) = true := by simpa using hzn
        have E : Hid (takeR k.tok k.left S k.tok n = 9) := E9.out (by rw [← hzn, ← HZ.out]; exact List.getElem_mem hi)
        clear hzn
        go_wp2_with fail
        go_ret
        exact TakePost.same _ E.out (by decide) HW.out
      · have hq : (z == n) = false := by simpa using hzn
        have HZN : Hid (z ≠ n) := hzn
        clear hzn
        go_wp2_with fail
        go_roundg (S.length - (i + 1))
        case measure => have := HI.out.2.1; omega
        case rel => exact ⟨i + 1, by go_num, ⟨by omega, rfl, not_mem_take hi HI.out.2.2 (by rw [HZ.out]; exact HZN.out)⟩, rfl⟩
    · have hil : ¬ (i : Int) < (S.length : Int) := by omega
      have hnS : n ∉ S := by have := HI.out.2.2; rwa [List.take_of_length_le (by omega)] at this
      by_cases h6 : k.left = 0
      · have E : Hid (takeR k.tok k.left S k.tok n = 4) := E4.out hnS h6
        have hz : (k.left == 0) = true := by simpa using h6
        clear h6
        go_wp2_with fail
        go_ret
        exact TakePost.same _ E.out (by decide) HW.out
      · have E : Hid (takeR k.tok k.left S k.tok n = 0) := E0.out hnS h6
        have hz : (k.left == 0) = false := by simpa using h6
        clear h6
        have f3 := H.out.1.free 3
        have H2 : Hid (WkAt (wr.setCell ⟨y, 3, none⟩ (.int .i64 (k.left - 1))) y { k with left := k.left - 1 } (.slice a S.length c) ∧ SlInts (wr.setCell ⟨y, 3, none⟩ (.int .i64 (k.left - 1))) (.slice a S.length c) S ∧ Only [y] wr (wr.setCell ⟨y, 3, none⟩ (.int .i64 (k.left - 1)))) :=
          ⟨H.out.1.putLeft _, H.out.2.1.kept ((Only.refl [y] wr).setCell (p := ⟨y, 3, none⟩) (Or.inl (by simp)) _) (fun b hb => by
            have := (H.out.2.2.2.1 b hb).1
            intro q
            rw [List.mem_singleton.1 q] at this
            exact this H.out.2.2.1), (Only.refl [y] wr).setCell (p := ⟨y, 3, none⟩) (Or.inl (by simp)) _⟩
        go_upto_region 16 with fail
        generalize World.setCell wr _ _ = w2 at H2 ⊢
        have c4' := H2.out.1.c4
        clear c0 c3 c4 f3
        have HY : Hid (y ∉ ownL (.slice a S.length c)) := fun q => (H.out.2.2.2.1 y q).1 H.out.2.2.1
        have HLT : Hid (y < w2.heap.size ∧ wr.heap.size ≤ w2.heap.size) := ⟨H2.out.1.lt, H2.out.2.2.size⟩
        go_wp2_with (first | (at_builtin; refine wpList_append_own_at _ rfl _ _ 42 rfl 0 3 i0 (.int .i64 0) 1 8 Tryd.underlying42 hi0 hz0 hz1 hz2 rfl (by decide) (.slice a S.length c) S.length (S.map (Value.int .i64)) rfl (World.ownsRow.alloc H2.out.2.1 _) ⟨w2.heap.size, 0, none⟩ 1 1 [.int .i64 n] rfl rfl (cell_one_new _ _ _) (by simp [Value.oneCell']) (by unfold maxLen; omega) (by omega) (by simp) ?_; intro v' w3 hown hgrow hnil hloc; obtain ⟨a', c', rfl, H3⟩ := came_post H2.out.1 H2.out.2.2 HY.out hown hgrow hloc; clear hown hgrow hnil hloc c4'; have c4'' := H3.out.1.c4; have f4'' := H3.out.1.free 4))
        go_ret
        unfold TakePost
        rw [E.out, if_pos rfl, if_pos rfl]
        obtain ⟨q1, q2, q3, q4, q5⟩ := H3.out
        obtain ⟨p1, p2, p3, p4, p5, p6, p7⟩ := H.out
        have hy' : y ∉ ownL (.slice a' (S.length + 1) c') := fun q => by
          rcases q5 y q with q | q
          · exact HY.out q
          · have := HLT.out.1; omega
        refine ⟨rfl, ⟨_, q1.putCame _, q2.kept ((Only.refl [y] w3).setCell (p := ⟨y, 4, none⟩) (Or.inl (by simp)) _) (fun b hb q => by rw [List.mem_singleton.1 q] at hb; exact hy' hb), p3, fun b hb => ?_⟩, ⟨y :: ownL (.slice a S.length c), q3.setCell (p := ⟨y, 4, none⟩) (Or.inl (by simp)) _, fun b hb => ?_⟩⟩
        · rcases q4 b hb with q | q
          · exact p4 b q
          · exact ⟨fun hX => by have := p6 b hX; omega, by omega⟩
        · rcases List.mem_cons.1 hb with q | q
          · exact Or.inl q
          · exact Or.inr (p4 b q)
end Go.Proofs.YtepgcpcanbekaaaDoor
