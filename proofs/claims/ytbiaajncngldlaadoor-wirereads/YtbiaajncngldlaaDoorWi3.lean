/- gyreref.Ask: whichever command. -/
import Derived.Test.YtbiaajncngldlaaDoorWi2
import Derived.Test.YtbiaajncngldlaaDoorRb
import Derived.Maps.AppendAt
import Derived.OwnWalk
namespace Go.Proofs.YtbiaajncngldlaaDoor
open Go.ChangeShapes Go.WideShapes Go.ChangeAt Go.RowKit
set_option linter.unusedVariables false
set_option linter.unusedSimpArgs false

theorem intInfo : (Tryd.prog.info? 3).map (fun i => (i.zero, i.size, i.bytes)) = some (some (.int .i64 0), 1, 8) := by kernel_rfl
def SlInts (w : World) (v : Value) (xs : List Int) : Prop := w.ownsRow 0 3 1 v xs.length (xs.map (Value.int .i64))
theorem SlInts.shape {w : World} {v : Value} {xs : List Int} (h : SlInts w v xs) (hx : xs ≠ []) : ∃ g c, v = .slice (some ⟨g, 0, none⟩) xs.length c ∧ NumsAt w g xs ∧ xs.length ≤ c ∧ g < w.heap.size ∧ ownL v = [g] := by
  obtain ⟨hlen, ⟨rfl, hq⟩ | ⟨g, cap, cur, rfl, hb, hg, hn, hc, hs, ht⟩⟩ := h
  · exfalso
    have : xs.length = 0 := by simpa using hq
    exact hx (List.length_eq_zero_iff.1 this)
  · refine ⟨g, cap, rfl, fun j hj => ?_, by omega, (Array.getElem?_eq_some_iff.1 hg).1, rfl⟩
    have e : (cur.toList.take (xs.length * 1))[j]? = some (.int .i64 (xs[j])) := by
      rw [ht, List.getElem?_map, List.getElem?_eq_getElem hj]; rfl
    rw [List.getElem?_take] at e
    simp only [Nat.mul_one, hj, if_true] at e
    simp only [World.cell?, hg, Option.isSome_none, Bool.false_eq_true, if_false]
    rw [← e, Array.getElem?_toList]
theorem SlInts.new3 (w : World) (a b c : Int) : SlInts (w.alloc (.cells #[.int .i64 a, .int .i64 b, .int .i64 c] 3)) (.slice (some ⟨w.heap.size, 0, none⟩) 3 3) [a, b, c] :=
  ⟨rfl, Or.inr ⟨w.heap.size, 3, #[.int .i64 a, .int .i64 b, .int .i64 c], rfl, Nat.zero_le _, (MapKept.heap_alloc w _).1, by simp, by unfold maxLen; decide, rfl, rfl⟩⟩
set_option maxRecDepth 100000 in
theorem parts_calls (x y z : Int) (w : World) : Calls Tryd.prog 22 #[.agg #[.int .i64 x, .int .i64 y, .int .i64 z]] w fun e w' => ∃ g, e = .returned (.slice (some ⟨g, 0, none⟩) 3 3) ∧ w.heap.size ≤ g ∧ g < w'.heap.size ∧ NumsAt w' g [x, y, z] ∧ Only [] w w' := by
  go_enter Tryd.func22, Tryd.ntmps22
  go_wp2_with fail
  go_ret
  have h := NumsAt.new3 (w.alloc (.cells #[.int .i64 x, .int .i64 y, .int .i64 z] 23)) x y z 3
  rw [World.size_alloc] at h
  exact ⟨w.heap.size + 1, rfl, by omega, by simp, h, ((Only.refl _ _).alloc _).alloc _⟩
def RAskPost (c : Cm) (w : World) (e : Ending) (w' : World) : Prop :=
  Only [] w w' ∧ ((¬ (0 ≤ c.kd ∧ c.kd ≤ 2) ∧ e = .returned (.tuple #[.slice none 0 0, .int .i64 1])) ∨ ((0 ≤ c.kd ∧ c.kd ≤ 2) ∧ ¬ askOk c ∧ e = .returned (.tuple #[.slice none 0 0, .int .i64 2])) ∨ ((0 ≤ c.kd ∧ c.kd ≤ 2) ∧ askOk c ∧ ∃ v, e = .returned (.tuple #[v, .int .i64 0]) ∧ SlB w' v (bytesOf (askT c))))
theorem NumsAt.block {w w' : World} {g : Nat} {xs : List Int} (h : NumsAt w g xs) (e : w'.heap[g]? = w.heap[g]?) : NumsAt w' g xs := fun j hj => by
  rw [World.cell?_of_block (w := w) e]; exact h j hj
/-- Bits that are written beside a command and its numbers. -/
structure RA (w : World) (k g kb : Nat) (c : Cm) (xs : List Int) (l : List Nat) (wr : World) : Prop where
  cm : CmAt 30 wr k c
  nums : NumsAt wr g xs
  rb : RB w kb [k, g] l wr
theorem RA.put {w : World} {k g kb : Nat} {c : Cm} {xs : List Int} {l l' : List Nat} {wr w' : World} {e : Ending} (h : RA w k g kb c xs l wr) (p : RBPost w kb [k, g] l' wr e w') : RA w k g kb c xs l' w' :=
  ⟨(p.2.2 k (by simp)).trans h.cm, h.nums.block (p.2.2 g (by simp)), p.2.1⟩
theorem bits_new {w wr : World} {k g : Nat} (o : Only [] w wr) (hk : k < wr.heap.size) (hg : g < wr.heap.size) : RB w wr.heap.size [k, g] [] (wr.alloc (.cells #[.slice none 0 0] 63)) :=
  ⟨⟨.slice none 0 0, ⟨(MapKept.heap_alloc wr _).1, SlB.nil _, by simp [ownL, Value.ownBlock]⟩, by simp [ownL, Value.ownBlock], fun b hb => by
    simp only [List.mem_cons, List.mem_nil_iff, or_false] at hb
    rcases hb with rfl | rfl <;> simp [ownL, Value.ownBlock] <;> omega⟩, o.alloc _, o.size⟩
set_option maxRecDepth 100000 in
theorem refAsk_kind (c : Cm) (w : World) (h : ¬ (0 ≤ c.kd ∧ c.kd ≤ 2)) : Calls Tryd.prog 7 #[.agg #[.int .i64 (c.tk), .int .i64 (c.nm), .int .i64 (c.sn), .int .i64 (c.kd), .int .i64 (c.bd), .int .i64 (c.x), .int .i64 (c.y), .int .i64 (c.z)]] w (RAskPost c w) := by
  have HN : Hid (¬ (0 ≤ c.kd ∧ c.kd ≤ 2)) := h
  go_enter Tryd.func7, Tryd.ntmps7
  by_cases h1 : c.kd < 0
  · have d1 : decide (c.kd < 0) = true := by simpa using h1
    clear h h1
    go_wp2_with fail
    go_ret2
    exact ⟨(Only.refl _ _).alloc _, Or.inl ⟨HN.out, rfl⟩⟩
  · have d1 : decide (c.kd < 0) = false := by simpa using h1
    have d2 : decide (c.kd > 2) = true := by simp; omega
    clear h h1
    go_wp2_with fail
    go_ret2
    exact ⟨(Only.refl _ _).alloc _, Or.inl ⟨HN.out, rfl⟩⟩
theorem inM_mem_false {lo hi : Int} {xs : List Int} {z : Int} (hz : z ∈ xs) (h : ¬ (lo ≤ z ∧ z ≤ hi)) : inM lo hi xs = false := by
  unfold inM
  rw [List.all_eq_false]
  exact ⟨z, hz, by simpa using h⟩
theorem varsB_snoc {xs : List Int} {i : Nat} (h : i < xs.length) : varsB (xs.take (i + 1)) = varsB (xs.take i) ++ varB (xs[i]).toNat := by
  unfold varsB; rw [List.take_succ_eq_append_getElem h, flat_snoc]
theorem intsB_snoc {xs : List Int} {i : Nat} (h : i < xs.length) : intsB (xs.take (i + 1)) = intsB (xs.take i) ++ varB (codeM xs[i]) := by
  unfold intsB; rw [List.take_succ_eq_append_getElem h, flat_snoc]
theorem intsB_len (xs : List Int) (h : ∀ n ∈ xs, ¬ badInt n) : (intsB xs).length ≤ 78 * xs.length := flat_len _ 78 _ (fun n hn => varB_78 (codeM_lt (h n hn)))
theorem putsB_bits (wd : Nat) (xs : List Int) : Bits (putsB wd xs) := by
  intro b hb
  obtain ⟨n, _, h⟩ := List.mem_flatMap.1 hb
  exact putB_bits _ _ b h
theorem varsB_bits (xs : List Int) : Bits (varsB xs) := by
  intro b hb
  obtain ⟨n, _, h⟩ := List.mem_flatMap.1 hb
  exact varB_bits _ b h
theorem intsB_bits (xs : List Int) : Bits (intsB xs) := by
  intro b hb
  obtain ⟨n, _, h⟩ := List.mem_flatMap.1 hb
  exact varB_bits _ b h
theorem askT_bits (c : Cm) : Bits (askT c) := by
  unfold askT
  refine Bits.app (Bits.app (Bits.app (varsB_bits _) (putsB_bits _ _)) ?_) ?_
  · split
    · exact varsB_bits _
    · exact Bits.nil
  · split
    · exact intsB_bits _
    · exact Bits.nil
set_option maxRecDepth 100000 in
set_option maxHeartbeats 4000000 in
theorem refAsk_0 (tk nm sn bd x y z : Int) (w : World) : Calls Tryd.prog 7 #[.agg #[.int .i64 tk, .int .i64 nm, .int .i64 sn, .int .i64 0, .int .i64 bd, .int .i64 x, .int .i64 y, .int .i64 z]] w (RAskPost ⟨tk, nm, sn, 0, bd, x, y, z⟩ w) := by
  obtain ⟨i0, hi0, hz0, hz1, hz2⟩ := info_parts intInfo
  have HOK : Hid (askOk ⟨tk, nm, sn, 0, bd, x, y, z⟩ = (inM 0 70368744177664 [tk, nm, sn, 0] = true ∧ inM (-6553600) 6553600 [0, 0, 0] = true)) := rfl
  go_enter Tryd.func7, Tryd.ntmps7
  go_upto_region 1 with fail
  have H0 : Hid (CmAt 30 (w.alloc (.cells #[.int .i64 tk, .int .i64 nm, .int .i64 sn, .int .i64 0, .int .i64 bd, .int .i64 x, .int .i64 y, .int .i64 z] 30)) w.heap.size ⟨tk, nm, sn, 0, bd, x, y, z⟩ ∧ Only [] w (w.alloc (.cells #[.int .i64 tk, .int .i64 nm, .int .i64 sn, .int .i64 0, .int .i64 bd, .int .i64 x, .int .i64 y, .int .i64 z] 30))) := ⟨(MapKept.heap_alloc w _).1, (Only.refl _ _).alloc _⟩
  revert H0
  generalize hk : w.heap.size = k
  have HK : Hid (w.heap.size = k) := hk
  clear hk
  generalize World.alloc w _ = w1
  intro H0
  obtain ⟨c0, c1, c2, c3, c4, c5, c6, c7⟩ := H0.out.1.cells
  simp only at c0 c1 c2 c3 c4 c5 c6 c7
  go_upto_region 4 with fail
  have H1 : Hid (CmAt 30 (w1.alloc (.cells #[.int .i64 tk, .int .i64 nm, .int .i64 sn] 3)) k ⟨tk, nm, sn, 0, bd, x, y, z⟩ ∧ Only [] w (w1.alloc (.cells #[.int .i64 tk, .int .i64 nm, .int .i64 sn] 3)) ∧ SlInts (w1.alloc (.cells #[.int .i64 tk, .int .i64 nm, .int .i64 sn] 3)) (.slice (some ⟨w1.heap.size, 0, none⟩) 3 3) [tk, nm, sn] ∧ k ≠ w1.heap.size ∧ w1.heap.size < (w1.alloc (.cells #[.int .i64 tk, .int .i64 nm, .int .i64 sn] 3)).heap.size) :=
    ⟨H0.out.1.only (D := []) ((Only.refl _ _).alloc _) (by simp), H0.out.2.alloc _, SlInts.new3 w1 tk nm sn, fun e => (by have := H0.out.1.lt; omega), by simp⟩
  revert H1
  clear c0 c1 c2 c3 c4 c5 c6 c7
  generalize hg : w1.heap.size = g
  have HG : Hid (w.heap.size ≤ g) := by show _ ≤ _; rw [← hg]; exact H0.out.2.size
  clear hg
  generalize World.alloc w1 _ = w2
  intro H1
  clear H0
  obtain ⟨c0, c1, c2, c3, c4, c5, c6, c7⟩ := H1.out.1.cells
  simp only at c0 c1 c2 c3 c4 c5 c6 c7
  go_upto_region 6 with fail
  clear c0 c1 c2 c3 c4 c5 c6 c7
  have H2 : Hid (CmAt 30 w2 k ⟨tk, nm, sn, 0, bd, x, y, z⟩ ∧ Only [] w w2 ∧ NumsAt w2 g [tk, nm, sn] ∧ g < w2.heap.size) := by
    obtain ⟨g', c', e, hn, hc, hl, _⟩ := H1.out.2.2.1.shape (by simp)
    injection e with e _ _
    injection e with e
    injection e with e _ _
    subst e
    exact ⟨H1.out.1, H1.out.2.1, hn, hl⟩
  clear H1 HG
  go_wp2_with fail
  go_loopg [37] 3 (fun k' idx wr => ∃ i : Nat, idx = .int .i64 (i : Int) ∧ Hid (i ≤ 3 ∧ k' = 3 - i ∧ inM 0 70368744177664 ([tk, nm, sn].take i) = true) ∧ wr = w2)
  case atStart => exact ⟨0, rfl, ⟨by omega, rfl, rfl⟩, rfl⟩
  case round =>
    obtain ⟨i, rfl, HI, rfl⟩ := hrel
    by_cases hi : i < 3
    · have hil : (i : Int) < 3 := by omega
      have hix : i < [tk, nm, sn].length := hi
      have c1 := H2.out.2.2.1 i hix
      obtain ⟨zz, hz⟩ : ∃ zz, [tk, nm, sn][i] = zz := ⟨_, rfl⟩
      rw [hz] at c1
      have HZM : Hid (zz ∈ [tk, nm, sn]) := by show _ ∈ _; rw [← hz]; exact List.getElem_mem hix
      have HBAD : Hid (¬ (0 ≤ zz ∧ zz ≤ 70368744177664) → ¬ askOk ⟨tk, nm, sn, 0, bd, x, y, z⟩) := by
        intro q
        rw [HOK.out, inM_mem_false (z := zz) (by have := HZM.out; simp at this ⊢; omega) q]
        simp
      have HZ : Hid ([tk, nm, sn][i] = zz) := hz
      clear hz
      by_cases h1 : zz < 0
      · have d1 : decide (zz < 0) = true := by simpa using h1
        have HNO : Hid (¬ askOk ⟨tk, nm, sn, 0, bd, x, y, z⟩) := HBAD.out (by omega)
        clear h1
        go_wp2_with fail
        go_ret2
        exact ⟨H2.out.2.1, Or.inr (Or.inl ⟨⟨by simp, by simp⟩, HNO.out, rfl⟩)⟩
      · have d1 : decide (zz < 0) = false := by simpa using h1
        by_cases h2 : zz > 70368744177664
        · have d2 : decide (zz > 70368744177664) = true := by simpa using h2
          have HNO : Hid (¬ askOk ⟨tk, nm, sn, 0, bd, x, y, z⟩) := HBAD.out (by omega)
          clear h1 h2
          go_wp2_with fail
          go_ret2
          exact ⟨H2.out.2.1, Or.inr (Or.inl ⟨⟨by simp, by simp⟩, HNO.out, rfl⟩)⟩
        · have d2 : decide (zz > 70368744177664) = false := by simpa using h2
          have HN : Hid (inM 0 70368744177664 ([tk, nm, sn].take (i + 1)) = true) := by
            show _ = _
            rw [List.take_succ_eq_append_getElem hix, inM_snoc, HI.out.2.2, HZ.out]
            simp; omega
          clear h1 h2
          go_wp2_with fail
          go_roundg (3 - (i + 1))
          case measure => have := HI.out.2.1; omega
          case rel => exact ⟨i + 1, by go_num, ⟨by omega, rfl, HN.out⟩, rfl⟩
    have hil : ¬ (i : Int) < 3 := by omega
    have HA : Hid (inM 0 70368744177664 [tk, nm, sn] = true) := by have := HI.out.2.2; rw [List.take_of_length_le (by simp; omega)] at this; exact this
    clear HI
    go_upto_region 13 with fail
    have H3 : Hid (RA w k g wr.heap.size ⟨tk, nm, sn, 0, bd, x, y, z⟩ [tk, nm, sn] ([] ++ varsB ([tk, nm, sn].take 0)) (wr.alloc (.cells #[.slice none 0 0] 63))) :=
      ⟨H2.out.1.only (D := []) ((Only.refl _ _).alloc _) (by simp), H2.out.2.2.1.only (D := []) ((Only.refl _ _).alloc _) (by simp), bits_new H2.out.2.1 H2.out.1.lt H2.out.2.2.2⟩
    clear H2
    revert H3
    generalize wr.heap.size = kb
    generalize World.alloc wr _ = w4
    intro H3
    go_wp2_with fail
    go_loopg [51] 3 (fun k' idx wr => ∃ i : Nat, idx = .int .i64 (i : Int) ∧ Hid (i ≤ 3 ∧ k' = 3 - i) ∧ Hid (RA w k g kb ⟨tk, nm, sn, 0, bd, x, y, z⟩ [tk, nm, sn] ([] ++ varsB ([tk, nm, sn].take i)) wr))
    case atStart => exact ⟨0, rfl, ⟨by omega, rfl⟩, H3⟩
    case round =>
      clear H3
      obtain ⟨j, rfl, HJ, HE⟩ := hrel
      by_cases hj : j < 3
      · have hjl : (j : Int) < 3 := by omega
        have hjx : j < [tk, nm, sn].length := by simp; omega
        have hj3 : j < [tk, nm, sn].length := hj
        have c1 := HE.out.nums j hjx
        obtain ⟨zz, hz⟩ : ∃ zz, [tk, nm, sn][j] = zz := ⟨_, rfl⟩
        have hz2 : [tk, nm, sn][j] = zz := by
          first
            | exact hz
            | (rw [← hz]; rcases (show j = 0 ∨ j = 1 ∨ j = 2 by omega) with e | e | e <;> subst e <;> rfl)
        rw [hz2] at c1
        have hzr := inM_all HA.out zz (by rw [← hz2]; exact List.getElem_mem hjx)
        obtain ⟨zn, rfl⟩ : ∃ zn : Nat, zz = (zn : Int) := ⟨zz.toNat, by omega⟩
        have HS : Hid (varsB ([tk, nm, sn].take (j + 1)) = varsB ([tk, nm, sn].take j) ++ varB zn) := by show _ = _; rw [varsB_snoc hj3, hz]; rfl
        have HLN : Hid (([] ++ varsB ([tk, nm, sn].take j)).length ≤ 234) := by
          show _ ≤ _
          rw [List.nil_append]
          refine Nat.le_trans (varsB_len _ (fun n hn => top_var HA.out n (by have := List.mem_of_mem_take hn; simp at this ⊢; omega))) ?_
          rw [List.length_take]; simp; omega
        have HZN : Hid (zn < 2 ^ 62) := by show _ < _; omega
        clear hz hz2 hzr
        go_wp2_with fail
        refine (varR_calls w kb [k, g] _ zn _ HE.out.rb HZN.out (by have := HLN.out; omega)).mono ?_
        intro e w5 hp
        have H5 : Hid (RA w k g kb ⟨tk, nm, sn, 0, bd, x, y, z⟩ [tk, nm, sn] ([] ++ varsB ([tk, nm, sn].take (j + 1))) w5) := by have := HE.out.put hp; rw [HS.out, ← List.append_assoc]; exact this
        obtain ⟨rfl, _, _⟩ := hp
        clear c1
        go_wp2_with fail
        go_roundg (3 - (j + 1))
        case measure => have := HJ.out.2; omega
        case rel => exact ⟨j + 1, by go_num, ⟨by omega, rfl⟩, H5⟩
      have hjl : ¬ (j : Int) < 3 := by omega
      have H6 : Hid (RA w k g kb ⟨tk, nm, sn, 0, bd, x, y, z⟩ [tk, nm, sn] ([] ++ varsB [tk, nm, sn]) wr) := by have := HE.out; rw [List.take_of_length_le (by simp; omega)] at this; exact this
      clear HE
      have HL1 : Hid (([] ++ varsB [tk, nm, sn]).length ≤ 234) := by
        show _ ≤ _
        rw [List.nil_append]
        exact varsB_len _ (fun n hn => top_var HA.out n (by simp at hn ⊢; omega))
      obtain ⟨c0, c1, c2, c3, c4, c5, c6, c7⟩ := H6.out.cm.cells
      simp only at c0 c1 c2 c3 c4 c5 c6 c7
      go_wp2_with fail
      refine (putR_calls w kb [k, g] _ 0 2 _ H6.out.rb (by omega) (by omega) (by have := HL1.out; omega)).mono ?_
      intro e w7 hp
      have H7 : Hid (RA w k g kb ⟨tk, nm, sn, 0, bd, x, y, z⟩ [tk, nm, sn] ([] ++ varsB [tk, nm, sn] ++ putsB 2 [0]) w7) := H6.out.put hp
      obtain ⟨rfl, _, _⟩ := hp
      clear c0 c1 c2 c3 c4 c5 c6 c7
      have HL2 : Hid (([] ++ varsB [tk, nm, sn] ++ putsB 2 [0]).length ≤ 236) := by
        show _ ≤ _
        have := HL1.out
        rw [List.length_append, show (putsB 2 [0]).length = 2 from rfl]; omega
      have HT : Hid (askT ⟨tk, nm, sn, 0, bd, x, y, z⟩ = [] ++ varsB [tk, nm, sn] ++ putsB 2 [0]) := by show _ = _; simp [askT]
      have HYES : Hid (askOk ⟨tk, nm, sn, 0, bd, x, y, z⟩) := by rw [HOK.out]; exact ⟨by have h5 := HA.out; simp [inM] at h5 ⊢; omega, by decide⟩
      obtain ⟨c0, c1, c2, c3, c4, c5, c6, c7⟩ := H7.out.cm.cells
      simp only at c0 c1 c2 c3 c4 c5 c6 c7
      obtain ⟨vb, q1, q2, q3⟩ := H7.out.rb.ex
      have cb := q1.c0
      have HQ : Hid (SlB w7 vb ([] ++ varsB [tk, nm, sn] ++ putsB 2 [0]) ∧ Only [] w w7) := ⟨q1.sl, H7.out.rb.only⟩
      clear q1 q2 q3
      go_wp2_with fail
      refine (refBytes_calls vb _ _ HQ.out.1 (by rw [← HT.out]; exact askT_bits _) (by have := HL2.out; omega)).mono ?_
      rintro e wz ⟨vz, rfl, hs, oz⟩
      have HZ : Hid (SlB wz vz (bytesOf (askT ⟨tk, nm, sn, 0, bd, x, y, z⟩)) ∧ Only [] w wz) := ⟨by rw [HT.out]; exact hs, HQ.out.2.trans oz⟩
      clear hs oz
      go_wp2_with fail
      go_ret2
      exact ⟨HZ.out.2, Or.inr (Or.inr ⟨⟨by simp, by simp⟩, HYES.out, vz, rfl, HZ.out.1⟩)⟩
set_option maxRecDepth 100000 in
set_option maxHeartbeats 4000000 in
theorem refAsk_1 (tk nm sn bd x y z : Int) (w : World) : Calls Tryd.prog 7 #[.agg #[.int .i64 tk, .int .i64 nm, .int .i64 sn, .int .i64 1, .int .i64 bd, .int .i64 x, .int .i64 y, .int .i64 z]] w (RAskPost ⟨tk, nm, sn, 1, bd, x, y, z⟩ w) := by
  obtain ⟨i0, hi0, hz0, hz1, hz2⟩ := info_parts intInfo
  have HOK : Hid (askOk ⟨tk, nm, sn, 1, bd, x, y, z⟩ = (inM 0 70368744177664 [tk, nm, sn, bd] = true ∧ inM (-6553600) 6553600 [x, y, z] = true)) := rfl
  go_enter Tryd.func7, Tryd.ntmps7
  go_upto_region 1 with fail
  have H0 : Hid (CmAt 30 (w.alloc (.cells #[.int .i64 tk, .int .i64 nm, .int .i64 sn, .int .i64 1, .int .i64 bd, .int .i64 x, .int .i64 y, .int .i64 z] 30)) w.heap.size ⟨tk, nm, sn, 1, bd, x, y, z⟩ ∧ Only [] w (w.alloc (.cells #[.int .i64 tk, .int .i64 nm, .int .i64 sn, .int .i64 1, .int .i64 bd, .int .i64 x, .int .i64 y, .int .i64 z] 30))) := ⟨(MapKept.heap_alloc w _).1, (Only.refl _ _).alloc _⟩
  revert H0
  generalize hk : w.heap.size = k
  have HK : Hid (w.heap.size = k) := hk
  clear hk
  generalize World.alloc w _ = w1
  intro H0
  obtain ⟨c0, c1, c2, c3, c4, c5, c6, c7⟩ := H0.out.1.cells
  simp only at c0 c1 c2 c3 c4 c5 c6 c7
  go_upto_region 4 with fail
  have H1 : Hid (CmAt 30 (w1.alloc (.cells #[.int .i64 tk, .int .i64 nm, .int .i64 sn] 3)) k ⟨tk, nm, sn, 1, bd, x, y, z⟩ ∧ Only [] w (w1.alloc (.cells #[.int .i64 tk, .int .i64 nm, .int .i64 sn] 3)) ∧ SlInts (w1.alloc (.cells #[.int .i64 tk, .int .i64 nm, .int .i64 sn] 3)) (.slice (some ⟨w1.heap.size, 0, none⟩) 3 3) [tk, nm, sn] ∧ k ≠ w1.heap.size ∧ w1.heap.size < (w1.alloc (.cells #[.int .i64 tk, .int .i64 nm, .int .i64 sn] 3)).heap.size) :=
    ⟨H0.out.1.only (D := []) ((Only.refl _ _).alloc _) (by simp), H0.out.2.alloc _, SlInts.new3 w1 tk nm sn, fun e => (by have := H0.out.1.lt; omega), by simp⟩
  revert H1
  clear c0 c1 c2 c3 c4 c5 c6 c7
  generalize hg : w1.heap.size = g
  have HG : Hid (w.heap.size ≤ g) := by show _ ≤ _; rw [← hg]; exact H0.out.2.size
  clear hg
  generalize World.alloc w1 _ = w2
  intro H1
  clear H0
  obtain ⟨c0, c1, c2, c3, c4, c5, c6, c7⟩ := H1.out.1.cells
  simp only at c0 c1 c2 c3 c4 c5 c6 c7
  go_upto_region 6 with (first | (at_builtin; refine wpList_append_own_at _ rfl _ _ 62 rfl 0 3 i0 (.int .i64 0) 1 8 Tryd.underlying62 hi0 hz0 hz1 hz2 rfl (by decide) (.slice (some ⟨g, 0, none⟩) 3 3) 3 ([tk, nm, sn].map (Value.int .i64)) rfl (World.ownsRow.alloc H1.out.2.2.1 _) ⟨w2.heap.size, 0, none⟩ 1 1 [.int .i64 bd] rfl rfl (cell_one_new _ _ _) (by simp [Value.oneCell']) (by unfold maxLen; omega) (by omega) (by simp) ?_; intro v' w3 hown hgrow hnil hloc))
  have H2 : Hid (CmAt 30 w3 k ⟨tk, nm, sn, 1, bd, x, y, z⟩ ∧ Only [] w w3 ∧ ∃ g' c', v' = .slice (some ⟨g', 0, none⟩) 4 c' ∧ NumsAt w3 g' [tk, nm, sn, bd] ∧ 4 ≤ c' ∧ g' < w3.heap.size) := by
    have hs : SlInts w3 v' [tk, nm, sn, bd] := hown
    obtain ⟨g', c', e, hn, hc, hl, _⟩ := hs.shape (by simp)
    have o2 : Only [g] w2 w3 := ((Only.refl _ w2).alloc _).grown hgrow (fun q hq => Or.inl (by simp [Value.ownBlock] at hq; simp [hq]))
    exact ⟨H1.out.1.only o2 (by simpa using H1.out.2.2.2.1), H1.out.2.1.then o2 (fun b hb => by rw [List.mem_singleton.1 hb]; exact Or.inr HG.out), g', c', e, hn, hc, hl⟩
  clear hown hgrow hnil hloc H1 HG c0 c1 c2 c3 c4 c5 c6 c7
  obtain ⟨q1, q2, g', cc, rfl, q3, q4, q5⟩ := H2.out
  clear H2
  have H2 : Hid (CmAt 30 w3 k ⟨tk, nm, sn, 1, bd, x, y, z⟩ ∧ Only [] w w3 ∧ NumsAt w3 g' [tk, nm, sn, bd] ∧ g' < w3.heap.size) := ⟨q1, q2, q3, q5⟩
  have hcc : 3 ≤ cc := by omega
  clear q1 q2 q3 q5 q4
  go_wp2_with fail
  go_loopg [37] 4 (fun k' idx wr => ∃ i : Nat, idx = .int .i64 (i : Int) ∧ Hid (i ≤ 4 ∧ k' = 4 - i ∧ inM 0 70368744177664 ([tk, nm, sn, bd].take i) = true) ∧ wr = w3)
  case atStart => exact ⟨0, rfl, ⟨by omega, rfl, rfl⟩, rfl⟩
  case round =>
    obtain ⟨i, rfl, HI, rfl⟩ := hrel
    by_cases hi : i < 4
    · have hil : (i : Int) < 4 := by omega
      have hix : i < [tk, nm, sn, bd].length := hi
      have c1 := H2.out.2.2.1 i hix
      obtain ⟨zz, hz⟩ : ∃ zz, [tk, nm, sn, bd][i] = zz := ⟨_, rfl⟩
      rw [hz] at c1
      have HZM : Hid (zz ∈ [tk, nm, sn, bd]) := by show _ ∈ _; rw [← hz]; exact List.getElem_mem hix
      have HBAD : Hid (¬ (0 ≤ zz ∧ zz ≤ 70368744177664) → ¬ askOk ⟨tk, nm, sn, 1, bd, x, y, z⟩) := by
        intro q
        rw [HOK.out, inM_mem_false (z := zz) (by have := HZM.out; simp at this ⊢; omega) q]
        simp
      have HZ : Hid ([tk, nm, sn, bd][i] = zz) := hz
      clear hz
      by_cases h1 : zz < 0
      · have d1 : decide (zz < 0) = true := by simpa using h1
        have HNO : Hid (¬ askOk ⟨tk, nm, sn, 1, bd, x, y, z⟩) := HBAD.out (by omega)
        clear h1
        go_wp2_with fail
        go_ret2
        exact ⟨H2.out.2.1, Or.inr (Or.inl ⟨⟨by simp, by simp⟩, HNO.out, rfl⟩)⟩
      · have d1 : decide (zz < 0) = false := by simpa using h1
        by_cases h2 : zz > 70368744177664
        · have d2 : decide (zz > 70368744177664) = true := by simpa using h2
          have HNO : Hid (¬ askOk ⟨tk, nm, sn, 1, bd, x, y, z⟩) := HBAD.out (by omega)
          clear h1 h2
          go_wp2_with fail
          go_ret2
          exact ⟨H2.out.2.1, Or.inr (Or.inl ⟨⟨by simp, by simp⟩, HNO.out, rfl⟩)⟩
        · have d2 : decide (zz > 70368744177664) = false := by simpa using h2
          have HN : Hid (inM 0 70368744177664 ([tk, nm, sn, bd].take (i + 1)) = true) := by
            show _ = _
            rw [List.take_succ_eq_append_getElem hix, inM_snoc, HI.out.2.2, HZ.out]
            simp; omega
          clear h1 h2
          go_wp2_with fail
          go_roundg (4 - (i + 1))
          case measure => have := HI.out.2.1; omega
          case rel => exact ⟨i + 1, by go_num, ⟨by omega, rfl, HN.out⟩, rfl⟩
    have hil : ¬ (i : Int) < 4 := by omega
    have HA : Hid (inM 0 70368744177664 [tk, nm, sn, bd] = true) := by have := HI.out.2.2; rw [List.take_of_length_le (by simp; omega)] at this; exact this
    clear HI
    go_upto_region 13 with fail
    have H3 : Hid (RA w k g' wr.heap.size ⟨tk, nm, sn, 1, bd, x, y, z⟩ [tk, nm, sn, bd] ([] ++ varsB ([tk, nm, sn].take 0)) (wr.alloc (.cells #[.slice none 0 0] 63))) :=
      ⟨H2.out.1.only (D := []) ((Only.refl _ _).alloc _) (by simp), H2.out.2.2.1.only (D := []) ((Only.refl _ _).alloc _) (by simp), bits_new H2.out.2.1 H2.out.1.lt H2.out.2.2.2⟩
    clear H2
    revert H3
    generalize wr.heap.size = kb
    generalize World.alloc wr _ = w4
    intro H3
    go_wp2_with fail
    go_loopg [51] 3 (fun k' idx wr => ∃ i : Nat, idx = .int .i64 (i : Int) ∧ Hid (i ≤ 3 ∧ k' = 3 - i) ∧ Hid (RA w k g' kb ⟨tk, nm, sn, 1, bd, x, y, z⟩ [tk, nm, sn, bd] ([] ++ varsB ([tk, nm, sn].take i)) wr))
    case atStart => exact ⟨0, rfl, ⟨by omega, rfl⟩, H3⟩
    case round =>
      clear H3
      obtain ⟨j, rfl, HJ, HE⟩ := hrel
      by_cases hj : j < 3
      · have hjl : (j : Int) < 3 := by omega
        have hjx : j < [tk, nm, sn, bd].length := by simp; omega
        have hj3 : j < [tk, nm, sn].length := hj
        have c1 := HE.out.nums j hjx
        obtain ⟨zz, hz⟩ : ∃ zz, [tk, nm, sn][j] = zz := ⟨_, rfl⟩
        have hz2 : [tk, nm, sn, bd][j] = zz := by
          first
            | exact hz
            | (rw [← hz]; rcases (show j = 0 ∨ j = 1 ∨ j = 2 by omega) with e | e | e <;> subst e <;> rfl)
        rw [hz2] at c1
        have hzr := inM_all HA.out zz (by rw [← hz2]; exact List.getElem_mem hjx)
        obtain ⟨zn, rfl⟩ : ∃ zn : Nat, zz = (zn : Int) := ⟨zz.toNat, by omega⟩
        have HS : Hid (varsB ([tk, nm, sn].take (j + 1)) = varsB ([tk, nm, sn].take j) ++ varB zn) := by show _ = _; rw [varsB_snoc hj3, hz]; rfl
        have HLN : Hid (([] ++ varsB ([tk, nm, sn].take j)).length ≤ 234) := by
          show _ ≤ _
          rw [List.nil_append]
          refine Nat.le_trans (varsB_len _ (fun n hn => top_var HA.out n (by have := List.mem_of_mem_take hn; simp at this ⊢; omega))) ?_
          rw [List.length_take]; simp; omega
        have HZN : Hid (zn < 2 ^ 62) := by show _ < _; omega
        clear hz hz2 hzr
        go_wp2_with fail
        refine (varR_calls w kb [k, g'] _ zn _ HE.out.rb HZN.out (by have := HLN.out; omega)).mono ?_
        intro e w5 hp
        have H5 : Hid (RA w k g' kb ⟨tk, nm, sn, 1, bd, x, y, z⟩ [tk, nm, sn, bd] ([] ++ varsB ([tk, nm, sn].take (j + 1))) w5) := by have := HE.out.put hp; rw [HS.out, ← List.append_assoc]; exact this
        obtain ⟨rfl, _, _⟩ := hp
        clear c1
        go_wp2_with fail
        go_roundg (3 - (j + 1))
        case measure => have := HJ.out.2; omega
        case rel => exact ⟨j + 1, by go_num, ⟨by omega, rfl⟩, H5⟩
      have hjl : ¬ (j : Int) < 3 := by omega
      have H6 : Hid (RA w k g' kb ⟨tk, nm, sn, 1, bd, x, y, z⟩ [tk, nm, sn, bd] ([] ++ varsB [tk, nm, sn]) wr) := by have := HE.out; rw [List.take_of_length_le (by simp; omega)] at this; exact this
      clear HE
      have HL1 : Hid (([] ++ varsB [tk, nm, sn]).length ≤ 234) := by
        show _ ≤ _
        rw [List.nil_append]
        exact varsB_len _ (fun n hn => top_var HA.out n (by simp at hn ⊢; omega))
      obtain ⟨c0, c1, c2, c3, c4, c5, c6, c7⟩ := H6.out.cm.cells
      simp only at c0 c1 c2 c3 c4 c5 c6 c7
      go_wp2_with fail
      refine (putR_calls w kb [k, g'] _ 1 2 _ H6.out.rb (by omega) (by omega) (by have := HL1.out; omega)).mono ?_
      intro e w7 hp
      have H7 : Hid (RA w k g' kb ⟨tk, nm, sn, 1, bd, x, y, z⟩ [tk, nm, sn, bd] ([] ++ varsB [tk, nm, sn] ++ putsB 2 [1]) w7) := H6.out.put hp
      obtain ⟨rfl, _, _⟩ := hp
      clear c0 c1 c2 c3 c4 c5 c6 c7
      have HL2 : Hid (([] ++ varsB [tk, nm, sn] ++ putsB 2 [1]).length ≤ 236) := by
        show _ ≤ _
        have := HL1.out
        rw [List.length_append, show (putsB 2 [1]).length = 2 from rfl]; omega
      have hbd := inM_all HA.out bd (by simp)
      obtain ⟨bn, hbn⟩ : ∃ bn : Nat, bd = (bn : Int) := ⟨bd.toNat, by omega⟩
      have HBN : Hid (bd = (bn : Int) ∧ bn < 2 ^ 62) := ⟨hbn, by omega⟩
      clear hbd hbn
      have HVB : Hid (∀ l u, RB w kb [k, g'] l u → l.length ≤ 50000 → Calls Tryd.prog 20 #[.pointer (some ⟨kb, 0, none⟩), .int .i64 bd] u (RBPost w kb [k, g'] (l ++ varsB [bd]) u)) := by
        intro l u hu hl
        have := varR_calls w kb [k, g'] l bn u hu HBN.out.2 hl
        rw [show varsB [bd] = varB bn by rw [HBN.out.1]; simp [varsB], HBN.out.1]
        exact this
      obtain ⟨c0, c1, c2, c3, c4, c5, c6, c7⟩ := H7.out.cm.cells
      simp only at c0 c1 c2 c3 c4 c5 c6 c7
      go_wp2_with fail
      refine (HVB.out _ _ H7.out.rb (by have := HL2.out; omega)).mono ?_
      intro e w8 hp
      have H8 : Hid (RA w k g' kb ⟨tk, nm, sn, 1, bd, x, y, z⟩ [tk, nm, sn, bd] ([] ++ varsB [tk, nm, sn] ++ putsB 2 [1] ++ varsB [bd]) w8) := H7.out.put hp
      obtain ⟨rfl, _, _⟩ := hp
      clear c0 c1 c2 c3 c4 c5 c6 c7
      have HL3 : Hid (([] ++ varsB [tk, nm, sn] ++ putsB 2 [1] ++ varsB [bd]).length ≤ 314) := by
        show _ ≤ _
        have := HL2.out
        have h2 : (varsB [bd]).length ≤ 78 := varsB_len [bd] (fun n hn => top_var HA.out n (by rw [List.mem_singleton.1 hn]; simp))
        rw [List.length_append]; omega
      obtain ⟨c0, c1, c2, c3, c4, c5, c6, c7⟩ := H8.out.cm.cells
      simp only at c0 c1 c2 c3 c4 c5 c6 c7
      go_wp2_with fail
      refine (parts_calls x y z _).mono ?_
      rintro e w9 ⟨gp, rfl, hp0, hp1, hp2, op⟩
      have H9 : Hid (NumsAt w9 gp [x, y, z] ∧ RB w kb [gp, k, g'] ([] ++ varsB [tk, nm, sn] ++ putsB 2 [1] ++ varsB [bd] ++ intsB ([x, y, z].take 0)) w9) := ⟨hp2, by show RB w kb [gp, k, g'] ([] ++ varsB [tk, nm, sn] ++ putsB 2 [1] ++ varsB [bd] ++ []) w9; rw [List.append_nil]; exact H8.out.rb.add op hp0 hp1⟩
      clear hp0 hp1 hp2 op c0 c1 c2 c3 c4 c5 c6 c7
      go_wp2_with fail
      go_loopg [74] 3 (fun k' idx wr => ∃ i : Nat, idx = .int .i64 (i : Int) ∧ Hid (i ≤ 3 ∧ k' = 3 - i ∧ inM (-6553600) 6553600 ([x, y, z].take i) = true) ∧ Hid (NumsAt wr gp [x, y, z] ∧ RB w kb [gp, k, g'] ([] ++ varsB [tk, nm, sn] ++ putsB 2 [1] ++ varsB [bd] ++ intsB ([x, y, z].take i)) wr))
      case atStart => exact ⟨0, rfl, ⟨by omega, rfl, rfl⟩, H9⟩
      case round =>
        clear H9
        obtain ⟨t, rfl, HJ2, HE⟩ := hrel
        by_cases ht : t < 3
        · have htl : (t : Int) < 3 := by omega
          have ht3 : t < [x, y, z].length := ht
          have c1 := HE.out.1 t ht3
          obtain ⟨zz, hz⟩ : ∃ zz, [x, y, z][t] = zz := ⟨_, rfl⟩
          rw [hz] at c1
          have HBAD : Hid (¬ (-6553600 ≤ zz ∧ zz ≤ 6553600) → ¬ askOk ⟨tk, nm, sn, 1, bd, x, y, z⟩) := by
            intro q
            rw [HOK.out, inM_mem_false (lo := -6553600) (hi := 6553600) (z := zz) (by rw [← hz]; exact List.getElem_mem ht3) q]
            simp
          have HS : Hid (intsB ([x, y, z].take (t + 1)) = intsB ([x, y, z].take t) ++ varB (codeM zz)) := by show _ = _; rw [intsB_snoc ht3, hz]
          have HIN : Hid ((-6553600 ≤ zz ∧ zz ≤ 6553600) → inM (-6553600) 6553600 ([x, y, z].take (t + 1)) = true) := by
            intro q
            rw [List.take_succ_eq_append_getElem ht3, inM_snoc, HJ2.out.2.2, hz]
            simpa using q
          clear hz
          by_cases h1 : zz > 6553600
          · have d1 : decide (zz > 6553600) = true := by simpa using h1
            have HNO : Hid (¬ askOk ⟨tk, nm, sn, 1, bd, x, y, z⟩) := HBAD.out (by omega)
            clear h1
            go_wp2_with fail
            go_ret2
            exact ⟨HE.out.2.only, Or.inr (Or.inl ⟨⟨by simp, by simp⟩, HNO.out, rfl⟩)⟩
          · have d1 : decide (zz > 6553600) = false := by simpa using h1
            by_cases h2 : zz < -6553600
            · have d2 : decide (zz < -6553600) = true := by simpa using h2
              have HNO : Hid (¬ askOk ⟨tk, nm, sn, 1, bd, x, y, z⟩) := HBAD.out (by omega)
              clear h1 h2
              go_wp2_with fail
              go_ret2
              exact ⟨HE.out.2.only, Or.inr (Or.inl ⟨⟨by simp, by simp⟩, HNO.out, rfl⟩)⟩
            · have d2 : decide (zz < -6553600) = false := by simpa using h2
              have HN : Hid (inM (-6553600) 6553600 ([x, y, z].take (t + 1)) = true) := HIN.out (by omega)
              have HNB : Hid (¬ badInt zz) := by show ¬ badInt zz; unfold badInt; omega
              have HLI : Hid (([] ++ varsB [tk, nm, sn] ++ putsB 2 [1] ++ varsB [bd] ++ intsB ([x, y, z].take t)).length ≤ 548) := by
                show _ ≤ _
                have h5 : (intsB ([x, y, z].take t)).length ≤ 78 * ([x, y, z].take t).length := intsB_len _ (fun n hn => by have := inM_all HJ2.out.2.2 n hn; unfold badInt; omega)
                have h6 : ([x, y, z].take t).length ≤ 3 := by rw [List.length_take]; simp; omega
                have := HL3.out
                rw [List.length_append]; omega
              clear h1 h2
              go_wp2_with fail
              refine (intR_calls w kb [gp, k, g'] _ zz _ HE.out.2 HNB.out (by have := HLI.out; omega)).mono ?_
              rintro e wa ⟨rfl, hp1, hp2⟩
              have HA1 : Hid (NumsAt wa gp [x, y, z] ∧ RB w kb [gp, k, g'] ([] ++ varsB [tk, nm, sn] ++ putsB 2 [1] ++ varsB [bd] ++ intsB ([x, y, z].take (t + 1))) wa) := ⟨HE.out.1.block (hp2 gp (by simp)), by rw [HS.out, ← List.append_assoc]; exact hp1⟩
              clear hp1 hp2 c1
              go_wp2_with fail
              go_roundg (3 - (t + 1))
              case measure => have := HJ2.out.2.1; omega
              case rel => exact ⟨t + 1, by go_num, ⟨by omega, rfl, HN.out⟩, HA1⟩
        have htl : ¬ (t : Int) < 3 := by omega
        have HWY : Hid (inM (-6553600) 6553600 [x, y, z] = true) := by have := HJ2.out.2.2; rw [List.take_of_length_le (by simp; omega)] at this; exact this
        have H10 : Hid (RB w kb [gp, k, g'] ([] ++ varsB [tk, nm, sn] ++ putsB 2 [1] ++ varsB [bd] ++ intsB [x, y, z]) wr) := by have := HE.out.2; rw [List.take_of_length_le (by simp; omega)] at this; exact this
        clear HE HJ2
        have HT : Hid (askT ⟨tk, nm, sn, 1, bd, x, y, z⟩ = [] ++ varsB [tk, nm, sn] ++ putsB 2 [1] ++ varsB [bd] ++ intsB [x, y, z]) := by show _ = _; simp [askT]
        have HYES : Hid (askOk ⟨tk, nm, sn, 1, bd, x, y, z⟩) := by rw [HOK.out]; exact ⟨HA.out, HWY.out⟩
        have HL4 : Hid (([] ++ varsB [tk, nm, sn] ++ putsB 2 [1] ++ varsB [bd] ++ intsB [x, y, z]).length ≤ 548) := by
          show _ ≤ _
          have h5 : (intsB [x, y, z]).length ≤ 78 * 3 := intsB_len [x, y, z] (fun n hn => by have := inM_all HWY.out n hn; unfold badInt; omega)
          have := HL3.out
          rw [List.length_append]; omega
        obtain ⟨vb, q1, q2, q3⟩ := H10.out.ex
        have cb := q1.c0
        have HQ : Hid (SlB wr vb ([] ++ varsB [tk, nm, sn] ++ putsB 2 [1] ++ varsB [bd] ++ intsB [x, y, z]) ∧ Only [] w wr) := ⟨q1.sl, H10.out.only⟩
        clear q1 q2 q3
        go_wp2_with fail
        refine (refBytes_calls vb _ _ HQ.out.1 (by rw [← HT.out]; exact askT_bits _) (by have := HL4.out; omega)).mono ?_
        rintro e wz ⟨vz, rfl, hs, oz⟩
        have HZ : Hid (SlB wz vz (bytesOf (askT ⟨tk, nm, sn, 1, bd, x, y, z⟩)) ∧ Only [] w wz) := ⟨by rw [HT.out]; exact hs, HQ.out.2.trans oz⟩
        clear hs oz
        go_wp2_with fail
        go_ret2
        exact ⟨HZ.out.2, Or.inr (Or.inr ⟨⟨by simp, by simp⟩, HYES.out, vz, rfl, HZ.out.1⟩)⟩
set_option maxRecDepth 100000 in
set_option maxHeartbeats 4000000 in
theorem refAsk_2 (tk nm sn bd x y z : Int) (w : World) : Calls Tryd.prog 7 #[.agg #[.int .i64 tk, .int .i64 nm, .int .i64 sn, .int .i64 2, .int .i64 bd, .int .i64 x, .int .i64 y, .int .i64 z]] w (RAskPost ⟨tk, nm, sn, 2, bd, x, y, z⟩ w) := by
  obtain ⟨i0, hi0, hz0, hz1, hz2⟩ := info_parts intInfo
  have HOK : Hid (askOk ⟨tk, nm, sn, 2, bd, x, y, z⟩ = (inM 0 70368744177664 [tk, nm, sn, bd] = true ∧ inM (-6553600) 6553600 [0, 0, 0] = true)) := rfl
  go_enter Tryd.func7, Tryd.ntmps7
  go_upto_region 1 with fail
  have H0 : Hid (CmAt 30 (w.alloc (.cells #[.int .i64 tk, .int .i64 nm, .int .i64 sn, .int .i64 2, .int .i64 bd, .int .i64 x, .int .i64 y, .int .i64 z] 30)) w.heap.size ⟨tk, nm, sn, 2, bd, x, y, z⟩ ∧ Only [] w (w.alloc (.cells #[.int .i64 tk, .int .i64 nm, .int .i64 sn, .int .i64 2, .int .i64 bd, .int .i64 x, .int .i64 y, .int .i64 z] 30))) := ⟨(MapKept.heap_alloc w _).1, (Only.refl _ _).alloc _⟩
  revert H0
  generalize hk : w.heap.size = k
  have HK : Hid (w.heap.size = k) := hk
  clear hk
  generalize World.alloc w _ = w1
  intro H0
  obtain ⟨c0, c1, c2, c3, c4, c5, c6, c7⟩ := H0.out.1.cells
  simp only at c0 c1 c2 c3 c4 c5 c6 c7
  go_upto_region 4 with fail
  have H1 : Hid (CmAt 30 (w1.alloc (.cells #[.int .i64 tk, .int .i64 nm, .int .i64 sn] 3)) k ⟨tk, nm, sn, 2, bd, x, y, z⟩ ∧ Only [] w (w1.alloc (.cells #[.int .i64 tk, .int .i64 nm, .int .i64 sn] 3)) ∧ SlInts (w1.alloc (.cells #[.int .i64 tk, .int .i64 nm, .int .i64 sn] 3)) (.slice (some ⟨w1.heap.size, 0, none⟩) 3 3) [tk, nm, sn] ∧ k ≠ w1.heap.size ∧ w1.heap.size < (w1.alloc (.cells #[.int .i64 tk, .int .i64 nm, .int .i64 sn] 3)).heap.size) :=
    ⟨H0.out.1.only (D := []) ((Only.refl _ _).alloc _) (by simp), H0.out.2.alloc _, SlInts.new3 w1 tk nm sn, fun e => (by have := H0.out.1.lt; omega), by simp⟩
  revert H1
  clear c0 c1 c2 c3 c4 c5 c6 c7
  generalize hg : w1.heap.size = g
  have HG : Hid (w.heap.size ≤ g) := by show _ ≤ _; rw [← hg]; exact H0.out.2.size
  clear hg
  generalize World.alloc w1 _ = w2
  intro H1
  clear H0
  obtain ⟨c0, c1, c2, c3, c4, c5, c6, c7⟩ := H1.out.1.cells
  simp only at c0 c1 c2 c3 c4 c5 c6 c7
  go_upto_region 6 with (first | (at_builtin; refine wpList_append_own_at _ rfl _ _ 62 rfl 0 3 i0 (.int .i64 0) 1 8 Tryd.underlying62 hi0 hz0 hz1 hz2 rfl (by decide) (.slice (some ⟨g, 0, none⟩) 3 3) 3 ([tk, nm, sn].map (Value.int .i64)) rfl (World.ownsRow.alloc H1.out.2.2.1 _) ⟨w2.heap.size, 0, none⟩ 1 1 [.int .i64 bd] rfl rfl (cell_one_new _ _ _) (by simp [Value.oneCell']) (by unfold maxLen; omega) (by omega) (by simp) ?_; intro v' w3 hown hgrow hnil hloc))
  have H2 : Hid (CmAt 30 w3 k ⟨tk, nm, sn, 2, bd, x, y, z⟩ ∧ Only [] w w3 ∧ ∃ g' c', v' = .slice (some ⟨g', 0, none⟩) 4 c' ∧ NumsAt w3 g' [tk, nm, sn, bd] ∧ 4 ≤ c' ∧ g' < w3.heap.size) := by
    have hs : SlInts w3 v' [tk, nm, sn, bd] := hown
    obtain ⟨g', c', e, hn, hc, hl, _⟩ := hs.shape (by simp)
    have o2 : Only [g] w2 w3 := ((Only.refl _ w2).alloc _).grown hgrow (fun q hq => Or.inl (by simp [Value.ownBlock] at hq; simp [hq]))
    exact ⟨H1.out.1.only o2 (by simpa using H1.out.2.2.2.1), H1.out.2.1.then o2 (fun b hb => by rw [List.mem_singleton.1 hb]; exact Or.inr HG.out), g', c', e, hn, hc, hl⟩
  clear hown hgrow hnil hloc H1 HG c0 c1 c2 c3 c4 c5 c6 c7
  obtain ⟨q1, q2, g', cc, rfl, q3, q4, q5⟩ := H2.out
  clear H2
  have H2 : Hid (CmAt 30 w3 k ⟨tk, nm, sn, 2, bd, x, y, z⟩ ∧ Only [] w w3 ∧ NumsAt w3 g' [tk, nm, sn, bd] ∧ g' < w3.heap.size) := ⟨q1, q2, q3, q5⟩
  have hcc : 3 ≤ cc := by omega
  clear q1 q2 q3 q5 q4
  go_wp2_with fail
  go_loopg [37] 4 (fun k' idx wr => ∃ i : Nat, idx = .int .i64 (i : Int) ∧ Hid (i ≤ 4 ∧ k' = 4 - i ∧ inM 0 70368744177664 ([tk, nm, sn, bd].take i) = true) ∧ wr = w3)
  case atStart => exact ⟨0, rfl, ⟨by omega, rfl, rfl⟩, rfl⟩
  case round =>
    obtain ⟨i, rfl, HI, rfl⟩ := hrel
    by_cases hi : i < 4
    · have hil : (i : Int) < 4 := by omega
      have hix : i < [tk, nm, sn, bd].length := hi
      have c1 := H2.out.2.2.1 i hix
      obtain ⟨zz, hz⟩ : ∃ zz, [tk, nm, sn, bd][i] = zz := ⟨_, rfl⟩
      rw [hz] at c1
      have HZM : Hid (zz ∈ [tk, nm, sn, bd]) := by show _ ∈ _; rw [← hz]; exact List.getElem_mem hix
      have HBAD : Hid (¬ (0 ≤ zz ∧ zz ≤ 70368744177664) → ¬ askOk ⟨tk, nm, sn, 2, bd, x, y, z⟩) := by
        intro q
        rw [HOK.out, inM_mem_false (z := zz) (by have := HZM.out; simp at this ⊢; omega) q]
        simp
      have HZ : Hid ([tk, nm, sn, bd][i] = zz) := hz
      clear hz
      by_cases h1 : zz < 0
      · have d1 : decide (zz < 0) = true := by simpa using h1
        have HNO : Hid (¬ askOk ⟨tk, nm, sn, 2, bd, x, y, z⟩) := HBAD.out (by omega)
        clear h1
        go_wp2_with fail
        go_ret2
        exact ⟨H2.out.2.1, Or.inr (Or.inl ⟨⟨by simp, by simp⟩, HNO.out, rfl⟩)⟩
      · have d1 : decide (zz < 0) = false := by simpa using h1
        by_cases h2 : zz > 70368744177664
        · have d2 : decide (zz > 70368744177664) = true := by simpa using h2
          have HNO : Hid (¬ askOk ⟨tk, nm, sn, 2, bd, x, y, z⟩) := HBAD.out (by omega)
          clear h1 h2
          go_wp2_with fail
          go_ret2
          exact ⟨H2.out.2.1, Or.inr (Or.inl ⟨⟨by simp, by simp⟩, HNO.out, rfl⟩)⟩
        · have d2 : decide (zz > 70368744177664) = false := by simpa using h2
          have HN : Hid (inM 0 70368744177664 ([tk, nm, sn, bd].take (i + 1)) = true) := by
            show _ = _
            rw [List.take_succ_eq_append_getElem hix, inM_snoc, HI.out.2.2, HZ.out]
            simp; omega
          clear h1 h2
          go_wp2_with fail
          go_roundg (4 - (i + 1))
          case measure => have := HI.out.2.1; omega
          case rel => exact ⟨i + 1, by go_num, ⟨by omega, rfl, HN.out⟩, rfl⟩
    have hil : ¬ (i : Int) < 4 := by omega
    have HA : Hid (inM 0 70368744177664 [tk, nm, sn, bd] = true) := by have := HI.out.2.2; rw [List.take_of_length_le (by simp; omega)] at this; exact this
    clear HI
    go_upto_region 13 with fail
    have H3 : Hid (RA w k g' wr.heap.size ⟨tk, nm, sn, 2, bd, x, y, z⟩ [tk, nm, sn, bd] ([] ++ varsB ([tk, nm, sn].take 0)) (wr.alloc (.cells #[.slice none 0 0] 63))) :=
      ⟨H2.out.1.only (D := []) ((Only.refl _ _).alloc _) (by simp), H2.out.2.2.1.only (D := []) ((Only.refl _ _).alloc _) (by simp), bits_new H2.out.2.1 H2.out.1.lt H2.out.2.2.2⟩
    clear H2
    revert H3
    generalize wr.heap.size = kb
    generalize World.alloc wr _ = w4
    intro H3
    go_wp2_with fail
    go_loopg [51] 3 (fun k' idx wr => ∃ i : Nat, idx = .int .i64 (i : Int) ∧ Hid (i ≤ 3 ∧ k' = 3 - i) ∧ Hid (RA w k g' kb ⟨tk, nm, sn, 2, bd, x, y, z⟩ [tk, nm, sn, bd] ([] ++ varsB ([tk, nm, sn].take i)) wr))
    case atStart => exact ⟨0, rfl, ⟨by omega, rfl⟩, H3⟩
    case round =>
      clear H3
      obtain ⟨j, rfl, HJ, HE⟩ := hrel
      by_cases hj : j < 3
      · have hjl : (j : Int) < 3 := by omega
        have hjx : j < [tk, nm, sn, bd].length := by simp; omega
        have hj3 : j < [tk, nm, sn].length := hj
        have c1 := HE.out.nums j hjx
        obtain ⟨zz, hz⟩ : ∃ zz, [tk, nm, sn][j] = zz := ⟨_, rfl⟩
        have hz2 : [tk, nm, sn, bd][j] = zz := by
          first
            | exact hz
            | (rw [← hz]; rcases (show j = 0 ∨ j = 1 ∨ j = 2 by omega) with e | e | e <;> subst e <;> rfl)
        rw [hz2] at c1
        have hzr := inM_all HA.out zz (by rw [← hz2]; exact List.getElem_mem hjx)
        obtain ⟨zn, rfl⟩ : ∃ zn : Nat, zz = (zn : Int) := ⟨zz.toNat, by omega⟩
        have HS : Hid (varsB ([tk, nm, sn].take (j + 1)) = varsB ([tk, nm, sn].take j) ++ varB zn) := by show _ = _; rw [varsB_snoc hj3, hz]; rfl
        have HLN : Hid (([] ++ varsB ([tk, nm, sn].take j)).length ≤ 234) := by
          show _ ≤ _
          rw [List.nil_append]
          refine Nat.le_trans (varsB_len _ (fun n hn => top_var HA.out n (by have := List.mem_of_mem_take hn; simp at this ⊢; omega))) ?_
          rw [List.length_take]; simp; omega
        have HZN : Hid (zn < 2 ^ 62) := by show _ < _; omega
        clear hz hz2 hzr
        go_wp2_with fail
        refine (varR_calls w kb [k, g'] _ zn _ HE.out.rb HZN.out (by have := HLN.out; omega)).mono ?_
        intro e w5 hp
        have H5 : Hid (RA w k g' kb ⟨tk, nm, sn, 2, bd, x, y, z⟩ [tk, nm, sn, bd] ([] ++ varsB ([tk, nm, sn].take (j + 1))) w5) := by have := HE.out.put hp; rw [HS.out, ← List.append_assoc]; exact this
        obtain ⟨rfl, _, _⟩ := hp
        clear c1
        go_wp2_with fail
        go_roundg (3 - (j + 1))
        case measure => have := HJ.out.2; omega
        case rel => exact ⟨j + 1, by go_num, ⟨by omega, rfl⟩, H5⟩
      have hjl : ¬ (j : Int) < 3 := by omega
      have H6 : Hid (RA w k g' kb ⟨tk, nm, sn, 2, bd, x, y, z⟩ [tk, nm, sn, bd] ([] ++ varsB [tk, nm, sn]) wr) := by have := HE.out; rw [List.take_of_length_le (by simp; omega)] at this; exact this
      clear HE
      have HL1 : Hid (([] ++ varsB [tk, nm, sn]).length ≤ 234) := by
        show _ ≤ _
        rw [List.nil_append]
        exact varsB_len _ (fun n hn => top_var HA.out n (by simp at hn ⊢; omega))
      obtain ⟨c0, c1, c2, c3, c4, c5, c6, c7⟩ := H6.out.cm.cells
      simp only at c0 c1 c2 c3 c4 c5 c6 c7
      go_wp2_with fail
      refine (putR_calls w kb [k, g'] _ 2 2 _ H6.out.rb (by omega) (by omega) (by have := HL1.out; omega)).mono ?_
      intro e w7 hp
      have H7 : Hid (RA w k g' kb ⟨tk, nm, sn, 2, bd, x, y, z⟩ [tk, nm, sn, bd] ([] ++ varsB [tk, nm, sn] ++ putsB 2 [2]) w7) := H6.out.put hp
      obtain ⟨rfl, _, _⟩ := hp
      clear c0 c1 c2 c3 c4 c5 c6 c7
      have HL2 : Hid (([] ++ varsB [tk, nm, sn] ++ putsB 2 [2]).length ≤ 236) := by
        show _ ≤ _
        have := HL1.out
        rw [List.length_append, show (putsB 2 [2]).length = 2 from rfl]; omega
      have hbd := inM_all HA.out bd (by simp)
      obtain ⟨bn, hbn⟩ : ∃ bn : Nat, bd = (bn : Int) := ⟨bd.toNat, by omega⟩
      have HBN : Hid (bd = (bn : Int) ∧ bn < 2 ^ 62) := ⟨hbn, by omega⟩
      clear hbd hbn
      have HVB : Hid (∀ l u, RB w kb [k, g'] l u → l.length ≤ 50000 → Calls Tryd.prog 20 #[.pointer (some ⟨kb, 0, none⟩), .int .i64 bd] u (RBPost w kb [k, g'] (l ++ varsB [bd]) u)) := by
        intro l u hu hl
        have := varR_calls w kb [k, g'] l bn u hu HBN.out.2 hl
        rw [show varsB [bd] = varB bn by rw [HBN.out.1]; simp [varsB], HBN.out.1]
        exact this
      obtain ⟨c0, c1, c2, c3, c4, c5, c6, c7⟩ := H7.out.cm.cells
      simp only at c0 c1 c2 c3 c4 c5 c6 c7
      go_wp2_with fail
      refine (HVB.out _ _ H7.out.rb (by have := HL2.out; omega)).mono ?_
      intro e w8 hp
      have H8 : Hid (RA w k g' kb ⟨tk, nm, sn, 2, bd, x, y, z⟩ [tk, nm, sn, bd] ([] ++ varsB [tk, nm, sn] ++ putsB 2 [2] ++ varsB [bd]) w8) := H7.out.put hp
      obtain ⟨rfl, _, _⟩ := hp
      clear c0 c1 c2 c3 c4 c5 c6 c7
      have HL3 : Hid (([] ++ varsB [tk, nm, sn] ++ putsB 2 [2] ++ varsB [bd]).length ≤ 314) := by
        show _ ≤ _
        have := HL2.out
        have h2 : (varsB [bd]).length ≤ 78 := varsB_len [bd] (fun n hn => top_var HA.out n (by rw [List.mem_singleton.1 hn]; simp))
        rw [List.length_append]; omega
      have HT : Hid (askT ⟨tk, nm, sn, 2, bd, x, y, z⟩ = [] ++ varsB [tk, nm, sn] ++ putsB 2 [2] ++ varsB [bd]) := by show _ = _; simp [askT]
      have HYES : Hid (askOk ⟨tk, nm, sn, 2, bd, x, y, z⟩) := by rw [HOK.out]; exact ⟨HA.out, by decide⟩
      obtain ⟨c0, c1, c2, c3, c4, c5, c6, c7⟩ := H8.out.cm.cells
      simp only at c0 c1 c2 c3 c4 c5 c6 c7
      obtain ⟨vb, q1, q2, q3⟩ := H8.out.rb.ex
      have cb := q1.c0
      have HQ : Hid (SlB w8 vb ([] ++ varsB [tk, nm, sn] ++ putsB 2 [2] ++ varsB [bd]) ∧ Only [] w w8) := ⟨q1.sl, H8.out.rb.only⟩
      clear q1 q2 q3
      go_wp2_with fail
      refine (refBytes_calls vb _ _ HQ.out.1 (by rw [← HT.out]; exact askT_bits _) (by have := HL3.out; omega)).mono ?_
      rintro e wz ⟨vz, rfl, hs, oz⟩
      have HZ : Hid (SlB wz vz (bytesOf (askT ⟨tk, nm, sn, 2, bd, x, y, z⟩)) ∧ Only [] w wz) := ⟨by rw [HT.out]; exact hs, HQ.out.2.trans oz⟩
      clear hs oz
      go_wp2_with fail
      go_ret2
      exact ⟨HZ.out.2, Or.inr (Or.inr ⟨⟨by simp, by simp⟩, HYES.out, vz, rfl, HZ.out.1⟩)⟩
theorem refAsk_calls (c : Cm) (w : World) : Calls Tryd.prog 7 #[.agg #[.int .i64 (c.tk), .int .i64 (c.nm), .int .i64 (c.sn), .int .i64 (c.kd), .int .i64 (c.bd), .int .i64 (c.x), .int .i64 (c.y), .int .i64 (c.z)]] w (RAskPost c w) := by
  by_cases h : 0 ≤ c.kd ∧ c.kd ≤ 2
  · obtain ⟨tk, nm, sn, kd, bd, x, y, z⟩ := c
    simp only at h
    rcases (show kd = 0 ∨ kd = 1 ∨ kd = 2 by omega) with rfl | rfl | rfl
    · exact refAsk_0 tk nm sn bd x y z w
    · exact refAsk_1 tk nm sn bd x y z w
    · exact refAsk_2 tk nm sn bd x y z w
  · exact refAsk_kind c w h
end Go.Proofs.YtbiaajncngldlaaDoor
