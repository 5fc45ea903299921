/- gyreref.Cuts: whichever step, base and bytes. -/
import Derived.Test.YtbiaajncngldlaaDoorWk2
namespace Go.Proofs.YtbiaajncngldlaaDoor
open Go.ChangeShapes Go.WideShapes Go.ChangeAt Go.RowKit
set_option linter.unusedVariables false
set_option linter.unusedSimpArgs false

theorem rpieceSize : (Tryd.prog.info? 41).map (·.size) = some 5 := by kernel_rfl
theorem rpieceInfo : (Tryd.prog.info? 41).map (fun i => (i.zero, i.size, i.bytes)) = some (some (.agg #[.int .i64 0, .int .i64 0, .int .i64 0, .int .i64 0, .slice none 0 0]), 5, 56) := by kernel_rfl
theorem cell_five (w : World) (a b c d f : Value) (t : TypeId) : ∀ j u, [a, b, c, d, f][j]? = some u → (w.alloc (.cells #[a, b, c, d, f] t)).cell? ((⟨w.heap.size, 0, none⟩ : Addr).add j) = some u := by
  intro j u hj
  match j, hj with
  | 0, hj => simp at hj; subst hj; simp [Addr.add]
  | 1, hj => simp at hj; subst hj; simp [Addr.add]
  | 2, hj => simp at hj; subst hj; simp [Addr.add]
  | 3, hj => simp at hj; subst hj; simp [Addr.add]
  | 4, hj => simp at hj; subst hj; simp [Addr.add]
  | j + 5, hj => simp at hj
theorem ownN_shape {w : World} {b s : Nat} {T : TypeId} {v : Value} {n : Nat} {xs : List Value} (h : w.ownsRow b T s v n xs) : ∃ a c, v = .slice a n c := by
  obtain ⟨_, ⟨rfl, rfl⟩ | ⟨g, cap, cur, rfl, _⟩⟩ := h
  · exact ⟨_, _, rfl⟩
  · exact ⟨_, _, rfl⟩
theorem ownN_block {w : World} {b s : Nat} {T : TypeId} {v : Value} {n : Nat} {xs : List Value} (h : w.ownsRow b T s v n xs) {k : Nat} (hk : v.ownBlock = some k) : b ≤ k := by
  obtain ⟨_, ⟨rfl, rfl⟩ | ⟨g, cap, cur, rfl, hb, _⟩⟩ := h
  · simp [Value.ownBlock] at hk
  · simp [Value.ownBlock] at hk; omega
def RCutPost (st ba : Int) (L : List Nat) (w : World) (e : Ending) (w' : World) : Prop :=
  Only [] w w' ∧ ((followM st ba = false ∧ e = .returned (.tuple #[.slice none 0 0, .int .i64 2])) ∨ (followM st ba = true ∧ 4000 < L.length ∧ e = .returned (.tuple #[.slice none 0 0, .int .i64 4])) ∨
    (followM st ba = true ∧ L.length ≤ 4000 ∧ ∃ gl cl, e = .returned (.tuple #[.slice (some ⟨gl, 0, none⟩) (manyM L) cl, .int .i64 0]) ∧ manyM L ≤ cl ∧ w.heap.size ≤ gl ∧ PcsAt w' gl (manyM L) st ba L (manyM L)))
/-- The rows of the pieces so far. -/
def RowsAt (w : World) (st ba : Int) (L : List Nat) (i : Nat) (xs : List Value) : Prop :=
  ∀ j, j < i → ∃ v, SB w v (chunk L j) ∧ ∀ k u, [.int .i64 st, .int .i64 ba, .int .i64 ((j : Int)), .int .i64 0, v][k]? = some u → xs[j * 5 + k]? = some u
/-- While bytes are cut by the reference. -/
structure CX (w : World) (st ba : Int) (L : List Nat) (i : Nat) (a : Option Addr) (c : Nat) (ao : Option Addr) (co : Nat) (wr : World) : Prop where
  by_ : ByAt w a (L.drop (100 * i))
  nn : a = none → L.drop (100 * i) = [] ∧ c = 0
  lc : (L.drop (100 * i)).length ≤ c
  own : ∃ xs, wr.ownsRow w.heap.size 41 5 (.slice ao i co) i xs ∧ RowsAt w st ba L i xs
  only : Only [] w wr
theorem CX.next {w : World} {st ba : Int} {L : List Nat} {i : Nat} {a : Option Addr} {c : Nat} {ao : Option Addr} {co : Nat} {wr w1 w' : World} {v' : Value} {xs : List Value} (h : CX w st ba L i a c ao co wr) {k : Nat} (hk : k = min 100 (L.drop (100 * i)).length) (h0 : wr.ownsRow w.heap.size 41 5 (.slice ao i co) i xs) (hr : RowsAt w st ba L i xs) (o : Only [] wr w1)
    (hown : w'.ownsRow w.heap.size 41 5 v' (i + 1) (xs ++ [.int .i64 st, .int .i64 ba, .int .i64 ((i : Int)), .int .i64 0, .slice a k c])) (g : w1.grownBy w' (Value.slice ao i co).ownBlock) :
    ∃ ao' co', v' = .slice ao' (i + 1) co' ∧ CX w st ba L (i + 1) (fromA a c k) (c - k) ao' co' w' := by
  obtain ⟨ao', co', rfl⟩ := ownN_shape hown
  have e := drop_next L i
  rw [← hk] at e
  have hxl : xs.length = i * 5 := h0.1
  have hcl : (chunk L i).length = k := by unfold chunk; rw [List.length_take, hk]
  have hsb : SB w (.slice a k c) (chunk L i) := by
    refine ⟨a, c, by rw [hcl], by have := h.lc; omega, h.by_.take 100, fun q => ?_⟩
    have := h.nn q
    exact ⟨by unfold chunk; rw [this.1]; rfl, this.2⟩
  refine ⟨ao', co', rfl, by rw [e]; exact h.by_.drop h.lc, fun q => ?_, ?_, ⟨_, hown, fun j hj => ?_⟩, (h.only.trans o).grown g (fun k hk => Or.inr (ownN_block h0 hk))⟩
  · have := h.nn (fromA_none q)
    rw [e, this.1, this.2]
    simp
  · rw [e, List.length_drop]
    have := h.lc
    omega
  · by_cases q : j = i
    · subst q
      refine ⟨_, hsb, fun k' u hu => ?_⟩
      rw [List.getElem?_append_right (by omega), hxl, show j * 5 + k' - j * 5 = k' by omega]
      exact hu
    · obtain ⟨v, hv, hu⟩ := hr j (by omega)
      refine ⟨v, hv, fun k' u hk' => ?_⟩
      have := hu k' u hk'
      rw [List.getElem?_append_left (Array.getElem?_eq_some_iff.1 (by simpa using this) |>.1)]
      exact this
/-- While Many is written. -/
structure MX (w : World) (gl M : Nat) (st ba : Int) (L : List Nat) (i : Nat) (wr : World) : Prop where
  there : wr.there gl 0 (5 * M)
  rows : ∀ j, j < M → ∃ v, wr.rangeAt gl (j * 5) [.int .i64 st, .int .i64 ba, .int .i64 ((j : Int)), .int .i64 (if j < i then (M : Int) else 0), v] ∧ SB w v (chunk L j)
  only : Only [] w wr
  new : w.heap.size ≤ gl
theorem MX.of {w : World} {st ba : Int} {L : List Nat} {M : Nat} {a : Option Addr} {c : Nat} {ao : Option Addr} {co : Nat} {wr : World} (h : CX w st ba L M a c ao co wr) (hM : 1 ≤ M) : ∃ gl, ao = some ⟨gl, 0, none⟩ ∧ M ≤ co ∧ MX w gl M st ba L 0 wr := by
  obtain ⟨xs, ho, hr⟩ := h.own
  have ho' := ho
  obtain ⟨hxl, ⟨hv, h0⟩ | ⟨g, cap, cur, hv, hb, hg, hn, hc, hsz, ht⟩⟩ := ho
  · omega
  · injection hv with h1 h2 h3
    subst h1 h3
    have hcell := fun j u q => World.ownsRow.cells ho' (g := g) rfl j u q
    refine ⟨g, rfl, hn, fun j hj => ?_, fun j hj => ?_, h.only, hb⟩
    · have : j < xs.length := by omega
      have h1 := hcell j _ (List.getElem?_eq_getElem this)
      rw [Addr.add_mid] at h1
      refine ⟨by rw [h1]; rfl, by simp [World.frozen?, hg]⟩
    · obtain ⟨v, hv, hu⟩ := hr j hj
      refine ⟨v, fun k u hk => ?_, hv⟩
      rw [if_neg (by omega)] at hk
      have h1 := hcell _ _ (hu k u hk)
      rw [Addr.add_mid, Nat.zero_add] at h1
      exact h1
theorem MX.next {w : World} {gl M : Nat} {st ba : Int} {L : List Nat} {i : Nat} {wr : World} (h : MX w gl M st ba L i wr) (hi : i < M) : MX w gl M st ba L (i + 1) (wr.setCell ⟨gl, i * 5 + 3, none⟩ (.int .i64 ((M : Int)))) := by
  have hsome : ∀ j, j < 5 * M → (wr.cell? ⟨gl, j, none⟩).isSome = true := fun j hj => by have := (h.there j hj).1; rw [Nat.zero_add] at this; exact this
  refine ⟨fun j hj => ⟨?_, ?_⟩, fun j hj => ?_, h.only.setCell (p := ⟨gl, i * 5 + 3, none⟩) (Or.inr h.new) _, h.new⟩
  · obtain ⟨u, hu⟩ := Option.isSome_iff_exists.1 (h.there j hj).1
    obtain ⟨u', hu'⟩ := cell?_setCell_some (p := ⟨gl, i * 5 + 3, none⟩) (x := .int .i64 ((M : Int))) hu
    rw [hu']; rfl
  · rw [World.frozen?_setCell]; exact (h.there j hj).2
  · obtain ⟨v, hr, hs⟩ := h.rows j hj
    refine ⟨v, fun k u hk => ?_, hs⟩
    by_cases q : j = i
    · subst q
      rw [if_pos (by omega)] at hk
      rw [if_neg (by omega)] at hr
      by_cases e : k = 3
      · subst e
        simp only [List.getElem?_cons_succ, List.getElem?_cons_zero, Option.some.injEq] at hk
        subst hk
        exact World.cell?_setCell_same' _ _ _ (hsome _ (by omega))
      · rw [World.cell?_setCell_other (h := by intro x; injection x with _ x _; omega)]
        refine hr k u ?_
        match k, e, hk with
        | 0, _, hk => exact hk
        | 1, _, hk => exact hk
        | 2, _, hk => exact hk
        | 4, _, hk => exact hk
        | k + 5, _, hk => simp at hk
    · have hkl : k < 5 := by have := (List.getElem?_eq_some_iff.1 hk).1; simpa using this
      rw [World.cell?_setCell_other (h := by intro x; injection x with _ x _; omega)]
      refine hr k u ?_
      have hif : (if j < i then (M : Int) else 0) = if j < i + 1 then (M : Int) else 0 := by
        by_cases q2 : j < i
        · rw [if_pos q2, if_pos (by omega)]
        · rw [if_neg q2, if_neg (by omega)]
      rw [hif]
      exact hk
theorem MX.pcs {w : World} {gl M : Nat} {st ba : Int} {L : List Nat} {wr : World} (h : MX w gl M st ba L M wr) : PcsAt wr gl M st ba L M := by
  refine ⟨h.there, fun j hj => ?_⟩
  obtain ⟨v, hr, a, c, hv, hc, hb, hn⟩ := h.rows j hj
  rw [if_pos hj] at hr
  refine ⟨v, hr, a, c, hv, hc, hb.only h.only (by simp), hn, fun b o e hL => ?_⟩
  have := byAt_lt hb e hL
  have := h.new
  omega
theorem follow_ways (st ba : Int) (h : followM st ba = false) : (st < 1) ∨ (¬ st < 1 ∧ st > 70368744177664) ∨ (¬ st < 1 ∧ ¬ st > 70368744177664 ∧ ba < 0) ∨ (¬ st < 1 ∧ ¬ st > 70368744177664 ∧ ¬ ba < 0 ∧ ba ≥ st) := by
  have : ¬ (1 ≤ st ∧ st ≤ 70368744177664 ∧ 0 ≤ ba ∧ ba < st) := by simpa [followM] using h
  omega
theorem refCuts_bad (st ba : Int) (a : Option Addr) (n c : Nat) (w : World) (h : followM st ba = false) : Calls Tryd.prog 18 #[.int .i64 st, .int .i64 ba, .slice a n c] w fun e w' => e = .returned (.tuple #[.slice none 0 0, .int .i64 2]) ∧ Only [] w w' := by
  rcases follow_ways st ba h with q1 | ⟨q1, q2⟩ | ⟨q1, q2, q3⟩ | ⟨q1, q2, q3, q4⟩
  all_goals
    clear h
    go_enter Tryd.func18, Tryd.ntmps18
    go_wp2_with fail
    go_ret2
    exact ⟨rfl, Only.refl _ _⟩
set_option maxRecDepth 100000 in
set_option maxHeartbeats 2000000 in
theorem refCuts_good (st ba : Int) (a : Option Addr) (c : Nat) (L : List Nat) (w : World) (hl : L.length ≤ 100000) (hb : ByAt w a L) (hn : a = none → L = [] ∧ c = 0) (hc : L.length ≤ c) (h : followM st ba = true) :
    Calls Tryd.prog 18 #[.int .i64 st, .int .i64 ba, .slice a L.length c] w (RCutPost st ba L w) := by
  obtain ⟨i0, hi0, hz0, hz1, hz2⟩ := info_parts rpieceInfo
  have HS : 1 ≤ st ∧ st ≤ 70368744177664 ∧ 0 ≤ ba ∧ ba < st := by simpa [followM] using h
  have f1 : ¬ st < 1 := by omega
  have f2 : ¬ st > 70368744177664 := by omega
  have f3 : ¬ ba < 0 := by omega
  have f4 : ¬ ba ≥ st := by omega
  have HB : Hid (ByAt w a L ∧ (a = none → L = [] ∧ c = 0) ∧ L.length ≤ c ∧ followM st ba = true) := ⟨hb, hn, hc, h⟩
  clear hb hn hc HS h
  obtain ⟨n, hnl⟩ : ∃ n, n = L.length := ⟨_, rfl⟩
  have HN : Hid (n = L.length) := hnl
  rw [← hnl] at hl ⊢
  obtain ⟨M, hM⟩ : ∃ M, M = manyM L := ⟨_, rfl⟩
  have HM : Hid (M = manyM L) := hM
  have HMN : M = max 1 ((n + 99) / 100) := by rw [hM, hnl]; rfl
  have HMN' : Hid (M = max 1 ((n + 99) / 100)) := HMN
  have hM1 : 1 ≤ M := by omega
  have hM2 : M ≤ 1001 := by omega
  clear hnl hM HMN
  go_enter Tryd.func18, Tryd.ntmps18
  go_upto_region 5 with fail
  clear f1 f2 f3 f4
  go_loopg [2, 8, 9] M (fun k' bv ov fv wr => ∃ (i : Nat) (ai : Option Addr) (ci mi : Nat) (ao : Option Addr) (co : Nat) (fb : Bool), bv = .slice ai mi ci ∧ ov = .slice ao i co ∧ fv = .bool fb ∧ Hid (i ≤ M ∧ k' = M - i ∧ mi = n - 100 * i ∧ (fb = true ↔ i = 0)) ∧ Hid (CX w st ba L i ai ci ao co wr))
  case atStart => exact ⟨0, a, c, n, none, 0, true, rfl, rfl, rfl, ⟨by omega, rfl, by omega, by simp⟩, ⟨by rw [Nat.mul_zero, List.drop_zero]; exact HB.out.1, by rw [Nat.mul_zero, List.drop_zero]; exact HB.out.2.1, by rw [Nat.mul_zero, List.drop_zero]; exact HB.out.2.2.1, ⟨[], World.ownsRow_nil _ _ _ _, fun j hj => by omega⟩, Only.refl _ _⟩⟩
  case round =>
    obtain ⟨i, ai, ci, mi, ao, co, fb, rfl, rfl, rfl, HI, HE⟩ := hrel
    have hways : (fb = true ∧ i < M) ∨ (fb = false ∧ 0 < mi ∧ i < M) ∨ (fb = false ∧ mi = 0 ∧ i = M) := by
      have h1 := HI.out
      have h2 := HMN'.out
      cases fb with
      | true => have := h1.2.2.2.1 rfl; exact Or.inl ⟨rfl, by omega⟩
      | false =>
        have h3 : ¬ i = 0 := fun q => by have := h1.2.2.2.2 q; cases this
        by_cases hm : mi = 0
        · exact Or.inr (Or.inr ⟨rfl, hm, by omega⟩)
        · exact Or.inr (Or.inl ⟨rfl, by omega, by omega⟩)
    rcases hways with ⟨rfl, hi⟩ | ⟨rfl, hmi, hi⟩ | ⟨rfl, rfl, rfl⟩
    · obtain ⟨k, hk⟩ : ∃ k, k = min 100 mi := ⟨_, rfl⟩
      have hmL : mi = (L.drop (100 * i)).length := by rw [HI.out.2.2.1, List.length_drop, ← HN.out]
      have hmc : mi ≤ ci := by rw [hmL]; exact HE.out.lc
      have HK : Hid (k = min 100 (L.drop (100 * i)).length) := by show _ = _; rw [hk, hmL]
      have hkm : k ≤ mi := by omega
      have hkc : k ≤ ci := by omega
      have HKV : Hid ((if (mi : Int) < 100 then (mi : Int) else 100) = (k : Int)) := by
        show _ = _
        split <;> omega
      obtain ⟨xs, hown0, hrows⟩ := HE.out.own
      have HR : Hid (RowsAt w st ba L i xs) := hrows
      have hbase : w.heap.size ≤ (wr.alloc (.cells #[.int .i64 st, .int .i64 ba, .int .i64 ((i : Int)), .int .i64 0, .slice ai k ci] 41)).heap.size := (HE.out.only.alloc _).size
      have HG : Hid (∀ v' w', w'.ownsRow w.heap.size 41 5 v' (i + 1) (xs ++ [.int .i64 st, .int .i64 ba, .int .i64 ((i : Int)), .int .i64 0, .slice ai k ci]) → (wr.alloc (.cells #[.int .i64 st, .int .i64 ba, .int .i64 ((i : Int)), .int .i64 0, .slice ai k ci] 41)).grownBy w' (Value.slice ao i co).ownBlock → ∃ ao' co', v' = .slice ao' (i + 1) co' ∧ CX w st ba L (i + 1) (fromA ai ci k) (ci - k) ao' co' w') := fun v' w' h1 h2 => HE.out.next HK.out hown0 HR.out ((Only.refl _ _).alloc _) h1 h2
      clear hk hmL hrows HE
      go_upto_region 8 with fail
      try simp only [HKV.out]
      clear HKV
      go_wp2_with (first | (refine wpList_to rfl (.tmp 41) (.tmp 42) ai mi ci k rfl rfl rfl hkc ?_) | (refine wpList_from rfl (.tmp 47) (.tmp 48) ai mi ci k rfl rfl rfl hkm ?_) | (at_builtin; refine wpList_append_own_at _ rfl _ _ 55 rfl w.heap.size 41 i0 (.agg #[.int .i64 0, .int .i64 0, .int .i64 0, .int .i64 0, .slice none 0 0]) 5 56 Tryd.underlying55 hi0 hz0 hz1 hz2 rfl (by decide) (.slice ao i co) i xs rfl (World.ownsRow.alloc hown0 _) ⟨wr.heap.size, 0, none⟩ 1 1 [.int .i64 st, .int .i64 ba, .int .i64 ((i : Int)), .int .i64 0, .slice ai k ci] rfl rfl (cell_five _ _ _ _ _ _ _) (by simp [Value.oneCell']) (by unfold maxLen; omega) (by omega) hbase ?_; intro v' w6 hown hgrow hnil hloc; obtain ⟨ao9, co9, hv9, hcx⟩ := HG.out v' w6 hown hgrow; have H9 : Hid (CX w st ba L (i + 1) (fromA ai ci k) (ci - k) ao9 co9 w6) := hcx; subst hv9; clear hown hgrow hnil hloc hcx hown0 hbase HG))
      go_roundg (M - (i + 1))
      case measure => have := HI.out.2.1; omega
      case rel => exact ⟨i + 1, fromA ai ci k, ci - k, mi - k, ao9, co9, false, rfl, rfl, rfl, ⟨by omega, rfl, by have := HI.out.2.2.1; have h9 := HK.out; rw [List.length_drop, ← HN.out] at h9; omega, by simp⟩, H9⟩
    · have hmg : (mi : Int) > 0 := by omega
      obtain ⟨k, hk⟩ : ∃ k, k = min 100 mi := ⟨_, rfl⟩
      have hmL : mi = (L.drop (100 * i)).length := by rw [HI.out.2.2.1, List.length_drop, ← HN.out]
      have hmc : mi ≤ ci := by rw [hmL]; exact HE.out.lc
      have HK : Hid (k = min 100 (L.drop (100 * i)).length) := by show _ = _; rw [hk, hmL]
      have hkm : k ≤ mi := by omega
      have hkc : k ≤ ci := by omega
      have HKV : Hid ((if (mi : Int) < 100 then (mi : Int) else 100) = (k : Int)) := by
        show _ = _
        split <;> omega
      obtain ⟨xs, hown0, hrows⟩ := HE.out.own
      have HR : Hid (RowsAt w st ba L i xs) := hrows
      have hbase : w.heap.size ≤ (wr.alloc (.cells #[.int .i64 st, .int .i64 ba, .int .i64 ((i : Int)), .int .i64 0, .slice ai k ci] 41)).heap.size := (HE.out.only.alloc _).size
      have HG : Hid (∀ v' w', w'.ownsRow w.heap.size 41 5 v' (i + 1) (xs ++ [.int .i64 st, .int .i64 ba, .int .i64 ((i : Int)), .int .i64 0, .slice ai k ci]) → (wr.alloc (.cells #[.int .i64 st, .int .i64 ba, .int .i64 ((i : Int)), .int .i64 0, .slice ai k ci] 41)).grownBy w' (Value.slice ao i co).ownBlock → ∃ ao' co', v' = .slice ao' (i + 1) co' ∧ CX w st ba L (i + 1) (fromA ai ci k) (ci - k) ao' co' w') := fun v' w' h1 h2 => HE.out.next HK.out hown0 HR.out ((Only.refl _ _).alloc _) h1 h2
      clear hk hmL hrows HE
      go_upto_region 8 with fail
      try simp only [HKV.out]
      clear HKV
      go_wp2_with (first | (refine wpList_to rfl (.tmp 41) (.tmp 42) ai mi ci k rfl rfl rfl hkc ?_) | (refine wpList_from rfl (.tmp 47) (.tmp 48) ai mi ci k rfl rfl rfl hkm ?_) | (at_builtin; refine wpList_append_own_at _ rfl _ _ 55 rfl w.heap.size 41 i0 (.agg #[.int .i64 0, .int .i64 0, .int .i64 0, .int .i64 0, .slice none 0 0]) 5 56 Tryd.underlying55 hi0 hz0 hz1 hz2 rfl (by decide) (.slice ao i co) i xs rfl (World.ownsRow.alloc hown0 _) ⟨wr.heap.size, 0, none⟩ 1 1 [.int .i64 st, .int .i64 ba, .int .i64 ((i : Int)), .int .i64 0, .slice ai k ci] rfl rfl (cell_five _ _ _ _ _ _ _) (by simp [Value.oneCell']) (by unfold maxLen; omega) (by omega) hbase ?_; intro v' w6 hown hgrow hnil hloc; obtain ⟨ao9, co9, hv9, hcx⟩ := HG.out v' w6 hown hgrow; have H9 : Hid (CX w st ba L (i + 1) (fromA ai ci k) (ci - k) ao9 co9 w6) := hcx; subst hv9; clear hown hgrow hnil hloc hcx hown0 hbase HG))
      go_roundg (M - (i + 1))
      case measure => have := HI.out.2.1; omega
      case rel => exact ⟨i + 1, fromA ai ci k, ci - k, mi - k, ao9, co9, false, rfl, rfl, rfl, ⟨by omega, rfl, by have := HI.out.2.2.1; have h9 := HK.out; rw [List.length_drop, ← HN.out] at h9; omega, by simp⟩, H9⟩
    · obtain ⟨gl, rfl, hco, hmx⟩ := MX.of HE.out hM1
      have HX : Hid (MX w gl i st ba L 0 wr) := hmx
      clear hmx HE
      by_cases hbig : (i : Int) > 40
      · go_wp2_with fail
        go_ret2
        exact ⟨HX.out.only, Or.inr (Or.inl ⟨HB.out.2.2.2, by rw [← HN.out]; have := HMN'.out; omega, rfl⟩)⟩
      go_upto_region 13 with fail
      go_loopg [55] i (fun k' idx wq => ∃ t : Nat, idx = .int .i64 (t : Int) ∧ Hid (t ≤ i ∧ k' = i - t) ∧ Hid (MX w gl i st ba L t wq))
      case atStart => exact ⟨0, rfl, ⟨by omega, rfl⟩, HX⟩
      case round =>
        clear HX
        obtain ⟨t, rfl, HT, HQ⟩ := hrel
        by_cases ht : t < i
        case neg =>
          have htl : ¬ (t : Int) < (i : Int) := by omega
          obtain rfl : t = i := by have := HT.out.1; omega
          go_wp2_with fail
          go_ret2
          exact ⟨HQ.out.only, Or.inr (Or.inr ⟨HB.out.2.2.2, by rw [← HN.out]; have := HMN'.out; omega, gl, co, by rw [← HM.out]; rfl, by rw [← HM.out]; exact hco, HQ.out.new, by rw [← HM.out]; exact HQ.out.pcs⟩)⟩
        have htl : (t : Int) < (i : Int) := by omega
        obtain ⟨u3, hu3⟩ := Option.isSome_iff_exists.1 (HQ.out.there (t * 5 + 3) (by omega)).1
        have hf3 := (HQ.out.there (t * 5 + 3) (by omega)).2
        rw [Nat.zero_add] at hu3 hf3
        have H9 : Hid (MX w gl i st ba L (t + 1) (wr.setCell ⟨gl, t * 5 + 3, none⟩ (.int .i64 ((i : Int))))) := HQ.out.next ht
        clear HQ
        go_upto_region 16 with fail
        revert H9
        generalize World.setCell wr _ _ = wz
        intro H9
        go_wp2_with fail
        go_roundg (i - (t + 1))
        case measure => have := HT.out.2; omega
        case rel => exact ⟨t + 1, by go_num, ⟨by omega, rfl⟩, H9⟩
theorem refCuts_calls (st ba : Int) (a : Option Addr) (c : Nat) (L : List Nat) (w : World) (hl : L.length ≤ 100000) (hb : ByAt w a L) (hn : a = none → L = [] ∧ c = 0) (hc : L.length ≤ c) :
    Calls Tryd.prog 18 #[.int .i64 st, .int .i64 ba, .slice a L.length c] w (RCutPost st ba L w) := by
  cases h : followM st ba with
  | false => exact (refCuts_bad st ba a L.length c w h).mono (fun e w' ⟨q, o⟩ => ⟨o, Or.inl ⟨h, q⟩⟩)
  | true => exact refCuts_good st ba a c L w hl hb hn hc h
end Go.Proofs.YtbiaajncngldlaaDoor
