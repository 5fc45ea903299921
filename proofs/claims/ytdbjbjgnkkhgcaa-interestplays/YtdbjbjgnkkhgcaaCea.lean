/- The cells that interest.Grid.filled goes through: a range over a function, over a map. -/
import Derived.Test.YtdbjbjgnkkhgcaaCe9
import Derived.Sort.MapsRangeIn
import Derived.Sort.CutIn
namespace Go.Proofs.Ytdbjbjgnkkhgcaa
open Go.ChangeShapes Go.WideShapes Go.ChangeAt Go.RowKit Go.Shelf
set_option linter.unusedVariables false
set_option linter.unusedSimpArgs false
set_option linter.unusedSectionVars false
variable [DecidableEq Cel]

attribute [local go_sem] Oper.semAt_some

/-- The loop over map b is under way: its iterator is block r; 'left' tells which cells are still to come, cnt how many. -/
def RngC (w : World) (b r : Nat) (L : List (Cel × Value)) (left : Cel → Bool) (cnt : Nat) : Prop :=
  ∃ (D : DataW Value) (lf : Lit → Bool), w.ranges Try.prog 54 anyC b r L.length D lf cnt ∧ BkC D L ∧ ∀ i, lf (keyC i) = left i
theorem RngC.kept {w w' : World} {b r : Nat} {L : List (Cel × Value)} {left : Cel → Bool} {cnt : Nat} (h : RngC w b r L left cnt) {row : Option Nat} (hg : w.grownBy w' row) (hb : some b ≠ row) (hr : some r ≠ row) : RngC w' b r L left cnt := by
  obtain ⟨D, lf, h1, h2, h3⟩ := h
  exact ⟨D, lf, h1.kept hg hb hr, h2, h3⟩
theorem RngC.walks {w w' : World} {b r : Nat} {L : List (Cel × Value)} {left : Cel → Bool} {cnt : Nat} (h : RngC w b r L left cnt) (hk : KeepsWalks w w') : RngC w' b r L left cnt := by
  obtain ⟨D, lf, h1, h2, h3⟩ := h
  exact ⟨D, lf, h1.of_walks hk, h2, h3⟩
theorem RngC.iter {w : World} {b r : Nat} {L : List (Cel × Value)} {left : Cel → Bool} {cnt : Nat} (h : RngC w b r L left cnt) : ∃ o : Obj, w.heap[r]? = some o ∧ o.isWalk = true := by
  obtain ⟨D, lf, h1, h2, h3⟩ := h
  exact h1.iter_walk
theorem BkC.mem_of {D : DataW Value} {L : List (Cel × Value)} (h : BkC D L) {i : Cel} {v : Value} (hi : i ∈ L.map Prod.fst) (hv : ∀ z, D.atKey (keyC i) z = .held v) : (i, v) ∈ L := by
  obtain ⟨x, hx, rfl⟩ := List.mem_map.1 hi
  have h1 := h.there x hx (.held v)
  rw [hv] at h1
  injection h1 with h1
  rw [h1]
  exact hx
theorem keyC_same (i j : Cel) : (!(keyC j).sameKey (keyC i)) = (j != i) := by
  by_cases e : j = i
  · subst e
    rw [WideAt.sameKey_self (keyC_lit _)]
    simp
  · have : (keyC j).sameKey (keyC i) = false := by
      cases q : (keyC j).sameKey (keyC i)
      · rfl
      · exact absurd (WideAt.sameKey_eq q) (keyC_ne e)
    rw [this]
    simp [e]
theorem RngC.next {w : World} {b r : Nat} {L : List (Cel × Value)} {left : Cel → Bool} {cnt : Nat} (h : RngC w b r L left cnt) (ty : TypeId) :
    (cnt = 0 ∧ (∀ x ∈ L, left x.1 = false) ∧ (Instr.next (.pointer (some ⟨r, 0, none⟩)) false ty).run Try.prog w = .ok (.tuple #[.bool false]) w) ∨
    ∃ x w' cnt', x ∈ L ∧ left x.1 = true ∧ (Instr.next (.pointer (some ⟨r, 0, none⟩)) false ty).run Try.prog w = .ok (.tuple #[.bool true, celV x.1, x.2]) w' ∧
      RngC w' b r L (fun i => left i && i != x.1) cnt' ∧ cnt' < cnt ∧ w.grownBy w' (some r) ∧ w'.heap.size = w.heap.size ∧ (Instr.entry (.pointer (some ⟨r, 0, none⟩))).run Try.prog w' = .ok (.tuple #[celV x.1, x.2]) w' := by
  obtain ⟨D, lf, h1, h2, h3⟩ := h
  rcases h1.next celKey ty with ⟨q0, q1, q2⟩ | ⟨key, v, kl, y, w', cnt', hkey, hlk, hv, hat, hrun, hrg, hlt, hgr, hsz, hen⟩
  · exact Or.inl ⟨q0, fun x _ => by rw [← h3]; exact q1 _, q2⟩
  · simp only [anyC, Option.some.injEq] at hv
    subst hv
    have hhas : Maps.has D kl = true := by
      have hrg0 := h1
      obtain ⟨es, clock, since, seen, c0, hb, F, hs, hD, hr, hold, hc, hl1, hl2, _⟩ := hrg0
      obtain ⟨x, hx, hxe⟩ := hl2 _ hlk
      rw [hD]
      exact List.any_eq_true.2 ⟨_, mem_sorted.2 (List.mem_map.2 ⟨x, hx, rfl⟩), by rw [hxe]; exact WideAt.sameKey_self (celKey.key hkey)⟩
    obtain ⟨i, hin, rfl⟩ := (h2.has kl).1 hhas
    have hki := celKey.inj hkey (keyIsC i)
    subst hki
    have hmem := h2.mem_of hin hat
    refine Or.inr ⟨(i, v), w', cnt', hmem, by rw [← h3]; exact hlk, hrun, ⟨D, _, hrg, h2, fun j => ?_⟩, hlt, hgr, hsz, hen⟩
    show (lf (keyC j) && !(keyC j).sameKey (keyC i)) = (left j && j != i)
    rw [h3, keyC_same]
theorem MapC.range {w : World} {b : Nat} {L : List (Cel × Value)} (h : MapC w b L) :
    ∃ w', (Instr.range 46 (.map (some b))).run Try.prog w = .ok (.pointer (some ⟨w.heap.size, 0, none⟩)) w' ∧ RngC w' b w.heap.size L (fun i => decide (i ∈ L.map Prod.fst)) L.length ∧ w.grownBy w' none ∧ w'.heap.size = w.heap.size + 1 := by
  obtain ⟨D, h1, h2⟩ := h
  obtain ⟨w', q1, q2, q3, q4⟩ := h1.range celKey Try.underlying46
  refine ⟨w', q1, ⟨D, _, by rw [← h2.size] at q2 ⊢; exact q2, h2, fun i => ?_⟩, q3, q4⟩
  by_cases hi : i ∈ L.map Prod.fst
  · rw [(h2.hasC i).2 hi]; simp only [hi, decide_true]
  · rw [h2.gone hi]; simp only [hi, decide_false]
section
variable {F : Fence} {n : Nat} {w : World} {ops : Array Oper} {rest : List Oper} {o : Oper} {a : Act} {Q : Exit → Act → World → Prop}
theorem wpListIn_rangeC (hg : o.guard = none) (m : Operand) (hop : o.op = Op.range 46 m) (b : Nat) (L : List (Cel × Value)) (hm : a.eval m = .map (some b)) (h : MapC w b L)
    (hK : ∀ w', RngC w' b w.heap.size L (fun i => decide (i ∈ L.map Prod.fst)) L.length → w.grownBy w' none → w'.heap.size = w.heap.size + 1 → wpListIn F n Try.prog ops Q rest (a.put o.dst (.pointer (some ⟨w.heap.size, 0, none⟩))) w') :
    wpListIn F n Try.prog ops Q (o :: rest) a w := by
  refine wpListIn_plain hg fun K' hK' => ?_
  obtain ⟨w', hrun, r1, r2, r3⟩ := h.range
  unfold Oper.wpIn
  refine ⟨by simp [Oper.about, hop], ?_⟩
  rw [Oper.semAt_plain F _ _ (by rw [hop]; intro c hc'; cases hc')]
  simp [execOp, hop, hm, hrun, Result.andThen]
  exact hK' _ _ (hK w' r1 r2 r3)
theorem wpListIn_nextC (hg : o.guard = none) (it : Operand) (hop : o.op = Op.next it false) (b r : Nat) (L : List (Cel × Value)) (left : Cel → Bool) (cnt : Nat) (hit : a.eval it = .pointer (some ⟨r, 0, none⟩)) (h : RngC w b r L left cnt)
    (hDone : (∀ x ∈ L, left x.1 = false) → wpListIn F n Try.prog ops Q rest (a.put o.dst (.tuple #[.bool false])) w)
    (hMore : ∀ (i : Cel) (v : Value) (w' : World) (cnt' : Nat), (i, v) ∈ L → left i = true → RngC w' b r L (fun j => left j && j != i) cnt' → cnt' < cnt → w.grownBy w' (some r) → w'.heap.size = w.heap.size →
      (Instr.entry (.pointer (some ⟨r, 0, none⟩))).run Try.prog w' = .ok (.tuple #[celV i, v]) w' → wpListIn F n Try.prog ops Q rest (a.put o.dst (.tuple #[.bool true, celV i, v])) w') :
    wpListIn F n Try.prog ops Q (o :: rest) a w := by
  refine wpListIn_plain hg fun K' hK' => ?_
  unfold Oper.wpIn
  refine ⟨by simp [Oper.about, hop], ?_⟩
  rw [Oper.semAt_plain F _ _ (by rw [hop]; intro c hc'; cases hc')]
  rcases h.next o.type with ⟨h0, hl, hrun⟩ | ⟨x, w', cnt', hx, hlx, hrun, hrg, hlt, hgr, hsz, hen⟩
  · simp [execOp, hop, hit, hrun, Result.andThen]
    exact hK' _ _ (hDone hl)
  · simp [execOp, hop, hit, hrun, Result.andThen]
    exact hK' _ _ (hMore x.1 x.2 w' cnt' hx hlx hrg hlt hgr hsz hen)
end
theorem callW {n f : Nat} {args : Array Value} {w : World} {R R' : Ending → World → Prop} (h : Calls Try.prog f args w R) (k : ∀ e w', R e w' → R' e w') : Fence.wide.fn f ∧ (Fence.wide.depth.isSome = true → 1 ≤ n) ∧ CallsIn Fence.wide (n - 1) Try.prog f args w R' :=
  ⟨trivial, fun hq => absurd hq (by simp [Fence.wide]), (callsIn_wide.2 h).mono k⟩
theorem kept_grown {w w' : World} (k : Kept w w') : w.grownBy w' none := ⟨k.below.os, k.below.tape, k.below.output, k.below.size, fun b hb _ => k.below.block b hb⟩
theorem EvJ.grown {bl bh : Nat} {lo hi : Cel} {W W' : World} (h : EvJ bl bh lo hi W) {row : Option Nat} (g : W.grownBy W' row) (hr : ∀ r, row = some r → r ≠ bl ∧ r ≠ bh) : EvJ bl bh lo hi W' :=
  ⟨(g.block bl (Array.getElem?_eq_some_iff.1 h.1).1 (fun e => (hr bl e.symm).1 rfl)).trans h.1, (g.block bh (Array.getElem?_eq_some_iff.1 h.2).1 (fun e => (hr bh e.symm).2 rfl)).trans h.2⟩
/-- What has come, and what is still to come. -/
structure FiAt (lo hi : Cel) (L : List (Cel × Value)) (pre : List Cel) (left : Cel → Bool) (cnt : Nat) : Prop where
  nodup : pre.Nodup
  out : ∀ c ∈ pre, left c = false
  has : ∀ c ∈ L.map Prod.fst, btw lo c hi = true → c ∈ pre ∨ left c = true
  len : pre.length + cnt ≤ L.length
set_option maxRecDepth 100000 in
set_option maxHeartbeats 2000000 in
theorem filled1_in (n l bg bl bh x mc : Nat) (mh : Value) (lo hi : Cel) (L : List (Cel × Value)) (J Jx : List Cel → World → Prop) (W : World) (hJ : AbidesFrom W.heap.size J)
    (hY : ∀ pre x W, J pre W → pre.length < L.length → YieldAt Fence.wide (n - 1) Try.prog l #[celV x] W fun e W' =>
      (e = .returned (.bool true) ∧ J (pre ++ [x]) W' ∧ KpB [bl, bh] W W') ∨ (e = .returned (.bool false) ∧ Jx (pre ++ [x]) W'))
    (hE : EvJ bl bh lo hi W) (hg : W.cell? ⟨bg, 0, none⟩ = some (.pointer (some ⟨x, 0, none⟩))) (hx : W.cell? ⟨x, 0, none⟩ = some (.map (some mc))) (hm : MapC W mc L) (h0 : J [] W) :
    CallsIn Fence.wide n Try.prog 47 #[.func (.yield l) #[] #[], .pointer (some ⟨bg, 0, none⟩), .pointer (some ⟨bl, 0, none⟩), .pointer (some ⟨bh, 0, none⟩)] W fun e W' => (∃ v, e = .returned v) ∧
      ((∃ xs, (xs.Nodup ∧ ∀ c ∈ L.map Prod.fst, btw lo c hi = true → c ∈ xs) ∧ J xs W') ∨ (∃ pre, True ∧ Jx pre W')) := by
  refine callsIn_of_wp Try.func47 rfl trivial ?_ rfl
  simp only [Try.ntmps47, List.size_toArray, List.length_cons, List.length_nil, Nat.reduceAdd, Nat.reduceSub, Array.replicate_succ, Array.replicate_zero, List.push_toArray, List.append_toArray, List.nil_append, List.cons_append]
  have HE : Hid (EvJ bl bh lo hi W ∧ J [] W ∧ AbidesFrom W.heap.size J ∧ bl < W.heap.size ∧ bh < W.heap.size ∧ mc < W.heap.size) := ⟨hE, h0, hJ, (Array.getElem?_eq_some_iff.1 hE.1).1, (Array.getElem?_eq_some_iff.1 hE.2).1, hm.lt⟩
  have HY : Hid (∀ pre x W, J pre W → pre.length < L.length → YieldAt Fence.wide (n - 1) Try.prog l #[celV x] W fun e W' =>
      (e = .returned (.bool true) ∧ J (pre ++ [x]) W' ∧ KpB [bl, bh] W W') ∨ (e = .returned (.bool false) ∧ Jx (pre ++ [x]) W')) := hY
  clear hE hY h0 hJ
  gi_wp2_with (gi_at_range; refine wpListIn_rangeC rfl _ rfl mc L rfl hm ?_; intro w1 hrg hgr hsz)
  have H1 : Hid (RngC w1 mc W.heap.size L (fun i => decide (i ∈ L.map Prod.fst)) L.length ∧ J [] w1 ∧ EvJ bl bh lo hi w1) := ⟨hrg, HE.out.2.2.1 [] W w1 none HE.out.2.1 hgr (by simp), HE.out.1.grown hgr (by simp)⟩
  clear hrg hgr hsz hg hx hm
  simp only [Act.put, List.setIfInBounds_toArray, List.set_cons_zero, List.set_cons_succ]
  gi_loopg [] L.length (fun k wr => Hid (∃ (pre : List Cel) (left : Cel → Bool), RngC wr mc W.heap.size L left k ∧ J pre wr ∧ EvJ bl bh lo hi wr ∧ FiAt lo hi L pre left k))
  case atStart => exact ⟨[], _, H1.out.1, H1.out.2.1, H1.out.2.2, by simp, by simp, fun c hc _ => Or.inr (by simpa using hc), by simp⟩
  case round =>
    obtain ⟨pre, left, H2⟩ : ∃ (pre : List Cel) (left : Cel → Bool), Hid (RngC wr mc W.heap.size L left gk ∧ J pre wr ∧ EvJ bl bh lo hi wr ∧ FiAt lo hi L pre left gk) := hrel.out
    have hrg := H2.out.1
    gi_wp2_with (gi_at_next; refine wpListIn_nextC rfl _ rfl mc W.heap.size L left gk rfl hrg ?_ ?_)
    · intro hdone
      gi_wp2
      go_end0
      refine ⟨⟨_, rfl⟩, .inl ⟨pre, ⟨H2.out.2.2.2.nodup, fun c hc hb => ?_⟩, H2.out.2.1⟩⟩
      rcases H2.out.2.2.2.has c hc hb with h1 | h1
      · exact h1
      · obtain ⟨y, hy, rfl⟩ := List.mem_map.1 hc
        rw [hdone y.1 y.2 hy] at h1; cases h1
    · intro i v w2 cnt2 hin hlt hrg2 hcnt hgr hsz hen
      obtain ⟨d1, d2, d3, hci⟩ : ∃ d1 d2 d3 : Int, celV i = .agg #[.int .i64 d1, .int .i64 d2, .int .i64 d3] := ⟨_, _, _, rfl⟩
      have HCI : Hid (celV i = .agg #[.int .i64 d1, .int .i64 d2, .int .i64 d3]) := hci
      rw [hci] at hen ⊢
      clear hci
      have H3 : Hid ((i, v) ∈ L ∧ left i = true ∧ RngC w2 mc W.heap.size L (fun j => left j && j != i) cnt2 ∧ cnt2 < gk ∧ J pre w2 ∧ EvJ bl bh lo hi w2) := by
        refine ⟨hin, hlt, hrg2, hcnt, HE.out.2.2.1 pre wr w2 _ H2.out.2.1 hgr (fun r e => ?_), H2.out.2.2.1.grown hgr (fun r e => ?_)⟩
        · injection e with e; subst e; exact ⟨Nat.le_refl _, hrg.iter⟩
        · injection e with e; subst e; have := HE.out; omega
      clear hin hlt hrg2 hcnt hgr hsz hrg
      gi_upto_region 3 with fail
      have H4 : Hid (RngC (w2.alloc (.cells #[.int .i64 d1, .int .i64 d2, .int .i64 d3] 54)) mc W.heap.size L (fun j => left j && j != i) cnt2 ∧ J pre (w2.alloc (.cells #[.int .i64 d1, .int .i64 d2, .int .i64 d3] 54)) ∧ EvJ bl bh lo hi (w2.alloc (.cells #[.int .i64 d1, .int .i64 d2, .int .i64 d3] 54)) ∧ (w2.alloc (.cells #[.int .i64 d1, .int .i64 d2, .int .i64 d3] 54)).heap[w2.heap.size]? = some (.cells #[.int .i64 d1, .int .i64 d2, .int .i64 d3] 54)) := by
        have g : w2.grownBy (w2.alloc (.cells #[.int .i64 d1, .int .i64 d2, .int .i64 d3] 54)) none := kept_grown ((Kept.refl _).alloc _ _)
        exact ⟨H3.out.2.2.1.kept g (by simp) (by simp), HE.out.2.2.1 pre _ _ none H3.out.2.2.2.2.1 g (by simp), H3.out.2.2.2.2.2.grown g (by simp), (MapKept.heap_alloc w2 _).1⟩
      revert H4
      generalize w2.heap.size = kc
      generalize World.alloc w2 _ = w3
      intro H4
      clear hen
      obtain ⟨c1, c2, c3, c4, c5, c6⟩ := H4.out.2.2.1.cells
      have k1 : w3.cell? ⟨kc, 0, none⟩ = some (.int .i64 d1) := by simp only [World.cell?, H4.out.2.2.2]; rfl
      have k2 : w3.cell? ⟨kc, 1, none⟩ = some (.int .i64 d2) := by simp only [World.cell?, H4.out.2.2.2]; rfl
      have k3 : w3.cell? ⟨kc, 2, none⟩ = some (.int .i64 d3) := by simp only [World.cell?, H4.out.2.2.2]; rfl
      have hbt : Calls Try.prog 48 #[.agg #[.int .i64 ((lo.x.val : Int)), .int .i64 ((lo.y.val : Int)), .int .i64 ((lo.z.val : Int))], .agg #[.int .i64 d1, .int .i64 d2, .int .i64 d3], .agg #[.int .i64 ((hi.x.val : Int)), .int .i64 ((hi.y.val : Int)), .int .i64 ((hi.z.val : Int))]] w3 fun e w' => e = .returned (.bool (btw lo i hi)) ∧ Kept w3 w' := by
        rw [← HCI.out]; exact between_calls lo i hi w3
      obtain ⟨q, hq⟩ : ∃ q, btw lo i hi = q := ⟨_, rfl⟩
      have HQ : Hid (btw lo i hi = q) := hq
      rw [hq] at hbt
      clear hq
      cases q with
      | false =>
        gi_wp2
        refine callW hbt ?_
        clear hbt
        rintro e w4 ⟨rfl, kk⟩
        gi_wp2
        refine ⟨fun _ h => (by cases h), ?_⟩
        gi_wp2
        gi_roundg cnt2
        case measure => exact H3.out.2.2.2.1
        case rel =>
          have g := kept_grown kk
          refine ⟨pre, _, H4.out.1.kept g (by simp) (by simp), HE.out.2.2.1 pre _ _ none H4.out.2.1 g (by simp), H4.out.2.2.1.grown g (by simp), H2.out.2.2.2.nodup, fun c hc => ?_, fun c hc hb => ?_, ?_⟩
          · simp only [H2.out.2.2.2.out c hc, Bool.false_and]
          · rcases H2.out.2.2.2.has c hc hb with h1 | h1
            · exact Or.inl h1
            · right
              have : c ≠ i := fun e => by rw [e, HQ.out] at hb; cases hb
              simp [h1, this]
          · have h1 := H2.out.2.2.2.len
            have h2 := H3.out.2.2.2.1
            omega
      | true =>
        gi_wp2
        refine callW hbt ?_
        clear hbt
        rintro e w4 ⟨rfl, kk⟩
        have H5 : Hid (RngC w4 mc W.heap.size L (fun j => left j && j != i) cnt2 ∧ J pre w4 ∧ EvJ bl bh lo hi w4) := by
          have g := kept_grown kk
          exact ⟨H4.out.1.kept g (by simp) (by simp), HE.out.2.2.1 pre _ _ none H4.out.2.1 g (by simp), H4.out.2.2.1.grown g (by simp)⟩
        have m1 := kept_cell kk k1
        have m2 := kept_cell kk k2
        have m3 := kept_cell kk k3
        clear k1 k2 k3 c1 c2 c3 c4 c5 c6 kk
        obtain ⟨fn, tmps, assign, body, hy0, hR⟩ := HY.out pre i w4 H5.out.2.1 (by
          have h1 := H2.out.2.2.2.len
          have h2 := H3.out.2.2.2.1
          omega)
        rw [HCI.out] at hy0
        gi_wp2
        refine ⟨fun hq => absurd hq (by simp [Fence.wide]), hR.mono ?_⟩
        rintro e w5 (⟨rfl, hJ5, hk5⟩ | ⟨rfl, hJx5⟩)
        · gi_wp2
          gi_roundg cnt2
          case measure => exact H3.out.2.2.2.1
          case rel =>
            have hnot : i ∉ pre := fun hp => by
              have := H2.out.2.2.2.out i hp
              rw [H3.out.2.1] at this; cases this
            refine ⟨pre ++ [i], _, H5.out.1.walks hk5.2, hJ5, ⟨(hk5.1 bl (by simp)).trans H5.out.2.2.1, (hk5.1 bh (by simp)).trans H5.out.2.2.2⟩, ?_, fun c hc => ?_, fun c hc hb => ?_, ?_⟩
            · rw [List.nodup_append]
              exact ⟨H2.out.2.2.2.nodup, by simp, fun a ha b hb => by simp only [List.mem_singleton] at hb; subst hb; exact fun q => hnot (q ▸ ha)⟩
            · rcases List.mem_append.1 hc with h1 | h1
              · simp only [H2.out.2.2.2.out c h1, Bool.false_and]
              · simp only [List.mem_singleton] at h1; subst h1; simp
            · rcases H2.out.2.2.2.has c hc hb with h1 | h1
              · exact Or.inl (List.mem_append_left _ h1)
              · by_cases e : c = i
                · exact Or.inl (by rw [e]; simp)
                · right; simp [h1, e]
            · have h1 := H2.out.2.2.2.len
              have h2 := H3.out.2.2.2.1
              simp only [List.length_append, List.length_cons, List.length_nil]
              omega
        · gi_wp2
          refine bodyPost_ret (results_none rfl _ _ _) rfl ?_
          exact ⟨⟨_, rfl⟩, .inr ⟨_, trivial, hJx5⟩⟩
end Go.Proofs.Ytdbjbjgnkkhgcaa
