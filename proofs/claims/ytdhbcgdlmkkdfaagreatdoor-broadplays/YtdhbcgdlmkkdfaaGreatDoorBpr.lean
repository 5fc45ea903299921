/- The law's ranges over its map, and how many pairs there are. -/
import Derived.Test.YtdhbcgdlmkkdfaaGreatDoorBp4
import Derived.Test.YtdhbcgdlmkkdfaaGreatDoorPrs
namespace Go.Proofs.YtdhbcgdlmkkdfaaGreatDoor
open Go.ChangeShapes Go.WideShapes Go.ChangeAt Go.RowKit Go.Sort Go.Shelf Go.Lib
open Go.Maps (Keyed)
set_option linter.unusedVariables false
set_option linter.unusedSimpArgs false

theorem boxElem_box (v : Value) (y : DataW Unit × List MemPlace) (h : boxElem v = some y) : ∃ q, v = boxV q := by
  unfold boxElem at h
  split at h
  · rename_i a
    split at h
    · rename_i a0 a1 a2 a3 a4 a5 he
      refine ⟨⟨a0, a1, a2, a3, a4, a5⟩, ?_⟩
      have : a = a.toList.toArray := by simp
      rw [this, he]; rfl
    · cases h
  · cases h
theorem boxD_inj {p q : Bx} (h : boxD p = boxD q) : p = q := by
  simp only [boxD, DataW.agg.injEq, List.cons.injEq, DataW.lit.injEq, Lit.int.injEq, true_and, and_true] at h
  obtain ⟨h0, h1, h2, h3, h4, h5⟩ := h
  cases p; cases q; simp_all
/-- A range over the law's map: what has come, what is to come. -/
structure RG (m r : Nat) (M : List (Int × Bx)) (MD : DataW Unit) (cnt : Nat) (dn rem : List (Int × Bx)) (left : Lit → Bool) (wr : World) : Prop where
  rng : wr.ranges Tryz.prog 3 boxElem m r M.length MD left cnt
  perm : M.Perm (dn ++ rem)
  lft : ∀ i, left (key i) = true ↔ i ∈ rem.map Prod.fst
theorem RG.start {w0 : World} {m r : Nat} {M : List (Int × Bx)} {MD : DataW Unit} (hb : BookM MD M) (h : w0.ranges Tryz.prog 3 boxElem m r M.length MD (Maps.has MD) (Maps.size MD)) : RG m r M MD (Maps.size MD) [] M (Maps.has MD) w0 :=
  ⟨h, List.Perm.refl _, hb.has⟩
theorem RG.only {w w' : World} {D : List Nat} {m r : Nat} {M : List (Int × Bx)} {MD : DataW Unit} {cnt : Nat} {dn rem : List (Int × Bx)} {left : Lit → Bool} (h : RG m r M MD cnt dn rem left w) (o : Only D w w') (hm : m ∉ D) (hr : r ∉ D) : RG m r M MD cnt dn rem left w' := by
  refine ⟨?_, h.perm, h.lft⟩
  have h0 := h.rng
  have h1 := h0.owns.lt
  have h2 := h0.lt
  obtain ⟨es, clock, since, seen, c0, hb, F, hs, hD, hrr, rest⟩ := h0
  exact ⟨es, clock, since, seen, c0, (o.block m h1 hm).trans hb, F, hs, hD, (o.block r h2 hr).trans hrr, rest⟩
theorem RG.done {w : World} {m r : Nat} {M : List (Int × Bx)} {MD : DataW Unit} {cnt : Nat} {dn rem : List (Int × Bx)} {left : Lit → Bool} (h : RG m r M MD cnt dn rem left w) (hl : ∀ kl, left kl = false) : M.Perm dn := by
  have hr : rem = [] := by
    cases hrm : rem with
    | nil => rfl
    | cons y rem => have := (h.lft y.1).2 (by simp [hrm]); rw [hl] at this; cases this
  have := h.perm
  rwa [hr, List.append_nil] at this
theorem RG.came {wr w1 : World} {m r : Nat} {M : List (Int × Bx)} {MD : DataW Unit} {cnt cnt1 : Nat} {dn rem : List (Int × Bx)} {left : Lit → Bool} (h : RG m r M MD cnt dn rem left wr) (hb : BookM MD M) {x : Int} {q : Bx} {kl : Lit} {y : DataW Unit × List MemPlace}
    (hkey : keyOf Tryz.prog 3 (Value.int .i64 x) = some kl) (hlk : left kl = true) (hv : boxElem (boxV q) = some y) (hat : ∀ zd, MD.atKey kl zd = y.1) (hrg : w1.ranges Tryz.prog 3 boxElem m r M.length MD (fun z => left z && !z.sameKey kl) cnt1) :
    ∃ rem', (x, q) ∈ M ∧ RG m r M MD cnt1 (dn ++ [(x, q)]) rem' (fun z => left z && !z.sameKey kl) w1 := by
  obtain ⟨x', ex, rfl, hwx⟩ := Maps.keyOf_int_inv Tryz.underlying3 hkey
  injection ex with _ ex; subst ex
  obtain ⟨z, hz, hzi⟩ := List.mem_map.1 ((h.lft x).1 hlk)
  obtain ⟨s1, s2, hst⟩ := List.append_of_mem hz
  obtain ⟨rem', hp⟩ : ∃ rem', rem.Perm (z :: rem') := ⟨s1 ++ s2, by rw [hst]; exact List.perm_middle⟩
  clear hst
  have hzM : z ∈ M := h.perm.mem_iff.2 (List.mem_append_right _ hz)
  have hc : z = (x, q) := by
    have h1 := hb.there z hzM
    have h2 : key z.1 = Lit.int .i64 x := by rw [hzi]
    rw [h2, hat (boxD bx0)] at h1
    rw [boxElem_of, Option.some.injEq] at hv
    rw [← hv] at h1
    have h3 := boxD_inj h1
    rw [← hzi, h3]
  subst hc
  refine ⟨rem', hzM, hrg, ?_, fun i => ?_⟩
  · refine h.perm.trans ((List.Perm.append_left dn hp).trans ?_)
    simp
  · have hn : (rem.map Prod.fst).Nodup := ((h.perm.map Prod.fst).nodup hb.nodup |> fun q => by rw [List.map_append] at q; exact (List.nodup_append.1 q).2.1)
    have hn2 := (hp.map Prod.fst).nodup hn
    simp only [List.map_cons, List.nodup_cons] at hn2
    have hs := sameKey_key (i := i) (j := x)
    simp only [Bool.and_eq_true, Bool.not_eq_true', h.lft i, (hp.map Prod.fst).mem_iff, List.map_cons, List.mem_cons]
    rw [show Lit.int .i64 x = key x from rfl, hs]
    simp only [decide_eq_false_iff_not]
    constructor
    · rintro ⟨q | q, hne⟩
      · exact absurd q hne
      · exact q
    · intro q
      exact ⟨Or.inr q, fun e => hn2.1 (by rw [← e]; exact q)⟩

/-- A box of the law's own, in a block. -/
def BoxAt2 (w : World) (kb : Nat) (p : Bx) : Prop := w.heap[kb]? = some (.cells #[.int .i64 (p.x0), .int .i64 (p.x1), .int .i64 (p.x2), .int .i64 (p.x3), .int .i64 (p.x4), .int .i64 (p.x5)] 37)
theorem BoxAt2.only {D : List Nat} {w w' : World} {kb : Nat} {p : Bx} (h : BoxAt2 w kb p) (o : Only D w w') (s : kb ∉ D := by simp) : BoxAt2 w' kb p := (o.block kb (Array.getElem?_eq_some_iff.1 h).1 s).trans h
theorem BoxAt2.off {w : World} {kb : Nat} {p : Bx} (h : BoxAt2 w kb p) (j : Nat) : w.cell? ⟨kb, j, none⟩ = (#[.int .i64 (p.x0), .int .i64 (p.x1), .int .i64 (p.x2), .int .i64 (p.x3), .int .i64 (p.x4), .int .i64 (p.x5)] : Array Value)[j]? := by
  unfold BoxAt2 at h; simp [World.cell?, h]
/-- How many of L meet q. -/
def cntM (L : List (Int × Bx)) (q : Bx) : Nat := (L.filter fun p => meetX p.2 q).length
theorem cntM_nil (q : Bx) : cntM [] q = 0 := rfl
theorem cntM_snoc (L : List (Int × Bx)) (p : Int × Bx) (q : Bx) : cntM (L ++ [p]) q = cntM L q + (if meetX p.2 q = true then 1 else 0) := by
  unfold cntM
  rw [List.filter_append, List.length_append]
  congr 1
  simp only [List.filter_cons, List.filter_nil]
  split <;> rfl
theorem cntM_perm {L N : List (Int × Bx)} (h : L.Perm N) (q : Bx) : cntM L q = cntM N q := (h.filter _).length_eq
theorem cntM_meet (M : List (Int × Bx)) (q : Bx) : (meetM M q).length = cntM M q := by unfold meetM cntM; simp
theorem cntM_le (L : List (Int × Bx)) (q : Bx) : cntM L q ≤ L.length := List.length_filter_le _ _
/-- How many of L lie above p and meet it. -/
def crossC (p : Int × Bx) (L : List (Int × Bx)) : Nat := (L.filter fun r => decide (p.1 < r.1) && meetX p.2 r.2).length
theorem crossC_snoc (p : Int × Bx) (L : List (Int × Bx)) (r : Int × Bx) : crossC p (L ++ [r]) = crossC p L + (if p.1 < r.1 ∧ meetX p.2 r.2 = true then 1 else 0) := by
  unfold crossC
  rw [List.filter_append, List.length_append]
  congr 1
  simp only [List.filter_cons, List.filter_nil, Bool.and_eq_true, decide_eq_true_eq]
  split <;> rfl
theorem crossC_perm {L N : List (Int × Bx)} (p : Int × Bx) (h : L.Perm N) : crossC p L = crossC p N := (h.filter _).length_eq
theorem crossC_le (p : Int × Bx) (L : List (Int × Bx)) : crossC p L ≤ L.length := List.length_filter_le _ _
def crossS (D M : List (Int × Bx)) : Nat := (D.map fun p => crossC p M).sum
theorem crossS_snoc (D M : List (Int × Bx)) (p : Int × Bx) : crossS (D ++ [p]) M = crossS D M + crossC p M := by unfold crossS; simp
theorem crossS_perm {D E M : List (Int × Bx)} (h : D.Perm E) : crossS D M = crossS E M := (h.map _).sum_nat
theorem crossS_le (M : List (Int × Bx)) : ∀ D : List (Int × Bx), crossS D M ≤ D.length * M.length
  | [] => by simp [crossS]
  | p :: D => by
    have h1 := crossS_le M D
    have h2 := crossC_le p M
    have : crossS (p :: D) M = crossC p M + crossS D M := by unfold crossS; simp
    rw [this, List.length_cons, Nat.succ_mul]; omega
theorem pairM_len (M : List (Int × Bx)) (p : Int × Bx) : (pairM M p).length = crossC p M := by
  unfold pairM above crossC
  rw [List.length_map, List.filter_map, List.length_map, List.filter_filter]
  congr 1
  apply List.filter_congr
  intro r _
  simp only [Function.comp, meetX_comm r.2 p.2]
theorem pairsM_len (M : List (Int × Bx)) : (pairsM M).length = crossS M M := by
  unfold pairsM
  rw [show (sort2 (M.flatMap (pairM M))).length = (M.flatMap (pairM M)).length from (List.mergeSort_perm _ _).length_eq, List.length_flatMap]
  unfold crossS
  congr 1
  apply List.map_congr_left
  intro p _
  exact pairM_len M p
end Go.Proofs.YtdhbcgdlmkkdfaaGreatDoor
