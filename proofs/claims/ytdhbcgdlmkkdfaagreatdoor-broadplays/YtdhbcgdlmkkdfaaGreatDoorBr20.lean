/- Lists of pairs that a call owns; which pairs Pairs collects: plain facts. -/
import Derived.Test.YtdhbcgdlmkkdfaaGreatDoorBr19
import Derived.Maps.RangeWalk
namespace Go.Proofs.YtdhbcgdlmkkdfaaGreatDoor
open Go.ChangeShapes Go.WideShapes Go.ChangeAt Go.RowKit
open Go.Maps (Keyed)
set_option linter.unusedVariables false
set_option linter.unusedSimpArgs false

def enc2 (p : Int × Int) : List Value := [.int .i64 (p.1), .int .i64 (p.2)]
def SlPairs (w : World) (v : Value) (P : List (Int × Int)) : Prop := w.ownsRow 0 50 2 v P.length (P.flatMap enc2)
theorem pairInfo : (Tryz.prog.info? 50).map (fun i => (i.zero, i.size, i.bytes)) = some (some (.agg #[.int .i64 0, .int .i64 0]), 2, 16) := by kernel_rfl
theorem SlPairs.kept {w w' : World} {v : Value} {P : List (Int × Int)} (h : SlPairs w v P) {D : List Nat} (o : Only D w w') (s : ∀ b ∈ ownL v, b ∉ D) : SlPairs w' v P := by
  obtain ⟨h1, h2⟩ := h
  refine ⟨h1, ?_⟩
  rcases h2 with h2 | ⟨g, cap, cur, rfl, hb, hg, r⟩
  · exact Or.inl h2
  · exact Or.inr ⟨g, cap, cur, rfl, hb, (o.block g (Array.getElem?_eq_some_iff.1 hg).1 (s g (by simp [ownL, Value.ownBlock]))).trans hg, r⟩
theorem SlPairs.lt {w : World} {v : Value} {P : List (Int × Int)} (h : SlPairs w v P) : ∀ b ∈ ownL v, b < w.heap.size := by
  intro b hb
  obtain ⟨_, ⟨rfl, _⟩ | ⟨g, cap, cur, rfl, _, hg, _⟩⟩ := h
  · simp [ownL, Value.ownBlock] at hb
  · simp only [ownL, Value.ownBlock, Option.toList_some, List.mem_singleton] at hb
    subst hb
    exact (Array.getElem?_eq_some_iff.1 hg).1
theorem SlPairs.nil (w : World) : SlPairs w (.slice none 0 0) [] := World.ownsRow_nil w 0 _ _
theorem SlPairs.shape {w : World} {v : Value} {P : List (Int × Int)} (h : SlPairs w v P) : ∃ a c, v = .slice a P.length c ∧ (∀ j (hj : j < P.length), ∃ g, a = some ⟨g, 0, none⟩ ∧ w.cell? ⟨g, j * 2, none⟩ = some (.int .i64 (P[j].1)) ∧ w.cell? ⟨g, j * 2 + 1, none⟩ = some (.int .i64 (P[j].2))) := by
  obtain ⟨h1, ⟨rfl, h2⟩ | ⟨g, cap, cur, rfl, hb, hg, hn, hc, hs, ht⟩⟩ := h
  · exact ⟨none, 0, by rw [h2], fun j hj => by omega⟩
  · refine ⟨some ⟨g, 0, none⟩, cap, rfl, fun j hj => ⟨g, rfl, ?_⟩⟩
    have fl : ∀ (Q : List (Int × Int)) (j : Nat) (hj : j < Q.length), (Q.flatMap enc2)[j * 2]? = some (.int .i64 (Q[j].1)) ∧ (Q.flatMap enc2)[j * 2 + 1]? = some (.int .i64 (Q[j].2)) := by
      intro Q
      induction Q with
      | nil => intro j hj; simp at hj
      | cons p Q ih =>
        intro j hj
        cases j with
        | zero => simp [enc2]
        | succ j =>
          have := ih j (by simpa using hj)
          simp only [List.flatMap_cons, enc2, List.cons_append, List.nil_append]
          rw [show (j + 1) * 2 = j * 2 + 1 + 1 by omega]
          simpa using this
    have e := fl P j hj
    rw [← ht, List.getElem?_take, List.getElem?_take, if_pos (by omega), if_pos (by omega)] at e
    simp only [World.cell?, hg, Option.isSome_none, Bool.false_eq_true, if_false]
    rw [← e.1, ← e.2, Array.getElem?_toList, Array.getElem?_toList]
    exact ⟨rfl, rfl⟩

/-- What a list has become by one more pair. -/
def PairPost (w : World) (v : Value) (P : List (Int × Int)) (v' : Value) (w' : World) : Prop := SlPairs w' v' P ∧ Only (ownL v) w w' ∧ (∀ b ∈ ownL v', b ∈ ownL v ∨ w.heap.size ≤ b)
theorem pair_post {w2 w3 : World} {v v' : Value} {P : List (Int × Int)} {p : Int × Int} {T : TypeId} (hown : w3.ownsRow 0 50 2 v' (P.length + 1) (P.flatMap enc2 ++ [.int .i64 (p.1), .int .i64 (p.2)])) (hgrow : (w2.alloc (.cells #[.int .i64 (p.1), .int .i64 (p.2)] T)).grownBy w3 v.ownBlock)
    (hloc : v'.ownBlock = v.ownBlock ∨ v'.ownBlock = some (w2.alloc (.cells #[.int .i64 (p.1), .int .i64 (p.2)] T)).heap.size) : Hid (PairPost w2 v (P ++ [p]) v' w3) := by
  refine ⟨?_, ?_, ?_⟩
  · unfold SlPairs; rw [List.flatMap_append, List.length_append]; exact hown
  · refine ((Only.refl _ _).alloc _).grown hgrow (fun k hk => Or.inl ?_)
    simp [ownL, hk]
  · intro x hx
    rcases hloc with e | e
    · left; simpa [ownL, e] using hx
    · right
      simp only [ownL, e, Option.toList_some, List.mem_singleton] at hx
      simp at hx; omega
theorem cell_two (w : World) (a b : Value) (t : TypeId) : ∀ j u, [a, b][j]? = some u → (w.alloc (.cells #[a, b] t)).cell? ((⟨w.heap.size, 0, none⟩ : Addr).add j) = some u := by
  intro j u hj
  match j, hj with
  | 0, hj => simp at hj; subst hj; simp [Addr.add]
  | 1, hj => simp at hj; subst hj; simp [Addr.add]
  | j + 2, hj => simp at hj

/-- The pairs that one leaf gives. -/
def above (i : Int) (ys : List Int) : List (Int × Int) := (ys.filter (fun y => decide (i < y))).map (fun y => (i, y))
def pairsAt (L : List Lf) (x : Lf) : List (Int × Int) := above x.id (idsOf x.box L)
theorem above_take_lt {i : Int} {ys : List Int} {j : Nat} (hj : j < ys.length) (h : i < ys[j]) : above i (ys.take (j + 1)) = above i (ys.take j) ++ [(i, ys[j])] := by
  unfold above
  rw [List.take_succ_eq_append_getElem hj, List.filter_append, List.map_append]
  congr 1
  simp [List.filter_cons, h]
theorem above_take_ge {i : Int} {ys : List Int} {j : Nat} (hj : j < ys.length) (h : ¬ i < ys[j]) : above i (ys.take (j + 1)) = above i (ys.take j) := by
  unfold above
  rw [List.take_succ_eq_append_getElem hj, List.filter_append, List.map_append]
  simp only [List.filter_cons, h, decide_false, Bool.false_eq_true, if_false, List.filter_nil, List.map_nil, List.append_nil]
theorem above_le (i : Int) (ys : List Int) : (above i ys).length ≤ ys.length := by unfold above; rw [List.length_map]; exact List.length_filter_le _ _
def sort2 (P : List (Int × Int)) : List (Int × Int) := P.mergeSort (fun x y => !decide (cmp2 y x < 0))
/-- What the sort is to do. -/
def Sorts : Prop := ∀ (w : World) (v : Value) (P : List (Int × Int)), SlPairs w v P → P.length ≤ 100000 →
  Calls Tryz.prog 24 #[v, .func (.func 25) #[] #[]] w fun e w' => e = .returned (.tuple #[]) ∧ SlPairs w' v (sort2 P) ∧ Only (ownL v) w w'

theorem ranges_only {w w' : World} {D : List Nat} {m r n : Nat} {MD : DataW Unit} {left : Lit → Bool} {cnt : Nat} (h : w.ranges Tryz.prog 3 nodeElem m r n MD left cnt) (o : Only D w w') (hm : m ∉ D) (hr : r ∉ D) : w'.ranges Tryz.prog 3 nodeElem m r n MD left cnt := by
  have h1 := h.owns.lt
  have h2 := h.lt
  obtain ⟨es, clock, since, seen, c0, hb, F, hs, hD, hrr, rest⟩ := h
  exact ⟨es, clock, since, seen, c0, (o.block m h1 hm).trans hb, F, hs, hD, (o.block r h2 hr).trans hrr, rest⟩
theorem ranges_apart {w : World} {m r n : Nat} {MD : DataW Unit} {left : Lit → Bool} {cnt : Nat} (h : w.ranges Tryz.prog 3 nodeElem m r n MD left cnt) {v : Value} {P : List (Int × Int)} (hv : SlPairs w v P) : m ∉ ownL v ∧ r ∉ ownL v := by
  obtain ⟨es, clock, since, seen, c0, hb, F, hs, hD, hrr, rest⟩ := h
  obtain ⟨_, ⟨rfl, _⟩ | ⟨g, cap, cur, rfl, _, hg, _⟩⟩ := hv
  · simp [ownL, Value.ownBlock]
  · simp only [ownL, Value.ownBlock, Option.toList_some, List.mem_singleton]
    refine ⟨fun e => ?_, fun e => ?_⟩
    · rw [e, hg] at hb; cases hb
    · rw [e, hg] at hrr; cases hrr
/-- As the loop over the book goes: what has come, and what is still to come. -/
structure PL (w : World) (L : List Lf) (m r : Nat) (MD : DataW Unit) (cnt : Nat) (v : Value) (dn rem : List Lf) (left : Lit → Bool) (wr : World) : Prop where
  rng : wr.ranges Tryz.prog 3 nodeElem m r L.length MD left cnt
  perm : L.Perm (dn ++ rem)
  lft : ∀ i, left (key i) = true ↔ i ∈ rem.map Lf.id
  sl : SlPairs wr v (dn.flatMap (pairsAt L))
  only : Only [] w wr
  new : ∀ b ∈ ownL v, w.heap.size ≤ b
  rnew : w.heap.size ≤ r
theorem sameKey_key (i j : Int) : (key i).sameKey (key j) = decide (i = j) := by
  by_cases h : i = j
  · subst h; simp [WideAt.sameKey_self (keyLit i)]
  · rw [Maps.sameKey_ne (key_ne h)]; simp [h]
theorem pairs_len {L dn rem : List Lf} (p : L.Perm (dn ++ rem)) (h : L.length ≤ 60) : (dn.flatMap (pairsAt L)).length ≤ 3600 := by
  have h1 : ∀ x : Lf, (pairsAt L x).length ≤ 60 := fun x => Nat.le_trans (above_le _ _) (Nat.le_trans (by unfold idsOf; rw [List.length_map]; exact List.length_filter_le _ _) h)
  have h2 : ∀ D : List Lf, (D.flatMap (pairsAt L)).length ≤ 60 * D.length := by
    intro D
    induction D with
    | nil => simp
    | cons x D ih => simp only [List.flatMap_cons, List.length_append, List.length_cons]; have := h1 x; omega
  have h3 := h2 dn
  have := p.length_eq
  simp only [List.length_append] at this
  omega
end Go.Proofs.YtdhbcgdlmkkdfaaGreatDoor
