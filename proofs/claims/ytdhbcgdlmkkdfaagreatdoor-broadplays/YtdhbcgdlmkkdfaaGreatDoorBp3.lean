/- The law's own map of boxes as it lies in memory. -/
import Derived.Test.YtdhbcgdlmkkdfaaGreatDoorBp2
namespace Go.Proofs.YtdhbcgdlmkkdfaaGreatDoor
open Go.ChangeShapes Go.WideShapes Go.ChangeAt Go.RowKit
open Go.Maps (Keyed)
set_option linter.unusedVariables false
set_option linter.unusedSimpArgs false

def boxV (q : Bx) : Value := .agg #[.int .i64 (q.x0), .int .i64 (q.x1), .int .i64 (q.x2), .int .i64 (q.x3), .int .i64 (q.x4), .int .i64 (q.x5)]
def boxD (q : Bx) : DataW Unit := .agg [.lit (.int .i64 q.x0), .lit (.int .i64 q.x1), .lit (.int .i64 q.x2), .lit (.int .i64 q.x3), .lit (.int .i64 q.x4), .lit (.int .i64 q.x5)]
/-- How an element of the map reads: a box by its six numbers. -/
def boxElem (v : Value) : Option (DataW Unit × List MemPlace) :=
  match v with
  | .agg a => match a.toList with
    | [.int .i64 a0, .int .i64 a1, .int .i64 a2, .int .i64 a3, .int .i64 a4, .int .i64 a5] => some (boxD ⟨a0, a1, a2, a3, a4, a5⟩, [])
    | _ => none
  | _ => none
theorem boxElem_of (q : Bx) : boxElem (boxV q) = some (boxD q, []) := rfl
theorem boxElem_some {v : Value} {q : Bx} {ps : List MemPlace} (h : boxElem v = some (boxD q, ps)) : v = boxV q := by
  unfold boxElem at h
  split at h
  · rename_i a
    split at h
    · rename_i a0 a1 a2 a3 a4 a5 he
      simp only [boxD, Option.some.injEq, Prod.mk.injEq, DataW.agg.injEq, List.cons.injEq, DataW.lit.injEq, Lit.int.injEq, true_and, and_true] at h
      obtain ⟨⟨rfl, rfl, rfl, rfl, rfl, rfl⟩, _⟩ := h
      have : a = a.toList.toArray := by simp
      rw [this, he]; rfl
    · cases h
  · cases h
structure BookM (D : DataW Unit) (M : List (Int × Bx)) : Prop where
  tidy : Maps.Tidy D
  nodup : (M.map Prod.fst).Nodup
  there : ∀ p ∈ M, D.atKey (key p.1) (boxD bx0) = boxD p.2
  has : ∀ i, Maps.has D (key i) = true ↔ i ∈ M.map Prod.fst
  size : Maps.size D = M.length
theorem BookM.gone {D : DataW Unit} {M : List (Int × Bx)} (h : BookM D M) {i : Int} (hi : i ∉ M.map Prod.fst) : Maps.has D (key i) = false := by
  cases hh : Maps.has D (key i)
  · rfl
  · exact absurd ((h.has i).1 hh) hi
theorem BookM.empty : BookM (.map []) [] := ⟨Maps.tidy_empty, by simp, by simp, fun i => by simp [Maps.has], rfl⟩
theorem del_sub (M : List (Int × Bx)) (i : Int) : ∀ p, p ∈ del M i ↔ p ∈ M ∧ p.1 ≠ i := fun p => by unfold del; simp
theorem del_keys (M : List (Int × Bx)) (i j : Int) : j ∈ (del M i).map Prod.fst ↔ j ∈ M.map Prod.fst ∧ j ≠ i := by
  simp only [List.mem_map, del_sub]
  constructor
  · rintro ⟨p, ⟨h1, h2⟩, rfl⟩; exact ⟨⟨p, h1, rfl⟩, h2⟩
  · rintro ⟨⟨p, h1, rfl⟩, h2⟩; exact ⟨p, ⟨h1, h2⟩, rfl⟩
theorem del_nodup {M : List (Int × Bx)} (h : (M.map Prod.fst).Nodup) (i : Int) : ((del M i).map Prod.fst).Nodup := List.Nodup.sublist ((List.filter_sublist).map _) h
theorem del_len : ∀ {M : List (Int × Bx)}, (M.map Prod.fst).Nodup → ∀ {i : Int}, i ∈ M.map Prod.fst → (del M i).length + 1 = M.length
  | [], _, i, hi => by simp at hi
  | p :: M, hn, i, hi => by
    simp only [List.map_cons, List.nodup_cons] at hn
    by_cases e : p.1 = i
    · have : i ∉ M.map Prod.fst := e ▸ hn.1
      have h1 := del_none this
      unfold del at h1 ⊢
      simp [List.filter_cons, e, h1]
    · have hi' : i ∈ M.map Prod.fst := by
        rcases List.mem_cons.1 hi with q | q
        · exact absurd q.symm e
        · exact q
      have := del_len hn.2 hi'
      unfold del at this ⊢
      simp [List.filter_cons, e, this]
theorem BookM.put {D : DataW Unit} {M : List (Int × Bx)} (h : BookM D M) (i : Int) (q : Bx) : BookM (D.put (key i) (boxD q)) (put M i q) := by
  refine ⟨h.tidy.put (keyLit _) _, ?_, fun p hp => ?_, fun j => ?_, ?_⟩
  · simp only [Go.Proofs.YtdhbcgdlmkkdfaaGreatDoor.put, List.map_cons, List.nodup_cons]
    exact ⟨fun hh => ((del_keys M i i).1 hh).2 rfl, del_nodup h.nodup i⟩
  · rcases List.mem_cons.1 hp with rfl | hp
    · exact Maps.atKey_put_same h.tidy.isMap (keyLit _) _ _
    · obtain ⟨h1, h2⟩ := (del_sub M i p).1 hp
      rw [Maps.atKey_put_other (key_ne h2)]; exact h.there p h1
  · simp only [Go.Proofs.YtdhbcgdlmkkdfaaGreatDoor.put, List.map_cons, List.mem_cons, del_keys]
    by_cases e : j = i
    · subst e; simp [Maps.has_put_same h.tidy.isMap (keyLit _)]
    · rw [Maps.has_put_other (key_ne e), h.has j]; simp [e]
  · rw [Maps.size_put h.tidy]
    simp only [Go.Proofs.YtdhbcgdlmkkdfaaGreatDoor.put, List.length_cons]
    by_cases e : i ∈ M.map Prod.fst
    · rw [(h.has i).2 e, h.size]; have := del_len h.nodup e; simp; omega
    · rw [h.gone e, h.size, del_none e]; simp
theorem BookM.del {D : DataW Unit} {M : List (Int × Bx)} (h : BookM D M) {i : Int} (hi : i ∈ M.map Prod.fst) : BookM (D.del (key i)) (del M i) := by
  refine ⟨h.tidy.del _, del_nodup h.nodup i, fun p hp => ?_, fun j => ?_, ?_⟩
  · obtain ⟨h1, h2⟩ := (del_sub M i p).1 hp
    rw [Maps.atKey_del_other (key_ne h2)]; exact h.there p h1
  · rw [del_keys]
    by_cases e : j = i
    · subst e; rw [Maps.has_del_same]; simp
    · rw [Maps.has_del_other (key_ne e), h.has j]; simp [e]
  · have s := Maps.size_del (k := key i) h.tidy
    rw [(h.has i).2 hi, h.size] at s
    have := del_len h.nodup hi
    simp only [if_true] at s
    omega
/-- The law's map at block m has just these boxes. -/
def BMap (w : World) (m : Nat) (M : List (Int × Bx)) : Prop := ∃ MD : DataW Unit, w.ownsMap Tryz.prog 3 boxElem m M.length MD ∧ BookM MD M
theorem BMap.lt {w : World} {m : Nat} {M : List (Int × Bx)} (h : BMap w m M) : m < w.heap.size := by obtain ⟨_, h1, _⟩ := h; exact h1.lt
theorem BMap.only {D : List Nat} {w w' : World} {m : Nat} {M : List (Int × Bx)} (h : BMap w m M) (o : Only D w w') (s : m ∉ D) : BMap w' m M := by
  obtain ⟨MD, h1, h2⟩ := h
  have hlt := h1.lt
  obtain ⟨es, clock, hb, r⟩ := h1
  exact ⟨MD, ⟨es, clock, (o.block m hlt s).trans hb, r⟩, h2⟩
theorem bmap_fit {w : World} {m n : Nat} {MD : DataW Unit} {M : List (Int × Bx)} (h : w.ownsMap Tryz.prog 3 boxElem m n MD) (b : BookM MD M) : BMap w m M := by
  refine ⟨MD, ?_, b⟩
  obtain ⟨es, clock, hb, F, hs, rfl⟩ := h
  refine ⟨es, clock, hb, F, ?_, rfl⟩
  have := b.size
  simp only [Maps.size, length_sorted, List.length_map, Array.length_toList] at this
  omega
theorem zeroBox (w : World) : (zeroValue 37).run Tryz.prog w = .ok (boxV bx0) w := by kernel_rfl
theorem BMap.look_none {w : World} {m : Nat} {M : List (Int × Bx)} (h : BMap w m M) {i : Int} (hi : In64 i) (hn : i ∉ M.map Prod.fst) : (Instr.lookup 30 (.map (some m)) (.int .i64 i) true).run Tryz.prog w = .ok (.tuple #[boxV bx0, .bool false]) w := by
  obtain ⟨MD, h1, h2⟩ := h
  obtain ⟨v, ps, hr, hv⟩ := h1.look_ok intKey Tryz.underlying30 (zeroBox w) (boxElem_of bx0) (keyIs hi)
  have hf := h2.gone hn
  rw [Maps.atKey_of_not_has hf] at hv
  rw [hr, hf, boxElem_some hv]
theorem BMap.look_some {w : World} {m : Nat} {M : List (Int × Bx)} (h : BMap w m M) {i : Int} {q : Bx} (hi : In64 i) (hx : (i, q) ∈ M) : (Instr.lookup 30 (.map (some m)) (.int .i64 i) true).run Tryz.prog w = .ok (.tuple #[boxV q, .bool true]) w := by
  obtain ⟨MD, h1, h2⟩ := h
  obtain ⟨v, ps, hr, hv⟩ := h1.look_ok intKey Tryz.underlying30 (zeroBox w) (boxElem_of bx0) (keyIs hi)
  rw [h2.there (i, q) hx] at hv
  rw [hr, (h2.has i).2 (List.mem_map_of_mem hx), boxElem_some hv]
theorem BMap.len {w : World} {m : Nat} {M : List (Int × Bx)} (h : BMap w m M) (ty : TypeId) : (Builtin.len_ #[30] ty #[.map (some m)]).run Tryz.prog w = .ok (.int .i64 (M.length)) w := by
  obtain ⟨MD, h1, h2⟩ := h
  rw [h1.len Tryz.underlying30 ty, h2.size]
end Go.Proofs.YtdhbcgdlmkkdfaaGreatDoor
