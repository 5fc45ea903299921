/- gyreref.Delta: its first loop (under way). -/
import Derived.Test.YtedhdmahdioboaaSni
namespace Go.Proofs.Ytedhdmahdioboaa
open Go.ChangeShapes Go.WideShapes Go.ChangeAt Go.RowKit
set_option linter.unusedVariables false
set_option linter.unusedSimpArgs false

/-- While all numbers are gathered. -/
structure PA (w : World) (kb : Nat) (v : Value) (xs : List Int) (wr : World) : Prop where
  own : wr.ownsRow 0 3 1 v xs.length (xs.map (Value.int .i64))
  only : Only [] w wr
  bit : wr.heap[kb]? = some (.cells #[.slice none 0 0] 111)
  new : w.heap.size ≤ kb
  apart : ∀ b ∈ ownL v, kb < b
theorem own_keep {w w' : World} {v : Value} {n : Nat} {xs : List Value} (h : w.ownsRow 0 3 1 v n xs) (o : Only [] w w') : w'.ownsRow 0 3 1 v n xs := by
  obtain ⟨h1, h2⟩ := h
  refine ⟨h1, ?_⟩
  rcases h2 with h2 | ⟨g, cap, cur, rfl, hb, hg, r⟩
  · exact Or.inl h2
  · exact Or.inr ⟨g, cap, cur, rfl, hb, (o.block g (Array.getElem?_eq_some_iff.1 hg).1 (by simp)).trans hg, r⟩
theorem own_lt {w : World} {v : Value} {n : Nat} {xs : List Value} (h : w.ownsRow 0 3 1 v n xs) : ∀ b ∈ ownL v, b < w.heap.size := by
  intro b hb
  obtain ⟨_, ⟨rfl, _⟩ | ⟨g, cap, cur, rfl, _, hg, _⟩⟩ := h
  · simp [ownL, Value.ownBlock] at hb
  · simp only [ownL, Value.ownBlock, Option.toList_some, List.mem_singleton] at hb
    subst hb
    exact (Array.getElem?_eq_some_iff.1 hg).1
theorem PA.keep {w : World} {kb : Nat} {v : Value} {xs : List Int} {wr w' : World} (h : PA w kb v xs wr) (o : Only [] wr w') : PA w kb v xs w' :=
  ⟨own_keep h.own o, h.only.trans o, (o.block kb (Array.getElem?_eq_some_iff.1 h.bit).1 (by simp)).trans h.bit, h.new, h.apart⟩
theorem PA.more {w : World} {kb : Nat} {v v' : Value} {xs : List Int} {wr w3 : World} {id : Int} {T : TypeId} (h : PA w kb v xs wr) (hown : w3.ownsRow 0 3 1 v' (xs.length + 1) (xs.map (Value.int .i64) ++ [.int .i64 id])) (hgrow : (wr.alloc (.cells #[.int .i64 id] T)).grownBy w3 v.ownBlock)
    (hloc : v'.ownBlock = v.ownBlock ∨ v'.ownBlock = some (wr.alloc (.cells #[.int .i64 id] T)).heap.size) : PA w kb v' (xs ++ [id]) w3 := by
  have hk := (Array.getElem?_eq_some_iff.1 h.bit).1
  have o : Only (ownL v) wr w3 := ((Only.refl _ wr).alloc _).grown hgrow (fun k hk => Or.inl (by simp [ownL, hk]))
  refine ⟨by rw [List.map_append, List.length_append]; exact hown, h.only.then o (fun b hb => ?_), (o.block kb hk (fun hb => ?_)).trans h.bit, h.new, fun b hb => ?_⟩
  · right; have := h.apart b hb; have := h.new; omega
  · have := h.apart kb hb; omega
  · rcases hloc with e | e
    · exact h.apart b (by simpa [ownL, e] using hb)
    · simp only [ownL, e, Option.toList_some, List.mem_singleton] at hb
      rw [hb]
      simp
      omega
/-- The gathering's next. -/
theorem drop_cons' {L : List Sn} {i : Nat} (h : i < L.length) : L.drop i = L.getD i zs :: L.drop (i + 1) := by
  rw [List.drop_eq_getElem_cons h]
  congr 1
  simp [List.getD_eq_getElem?_getD, h]
theorem ids_from {F T : List Sn} {i k f : Nat} (hi : i < F.length) (hk : k = T.length) : idsM (f + 1) (F.drop i) (T.drop k) = (F.getD i zs).id :: idsM f (F.drop (i + 1)) (T.drop k) := by
  have e : T.drop k = [] := by rw [hk]; exact List.drop_length
  rw [e, drop_cons' hi, idsM_step (by simp)]
  simp [lowId, takeL]
theorem ids_to {F T : List Sn} {i k f : Nat} (hi : i = F.length) (hk : k < T.length) : idsM (f + 1) (F.drop i) (T.drop k) = (T.getD k zs).id :: idsM f (F.drop i) (T.drop (k + 1)) := by
  have e : F.drop i = [] := by rw [hi]; exact List.drop_length
  rw [e, drop_cons' hk, idsM_step (by simp)]
  simp [lowId, takeL]
theorem ids_eq {F T : List Sn} {i k f : Nat} (hi : i < F.length) (hk : k < T.length) (h : (F.getD i zs).id = (T.getD k zs).id) : idsM (f + 1) (F.drop i) (T.drop k) = (F.getD i zs).id :: idsM f (F.drop (i + 1)) (T.drop (k + 1)) := by
  rw [drop_cons' hi, drop_cons' hk, idsM_step (by simp)]
  simp only [lowId, takeL, h, Int.le_refl, if_true]
theorem ids_lt {F T : List Sn} {i k f : Nat} (hi : i < F.length) (hk : k < T.length) (h : (F.getD i zs).id < (T.getD k zs).id) : idsM (f + 1) (F.drop i) (T.drop k) = (F.getD i zs).id :: idsM f (F.drop (i + 1)) (T.drop k) := by
  rw [drop_cons' hi, drop_cons' hk, idsM_step (by simp)]
  have h1 : (F.getD i zs).id ≤ (T.getD k zs).id := by omega
  have h2 : ¬ (T.getD k zs).id = (F.getD i zs).id := by omega
  simp only [lowId, takeL, h1, h2, if_true, if_false]
theorem ids_gt {F T : List Sn} {i k f : Nat} (hi : i < F.length) (hk : k < T.length) (h : (T.getD k zs).id < (F.getD i zs).id) : idsM (f + 1) (F.drop i) (T.drop k) = (T.getD k zs).id :: idsM f (F.drop i) (T.drop (k + 1)) := by
  rw [drop_cons' hi, drop_cons' hk, idsM_step (by simp)]
  have h1 : ¬ (F.getD i zs).id ≤ (T.getD k zs).id := by omega
  have h2 : ¬ (F.getD i zs).id = (T.getD k zs).id := by omega
  simp only [lowId, takeL, h1, h2, if_true, if_false]
end Go.Proofs.Ytedhdmahdioboaa
