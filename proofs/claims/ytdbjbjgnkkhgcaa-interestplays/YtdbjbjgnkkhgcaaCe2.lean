/- Spots of package interest in rows of their own: loads, stores; slices.IndexFunc and slices.DeleteFunc of the one with a number. -/
import Derived.Test.YtdbjbjgnkkhgcaaCe1
import Derived.Test.YtdbjbjgnkkhgcaaSli
import Derived.Deep.MidRow
namespace Go.Proofs.Ytdbjbjgnkkhgcaa
open Go.ChangeShapes Go.WideShapes Go.ChangeAt Go.RowKit
set_option linter.unusedVariables false
set_option linter.unusedSimpArgs false

def spC (s : Spt) : Nat → Value
  | 0 => .int .i64 (s.id)
  | 1 => .int .i64 (s.tm)
  | 2 => .int .i64 (s.bx.x0)
  | 3 => .int .i64 (s.bx.x1)
  | 4 => .int .i64 (s.bx.x2)
  | 5 => .int .i64 (s.bx.x3)
  | 6 => .int .i64 (s.bx.x4)
  | 7 => .int .i64 (s.bx.x5)
  | _ => undef
def spL (s : Spt) : List Value := [.int .i64 (s.id), .int .i64 (s.tm), .int .i64 (s.bx.x0), .int .i64 (s.bx.x1), .int .i64 (s.bx.x2), .int .i64 (s.bx.x3), .int .i64 (s.bx.x4), .int .i64 (s.bx.x5)]
def spV (s : Spt) : Value := .agg #[.int .i64 (s.id), .int .i64 (s.tm), .int .i64 (s.bx.x0), .int .i64 (s.bx.x1), .int .i64 (s.bx.x2), .int .i64 (s.bx.x3), .int .i64 (s.bx.x4), .int .i64 (s.bx.x5)]
theorem spL_at (s : Spt) (k : Nat) (hk : k < 8) : (spL s)[k]? = some (spC s k) := by
  match k, hk with
  | 0, _ => rfl
  | 1, _ => rfl
  | 2, _ => rfl
  | 3, _ => rfl
  | 4, _ => rfl
  | 5, _ => rfl
  | 6, _ => rfl
  | 7, _ => rfl
  | k + 8, h => exact absurd h (by omega)
theorem spL_len (s : Spt) : (spL s).length = 8 := rfl
theorem spotSize : (Try.prog.info? 61).map (·.size) = some 8 := by kernel_rfl
theorem spotInfo : (Try.prog.info? 61).map (fun i => (i.zero, i.size, i.bytes)) = some (some (.agg #[.int .i64 0, .int .i64 0, .int .i64 0, .int .i64 0, .int .i64 0, .int .i64 0, .int .i64 0, .int .i64 0]), 8, 64) := by kernel_rfl
theorem one8 (s : Spt) : (spL s).toArray.all (·.oneCell') = true := all_oneCell_toArray (fun v hv => by
  simp only [spL, List.mem_cons, List.not_mem_nil, or_false] at hv
  rcases hv with rfl | rfl | rfl | rfl | rfl | rfl | rfl | rfl <;> rfl)
/-- A row of spots at the head of a block of its own. -/
def RowS (w : World) (g cap : Nat) (l : List Spt) : Prop :=
  ∃ cur : Array Value, w.heap[g]? = some (.cells cur 61) ∧ l.length ≤ cap ∧ cap ≤ maxLen ∧ cur.size = cap * 8 ∧ ∀ (j : Nat) (hj : j < l.length) (k : Nat), k < 8 → cur[j * 8 + k]? = some (spC l[j] k)
theorem RowS.only {D : List Nat} {w w' : World} {g cap : Nat} {l : List Spt} (h : RowS w g cap l) (o : Only D w w') (s : g ∉ D) : RowS w' g cap l := by
  obtain ⟨cur, h1, r⟩ := h
  exact ⟨cur, (o.block g (Array.getElem?_eq_some_iff.1 h1).1 s).trans h1, r⟩
theorem RowS.lt {w : World} {g cap : Nat} {l : List Spt} (h : RowS w g cap l) : g < w.heap.size := by
  obtain ⟨cur, h1, r⟩ := h
  exact (Array.getElem?_eq_some_iff.1 h1).1
theorem RowS.cap {w : World} {g cap : Nat} {l : List Spt} (h : RowS w g cap l) : l.length ≤ cap ∧ cap ≤ maxLen := by
  obtain ⟨cur, h1, h2, h3, r⟩ := h
  exact ⟨h2, h3⟩
theorem RowS.cell {w : World} {g cap : Nat} {l : List Spt} (h : RowS w g cap l) {j : Nat} (hj : j < l.length) {k : Nat} (hk : k < 8) : w.cell? ⟨g, j * 8 + k, none⟩ = some (spC l[j] k) := by
  obtain ⟨cur, h1, h2, h3, h4, h5⟩ := h
  simp only [World.cell?, h1, Option.isSome_none, Bool.false_eq_true, if_false]
  exact h5 j hj k hk
theorem RowS.range {w : World} {g cap : Nat} {l : List Spt} (h : RowS w g cap l) {j : Nat} (hj : j < l.length) : w.rangeAt g (j * 8) (spL l[j]) := fun k v hv => by
  have hk : k < 8 := by have := (List.getElem?_eq_some_iff.1 hv).1; rw [spL_len] at this; exact this
  rw [spL_at _ k hk] at hv
  injection hv with hv
  rw [← hv]
  exact h.cell hj hk
theorem RowS.there {w : World} {g cap : Nat} {l : List Spt} (h : RowS w g cap l) {j : Nat} (hj : j < cap) : w.there g (j * 8) 8 := fun k hk => by
  obtain ⟨cur, h1, h2, h3, h4, h5⟩ := h
  have h6 : j * 8 + k < cur.size := by omega
  simp [World.cell?, World.frozen?, h1, h6]
theorem RowS.less {w : World} {g cap : Nat} {l m : List Spt} (h : RowS w g cap (l ++ m)) : RowS w g cap l := by
  obtain ⟨cur, h1, h2, h3, h4, h5⟩ := h
  simp only [List.length_append] at h2
  refine ⟨cur, h1, by omega, h3, h4, fun j hj k hk => ?_⟩
  have := h5 j (by simp; omega) k hk
  rw [List.getElem_append_left hj] at this
  exact this
/-- Cells put one behind the other. -/
def putL (cur : Array Value) (o : Nat) : List Value → Array Value
  | [] => cur
  | v :: vs => putL (cur.setIfInBounds o v) (o + 1) vs
theorem putL_size (vs : List Value) : ∀ (cur : Array Value) (o : Nat), (putL cur o vs).size = cur.size := by
  induction vs with
  | nil => intro cur o; rfl
  | cons v vs ih => intro cur o; rw [putL, ih]; simp
theorem putL_off (vs : List Value) : ∀ (cur : Array Value) (o i : Nat), (i < o ∨ o + vs.length ≤ i) → (putL cur o vs)[i]? = cur[i]? := by
  induction vs with
  | nil => intro cur o i h; rfl
  | cons v vs ih =>
    intro cur o i h
    simp only [List.length_cons] at h
    rw [putL, ih _ _ _ (by omega), Array.getElem?_setIfInBounds_ne (by omega)]
theorem putL_on (vs : List Value) : ∀ (cur : Array Value) (o k : Nat), k < vs.length → o + vs.length ≤ cur.size → (putL cur o vs)[o + k]? = vs[k]? := by
  induction vs with
  | nil => intro cur o k h; simp at h
  | cons v vs ih =>
    intro cur o k h hs
    simp only [List.length_cons] at h hs
    cases k with
    | zero => rw [putL, Nat.add_zero, putL_off _ _ _ _ (by omega), Array.getElem?_setIfInBounds]; simp; omega
    | succ k =>
      rw [putL, show o + (k + 1) = o + 1 + k by omega, ih _ _ _ (by omega) (by simp; omega)]; simp
theorem setCells_block {t : TypeId} (vs : List Value) : ∀ (w : World) (g o : Nat) (cur : Array Value), w.heap[g]? = some (.cells cur t) → (w.setCells g o vs).heap[g]? = some (.cells (putL cur o vs) t) := by
  induction vs with
  | nil => intro w g o cur h; exact h
  | cons v vs ih => intro w g o cur h; exact ih _ g (o + 1) _ (heap_put h o v)
theorem Only.setCellsS {D : List Nat} {a w : World} (h : Only D a w) (b : Nat) (hb : b ∈ D ∨ a.heap.size ≤ b) (vs : List Value) : ∀ (o : Nat), Only D a (w.setCells b o vs) := by
  induction vs generalizing w with
  | nil => intro o; exact h
  | cons v vs ih => intro o; exact ih (h.setCell (p := ⟨b, o, none⟩) hb v) (o + 1)
theorem RowS.set {w : World} {g cap : Nat} {l : List Spt} (h : RowS w g cap l) {j : Nat} (hj : j < l.length) (s : Spt) : RowS (w.setCells g (j * 8) (spL s)) g cap (l.set j s) := by
  obtain ⟨cur, h1, h2, h3, h4, h5⟩ := h
  refine ⟨_, setCells_block _ _ _ _ _ h1, by simpa using h2, h3, by rw [putL_size]; exact h4, fun i hi k hk => ?_⟩
  rw [List.length_set] at hi
  by_cases e : i = j
  · subst e
    rw [putL_on _ _ _ _ (by rw [spL_len]; exact hk) (by rw [spL_len]; omega), spL_at _ _ hk]; simp
  · rw [putL_off _ _ _ _ (by rw [spL_len]; omega), h5 i hi k hk, List.getElem_set_ne (by omega)]
end Go.Proofs.Ytdbjbjgnkkhgcaa
