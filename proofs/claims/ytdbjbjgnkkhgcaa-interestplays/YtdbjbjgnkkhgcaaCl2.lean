/- A map of numbers to whatever values, in memory: its entries as a list of numbers and values (whatever the order); made, looked up, stored into, deleted from. -/
import Derived.Test.YtdbjbjgnkkhgcaaSg1
import Derived.Maps.OwnSet
namespace Go.Proofs.Ytdbjbjgnkkhgcaa
open Go.ChangeShapes Go.WideShapes Go.ChangeAt Go.RowKit
open Go.Maps (Keyed)
set_option linter.unusedVariables false
set_option linter.unusedSimpArgs false

/-- An element reads as itself. -/
def anyElem (v : Value) : Option (DataW Value × List MemPlace) := some (.held v, [])
@[reducible] def keyV (i : Int) : Lit := .int .i64 i
theorem keyV_ne {i j : Int} (h : i ≠ j) : keyV i ≠ keyV j := fun e => h (by injection e)
theorem keyV_lit (i : Int) : WideAt.IsKeyLit (keyV i) := trivial
/-- A map has just these entries. -/
structure Bk (D : DataW Value) (L : List (Int × Value)) : Prop where
  tidy : Maps.Tidy D
  nodup : (L.map Prod.fst).Nodup
  there : ∀ x ∈ L, ∀ z, D.atKey (keyV x.1) z = .held x.2
  has : ∀ i, Maps.has D (keyV i) = true ↔ i ∈ L.map Prod.fst
  size : Maps.size D = L.length
theorem Bk.perm {D : DataW Value} {L L' : List (Int × Value)} (h : Bk D L) (p : L.Perm L') : Bk D L' :=
  ⟨h.tidy, (p.map _).nodup h.nodup, fun x hx => h.there x (p.mem_iff.2 hx), fun i => (h.has i).trans (p.map _).mem_iff, h.size.trans p.length_eq⟩
theorem Bk.gone {D : DataW Value} {L : List (Int × Value)} (h : Bk D L) {i : Int} (hi : i ∉ L.map Prod.fst) : Maps.has D (keyV i) = false := by
  cases hh : Maps.has D (keyV i)
  · rfl
  · exact absurd ((h.has i).1 hh) hi
theorem Bk.empty : Bk (.map []) [] := ⟨Maps.tidy_empty, by simp, by simp, fun i => by simp [Maps.has], rfl⟩
theorem Bk.put {D : DataW Value} {L : List (Int × Value)} (h : Bk D L) {x : Int × Value} (hx : x.1 ∉ L.map Prod.fst) : Bk (D.put (keyV x.1) (.held x.2)) (x :: L) := by
  refine ⟨h.tidy.put (keyV_lit _) _, by simp only [List.map_cons, List.nodup_cons]; exact ⟨hx, h.nodup⟩, fun y hy => ?_, fun i => ?_, ?_⟩
  · rcases List.mem_cons.1 hy with rfl | hy
    · exact fun z => Maps.atKey_put_same h.tidy.isMap (keyV_lit _) _ _
    · intro z
      rw [Maps.atKey_put_other (keyV_ne (fun e => hx (by rw [← e]; exact List.mem_map_of_mem hy)))]; exact h.there y hy z
  · by_cases e : i = x.1
    · subst e; simp [Maps.has_put_same h.tidy.isMap (keyV_lit _)]
    · rw [Maps.has_put_other (keyV_ne e), h.has i]; simp [e]
  · rw [Maps.size_put h.tidy, h.gone hx]; simp [h.size]
/-- A number that is there gets another value. -/
theorem Bk.swap {D : DataW Value} {L : List (Int × Value)} {x y : Int × Value} (h : Bk D (x :: L)) (e : y.1 = x.1) : Bk (D.put (keyV y.1) (.held y.2)) (y :: L) := by
  have hn := h.nodup
  simp only [List.map_cons, List.nodup_cons] at hn
  refine ⟨h.tidy.put (keyV_lit _) _, by simp only [List.map_cons, List.nodup_cons, e]; exact hn, fun z hz => ?_, fun i => ?_, ?_⟩
  · rcases List.mem_cons.1 hz with rfl | hz
    · exact fun d => Maps.atKey_put_same h.tidy.isMap (keyV_lit _) _ _
    · intro d
      rw [Maps.atKey_put_other (keyV_ne (fun q => hn.1 (by rw [← e, ← q]; exact List.mem_map_of_mem hz)))]; exact h.there z (List.mem_cons_of_mem _ hz) d
  · by_cases q : i = y.1
    · subst q; simp [Maps.has_put_same h.tidy.isMap (keyV_lit _)]
    · rw [Maps.has_put_other (keyV_ne q), h.has i]; simp [e]
  · rw [Maps.size_put h.tidy, (h.has y.1).2 (by simp [e])]; simp [h.size]
theorem Bk.del {D : DataW Value} {L : List (Int × Value)} {x : Int × Value} (h : Bk D (x :: L)) : Bk (D.del (keyV x.1)) L := by
  have hn := h.nodup
  simp only [List.map_cons, List.nodup_cons] at hn
  have ne : ∀ y ∈ L, y.1 ≠ x.1 := fun y hy e => hn.1 (by rw [← e]; exact List.mem_map_of_mem hy)
  refine ⟨h.tidy.del _, hn.2, fun y hy => ?_, fun i => ?_, ?_⟩
  · intro z
    rw [Maps.atKey_del_other (keyV_ne (ne y hy))]; exact h.there y (List.mem_cons_of_mem _ hy) z
  · by_cases e : i = x.1
    · subst e; rw [Maps.has_del_same]; simp only [Bool.false_eq_true, false_iff]; exact hn.1
    · rw [Maps.has_del_other (keyV_ne e), h.has i]; simp [e]
  · have s := Maps.size_del (k := keyV x.1) h.tidy
    rw [(h.has x.1).2 (by simp), h.size] at s
    simp only [if_true, List.length_cons] at s
    omega

theorem intKeyV : Keyed Try.prog 3 := Maps.int_keyed Try.underlying3
def In64V (i : Int) : Prop := (Lit.int .i64 i).wf = true
theorem keyIsV {i : Int} (h : In64V i) : keyOf Try.prog 3 (.int .i64 i) = some (keyV i) := Maps.keyOf_int_mk Try.underlying3 h
/-- A map in memory: none: nil. -/
def MapV (w : World) : Option Nat → List (Int × Value) → Prop
  | none, L => L = []
  | some m, L => ∃ D : DataW Value, w.ownsMap Try.prog 3 anyElem m L.length D ∧ Bk D L
theorem MapV.nodup {w : World} {m : Option Nat} {L : List (Int × Value)} (h : MapV w m L) : (L.map Prod.fst).Nodup := by
  cases m with
  | none => simp only [MapV] at h; subst h; simp
  | some m => obtain ⟨_, _, h⟩ := h; exact h.nodup
theorem MapV.lt {w : World} {m : Nat} {L : List (Int × Value)} (h : MapV w (some m) L) : m < w.heap.size := by
  obtain ⟨_, h, _⟩ := h
  exact h.lt
theorem MapV.made (w : World) : MapV (w.alloc (.map #[] 0)) (some w.heap.size) [] := ⟨_, World.ownsMap_made w Try.prog 3 anyElem, Bk.empty⟩
theorem MapV.only {D : List Nat} {w w' : World} (o : Only D w w') {m : Option Nat} {L : List (Int × Value)} (s : ∀ b ∈ m.toList, b ∉ D) (h : MapV w m L) : MapV w' m L := by
  cases m with
  | none => exact h
  | some m =>
    obtain ⟨MD, h1, h2⟩ := h
    have hlt := h1.lt
    obtain ⟨es, clock, hb, r⟩ := h1
    exact ⟨MD, ⟨es, clock, (o.block m hlt (s m (by simp))).trans hb, r⟩, h2⟩
theorem MapV.perm {w : World} {m : Option Nat} {L L' : List (Int × Value)} (h : MapV w m L) (p : L.Perm L') : MapV w m L' := by
  cases m with
  | none => simp only [MapV] at h ⊢; subst h; exact List.nil_perm.1 p
  | some m => obtain ⟨MD, h1, h2⟩ := h; exact ⟨MD, by rw [← p.length_eq]; exact h1, h2.perm p⟩
theorem ownsMap_fitV {w : World} {m n : Nat} {MD : DataW Value} {L : List (Int × Value)} (h : w.ownsMap Try.prog 3 anyElem m n MD) (b : Bk MD L) : w.ownsMap Try.prog 3 anyElem m L.length MD := by
  obtain ⟨es, clock, hb, F, hs, rfl⟩ := h
  refine ⟨es, clock, hb, F, ?_, rfl⟩
  have := b.size
  simp only [Maps.size, length_sorted, List.length_map, Array.length_toList] at this
  omega
theorem anyElem_some {v u : Value} {ps : List MemPlace} (h : anyElem v = some (.held u, ps)) : v = u := by
  simp only [anyElem, Option.some.injEq, Prod.mk.injEq, DataW.held.injEq] at h
  exact h.1
section
variable {t e : TypeId} {z : Value} {w : World} {m : Option Nat} {L : List (Int × Value)}
/-- 'v, ok := m[i]': there is none. -/
theorem MapV.look_none (ht : Try.prog.underlying t = some (.map 3 e)) (hz : ∀ u : World, (zeroValue e).run Try.prog u = .ok z u) (h : MapV w m L) {i : Int} (hi : In64V i) (hn : i ∉ L.map Prod.fst) : (Instr.lookup t (.map m) (.int .i64 i) true).run Try.prog w = .ok (.tuple #[z, .bool false]) w := by
  cases m with
  | none => exact Maps.look_nil true intKeyV ht (hz w) (keyIsV hi)
  | some m =>
    obtain ⟨MD, h1, h2⟩ := h
    obtain ⟨v, ps, hr, hv⟩ := h1.look_ok intKeyV ht (hz w) (zd := .held z) (zp := []) rfl (keyIsV hi)
    have hf := h2.gone hn
    rw [Maps.atKey_of_not_has hf] at hv
    rw [hr, hf, anyElem_some hv]
theorem MapV.look_some (ht : Try.prog.underlying t = some (.map 3 e)) (hz : ∀ u : World, (zeroValue e).run Try.prog u = .ok z u) (h : MapV w m L) {x : Int × Value} (hi : In64V x.1) (hx : x ∈ L) : (Instr.lookup t (.map m) (.int .i64 x.1) true).run Try.prog w = .ok (.tuple #[x.2, .bool true]) w := by
  cases m with
  | none => simp only [MapV] at h; subst h; simp at hx
  | some m =>
    obtain ⟨MD, h1, h2⟩ := h
    obtain ⟨v, ps, hr, hv⟩ := h1.look_ok intKeyV ht (hz w) (zd := .held z) (zp := []) rfl (keyIsV hi)
    rw [h2.there x hx] at hv
    rw [hr, (h2.has x.1).2 (List.mem_map_of_mem hx), anyElem_some hv]
/-- 'm[i]'. -/
theorem MapV.at_none (ht : Try.prog.underlying t = some (.map 3 e)) (hz : ∀ u : World, (zeroValue e).run Try.prog u = .ok z u) (h : MapV w m L) {i : Int} (hi : In64V i) (hn : i ∉ L.map Prod.fst) : (Instr.lookup t (.map m) (.int .i64 i) false).run Try.prog w = .ok z w := by
  cases m with
  | none => exact Maps.look_nil false intKeyV ht (hz w) (keyIsV hi)
  | some m =>
    obtain ⟨MD, h1, h2⟩ := h
    obtain ⟨v, ps, hr, hv⟩ := h1.lookup intKeyV ht (hz w) (zd := .held z) (zp := []) rfl (keyIsV hi)
    have hf := h2.gone hn
    rw [Maps.atKey_of_not_has hf] at hv
    rw [hr, anyElem_some hv]
theorem MapV.at_some (ht : Try.prog.underlying t = some (.map 3 e)) (hz : ∀ u : World, (zeroValue e).run Try.prog u = .ok z u) (h : MapV w m L) {x : Int × Value} (hi : In64V x.1) (hx : x ∈ L) : (Instr.lookup t (.map m) (.int .i64 x.1) false).run Try.prog w = .ok x.2 w := by
  cases m with
  | none => simp only [MapV] at h; subst h; simp at hx
  | some m =>
    obtain ⟨MD, h1, h2⟩ := h
    obtain ⟨v, ps, hr, hv⟩ := h1.lookup intKeyV ht (hz w) (zd := .held z) (zp := []) rfl (keyIsV hi)
    rw [h2.there x hx] at hv
    rw [hr, anyElem_some hv]
theorem MapV.len (ht : Try.prog.underlying t = some (.map 3 e)) (h : MapV w m L) (ty : TypeId) : (Builtin.len_ #[t] ty #[.map m]).run Try.prog w = .ok (.int .i64 (L.length)) w := by
  cases m with
  | none => simp only [MapV] at h; subst h; exact Maps.len_nil ht ty
  | some m =>
    obtain ⟨MD, h1, h2⟩ := h
    rw [h1.len ht ty, h2.size]
/-- 'm[i] = v': a new one. -/
theorem MapV.store (ht : Try.prog.underlying t = some (.map 3 e)) {b : Nat} (h : MapV w (some b) L) (hl : L.length < maxLen) {x : Int × Value} (hi : In64V x.1) (hx : x.1 ∉ L.map Prod.fst) :
    ∃ w', (Instr.mapUpdate t (.map (some b)) (.int .i64 x.1) x.2).run Try.prog w = .ok () w' ∧ MapV w' (some b) (x :: L) ∧ w.mapTurned w' b := by
  obtain ⟨MD, h1, h2⟩ := h
  obtain ⟨w', hr, ho, htu⟩ := h1.store intKeyV ht hl (keyIsV hi) (val := x.2) (d := .held x.2) (ps := []) rfl
  exact ⟨w', hr, ⟨_, ho, h2.put hx⟩, htu⟩
/-- 'm[i] = v': one that is there. -/
theorem MapV.over (ht : Try.prog.underlying t = some (.map 3 e)) {b : Nat} {x y : Int × Value} (h : MapV w (some b) (x :: L)) (hl : L.length + 1 < maxLen) (hi : In64V y.1) (e : y.1 = x.1) :
    ∃ w', (Instr.mapUpdate t (.map (some b)) (.int .i64 y.1) y.2).run Try.prog w = .ok () w' ∧ MapV w' (some b) (y :: L) ∧ w.mapTurned w' b := by
  obtain ⟨MD, h1, h2⟩ := h
  obtain ⟨w', hr, ho, htu⟩ := h1.store intKeyV ht hl (keyIsV hi) (val := y.2) (d := .held y.2) (ps := []) rfl
  exact ⟨w', hr, ⟨_, ownsMap_fitV ho (h2.swap e), h2.swap e⟩, htu⟩
/-- 'delete(m, i)': one that is there. -/
theorem MapV.del (ht : Try.prog.underlying t = some (.map 3 e)) {b : Nat} {x : Int × Value} (h : MapV w (some b) (x :: L)) (hi : In64V x.1) (ty : TypeId) :
    ∃ w', (Builtin.delete_ #[t, 3] ty #[.map (some b), .int .i64 x.1]).run Try.prog w = .ok (.tuple #[]) w' ∧ MapV w' (some b) L ∧ w.mapTurned w' b := by
  obtain ⟨MD, h1, h2⟩ := h
  obtain ⟨w', hr, ho, htu⟩ := h1.drop intKeyV ht (keyIsV hi) ty
  exact ⟨w', hr, ⟨_, ownsMap_fitV ho h2.del, h2.del⟩, htu⟩
end
end Go.Proofs.Ytdbjbjgnkkhgcaa
