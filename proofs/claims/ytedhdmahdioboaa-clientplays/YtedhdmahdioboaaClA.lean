/- A client (chapter 11): what both of them have, as plain lists; what both do with a piece is the same: plain facts. -/
import Derived.Test.YtedhdmahdioboaaBase
import Derived.Test.YtedhdmahdioboaaSg1
import Derived.Maps.OwnSet
import Derived.Carry
import Derived.Maps.RangeWalk
import Derived.Deep.LoopGhost
namespace Go.Proofs.Ytedhdmahdioboaa
set_option linter.unusedVariables false
set_option linter.unusedSimpArgs false

/-- A piece that came: its four numbers, its bytes. -/
structure Gt where
  (st ba ix mn : Int)
  by_ : List Nat
/-- What a client has: views by their steps, the newest one's step, the pieces that are gathered (in the order in which they came). -/
structure Cst (V : Type) where
  views : List (Int × V)
  newest : Int
  got : List Gt
variable {V : Type}

/-- Those that belong to a piece: none of another base, of another many, of its own index. -/
def fitsC (l : List Gt) (p : Gt) : Bool := l.all fun q => q.ba == p.ba && q.mn == p.mn && q.ix != p.ix
/-- The bytes of all pieces, by their index. -/
def joinC (l : List Gt) : Nat → List Nat
  | 0 => []
  | n + 1 => joinC l n ++ (l.filter fun q => q.ix == (n : Int)).flatMap Gt.by_
/-- Which piece of an index there is. -/
def findC (l : List Gt) (i : Int) : Option Gt := l.find? fun q => q.ix == i
def viewC (l : List (Int × V)) (i : Int) : Option V := (l.find? fun e => e.1 == i).map Prod.snd
/-- Those views that may stay a base. -/
def keepC (r : Int) (l : List (Int × V)) (st : Int) : List (Int × V) := l.filter fun e => decide (e.1 < 1) || decide (e.1 > st - r)

/-- The pieces that a piece of a step finds. -/
def oldC (s : Cst V) (p : Gt) : List Gt := s.got.filter fun q => decide (q.st = p.st)
/-- Whether a piece is too old. -/
def lateC (s : Cst V) (p : Gt) : Bool := decide (p.st ≤ s.newest) || s.got.any fun q => decide (p.st < q.st)
/-- What comes of a piece: whether a view is there by it, and what the client has then. -/
def feedC (r : Int) (ap : V → List Nat → Option V) (s : Cst V) (p : Gt) : Bool × Cst V :=
  if lateC s p then (false, s) else
  if fitsC (oldC s p) p then
    if ((oldC s p).length : Int) + 1 < p.mn then (false, { s with got := oldC s p ++ [p] }) else
    match viewC s.views p.ba with
    | none => (false, { s with got := [] })
    | some f => match ap f (joinC (oldC s p ++ [p]) p.mn.toNat) with
      | none => (false, { s with got := [] })
      | some t => (true, { views := (p.st, t) :: keepC r s.views p.st, newest := p.st, got := [] })
  else (false, s)

/-- What holds of whatever a client has. -/
structure CstOk (r : Int) (s : Cst V) : Prop where
  pos : 0 ≤ s.newest
  some_ : ∀ q ∈ s.got, s.newest < q.st
  same : ∀ q ∈ s.got, ∀ q' ∈ s.got, q.st = q'.st ∧ q.ba = q'.ba ∧ q.mn = q'.mn
  apart : (s.got.map Gt.ix).Nodup
  zero : 0 ∈ s.views.map Prod.fst
  keys : (s.views.map Prod.fst).Nodup
  range : ∀ e ∈ s.views, 0 ≤ e.1 ∧ e.1 ≤ s.newest
  few : ∀ q ∈ s.got, (s.got.length : Int) < q.mn

/-- The pieces that are found are all there are, or none. -/
theorem oldC_cases {r : Int} {s : Cst V} (h : CstOk r s) (p : Gt) : (oldC s p = s.got ∧ ∀ q ∈ s.got, q.st = p.st) ∨ (oldC s p = [] ∧ ∀ q ∈ s.got, q.st ≠ p.st) := by
  unfold oldC
  by_cases k : ∃ q ∈ s.got, q.st = p.st
  · obtain ⟨q, hq, e⟩ := k
    have : ∀ x ∈ s.got, x.st = p.st := fun x hx => ((h.same x hx q hq).1).trans e
    exact Or.inl ⟨List.filter_eq_self.2 fun x hx => by simp [this x hx], this⟩
  · have : ∀ x ∈ s.got, x.st ≠ p.st := fun x hx e => k ⟨x, hx, e⟩
    exact Or.inr ⟨List.filter_eq_nil_iff.2 fun x hx => by simp [this x hx], this⟩
theorem fitsC_iff {l : List Gt} {p : Gt} : fitsC l p = true ↔ ∀ q ∈ l, q.ba = p.ba ∧ q.mn = p.mn ∧ q.ix ≠ p.ix := by
  simp [fitsC, and_assoc]
/-- Of pieces of different indices one at most has an index. -/
theorem filter_one {l : List Gt} (h : (l.map Gt.ix).Nodup) (i : Int) : (l.filter fun q => q.ix == i) = (findC l i).toList := by
  unfold findC
  induction l with
  | nil => rfl
  | cons q l ih =>
    rw [List.map_cons, List.nodup_cons] at h
    rw [List.filter_cons, List.find?_cons]
    by_cases e : q.ix = i
    · have : (l.filter fun q => q.ix == i) = [] := List.filter_eq_nil_iff.2 fun x hx => by
        simp only [beq_iff_eq]
        exact fun e' => h.1 (List.mem_map.2 ⟨x, hx, e'.trans e.symm⟩)
      simp [e, this]
    · have e' : (q.ix == i) = false := by simpa using e
      simp only [e', Bool.false_eq_true, if_false]
      exact ih h.2
/-- The bytes, piece by piece. -/
theorem joinC_succ {l : List Gt} (h : (l.map Gt.ix).Nodup) (n : Nat) : joinC l (n + 1) = joinC l n ++ ((findC l (n : Int)).map Gt.by_).getD [] := by
  rw [joinC, filter_one h]
  cases findC l (n : Int) <;> simp
/-- How many views there are is told by their steps alone. -/
theorem keys_len {l l' : List Int} (h : l.Nodup) (h' : l'.Nodup) (e : ∀ x, x ∈ l ↔ x ∈ l') : l.length = l'.length := ((List.perm_ext_iff_of_nodup h h').2 fun {x} => e x).length_eq
theorem CstOk.first (r : Int) (v : V) : CstOk r ({ views := [(0, v)], newest := 0, got := [] } : Cst V) where
  pos := by simp
  some_ := by simp
  same := by simp
  apart := by simp
  zero := by simp
  keys := by simp
  range := by simp
  few := by simp
theorem keep_keys {r : Int} {l : List (Int × V)} {st : Int} (h : (l.map Prod.fst).Nodup) : ((keepC r l st).map Prod.fst).Nodup := h.sublist (List.Sublist.map _ (List.filter_sublist))
theorem CstOk.feed {r : Int} {ap : V → List Nat → Option V} {s : Cst V} (h : CstOk r s) {p : Gt} : CstOk r (feedC r ap s p).2 := by
  have none_ : CstOk r { s with got := [] } := ⟨h.pos, by simp, by simp, by simp, h.zero, h.keys, h.range, by simp⟩
  unfold feedC
  split
  · exact h
  · rename_i hl
    simp only [lateC, Bool.or_eq_true, decide_eq_true_eq, List.any_eq_true, not_or, not_exists, not_and] at hl
    split
    · rename_i hf
      rw [fitsC_iff] at hf
      split
      · rename_i hm
        have hst : ∀ q ∈ oldC s p, q.st = p.st := fun q hq => by simpa using (List.mem_filter.1 hq).2
        have hix : ((oldC s p).map Gt.ix).Nodup := h.apart.sublist (List.Sublist.map _ (List.filter_sublist))
        refine ⟨h.pos, ?_, ?_, ?_, h.zero, h.keys, h.range, ?_⟩
        · intro q hq
          have e : q.st = p.st := by
            rcases List.mem_append.1 hq with k | k
            · exact hst q k
            · rw [List.mem_singleton.1 k]
          show s.newest < q.st
          omega
        · have a : ∀ q ∈ oldC s p ++ [p], q.st = p.st ∧ q.ba = p.ba ∧ q.mn = p.mn := fun q hq => by
            rcases List.mem_append.1 hq with k | k
            · exact ⟨hst q k, (hf q k).1, (hf q k).2.1⟩
            · rw [List.mem_singleton.1 k]; exact ⟨rfl, rfl, rfl⟩
          intro q hq q' hq'
          obtain ⟨a1, a2, a3⟩ := a q hq
          obtain ⟨b1, b2, b3⟩ := a q' hq'
          exact ⟨a1.trans b1.symm, a2.trans b2.symm, a3.trans b3.symm⟩
        · show ((oldC s p ++ [p]).map Gt.ix).Nodup
          rw [List.map_append, List.nodup_append]
          refine ⟨hix, by simp, ?_⟩
          intro x hx y hy
          obtain ⟨q, hq, rfl⟩ := List.mem_map.1 hx
          simp only [List.map_cons, List.map_nil, List.mem_singleton] at hy
          rw [hy]
          exact (hf q hq).2.2
        · intro q hq
          have e : q.mn = p.mn := by
            rcases List.mem_append.1 hq with k | k
            · exact (hf q k).2.1
            · rw [List.mem_singleton.1 k]
          show ((oldC s p ++ [p]).length : Int) < q.mn
          rw [e, List.length_append, List.length_singleton]
          omega
      · split
        · exact none_
        · split
          · exact none_
          · have hp : s.newest < p.st := by omega
            have hpos := h.pos
            refine ⟨by show 0 ≤ p.st; omega, by simp, by simp, by simp, ?_, ?_, ?_, by simp⟩
            · obtain ⟨e, he, e0⟩ := List.mem_map.1 h.zero
              exact List.mem_map.2 ⟨e, List.mem_cons_of_mem _ (List.mem_filter.2 ⟨he, by simp [e0]⟩), e0⟩
            · show (((p.st, _) :: keepC r s.views p.st).map Prod.fst).Nodup
              rw [List.map_cons, List.nodup_cons]
              refine ⟨fun k => ?_, keep_keys h.keys⟩
              obtain ⟨e, he, e0⟩ := List.mem_map.1 k
              have := (h.range e (List.mem_filter.1 he).1).2
              simp only at e0
              omega
            · intro e he
              rcases List.mem_cons.1 he with rfl | k
              · exact ⟨by show 0 ≤ p.st; omega, Int.le_refl _⟩
              · have := h.range e (List.mem_filter.1 k).1
                exact ⟨this.1, by show e.1 ≤ p.st; omega⟩
    · exact h
end Go.Proofs.Ytedhdmahdioboaa
/- A map of numbers to whatever values, in memory: its entries as a list of numbers and values (whatever the order); made, looked up, stored into, deleted from. -/
namespace Go.Proofs.Ytedhdmahdioboaa
open Go.ChangeShapes Go.WideShapes Go.ChangeAt Go.RowKit
open Go.Maps (Keyed)
set_option linter.unusedVariables false
set_option linter.unusedSimpArgs false

/-- An element reads as itself. -/
def anyElem (v : Value) : Option (DataW Value × List MemPlace) := some (.held v, [])
@[reducible] def keyV (i : Int) : Lit := .int .i64 i
theorem keyV_ne {i j : Int} (h : i ≠ j) : keyV i ≠ keyV j := fun e => h (by injection e)
theorem keyV_lit (i : Int) : WideAt.IsKeyLit (keyV i) := trivial
/-- A map has just these entries. -/
structure Bk (D : DataW Value) (L : List (Int × Value)) : Prop where
  tidy : Maps.Tidy D
  nodup : (L.map Prod.fst).Nodup
  there : ∀ x ∈ L, ∀ z, D.atKey (keyV x.1) z = .held x.2
  has : ∀ i, Maps.has D (keyV i) = true ↔ i ∈ L.map Prod.fst
  size : Maps.size D = L.length
theorem Bk.perm {D : DataW Value} {L L' : List (Int × Value)} (h : Bk D L) (p : L.Perm L') : Bk D L' :=
  ⟨h.tidy, (p.map _).nodup h.nodup, fun x hx => h.there x (p.mem_iff.2 hx), fun i => (h.has i).trans (p.map _).mem_iff, h.size.trans p.length_eq⟩
theorem Bk.gone {D : DataW Value} {L : List (Int × Value)} (h : Bk D L) {i : Int} (hi : i ∉ L.map Prod.fst) : Maps.has D (keyV i) = false := by
  cases hh : Maps.has D (keyV i)
  · rfl
  · exact absurd ((h.has i).1 hh) hi
theorem Bk.empty : Bk (.map []) [] := ⟨Maps.tidy_empty, by simp, by simp, fun i => by simp [Maps.has], rfl⟩
theorem Bk.put {D : DataW Value} {L : List (Int × Value)} (h : Bk D L) {x : Int × Value} (hx : x.1 ∉ L.map Prod.fst) : Bk (D.put (keyV x.1) (.held x.2)) (x :: L) := by
  refine ⟨h.tidy.put (keyV_lit _) _, by simp only [List.map_cons, List.nodup_cons]; exact ⟨hx, h.nodup⟩, fun y hy => ?_, fun i => ?_, ?_⟩
  · rcases List.mem_cons.1 hy with rfl | hy
    · exact fun z => Maps.atKey_put_same h.tidy.isMap (keyV_lit _) _ _
    · intro z
      rw [Maps.atKey_put_other (keyV_ne (fun e => hx (by rw [← e]; exact List.mem_map_of_mem hy)))]; exact h.there y hy z
  · by_cases e : i = x.1
    · subst e; simp [Maps.has_put_same h.tidy.isMap (keyV_lit _)]
    · rw [Maps.has_put_other (keyV_ne e), h.has i]; simp [e]
  · rw [Maps.size_put h.tidy, h.gone hx]; simp [h.size]
/-- A number that is there gets another value. -/
theorem Bk.swap {D : DataW Value} {L : List (Int × Value)} {x y : Int × Value} (h : Bk D (x :: L)) (e : y.1 = x.1) : Bk (D.put (keyV y.1) (.held y.2)) (y :: L) := by
  have hn := h.nodup
  simp only [List.map_cons, List.nodup_cons] at hn
  refine ⟨h.tidy.put (keyV_lit _) _, by simp only [List.map_cons, List.nodup_cons, e]; exact hn, fun z hz => ?_, fun i => ?_, ?_⟩
  · rcases List.mem_cons.1 hz with rfl | hz
    · exact fun d => Maps.atKey_put_same h.tidy.isMap (keyV_lit _) _ _
    · intro d
      rw [Maps.atKey_put_other (keyV_ne (fun q => hn.1 (by rw [← e, ← q]; exact List.mem_map_of_mem hz)))]; exact h.there z (List.mem_cons_of_mem _ hz) d
  · by_cases q : i = y.1
    · subst q; simp [Maps.has_put_same h.tidy.isMap (keyV_lit _)]
    · rw [Maps.has_put_other (keyV_ne q), h.has i]; simp [e]
  · rw [Maps.size_put h.tidy, (h.has y.1).2 (by simp [e])]; simp [h.size]
theorem Bk.del {D : DataW Value} {L : List (Int × Value)} {x : Int × Value} (h : Bk D (x :: L)) : Bk (D.del (keyV x.1)) L := by
  have hn := h.nodup
  simp only [List.map_cons, List.nodup_cons] at hn
  have ne : ∀ y ∈ L, y.1 ≠ x.1 := fun y hy e => hn.1 (by rw [← e]; exact List.mem_map_of_mem hy)
  refine ⟨h.tidy.del _, hn.2, fun y hy => ?_, fun i => ?_, ?_⟩
  · intro z
    rw [Maps.atKey_del_other (keyV_ne (ne y hy))]; exact h.there y (List.mem_cons_of_mem _ hy) z
  · by_cases e : i = x.1
    · subst e; rw [Maps.has_del_same]; simp only [Bool.false_eq_true, false_iff]; exact hn.1
    · rw [Maps.has_del_other (keyV_ne e), h.has i]; simp [e]
  · have s := Maps.size_del (k := keyV x.1) h.tidy
    rw [(h.has x.1).2 (by simp), h.size] at s
    simp only [if_true, List.length_cons] at s
    omega

theorem intKeyV : Keyed Try.prog 3 := Maps.int_keyed Try.underlying3
def In64V (i : Int) : Prop := (Lit.int .i64 i).wf = true
theorem keyIsV {i : Int} (h : In64V i) : keyOf Try.prog 3 (.int .i64 i) = some (keyV i) := Maps.keyOf_int_mk Try.underlying3 h
/-- A map in memory: none: nil. -/
def MapV (w : World) : Option Nat → List (Int × Value) → Prop
  | none, L => L = []
  | some m, L => ∃ D : DataW Value, w.ownsMap Try.prog 3 anyElem m L.length D ∧ Bk D L
theorem MapV.nodup {w : World} {m : Option Nat} {L : List (Int × Value)} (h : MapV w m L) : (L.map Prod.fst).Nodup := by
  cases m with
  | none => simp only [MapV] at h; subst h; simp
  | some m => obtain ⟨_, _, h⟩ := h; exact h.nodup
theorem MapV.lt {w : World} {m : Nat} {L : List (Int × Value)} (h : MapV w (some m) L) : m < w.heap.size := by
  obtain ⟨_, h, _⟩ := h
  exact h.lt
theorem MapV.made (w : World) : MapV (w.alloc (.map #[] 0)) (some w.heap.size) [] := ⟨_, World.ownsMap_made w Try.prog 3 anyElem, Bk.empty⟩
theorem MapV.only {D : List Nat} {w w' : World} (o : Only D w w') {m : Option Nat} {L : List (Int × Value)} (s : ∀ b ∈ m.toList, b ∉ D) (h : MapV w m L) : MapV w' m L := by
  cases m with
  | none => exact h
  | some m =>
    obtain ⟨MD, h1, h2⟩ := h
    have hlt := h1.lt
    obtain ⟨es, clock, hb, r⟩ := h1
    exact ⟨MD, ⟨es, clock, (o.block m hlt (s m (by simp))).trans hb, r⟩, h2⟩
theorem MapV.perm {w : World} {m : Option Nat} {L L' : List (Int × Value)} (h : MapV w m L) (p : L.Perm L') : MapV w m L' := by
  cases m with
  | none => simp only [MapV] at h ⊢; subst h; exact List.nil_perm.1 p
  | some m => obtain ⟨MD, h1, h2⟩ := h; exact ⟨MD, by rw [← p.length_eq]; exact h1, h2.perm p⟩
theorem ownsMap_fitV {w : World} {m n : Nat} {MD : DataW Value} {L : List (Int × Value)} (h : w.ownsMap Try.prog 3 anyElem m n MD) (b : Bk MD L) : w.ownsMap Try.prog 3 anyElem m L.length MD := by
  obtain ⟨es, clock, hb, F, hs, rfl⟩ := h
  refine ⟨es, clock, hb, F, ?_, rfl⟩
  have := b.size
  simp only [Maps.size, length_sorted, List.length_map, Array.length_toList] at this
  omega
theorem anyElem_some {v u : Value} {ps : List MemPlace} (h : anyElem v = some (.held u, ps)) : v = u := by
  simp only [anyElem, Option.some.injEq, Prod.mk.injEq, DataW.held.injEq] at h
  exact h.1
section
variable {t e : TypeId} {z : Value} {w : World} {m : Option Nat} {L : List (Int × Value)}
/-- 'v, ok := m[i]': there is none. -/
theorem MapV.look_none (ht : Try.prog.underlying t = some (.map 3 e)) (hz : ∀ u : World, (zeroValue e).run Try.prog u = .ok z u) (h : MapV w m L) {i : Int} (hi : In64V i) (hn : i ∉ L.map Prod.fst) : (Instr.lookup t (.map m) (.int .i64 i) true).run Try.prog w = .ok (.tuple #[z, .bool false]) w := by
  cases m with
  | none => exact Maps.look_nil true intKeyV ht (hz w) (keyIsV hi)
  | some m =>
    obtain ⟨MD, h1, h2⟩ := h
    obtain ⟨v, ps, hr, hv⟩ := h1.look_ok intKeyV ht (hz w) (zd := .held z) (zp := []) rfl (keyIsV hi)
    have hf := h2.gone hn
    rw [Maps.atKey_of_not_has hf] at hv
    rw [hr, hf, anyElem_some hv]
theorem MapV.look_some (ht : Try.prog.underlying t = some (.map 3 e)) (hz : ∀ u : World, (zeroValue e).run Try.prog u = .ok z u) (h : MapV w m L) {x : Int × Value} (hi : In64V x.1) (hx : x ∈ L) : (Instr.lookup t (.map m) (.int .i64 x.1) true).run Try.prog w = .ok (.tuple #[x.2, .bool true]) w := by
  cases m with
  | none => simp only [MapV] at h; subst h; simp at hx
  | some m =>
    obtain ⟨MD, h1, h2⟩ := h
    obtain ⟨v, ps, hr, hv⟩ := h1.look_ok intKeyV ht (hz w) (zd := .held z) (zp := []) rfl (keyIsV hi)
    rw [h2.there x hx] at hv
    rw [hr, (h2.has x.1).2 (List.mem_map_of_mem hx), anyElem_some hv]
/-- 'm[i]'. -/
theorem MapV.at_none (ht : Try.prog.underlying t = some (.map 3 e)) (hz : ∀ u : World, (zeroValue e).run Try.prog u = .ok z u) (h : MapV w m L) {i : Int} (hi : In64V i) (hn : i ∉ L.map Prod.fst) : (Instr.lookup t (.map m) (.int .i64 i) false).run Try.prog w = .ok z w := by
  cases m with
  | none => exact Maps.look_nil false intKeyV ht (hz w) (keyIsV hi)
  | some m =>
    obtain ⟨MD, h1, h2⟩ := h
    obtain ⟨v, ps, hr, hv⟩ := h1.lookup intKeyV ht (hz w) (zd := .held z) (zp := []) rfl (keyIsV hi)
    have hf := h2.gone hn
    rw [Maps.atKey_of_not_has hf] at hv
    rw [hr, anyElem_some hv]
theorem MapV.at_some (ht : Try.prog.underlying t = some (.map 3 e)) (hz : ∀ u : World, (zeroValue e).run Try.prog u = .ok z u) (h : MapV w m L) {x : Int × Value} (hi : In64V x.1) (hx : x ∈ L) : (Instr.lookup t (.map m) (.int .i64 x.1) false).run Try.prog w = .ok x.2 w := by
  cases m with
  | none => simp only [MapV] at h; subst h; simp at hx
  | some m =>
    obtain ⟨MD, h1, h2⟩ := h
    obtain ⟨v, ps, hr, hv⟩ := h1.lookup intKeyV ht (hz w) (zd := .held z) (zp := []) rfl (keyIsV hi)
    rw [h2.there x hx] at hv
    rw [hr, anyElem_some hv]
theorem MapV.len (ht : Try.prog.underlying t = some (.map 3 e)) (h : MapV w m L) (ty : TypeId) : (Builtin.len_ #[t] ty #[.map m]).run Try.prog w = .ok (.int .i64 (L.length)) w := by
  cases m with
  | none => simp only [MapV] at h; subst h; exact Maps.len_nil ht ty
  | some m =>
    obtain ⟨MD, h1, h2⟩ := h
    rw [h1.len ht ty, h2.size]
/-- 'm[i] = v': a new one. -/
theorem MapV.store (ht : Try.prog.underlying t = some (.map 3 e)) {b : Nat} (h : MapV w (some b) L) (hl : L.length < maxLen) {x : Int × Value} (hi : In64V x.1) (hx : x.1 ∉ L.map Prod.fst) :
    ∃ w', (Instr.mapUpdate t (.map (some b)) (.int .i64 x.1) x.2).run Try.prog w = .ok () w' ∧ MapV w' (some b) (x :: L) ∧ w.mapTurned w' b := by
  obtain ⟨MD, h1, h2⟩ := h
  obtain ⟨w', hr, ho, htu⟩ := h1.store intKeyV ht hl (keyIsV hi) (val := x.2) (d := .held x.2) (ps := []) rfl
  exact ⟨w', hr, ⟨_, ho, h2.put hx⟩, htu⟩
/-- 'm[i] = v': one that is there. -/
theorem MapV.over (ht : Try.prog.underlying t = some (.map 3 e)) {b : Nat} {x y : Int × Value} (h : MapV w (some b) (x :: L)) (hl : L.length + 1 < maxLen) (hi : In64V y.1) (e : y.1 = x.1) :
    ∃ w', (Instr.mapUpdate t (.map (some b)) (.int .i64 y.1) y.2).run Try.prog w = .ok () w' ∧ MapV w' (some b) (y :: L) ∧ w.mapTurned w' b := by
  obtain ⟨MD, h1, h2⟩ := h
  obtain ⟨w', hr, ho, htu⟩ := h1.store intKeyV ht hl (keyIsV hi) (val := y.2) (d := .held y.2) (ps := []) rfl
  exact ⟨w', hr, ⟨_, ownsMap_fitV ho (h2.swap e), h2.swap e⟩, htu⟩
/-- 'delete(m, i)': one that is there. -/
theorem MapV.del (ht : Try.prog.underlying t = some (.map 3 e)) {b : Nat} {x : Int × Value} (h : MapV w (some b) (x :: L)) (hi : In64V x.1) (ty : TypeId) :
    ∃ w', (Builtin.delete_ #[t, 3] ty #[.map (some b), .int .i64 x.1]).run Try.prog w = .ok (.tuple #[]) w' ∧ MapV w' (some b) L ∧ w.mapTurned w' b := by
  obtain ⟨MD, h1, h2⟩ := h
  obtain ⟨w', hr, ho, htu⟩ := h1.drop intKeyV ht (keyIsV hi) ty
  exact ⟨w', hr, ⟨_, ownsMap_fitV ho h2.del, h2.del⟩, htu⟩
end
end Go.Proofs.Ytedhdmahdioboaa
/- A client in memory: what its cells are; Many, fits, gatheringFor, New. -/
namespace Go.Proofs.Ytedhdmahdioboaa
open Go.ChangeShapes Go.WideShapes Go.ChangeAt Go.RowKit
set_option linter.unusedVariables false
set_option linter.unusedSimpArgs false

/-- A client's six cells. -/
def ClAt (w : World) (x : Nat) (mv : Option Nat) (nw st ba mn : Int) (mp : Option Nat) : Prop := w.heap[x]? = some (.cells #[.map mv, .int .i64 nw, .int .i64 st, .int .i64 ba, .int .i64 mn, .map mp] 109)
theorem ClAt.cells {w : World} {x : Nat} {mv : Option Nat} {nw st ba mn : Int} {mp : Option Nat} (h : ClAt w x mv nw st ba mn mp) :
    w.cell? ⟨x, 0, none⟩ = some (.map mv) ∧ w.cell? ⟨x, 1, none⟩ = some (.int .i64 nw) ∧ w.cell? ⟨x, 2, none⟩ = some (.int .i64 st) ∧ w.cell? ⟨x, 3, none⟩ = some (.int .i64 ba) ∧ w.cell? ⟨x, 4, none⟩ = some (.int .i64 mn) ∧ w.cell? ⟨x, 5, none⟩ = some (.map mp) := by
  unfold ClAt at h
  simp [World.cell?, h]
theorem ClAt.free {w : World} {x : Nat} {mv : Option Nat} {nw st ba mn : Int} {mp : Option Nat} (h : ClAt w x mv nw st ba mn mp) (i : Nat) : w.frozen? ⟨x, i, none⟩ = false := by unfold ClAt at h; simp [World.frozen?, h]
theorem ClAt.lt {w : World} {x : Nat} {mv : Option Nat} {nw st ba mn : Int} {mp : Option Nat} (h : ClAt w x mv nw st ba mn mp) : x < w.heap.size := (Array.getElem?_eq_some_iff.1 h).1
theorem ClAt.only {D : List Nat} {w w' : World} {x : Nat} {mv : Option Nat} {nw st ba mn : Int} {mp : Option Nat} (h : ClAt w x mv nw st ba mn mp) (o : Only D w w') (s : x ∉ D) : ClAt w' x mv nw st ba mn mp := (o.block x h.lt s).trans h
theorem zeroView (w : World) : (zeroValue 52).run Try.prog w = .ok (.slice none 0 0) w := by kernel_rfl
theorem zeroBytes (w : World) : (zeroValue 53).run Try.prog w = .ok (.slice none 0 0) w := by kernel_rfl
/-- A gathering's four cells, as a value. -/
@[reducible] def gaV (st ba mn : Int) (mp : Option Nat) : Value := .agg #[.int .i64 st, .int .i64 ba, .int .i64 mn, .map mp]
@[reducible] def pieceV (p : Gt) (v : Value) : Value := .agg #[.int .i64 (p.st), .int .i64 (p.ba), .int .i64 (p.ix), .int .i64 (p.mn), v]

set_option maxHeartbeats 2000000 in
theorem cmany_calls (x : Nat) (mv : Option Nat) (nw st ba mn : Int) (mp : Option Nat) (L : List (Int × Value)) (w : World) (h : ClAt w x mv nw st ba mn mp) (hm : MapV w mv L) :
    Calls Try.prog 23 #[.pointer (some ⟨x, 0, none⟩)] w fun e w' => e = .returned (.int .i64 (L.length)) ∧ w' = w := by
  have e0 := h.cells.1
  have hl := fun ty => hm.len Try.underlying104 ty
  have HB : Hid (ClAt w x mv nw st ba mn mp) := h
  clear h hm
  go_enter Try.func23, Try.ntmps23
  go_wp2_with fail
  exact bodyPost_ret (v := .int .i64 (L.length)) (by simp [results, Try.results23, go_sem]) rfl ⟨rfl, rfl⟩
theorem two_boxes (w : World) (A B : Obj) : ((w.alloc A).alloc B).heap[w.heap.size]? = some A ∧ ((w.alloc A).alloc B).heap[w.heap.size + 1]? = some B ∧ Only [] w ((w.alloc A).alloc B) := by
  have hA := (MapKept.heap_alloc w A).1
  have lt := (Array.getElem?_eq_some_iff.1 hA).1
  refine ⟨(((Only.refl [] (w.alloc A)).alloc B).block _ lt (by simp)).trans hA, ?_, ((Only.refl [] w).alloc A).alloc B⟩
  have hB := (MapKept.heap_alloc (w.alloc A) B).1
  have e : (w.alloc A).heap.size = w.heap.size + 1 := by simp
  rw [e] at hB
  exact hB
set_option maxRecDepth 100000 in
set_option maxHeartbeats 2000000 in
theorem cfits_calls (st ba mn : Int) (mp : Option Nat) (p : Gt) (v : Value) (L : List (Int × Value)) (w : World) (hm : MapV w mp L) (hi : In64V p.ix) :
    Calls Try.prog 49 #[gaV st ba mn mp, pieceV p v] w fun e w' => e = .returned (.bool (decide (p.ix ∉ L.map Prod.fst) && decide (p.ba = ba) && decide (p.mn = mn))) ∧ Only [] w w' := by
  go_enter Try.func49, Try.ntmps49
  go_upto_region 1 with fail
  have H1 := two_boxes w (.cells #[.int .i64 st, .int .i64 ba, .int .i64 mn, .map mp] 107) (.cells #[.int .i64 (p.st), .int .i64 (p.ba), .int .i64 (p.ix), .int .i64 (p.mn), v] 121)
  revert H1
  generalize hk : w.heap.size = k
  generalize World.alloc _ _ = w1
  rintro ⟨hA, hB, o⟩
  have hm1 : MapV w1 mp L := hm.only o (by simp)
  have HO : Hid (Only [] w w1) := o
  have a1 : w1.cell? ⟨k, 1, none⟩ = some (.int .i64 ba) := by simp [World.cell?, hA]
  have a2 : w1.cell? ⟨k, 2, none⟩ = some (.int .i64 mn) := by simp [World.cell?, hA]
  have a3 : w1.cell? ⟨k, 3, none⟩ = some (.map mp) := by simp [World.cell?, hA]
  have b1 : w1.cell? ⟨k + 1, 1, none⟩ = some (.int .i64 (p.ba)) := by simp [World.cell?, hB]
  have b2 : w1.cell? ⟨k + 1, 2, none⟩ = some (.int .i64 (p.ix)) := by simp [World.cell?, hB]
  have b3 : w1.cell? ⟨k + 1, 3, none⟩ = some (.int .i64 (p.mn)) := by simp [World.cell?, hB]
  clear hA hB o hk hm
  by_cases hx : p.ix ∈ L.map Prod.fst
  · obtain ⟨x, hx1, hx2⟩ := List.mem_map.1 hx
    have hl := hm1.look_some Try.underlying105 zeroBytes (x := x) (by rw [hx2]; exact hi) hx1
    rw [hx2] at hl
    have HE : Hid ((decide (p.ix ∉ L.map Prod.fst) && decide (p.ba = ba) && decide (p.mn = mn)) = false) := by show _ = _; simp [hx]
    clear hm1 hi hx1 hx2 hx
    go_wp2_with fail
    exact bodyPost_ret (v := .bool false) (by simp [results, Try.results49, go_sem]) rfl ⟨by rw [HE.out], HO.out⟩
  · have hl := hm1.look_none Try.underlying105 zeroBytes hi hx
    have HX : Hid (decide (p.ix ∈ L.map Prod.fst) = false) := by show _ = _; simpa using hx
    clear hm1 hi hx
    by_cases e1 : p.ba = ba
    · by_cases e2 : p.mn = mn
      · subst e1; subst e2
        go_wp2_with fail
        exact bodyPost_ret (v := .bool true) (by simp [results, Try.results49, go_sem]) rfl ⟨by simp only [decide_not, HX.out, Bool.not_false, Bool.true_and, decide_true], HO.out⟩
      · subst e1
        go_wp2_with fail
        exact bodyPost_ret (v := .bool false) (by simp [results, Try.results49, go_sem, e2]) rfl ⟨by simp [e2], HO.out⟩
    · go_wp2_with fail
      exact bodyPost_ret (v := .bool false) (by simp [results, Try.results49, go_sem, e1]) rfl ⟨by simp [e1], HO.out⟩
set_option maxRecDepth 100000 in
set_option maxHeartbeats 2000000 in
/-- gatheringFor: a map of its own. -/
theorem gatheringFor_calls (p : Gt) (v : Value) (w : World) :
    Calls Try.prog 48 #[pieceV p v] w fun e w' => ∃ m, e = .returned (gaV p.st p.ba p.mn (some m)) ∧ w.heap.size ≤ m ∧ MapV w' (some m) [] ∧ Only [] w w' := by
  have hmm := @run_makeMap Try.prog
  go_enter Try.func48, Try.ntmps48
  go_upto_region 1 with fail
  have H1 := two_boxes w (.cells #[.int .i64 (p.st), .int .i64 (p.ba), .int .i64 (p.ix), .int .i64 (p.mn), v] 121) (.cells #[.int .i64 0, .int .i64 0, .int .i64 0, .map none] 107)
  revert H1
  generalize hk : w.heap.size = k
  have HK : Hid (w.heap.size = k) := hk
  generalize World.alloc _ _ = w1
  rintro ⟨hA, hB, o⟩
  have HO : Hid (Only [] w w1) := o
  have HM : Hid (MapV (w1.alloc (.map #[] 0)) (some w1.heap.size) []) := MapV.made w1
  have a0 : w1.cell? ⟨k, 0, none⟩ = some (.int .i64 (p.st)) := by simp [World.cell?, hA]
  have a1 : w1.cell? ⟨k, 1, none⟩ = some (.int .i64 (p.ba)) := by simp [World.cell?, hA]
  have a3 : w1.cell? ⟨k, 3, none⟩ = some (.int .i64 (p.mn)) := by simp [World.cell?, hA]
  have lt := (Array.getElem?_eq_some_iff.1 hB).1
  have HB0 : Hid (w1.heap[k + 1]? = some (.cells #[.int .i64 0, .int .i64 0, .int .i64 0, .map none] 107)) := hB
  have hC : (w1.alloc (.map #[] 0)).heap[k + 1]? = some (.cells #[.int .i64 0, .int .i64 0, .int .i64 0, .map none] 107) := (((Only.refl [] w1).alloc _).block _ lt (by simp)).trans hB
  have HB : Hid ((w1.alloc (.map #[] 0)).heap[k + 1]? = some (.cells #[.int .i64 0, .int .i64 0, .int .i64 0, .map none] 107)) := hC
  have c0 : (w1.alloc (.map #[] 0)).cell? ⟨k + 1, 0, none⟩ = some (.int .i64 0) := by simp [World.cell?, hC]
  have c1 : (w1.alloc (.map #[] 0)).cell? ⟨k + 1, 1, none⟩ = some (.int .i64 0) := by simp [World.cell?, hC]
  have c2 : (w1.alloc (.map #[] 0)).cell? ⟨k + 1, 2, none⟩ = some (.int .i64 0) := by simp [World.cell?, hC]
  have c3 : (w1.alloc (.map #[] 0)).cell? ⟨k + 1, 3, none⟩ = some (.map none) := by simp [World.cell?, hC]
  have d : ∀ i, (w1.alloc (.map #[] 0)).frozen? ⟨k + 1, i, none⟩ = false := fun i => by simp [World.frozen?, hC]
  clear hA hB o hk hC lt
  go_wp2_with fail
  have h0 := heap_put HB.out 0 (.int .i64 (p.st))
  simp only [List.setIfInBounds_toArray, List.set_cons_zero, List.set_cons_succ] at h0
  have h1 := heap_put h0 1 (.int .i64 (p.ba))
  simp only [List.setIfInBounds_toArray, List.set_cons_zero, List.set_cons_succ] at h1
  have h2 := heap_put h1 2 (.int .i64 (p.mn))
  simp only [List.setIfInBounds_toArray, List.set_cons_zero, List.set_cons_succ] at h2
  have h3 := heap_put h2 3 (.map (some w1.heap.size))
  simp only [List.setIfInBounds_toArray, List.set_cons_zero, List.set_cons_succ] at h3
  have lt : k + 1 < w1.heap.size := by
    have := (Array.getElem?_eq_some_iff.1 HB0.out).1
    exact this
  have o5 : Only [k + 1] (w1.alloc (.map #[] 0)) (((((w1.alloc (.map #[] 0)).setCell ⟨k + 1, 0, none⟩ (.int .i64 (p.st))).setCell ⟨k + 1, 1, none⟩ (.int .i64 (p.ba))).setCell ⟨k + 1, 2, none⟩ (.int .i64 (p.mn))).setCell ⟨k + 1, 3, none⟩ (.map (some w1.heap.size))) :=
    ((((Only.refl [k + 1] _).setCell (Or.inl (by simp)) _).setCell (Or.inl (by simp)) _).setCell (Or.inl (by simp)) _).setCell (Or.inl (by simp)) _
  have m5 := HM.out.only o5 (by simp; omega)
  have p5 := (HO.out.alloc (.map #[] 0)).then o5 (fun b hb => by rw [List.mem_singleton.1 hb, HK.out]; exact Or.inr (Nat.le_succ _))
  have hs := HO.out.size
  clear h0 h1 h2 o5 c0 c1 c2 c3 d a0 a1 a3
  revert h3 m5 p5
  generalize World.setCell _ _ _ = w5
  intro h3 m5 p5
  have f0 : w5.cell? ⟨k + 1, 0, none⟩ = some (.int .i64 (p.st)) := by simp [World.cell?, h3]
  have f1 : w5.cell? ⟨k + 1, 1, none⟩ = some (.int .i64 (p.ba)) := by simp [World.cell?, h3]
  have f2 : w5.cell? ⟨k + 1, 2, none⟩ = some (.int .i64 (p.mn)) := by simp [World.cell?, h3]
  have f3 : w5.cell? ⟨k + 1, 3, none⟩ = some (.map (some w1.heap.size)) := by simp [World.cell?, h3]
  exact bodyPost_ret (v := gaV p.st p.ba p.mn (some w1.heap.size)) (by simp [results, Try.results48, go_sem, f0, f1, f2, f3]) rfl ⟨_, rfl, hs, m5, p5⟩
set_option maxRecDepth 100000 in
set_option maxHeartbeats 2000000 in
/-- client.New: the view of step 0, which is empty. -/
theorem cnew_calls (w : World) :
    Calls Try.prog 14 #[] w fun e w' => ∃ x m b, e = .returned (.pointer (some ⟨x, 0, none⟩)) ∧ w.heap.size ≤ x ∧ w.heap.size ≤ m ∧ ClAt w' x (some m) 0 0 0 0 none ∧ MapV w' (some m) [(0, .slice b 0 0)] ∧ Only [] w w' := by
  have hmm := @run_makeMap Try.prog
  have hm0 : MapV ((w.alloc (.map #[] 0)).alloc (.cells #[] 120)) (some w.heap.size) [] := (MapV.made w).only ((Only.refl [] _).alloc _) (by simp)
  obtain ⟨w1, hr, hm1, htu⟩ := hm0.store Try.underlying104 (by decide) (x := (0, .slice (some ⟨w.heap.size + 1, 0, none⟩) 0 0)) (by show (Lit.int .i64 0).wf = true; decide) (by simp)
  have HM : Hid (MapV w1 (some w.heap.size) [(0, .slice (some ⟨w.heap.size + 1, 0, none⟩) 0 0)] ∧ Only [] w w1) :=
    ⟨hm1, (((Only.refl [] w).alloc _).alloc _).grown htu.grown (fun k hk => by injection hk with hk; exact Or.inr (Nat.le_of_eq hk))⟩
  simp only at hr
  clear hm0 hm1 htu
  go_enter Try.func14, Try.ntmps14
  go_wp2_with fail
  refine bodyPost_ret (v := .pointer (some ⟨w1.heap.size, 0, none⟩)) (by simp [results, Try.results14, go_sem]) rfl ⟨w1.heap.size, w.heap.size, some ⟨w.heap.size + 1, 0, none⟩, rfl, HM.out.2.size, Nat.le_refl _, (MapKept.heap_alloc w1 _).1, HM.out.1.only ((Only.refl [] w1).alloc _) (by simp), HM.out.2.alloc _⟩
end Go.Proofs.Ytedhdmahdioboaa
/- 'for k, v := range m' over a map of numbers to whatever values: which come is open; a delete, or a store into another map, in the round. -/
namespace Go.Proofs.Ytedhdmahdioboaa
open Go.ChangeShapes Go.WideShapes Go.ChangeAt Go.RowKit
open Go.Maps (Keyed)
set_option linter.unusedVariables false
set_option linter.unusedSimpArgs false

/-- The loop over map b is under way: its iterator is block r; 'left' tells which numbers are still to come, cnt how many. -/
def RngV (w : World) (b r : Nat) (L : List (Int × Value)) (left : Int → Bool) (cnt : Nat) : Prop :=
  ∃ (D : DataW Value) (lf : Lit → Bool), w.ranges Try.prog 3 anyElem b r L.length D lf cnt ∧ Bk D L ∧ ∀ i, lf (keyV i) = left i
theorem RngV.map {w : World} {b r : Nat} {L : List (Int × Value)} {left : Int → Bool} {cnt : Nat} (h : RngV w b r L left cnt) : MapV w (some b) L := by
  obtain ⟨D, lf, h1, h2, _⟩ := h
  exact ⟨D, h1.owns, h2⟩
theorem RngV.kept {w w' : World} {b r : Nat} {L : List (Int × Value)} {left : Int → Bool} {cnt : Nat} (h : RngV w b r L left cnt) {row : Option Nat} (hg : w.grownBy w' row) (hb : some b ≠ row) (hr : some r ≠ row) : RngV w' b r L left cnt := by
  obtain ⟨D, lf, h1, h2, h3⟩ := h
  exact ⟨D, lf, h1.kept hg hb hr, h2, h3⟩
theorem Bk.mem_of {D : DataW Value} {L : List (Int × Value)} (h : Bk D L) {i : Int} {v : Value} (hi : i ∈ L.map Prod.fst) (hv : ∀ z, D.atKey (keyV i) z = .held v) : (i, v) ∈ L := by
  obtain ⟨x, hx, rfl⟩ := List.mem_map.1 hi
  have h1 := h.there x hx (.held v)
  rw [hv] at h1
  injection h1 with h1
  rw [h1]
  exact hx
/-- An entry, and all others. -/
theorem perm_front {β : Type} {L : List (Int × β)} (hn : (L.map Prod.fst).Nodup) {x : Int × β} (hx : x ∈ L) : L.Perm (x :: L.filter fun e => e.1 != x.1) := by
  induction L with
  | nil => simp at hx
  | cons y L ih =>
    rw [List.map_cons, List.nodup_cons] at hn
    rcases List.mem_cons.1 hx with rfl | hx
    · have : (L.filter fun e => e.1 != x.1) = L := List.filter_eq_self.2 fun e he => by
        have : e.1 ≠ x.1 := fun q => hn.1 (by rw [← q]; exact List.mem_map_of_mem he)
        simpa using this
      rw [List.filter_cons]
      simp [this]
    · have hne : y.1 ≠ x.1 := fun q => hn.1 (by rw [q]; exact List.mem_map_of_mem hx)
      have e : (y :: L).filter (fun e => e.1 != x.1) = y :: L.filter fun e => e.1 != x.1 := by rw [List.filter_cons]; simp [hne]
      rw [e]
      exact ((ih hn.2 hx).cons y).trans (List.Perm.swap _ _ _)
theorem key_same (i j : Int) : (!(keyV j).sameKey (keyV i)) = (j != i) := by
  by_cases e : j = i
  · subst e
    rw [WideAt.sameKey_self (keyV_lit _)]
    simp
  · have : (keyV j).sameKey (keyV i) = false := by
      cases q : (keyV j).sameKey (keyV i)
      · rfl
      · exact absurd (WideAt.sameKey_eq q) (keyV_ne e)
    rw [this]
    simp [e]
/-- An entry has come out, with its value. -/
theorem RngV.next {w : World} {b r : Nat} {L : List (Int × Value)} {left : Int → Bool} {cnt : Nat} (h : RngV w b r L left cnt) (ty : TypeId) :
    (cnt = 0 ∧ (∀ x ∈ L, left x.1 = false) ∧ (Instr.next (.pointer (some ⟨r, 0, none⟩)) false ty).run Try.prog w = .ok (.tuple #[.bool false]) w) ∨
    ∃ x w' cnt', x ∈ L ∧ left x.1 = true ∧ In64V x.1 ∧ (Instr.next (.pointer (some ⟨r, 0, none⟩)) false ty).run Try.prog w = .ok (.tuple #[.bool true, .int .i64 x.1, x.2]) w' ∧
      RngV w' b r L (fun i => left i && i != x.1) cnt' ∧ cnt' < cnt ∧ w.grownBy w' (some r) ∧ w'.heap.size = w.heap.size ∧ (Instr.entry (.pointer (some ⟨r, 0, none⟩))).run Try.prog w' = .ok (.tuple #[.int .i64 x.1, x.2]) w' := by
  obtain ⟨D, lf, h1, h2, h3⟩ := h
  rcases h1.next intKeyV ty with ⟨q0, q1, q2⟩ | ⟨key, v, kl, y, w', cnt', hkey, hlk, hv, hat, hrun, hrg, hlt, hgr, hsz, hen⟩
  · exact Or.inl ⟨q0, fun x _ => by rw [← h3]; exact q1 _, q2⟩
  · obtain ⟨i, rfl, rfl, hwf⟩ := Maps.keyOf_int_inv Try.underlying3 hkey
    simp only [anyElem, Option.some.injEq] at hv
    subst hv
    have hin : i ∈ L.map Prod.fst := by
      rw [← h2.has i]
      have hrg0 := h1
      obtain ⟨es, clock, since, seen, c0, hb, F, hs, hD, hr, hold, hc, hl1, hl2, _⟩ := hrg0
      obtain ⟨x, hx, hxe⟩ := hl2 _ hlk
      rw [hD]
      exact List.any_eq_true.2 ⟨_, mem_sorted.2 (List.mem_map.2 ⟨x, hx, rfl⟩), by rw [hxe]; exact WideAt.sameKey_self trivial⟩
    have hmem := h2.mem_of hin hat
    refine Or.inr ⟨(i, v), w', cnt', hmem, by rw [← h3]; exact hlk, hwf, hrun, ⟨D, _, hrg, h2, fun j => ?_⟩, hlt, hgr, hsz, hen⟩
    show (lf (keyV j) && !(keyV j).sameKey (keyV i)) = (left j && j != i)
    rw [h3, key_same]
section
variable {t e : TypeId} {w : World}
theorem MapV.range (ht : Try.prog.underlying t = some (.map 3 e)) {b : Nat} {L : List (Int × Value)} (h : MapV w (some b) L) :
    ∃ w', (Instr.range t (.map (some b))).run Try.prog w = .ok (.pointer (some ⟨w.heap.size, 0, none⟩)) w' ∧ RngV w' b w.heap.size L (fun i => decide (i ∈ L.map Prod.fst)) L.length ∧ w.grownBy w' none ∧ w'.heap.size = w.heap.size + 1 := by
  obtain ⟨D, h1, h2⟩ := h
  obtain ⟨w', q1, q2, q3, q4⟩ := h1.range intKeyV ht
  refine ⟨w', q1, ⟨D, _, by rw [← h2.size] at q2 ⊢; exact q2, h2, fun i => ?_⟩, q3, q4⟩
  by_cases hi : i ∈ L.map Prod.fst
  · rw [(h2.has i).2 hi]; simp only [hi, decide_true]
  · rw [h2.gone hi]; simp only [hi, decide_false]
/-- 'delete(m, i)' in the round, of the one that has come. -/
theorem RngV.drop (ht : Try.prog.underlying t = some (.map 3 e)) {b r : Nat} {L : List (Int × Value)} {left : Int → Bool} {cnt : Nat} (h : RngV w b r L left cnt) {x : Int × Value} (hx : x ∈ L) (hi : In64V x.1) (ty : TypeId) :
    ∃ w' cnt', (Builtin.delete_ #[t, 3] ty #[.map (some b), .int .i64 x.1]).run Try.prog w = .ok (.tuple #[]) w' ∧ RngV w' b r (L.filter fun e => e.1 != x.1) (fun i => left i && i != x.1) cnt' ∧ cnt' ≤ cnt ∧ w.mapTurned w' b := by
  obtain ⟨D, lf, h1, h2, h3⟩ := h
  obtain ⟨w', cnt', q1, q2, q3, q4⟩ := h1.drop intKeyV ht (keyIsV hi) ty
  have hb2 := (h2.perm (perm_front h2.nodup hx)).del
  refine ⟨w', cnt', q1, ⟨_, fun z => lf z && !z.sameKey (keyV x.1), ?_, hb2, fun j => ?_⟩, q3, q4⟩
  · have ho := ownsMap_fitV q2.owns hb2
    obtain ⟨es, clock, since, seen, c0, g1, g2, g3, g4, g5⟩ := q2
    obtain ⟨es', clock', k1, k2, k3, k4⟩ := ho
    rw [g1] at k1
    injection k1 with k1
    injection k1 with k1 k1'
    subst k1
    exact ⟨es, clock, since, seen, c0, g1, g2, k3, g4, g5⟩
  · show (lf (keyV j) && !(keyV j).sameKey (keyV x.1)) = (left j && j != x.1)
    rw [h3, key_same]
end
section
variable {w : World} {ops : Array Oper} {rest : List Oper} {o : Oper} {a : Act} {Q : Exit → Act → World → Prop}
/-- The loop's step. -/
theorem wpList_nextV (hg : o.guard = none) (it : Operand) (hop : o.op = Op.next it false) (b r : Nat) (L : List (Int × Value)) (left : Int → Bool) (cnt : Nat) (hit : a.eval it = .pointer (some ⟨r, 0, none⟩)) (h : RngV w b r L left cnt)
    (hDone : (∀ x ∈ L, left x.1 = false) → wpList Try.prog ops Q rest (a.put o.dst (.tuple #[.bool false])) w)
    (hMore : ∀ (i : Int) (v : Value) (w' : World) (cnt' : Nat), (i, v) ∈ L → left i = true → In64V i → RngV w' b r L (fun j => left j && j != i) cnt' → cnt' < cnt → w.grownBy w' (some r) → w'.heap.size = w.heap.size →
      (Instr.entry (.pointer (some ⟨r, 0, none⟩))).run Try.prog w' = .ok (.tuple #[.int .i64 i, v]) w' → wpList Try.prog ops Q rest (a.put o.dst (.tuple #[.bool true, .int .i64 i, v])) w') :
    wpList Try.prog ops Q (o :: rest) a w := by
  refine wpList_plain hg fun K' hK' => ?_
  unfold Oper.wp
  rcases h.next o.type with ⟨h0, hl, hrun⟩ | ⟨x, w', cnt', hx, hlx, hi, hrun, hrg, hlt, hgr, hsz, hen⟩
  · simp [execOp, hop, hit, hrun, Result.andThen]
    exact hK' _ _ (hDone hl)
  · simp [execOp, hop, hit, hrun, Result.andThen]
    exact hK' _ _ (hMore x.1 x.2 w' cnt' hx hlx hi hrg hlt hgr hsz hen)
theorem wpList_dropV (hg : o.guard = none) (m x : Operand) (t : TypeId) (hop : o.op = Op.call { callee := Callee.builtin Builtin.delete, args := #[m, x], argTypes := #[t, 3] }) (e : TypeId) (ht : Try.prog.underlying t = some (.map 3 e)) (b r : Nat) (L : List (Int × Value)) (left : Int → Bool) (cnt : Nat)
    (hm : a.eval m = .map (some b)) (i : Int) (v : Value) (hx : a.eval x = .int .i64 i) (h : RngV w b r L left cnt) (hin : (i, v) ∈ L) (hi : In64V i)
    (hK : ∀ w' cnt', RngV w' b r (L.filter fun e => e.1 != i) (fun j => left j && j != i) cnt' → cnt' ≤ cnt → w.mapTurned w' b → wpList Try.prog ops Q rest (a.put o.dst (.tuple #[])) w') :
    wpList Try.prog ops Q (o :: rest) a w := by
  refine wpList_plain hg fun K' hK' => ?_
  obtain ⟨w', cnt', hrun, r1, r2, r3⟩ := h.drop ht hin hi o.type
  unfold Oper.wp
  simp [execOp, hop, resolve, invoke, builtin, hm, hx, hrun, Result.andThen]
  exact hK' _ _ (hK w' cnt' r1 r2 r3)
end
end Go.Proofs.Ytedhdmahdioboaa
/- (*client.Client).forget: views that are too old to be a base go. -/
namespace Go.Proofs.Ytedhdmahdioboaa
open Go.ChangeShapes Go.WideShapes Go.ChangeAt Go.RowKit
set_option linter.unusedVariables false
set_option linter.unusedSimpArgs false

def stayB (nw i : Int) : Bool := decide (i < 1) || decide (i > nw - 32)
theorem stay_start (nw : Int) (L : List (Int × Value)) : L = L.filter fun e => decide (e.1 ∈ L.map Prod.fst) || stayB nw e.1 :=
  (List.filter_eq_self.2 fun e he => by rw [decide_eq_true (List.mem_map_of_mem he)]; rfl).symm
theorem stay_end {nw : Int} {L : List (Int × Value)} {left : Int → Bool} (h : ∀ x ∈ L.filter fun e => left e.1 || stayB nw e.1, left x.1 = false) : (L.filter fun e => left e.1 || stayB nw e.1) = L.filter fun e => stayB nw e.1 := by
  refine List.filter_congr fun e he => ?_
  cases hl : left e.1
  · rfl
  · have := h e (List.mem_filter.2 ⟨he, by rw [hl]; rfl⟩)
    rw [hl] at this
    cases this
theorem stay_keep {nw i : Int} {L : List (Int × Value)} {left : Int → Bool} (h : stayB nw i = true) : (L.filter fun e => left e.1 || stayB nw e.1) = L.filter fun e => (left e.1 && e.1 != i) || stayB nw e.1 := by
  refine List.filter_congr fun e he => ?_
  by_cases q : e.1 = i
  · rw [q, h]; simp
  · have : (e.1 != i) = true := by simpa using q
    rw [this, Bool.and_true]
theorem stay_go {nw i : Int} {L : List (Int × Value)} {left : Int → Bool} (h : stayB nw i = false) : ((L.filter fun e => left e.1 || stayB nw e.1).filter fun e => e.1 != i) = L.filter fun e => ((left e.1 && e.1 != i) && e.1 != i) || stayB nw e.1 := by
  rw [List.filter_filter]
  refine List.filter_congr fun e he => ?_
  by_cases q : e.1 = i
  · rw [q, h]; simp
  · have : (e.1 != i) = true := by simpa using q
    rw [this]; simp

set_option maxRecDepth 100000 in
set_option maxHeartbeats 4000000 in
theorem forget_calls (x mv : Nat) (nw st ba mn : Int) (mp : Option Nat) (L : List (Int × Value)) (w : World) (h : ClAt w x (some mv) nw st ba mn mp) (hm : MapV w (some mv) L) (hnw : 0 ≤ nw) (hnw2 : nw ≤ 70368744177664) (hne : x ≠ mv) :
    Calls Try.prog 77 #[.pointer (some ⟨x, 0, none⟩)] w fun e w' => e = .returned (.tuple #[]) ∧ MapV w' (some mv) (L.filter fun e => stayB nw e.1) ∧ Only [mv] w w' := by
  have e0 := h.cells.1
  obtain ⟨w0, hr, hrg, hg0, hs0⟩ := hm.range Try.underlying104
  have H0 : Hid (RngV w0 mv w.heap.size L (fun i => decide (i ∈ L.map Prod.fst)) L.length ∧ Only [mv] w w0) := ⟨hrg, (Only.refl [mv] w).grown hg0 (fun k hk => by cases hk)⟩
  have HC : Hid (ClAt w x (some mv) nw st ba mn mp ∧ x ≠ mv) := ⟨h, hne⟩
  clear hrg hg0 hs0 h hm hne
  go_enter Try.func77, Try.ntmps77
  go_wp2_with fail
  go_loopg [2] L.length (fun k s2 wr => ∃ left, Hid (RngV wr mv w.heap.size (L.filter fun e => left e.1 || stayB nw e.1) left k) ∧ Hid (Only [mv] w wr))
  case atStart => exact ⟨fun i => decide (i ∈ L.map Prod.fst), by show RngV _ _ _ _ _ _; rw [← stay_start nw L]; exact H0.out.1, H0.out.2⟩
  case round =>
    obtain ⟨left, HR, HO⟩ := hrel
    obtain ⟨M, hM⟩ : ∃ M, M = L.filter fun e => left e.1 || stayB nw e.1 := ⟨_, rfl⟩
    rw [← hM] at HR
    have HM : Hid (M = L.filter fun e => left e.1 || stayB nw e.1) := hM
    clear hM
    go_wp2_with (first | (at_next; refine wpList_nextV rfl _ rfl mv w.heap.size M left _ rfl HR.out ?_ ?_))
    · intro hend
      have HE : Hid (∀ x ∈ L.filter fun e => left e.1 || stayB nw e.1, left x.1 = false) := by rw [← HM.out]; exact fun x hx => hend x.1 x.2 hx
      clear hend
      go_wp2_with fail
      go_end0
      exact ⟨rfl, by rw [← stay_end HE.out, ← HM.out]; exact HR.out.map, HO.out⟩
    · intro i v w1 cnt1 hin hlt hi hrg hcnt hgr hsz hen
      have H1 : Hid ((i, v) ∈ M ∧ In64V i ∧ RngV w1 mv w.heap.size M (fun j => left j && j != i) cnt1 ∧ Only [mv] w w1 ∧ cnt1 < gk) := ⟨hin, hi, hrg, HO.out.grown hgr (fun k hk => by injection hk with hk; exact Or.inr (Nat.le_of_eq hk)), hcnt⟩
      have hcl := HC.out.1.only H1.out.2.2.2.1 (by simpa using HC.out.2)
      have c0 := hcl.cells.1; have c1 := hcl.cells.2.1
      clear hin hlt hi hrg hcnt hgr hsz hcl
      by_cases h1 : i < 1
      · have HS : Hid (stayB nw i = true) := by show _ = _; unfold stayB; rw [decide_eq_true h1]; rfl
        have d1 : decide (i ≥ 1) = false := decide_eq_false (by omega)
        clear h1
        go_wp2_with fail
        go_roundg cnt1
        case measure => exact H1.out.2.2.2.2
        case rel => exact ⟨fun j => left j && j != i, by show RngV _ _ _ _ _ _; rw [← stay_keep HS.out, ← HM.out]; exact H1.out.2.2.1, H1.out.2.2.2.1⟩
      · have d1 : decide (i ≥ 1) = true := decide_eq_true (by omega)
        by_cases h2 : i > nw - 32
        · have HS : Hid (stayB nw i = true) := by show _ = _; unfold stayB; rw [decide_eq_true h2, Bool.or_true]
          have d2 : decide (i ≤ nw - 32) = false := decide_eq_false (by omega)
          clear h1 h2
          go_wp2_with fail
          go_roundg cnt1
          case measure => exact H1.out.2.2.2.2
          case rel => exact ⟨fun j => left j && j != i, by show RngV _ _ _ _ _ _; rw [← stay_keep HS.out, ← HM.out]; exact H1.out.2.2.1, H1.out.2.2.2.1⟩
        · have HS : Hid (stayB nw i = false) := by show _ = _; unfold stayB; rw [decide_eq_false h1, decide_eq_false h2]; rfl
          have d2 : decide (i ≤ nw - 32) = true := decide_eq_true (by omega)
          clear h1 h2
          go_wp2_with (first | (at_delete; refine wpList_dropV rfl _ _ _ rfl _ Try.underlying104 mv w.heap.size _ _ _ rfl i v rfl H1.out.2.2.1 H1.out.1 H1.out.2.1 ?_; intro w2 cnt2 hrg2 hle hturn; have H2 : Hid (RngV w2 mv w.heap.size (M.filter fun e => e.1 != i) (fun j => (left j && j != i) && j != i) cnt2 ∧ cnt2 < gk ∧ Only [mv] w w2) := ⟨hrg2, Nat.lt_of_le_of_lt hle H1.out.2.2.2.2, H1.out.2.2.2.1.grown hturn.grown (fun k hk => by injection hk with hk; exact Or.inl (by simp [hk]))⟩; clear hrg2 hle hturn; go_frame))
          go_roundg cnt2
          case measure => exact H2.out.2.1
          case rel => exact ⟨fun j => (left j && j != i) && j != i, by show RngV _ _ _ _ _ _; rw [← stay_go HS.out, ← HM.out]; exact H2.out.1, H2.out.2.2⟩
end Go.Proofs.Ytedhdmahdioboaa
