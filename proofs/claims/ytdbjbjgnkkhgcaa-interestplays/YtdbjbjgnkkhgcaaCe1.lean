/- A map of cells to whatever values, in memory: its entries as a list (whatever the order); looked up, stored into, deleted from, gone through. -/
import Derived.Test.YtdbjbjgnkkhgcaaCe0
import Derived.Maps.OwnSet
import Derived.Maps.RangeWalk
import Derived.Test.YtdbjbjgnkkhgcaaEnt
import Derived.DeepKeys4
namespace Go.Proofs.Ytdbjbjgnkkhgcaa
open Go.ChangeShapes Go.WideShapes Go.ChangeAt Go.RowKit
open Go.Maps (Keyed)
set_option linter.unusedVariables false
set_option linter.unusedSimpArgs false
set_option linter.unusedSectionVars false
variable [DecidableEq Cel]

theorem celKey : Keyed Try.prog 54 := Maps.Keyed.of_law (deep_law (m := 3) (by omega) (by kernel_rfl) (by kernel_rfl) (by kernel_rfl))
def keyC (c : Cel) : Lit := .string (keyBytes [.int .i64 (c.x.val : Int), .int .i64 (c.y.val : Int), .int .i64 (c.z.val : Int)])
theorem fin_wf (x : Fin 21) : (Lit.int .i64 (x.val : Int)).wf = true := by
  have := x.isLt
  simp [Lit.wf, IntKind.min, IntKind.max, IntKind.bits, IntKind.signed]; omega
theorem cel_types : ∃ m, Try.prog.types.size = m + 1 := ⟨Try.prog.types.size - 1, by kernel_rfl⟩
theorem keyIsC (c : Cel) : keyOf Try.prog 54 (celV c) = some (keyC c) := by
  have w1 := fin_wf c.x
  have w2 := fin_wf c.y
  have w3 := fin_wf c.z
  unfold keyC celV
  generalize ((c.x.val : Nat) : Int) = a at *
  generalize ((c.y.val : Nat) : Int) = b at *
  generalize ((c.z.val : Nat) : Int) = d at *
  unfold keyOf
  have hu := Try.underlying54
  have hi := Try.underlying3
  have hkt : Try.prog.keyType 54 = true := by kernel_rfl
  have hsz : Try.prog.cellsOf 54 = 3 := by kernel_rfl
  have hs1 : Try.prog.cellsOf 3 = 1 := by kernel_rfl
  simp only [hu]
  obtain ⟨m, hm⟩ := cel_types
  rw [if_pos (by simp [hkt, Value.formed, hu, hsz]), hm]
  unfold Program.keyLits
  simp only [hu, Value.cells]
  rw [if_pos (by rw [hsz]; exact ⟨rfl, by simp⟩)]
  simp [hs1, Program.keyLits, hi, w1, w2, w3]
theorem keyC_inj {c d : Cel} (h : keyC c = keyC d) : c = d := celV_inj (celKey.inj (keyIsC c) (h ▸ keyIsC d))
theorem keyC_ne {c d : Cel} (h : c ≠ d) : keyC c ≠ keyC d := fun e => h (keyC_inj e)
theorem keyC_lit (c : Cel) : WideAt.IsKeyLit (keyC c) := trivial
def anyC (v : Value) : Option (DataW Value × List MemPlace) := some (.held v, [])
/-- A map has just these entries. -/
structure BkC (D : DataW Value) (L : List (Cel × Value)) : Prop where
  tidy : Maps.Tidy D
  nodup : (L.map Prod.fst).Nodup
  there : ∀ x ∈ L, ∀ z, D.atKey (keyC x.1) z = .held x.2
  has : ∀ l, Maps.has D l = true ↔ ∃ c ∈ L.map Prod.fst, l = keyC c
  size : Maps.size D = L.length
theorem BkC.perm {D : DataW Value} {L L' : List (Cel × Value)} (h : BkC D L) (p : L.Perm L') : BkC D L' :=
  ⟨h.tidy, (p.map _).nodup h.nodup, fun x hx => h.there x (p.mem_iff.2 hx), fun l => (h.has l).trans (by simp only [(p.map Prod.fst).mem_iff]), h.size.trans p.length_eq⟩
theorem BkC.hasC {D : DataW Value} {L : List (Cel × Value)} (h : BkC D L) (c : Cel) : Maps.has D (keyC c) = true ↔ c ∈ L.map Prod.fst := by
  rw [h.has]
  constructor
  · rintro ⟨d, hd, e⟩; rw [keyC_inj e]; exact hd
  · intro hc; exact ⟨c, hc, rfl⟩
theorem BkC.gone {D : DataW Value} {L : List (Cel × Value)} (h : BkC D L) {i : Cel} (hi : i ∉ L.map Prod.fst) : Maps.has D (keyC i) = false := by
  cases hh : Maps.has D (keyC i)
  · rfl
  · exact absurd ((h.hasC i).1 hh) hi
theorem BkC.empty : BkC (.map []) [] := ⟨Maps.tidy_empty, by simp, by simp, fun i => by simp [Maps.has], rfl⟩
theorem BkC.put {D : DataW Value} {L : List (Cel × Value)} (h : BkC D L) {x : Cel × Value} (hx : x.1 ∉ L.map Prod.fst) : BkC (D.put (keyC x.1) (.held x.2)) (x :: L) := by
  refine ⟨h.tidy.put (keyC_lit _) _, by simp only [List.map_cons, List.nodup_cons]; exact ⟨hx, h.nodup⟩, fun y hy => ?_, fun l => ?_, ?_⟩
  · rcases List.mem_cons.1 hy with rfl | hy
    · exact fun z => Maps.atKey_put_same h.tidy.isMap (keyC_lit _) _ _
    · intro z
      rw [Maps.atKey_put_other (keyC_ne (fun e => hx (by rw [← e]; exact List.mem_map_of_mem hy)))]; exact h.there y hy z
  · by_cases e : l = keyC x.1
    · subst e; simp [Maps.has_put_same h.tidy.isMap (keyC_lit _)]
    · rw [Maps.has_put_other e, h.has l]
      simp only [List.map_cons, List.mem_cons, exists_eq_or_imp, e, false_or]
  · rw [Maps.size_put h.tidy, h.gone hx]; simp [h.size]
/-- A cell that is there gets another value. -/
theorem BkC.swap {D : DataW Value} {L : List (Cel × Value)} {x y : Cel × Value} (h : BkC D (x :: L)) (e : y.1 = x.1) : BkC (D.put (keyC y.1) (.held y.2)) (y :: L) := by
  have hn := h.nodup
  simp only [List.map_cons, List.nodup_cons] at hn
  refine ⟨h.tidy.put (keyC_lit _) _, by simp only [List.map_cons, List.nodup_cons, e]; exact hn, fun z hz => ?_, fun l => ?_, ?_⟩
  · rcases List.mem_cons.1 hz with rfl | hz
    · exact fun d => Maps.atKey_put_same h.tidy.isMap (keyC_lit _) _ _
    · intro d
      rw [Maps.atKey_put_other (keyC_ne (fun q => hn.1 (by rw [← e, ← q]; exact List.mem_map_of_mem hz)))]; exact h.there z (List.mem_cons_of_mem _ hz) d
  · by_cases q : l = keyC y.1
    · subst q; simp [Maps.has_put_same h.tidy.isMap (keyC_lit _)]
    · rw [Maps.has_put_other q, h.has l]; simp only [List.map_cons, List.mem_cons, exists_eq_or_imp, e]
  · rw [Maps.size_put h.tidy, (h.hasC y.1).2 (by simp [e])]; simp [h.size]
theorem BkC.del {D : DataW Value} {L : List (Cel × Value)} {x : Cel × Value} (h : BkC D (x :: L)) : BkC (D.del (keyC x.1)) L := by
  have hn := h.nodup
  simp only [List.map_cons, List.nodup_cons] at hn
  have ne : ∀ y ∈ L, y.1 ≠ x.1 := fun y hy e => hn.1 (by rw [← e]; exact List.mem_map_of_mem hy)
  refine ⟨h.tidy.del _, hn.2, fun y hy => ?_, fun l => ?_, ?_⟩
  · intro z
    rw [Maps.atKey_del_other (keyC_ne (ne y hy))]; exact h.there y (List.mem_cons_of_mem _ hy) z
  · by_cases e : l = keyC x.1
    · subst e; rw [Maps.has_del_same]; simp only [Bool.false_eq_true, false_iff]
      rintro ⟨c, hc, q⟩
      exact hn.1 (by rw [keyC_inj q]; exact hc)
    · rw [Maps.has_del_other e, h.has l]; simp only [List.map_cons, List.mem_cons, exists_eq_or_imp, e, false_or]
  · have s := Maps.size_del (k := keyC x.1) h.tidy
    rw [(h.hasC x.1).2 (by simp), h.size] at s
    simp only [if_true, List.length_cons] at s
    omega
theorem anyC_some {v u : Value} {ps : List MemPlace} (h : anyC v = some (.held u, ps)) : v = u := by
  simp only [anyC, Option.some.injEq, Prod.mk.injEq, DataW.held.injEq] at h
  exact h.1
/-- A map in memory. -/
def MapC (w : World) (m : Nat) (L : List (Cel × Value)) : Prop := ∃ D : DataW Value, w.ownsMap Try.prog 54 anyC m L.length D ∧ BkC D L
theorem MapC.nodup {w : World} {m : Nat} {L : List (Cel × Value)} (h : MapC w m L) : (L.map Prod.fst).Nodup := by
  obtain ⟨_, _, h⟩ := h; exact h.nodup
theorem MapC.lt {w : World} {m : Nat} {L : List (Cel × Value)} (h : MapC w m L) : m < w.heap.size := by
  obtain ⟨_, h, _⟩ := h
  exact h.lt
theorem MapC.made (w : World) : MapC (w.alloc (.map #[] 0)) w.heap.size [] := ⟨_, World.ownsMap_made w Try.prog 54 anyC, BkC.empty⟩
theorem MapC.only {D : List Nat} {w w' : World} (o : Only D w w') {m : Nat} {L : List (Cel × Value)} (s : m ∉ D) (h : MapC w m L) : MapC w' m L := by
  obtain ⟨MD, h1, h2⟩ := h
  have hlt := h1.lt
  obtain ⟨es, clock, hb, r⟩ := h1
  exact ⟨MD, ⟨es, clock, (o.block m hlt s).trans hb, r⟩, h2⟩
theorem MapC.perm {w : World} {m : Nat} {L L' : List (Cel × Value)} (h : MapC w m L) (p : L.Perm L') : MapC w m L' := by
  obtain ⟨MD, h1, h2⟩ := h; exact ⟨MD, by rw [← p.length_eq]; exact h1, h2.perm p⟩
theorem ownsMap_fitC {w : World} {m n : Nat} {MD : DataW Value} {L : List (Cel × Value)} (h : w.ownsMap Try.prog 54 anyC m n MD) (b : BkC MD L) : w.ownsMap Try.prog 54 anyC m L.length MD := by
  obtain ⟨es, clock, hb, F, hs, rfl⟩ := h
  refine ⟨es, clock, hb, F, ?_, rfl⟩
  have := b.size
  simp only [Maps.size, length_sorted, List.length_map, Array.length_toList] at this
  omega
section
variable {w : World} {m : Nat} {L : List (Cel × Value)}
theorem zeroSpots (u : World) : (zeroValue 56).run Try.prog u = .ok (.slice none 0 0) u := by kernel_rfl
/-- 'm[c]'. -/
theorem MapC.at_none (h : MapC w m L) {c : Cel} (hn : c ∉ L.map Prod.fst) : (Instr.lookup 46 (.map (some m)) (celV c) false).run Try.prog w = .ok (.slice none 0 0) w := by
  obtain ⟨MD, h1, h2⟩ := h
  obtain ⟨v, ps, hr, hv⟩ := h1.lookup celKey Try.underlying46 (zeroSpots w) (zd := .held (.slice none 0 0)) (zp := []) rfl (keyIsC c)
  have hf := h2.gone hn
  rw [Maps.atKey_of_not_has hf] at hv
  rw [hr, anyC_some hv]
theorem MapC.at_some (h : MapC w m L) {x : Cel × Value} (hx : x ∈ L) : (Instr.lookup 46 (.map (some m)) (celV x.1) false).run Try.prog w = .ok x.2 w := by
  obtain ⟨MD, h1, h2⟩ := h
  obtain ⟨v, ps, hr, hv⟩ := h1.lookup celKey Try.underlying46 (zeroSpots w) (zd := .held (.slice none 0 0)) (zp := []) rfl (keyIsC x.1)
  rw [h2.there x hx] at hv
  rw [hr, anyC_some hv]
theorem MapC.len (h : MapC w m L) (ty : TypeId) : (Builtin.len_ #[46] ty #[.map (some m)]).run Try.prog w = .ok (.int .i64 (L.length)) w := by
  obtain ⟨MD, h1, h2⟩ := h
  rw [h1.len Try.underlying46 ty, h2.size]
/-- 'm[c] = v': one that is there. -/
theorem MapC.over {x y : Cel × Value} (h : MapC w m (x :: L)) (hl : L.length + 1 < maxLen) (e : y.1 = x.1) :
    ∃ w', (Instr.mapUpdate 46 (.map (some m)) (celV y.1) y.2).run Try.prog w = .ok () w' ∧ MapC w' m (y :: L) ∧ w.mapTurned w' m := by
  obtain ⟨MD, h1, h2⟩ := h
  obtain ⟨w', hr, ho, htu⟩ := h1.store celKey Try.underlying46 hl (keyIsC y.1) (val := y.2) (d := .held y.2) (ps := []) rfl
  exact ⟨w', hr, ⟨_, ownsMap_fitC ho (h2.swap e), h2.swap e⟩, htu⟩
theorem MapC.store (h : MapC w m L) (hl : L.length < maxLen) {x : Cel × Value} (hx : x.1 ∉ L.map Prod.fst) :
    ∃ w', (Instr.mapUpdate 46 (.map (some m)) (celV x.1) x.2).run Try.prog w = .ok () w' ∧ MapC w' m (x :: L) ∧ w.mapTurned w' m := by
  obtain ⟨MD, h1, h2⟩ := h
  obtain ⟨w', hr, ho, htu⟩ := h1.store celKey Try.underlying46 hl (keyIsC x.1) (val := x.2) (d := .held x.2) (ps := []) rfl
  exact ⟨w', hr, ⟨_, ho, h2.put hx⟩, htu⟩
/-- 'delete(m, c)': one that is there. -/
theorem MapC.del {x : Cel × Value} (h : MapC w m (x :: L)) (ty : TypeId) :
    ∃ w', (Builtin.delete_ #[46, 54] ty #[.map (some m), celV x.1]).run Try.prog w = .ok (.tuple #[]) w' ∧ MapC w' m L ∧ w.mapTurned w' m := by
  obtain ⟨MD, h1, h2⟩ := h
  obtain ⟨w', hr, ho, htu⟩ := h1.drop celKey Try.underlying46 (keyIsC x.1) ty
  exact ⟨w', hr, ⟨_, ownsMap_fitC ho h2.del, h2.del⟩, htu⟩
theorem MapC.same {w' : World} (h : MapC w m L) (e : w'.heap[m]? = w.heap[m]?) : MapC w' m L := by
  obtain ⟨MD, h1, h2⟩ := h
  obtain ⟨es, clock, hb, r⟩ := h1
  exact ⟨MD, ⟨es, clock, e.trans hb, r⟩, h2⟩
theorem setBlock_at {w w2 : World} {m : Nat} {o' : Obj} (h : w.heap[m]? = some o') (h2 : m < w2.heap.size) (o : Obj) : (ChangeMaps.setBlock w2 m o).heap[m]? = (ChangeMaps.setBlock w m o).heap[m]? := by
  have h1 : m < w.heap.size := (Array.getElem?_eq_some_iff.1 h).1
  simp [ChangeMaps.setBlock, h1, h2]
/-- An entry taken, and stored into later: of a cell that is there. -/
theorem MapC.entry_over {x : Cel × Value} (h : MapC w m (x :: L)) (hl : L.length + 1 < maxLen) :
    ∃ (st : Int) (w1 : World), (Instr.mapEntry 46 (.map (some m)) (celV x.1)).run Try.prog w = .ok (.tuple #[x.2, .int .i64 st]) w1 ∧ w.mapTurned w1 m ∧
      ∀ (u : Value) (w2 : World), w2.heap[m]? = w1.heap[m]? → ∃ w3, (Instr.entryStore 46 (.map (some m)) (.int .i64 st) u).run Try.prog w2 = .ok () w3 ∧ w2.mapTurned w3 m ∧ MapC w3 m ((x.1, u) :: L) := by
  have h0 := h
  obtain ⟨MD, ⟨es, clock, hb, F, r⟩, h2⟩ := h
  obtain ⟨v0, st, w1, e1, e2, e3, e4⟩ := entry_split celKey Try.underlying46 zeroSpots hb F (keyIsC x.1)
  have hv := h0.at_some (x := x) (by simp)
  rw [hv] at e3
  injection e3 with e3 _
  subst e3
  refine ⟨st, w1, e1, e2, fun u w2 hw => ?_⟩
  obtain ⟨o, k1, k2, k3⟩ := e4 u w2 hw
  obtain ⟨w', q1, q2, q3⟩ := h0.over (y := (x.1, u)) hl rfl
  simp only at q1
  rw [q1] at k2
  injection k2 with _ k2
  subst k2
  refine ⟨_, k1, k3, q2.same (setBlock_at hb ?_ o)⟩
  obtain ⟨_, _, _, _, hm, _⟩ := k3
  exact (Array.getElem?_eq_some_iff.1 hm).1
/-- .. of one that is not. -/
theorem MapC.entry_new {c : Cel} (h : MapC w m L) (hl : L.length < maxLen) (hc : c ∉ L.map Prod.fst) :
    ∃ (st : Int) (w1 : World), (Instr.mapEntry 46 (.map (some m)) (celV c)).run Try.prog w = .ok (.tuple #[.slice none 0 0, .int .i64 st]) w1 ∧ w.mapTurned w1 m ∧
      ∀ (u : Value) (w2 : World), w2.heap[m]? = w1.heap[m]? → ∃ w3, (Instr.entryStore 46 (.map (some m)) (.int .i64 st) u).run Try.prog w2 = .ok () w3 ∧ w2.mapTurned w3 m ∧ MapC w3 m ((c, u) :: L) := by
  have h0 := h
  obtain ⟨MD, ⟨es, clock, hb, F, r⟩, h2⟩ := h
  obtain ⟨v0, st, w1, e1, e2, e3, e4⟩ := entry_split celKey Try.underlying46 zeroSpots hb F (keyIsC c)
  have hv := h0.at_none (c := c) hc
  rw [hv] at e3
  injection e3 with e3 _
  subst e3
  refine ⟨st, w1, e1, e2, fun u w2 hw => ?_⟩
  obtain ⟨o, k1, k2, k3⟩ := e4 u w2 hw
  obtain ⟨w', q1, q2, q3⟩ := h0.store (x := (c, u)) hl hc
  simp only at q1
  rw [q1] at k2
  injection k2 with _ k2
  subst k2
  refine ⟨_, k1, k3, q2.same (setBlock_at hb ?_ o)⟩
  obtain ⟨_, _, _, _, hm, _⟩ := k3
  exact (Array.getElem?_eq_some_iff.1 hm).1
end
end Go.Proofs.Ytdbjbjgnkkhgcaa
