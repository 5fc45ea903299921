/- A whole tree of broad as it lies in memory: its nodes, its book of leaves; broad.New and Tree.Remove: whatever the tree and the number. -/
import Derived.Test.YtdhbcgdlmkkdfaaGreatDoorBr13
import Derived.Maps.OwnSet
namespace Go.Proofs.YtdhbcgdlmkkdfaaGreatDoor
open Go.ChangeShapes Go.WideShapes Go.ChangeAt Go.RowKit
open Go.Maps (Keyed)
set_option linter.unusedVariables false
set_option linter.unusedSimpArgs false

/-- How an element of the book reads: a node by its block. -/
def nodeElem : Value → Option (DataW Unit × List MemPlace)
  | .pointer none => some (.nil, [])
  | .pointer (some ⟨b, 0, none⟩) => some (.lit (.int .i64 b), [])
  | _ => none
theorem nodeElem_some {v : Value} {b : Nat} {ps : List MemPlace} (h : nodeElem v = some (.lit (.int .i64 b), ps)) : v = .pointer (some ⟨b, 0, none⟩) := by
  unfold nodeElem at h
  split at h
  · cases h
  · simp only [Option.some.injEq, Prod.mk.injEq, DataW.lit.injEq, Lit.int.injEq, true_and] at h
    have := Int.ofNat.inj h.1
    rw [this]
  · cases h
theorem nodeElem_none {v : Value} {ps : List MemPlace} (h : nodeElem v = some (.nil, ps)) : v = .pointer none := by
  unfold nodeElem at h
  split at h
  · rfl
  · cases h
  · cases h
@[reducible] def key (i : Int) : Lit := .int .i64 i
theorem key_ne {i j : Int} (h : i ≠ j) : key i ≠ key j := fun e => h (by injection e)
theorem keyLit (i : Int) : WideAt.IsKeyLit (key i) := trivial
/-- The book has just these leaves. -/
structure Book (D : DataW Unit) (L : List Lf) : Prop where
  tidy : Maps.Tidy D
  nodup : (L.map Lf.id).Nodup
  there : ∀ x ∈ L, D.atKey (key x.id) .nil = .lit (.int .i64 x.b)
  has : ∀ i, Maps.has D (key i) = true ↔ i ∈ L.map Lf.id
  size : Maps.size D = L.length
theorem Book.perm {D : DataW Unit} {L L' : List Lf} (h : Book D L) (p : L.Perm L') : Book D L' :=
  ⟨h.tidy, (p.map _).nodup h.nodup, fun x hx => h.there x (p.mem_iff.2 hx), fun i => (h.has i).trans (p.map _).mem_iff, h.size.trans p.length_eq⟩
theorem Book.gone {D : DataW Unit} {L : List Lf} (h : Book D L) {i : Int} (hi : i ∉ L.map Lf.id) : Maps.has D (key i) = false := by
  cases hh : Maps.has D (key i)
  · rfl
  · exact absurd ((h.has i).1 hh) hi
theorem Book.empty : Book (.map []) [] := ⟨Maps.tidy_empty, by simp, by simp, fun i => by simp [Maps.has], rfl⟩
theorem Book.put {D : DataW Unit} {L : List Lf} (h : Book D L) {x : Lf} (hx : x.id ∉ L.map Lf.id) : Book (D.put (key x.id) (.lit (.int .i64 x.b))) (x :: L) := by
  refine ⟨h.tidy.put (keyLit _) _, by simp only [List.map_cons, List.nodup_cons]; exact ⟨hx, h.nodup⟩, fun y hy => ?_, fun i => ?_, ?_⟩
  · rcases List.mem_cons.1 hy with rfl | hy
    · exact Maps.atKey_put_same h.tidy.isMap (keyLit _) _ _
    · rw [Maps.atKey_put_other (key_ne (fun e => hx (by rw [← e]; exact List.mem_map_of_mem hy)))]; exact h.there y hy
  · by_cases e : i = x.id
    · subst e; simp [Maps.has_put_same h.tidy.isMap (keyLit _)]
    · rw [Maps.has_put_other (key_ne e), h.has i]; simp [e]
  · rw [Maps.size_put h.tidy, h.gone hx]; simp [h.size]
theorem Book.del {D : DataW Unit} {L : List Lf} {x : Lf} (h : Book D (x :: L)) : Book (D.del (key x.id)) L := by
  have hn := h.nodup
  simp only [List.map_cons, List.nodup_cons] at hn
  have ne : ∀ y ∈ L, y.id ≠ x.id := fun y hy e => hn.1 (by rw [← e]; exact List.mem_map_of_mem hy)
  refine ⟨h.tidy.del _, hn.2, fun y hy => ?_, fun i => ?_, ?_⟩
  · rw [Maps.atKey_del_other (key_ne (ne y hy))]; exact h.there y (List.mem_cons_of_mem _ hy)
  · by_cases e : i = x.id
    · subst e; rw [Maps.has_del_same]; simp only [Bool.false_eq_true, false_iff]; exact hn.1
    · rw [Maps.has_del_other (key_ne e), h.has i]; simp [e]
  · have s := Maps.size_del (k := key x.id) h.tidy
    rw [(h.has x.id).2 (by simp), h.size] at s
    simp only [if_true, List.length_cons] at s
    omega
/-- A number that is there gets another node. -/
theorem Book.swap {D : DataW Unit} {L : List Lf} {x y : Lf} (h : Book D (x :: L)) (e : y.id = x.id) : Book (D.put (key y.id) (.lit (.int .i64 y.b))) (y :: L) := by
  have hn := h.nodup
  simp only [List.map_cons, List.nodup_cons] at hn
  refine ⟨h.tidy.put (keyLit _) _, by simp only [List.map_cons, List.nodup_cons, e]; exact hn, fun z hz => ?_, fun i => ?_, ?_⟩
  · rcases List.mem_cons.1 hz with rfl | hz
    · exact Maps.atKey_put_same h.tidy.isMap (keyLit _) _ _
    · rw [Maps.atKey_put_other (key_ne (fun q => hn.1 (by rw [← e, ← q]; exact List.mem_map_of_mem hz)))]; exact h.there z (List.mem_cons_of_mem _ hz)
  · by_cases q : i = y.id
    · subst q; simp [Maps.has_put_same h.tidy.isMap (keyLit _)]
    · rw [Maps.has_put_other (key_ne q), h.has i]; simp [e]
  · rw [Maps.size_put h.tidy, (h.has y.id).2 (by simp [e])]; simp [h.size]
/-- Its box alone has turned. -/
theorem Book.box {D : DataW Unit} {L : List Lf} {x y : Lf} (h : Book D (x :: L)) (e : y.id = x.id) (eb : y.b = x.b) : Book D (y :: L) := by
  refine ⟨h.tidy, by simpa [e] using h.nodup, fun z hz => ?_, fun i => by simpa [e] using h.has i, by simpa using h.size⟩
  rcases List.mem_cons.1 hz with rfl | hz
  · rw [e, eb]; exact h.there x (by simp)
  · exact h.there z (List.mem_cons_of_mem _ hz)

theorem intKey : Keyed Tryz.prog 3 := Maps.int_keyed Tryz.underlying3
theorem zeroPtr (w : World) : (zeroValue 52).run Tryz.prog w = .ok (.pointer none) w := by kernel_rfl
def In64 (i : Int) : Prop := (Lit.int .i64 i).wf = true
theorem keyIs {i : Int} (h : In64 i) : keyOf Tryz.prog 3 (.int .i64 i) = some (key i) := Maps.keyOf_int_mk Tryz.underlying3 h
def MapIs (w : World) : Option Nat → List Lf → Prop
  | none, L => L = []
  | some m, L => ∃ MD : DataW Unit, w.ownsMap Tryz.prog 3 nodeElem m L.length MD ∧ Book MD L
theorem MapIs.only {D : List Nat} {w w' : World} (o : Only D w w') {lv : Option Nat} {L : List Lf} (s : ∀ m ∈ lv.toList, m ∉ D) (h : MapIs w lv L) : MapIs w' lv L := by
  cases lv with
  | none => exact h
  | some m =>
    obtain ⟨MD, h1, h2⟩ := h
    have hlt := h1.lt
    obtain ⟨es, clock, hb, r⟩ := h1
    exact ⟨MD, ⟨es, clock, (o.block m hlt (s m (by simp))).trans hb, r⟩, h2⟩
theorem MapIs.perm {w : World} {lv : Option Nat} {L L' : List Lf} (h : MapIs w lv L) (p : L.Perm L') : MapIs w lv L' := by
  cases lv with
  | none => simp only [MapIs] at h ⊢; subst h; exact List.nil_perm.1 p
  | some m => obtain ⟨MD, h1, h2⟩ := h; exact ⟨MD, by rw [← p.length_eq]; exact h1, h2.perm p⟩
theorem ownsMap_fit {w : World} {m n : Nat} {MD : DataW Unit} {L : List Lf} (h : w.ownsMap Tryz.prog 3 nodeElem m n MD) (b : Book MD L) : w.ownsMap Tryz.prog 3 nodeElem m L.length MD := by
  obtain ⟨es, clock, hb, F, hs, rfl⟩ := h
  refine ⟨es, clock, hb, F, ?_, rfl⟩
  have := b.size
  simp only [Maps.size, length_sorted, List.length_map, Array.length_toList] at this
  omega
/-- 'v, ok := t.leaves[id]'. -/
theorem MapIs.look_none {w : World} {lv : Option Nat} {L : List Lf} (h : MapIs w lv L) {i : Int} (hi : In64 i) (hn : i ∉ L.map Lf.id) : (Instr.lookup 53 (.map lv) (.int .i64 i) true).run Tryz.prog w = .ok (.tuple #[.pointer none, .bool false]) w := by
  cases lv with
  | none => exact Maps.look_nil true intKey Tryz.underlying53 (zeroPtr w) (keyIs hi)
  | some m =>
    obtain ⟨MD, h1, h2⟩ := h
    obtain ⟨v, ps, hr, hv⟩ := h1.look_ok intKey Tryz.underlying53 (zeroPtr w) (zd := .nil) (zp := []) rfl (keyIs hi)
    have hf := h2.gone hn
    rw [Maps.atKey_of_not_has hf] at hv
    rw [hr, hf, nodeElem_none hv]
theorem MapIs.look_some {w : World} {lv : Option Nat} {L : List Lf} (h : MapIs w lv L) {x : Lf} (hi : In64 x.id) (hx : x ∈ L) : (Instr.lookup 53 (.map lv) (.int .i64 x.id) true).run Tryz.prog w = .ok (.tuple #[.pointer (some ⟨x.b, 0, none⟩), .bool true]) w := by
  cases lv with
  | none => simp only [MapIs] at h; subst h; simp at hx
  | some m =>
    obtain ⟨MD, h1, h2⟩ := h
    obtain ⟨v, ps, hr, hv⟩ := h1.look_ok intKey Tryz.underlying53 (zeroPtr w) (zd := .nil) (zp := []) rfl (keyIs hi)
    rw [h2.there x hx] at hv
    rw [hr, (h2.has x.id).2 (List.mem_map_of_mem hx), nodeElem_some hv]
theorem MapIs.len {w : World} {lv : Option Nat} {L : List Lf} (h : MapIs w lv L) (ty : TypeId) : (Builtin.len_ #[53] ty #[.map lv]).run Tryz.prog w = .ok (.int .i64 (L.length)) w := by
  cases lv with
  | none => simp only [MapIs] at h; subst h; exact Maps.len_nil Tryz.underlying53 ty
  | some m =>
    obtain ⟨MD, h1, h2⟩ := h
    rw [h1.len Tryz.underlying53 ty, h2.size]

/-- A whole tree. -/
structure Whole (w : World) (t : Nat) (fat : Int) (T : Option Tr) (lv : Option Nat) : Prop where
  tree : TreeAt w t fat (rootO T) lv
  inn : InO w T
  fits : ∀ x ∈ leavesO T, withinX x.box x.room = true
  book : MapIs w lv (leavesO T)
  nodup : (t :: (lv.toList ++ blocksO T)).Nodup
def boxesOf (L : List Lf) : List (Int × Bx) := L.map fun x => (x.id, x.box)
structure TreeIs (w : World) (t : Nat) (fat : Int) (D : List Nat) (M : List (Int × Bx)) : Prop where
  ex : ∃ T lv, Whole w t fat T lv ∧ D = t :: (lv.toList ++ blocksO T) ∧ M.Perm (boxesOf (leavesO T))
  fat0 : 0 ≤ fat ∧ fat ≤ 3276800
  small : M.length ≤ 60
  keys : (M.map Prod.fst).Nodup
  ids : ∀ p ∈ M, In64 p.1
theorem Whole.only {D : List Nat} {w w' : World} {t : Nat} {fat : Int} {T : Option Tr} {lv : Option Nat} (h : Whole w t fat T lv) (o : Only D w w') (s : ∀ b ∈ t :: (lv.toList ++ blocksO T), b ∉ D) : Whole w' t fat T lv :=
  ⟨o.tree (s t (by simp)) h.tree, h.inn.only o (fun b hb => s b (by simp [hb])), h.fits, h.book.only o (fun m hm => s m (List.mem_cons_of_mem _ (List.mem_append_left _ hm))), h.nodup⟩
theorem TreeIs.only {D E : List Nat} {w w' : World} {t : Nat} {fat : Int} {M : List (Int × Bx)} (h : TreeIs w t fat D M) (o : Only E w w') (s : ∀ b ∈ D, b ∉ E) : TreeIs w' t fat D M := by
  obtain ⟨T, lv, hw, hD, hM⟩ := h.ex
  exact ⟨⟨T, lv, hw.only o (fun b hb => s b (hD ▸ hb)), hD, hM⟩, h.fat0, h.small, h.keys, h.ids⟩
theorem TreeIs.perm {w : World} {t : Nat} {fat : Int} {D : List Nat} {M N : List (Int × Bx)} (h : TreeIs w t fat D M) (p : N.Perm M) : TreeIs w t fat D N := by
  obtain ⟨T, lv, hw, hD, hM⟩ := h.ex
  exact ⟨⟨T, lv, hw, hD, p.trans hM⟩, h.fat0, by rw [p.length_eq]; exact h.small, (p.map _).symm.nodup h.keys, fun q hq => h.ids q (p.mem_iff.1 hq)⟩
theorem TreeIs.lt {w : World} {t : Nat} {fat : Int} {D : List Nat} {M : List (Int × Bx)} (h : TreeIs w t fat D M) : ∀ b ∈ D, b < w.heap.size := by
  obtain ⟨T, lv, hw, rfl, hM⟩ := h.ex
  intro b hb
  simp only [List.mem_cons, List.mem_append] at hb
  rcases hb with rfl | hb | hb
  · exact hw.tree.lt
  · cases lv with
    | none => simp at hb
    | some m => simp at hb; subst hb; obtain ⟨MD, h1, _⟩ := hw.book; exact h1.lt
  · cases T with
    | none => simp [blocksO] at hb
    | some T => exact hw.inn.1.lt b hb
theorem boxes_keys (L : List Lf) : (boxesOf L).map Prod.fst = L.map Lf.id := by simp [boxesOf, Function.comp_def]

theorem new_bad (fat : Int) (w : World) (h : fat < 0 ∨ 3276800 < fat) : Calls Tryz.prog 4 #[.int .i64 fat] w fun e w' => e = .returned (.tuple #[.pointer none, .iface 29 (.int .i64 2)]) ∧ Only [] w w' := by
  by_cases h0 : fat < 0
  · go_enter Tryz.func4, Tryz.ntmps4
    go_wp2_with fail
    go_ret2
    exact ⟨rfl, Only.refl _ _⟩
  · have h1 : 3276800 < fat := by omega
    go_enter Tryz.func4, Tryz.ntmps4
    go_wp2_with fail
    go_ret2
    exact ⟨rfl, Only.refl _ _⟩
theorem new_calls (fat : Int) (w : World) (h0 : 0 ≤ fat) (h1 : fat ≤ 3276800) : Calls Tryz.prog 4 #[.int .i64 fat] w fun e w' => ∃ t, e = .returned (.tuple #[.pointer (some ⟨t, 0, none⟩), .nilIface]) ∧ TreeIs w' t fat [t] [] ∧ w.heap.size ≤ t ∧ Only [] w w' := by
  have t0 : ¬ fat < 0 := by omega
  have t1 : ¬ 3276800 < fat := by omega
  go_enter Tryz.func4, Tryz.ntmps4
  go_wp2_with fail
  go_ret2
  refine ⟨w.heap.size, rfl, ⟨⟨none, none, ⟨(MapKept.heap_alloc w _).1, trivial, by simp [leavesO], rfl, by simp [blocksO]⟩, rfl, by simp [boxesOf, leavesO]⟩, ⟨h0, h1⟩, by simp, by simp, by simp⟩, Nat.le_refl _, (Only.refl [] w).alloc _⟩
end Go.Proofs.YtdhbcgdlmkkdfaaGreatDoor
