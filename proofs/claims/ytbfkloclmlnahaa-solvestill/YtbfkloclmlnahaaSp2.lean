/- A map of numbers to true: stored into by an entry of its own, looked up; one word per number. -/
import Derived.Test.YtbfkloclmlnahaaSp1
import Derived.WideKeyEntry
import Derived.Maps.OwnSet
namespace Go.Proofs.Ytbfkloclmlnahaa
open Go.ChangeShapes Go.WideShapes Go.ChangeAt Go.RowKit Go.MapKept Go.ChangeMaps
open Go.WideElems (Fit findIdx_born findIdx_arr modify_last set_self)
open Go.Maps (Keyed)
set_option linter.unusedVariables false
set_option linter.unusedSimpArgs false

section
variable {H : Type} {P : Program} {w : World} {t k e : TypeId} {R : Value → Option (DataW H × List MemPlace)} {b : Nat} {es : Array MapEntry} {clock : Nat}
/-- An entry taken, and stored into right behind it, is a store; of whichever key type. -/
theorem entry_store (K : Keyed P k) (ht : P.underlying t = some (.map k e)) {z : Value} (hz : ∀ u : World, (zeroValue e).run P u = .ok z u) (hb : w.heap[b]? = some (.map es clock)) (F : Fit P k R es clock)
    {key : Value} {kl : Lit} (hkey : keyOf P k key = some kl) (val : Value) :
    ∃ (v0 : Value) (st : Int) (w1 w2 : World), (Instr.mapEntry t (.map (some b)) key).run P w = .ok (.tuple #[v0, .int .i64 st]) w1 ∧ w.mapTurned w1 b ∧
      (Instr.entryStore t (.map (some b)) (.int .i64 st) val).run P w1 = .ok () w2 ∧ (Instr.mapUpdate t (.map (some b)) key val).run P w = .ok () w2 := by
  obtain ⟨s1, s2, _⟩ := F.stamped
  have two : ∀ a c : Obj, setBlock (setBlock w b a) b c = setBlock w b c := fun a c => by simp [setBlock]
  rcases K.find w hkey es.toList F.keys with ⟨h1, h2⟩ | ⟨j, e0, h1, h2, h3⟩
  · have hb1 : (setBlock w b (.map (es.push ⟨key, z, clock⟩) (clock + 1))).heap[b]? = some (.map (es.push ⟨key, z, clock⟩) (clock + 1)) := heap_setBlock_same hb _
    refine ⟨z, clock, setBlock w b (.map (es.push ⟨key, z, clock⟩) (clock + 1)), setBlock w b (.map (es.push ⟨key, val, clock⟩) (clock + 1)), ?_, ⟨es, clock, _, _, hb, rfl⟩, ?_, ?_⟩
    · simp [Instr.mapEntry, run_underlying ht, MapKept.run_getObj_map hb, K.check w false hkey, h1, hz, MapKept.run_setObj_map _ hb, Result.andThen, setBlock, goInt]
    · have hidx : (es.push ⟨key, z, clock⟩).findIdx? (fun e => ((e.born : Nat) : Int) == ((clock : Nat) : Int)) = some es.size := by
        rw [findIdx_arr]
        refine findIdx_born (l := (es.push ⟨key, z, clock⟩).toList) (j := es.size) (e0 := ⟨key, z, clock⟩) ?_ (by simp)
        rw [Array.toList_push, List.map_append, List.nodup_append]
        refine ⟨s2, by simp, fun a ha c hc q => ?_⟩
        obtain ⟨x, hx, rfl⟩ := List.mem_map.1 ha
        have h5 := s1 x hx
        simp at hc
        omega
      have hmod : (es.push ⟨key, z, clock⟩).modify es.size (fun e => { e with val := val }) = es.push ⟨key, val, clock⟩ := by
        apply Array.ext'
        rw [Array.toList_modify, Array.toList_push, Array.toList_push, ← Array.length_toList, modify_last]
      rw [← two (.map (es.push ⟨key, z, clock⟩) (clock + 1)) (.map (es.push ⟨key, val, clock⟩) (clock + 1))]
      simp [Instr.entryStore, MapKept.run_getObj_map hb1, asInt, asIntOf, hidx, hmod, MapKept.run_setObj_map _ hb1, Result.andThen]
      try rfl
    · simp [Instr.mapUpdate, run_underlying ht, MapKept.run_getObj_map hb, K.check w false hkey, h1, MapKept.run_setObj_map _ hb, Result.andThen, setBlock]
  · have hj : es[j]? = some e0 := by simpa using h2
    have hsame : es.modify j (fun e => { e with key := key }) = es := by
      apply Array.ext'
      rw [Array.toList_modify, modify_eq_set _ _ _ _ h2]
      have : ({ e0 with key := key } : MapEntry) = e0 := by rw [← h3]
      rw [this]
      exact set_self _ _ _ h2
    have hb1 : (setBlock w b (.map es clock)).heap[b]? = some (.map es clock) := heap_setBlock_same hb _
    refine ⟨e0.val, e0.born, setBlock w b (.map es clock), setBlock w b (.map (es.modify j (fun e' => { e' with key := key, val := val })) clock), ?_, ⟨es, clock, _, _, hb, rfl⟩, ?_, ?_⟩
    · simp [Instr.mapEntry, run_underlying ht, MapKept.run_getObj_map hb, K.check w false hkey, h1, hj, h3, K.stays w hkey, hsame, MapKept.run_setObj_map _ hb, Result.andThen, setBlock, goInt]
    · have hidx : es.findIdx? (fun e => ((e.born : Nat) : Int) == ((e0.born : Nat) : Int)) = some j := by
        rw [findIdx_arr]
        exact findIdx_born s2 h2
      have hmod : es.modify j (fun e => { e with val := val }) = es.modify j (fun e' => { e' with key := key, val := val }) := by
        apply Array.ext'
        rw [Array.toList_modify, Array.toList_modify, modify_eq_set _ _ _ _ h2, modify_eq_set _ _ _ _ h2, ← h3]
      rw [← two (.map es clock) (.map (es.modify j (fun e' => { e' with key := key, val := val })) clock)]
      simp [Instr.entryStore, MapKept.run_getObj_map hb1, asInt, asIntOf, hidx, hmod, MapKept.run_setObj_map _ hb1, Result.andThen]
      try rfl
    · simp [Instr.mapUpdate, run_underlying ht, MapKept.run_getObj_map hb, K.check w false hkey, h1, hj, h3, K.stays w hkey, MapKept.run_setObj_map _ hb, Result.andThen, setBlock]
end

def boolElem (v : Value) : Option (DataW Unit × List MemPlace) :=
  match v with
  | .bool x => some (.lit (.bool x), [])
  | _ => none
theorem boolElem_some {v : Value} {x : Bool} {ps : List MemPlace} (h : boolElem v = some (.lit (.bool x), ps)) : v = .bool x := by
  unfold boolElem at h
  split at h
  · simp only [Option.some.injEq, Prod.mk.injEq, DataW.lit.injEq, Lit.bool.injEq] at h
    rw [h.1]
  · cases h
/-- The map has just these numbers, each with true. -/
structure BookT (D : DataW Unit) (S : List Int) : Prop where
  tidy : Maps.Tidy D
  has : ∀ i, D.atKey (keyS i) (.lit (.bool false)) = .lit (.bool (decide (i ∈ S)))
theorem BookT.empty : BookT (.map []) [] := ⟨Maps.tidy_empty, fun i => by simp [DataW.atKey]⟩
theorem BookT.put {D : DataW Unit} {S : List Int} (h : BookT D S) (i : Int) : BookT (D.put (keyS i) (.lit (.bool true))) (i :: S) := by
  refine ⟨h.tidy.put (keyS_lit _) _, fun j => ?_⟩
  by_cases e : j = i
  · subst e
    rw [Maps.atKey_put_same h.tidy.isMap (keyS_lit _)]; simp
  · rw [Maps.atKey_put_other (keyS_ne e), h.has j]; simp [e]
theorem zeroBool (w : World) : (zeroValue 4).run Try.prog w = .ok (.bool false) w := by kernel_rfl
def TMap (w : World) (m n : Nat) (S : List Int) : Prop := ∃ D : DataW Unit, w.ownsMap Try.prog 3 boolElem m n D ∧ BookT D S
theorem TMap.made (w : World) : TMap (w.alloc (.map #[] 0)) w.heap.size 0 [] := ⟨_, World.ownsMap_made w Try.prog 3 boolElem, BookT.empty⟩
theorem TMap.look {w : World} {m n : Nat} {S : List Int} (h : TMap w m n S) {i : Int} (hi : In64S i) : (Instr.lookup 84 (.map (some m)) (.int .i64 i) false).run Try.prog w = .ok (.bool (decide (i ∈ S))) w := by
  obtain ⟨D, h1, h2⟩ := h
  obtain ⟨v, ps, hr, hv⟩ := h1.lookup intKeyS Try.underlying84 (zeroBool w) (zd := .lit (.bool false)) (zp := []) rfl (keyIsS hi)
  rw [h2.has i] at hv
  rw [hr, boolElem_some hv]
theorem TMap.store {w : World} {m n : Nat} {S : List Int} (h : TMap w m n S) (hn : n < maxLen) {i : Int} (hi : In64S i) :
    ∃ (v0 : Value) (st : Int) (w1 w2 : World), (Instr.mapEntry 84 (.map (some m)) (.int .i64 i)).run Try.prog w = .ok (.tuple #[v0, .int .i64 st]) w1 ∧ Only [m] w w1 ∧
      (Instr.entryStore 84 (.map (some m)) (.int .i64 st) (.bool true)).run Try.prog w1 = .ok () w2 ∧ Only [m] w w2 ∧ TMap w2 m (n + 1) (i :: S) := by
  obtain ⟨D, h1, h2⟩ := h
  obtain ⟨w2, hr, ho, ht⟩ := h1.store intKeyS Try.underlying84 hn (keyIsS hi) (val := .bool true) (d := .lit (.bool true)) (ps := []) rfl
  obtain ⟨es, clock, hb, F, _, _⟩ := h1
  obtain ⟨v0, st, w1, w2', e1, e2, e3, e4⟩ := entry_store intKeyS Try.underlying84 (fun u => zeroBool u) hb F (keyIsS hi) (.bool true)
  rw [hr] at e4
  injection e4 with _ e4
  subst e4
  exact ⟨v0, st, w1, w2, e1, (Only.refl [m] w).grown e2.grown (fun k hk => by injection hk with hk; exact Or.inl (by simp [hk])), e3, (Only.refl [m] w).grown ht.grown (fun k hk => by injection hk with hk; exact Or.inl (by simp [hk])), _, ho, h2.put i⟩
theorem TMap.only {D : List Nat} {w w' : World} {m n : Nat} {S : List Int} (h : TMap w m n S) (o : Only D w w') (s : m ∉ D) : TMap w' m n S := by
  obtain ⟨MD, ⟨es, clock, hb, hr⟩, h2⟩ := h
  exact ⟨MD, ⟨es, clock, (o.block m (Array.getElem?_eq_some_iff.1 hb).1 s).trans hb, hr⟩, h2⟩
end Go.Proofs.Ytbfkloclmlnahaa
