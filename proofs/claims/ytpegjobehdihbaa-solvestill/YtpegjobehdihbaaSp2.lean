/- A map of numbers to true: stored into by an entry of its own, looked up; one word per number. -/
import Derived.Test.YtpegjobehdihbaaSp1
import Derived.Test.YtpegjobehdihbaaEnt
import Derived.Maps.OwnSet
namespace Go.Proofs.Ytpegjobehdihbaa
open Go.ChangeShapes Go.WideShapes Go.ChangeAt Go.RowKit Go.MapKept Go.ChangeMaps
open Go.WideElems (Fit findIdx_born findIdx_arr modify_last set_self)
open Go.Maps (Keyed)
set_option linter.unusedVariables false
set_option linter.unusedSimpArgs false


def boolElem (v : Value) : Option (DataW Unit × List MemPlace) :=
  match v with
  | .bool x => some (.lit (.bool x), [])
  | _ => none
theorem boolElem_some {v : Value} {x : Bool} {ps : List MemPlace} (h : boolElem v = some (.lit (.bool x), ps)) : v = .bool x := by
  unfold boolElem at h
  split at h
  · simp only [Option.some.injEq, Prod.mk.injEq, DataW.lit.injEq, Lit.bool.injEq] at h
    rw [h.1]
  · cases h
/-- The map has just these numbers, each with true. -/
structure BookT (D : DataW Unit) (S : List Int) : Prop where
  tidy : Maps.Tidy D
  has : ∀ i, D.atKey (keyS i) (.lit (.bool false)) = .lit (.bool (decide (i ∈ S)))
theorem BookT.empty : BookT (.map []) [] := ⟨Maps.tidy_empty, fun i => by simp [DataW.atKey]⟩
theorem BookT.put {D : DataW Unit} {S : List Int} (h : BookT D S) (i : Int) : BookT (D.put (keyS i) (.lit (.bool true))) (i :: S) := by
  refine ⟨h.tidy.put (keyS_lit _) _, fun j => ?_⟩
  by_cases e : j = i
  · subst e
    rw [Maps.atKey_put_same h.tidy.isMap (keyS_lit _)]; simp
  · rw [Maps.atKey_put_other (keyS_ne e), h.has j]; simp [e]
theorem zeroBool (w : World) : (zeroValue 4).run Try.prog w = .ok (.bool false) w := by kernel_rfl
def TMap (w : World) (m n : Nat) (S : List Int) : Prop := ∃ D : DataW Unit, w.ownsMap Try.prog 3 boolElem m n D ∧ BookT D S
theorem TMap.made (w : World) : TMap (w.alloc (.map #[] 0)) w.heap.size 0 [] := ⟨_, World.ownsMap_made w Try.prog 3 boolElem, BookT.empty⟩
theorem TMap.look {w : World} {m n : Nat} {S : List Int} (h : TMap w m n S) {i : Int} (hi : In64S i) : (Instr.lookup 32 (.map (some m)) (.int .i64 i) false).run Try.prog w = .ok (.bool (decide (i ∈ S))) w := by
  obtain ⟨D, h1, h2⟩ := h
  obtain ⟨v, ps, hr, hv⟩ := h1.lookup intKeyS Try.underlying32 (zeroBool w) (zd := .lit (.bool false)) (zp := []) rfl (keyIsS hi)
  rw [h2.has i] at hv
  rw [hr, boolElem_some hv]
theorem TMap.store {w : World} {m n : Nat} {S : List Int} (h : TMap w m n S) (hn : n < maxLen) {i : Int} (hi : In64S i) :
    ∃ (v0 : Value) (st : Int) (w1 w2 : World), (Instr.mapEntry 32 (.map (some m)) (.int .i64 i)).run Try.prog w = .ok (.tuple #[v0, .int .i64 st]) w1 ∧ Only [m] w w1 ∧
      (Instr.entryStore 32 (.map (some m)) (.int .i64 st) (.bool true)).run Try.prog w1 = .ok () w2 ∧ Only [m] w w2 ∧ TMap w2 m (n + 1) (i :: S) := by
  obtain ⟨D, h1, h2⟩ := h
  obtain ⟨w2, hr, ho, ht⟩ := h1.store intKeyS Try.underlying32 hn (keyIsS hi) (val := .bool true) (d := .lit (.bool true)) (ps := []) rfl
  obtain ⟨es, clock, hb, F, _, _⟩ := h1
  obtain ⟨v0, st, w1, w2', e1, e2, e3, e4⟩ := entry_store intKeyS Try.underlying32 (fun u => zeroBool u) hb F (keyIsS hi) (.bool true)
  rw [hr] at e4
  injection e4 with _ e4
  subst e4
  exact ⟨v0, st, w1, w2, e1, (Only.refl [m] w).grown e2.grown (fun k hk => by injection hk with hk; exact Or.inl (by simp [hk])), e3, (Only.refl [m] w).grown ht.grown (fun k hk => by injection hk with hk; exact Or.inl (by simp [hk])), _, ho, h2.put i⟩
theorem TMap.only {D : List Nat} {w w' : World} {m n : Nat} {S : List Int} (h : TMap w m n S) (o : Only D w w') (s : m ∉ D) : TMap w' m n S := by
  obtain ⟨MD, ⟨es, clock, hb, hr⟩, h2⟩ := h
  exact ⟨MD, ⟨es, clock, (o.block m (Array.getElem?_eq_some_iff.1 hb).1 s).trans hb, hr⟩, h2⟩
end Go.Proofs.Ytpegjobehdihbaa
