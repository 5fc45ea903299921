/- gyrekeep.SessionOnce: a map of numbers to true; taken; pick. -/
import Derived.Test.YtepgcpcanbekaaaDoorSe6
import Derived.Maps.OwnSet
namespace Go.Proofs.YtepgcpcanbekaaaDoor
open Go.ChangeShapes Go.WideShapes Go.ChangeAt Go.RowKit Go.MapKept Go.ChangeMaps
open Go.Maps (Keyed)
set_option linter.unusedVariables false
set_option linter.unusedSimpArgs false

@[reducible] def keyS (i : Int) : Lit := .int .i64 i
theorem keyS_ne {i j : Int} (h : i ≠ j) : keyS i ≠ keyS j := fun e => h (by injection e)
theorem keyS_lit (i : Int) : WideAt.IsKeyLit (keyS i) := trivial
theorem intKeyS : Keyed Tryd.prog 3 := Maps.int_keyed Tryd.underlying3
def In64S (i : Int) : Prop := (Lit.int .i64 i).wf = true
theorem keyIsS {i : Int} (h : In64S i) : keyOf Tryd.prog 3 (.int .i64 i) = some (keyS i) := Maps.keyOf_int_mk Tryd.underlying3 h
theorem in64S_of {i : Int} (h : -9223372036854775808 ≤ i) (h' : i ≤ 9223372036854775807) : In64S i := by
  show (decide ((-9223372036854775808 : Int) ≤ i) && decide (i ≤ 9223372036854775807)) = true
  simp [h, h']
def boolElem (v : Value) : Option (DataW Unit × List MemPlace) :=
  match v with
  | .bool x => some (.lit (.bool x), [])
  | _ => none
theorem boolElem_some {v : Value} {x : Bool} {ps : List MemPlace} (h : boolElem v = some (.lit (.bool x), ps)) : v = .bool x := by
  unfold boolElem at h
  split at h
  · simp only [Option.some.injEq, Prod.mk.injEq, DataW.lit.injEq, Lit.bool.injEq] at h
    rw [h.1]
  · cases h
/-- The map has just these numbers, each with true. -/
structure BookT (D : DataW Unit) (S : List Int) : Prop where
  tidy : Maps.Tidy D
  has : ∀ i, D.atKey (keyS i) (.lit (.bool false)) = .lit (.bool (decide (i ∈ S)))
theorem BookT.empty : BookT (.map []) [] := ⟨Maps.tidy_empty, fun i => by simp [DataW.atKey]⟩
theorem BookT.put {D : DataW Unit} {S : List Int} (h : BookT D S) (i : Int) : BookT (D.put (keyS i) (.lit (.bool true))) (i :: S) := by
  refine ⟨h.tidy.put (keyS_lit _) _, fun j => ?_⟩
  by_cases e : j = i
  · subst e
    rw [Maps.atKey_put_same h.tidy.isMap (keyS_lit _)]; simp
  · rw [Maps.atKey_put_other (keyS_ne e), h.has j]; simp [e]
theorem zeroBool (w : World) : (zeroValue 4).run Tryd.prog w = .ok (.bool false) w := by kernel_rfl
def TMap (w : World) (m n : Nat) (S : List Int) : Prop := ∃ D : DataW Unit, w.ownsMap Tryd.prog 3 boolElem m n D ∧ BookT D S
theorem TMap.made (w : World) : TMap (w.alloc (.map #[] 0)) w.heap.size 0 [] := ⟨_, World.ownsMap_made w Tryd.prog 3 boolElem, BookT.empty⟩
theorem TMap.look {w : World} {m n : Nat} {S : List Int} (h : TMap w m n S) {i : Int} (hi : In64S i) : (Instr.lookup 32 (.map (some m)) (.int .i64 i) false).run Tryd.prog w = .ok (.bool (decide (i ∈ S))) w := by
  obtain ⟨D, h1, h2⟩ := h
  obtain ⟨v, ps, hr, hv⟩ := h1.lookup intKeyS Tryd.underlying32 (zeroBool w) (zd := .lit (.bool false)) (zp := []) rfl (keyIsS hi)
  rw [h2.has i] at hv
  rw [hr, boolElem_some hv]
theorem TMap.put {w : World} {m n : Nat} {S : List Int} (h : TMap w m n S) (hn : n < maxLen) {i : Int} (hi : In64S i) :
    ∃ w2, (Instr.mapUpdate 32 (.map (some m)) (.int .i64 i) (.bool true)).run Tryd.prog w = .ok () w2 ∧ Only [m] w w2 ∧ TMap w2 m (n + 1) (i :: S) := by
  obtain ⟨D, h1, h2⟩ := h
  obtain ⟨w2, hr, ho, ht⟩ := h1.store intKeyS Tryd.underlying32 hn (keyIsS hi) (val := .bool true) (d := .lit (.bool true)) (ps := []) rfl
  exact ⟨w2, hr, (Only.refl [m] w).grown ht.grown (fun k hk => by injection hk with hk; exact Or.inl (by simp [hk])), _, ho, h2.put i⟩
theorem TMap.len {w : World} {m n : Nat} {S : List Int} (h : TMap w m n S) : ∃ z : Nat, z ≤ n ∧ ∀ ty, (Builtin.len_ #[32] ty #[.map (some m)]).run Tryd.prog w = .ok (.int .i64 ((z : Nat) : Int)) w := by
  obtain ⟨D, h1, h2⟩ := h
  exact ⟨Maps.size D, h1.size_le, fun ty => h1.len Tryd.underlying32 ty⟩
theorem TMap.lt {w : World} {m n : Nat} {S : List Int} (h : TMap w m n S) : m < w.heap.size := by
  obtain ⟨D, h1, _⟩ := h
  exact h1.lt
theorem TMap.only {D : List Nat} {w w' : World} {m n : Nat} {S : List Int} (h : TMap w m n S) (o : Only D w w') (s : m ∉ D) : TMap w' m n S := by
  obtain ⟨MD, ⟨es, clock, hb, hr⟩, h2⟩ := h
  exact ⟨MD, ⟨es, clock, (o.block m (Array.getElem?_eq_some_iff.1 hb).1 s).trans hb, hr⟩, h2⟩
theorem pick_calls (a n : Int) (w : World) (h0 : 0 < n) (h1 : n ≤ 1000) : Calls Tryd.prog 5 #[.int .i64 a, .int .i64 n] w fun e w' => ∃ p, e = .returned (.int .i64 p) ∧ 0 ≤ p ∧ p < n ∧ w' = w := by
  have hn : n ≠ 0 := by omega
  go_enter Tryd.func5, Tryd.ntmps5
  go_wp2_with fail
  go_ret
  have hu : 0 ≤ IntKind.u64.wrap a := by show 0 ≤ a % _; exact Int.emod_nonneg _ (by decide)
  have e1 : (IntKind.u64.wrap a).tmod n = IntKind.u64.wrap a % n := Int.tmod_eq_emod_of_nonneg hu
  have e2 := Int.emod_nonneg (IntKind.u64.wrap a) hn
  have e3 := Int.emod_lt_of_pos (IntKind.u64.wrap a) h0
  have e4 : wrap64 ((IntKind.u64.wrap a).tmod n) = IntKind.u64.wrap a % n := by rw [e1]; unfold wrap64; omega
  exact ⟨_, rfl, by rw [e4]; exact e2, by rw [e4]; exact e3, rfl⟩
def s0 : Se := ⟨7, 2, 0, 2, -1, 0⟩
def s1 : Se := ⟨7, 2, 0, 1, 5, 1⟩
set_option maxRecDepth 100000 in
theorem taken_calls (w : World) (hg : EtIs w) : Calls Tryd.prog 7 #[] w fun e w' => e = .returned (.bool true) ∧ Only [] w w' := by
  have HG : Hid (EtIs w) := hg
  clear hg
  have OK0 : Hid (SeOk s0) := by unfold s0; exact ⟨by decide, by decide, by decide, by decide, by decide, by decide, by decide, by decide, by decide⟩
  have OK1 : Hid (SeOk s1) := by unfold s1; exact ⟨by decide, by decide, by decide, by decide, by decide, by decide, by decide, by decide, by decide⟩
  have T0 : Hid (∀ x u, SeAt u x s0 → Calls Tryd.prog 9 #[.pointer (some ⟨x, 0, none⟩), .int .i64 7, .int .i64 5] u fun e w' => e = .returned .nilIface ∧ SeAt w' x s1 ∧ Only [x] u w') := by
    intro x u hu
    have := takeS_calls x s0 7 5 u hu OK0.out
    rwa [show eV (takeC s0 7 5) = .nilIface by kernel_rfl, show takeM s0 7 5 = s1 by kernel_rfl] at this
  have T1 : Hid (∀ x u, SeAt u x s1 → Calls Tryd.prog 9 #[.pointer (some ⟨x, 0, none⟩), .int .i64 7, .int .i64 5] u fun e w' => e = .returned (.iface 40 (.int .i64 9)) ∧ SeAt w' x s1 ∧ Only [x] u w') := by
    intro x u hu
    have := takeS_calls x s1 7 5 u hu OK1.out
    rwa [show eV (takeC s1 7 5) = .iface 40 (.int .i64 9) by kernel_rfl, show takeM s1 7 5 = s1 by kernel_rfl] at this
  have T2 : Hid (∀ x u, SeAt u x s1 → Calls Tryd.prog 9 #[.pointer (some ⟨x, 0, none⟩), .int .i64 8, .int .i64 6] u fun e w' => e = .returned (.iface 40 (.int .i64 5)) ∧ SeAt w' x s1 ∧ Only [x] u w') := by
    intro x u hu
    have := takeS_calls x s1 8 6 u hu OK1.out
    rwa [show eV (takeC s1 8 6) = .iface 40 (.int .i64 5) by kernel_rfl, show takeM s1 8 6 = s1 by kernel_rfl] at this
  go_enter Tryd.func7, Tryd.ntmps7
  go_wp2_with fail
  refine (newS_right 7 2 0 w ⟨by omega, by omega, by omega⟩).mono ?_
  rintro e w1 ⟨x, rfl, hx, hs, o1⟩
  have H1 : Hid (w.heap.size ≤ x ∧ SeAt w1 x s0 ∧ Only [] w w1) := ⟨hx, hs, o1⟩
  clear hx hs o1
  go_wp2_with fail
  refine (T0.out x w1 H1.out.2.1).mono ?_
  rintro e w2 ⟨rfl, h2, o2⟩
  have H2 : Hid (SeAt w2 x s1 ∧ Only [] w w2) := ⟨h2, H1.out.2.2.then o2 (fun b hb => by rw [List.mem_singleton.1 hb]; exact Or.inr H1.out.1)⟩
  clear h2 o2
  go_wp2_with fail
  refine (T1.out x w2 H2.out.1).mono ?_
  rintro e w3 ⟨rfl, h3, o3⟩
  have H3 : Hid (SeAt w3 x s1 ∧ Only [] w w3) := ⟨h3, H2.out.2.then o3 (fun b hb => by rw [List.mem_singleton.1 hb]; exact Or.inr H1.out.1)⟩
  clear h3 o3
  go_wp2_with fail
  refine (tell_errno 9 w3 (HG.out.only H3.out.2)).mono ?_
  rintro e w4 ⟨rfl, k4⟩
  have H4 : Hid (SeAt w4 x s1 ∧ Only [] w w4) := ⟨H3.out.1.only (D := []) (Only.of_kept k4) (by simp), H3.out.2.trans (Only.of_kept k4)⟩
  clear k4
  go_wp2_with fail
  refine (T2.out x w4 H4.out.1).mono ?_
  rintro e w5 ⟨rfl, h5, o5⟩
  have H5 : Hid (SeAt w5 x s1 ∧ Only [] w w5) := ⟨h5, H4.out.2.then o5 (fun b hb => by rw [List.mem_singleton.1 hb]; exact Or.inr H1.out.1)⟩
  clear h5 o5
  go_wp2_with fail
  refine (tell_errno 5 w5 (HG.out.only H5.out.2)).mono ?_
  rintro e w6 ⟨rfl, k6⟩
  have H6 : Hid (SeAt w6 x s1 ∧ Only [] w w6) := ⟨H5.out.1.only (D := []) (Only.of_kept k6) (by simp), H5.out.2.trans (Only.of_kept k6)⟩
  clear k6
  go_wp2_with fail
  refine (leftS_calls x s1 w6 H6.out.1).mono ?_
  rintro e w7 ⟨rfl, rfl⟩
  have e1 : s1.left = 1 := rfl
  go_wp2_with fail
  go_ret
  exact ⟨rfl, H6.out.2⟩
end Go.Proofs.YtepgcpcanbekaaaDoor
