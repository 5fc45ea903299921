/- Whichever views are given, SnapDeltas returns true: the bits of what changes from one to the other, or what is wrong, are the document's; condition: the package variable errors.errorType starts as the program's text lays it (the card ties it). -/
import Derived.Test.YticdkhijjlcacaaDoorSd2
import Derived.Test.YticdkhijjlcacaaDoorTie
import Derived.Test.YticdkhijjlcacaaDoorCards
import Derived.ChangeSame
import Derived.ChangeVars
import Derived.JoinedOf
import Derived.RowKit
import Derived.RowKitTokens
import Derived.LaidLaws
import Derived.LaidHandle
import Derived.Stop.Joined
import Derived.SevenTiedAt
import Derived.Lib.SmallJoins
import Derived.Carry
import Derived.Deep.Slices
import Derived.WalkKit
import Derived.ProofKit
import Derived.OpenShut
namespace Go.Proofs.YticdkhijjlcacaaDoor.snapDeltas
open Go.ChangeShapes Go.WideShapes Go.ChangeAt Go.RowKit Go.Joins Go.Deep
set_option linter.unusedVariables false
set_option linter.unusedSimpArgs false

theorem own : ownKnob Tryd.prog.godebug = none := by kernel_rfl
theorem laidOut : laidOutB Tryd.prog = true := by kernel_rfl
theorem cellsInt : Tryd.prog.cellsOf 3 = 1 := by kernel_rfl
section
variable {H : Type} {enc : TypeId × Value → H} {w : World} {base : Nat} {sp : Nat → Bool} {held : Bool}
theorem int_open {fuel : Nat} {cs : List Value} {x : DataW H × List MemPlace} (h : DataW.trod enc Tryd.prog w base sp held fuel 3 cs = some x) : ∃ a, cs = [.int .i64 a] := by
  obtain ⟨a, e, _⟩ := DataW.trod_int Tryd.underlying3 h
  exact ⟨a, e⟩
theorem cellsVec : Tryd.prog.cellsOf 49 = 3 := by kernel_rfl
set_option maxRecDepth 100000 in
theorem vec_open {fuel : Nat} {cs : List Value} {x : DataW H × List MemPlace} (h : DataW.trod enc Tryd.prog w base sp held fuel 49 cs = some x) : ∃ a b c, cs = [.int .i64 a, .int .i64 b, .int .i64 c] := by
  obtain ⟨y0, y1, y2, n, rfl, hl, h0, h1, h2⟩ := trod_struct3 Tryd.underlying49 h
  rw [cellsVec] at hl
  match cs, hl with
  | [c0, c1, c2], _ =>
    simp only [cellsInt] at h0 h1 h2
    obtain ⟨a, e0⟩ := int_open h0
    obtain ⟨b, e1⟩ := int_open h1
    obtain ⟨c, e2⟩ := int_open h2
    simp at e0 e1 e2
    subst e0 e1 e2
    exact ⟨a, b, c, rfl⟩
theorem trod_structN5 {P : Program} {t : TypeId} {f0 f1 f2 f3 f4 : Field} {fuel : Nat} {cs : List Value} {x : DataW H × List MemPlace} (ht : P.underlying t = some (.struct #[f0, f1, f2, f3, f4])) (h : DataW.trod enc P w base sp held fuel t cs = some x) :
    ∃ y0 y1 y2 y3 y4 n, cs.length = P.cellsOf t ∧ DataW.trod enc P w base sp held n f0.type ((cs.drop f0.offset).take (P.cellsOf f0.type)) = some y0 ∧ DataW.trod enc P w base sp held n f1.type ((cs.drop f1.offset).take (P.cellsOf f1.type)) = some y1 ∧ DataW.trod enc P w base sp held n f2.type ((cs.drop f2.offset).take (P.cellsOf f2.type)) = some y2 ∧ DataW.trod enc P w base sp held n f3.type ((cs.drop f3.offset).take (P.cellsOf f3.type)) = some y3 ∧ DataW.trod enc P w base sp held n f4.type ((cs.drop f4.offset).take (P.cellsOf f4.type)) = some y4 := by
  obtain ⟨xs, n, _, rfl, hl, hlen, hf⟩ := DataW.trod_struct ht h
  match xs, hlen with
  | [y0, y1, y2, y3, y4], _ => exact ⟨y0, y1, y2, y3, y4, n, hl, by simpa using hf 0 f0 rfl, by simpa using hf 1 f1 rfl, by simpa using hf 2 f2 rfl, by simpa using hf 3 f3 rfl, by simpa using hf 4 f4 rfl⟩
theorem cellsSeen : Tryd.prog.cellsOf 61 = 11 := by kernel_rfl
set_option maxRecDepth 100000 in
theorem seen_open {fuel : Nat} {cs : List Value} {x : DataW H × List MemPlace} (h : DataW.trod enc Tryd.prog w base sp held fuel 61 cs = some x) : ∃ s : Sn, cs = [.int .i64 (s.id), .int .i64 (s.kd), .int .i64 (s.sx), .int .i64 (s.sy), .int .i64 (s.sz), .int .i64 (s.ax), .int .i64 (s.ay), .int .i64 (s.az), .int .i64 (s.vx), .int .i64 (s.vy), .int .i64 (s.vz)] := by
  obtain ⟨y0, y1, y2, y3, y4, n, hl, h0, h1, h2, h3, h4⟩ := trod_structN5 Tryd.underlying61 h
  rw [cellsSeen] at hl
  match cs, hl with
  | [c0, c1, c2, c3, c4, c5, c6, c7, c8, c9, c10], _ =>
    simp only [cellsInt, cellsVec] at h0 h1 h2 h3 h4
    obtain ⟨a0, e0⟩ := int_open h0
    obtain ⟨a1, e1⟩ := int_open h1
    obtain ⟨a2, a3, a4, e2⟩ := vec_open h2
    obtain ⟨a5, a6, a7, e3⟩ := vec_open h3
    obtain ⟨a8, a9, a10, e4⟩ := vec_open h4
    simp at e0 e1 e2 e3 e4
    obtain ⟨rfl, rfl, rfl⟩ := e2
    obtain ⟨rfl, rfl, rfl⟩ := e3
    obtain ⟨rfl, rfl, rfl⟩ := e4
    subst e0 e1
    exact ⟨⟨a0, a1, a2, a3, a4, a5, a6, a7, a8, a9, a10⟩, rfl⟩
set_option maxRecDepth 100000 in
/-- A view that came in. -/
theorem view_open {fuel : Nat} {a : Option Addr} {len cap : Nat} {x : DataW H × List MemPlace} (h : DataW.trod enc Tryd.prog w 0 (fun _ => true) true fuel 23 [.slice a len cap] = some x) : ∃ V : List Sn, V.length = len ∧ SeenAt w a V.length (fun j => V.getD j zs) ∧ (a = none → cap = 0) ∧ len ≤ cap ∧ ((x.1.weights Tryd.prog 23).all (· ≤ reachBytes) = true → len < 4611686018427387904) := by
  rcases open_slice Tryd.underlying23 h with ⟨e, _⟩ | ⟨ad, len', cap', m, n, D, Pl, e, hb, hl, hm, hmm, hxe, hx⟩
  · simp at e
    obtain ⟨rfl, rfl, rfl⟩ := e
    exact ⟨[], rfl, fun j hj => by simp at hj, fun _ => rfl, Nat.le_refl _, fun _ => by omega⟩
  · simp at e
    obtain ⟨rfl, rfl, rfl⟩ := e
    simp only [if_true] at hmm
    subst hmm
    have hwx : (x.1.weights Tryd.prog 23).all (· ≤ reachBytes) = true → len < 4611686018427387904 := by
      intro hw
      rw [hxe] at hw
      have hby : Tryd.prog.bytesOf 61 = 88 := by kernel_rfl
      simp only [DataW.weights, Tryd.underlying23, List.all_cons, Bool.and_eq_true, decide_eq_true_eq, List.length_map, List.length_range, hby] at hw
      have := hw.1
      unfold reachBytes at this
      omega
    have key : ∀ j, ∃ q : Sn, j < len → ∃ b o, some ad = some ⟨b, o, none⟩ ∧ ∀ k, k < 11 → w.cell? ⟨b, o + j * 11 + k, none⟩ = some (sc q k) := by
      intro j
      by_cases hj : j < len
      · obtain ⟨cs, hc, ht⟩ := hx j (by omega)
        rw [cellsSeen] at hc
        obtain ⟨q, rfl⟩ := seen_open ht
        obtain ⟨_, _, hcell⟩ := World.cells?_some hc
        refine ⟨q, fun _ => ?_⟩
        obtain ⟨b, o, spot⟩ := ad
        cases spot with
        | some s =>
          exfalso
          obtain ⟨cs0, hc0, ht0⟩ := hx 0 (by omega)
          rw [cellsSeen] at hc0
          obtain ⟨q', rfl⟩ := seen_open ht0
          obtain ⟨_, _, hcell0⟩ := World.cells?_some hc0
          have k := hcell0 0 (by omega)
          simp only [Addr.add, Nat.zero_mul, if_true, World.cell?, Option.isSome_some, List.getElem?_cons_zero] at k
          split at k <;> cases k
        | none =>
          refine ⟨b, o, rfl, fun k hk => ?_⟩
          have k0 := hcell k (by simpa using hk)
          rw [add_plain, add_plain] at k0
          rw [k0]
          match k, hk with
          | 0, _ => rfl
          | 1, _ => rfl
          | 2, _ => rfl
          | 3, _ => rfl
          | 4, _ => rfl
          | 5, _ => rfl
          | 6, _ => rfl
          | 7, _ => rfl
          | 8, _ => rfl
          | 9, _ => rfl
          | 10, _ => rfl
          | k + 11, h => exact absurd h (by omega)
      · exact ⟨zs, fun h => absurd h hj⟩
    refine ⟨(List.range len).map (fun j => (key j).choose), by simp, fun j hj => ?_, fun e => (by cases e), by omega, hwx⟩
    have hj2 : j < len := by simpa using hj
    obtain ⟨b, o, e, hc⟩ := (key j).choose_spec hj2
    refine ⟨b, o, e, fun k hk => ?_⟩
    rw [hc k hk]
    simp only [List.getD_eq_getElem?_getD, List.getElem?_map, List.getElem?_range hj2]
    rfl
end
section
variable {H : Type} {enc : TypeId × Value → H} {P : Program} {w : World} {base : Nat} {spare : Nat → Bool} {held : Bool}
theorem trodAll_n {t0 t1 : TypeId} {args : Array Value} {ds : List (DataW H)} {ps : List MemPlace} (h : DataW.TrodAll enc P w base spare held [t0, t1] args.toList ds ps) :
    ∃ v0 v1 d0 d1 q0 q1, args = #[v0, v1] ∧ ds = [d0, d1] ∧ ps = q0 ++ q1 ∧ DataW.Trod enc P w base spare held t0 v0 d0 q0 ∧ DataW.Trod enc P w base spare held t1 v1 d1 q1 := by
  obtain ⟨v0, vs0, d0, ds0, q0, ps0, hargs, rfl, rfl, hd0, hr0⟩ := trodAll_cons h
  obtain ⟨v1, vs1, d1, ds1, q1, ps1, rfl, rfl, rfl, hd1, hr1⟩ := trodAll_cons hr0
  obtain ⟨rfl, rfl, rfl⟩ := trodAll_nil hr1
  exact ⟨v0, v1, d0, d1, q0, q1, by cases args; simp_all, rfl, by simp, hd0, hd1⟩
theorem mkN {t0 t1 : TypeId} {v0 v1 : Value} {d0 d1 : DataW H} {q0 q1 : List MemPlace} (h0 : DataW.Trod enc P w base spare held t0 v0 d0 q0) (h1 : DataW.Trod enc P w base spare held t1 v1 d1 q1) :
    DataW.TrodAll enc P w base spare held [t0, t1] [v0, v1] [d0, d1] (q0 ++ (q1)) := by
  exact trodAll_mk2 h0 h1
end
theorem et : Tryd.prog.globalNamed "errors.errorType" = some 0 := by kernel_rfl
theorem rt : (Tryd.prog.cutTypes.find? (·.1 == "internal/reflectlite.rtype")).map (·.2) = some 140 := by kernel_rfl
theorem oneRow : ((List.range 182).filter fun t => Tryd.prog.rowNamed t [101, 114, 114, 111, 114]) = [31] := by kernel_rfl
theorem size : Tryd.prog.types.size = 182 := by kernel_rfl
/-- What the condition gives: the variable's one cell. -/
theorem handle_of_laid {W : World} (h : laidMetH Tryd.prog Rows.snapDeltasRow.laid W) : EtIs W := by
  have h' : laidMet Tryd.prog [] W ∧ handlesMet Tryd.prog Rows.snapDeltasRow.laid W := h
  obtain ⟨name, u, ty, e1, e2, e3, e4, e5⟩ := h'.2 _ (List.mem_singleton.2 rfl)
  have en : name = [101, 114, 114, 111, 114] := (Option.some.inj e1).symm
  subst en
  obtain rfl := Option.some.inj (rt.symm.trans e2)
  have hm : ty ∈ (List.range 182).filter fun t => Tryd.prog.rowNamed t [101, 114, 114, 111, 114] := List.mem_filter.2 ⟨List.mem_range.2 (by rw [← size]; exact e3), e4⟩
  rw [oneRow] at hm
  obtain rfl := List.mem_singleton.1 hm
  have hh : typeHandle Tryd.prog 31 = .pointer (some ⟨1, 31, none⟩) := by kernel_rfl
  rw [hh] at e5
  unfold EtIs
  simpa using World.var?_cell et e5 0
/-- A world that meets the condition. -/
def laidWorld (P : Program) (os : Os) : World :=
  let w0 := World.holding P os ⟨#[], #[], []⟩
  { w0 with heap := w0.heap.modify 0 fun
      | .cells _ t frozen => .cells #[.iface 140 (.agg #[.pointer (some ⟨1, 31, none⟩)])] t frozen
      | o => o }
theorem laidWorld_met (os : Os) (args : Array Value) : laidMetH Tryd.prog Rows.snapDeltasRow.laid ((laidWorld Tryd.prog os).forCall (fun _ _ => 0) ⟨#[], args, []⟩).memory :=
  laidMetH_of_parts (laidMet_nil _ _) (by kernel_rfl)

set_option maxHeartbeats 800000 in
set_option maxRecDepth 100000 in
theorem lifted (os : Os) (started : os.Started) (H : Type) (enc : TypeId × Value → H) :
    ReturnsInHanded {} Tryd.checked os 3 .any (fun w args => (Rows.snapDeltasSpec.pre enc Tryd.prog Tryd.f3 [] false w args ∧ laidMetH Tryd.prog Rows.snapDeltasRow.laid w) ∧ sizedMet enc Tryd.prog Tryd.f3 (OpenSpec.ofChange Rows.snapDeltasSpec) false w args)
      (Rows.snapDeltasSpec.post enc Tryd.prog Tryd.f3 false true false false) := by
  refine returnsInHanded_of_change_and (C := Tryd.checked) (X := fun w _ => laidMetH Tryd.prog Rows.snapDeltasRow.laid w) (fun _ _ _ hh h => h.of_heap hh) own started (by kernel_rfl) Tryd.func3
    (ChangeSpec.witness_at (enc := enc) (C := Tryd.checked) (os := os) (X := fun w _ => laidMetH Tryd.prog Rows.snapDeltasRow.laid w) false (laidWorld Tryd.prog os) #[.slice none 0 0, .slice none 0 0] 8 rfl (by kernel_rfl) (by kernel_rfl) (by kernel_rfl) (by kernel_rfl) (by kernel_rfl) (laidWorld_met os _)) ?_
  intro W base args ds gs before hval0 hW _ hwt0 hL _
  have hval : ∀ (j : Nat) t v, Tryd.f3.params[j]? = some t → args[j]? = some v → Value.okWide Tryd.prog W .any base t v := hval0
  have hW' := hW
  obtain ⟨p, q, hA0, hV0, rfl, hfz, hnd⟩ := hW
  have hA : DataW.TrodAll enc Tryd.prog W 0 (fun _ => true) true Tryd.f3.params.toList args.toList ds p := hA0
  have hV : DataW.TrodVars enc Tryd.prog W (fun _ => true) [] gs q := hV0
  rw [Tryd.params3] at hA hval
  obtain ⟨v0, v1, d0, d1, q0, q1, hargs, rfl, rfl, h0, h1⟩ := trodAll_n hA
  subst hargs
  obtain ⟨rfl, rfl⟩ : gs = [] ∧ q = [] := by
    cases gs with
    | nil => exact ⟨rfl, hV⟩
    | cons g r => exact absurd hV (by intro h; cases h)
  have h0k := h0
  obtain ⟨a0, len0, cap0, rfl⟩ := okWide_slice Tryd.underlying23 (hval 0 23 v0 rfl rfl)
  obtain ⟨fuel0, hf0⟩ := h0
  have h1k := h1
  obtain ⟨a1, len1, cap1, rfl⟩ := okWide_slice Tryd.underlying23 (hval 1 23 v1 rfl rfl)
  obtain ⟨fuel1, hf1⟩ := h1
  have hg := handle_of_laid hL
  rw [Tryd.params3] at hwt0
  have hwt := hwt0
  simp only [List.cons_append, List.nil_append, List.append_nil, DataW.weightsEach, List.all_append, Bool.and_eq_true] at hwt
  clear hA0 hval0
  simp only [List.append_nil, List.nil_append, List.append_assoc] at hW'
  have hlt0 : ∀ y ∈ q0, y.block < W.heap.size := fun y hy => by simpa using hW'.lt y (by simp [hy])
  have harg0 : ∀ W' : World, Below W.heap.size W W' → DataW.Trod enc Tryd.prog W' 0 (fun b => decide (b < W.heap.size)) true 23 (.slice a0 len0 cap0) d0 q0 :=
    fun W' hn => Below.trod laidOut (by kernel_rfl) (of_decide_eq_true (by kernel_rfl)) h0k hn hlt0
  have hlt1 : ∀ y ∈ q1, y.block < W.heap.size := fun y hy => by simpa using hW'.lt y (by simp [hy])
  have harg1 : ∀ W' : World, Below W.heap.size W W' → DataW.Trod enc Tryd.prog W' 0 (fun b => decide (b < W.heap.size)) true 23 (.slice a1 len1 cap1) d1 q1 :=
    fun W' hn => Below.trod laidOut (by kernel_rfl) (of_decide_eq_true (by kernel_rfl)) h1k hn hlt1
  have hc : Calls Tryd.prog 3 #[.slice a0 len0 cap0, .slice a1 len1 cap1] W fun e w' => e = .returned (.bool true) ∧ Only [] W w' := by
    obtain ⟨V0, hV0, hs0, hn0, hc0, hb0⟩ := view_open (fuel := fuel0) (x := (d0, q0)) (by simpa [Value.cells] using hf0)
    obtain ⟨V1, hV1, hs1, hn1, hc1, hb1⟩ := view_open (fuel := fuel1) (x := (d1, q1)) (by simpa [Value.cells] using hf1)
    subst hV0 hV1
    by_cases hl : 150 < V0.length + V1.length
    · exact snapDeltas_long a0 a1 V0.length V1.length cap0 cap1 W hl (hb0 hwt.1) (hb1 hwt.2.1)
    · exact snapDeltas_calls V0 V1 _ _ W hg ⟨a0, cap0, rfl, hc0, hs0⟩ ⟨a1, cap1, rfl, hc1, hs1⟩ (by omega)
  refine hc.mono fun e W' ⟨he, ho⟩ => ?_
  have hn : Below W.heap.size W W' := ho.below (by simp) (Nat.le_refl _)
  subst he
  exact ⟨_, rfl, _, _, _, [], _, [], hW', trodAll_mk1 (shut_bool Tryd.underlying4 _), mkN (harg0 _ hn) (harg1 _ hn), rfl, hn.frame _, fun h => by cases h⟩

theorem row : Rows.SnapDeltasSaid :=
  OpenClaim.holds_of_wide 3 Tryd.f3 rfl rfl rfl rfl rfl rfl rfl ⟨rfl, rfl, rfl, rfl, rfl⟩ rfl rfl rfl rfl rfl (by kernel_rfl) Tryd.func3 (by kernel_rfl)
    (of_decide_eq_true (by kernel_rfl)) (by unfold Func.isWrapper; first | (rw [if_pos (by decide +kernel)]; kernel_rfl) | (rw [if_neg (by decide +kernel)]; exact ⟨rfl, rfl⟩))
    (fun os started H enc _ => lifted os started H enc)
end Go.Proofs.YticdkhijjlcacaaDoor.snapDeltas
namespace Go.Proofs.YticdkhijjlcacaaDoor
theorem snapDeltas_holds : Rows.SnapDeltasCardSaid :=
  Claim7.holds_tied_plain_at .later [] [.handle] true (true, "8d2513d72ecdc4c606d9ad0765f4901f92fc18928db6f6146b9b52da25e6242e") true
    snapDeltas.row (fun _ h => by cases h) (by kernel_rfl) (fun _ h => by cases h) snapDeltas_row_tie rfl ⟨rfl, rfl⟩ (by kernel_rfl) rfl
    (fun f fn hf hfn => by
      obtain rfl : f = 3 := Option.some.inj ((show Tryd.prog.funcNamed "gyre/gyrelaw.SnapDeltas" = some 3 by kernel_rfl).symm.trans hf) |>.symm
      obtain rfl : fn = Tryd.f3 := (Option.some.inj (Tryd.func3.symm.trans hfn)).symm
      exact ⟨by kernel_rfl, fun j t ht => by
        rw [Tryd.params3] at ht
        rcases j with _ | _ | j
        · have h3 : t = 23 := by simpa using ht.symm
          subst h3
          exact (show Tryd.prog.wantsStandIn 23 = false by kernel_rfl)
        · have h3 : t = 23 := by simpa using ht.symm
          subst h3
          exact (show Tryd.prog.wantsStandIn 23 = false by kernel_rfl)
        · simp at ht⟩)
    (by kernel_rfl)
#print axioms snapDeltas_holds
end Go.Proofs.YticdkhijjlcacaaDoor
