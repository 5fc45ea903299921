/- solve.finder: where a body of some number lies: whatever the bodies, no two of one number. -/
import Derived.Test.YtpegjobehdihbaaSv3
import Derived.Carry
namespace Go.Proofs.Ytpegjobehdihbaa
open Go.ChangeShapes Go.WideShapes Go.ChangeAt Go.RowKit
open Go.Maps (Keyed)
set_option linter.unusedVariables false
set_option linter.unusedSimpArgs false

/-- How an element of the book reads: a body by its place. -/
def bodyElem (g : Nat) : Value → Option (DataW Unit × List MemPlace)
  | .pointer none => some (.nil, [])
  | .pointer (some ⟨b, o, none⟩) => if b = g ∧ o % 17 = 0 then some (.lit (.int .i64 (o / 17 : Nat)), []) else none
  | _ => none
def ptrO (g : Nat) : Option Nat → Value
  | none => .pointer none
  | some i => .pointer (some ⟨g, i * 17, none⟩)
theorem bodyElem_some {g : Nat} {v : Value} {i : Nat} {ps : List MemPlace} (h : bodyElem g v = some (.lit (.int .i64 i), ps)) : v = .pointer (some ⟨g, i * 17, none⟩) := by
  unfold bodyElem at h
  split at h
  · cases h
  · split at h
    · rename_i b o hc
      simp only [Option.some.injEq, Prod.mk.injEq, DataW.lit.injEq, Lit.int.injEq, true_and] at h
      have h1 := Int.ofNat.inj h.1
      obtain ⟨rfl, h2⟩ := hc
      have : o = i * 17 := by omega
      rw [this]
    · cases h
  · cases h
theorem bodyElem_none {g : Nat} {v : Value} {ps : List MemPlace} (h : bodyElem g v = some (.nil, ps)) : v = .pointer none := by
  unfold bodyElem at h
  split at h
  · rfl
  · split at h
    · cases h
    · cases h
  · cases h
theorem bodyElem_of (g i : Nat) : bodyElem g (.pointer (some ⟨g, i * 17, none⟩)) = some (.lit (.int .i64 i), []) := by
  have h1 : i * 17 % 17 = 0 := by omega
  have h2 : i * 17 / 17 = i := by omega
  simp [bodyElem, h1, h2]
@[reducible] def keyS (i : Int) : Lit := .int .i64 i
theorem keyS_ne {i j : Int} (h : i ≠ j) : keyS i ≠ keyS j := fun e => h (by injection e)
theorem keyS_lit (i : Int) : WideAt.IsKeyLit (keyS i) := trivial
theorem intKeyS : Keyed Try.prog 3 := Maps.int_keyed Try.underlying3
def In64S (i : Int) : Prop := (Lit.int .i64 i).wf = true
theorem keyIsS {i : Int} (h : In64S i) : keyOf Try.prog 3 (.int .i64 i) = some (keyS i) := Maps.keyOf_int_mk Try.underlying3 h
/-- The book has the first k bodies. -/
structure BookS (D : DataW Unit) (B : Nat → Bd) (k : Nat) : Prop where
  tidy : Maps.Tidy D
  there : ∀ i, i < k → D.atKey (keyS (B i).id) .nil = .lit (.int .i64 i)
  gone : ∀ id, (∀ i, i < k → (B i).id ≠ id) → Maps.has D (keyS id) = false
  size : Maps.size D ≤ k
theorem BookS.empty (B : Nat → Bd) : BookS (.map []) B 0 := ⟨Maps.tidy_empty, fun i hi => by omega, fun id _ => by simp [Maps.has], Nat.le_refl _⟩
theorem BookS.put {D : DataW Unit} {B : Nat → Bd} {k : Nat} (h : BookS D B k) (hk : ∀ i, i < k → (B i).id ≠ (B k).id) : BookS (D.put (keyS (B k).id) (.lit (.int .i64 k))) B (k + 1) := by
  refine ⟨h.tidy.put (keyS_lit _) _, fun i hi => ?_, fun id hid => ?_, ?_⟩
  · by_cases e : i = k
    · subst e; exact Maps.atKey_put_same h.tidy.isMap (keyS_lit _) _ _
    · rw [Maps.atKey_put_other (keyS_ne (hk i (by omega)))]; exact h.there i (by omega)
  · rw [Maps.has_put_other (keyS_ne (fun e => hid k (by omega) e.symm))]
    exact h.gone id (fun i hi => hid i (by omega))
  · rw [Maps.size_put h.tidy]
    have := h.size
    split <;> omega
/-- The book at block m, told by a cell at kb. -/
def FindAt (w : World) (kb m g n : Nat) (B : Nat → Bd) : Prop :=
  w.heap[kb]? = some (.cells #[.map (some m)] 64) ∧ ∃ D : DataW Unit, w.ownsMap Try.prog 3 (bodyElem g) m n D ∧ BookS D B n
theorem FindAt.lt {w : World} {kb m g n : Nat} {B : Nat → Bd} (h : FindAt w kb m g n B) : kb < w.heap.size ∧ m < w.heap.size := by
  obtain ⟨h1, D, h2, _⟩ := h
  exact ⟨(Array.getElem?_eq_some_iff.1 h1).1, h2.lt⟩
theorem FindAt.only {E : List Nat} {w w' : World} {kb m g n : Nat} {B : Nat → Bd} (h : FindAt w kb m g n B) (o : Only E w w') (s1 : kb ∉ E) (s2 : m ∉ E) : FindAt w' kb m g n B := by
  obtain ⟨h1, D, h2, h3⟩ := h
  refine ⟨(o.block kb (Array.getElem?_eq_some_iff.1 h1).1 s1).trans h1, D, ?_, h3⟩
  have hlt := h2.lt
  obtain ⟨es, clock, hb, r⟩ := h2
  exact ⟨es, clock, (o.block m hlt s2).trans hb, r⟩
theorem zeroBodyPtr (w : World) : (zeroValue 47).run Try.prog w = .ok (.pointer none) w := by kernel_rfl
theorem FindAt.look {w : World} {kb m g n : Nat} {B : Nat → Bd} (h : FindAt w kb m g n B) {id : Int} (hi : In64S id) (hal : Alone n B) : (Instr.lookup 64 (.map (some m)) (.int .i64 id) false).run Try.prog w = .ok (ptrO g (findX B id n)) w := by
  obtain ⟨h1, D, h2, h3⟩ := h
  obtain ⟨v, ps, hr, hv⟩ := h2.lookup intKeyS Try.underlying64 (zeroBodyPtr w) (zd := .nil) (zp := []) rfl (keyIsS hi)
  rw [hr]
  cases hf : findX B id n with
  | none =>
    rw [Maps.atKey_of_not_has (h3.gone id (findX_none hf))] at hv
    rw [bodyElem_none hv]; rfl
  | some i =>
    obtain ⟨hi1, hi2⟩ := findX_some hf
    rw [← hi2, h3.there i hi1] at hv
    rw [bodyElem_some hv]; rfl
theorem find_calls (kb m g n : Nat) (B : Nat → Bd) (id : Int) (w : World) (h : FindAt w kb m g n B) (hi : In64S id) (hal : Alone n B) :
    Calls Try.prog 34 #[.int .i64 id, .pointer (some ⟨kb, 0, none⟩)] w fun e w' => e = .returned (ptrO g (findX B id n)) ∧ w' = w := by
  have hl := h.look hi hal
  have hc : w.cell? ⟨kb, 0, none⟩ = some (.map (some m)) := by simp [World.cell?, h.1]
  generalize ptrO g (findX B id n) = v at hl
  clear h
  go_enter Try.func34, Try.ntmps34
  go_wp2_with fail
  go_ret
  exact ⟨rfl, rfl⟩
def FinderPost (g n : Nat) (B : Nat → Bd) (w : World) (e : Ending) (w' : World) : Prop :=
  ∃ kb m, e = .returned (.func (.func 34) #[] #[.pointer (some ⟨kb, 0, none⟩)]) ∧ FindAt w' kb m g n B ∧ Only [] w w' ∧ w.heap.size ≤ kb ∧ w.heap.size ≤ m
set_option maxRecDepth 100000 in
set_option maxHeartbeats 1000000 in
theorem finder_calls (a : Option Addr) (g n c : Nat) (B : Nat → Bd) (w : World) (hn : n ≤ 60) (h : OwnS w a g n B) (hal : Alone n B) (hid : ∀ j, j < n → In64S (B j).id) :
    Calls Try.prog 19 #[.slice a n c] w (FinderPost g n B w) := by
  have hmk : ∀ (k : Int) (w : World), 0 ≤ k → (Instr.makeMap 64 (some (.int .i64 k))).run Try.prog w = .ok (.map (some w.heap.size)) (w.alloc (.map #[] 0)) := fun k w hk => by
    simp [Instr.makeMap, run_underlying Try.underlying64, asInt, asIntOf, Result.andThen]
  have hmf : ∀ (fn : Fn) (first cap : Array Value) (w : World), (Instr.makeFunc fn first cap).run Try.prog w = .ok (.func fn first cap) w := fun _ _ _ _ => rfl
  have hmk := hmk (n : Int) w (by omega)
  have HB : Hid (OwnS w a g n B ∧ Alone n B ∧ (∀ j, j < n → In64S (B j).id) ∧ n ≤ 60) := ⟨h, hal, hid, hn⟩
  clear h hal hid hn
  go_enter Try.func19, Try.ntmps19
  go_wp2_with fail
  have H0 : Hid (FindAt ((w.alloc (.map #[] 0)).alloc (.cells #[.map (some w.heap.size)] 64)) (w.heap.size + 1) w.heap.size g 0 B ∧ Only [] w ((w.alloc (.map #[] 0)).alloc (.cells #[.map (some w.heap.size)] 64)) ∧ w.heap.size ≤ w.heap.size + 1 ∧ w.heap.size ≤ w.heap.size ∧ w.heap.size + 1 ≠ w.heap.size) := by
    have hs : (w.alloc (.map #[] 0)).heap.size = w.heap.size + 1 := by simp
    have hk := (MapKept.heap_alloc (w.alloc (.map #[] 0)) (.cells #[.map (some w.heap.size)] 64)).1
    rw [hs] at hk
    exact ⟨⟨hk, _, World.ownsMap.alloc (World.ownsMap_made w Try.prog 3 (bodyElem g)) _, BookS.empty B⟩, ((Only.refl [] w).alloc _).alloc _, by omega, by omega, by omega⟩
  clear hmk
  revert H0
  generalize w.heap.size + 1 = kb
  generalize World.alloc (World.alloc w _) _ = w1
  generalize hm : w.heap.size = m
  intro H0
  go_loopg [10] n (fun k idx wr => ∃ i : Nat, idx = .int .i64 (i : Int) ∧ Hid (i ≤ n ∧ k = n - i) ∧ Hid (FindAt wr kb m g i B ∧ Only [] w wr))
  case atStart => exact ⟨0, rfl, ⟨by omega, rfl⟩, H0.out.1, H0.out.2.1⟩
  case round =>
    obtain ⟨i, rfl, H1, HF⟩ := hrel
    have HM : Hid (w.heap.size = m) := hm
    clear hm
    have hn := HB.out.2.2.2
    by_cases hi : i < n
    · have hil : (i : Int) < (n : Int) := by omega
      obtain ⟨ha, hO⟩ : a = some ⟨g, 0, none⟩ ∧ OwnB wr g n B := by
        rcases (HB.out.1.only HF.out.2 (by simp)) with q | q
        · omega
        · exact q
      subst ha
      have d0 := hO.cell hi (show 0 < 17 by omega)
      simp only [bc, Nat.add_zero] at d0
      have HO : Hid (OwnB wr g n B) := hO
      obtain ⟨hkb, D, hown, hbk⟩ := HF.out.1
      have hk0 : wr.cell? ⟨kb, 0, none⟩ = some (.map (some m)) := by simp [World.cell?, hkb]
      obtain ⟨wu, hrun, hown2, hturn⟩ := (World.ownsMap.drew hown).store intKeyS Try.underlying64 (by unfold maxLen; omega) (keyIsS (HB.out.2.2.1 i hi)) (bodyElem_of g i)
      have HU : Hid (FindAt wu kb m g (i + 1) B ∧ Only [m] wr wu) := by
        have om : Only [m] wr wu := (Only.refl [m] wr).drew.grown hturn.grown (fun k hk => by injection hk with hk; exact Or.inl (by simp [hk]))
        refine ⟨⟨?_, _, hown2, hbk.put (fun j hj e => ?_)⟩, om⟩
        · rw [om.block kb (Array.getElem?_eq_some_iff.1 hkb).1 (by simp only [List.mem_singleton]; exact H0.out.2.2.2.2)]; exact hkb
        · exact absurd (HB.out.2.1 j i (by omega) hi e) (by omega)
      have hgm : g ≠ m := by
        rcases HB.out.1 with q | q
        · omega
        · have := q.2.lt; have := HM.out; omega
      have HK : Hid (∀ w', Only [m] wr w' → Only [m] wr w' ∧ w'.cell? ⟨kb, 0, none⟩ = some (.map (some m)) ∧ w'.cell? ⟨g, i * 17, none⟩ = some (.int .i64 (B i).id)) := fun w' o => ⟨o, cell_only o hk0 (by simp only [List.mem_singleton]; exact H0.out.2.2.2.2), cell_only o d0 (by simp only [List.mem_singleton]; exact hgm)⟩
      clear hown hbk hown2 hturn hO hkb d0 hk0
      go_wp2_with fail
      refine wp_region_held_drew (S := (fun w' => Only [m] wr w' ∧ w'.cell? ⟨kb, 0, none⟩ = some (.map (some m)) ∧ w'.cell? ⟨g, i * 17, none⟩ = some (.int .i64 (B i).id))) (by kernel_rfl) ?_ (fun hHeld1 => ?_)
      · (try dsimp only); exact HK.out _ (Only.refl _ _).drew
      refine tkW 0 rfl ?_; refine tkW 1 rfl ?_; refine tkW 2 rfl ?_; refine tkW 3 rfl ?_
      try simp only [Act.put, List.setIfInBounds_toArray, List.set_cons_zero, List.set_cons_succ, List.getElem_toArray, List.getElem_cons_succ, List.getElem_cons_zero]
      refine tkW 4 rfl ?_; refine tkW 5 rfl ?_; refine tkW 6 rfl ?_; refine tkW 7 rfl ?_
      try simp only [Act.put, List.setIfInBounds_toArray, List.set_cons_zero, List.set_cons_succ, List.getElem_toArray, List.getElem_cons_succ, List.getElem_cons_zero]
      refine tkW 8 rfl ?_
      try simp only [Act.put, List.setIfInBounds_toArray, List.set_cons_zero, List.set_cons_succ, List.getElem_toArray, List.getElem_cons_succ, List.getElem_cons_zero]
      refine wpAnyH_ready (rs := [9]) (by kernel_rfl) (by simp) ?_
      refine AllReadyH.cons rfl (fun K hK => ?_) AllReadyH.nil
      first | (with_reducible refine iteYes ?hcx ?htx; case hcx => kernel_rfl) | rw [if_pos (by rfl)]
      simp only [List.getElem_toArray, List.getElem_cons_succ, List.getElem_cons_zero]
      go_simp
      skip
      try go_wp2_with fail
      refine hK.out _ _ ?_ (fun hHeld2 => ?_)
      · (try dsimp only); exact HK.out _ HU.out.2
      clear hK K hHeld1
      try simp only [Act.put, List.setIfInBounds_toArray, List.set_cons_zero, List.set_cons_succ, List.getElem_toArray, List.getElem_cons_succ, List.getElem_cons_zero]
      refine wpAnyH_done (by kernel_rfl) ?_ _
      clear hHeld2 HK hrun
      go_wp2_with fail
      go_roundg (n - (i + 1))
      case measure => have := H1.out.2; omega
      case rel => exact ⟨i + 1, by go_num, ⟨by omega, rfl⟩, HU.out.1, HF.out.2.then HU.out.2 (fun b hb => by simp only [List.mem_singleton] at hb; subst hb; exact Or.inr (Nat.le_of_eq HM.out))⟩
    · have hil : ¬ (i : Int) < (n : Int) := by omega
      obtain rfl : i = n := by have := H1.out.1; omega
      go_wp2_with fail
      go_ret
      exact ⟨kb, m, rfl, HF.out.1, HF.out.2, by have := HM.out; have := H0.out.2.2.1; omega, by have := HM.out; omega⟩
end Go.Proofs.Ytpegjobehdihbaa
