/- A world in memory; (*world.World).find and Body: whichever number is asked for. · solve.finder: where a body of some number lies: whatever the bodies, no two of one number. · solve.meetings: the touches that may change some of bodies, in their order: whatever the bodies, no two of one number, and the touches. · (solve.meeting).split and part: whatever the meeting. -/
import Derived.Test.YtbfkloclmlnahabGreatA0
import Derived.Deep.CutRange
import Derived.Deep.CutBlock
import Derived.Carry
import Derived.LaidEql
open List renaming getElem_toArray → zqa, getElem_cons_succ → zqb, getElem_cons_zero → zqc, setIfInBounds_toArray → zqd, set_cons_zero → zqe, set_cons_succ → zqf, getElem?_toArray → zqg, getElem?_cons_succ → zqh, getElem?_cons_zero → zqi
namespace Go.Proofs.YtbfkloclmlnahabGreat
open Go.ChangeShapes Go.WideShapes Go.ChangeAt Go.RowKit
set_option linter.unusedVariables false
set_option linter.unusedSimpArgs false

/-- A world's block: how bodies fall, the law, the quota, the bodies, the tree, the last number, the steps. -/
structure Wc where
  (fx fy fz bo ru ro qt : Int)
def WorldAt (w : World) (x : Nat) (c : Wc) (a : Option Addr) (n cap t : Nat) (la st : Int) : Prop :=
  w.heap[x]? = some (.cells #[.int .i64 (c.fx), .int .i64 (c.fy), .int .i64 (c.fz), .int .i64 (c.bo), .int .i64 (c.ru), .int .i64 (c.ro), .int .i64 (c.qt), .slice a n cap, .pointer (some ⟨t, 0, none⟩), .int .i64 la, .int .i64 st] 60)
theorem WorldAt.off {w : World} {x : Nat} {c : Wc} {a : Option Addr} {n cap t : Nat} {la st : Int} (h : WorldAt w x c a n cap t la st) (j : Nat) :
    w.cell? ⟨x, j, none⟩ = (#[.int .i64 (c.fx), .int .i64 (c.fy), .int .i64 (c.fz), .int .i64 (c.bo), .int .i64 (c.ru), .int .i64 (c.ro), .int .i64 (c.qt), .slice a n cap, .pointer (some ⟨t, 0, none⟩), .int .i64 la, .int .i64 st] : Array Value)[j]? := by
  unfold WorldAt at h; simp [World.cell?, h]
theorem WorldAt.only {D : List Nat} {w w' : World} {x : Nat} {c : Wc} {a : Option Addr} {n cap t : Nat} {la st : Int} (h : WorldAt w x c a n cap t la st) (o : Only D w w') (s : x ∉ D) : WorldAt w' x c a n cap t la st := (o.block x (Array.getElem?_eq_some_iff.1 h).1 s).trans h
theorem WorldAt.lt {w : World} {x : Nat} {c : Wc} {a : Option Addr} {n cap t : Nat} {la st : Int} (h : WorldAt w x c a n cap t la st) : x < w.heap.size := (Array.getElem?_eq_some_iff.1 h).1
theorem WorldAt.free {w : World} {x : Nat} {c : Wc} {a : Option Addr} {n cap t : Nat} {la st : Int} (h : WorldAt w x c a n cap t la st) (j : Nat) : w.frozen? ⟨x, j, none⟩ = false := by
  unfold WorldAt at h; simp [World.frozen?, h]
/-- What find's closure holds. -/
def HoldAt (w : World) (k2 k3 x : Nat) (id : Int) : Prop := w.cell? ⟨k2, 0, none⟩ = some (.pointer (some ⟨x, 0, none⟩)) ∧ w.cell? ⟨k3, 0, none⟩ = some (.int .i64 id)
theorem HoldAt.only {w w' : World} {k2 k3 x : Nat} {id : Int} (h : HoldAt w k2 k3 x id) (o : Only [] w w') : HoldAt w' k2 k3 x id := ⟨cell_old1 o h.1, cell_old1 o h.2⟩
set_option maxRecDepth 100000 in
theorem findTest_calls (i k2 k3 x : Nat) (id : Int) (c : Wc) (a : Option Addr) (n cap t : Nat) (la st : Int) (B : Nat → Bd) (w : World) (hi : i < n) (hn : n ≤ 60) (hh : HoldAt w k2 k3 x id) (hw : WorldAt w x c a n cap t la st) (hb : BodiesAt w a n B) :
    Calls Tryz.prog 58 #[.int .i64 ((i : Int)), .pointer (some ⟨k2, 0, none⟩), .pointer (some ⟨k3, 0, none⟩)] w fun e w' => e = .returned (.bool (decide (id ≤ (B i).id))) ∧ Only [] w w' := by
  obtain ⟨h2, h3⟩ := hh
  have s7 := hw.off 7
  simp only [zqg, zqh, zqi] at s7
  obtain ⟨g, o, rfl, hc⟩ := hb i hi
  have d0 := hc 0 (by omega)
  simp only [bc, Nat.add_zero] at d0
  have hil : (i : Int) < (n : Int) := by omega
  clear hc hw hb
  go_enter Tryz.func58, Tryz.ntmps58
  go_wp2_with fail
  go_quiet (fail)
  go_wp2_with fail
  go_ret
  exact ⟨rfl, Only.drewN _ _⟩
/-- Where a search ends: what is ahead is less, what is there is not. -/
def Stops (B : Nat → Bd) (n : Nat) (id : Int) (r : Nat) : Prop := r ≤ n ∧ (r = 0 ∨ (B (r - 1)).id < id) ∧ (r = n ∨ id ≤ (B r).id)
set_option maxRecDepth 100000 in
theorem search_calls (k2 k3 x : Nat) (id : Int) (c : Wc) (a : Option Addr) (n cap t : Nat) (la st : Int) (B : Nat → Bd) (w : World) (hn : n ≤ 60) (hh : HoldAt w k2 k3 x id) (hw : WorldAt w x c a n cap t la st) (hb : BodiesAt w a n B) :
    Calls Tryz.prog 57 #[.int .i64 ((n : Int)), .func (.func 58) #[] #[.pointer (some ⟨k2, 0, none⟩), .pointer (some ⟨k3, 0, none⟩)]] w fun e w' => ∃ r : Nat, e = .returned (.int .i64 ((r : Int))) ∧ Stops B n id r ∧ Only [] w w' := by
  have HB : Hid (HoldAt w k2 k3 x id ∧ WorldAt w x c a n cap t la st ∧ BodiesAt w a n B ∧ n ≤ 60) := ⟨hh, hw, hb, hn⟩
  clear hh hw hb hn
  go_enter Tryz.func57, Tryz.ntmps57
  go_wp2_with fail
  go_loopg [5, 6] n (fun k iv jv wr => ∃ i j : Nat, iv = .int .i64 (i : Int) ∧ jv = .int .i64 (j : Int) ∧ Hid (i ≤ j ∧ j ≤ n ∧ k = j - i ∧ (i = 0 ∨ (B (i - 1)).id < id) ∧ (j = n ∨ id ≤ (B j).id)) ∧ Hid (Only [] w wr))
  case atStart => exact ⟨0, n, rfl, rfl, ⟨by omega, by omega, rfl, Or.inl rfl, Or.inl rfl⟩, Only.refl _ _⟩
  case round =>
    obtain ⟨i, j, rfl, rfl, H1, HO⟩ := hrel
    have hn := HB.out.2.2.2
    by_cases hij : i < j
    · have hijl : (i : Int) < (j : Int) := by omega
      have hj := H1.out.2.1
      obtain ⟨h, hh⟩ : ∃ h, h = (i + j) / 2 := ⟨_, rfl⟩
      have hhf : ((i : Int) + (j : Int)) / 2 = (h : Int) := by omega
      have HH : Hid (i ≤ h ∧ h < j) := ⟨by omega, by omega⟩
      clear hh
      go_wp2_with fail
      try simp only [hhf]
      clear hhf
      refine (findTest_calls h k2 k3 x id c a n cap t la st B wr (by have := HH.out; omega) hn (HB.out.1.only HO.out) (HB.out.2.1.only HO.out (by simp)) (HB.out.2.2.1.only HO.out)).mono ?_
      rintro e w2 ⟨rfl, o2⟩
      have HO2 : Hid (Only [] w w2) := HO.out.trans o2
      have hh60 : h < 60 := by have := HH.out; omega
      clear o2 HO
      by_cases hle : id ≤ (B h).id
      · have hd : decide (id ≤ (B h).id) = true := by simpa using hle
        rw [hd]
        clear hd
        go_wp2_with fail
        go_roundg (h - i)
        case measure => have h1 := H1.out.2.2.1; have h2 := HH.out; omega
        case rel => exact ⟨i, h, rfl, rfl, ⟨HH.out.1, by have := HH.out; omega, rfl, H1.out.2.2.2.1, Or.inr hle⟩, HO2⟩
      · have hd : decide (id ≤ (B h).id) = false := by simpa using hle
        rw [hd]
        clear hd
        go_wp2_with fail
        go_roundg (j - (h + 1))
        case measure => have h1 := H1.out.2.2.1; have h2 := HH.out; omega
        case rel => exact ⟨h + 1, j, by go_num, rfl, ⟨by have := HH.out; omega, hj, rfl, Or.inr (by show (B h).id < id; omega), H1.out.2.2.2.2⟩, HO2⟩
    · have hijl : ¬ (i : Int) < (j : Int) := by omega
      go_wp2_with fail
      go_ret
      obtain ⟨h1, h2, h3, h4, h5⟩ := H1.out
      obtain rfl : i = j := by omega
      exact ⟨i, rfl, ⟨h2, h4, h5⟩, HO.out⟩
/-- What find tells of a number. -/
def FindIs (B : Nat → Bd) (n : Nat) (id : Int) (r : Nat) (v : Bool) : Prop := Stops B n id r ∧ v = decide (r < n ∧ (B r).id = id)
set_option maxRecDepth 100000 in
theorem wfind_calls (x : Nat) (id : Int) (c : Wc) (a : Option Addr) (n cap t : Nat) (la st : Int) (B : Nat → Bd) (w : World) (hn : n ≤ 60) (hw : WorldAt w x c a n cap t la st) (hb : BodiesAt w a n B) :
    Calls Tryz.prog 37 #[.pointer (some ⟨x, 0, none⟩), .int .i64 id] w fun e w' => ∃ (r : Nat) (v : Bool), e = .returned (.tuple #[.int .i64 ((r : Int)), .bool v]) ∧ FindIs B n id r v ∧ Only [] w w' := by
  have HB : Hid (WorldAt w x c a n cap t la st ∧ BodiesAt w a n B ∧ n ≤ 60) := ⟨hw, hb, hn⟩
  clear hw hb hn
  have hmf : ∀ (fn : Fn) (first cap : Array Value) (w : World), (Instr.makeFunc fn first cap).run Tryz.prog w = .ok (.func fn first cap) w := fun _ _ _ _ => rfl
  go_enter Tryz.func37, Tryz.ntmps37
  go_upto_region 1 with fail
  have H0 : Hid (HoldAt ((w.alloc (.cells #[.pointer (some ⟨x, 0, none⟩)] 27)).alloc (.cells #[.int .i64 id] 3)) w.heap.size (w.heap.size + 1) x id ∧ Only [] w ((w.alloc (.cells #[.pointer (some ⟨x, 0, none⟩)] 27)).alloc (.cells #[.int .i64 id] 3))) := by
    have hs : (w.alloc (.cells #[.pointer (some ⟨x, 0, none⟩)] 27)).heap.size = w.heap.size + 1 := by simp
    refine ⟨⟨?_, ?_⟩, ((Only.refl [] w).alloc _).alloc _⟩
    · exact cell_old1 ((Only.refl [] (w.alloc (.cells #[.pointer (some ⟨x, 0, none⟩)] 27))).alloc _) (by simp)
    · simp
  revert H0
  generalize w.heap.size + 1 = k3
  generalize w.heap.size = k2
  generalize World.alloc (World.alloc w _) _ = w1
  intro H0
  have h2 := H0.out.1.1; have h3 := H0.out.1.2
  have s7 := (HB.out.1.only H0.out.2 (by simp)).off 7
  simp only [zqg, zqh, zqi] at s7
  go_wp2_with fail
  refine (search_calls k2 k3 x id c a n cap t la st B w1 HB.out.2.2 H0.out.1 (HB.out.1.only H0.out.2 (by simp)) (HB.out.2.1.only H0.out.2)).mono ?_
  rintro e w2 ⟨r, rfl, hst, o2⟩
  have H2 : Hid (HoldAt w2 k2 k3 x id ∧ Only [] w w2 ∧ Stops B n id r) := ⟨H0.out.1.only o2, H0.out.2.trans o2, hst⟩
  clear h2 h3 s7 hst o2 H0 hmf
  have h2 := H2.out.1.1; have h3 := H2.out.1.2
  have s7 := (HB.out.1.only H2.out.2.1 (by simp)).off 7
  simp only [zqg, zqh, zqi] at s7
  by_cases hr : r < n
  · have hrl : (r : Int) < (n : Int) := by omega
    obtain ⟨g, o, rfl, hc⟩ := (HB.out.2.1.only H2.out.2.1) r hr
    have d0 := hc 0 (by omega)
    simp only [bc, Nat.add_zero] at d0
    clear hc
    obtain ⟨v, hv⟩ : ∃ v, ((B r).id == id) = v := ⟨_, rfl⟩
    have HV : Hid (FindIs B n id r v) := ⟨H2.out.2.2, by rw [← hv]; by_cases q : (B r).id = id <;> simp [hr, q]⟩
    go_wp2_with fail
    go_quiet (fail)
    go_wp2_with fail
    exact bodyPost_ret (v := .tuple #[.int .i64 ((r : Int)), .bool v]) (by simp [results, Tryz.results37, go_sem, hv]) rfl ⟨r, v, rfl, HV.out, H2.out.2.1.trans (Only.drewN _ _)⟩
  · have hrl : decide ((r : Int) < (n : Int)) = false := by simp; omega
    have HV : Hid (FindIs B n id r false) := ⟨H2.out.2.2, by simp [hr]⟩
    go_wp2_with fail
    go_quiet (fail)
    go_wp2_with fail
    exact bodyPost_ret (v := .tuple #[.int .i64 ((r : Int)), .bool false]) (by simp [results, Tryz.results37, go_sem]) rfl ⟨r, false, rfl, HV.out, H2.out.2.1.trans (Only.drewN _ _)⟩
end Go.Proofs.YtbfkloclmlnahabGreat

namespace Go.Proofs.YtbfkloclmlnahabGreat
open Go.ChangeShapes Go.WideShapes Go.ChangeAt Go.RowKit
open Go.Maps (Keyed)
set_option linter.unusedVariables false
set_option linter.unusedSimpArgs false

/-- How an element of the book reads: a body by its place. -/
def bodyElem (g : Nat) : Value → Option (DataW Unit × List MemPlace)
  | .pointer none => some (.nil, [])
  | .pointer (some ⟨b, o, none⟩) => if b = g ∧ o % 17 = 0 then some (.lit (.int .i64 (o / 17 : Nat)), []) else none
  | _ => none
def ptrO (g : Nat) : Option Nat → Value
  | none => .pointer none
  | some i => .pointer (some ⟨g, i * 17, none⟩)
theorem bodyElem_some {g : Nat} {v : Value} {i : Nat} {ps : List MemPlace} (h : bodyElem g v = some (.lit (.int .i64 i), ps)) : v = .pointer (some ⟨g, i * 17, none⟩) := by
  unfold bodyElem at h
  split at h
  · cases h
  · split at h
    · rename_i b o hc
      simp only [Option.some.injEq, Prod.mk.injEq, DataW.lit.injEq, Lit.int.injEq, true_and] at h
      have h1 := Int.ofNat.inj h.1
      obtain ⟨rfl, h2⟩ := hc
      have : o = i * 17 := by omega
      rw [this]
    · cases h
  · cases h
theorem bodyElem_none {g : Nat} {v : Value} {ps : List MemPlace} (h : bodyElem g v = some (.nil, ps)) : v = .pointer none := by
  unfold bodyElem at h
  split at h
  · rfl
  · split at h
    · cases h
    · cases h
  · cases h
theorem bodyElem_of (g i : Nat) : bodyElem g (.pointer (some ⟨g, i * 17, none⟩)) = some (.lit (.int .i64 i), []) := by
  have h1 : i * 17 % 17 = 0 := by omega
  have h2 : i * 17 / 17 = i := by omega
  simp [bodyElem, h1, h2]
@[reducible] def keyS (i : Int) : Lit := .int .i64 i
theorem keyS_ne {i j : Int} (h : i ≠ j) : keyS i ≠ keyS j := fun e => h (by injection e)
theorem keyS_lit (i : Int) : WideAt.IsKeyLit (keyS i) := trivial
theorem intKeyS : Keyed Tryz.prog 3 := Maps.int_keyed Tryz.underlying3
def In64S (i : Int) : Prop := (Lit.int .i64 i).wf = true
theorem keyIsS {i : Int} (h : In64S i) : keyOf Tryz.prog 3 (.int .i64 i) = some (keyS i) := Maps.keyOf_int_mk Tryz.underlying3 h
/-- The book has the first k bodies. -/
structure BookS (D : DataW Unit) (B : Nat → Bd) (k : Nat) : Prop where
  tidy : Maps.Tidy D
  there : ∀ i, i < k → D.atKey (keyS (B i).id) .nil = .lit (.int .i64 i)
  gone : ∀ id, (∀ i, i < k → (B i).id ≠ id) → Maps.has D (keyS id) = false
  size : Maps.size D ≤ k
theorem BookS.empty (B : Nat → Bd) : BookS (.map []) B 0 := ⟨Maps.tidy_empty, fun i hi => by omega, fun id _ => by simp [Maps.has], Nat.le_refl _⟩
theorem BookS.put {D : DataW Unit} {B : Nat → Bd} {k : Nat} (h : BookS D B k) (hk : ∀ i, i < k → (B i).id ≠ (B k).id) : BookS (D.put (keyS (B k).id) (.lit (.int .i64 k))) B (k + 1) := by
  refine ⟨h.tidy.put (keyS_lit _) _, fun i hi => ?_, fun id hid => ?_, ?_⟩
  · by_cases e : i = k
    · subst e; exact Maps.atKey_put_same h.tidy.isMap (keyS_lit _) _ _
    · rw [Maps.atKey_put_other (keyS_ne (hk i (by omega)))]; exact h.there i (by omega)
  · rw [Maps.has_put_other (keyS_ne (fun e => hid k (by omega) e.symm))]
    exact h.gone id (fun i hi => hid i (by omega))
  · rw [Maps.size_put h.tidy]
    have := h.size
    split <;> omega
/-- The book at block m, told by a cell at kb. -/
def FindAt (w : World) (kb m g n : Nat) (B : Nat → Bd) : Prop :=
  w.heap[kb]? = some (.cells #[.map (some m)] 133) ∧ ∃ D : DataW Unit, w.ownsMap Tryz.prog 3 (bodyElem g) m n D ∧ BookS D B n
theorem FindAt.only {E : List Nat} {w w' : World} {kb m g n : Nat} {B : Nat → Bd} (h : FindAt w kb m g n B) (o : Only E w w') (s1 : kb ∉ E) (s2 : m ∉ E) : FindAt w' kb m g n B := by
  obtain ⟨h1, D, h2, h3⟩ := h
  refine ⟨(o.block kb (Array.getElem?_eq_some_iff.1 h1).1 s1).trans h1, D, ?_, h3⟩
  have hlt := h2.lt
  obtain ⟨es, clock, hb, r⟩ := h2
  exact ⟨es, clock, (o.block m hlt s2).trans hb, r⟩
theorem zeroBodyPtr (w : World) : (zeroValue 81).run Tryz.prog w = .ok (.pointer none) w := by kernel_rfl
theorem FindAt.look {w : World} {kb m g n : Nat} {B : Nat → Bd} (h : FindAt w kb m g n B) {id : Int} (hi : In64S id) (hal : Alone n B) : (Instr.lookup 133 (.map (some m)) (.int .i64 id) false).run Tryz.prog w = .ok (ptrO g (findX B id n)) w := by
  obtain ⟨h1, D, h2, h3⟩ := h
  obtain ⟨v, ps, hr, hv⟩ := h2.lookup intKeyS Tryz.underlying133 (zeroBodyPtr w) (zd := .nil) (zp := []) rfl (keyIsS hi)
  rw [hr]
  cases hf : findX B id n with
  | none =>
    rw [Maps.atKey_of_not_has (h3.gone id (findX_none hf))] at hv
    rw [bodyElem_none hv]; rfl
  | some i =>
    obtain ⟨hi1, hi2⟩ := findX_some hf
    rw [← hi2, h3.there i hi1] at hv
    rw [bodyElem_some hv]; rfl
theorem find_calls (kb m g n : Nat) (B : Nat → Bd) (id : Int) (w : World) (h : FindAt w kb m g n B) (hi : In64S id) (hal : Alone n B) :
    Calls Tryz.prog 86 #[.int .i64 id, .pointer (some ⟨kb, 0, none⟩)] w fun e w' => e = .returned (ptrO g (findX B id n)) ∧ w' = w := by
  have hl := h.look hi hal
  have hc : w.cell? ⟨kb, 0, none⟩ = some (.map (some m)) := by simp [World.cell?, h.1]
  generalize ptrO g (findX B id n) = v at hl
  clear h
  go_enter Tryz.func86, Tryz.ntmps86
  go_wp2_with fail
  go_ret
  exact ⟨rfl, rfl⟩
def FinderPost (g n : Nat) (B : Nat → Bd) (w : World) (e : Ending) (w' : World) : Prop :=
  ∃ kb m, e = .returned (.func (.func 86) #[] #[.pointer (some ⟨kb, 0, none⟩)]) ∧ FindAt w' kb m g n B ∧ Only [] w w' ∧ w.heap.size ≤ kb ∧ w.heap.size ≤ m
set_option maxRecDepth 100000 in
set_option maxHeartbeats 1000000 in
theorem finder_calls (a : Option Addr) (g n c : Nat) (B : Nat → Bd) (w : World) (hn : n ≤ 60) (h : OwnS w a g n B) (hal : Alone n B) (hid : ∀ j, j < n → In64S (B j).id) :
    Calls Tryz.prog 59 #[.slice a n c] w (FinderPost g n B w) := by
  have hmk : ∀ (k : Int) (w : World), 0 ≤ k → (Instr.makeMap 133 (some (.int .i64 k))).run Tryz.prog w = .ok (.map (some w.heap.size)) (w.alloc (.map #[] 0)) := fun k w hk => by
    simp [Instr.makeMap, run_underlying Tryz.underlying133, asInt, asIntOf, Result.andThen]
  have hmf : ∀ (fn : Fn) (first cap : Array Value) (w : World), (Instr.makeFunc fn first cap).run Tryz.prog w = .ok (.func fn first cap) w := fun _ _ _ _ => rfl
  have hmk := hmk (n : Int) w (by omega)
  have HB : Hid (OwnS w a g n B ∧ Alone n B ∧ (∀ j, j < n → In64S (B j).id) ∧ n ≤ 60) := ⟨h, hal, hid, hn⟩
  clear h hal hid hn
  go_enter Tryz.func59, Tryz.ntmps59
  go_wp2_with fail
  have H0 : Hid (FindAt ((w.alloc (.map #[] 0)).alloc (.cells #[.map (some w.heap.size)] 133)) (w.heap.size + 1) w.heap.size g 0 B ∧ Only [] w ((w.alloc (.map #[] 0)).alloc (.cells #[.map (some w.heap.size)] 133)) ∧ w.heap.size ≤ w.heap.size + 1 ∧ w.heap.size ≤ w.heap.size ∧ w.heap.size + 1 ≠ w.heap.size) := by
    have hs : (w.alloc (.map #[] 0)).heap.size = w.heap.size + 1 := by simp
    have hk := (MapKept.heap_alloc (w.alloc (.map #[] 0)) (.cells #[.map (some w.heap.size)] 133)).1
    rw [hs] at hk
    exact ⟨⟨hk, _, World.ownsMap.alloc (World.ownsMap_made w Tryz.prog 3 (bodyElem g)) _, BookS.empty B⟩, ((Only.refl [] w).alloc _).alloc _, by omega, by omega, by omega⟩
  clear hmk
  revert H0
  generalize w.heap.size + 1 = kb
  generalize World.alloc (World.alloc w _) _ = w1
  generalize hm : w.heap.size = m
  intro H0
  go_loopg [10] n (fun k idx wr => ∃ i : Nat, idx = .int .i64 (i : Int) ∧ Hid (i ≤ n ∧ k = n - i) ∧ Hid (FindAt wr kb m g i B ∧ Only [] w wr))
  case atStart => exact ⟨0, rfl, ⟨by omega, rfl⟩, H0.out.1, H0.out.2.1⟩
  case round =>
    obtain ⟨i, rfl, H1, HF⟩ := hrel
    have HM : Hid (w.heap.size = m) := hm
    clear hm
    have hn := HB.out.2.2.2
    by_cases hi : i < n
    · have hil : (i : Int) < (n : Int) := by omega
      obtain ⟨ha, hO⟩ : a = some ⟨g, 0, none⟩ ∧ OwnB wr g n B := by
        rcases (HB.out.1.only HF.out.2 (by simp)) with q | q
        · omega
        · exact q
      subst ha
      have d0 := hO.cell hi (show 0 < 17 by omega)
      simp only [bc, Nat.add_zero] at d0
      have HO : Hid (OwnB wr g n B) := hO
      obtain ⟨hkb, D, hown, hbk⟩ := HF.out.1
      have hk0 : wr.cell? ⟨kb, 0, none⟩ = some (.map (some m)) := by simp [World.cell?, hkb]
      obtain ⟨wu, hrun, hown2, hturn⟩ := (World.ownsMap.drew hown).store intKeyS Tryz.underlying133 (by unfold maxLen; omega) (keyIsS (HB.out.2.2.1 i hi)) (bodyElem_of g i)
      have HU : Hid (FindAt wu kb m g (i + 1) B ∧ Only [m] wr wu) := by
        have om : Only [m] wr wu := (Only.refl [m] wr).drew.grown hturn.grown (fun k hk => by injection hk with hk; exact Or.inl (by simp [hk]))
        refine ⟨⟨?_, _, hown2, hbk.put (fun j hj e => ?_)⟩, om⟩
        · rw [om.block kb (Array.getElem?_eq_some_iff.1 hkb).1 (by simp only [List.mem_singleton]; exact H0.out.2.2.2.2)]; exact hkb
        · exact absurd (HB.out.2.1 j i (by omega) hi e) (by omega)
      have hgm : g ≠ m := by
        rcases HB.out.1 with q | q
        · omega
        · have := q.2.lt; have := HM.out; omega
      have HK : Hid (∀ w', Only [m] wr w' → Only [m] wr w' ∧ w'.cell? ⟨kb, 0, none⟩ = some (.map (some m)) ∧ w'.cell? ⟨g, i * 17, none⟩ = some (.int .i64 (B i).id)) := fun w' o => ⟨o, cell_only o hk0 (by simp only [List.mem_singleton]; exact H0.out.2.2.2.2), cell_only o d0 (by simp only [List.mem_singleton]; exact hgm)⟩
      clear hown hbk hown2 hturn hO hkb d0 hk0
      go_wp2_with fail
      refine wp_region_held_drew (S := (fun w' => Only [m] wr w' ∧ w'.cell? ⟨kb, 0, none⟩ = some (.map (some m)) ∧ w'.cell? ⟨g, i * 17, none⟩ = some (.int .i64 (B i).id))) (by kernel_rfl) ?_ (fun hHeld1 => ?_)
      · (try dsimp only); exact HK.out _ (Only.refl _ _).drew
      refine wpAnyH_take (i := 0) (v := ?_) rfl (by kernel_rfl) (by kernel_rfl) (by kernel_rfl) (fun _ _ _ h => h) (Or.inl ⟨by kernel_rfl, ?_⟩) (by assumption) ?_
      rotate_left
      · intro w'' hSw; (try dsimp only at hSw); simp only [zqa, zqb, zqc]; (go_simp <;> with_reducible rfl)
      try simp only [Act.put, zqd, zqe, zqf, zqa, zqb, zqc]
      refine wpAnyH_take (i := 1) (v := ?_) rfl (by kernel_rfl) (by kernel_rfl) (by kernel_rfl) (fun _ _ _ h => h) (Or.inl ⟨by kernel_rfl, ?_⟩) (by assumption) ?_
      rotate_left
      · intro w'' hSw; (try dsimp only at hSw); simp only [zqa, zqb, zqc]; (go_simp <;> with_reducible rfl)
      try simp only [Act.put, zqd, zqe, zqf, zqa, zqb, zqc]
      refine wpAnyH_take (i := 2) (v := ?_) rfl (by kernel_rfl) (by kernel_rfl) (by kernel_rfl) (fun _ _ _ h => h) (Or.inl ⟨by kernel_rfl, ?_⟩) (by assumption) ?_
      rotate_left
      · intro w'' hSw; (try dsimp only at hSw); simp only [zqa, zqb, zqc]; (go_simp <;> with_reducible rfl)
      try simp only [Act.put, zqd, zqe, zqf, zqa, zqb, zqc]
      refine wpAnyH_take (i := 3) (v := ?_) rfl (by kernel_rfl) (by kernel_rfl) (by kernel_rfl) (fun _ _ _ h => h) (Or.inl ⟨by kernel_rfl, ?_⟩) (by assumption) ?_
      rotate_left
      · intro w'' hSw; (try dsimp only at hSw); simp only [zqa, zqb, zqc]; (go_simp <;> with_reducible rfl)
      try simp only [Act.put, zqd, zqe, zqf, zqa, zqb, zqc]
      refine wpAnyH_take (i := 4) (v := ?_) rfl (by kernel_rfl) (by kernel_rfl) (by kernel_rfl) (fun _ _ _ h => h) (Or.inl ⟨by kernel_rfl, ?_⟩) (by assumption) ?_
      rotate_left
      · intro w'' hSw; (try dsimp only at hSw); simp only [zqa, zqb, zqc]; (go_simp <;> with_reducible rfl)
      try simp only [Act.put, zqd, zqe, zqf, zqa, zqb, zqc]
      refine wpAnyH_take (i := 5) (v := ?_) rfl (by kernel_rfl) (by kernel_rfl) (by kernel_rfl) (fun _ _ _ h => h) (Or.inl ⟨by kernel_rfl, ?_⟩) (by assumption) ?_
      rotate_left
      · intro w'' hSw; (try dsimp only at hSw); simp only [zqa, zqb, zqc]; (go_simp <;> with_reducible rfl)
      try simp only [Act.put, zqd, zqe, zqf, zqa, zqb, zqc]
      refine wpAnyH_take (i := 6) (v := ?_) rfl (by kernel_rfl) (by kernel_rfl) (by kernel_rfl) (fun _ _ _ h => h) (Or.inl ⟨by kernel_rfl, ?_⟩) (by assumption) ?_
      rotate_left
      · intro w'' hSw; (try dsimp only at hSw); simp only [zqa, zqb, zqc]; (go_simp <;> with_reducible rfl)
      try simp only [Act.put, zqd, zqe, zqf, zqa, zqb, zqc]
      refine wpAnyH_take (i := 7) (v := ?_) rfl (by kernel_rfl) (by kernel_rfl) (by kernel_rfl) (fun _ _ _ h => h) (Or.inl ⟨by kernel_rfl, ?_⟩) (by assumption) ?_
      rotate_left
      · intro w'' hSw; (try dsimp only at hSw); simp only [zqa, zqb, zqc]; (go_simp <;> with_reducible rfl)
      try simp only [Act.put, zqd, zqe, zqf, zqa, zqb, zqc]
      refine wpAnyH_take (i := 8) (v := ?_) rfl (by kernel_rfl) (by kernel_rfl) (by kernel_rfl) (fun _ _ _ h => h) (Or.inl ⟨by kernel_rfl, ?_⟩) (by assumption) ?_
      rotate_left
      · intro w'' hSw; (try dsimp only at hSw); simp only [zqa, zqb, zqc]; (go_simp <;> with_reducible rfl)
      try simp only [Act.put, zqd, zqe, zqf, zqa, zqb, zqc]
      refine wpAnyH_ready (rs := [9]) (by kernel_rfl) (by simp) ?_
      refine AllReadyH.cons rfl (fun K hK => ?_) AllReadyH.nil
      first | (with_reducible refine iteYes ?hcx ?htx; case hcx => kernel_rfl) | rw [if_pos (by rfl)]
      simp only [zqa, zqb, zqc]
      go_simp
      skip
      try go_wp2_with fail
      refine hK.out _ _ ?_ (fun hHeld2 => ?_)
      · (try dsimp only); exact HK.out _ HU.out.2
      clear hK K hHeld1
      try simp only [Act.put, zqd, zqe, zqf, zqa, zqb, zqc]
      refine wpAnyH_done (by kernel_rfl) ?_ _
      clear hHeld2 HK hrun
      go_wp2_with fail
      go_roundg (n - (i + 1))
      case measure => have := H1.out.2; omega
      case rel => exact ⟨i + 1, by go_num, ⟨by omega, rfl⟩, HU.out.1, HF.out.2.then HU.out.2 (fun b hb => by simp only [List.mem_singleton] at hb; subst hb; exact Or.inr (Nat.le_of_eq HM.out))⟩
    · have hil : ¬ (i : Int) < (n : Int) := by omega
      obtain rfl : i = n := by have := H1.out.1; omega
      go_wp2_with fail
      go_ret
      exact ⟨kb, m, rfl, HF.out.1, HF.out.2, by have := HM.out; have := H0.out.2.2.1; omega, by have := HM.out; omega⟩
end Go.Proofs.YtbfkloclmlnahabGreat

namespace Go.Proofs.YtbfkloclmlnahabGreat
open Go.ChangeShapes Go.WideShapes Go.ChangeAt Go.RowKit
open Go.Maps (Keyed)
set_option linter.unusedVariables false
set_option linter.unusedSimpArgs false

section
variable {P : Program} (w : World)
theorem equalS_same (d : Nat) {tp te : TypeId} {j : TypeInfo} (a : Addr) (hp : P.underlying tp = some (.pointer te)) (hte : P.info? te = some j) : (Op.equalIn (d + 1) tp (.pointer (some a)) (.pointer (some a))).run P w = .ok true w := by
  simp [Op.equalIn, run_underlying hp, sizeOf, typeInfo, run_sameAddr_same, hte]
theorem equalS_other (d : Nat) {tp te : TypeId} {j : TypeInfo} {a b : Addr} {ca cb : Array Value} {ta tb : TypeId} (hp : P.underlying tp = some (.pointer te)) (hte : P.info? te = some j) (hsz : j.size ≠ 0)
    (hne : a ≠ b) (ha : w.heap[a.block]? = some (.cells ca ta (0, 0))) (hb : w.heap[b.block]? = some (.cells cb tb (0, 0))) : (Op.equalIn (d + 1) tp (.pointer (some a)) (.pointer (some b))).run P w = .ok false w := by
  simp [Op.equalIn, run_underlying hp, sizeOf, typeInfo, hte, hsz, run_sameAddr_other w hne ha hb]
theorem eqS_same {tp te : TypeId} {j : TypeInfo} (a : Addr) (hp : P.underlying tp = some (.pointer te)) (hte : P.info? te = some j) : (binOp .eql tp (.pointer (some a)) (.pointer (some a))).run P w = .ok (.bool true) w := by
  simp only [binOp]
  simp [Op.equal, Op.maxDepth, equalS_same w 9999 a hp hte]
theorem eqS_other {tp te : TypeId} {j : TypeInfo} {a b : Addr} {ca cb : Array Value} {ta tb : TypeId} (hp : P.underlying tp = some (.pointer te)) (hte : P.info? te = some j) (hsz : j.size ≠ 0)
    (hne : a ≠ b) (ha : w.heap[a.block]? = some (.cells ca ta (0, 0))) (hb : w.heap[b.block]? = some (.cells cb tb (0, 0))) : (binOp .eql tp (.pointer (some a)) (.pointer (some b))).run P w = .ok (.bool false) w := by
  simp only [binOp]
  simp [Op.equal, Op.maxDepth, equalS_other w 9999 hp hte hsz hne ha hb]
end
/-- The touches of a slice. -/
def TouchesAt (w : World) (a : Option Addr) (m : Nat) (T : Nat → Tc) : Prop := ∀ j, j < m → In64S (T j).a ∧ In64S (T j).b ∧ ∃ g o, a = some ⟨g, o, none⟩ ∧ w.cell? ⟨g, o + j * 6, none⟩ = some (.int .i64 ((T j).a)) ∧ w.cell? ⟨g, o + j * 6 + 1, none⟩ = some (.int .i64 ((T j).b)) ∧ w.cell? ⟨g, o + j * 6 + 2, none⟩ = some (.int .i64 ((T j).way.x)) ∧ w.cell? ⟨g, o + j * 6 + 3, none⟩ = some (.int .i64 ((T j).way.y)) ∧ w.cell? ⟨g, o + j * 6 + 4, none⟩ = some (.int .i64 ((T j).way.z)) ∧ w.cell? ⟨g, o + j * 6 + 5, none⟩ = some (.int .i64 ((T j).deep))
theorem TouchesAt.only {w w' : World} {a : Option Addr} {m : Nat} {T : Nat → Tc} (h : TouchesAt w a m T) (o : Only [] w w') : TouchesAt w' a m T := by
  intro j hj
  obtain ⟨i1, i2, b, of, e, h0, h1, h2, h3, h4, h5⟩ := h j hj
  exact ⟨i1, i2, b, of, e, cell_old1 o h0, cell_old1 o h1, cell_old1 o h2, cell_old1 o h3, cell_old1 o h4, cell_old1 o h5⟩
/-- A touch in a block of its own. -/
def TouchAt (w : World) (kt : Nat) (t : Tc) : Prop := w.heap[kt]? = some (.cells #[.int .i64 (t.a), .int .i64 (t.b), .int .i64 (t.way.x), .int .i64 (t.way.y), .int .i64 (t.way.z), .int .i64 (t.deep)] 44)
theorem TouchAt.off {w : World} {kt : Nat} {t : Tc} (h : TouchAt w kt t) (j : Nat) : w.cell? ⟨kt, j, none⟩ = (#[.int .i64 (t.a), .int .i64 (t.b), .int .i64 (t.way.x), .int .i64 (t.way.y), .int .i64 (t.way.z), .int .i64 (t.deep)] : Array Value)[j]? := by
  unfold TouchAt at h; simp [World.cell?, h]
structure Mt where
  (i k : Nat) (x y all : Int) (way : V3) (deep : Int)
def mtL (g : Nat) (t : Mt) : List Value := [.pointer (some ⟨g, t.i * 17, none⟩), .pointer (some ⟨g, t.k * 17, none⟩), .int .i64 (t.x), .int .i64 (t.y), .int .i64 (t.all), .int .i64 (t.way.x), .int .i64 (t.way.y), .int .i64 (t.way.z), .int .i64 (t.deep)]
def SlMt (w : World) (v : Value) (g : Nat) (ms : List Mt) : Prop := w.ownsRow 0 85 9 v ms.length (ms.flatMap (mtL g))
def ownM (v : Value) : List Nat := v.ownBlock.toList
theorem SlMt.only {D : List Nat} {w w' : World} {v : Value} {g : Nat} {ms : List Mt} (h : SlMt w v g ms) (o : Only D w w') (s : ∀ b ∈ ownM v, b ∉ D) : SlMt w' v g ms := by
  obtain ⟨hl, ⟨rfl, hn⟩ | ⟨q, cap, cur, rfl, hb, hh, h1, h2, h3, h4⟩⟩ := h
  · exact ⟨hl, Or.inl ⟨rfl, hn⟩⟩
  · exact ⟨hl, Or.inr ⟨q, cap, cur, rfl, hb, (o.block q (Array.getElem?_eq_some_iff.1 hh).1 (s q (by simp [ownM, Value.ownBlock]))).trans hh, h1, h2, h3, h4⟩⟩
theorem SlMt.nil (w : World) (g : Nat) : SlMt w (.slice none 0 0) g [] := World.ownsRow_nil w 0 _ _
/-- What one touch brings. -/
def meetX1 (n : Nat) (B : Nat → Bd) (t : Tc) : List Mt :=
  match findX B t.a n, findX B t.b n with
  | some i, some k => if i = k then [] else
      if 0 < add (lightX (B i).ms) (lightX (B k).ms) then [⟨i, k, lightX (B i).ms, lightX (B k).ms, add (lightX (B i).ms) (lightX (B k).ms), t.way, t.deep⟩] else []
  | _, _ => []
def meetsX (n : Nat) (B : Nat → Bd) (T : Nat → Tc) : Nat → List Mt
  | 0 => []
  | m + 1 => meetsX n B T m ++ meetX1 n B (T m)
theorem meetX1_len (n : Nat) (B : Nat → Bd) (t : Tc) : (meetX1 n B t).length ≤ 1 := by
  unfold meetX1
  split
  · split
    · simp
    · split <;> simp
  · simp
theorem meetsX_len (n : Nat) (B : Nat → Bd) (T : Nat → Tc) : ∀ m, (meetsX n B T m).length ≤ m
  | 0 => by simp [meetsX]
  | m + 1 => by
    have := meetsX_len n B T m
    have := meetX1_len n B (T m)
    simp only [meetsX, List.length_append]; omega
theorem meetX1_lt {n : Nat} {B : Nat → Bd} {t : Tc} {q : Mt} (h : q ∈ meetX1 n B t) : q.i < n ∧ q.k < n ∧ q.i ≠ q.k := by
  unfold meetX1 at h
  split at h
  · rename_i i k hi hk
    split at h
    · simp at h
    · rename_i ne
      split at h
      · simp only [List.mem_singleton] at h
        subst h
        exact ⟨(findX_some hi).1, (findX_some hk).1, ne⟩
      · simp at h
  · simp at h
theorem meetsX_lt {n : Nat} {B : Nat → Bd} {T : Nat → Tc} {q : Mt} : ∀ {m : Nat}, q ∈ meetsX n B T m → q.i < n ∧ q.k < n ∧ q.i ≠ q.k
  | 0, h => by simp [meetsX] at h
  | m + 1, h => by
    simp only [meetsX, List.mem_append] at h
    rcases h with h | h
    · exact meetsX_lt h
    · exact meetX1_lt h
def MeetsPost (g n m : Nat) (B : Nat → Bd) (T : Nat → Tc) (w : World) (e : Ending) (w' : World) : Prop :=
  ∃ v, e = .returned v ∧ SlMt w' v g (meetsX n B T m) ∧ Only [] w w' ∧ (∀ q ∈ ownM v, w.heap.size ≤ q)
/-- What holds while the touches are gone over. -/
structure MSv (w : World) (g n : Nat) (B : Nat → Bd) (T : Nat → Tc) (j : Nat) (v : Value) (wr : World) : Prop where
  sl : SlMt wr v g (meetsX n B T j)
  only : Only [] w wr
  new : ∀ q ∈ ownM v, w.heap.size ≤ q
def Fr9 (w : World) (b0 : Nat) (w' : World) : Prop :=
  Kept w w' ∧
  w'.cell? ⟨b0, 0, none⟩ = some (cellV w' ⟨b0, 0, none⟩) ∧
  w'.cell? ⟨b0, 1, none⟩ = some (cellV w' ⟨b0, 1, none⟩) ∧
  w'.cell? ⟨b0, 2, none⟩ = some (cellV w' ⟨b0, 2, none⟩) ∧
  w'.cell? ⟨b0, 3, none⟩ = some (cellV w' ⟨b0, 3, none⟩) ∧
  w'.cell? ⟨b0, 4, none⟩ = some (cellV w' ⟨b0, 4, none⟩) ∧
  w'.cell? ⟨b0, 5, none⟩ = some (cellV w' ⟨b0, 5, none⟩) ∧
  w'.cell? ⟨b0, 6, none⟩ = some (cellV w' ⟨b0, 6, none⟩) ∧
  w'.cell? ⟨b0, 7, none⟩ = some (cellV w' ⟨b0, 7, none⟩) ∧
  w'.cell? ⟨b0, 8, none⟩ = some (cellV w' ⟨b0, 8, none⟩) ∧
  w'.frozen? ⟨b0, 0, none⟩ = false ∧
  w'.frozen? ⟨b0, 1, none⟩ = false ∧
  w'.frozen? ⟨b0, 2, none⟩ = false ∧
  w'.frozen? ⟨b0, 3, none⟩ = false ∧
  w'.frozen? ⟨b0, 4, none⟩ = false ∧
  w'.frozen? ⟨b0, 5, none⟩ = false ∧
  w'.frozen? ⟨b0, 6, none⟩ = false ∧
  w'.frozen? ⟨b0, 7, none⟩ = false ∧
  w'.frozen? ⟨b0, 8, none⟩ = false
theorem Fr9.step {w w1 w2 : World} {b0 : Nat} (k : Kept w1 w2) (h : Fr9 w b0 w1) : Fr9 w b0 w2 := by
  obtain ⟨h0, h1, h2, h3, h4, h5, h6, h7, h8, h9, h10, h11, h12, h13, h14, h15, h16, h17, h18⟩ := h
  exact ⟨h0.trans k, kept_there k h1, kept_there k h2, kept_there k h3, kept_there k h4, kept_there k h5, kept_there k h6, kept_there k h7, kept_there k h8, kept_there k h9, kept_frozen k h10, kept_frozen k h11, kept_frozen k h12, kept_frozen k h13, kept_frozen k h14, kept_frozen k h15, kept_frozen k h16, kept_frozen k h17, kept_frozen k h18⟩
theorem set9_of {w : World} {b : Nat} {v0 v1 v2 v3 v4 v5 v6 v7 v8 u0 u1 u2 u3 u4 u5 u6 u7 u8 : Value} (h0 : w.cell? ⟨b, 0, none⟩ = some u0) (h1 : w.cell? ⟨b, 1, none⟩ = some u1) (h2 : w.cell? ⟨b, 2, none⟩ = some u2) (h3 : w.cell? ⟨b, 3, none⟩ = some u3) (h4 : w.cell? ⟨b, 4, none⟩ = some u4) (h5 : w.cell? ⟨b, 5, none⟩ = some u5) (h6 : w.cell? ⟨b, 6, none⟩ = some u6) (h7 : w.cell? ⟨b, 7, none⟩ = some u7) (h8 : w.cell? ⟨b, 8, none⟩ = some u8) :
    (((((((((w.setCell ⟨b, 0, none⟩ v0).setCell ⟨b, 1, none⟩ v1).setCell ⟨b, 2, none⟩ v2).setCell ⟨b, 3, none⟩ v3).setCell ⟨b, 4, none⟩ v4).setCell ⟨b, 5, none⟩ v5).setCell ⟨b, 6, none⟩ v6).setCell ⟨b, 7, none⟩ v7).setCell ⟨b, 8, none⟩ v8).cell? ⟨b, 0, none⟩ = some v0 ∧ (((((((((w.setCell ⟨b, 0, none⟩ v0).setCell ⟨b, 1, none⟩ v1).setCell ⟨b, 2, none⟩ v2).setCell ⟨b, 3, none⟩ v3).setCell ⟨b, 4, none⟩ v4).setCell ⟨b, 5, none⟩ v5).setCell ⟨b, 6, none⟩ v6).setCell ⟨b, 7, none⟩ v7).setCell ⟨b, 8, none⟩ v8).cell? ⟨b, 1, none⟩ = some v1 ∧ (((((((((w.setCell ⟨b, 0, none⟩ v0).setCell ⟨b, 1, none⟩ v1).setCell ⟨b, 2, none⟩ v2).setCell ⟨b, 3, none⟩ v3).setCell ⟨b, 4, none⟩ v4).setCell ⟨b, 5, none⟩ v5).setCell ⟨b, 6, none⟩ v6).setCell ⟨b, 7, none⟩ v7).setCell ⟨b, 8, none⟩ v8).cell? ⟨b, 2, none⟩ = some v2 ∧ (((((((((w.setCell ⟨b, 0, none⟩ v0).setCell ⟨b, 1, none⟩ v1).setCell ⟨b, 2, none⟩ v2).setCell ⟨b, 3, none⟩ v3).setCell ⟨b, 4, none⟩ v4).setCell ⟨b, 5, none⟩ v5).setCell ⟨b, 6, none⟩ v6).setCell ⟨b, 7, none⟩ v7).setCell ⟨b, 8, none⟩ v8).cell? ⟨b, 3, none⟩ = some v3 ∧ (((((((((w.setCell ⟨b, 0, none⟩ v0).setCell ⟨b, 1, none⟩ v1).setCell ⟨b, 2, none⟩ v2).setCell ⟨b, 3, none⟩ v3).setCell ⟨b, 4, none⟩ v4).setCell ⟨b, 5, none⟩ v5).setCell ⟨b, 6, none⟩ v6).setCell ⟨b, 7, none⟩ v7).setCell ⟨b, 8, none⟩ v8).cell? ⟨b, 4, none⟩ = some v4 ∧ (((((((((w.setCell ⟨b, 0, none⟩ v0).setCell ⟨b, 1, none⟩ v1).setCell ⟨b, 2, none⟩ v2).setCell ⟨b, 3, none⟩ v3).setCell ⟨b, 4, none⟩ v4).setCell ⟨b, 5, none⟩ v5).setCell ⟨b, 6, none⟩ v6).setCell ⟨b, 7, none⟩ v7).setCell ⟨b, 8, none⟩ v8).cell? ⟨b, 5, none⟩ = some v5 ∧ (((((((((w.setCell ⟨b, 0, none⟩ v0).setCell ⟨b, 1, none⟩ v1).setCell ⟨b, 2, none⟩ v2).setCell ⟨b, 3, none⟩ v3).setCell ⟨b, 4, none⟩ v4).setCell ⟨b, 5, none⟩ v5).setCell ⟨b, 6, none⟩ v6).setCell ⟨b, 7, none⟩ v7).setCell ⟨b, 8, none⟩ v8).cell? ⟨b, 6, none⟩ = some v6 ∧ (((((((((w.setCell ⟨b, 0, none⟩ v0).setCell ⟨b, 1, none⟩ v1).setCell ⟨b, 2, none⟩ v2).setCell ⟨b, 3, none⟩ v3).setCell ⟨b, 4, none⟩ v4).setCell ⟨b, 5, none⟩ v5).setCell ⟨b, 6, none⟩ v6).setCell ⟨b, 7, none⟩ v7).setCell ⟨b, 8, none⟩ v8).cell? ⟨b, 7, none⟩ = some v7 ∧ (((((((((w.setCell ⟨b, 0, none⟩ v0).setCell ⟨b, 1, none⟩ v1).setCell ⟨b, 2, none⟩ v2).setCell ⟨b, 3, none⟩ v3).setCell ⟨b, 4, none⟩ v4).setCell ⟨b, 5, none⟩ v5).setCell ⟨b, 6, none⟩ v6).setCell ⟨b, 7, none⟩ v7).setCell ⟨b, 8, none⟩ v8).cell? ⟨b, 8, none⟩ = some v8 := by
  have n1 : ∀ i j : Nat, i ≠ j → (⟨b, i, none⟩ : Addr) ≠ ⟨b, j, none⟩ := fun i j h e => h (by injection e)
  exact ⟨(World.cell?_setCell_other _ _ _ _ (n1 8 0 (by decide))).trans ((World.cell?_setCell_other _ _ _ _ (n1 7 0 (by decide))).trans ((World.cell?_setCell_other _ _ _ _ (n1 6 0 (by decide))).trans ((World.cell?_setCell_other _ _ _ _ (n1 5 0 (by decide))).trans ((World.cell?_setCell_other _ _ _ _ (n1 4 0 (by decide))).trans ((World.cell?_setCell_other _ _ _ _ (n1 3 0 (by decide))).trans ((World.cell?_setCell_other _ _ _ _ (n1 2 0 (by decide))).trans ((World.cell?_setCell_other _ _ _ _ (n1 1 0 (by decide))).trans (World.cell?_setCell_same _ _ _ (h0))))))))), (World.cell?_setCell_other _ _ _ _ (n1 8 1 (by decide))).trans ((World.cell?_setCell_other _ _ _ _ (n1 7 1 (by decide))).trans ((World.cell?_setCell_other _ _ _ _ (n1 6 1 (by decide))).trans ((World.cell?_setCell_other _ _ _ _ (n1 5 1 (by decide))).trans ((World.cell?_setCell_other _ _ _ _ (n1 4 1 (by decide))).trans ((World.cell?_setCell_other _ _ _ _ (n1 3 1 (by decide))).trans ((World.cell?_setCell_other _ _ _ _ (n1 2 1 (by decide))).trans (World.cell?_setCell_same _ _ _ ((World.cell?_setCell_other _ _ _ _ (n1 0 1 (by decide))).trans (h1))))))))), (World.cell?_setCell_other _ _ _ _ (n1 8 2 (by decide))).trans ((World.cell?_setCell_other _ _ _ _ (n1 7 2 (by decide))).trans ((World.cell?_setCell_other _ _ _ _ (n1 6 2 (by decide))).trans ((World.cell?_setCell_other _ _ _ _ (n1 5 2 (by decide))).trans ((World.cell?_setCell_other _ _ _ _ (n1 4 2 (by decide))).trans ((World.cell?_setCell_other _ _ _ _ (n1 3 2 (by decide))).trans (World.cell?_setCell_same _ _ _ ((World.cell?_setCell_other _ _ _ _ (n1 1 2 (by decide))).trans ((World.cell?_setCell_other _ _ _ _ (n1 0 2 (by decide))).trans (h2))))))))), (World.cell?_setCell_other _ _ _ _ (n1 8 3 (by decide))).trans ((World.cell?_setCell_other _ _ _ _ (n1 7 3 (by decide))).trans ((World.cell?_setCell_other _ _ _ _ (n1 6 3 (by decide))).trans ((World.cell?_setCell_other _ _ _ _ (n1 5 3 (by decide))).trans ((World.cell?_setCell_other _ _ _ _ (n1 4 3 (by decide))).trans (World.cell?_setCell_same _ _ _ ((World.cell?_setCell_other _ _ _ _ (n1 2 3 (by decide))).trans ((World.cell?_setCell_other _ _ _ _ (n1 1 3 (by decide))).trans ((World.cell?_setCell_other _ _ _ _ (n1 0 3 (by decide))).trans (h3))))))))), (World.cell?_setCell_other _ _ _ _ (n1 8 4 (by decide))).trans ((World.cell?_setCell_other _ _ _ _ (n1 7 4 (by decide))).trans ((World.cell?_setCell_other _ _ _ _ (n1 6 4 (by decide))).trans ((World.cell?_setCell_other _ _ _ _ (n1 5 4 (by decide))).trans (World.cell?_setCell_same _ _ _ ((World.cell?_setCell_other _ _ _ _ (n1 3 4 (by decide))).trans ((World.cell?_setCell_other _ _ _ _ (n1 2 4 (by decide))).trans ((World.cell?_setCell_other _ _ _ _ (n1 1 4 (by decide))).trans ((World.cell?_setCell_other _ _ _ _ (n1 0 4 (by decide))).trans (h4))))))))), (World.cell?_setCell_other _ _ _ _ (n1 8 5 (by decide))).trans ((World.cell?_setCell_other _ _ _ _ (n1 7 5 (by decide))).trans ((World.cell?_setCell_other _ _ _ _ (n1 6 5 (by decide))).trans (World.cell?_setCell_same _ _ _ ((World.cell?_setCell_other _ _ _ _ (n1 4 5 (by decide))).trans ((World.cell?_setCell_other _ _ _ _ (n1 3 5 (by decide))).trans ((World.cell?_setCell_other _ _ _ _ (n1 2 5 (by decide))).trans ((World.cell?_setCell_other _ _ _ _ (n1 1 5 (by decide))).trans ((World.cell?_setCell_other _ _ _ _ (n1 0 5 (by decide))).trans (h5))))))))), (World.cell?_setCell_other _ _ _ _ (n1 8 6 (by decide))).trans ((World.cell?_setCell_other _ _ _ _ (n1 7 6 (by decide))).trans (World.cell?_setCell_same _ _ _ ((World.cell?_setCell_other _ _ _ _ (n1 5 6 (by decide))).trans ((World.cell?_setCell_other _ _ _ _ (n1 4 6 (by decide))).trans ((World.cell?_setCell_other _ _ _ _ (n1 3 6 (by decide))).trans ((World.cell?_setCell_other _ _ _ _ (n1 2 6 (by decide))).trans ((World.cell?_setCell_other _ _ _ _ (n1 1 6 (by decide))).trans ((World.cell?_setCell_other _ _ _ _ (n1 0 6 (by decide))).trans (h6))))))))), (World.cell?_setCell_other _ _ _ _ (n1 8 7 (by decide))).trans (World.cell?_setCell_same _ _ _ ((World.cell?_setCell_other _ _ _ _ (n1 6 7 (by decide))).trans ((World.cell?_setCell_other _ _ _ _ (n1 5 7 (by decide))).trans ((World.cell?_setCell_other _ _ _ _ (n1 4 7 (by decide))).trans ((World.cell?_setCell_other _ _ _ _ (n1 3 7 (by decide))).trans ((World.cell?_setCell_other _ _ _ _ (n1 2 7 (by decide))).trans ((World.cell?_setCell_other _ _ _ _ (n1 1 7 (by decide))).trans ((World.cell?_setCell_other _ _ _ _ (n1 0 7 (by decide))).trans (h7))))))))), World.cell?_setCell_same _ _ _ ((World.cell?_setCell_other _ _ _ _ (n1 7 8 (by decide))).trans ((World.cell?_setCell_other _ _ _ _ (n1 6 8 (by decide))).trans ((World.cell?_setCell_other _ _ _ _ (n1 5 8 (by decide))).trans ((World.cell?_setCell_other _ _ _ _ (n1 4 8 (by decide))).trans ((World.cell?_setCell_other _ _ _ _ (n1 3 8 (by decide))).trans ((World.cell?_setCell_other _ _ _ _ (n1 2 8 (by decide))).trans ((World.cell?_setCell_other _ _ _ _ (n1 1 8 (by decide))).trans ((World.cell?_setCell_other _ _ _ _ (n1 0 8 (by decide))).trans (h8)))))))))⟩
theorem kept_set9 {w w1 : World} {b : Nat} (k : Kept w w1) (h : w.heap.size ≤ b) (v0 v1 v2 v3 v4 v5 v6 v7 v8 : Value) : Kept w (((((((((w1.setCell ⟨b, 0, none⟩ v0).setCell ⟨b, 1, none⟩ v1).setCell ⟨b, 2, none⟩ v2).setCell ⟨b, 3, none⟩ v3).setCell ⟨b, 4, none⟩ v4).setCell ⟨b, 5, none⟩ v5).setCell ⟨b, 6, none⟩ v6).setCell ⟨b, 7, none⟩ v7).setCell ⟨b, 8, none⟩ v8) :=
  (((((((((k.setCell (p := ⟨b, 0, none⟩) h v0).setCell (p := ⟨b, 1, none⟩) h v1).setCell (p := ⟨b, 2, none⟩) h v2).setCell (p := ⟨b, 3, none⟩) h v3).setCell (p := ⟨b, 4, none⟩) h v4).setCell (p := ⟨b, 5, none⟩) h v5).setCell (p := ⟨b, 6, none⟩) h v6).setCell (p := ⟨b, 7, none⟩) h v7).setCell (p := ⟨b, 8, none⟩) h v8)

theorem frz9 {w : World} {p : Nat} (f : w.frozen? ⟨p, 4, none⟩ = false) (v0 v1 v2 v3 v4 v5 v6 v7 v8 : Value) : (((((((((w.setCell ⟨p, 0, none⟩ v0).setCell ⟨p, 1, none⟩ v1).setCell ⟨p, 2, none⟩ v2).setCell ⟨p, 3, none⟩ v3).setCell ⟨p, 4, none⟩ v4).setCell ⟨p, 5, none⟩ v5).setCell ⟨p, 6, none⟩ v6).setCell ⟨p, 7, none⟩ v7).setCell ⟨p, 8, none⟩ v8).frozen? ⟨p, 4, none⟩ = false := ((World.frozen?_setCell _ _ _ _).trans ((World.frozen?_setCell _ _ _ _).trans ((World.frozen?_setCell _ _ _ _).trans ((World.frozen?_setCell _ _ _ _).trans ((World.frozen?_setCell _ _ _ _).trans ((World.frozen?_setCell _ _ _ _).trans ((World.frozen?_setCell _ _ _ _).trans ((World.frozen?_setCell _ _ _ _).trans ((World.frozen?_setCell _ _ _ _).trans (f))))))))))
def MassAt (g i k kt : Nat) (mi mk : Int) (t : Tc) (w' : World) : Prop := w'.cell? ⟨g, i * 17 + 15, none⟩ = some (.int .i64 mi) ∧ w'.cell? ⟨g, k * 17 + 15, none⟩ = some (.int .i64 mk) ∧ w'.cell? ⟨kt, 2, none⟩ = some (.int .i64 t.way.x) ∧ w'.cell? ⟨kt, 3, none⟩ = some (.int .i64 t.way.y) ∧ w'.cell? ⟨kt, 4, none⟩ = some (.int .i64 t.way.z) ∧ w'.cell? ⟨kt, 5, none⟩ = some (.int .i64 t.deep)
theorem MassAt.step {g i k kt : Nat} {mi mk : Int} {t : Tc} {w w' : World} (h : MassAt g i k kt mi mk t w) (q : Kept w w') : MassAt g i k kt mi mk t w' :=
  ⟨kept_cell q h.1, kept_cell q h.2.1, kept_cell q h.2.2.1, kept_cell q h.2.2.2.1, kept_cell q h.2.2.2.2.1, kept_cell q h.2.2.2.2.2⟩
theorem cell_nine (w : World) (a0 a1 a2 a3 a4 a5 a6 a7 a8 : Value) (t : TypeId) : ∀ j u, [a0, a1, a2, a3, a4, a5, a6, a7, a8][j]? = some u → (w.alloc (.cells #[a0, a1, a2, a3, a4, a5, a6, a7, a8] t)).cell? ((⟨w.heap.size, 0, none⟩ : Addr).add j) = some u := by
  intro j u hj
  match j, hj with
  | 0, hj => simp at hj; subst hj; simp [Addr.add]
  | 1, hj => simp at hj; subst hj; simp [Addr.add]
  | 2, hj => simp at hj; subst hj; simp [Addr.add]
  | 3, hj => simp at hj; subst hj; simp [Addr.add]
  | 4, hj => simp at hj; subst hj; simp [Addr.add]
  | 5, hj => simp at hj; subst hj; simp [Addr.add]
  | 6, hj => simp at hj; subst hj; simp [Addr.add]
  | 7, hj => simp at hj; subst hj; simp [Addr.add]
  | 8, hj => simp at hj; subst hj; simp [Addr.add]
  | j + 9, hj => simp at hj
theorem SlMt.put {w2 w3 : World} {v v' : Value} {g : Nat} {ms : List Mt} {q : Mt} {T : TypeId} (hown : w3.ownsRow 0 85 9 v' (ms.length + 1) (ms.flatMap (mtL g) ++ mtL g q)) (hgrow : (w2.alloc (.cells (mtL g q).toArray T)).grownBy w3 v.ownBlock)
    (hloc : v'.ownBlock = v.ownBlock ∨ v'.ownBlock = some (w2.alloc (.cells (mtL g q).toArray T)).heap.size) : SlMt w3 v' g (ms ++ [q]) ∧ Only (ownM v) w2 w3 ∧ (∀ b ∈ ownM v', b ∈ ownM v ∨ w2.heap.size ≤ b) := by
  refine ⟨?_, ?_, ?_⟩
  · unfold SlMt; rw [List.flatMap_append, List.length_append]; simpa using hown
  · refine ((Only.refl _ _).alloc _).grown hgrow (fun k hk => Or.inl ?_)
    simp [ownM, hk]
  · intro x hx
    rcases hloc with e | e
    · left; simpa [ownM, e] using hx
    · right
      simp only [ownM, e, Option.toList_some, List.mem_singleton] at hx
      simp at hx; omega
theorem MSv.put {w : World} {g n : Nat} {B : Nat → Bd} {T : Nat → Tc} {j : Nat} {v v' : Value} {wr w2 w3 : World} {q : Mt} (h : MSv w g n B T j v wr) (e : meetX1 n B (T j) = [q]) (o : Only [] wr w2) (p : SlMt w3 v' g (meetsX n B T j ++ [q]) ∧ Only (ownM v) w2 w3 ∧ (∀ b ∈ ownM v', b ∈ ownM v ∨ w2.heap.size ≤ b)) : MSv w g n B T (j + 1) v' w3 := by
  refine ⟨by simp only [meetsX, e]; exact p.1, (h.only.trans o).then p.2.1 (fun b hb => Or.inr (h.new b hb)), fun b hb => ?_⟩
  rcases p.2.2 b hb with q | q
  · exact h.new b q
  · exact Nat.le_trans (h.only.trans o).size q
theorem MSv.next {w : World} {g n : Nat} {B : Nat → Bd} {T : Nat → Tc} {j : Nat} {v : Value} {wr w' : World} (h : MSv w g n B T j v wr) (e : meetX1 n B (T j) = []) (o : Only [] wr w') : MSv w g n B T (j + 1) v w' :=
  ⟨by simp only [meetsX, e, List.append_nil]; exact h.sl.only o (by simp), h.only.trans o, h.new⟩
theorem meetInfo : (Tryz.prog.info? 85).map (fun i => (i.zero, i.size, i.bytes)) = some (some (.agg #[.pointer none, .pointer none, .int .i64 0, .int .i64 0, .int .i64 0, .int .i64 0, .int .i64 0, .int .i64 0, .int .i64 0]), 9, 72) := by kernel_rfl
set_option maxRecDepth 100000 in
set_option maxHeartbeats 4000000 in
theorem meetings_calls (a b : Option Addr) (g n c m d : Nat) (B : Nat → Bd) (T : Nat → Tc) (w : World) (hn : n ≤ 60) (hm : m ≤ 3600) (h : OwnS w a g n B) (ht : TouchesAt w b m T) (hal : Alone n B) (hid : ∀ j, j < n → In64S (B j).id) :
    Calls Tryz.prog 39 #[.slice a n c, .slice b m d] w (MeetsPost g n m B T w) := by
  have HB : Hid (OwnS w a g n B ∧ TouchesAt w b m T ∧ Alone n B ∧ (∀ j, j < n → In64S (B j).id) ∧ n ≤ 60 ∧ m ≤ 3600) := ⟨h, ht, hal, hid, hn, hm⟩
  clear h ht hal hid hn hm
  go_enter Tryz.func39, Tryz.ntmps39
  go_wp2_with fail
  refine (finder_calls a g n c B w HB.out.2.2.2.2.1 HB.out.1 HB.out.2.2.1 HB.out.2.2.2.1).mono ?_
  rintro e w1 ⟨kb, mm, rfl, hf, o1, _, _⟩
  have H1 : Hid (FindAt w1 kb mm g n B ∧ Only [] w w1) := ⟨hf, o1⟩
  clear hf o1
  go_wp2_with fail
  go_loopg [6, 16] m (fun k p idx wr => ∃ v, ∃ j : Nat, v = p ∧ idx = .int .i64 (j : Int) ∧ Hid (j ≤ m ∧ k = m - j) ∧ Hid (MSv w1 g n B T j v wr))
  case atStart => exact ⟨_, 0, rfl, rfl, ⟨by omega, rfl⟩, SlMt.nil _ _, Only.refl _ _, by simp [ownM, Value.ownBlock]⟩
  case round =>
    obtain ⟨v, j, rfl, rfl, H2, HS⟩ := hrel
    have hm := HB.out.2.2.2.2.2
    by_cases hj : j < m
    · have hjl : (j : Int) < (m : Int) := by omega
      obtain ⟨i1, i2, gt, ot, rfl, c0, c1, c2, c3, c4, c5⟩ := (HB.out.2.1.only (H1.out.2.trans HS.out.only)) j hj
      have HI : Hid (In64S (T j).a ∧ In64S (T j).b) := ⟨i1, i2⟩
      clear i1 i2
      obtain ⟨t, htj⟩ : ∃ t, t = T j := ⟨_, rfl⟩
      rw [← htj] at HI c0 c1 c2 c3 c4 c5
      have HT : Hid (t = T j) := htj
      clear htj
      go_upto_region 6 with fail
      clear c0 c1 c2 c3 c4 c5
      have H3 : Hid (Only [] wr (wr.alloc (.cells #[.int .i64 (t.a), .int .i64 (t.b), .int .i64 (t.way.x), .int .i64 (t.way.y), .int .i64 (t.way.z), .int .i64 (t.deep)] 44)) ∧ TouchAt (wr.alloc (.cells #[.int .i64 (t.a), .int .i64 (t.b), .int .i64 (t.way.x), .int .i64 (t.way.y), .int .i64 (t.way.z), .int .i64 (t.deep)] 44)) wr.heap.size t) := ⟨(Only.refl [] wr).alloc _, (MapKept.heap_alloc wr _).1⟩
      revert H3
      generalize wr.heap.size = kt
      generalize World.alloc wr _ = w3
      intro H3
      have HF : Hid (FindAt w3 kb mm g n B) := H1.out.1.only (HS.out.only.trans H3.out.1) (by simp) (by simp)
      have HK : Hid (∀ w', Only [] w3 w' → Only [] w3 w' ∧ w'.cell? ⟨kt, 0, none⟩ = some (.int .i64 (t.a)) ∧ w'.cell? ⟨kt, 1, none⟩ = some (.int .i64 (t.b))) := fun w' o => ⟨o, cell_old1 o (H3.out.2.off 0), cell_old1 o (H3.out.2.off 1)⟩
      refine wp_region_held_drew (S := (fun w' => Only [] w3 w' ∧ w'.cell? ⟨kt, 0, none⟩ = some (.int .i64 (t.a)) ∧ w'.cell? ⟨kt, 1, none⟩ = some (.int .i64 (t.b)))) (by kernel_rfl) ?_ (fun hHeld1 => ?_)
      · (try dsimp only); exact HK.out _ (Only.refl _ _).drew
      refine wpAnyH_take (i := 0) (v := ?_) rfl (by kernel_rfl) (by kernel_rfl) (by kernel_rfl) (fun _ _ _ h => h) (Or.inl ⟨by kernel_rfl, ?_⟩) (by assumption) ?_
      rotate_left
      · intro w'' hSw; (try dsimp only at hSw); simp only [zqa, zqb, zqc]; (go_simp <;> with_reducible rfl)
      try simp only [Act.put, zqd, zqe, zqf, zqa, zqb, zqc]
      refine wpAnyH_take (i := 1) (v := ?_) rfl (by kernel_rfl) (by kernel_rfl) (by kernel_rfl) (fun _ _ _ h => h) (Or.inl ⟨by kernel_rfl, ?_⟩) (by assumption) ?_
      rotate_left
      · intro w'' hSw; (try dsimp only at hSw); simp only [zqa, zqb, zqc]; (go_simp <;> with_reducible rfl)
      try simp only [Act.put, zqd, zqe, zqf, zqa, zqb, zqc]
      refine wpAnyH_take (i := 2) (v := ?_) rfl (by kernel_rfl) (by kernel_rfl) (by kernel_rfl) (fun _ _ _ h => h) (Or.inl ⟨by kernel_rfl, ?_⟩) (by assumption) ?_
      rotate_left
      · intro w'' hSw; (try dsimp only at hSw); simp only [zqa, zqb, zqc]; (go_simp <;> with_reducible rfl)
      try simp only [Act.put, zqd, zqe, zqf, zqa, zqb, zqc]
      refine wpAnyH_take (i := 4) (v := ?_) rfl (by kernel_rfl) (by kernel_rfl) (by kernel_rfl) (fun _ _ _ h => h) (Or.inl ⟨by kernel_rfl, ?_⟩) (by assumption) ?_
      rotate_left
      · intro w'' hSw; (try dsimp only at hSw); simp only [zqa, zqb, zqc]; (go_simp <;> with_reducible rfl)
      try simp only [Act.put, zqd, zqe, zqf, zqa, zqb, zqc]
      refine wpAnyH_take (i := 5) (v := ?_) rfl (by kernel_rfl) (by kernel_rfl) (by kernel_rfl) (fun _ _ _ h => h) (Or.inl ⟨by kernel_rfl, ?_⟩) (by assumption) ?_
      rotate_left
      · intro w'' hSw; (try dsimp only at hSw); simp only [zqa, zqb, zqc]; (go_simp <;> with_reducible rfl)
      try simp only [Act.put, zqd, zqe, zqf, zqa, zqb, zqc]
      refine wpAnyH_take (i := 6) (v := ?_) rfl (by kernel_rfl) (by kernel_rfl) (by kernel_rfl) (fun _ _ _ h => h) (Or.inl ⟨by kernel_rfl, ?_⟩) (by assumption) ?_
      rotate_left
      · intro w'' hSw; (try dsimp only at hSw); simp only [zqa, zqb, zqc]; (go_simp <;> with_reducible rfl)
      try simp only [Act.put, zqd, zqe, zqf, zqa, zqb, zqc]
      refine wpAnyH_ready (rs := [3]) (by kernel_rfl) (by simp) ?_
      refine AllReadyH.cons rfl (fun K hK => ?_) AllReadyH.nil
      first | (with_reducible refine iteYes ?hcx ?htx; case hcx => kernel_rfl) | rw [if_pos (by rfl)]
      simp only [zqa, zqb, zqc]
      go_simp
      (go_at_call 86; refine (find_calls kb mm g n B t.a _ (HF.out.only (Only.refl [] w3).drew (by simp) (by simp)) HI.out.1 HB.out.2.2.1).mono ?_; rintro e w4 ⟨rfl, hw4⟩; subst hw4)
      try go_wp2_with fail
      refine hK.out _ _ ?_ (fun hHeld2 => ?_)
      · (try dsimp only); exact HK.out _ (Only.refl _ _).drew
      clear hK K hHeld1
      try simp only [Act.put, zqd, zqe, zqf, zqa, zqb, zqc]
      refine wpAnyH_ready (rs := [7]) (by kernel_rfl) (by simp) ?_
      refine AllReadyH.cons rfl (fun K hK => ?_) AllReadyH.nil
      first | (with_reducible refine iteYes ?hcx ?htx; case hcx => kernel_rfl) | rw [if_pos (by rfl)]
      simp only [zqa, zqb, zqc]
      go_simp
      (go_at_call 86; refine (find_calls kb mm g n B t.b _ (HF.out.only (Only.refl [] w3).drew (by simp) (by simp)) HI.out.2 HB.out.2.2.1).mono ?_; rintro e w5 ⟨rfl, hw5⟩; subst hw5)
      try go_wp2_with fail
      refine hK.out _ _ ?_ (fun hHeld3 => ?_)
      · (try dsimp only); exact HK.out _ (Only.refl _ _).drew
      clear hK K hHeld2
      try simp only [Act.put, zqd, zqe, zqf, zqa, zqb, zqc]
      refine wpAnyH_take (i := 8) (v := ?_) rfl (by kernel_rfl) (by kernel_rfl) (by kernel_rfl) (fun _ _ _ h => h) (Or.inl ⟨by kernel_rfl, ?_⟩) (by assumption) ?_
      rotate_left
      · intro w'' hSw; (try dsimp only at hSw); simp only [zqa, zqb, zqc]; (go_simp <;> with_reducible rfl)
      try simp only [Act.put, zqd, zqe, zqf, zqa, zqb, zqc]
      refine wpAnyH_take (i := 9) (v := ?_) rfl (by kernel_rfl) (by kernel_rfl) (by kernel_rfl) (fun _ _ _ h => h) (Or.inl ⟨by kernel_rfl, ?_⟩) (by assumption) ?_
      rotate_left
      · intro w'' hSw; (try dsimp only at hSw); simp only [zqa, zqb, zqc]; (go_simp <;> with_reducible rfl)
      try simp only [Act.put, zqd, zqe, zqf, zqa, zqb, zqc]
      refine wpAnyH_done (by kernel_rfl) ?_ _
      cases hfa : findX B t.a n with
      | none =>
        have HE : Hid (meetX1 n B t = []) := by show meetX1 n B t = []; simp [meetX1, hfa]
        clear hfa
        generalize ptrO g (findX B t.b n) = pb
        simp only [ptrO]
        clear hHeld3 HK
        go_wp2_with fail
        go_roundg (m - (j + 1))
        case measure => have := H2.out.2; omega
        case rel => exact ⟨v, j + 1, rfl, by go_num, ⟨by omega, rfl⟩, HS.out.next (by rw [← HT.out]; exact HE.out) (H3.out.1.drew)⟩
      | some i =>
        cases hfb : findX B t.b n with
        | none =>
          have HE : Hid (meetX1 n B t = []) := by show meetX1 n B t = []; simp [meetX1, hfa, hfb]
          clear hfa hfb
          simp only [ptrO]
          clear hHeld3 HK
          go_wp2_with fail
          go_roundg (m - (j + 1))
          case measure => have := H2.out.2; omega
          case rel => exact ⟨v, j + 1, rfl, by go_num, ⟨by omega, rfl⟩, HS.out.next (by rw [← HT.out]; exact HE.out) (H3.out.1.drew)⟩
        | some k =>
          obtain ⟨hin, _⟩ := findX_some hfa
          obtain ⟨hkn, _⟩ := findX_some hfb
          by_cases hik : i = k
          · subst hik
            have HE : Hid (meetX1 n B t = []) := by show meetX1 n B t = []; unfold meetX1; rw [hfa, hfb]; simp
            clear hfa hfb
            simp only [ptrO]
            obtain ⟨jb, hjb, _⟩ := info_parts' bodyInfo
            have heq := eqS_same w3.drew ⟨g, i * 17, none⟩ Tryz.underlying81 hjb
            clear hjb
            clear hHeld3 HK
            go_wp2_with fail
            go_roundg (m - (j + 1))
            case measure => have := H2.out.2; omega
            case rel => exact ⟨v, j + 1, rfl, by go_num, ⟨by omega, rfl⟩, HS.out.next (by rw [← HT.out]; exact HE.out) (H3.out.1.drew)⟩
          · have HE : Hid (meetX1 n B t = if 0 < add (lightX (B i).ms) (lightX (B k).ms) then [⟨i, k, lightX (B i).ms, lightX (B k).ms, add (lightX (B i).ms) (lightX (B k).ms), t.way, t.deep⟩] else []) := by show meetX1 n B t = _; unfold meetX1; rw [hfa, hfb]; simp [hik]
            clear hfa hfb HK hHeld3
            simp only [ptrO]
            have hO : OwnB w3 g n B := by
              rcases HB.out.1.only (H1.out.2.trans (HS.out.only.trans H3.out.1)) (by simp) with q | q
              · omega
              · exact q.2
            have m1 := hO.cell hin (show 15 < 17 by omega)
            have m2 := hO.cell hkn (show 15 < 17 by omega)
            simp only [bc] at m1 m2
            generalize hmi : (B i).ms = mi at m1 HE
            generalize hmk : (B k).ms = mk at m2 HE
            have hO0 := hO
            clear hmi hmk hO
            obtain ⟨jb, hjb, _, hjs, _⟩ := info_parts' bodyInfo
            obtain ⟨cur, hcur, _⟩ := hO0
            have heq := eqS_other (a := ⟨g, i * 17, none⟩) (b := ⟨g, k * 17, none⟩) w3.drew Tryz.underlying81 hjb (by omega) (fun e => hik (by injection e with _ e; omega)) hcur hcur
            clear hjb hjs hcur
            go_wp2_with fail
            clear heq
            have HA : MassAt g i k kt mi mk t w3.drew := ⟨m1, m2, H3.out.2.off 2, H3.out.2.off 3, H3.out.2.off 4, H3.out.2.off 5⟩
            have HOA : Hid (Only [] wr w3.drew) := H3.out.1.drew
            clear m1 m2
            generalize w3.drew = wA at HA HOA ⊢
            go_cut [11] from 39 to 69 (fun s11 wc => ∃ p, s11 = .pointer (some ⟨p, 0, none⟩) ∧ Kept wA wc ∧ wA.heap.size ≤ p ∧ wc.cell? ⟨p, 0, none⟩ = some (.pointer (some ⟨g, i * 17, none⟩)) ∧ wc.cell? ⟨p, 1, none⟩ = some (.pointer (some ⟨g, k * 17, none⟩)) ∧ wc.cell? ⟨p, 2, none⟩ = some (.int .i64 (lightX mi)) ∧ wc.cell? ⟨p, 3, none⟩ = some (.int .i64 (lightX mk)) ∧ wc.cell? ⟨p, 4, none⟩ = some (.int .i64 0) ∧ wc.cell? ⟨p, 5, none⟩ = some (.int .i64 t.way.x) ∧ wc.cell? ⟨p, 6, none⟩ = some (.int .i64 t.way.y) ∧ wc.cell? ⟨p, 7, none⟩ = some (.int .i64 t.way.z) ∧ wc.cell? ⟨p, 8, none⟩ = some (.int .i64 t.deep) ∧ wc.frozen? ⟨p, 4, none⟩ = false)
            case first =>
              refine wp_region_held_drew (S := fun w' => Kept wA w' ∧ (w'.cell? ⟨g, i * 17 + 15, none⟩ = some (.int .i64 mi) ∧ w'.cell? ⟨g, k * 17 + 15, none⟩ = some (.int .i64 mk) ∧ w'.cell? ⟨kt, 2, none⟩ = some (.int .i64 t.way.x) ∧ w'.cell? ⟨kt, 3, none⟩ = some (.int .i64 t.way.y) ∧ w'.cell? ⟨kt, 4, none⟩ = some (.int .i64 t.way.z) ∧ w'.cell? ⟨kt, 5, none⟩ = some (.int .i64 t.deep))) (by kernel_rfl) ?_ (fun hH0 => ?_)
              · (try dsimp only); exact ⟨(Kept.refl _).drew, HA.step (Kept.refl _).drew⟩
              refine wpAnyH_take (i := 0) (v := ?_) rfl (by kernel_rfl) (by kernel_rfl) (by kernel_rfl) (fun _ _ _ h => h) (Or.inl ⟨by kernel_rfl, ?_⟩) (by assumption) ?_
              rotate_left
              · intro w'' hSw; (try dsimp only at hSw); simp only [zqa, zqb, zqc]; (go_simp <;> with_reducible rfl)
              try simp only [Act.put, zqd, zqe, zqf, zqa, zqb, zqc]
              refine wpAnyH_take (i := 1) (v := ?_) rfl (by kernel_rfl) (by kernel_rfl) (by kernel_rfl) (fun _ _ _ h => h) (Or.inl ⟨by kernel_rfl, ?_⟩) (by assumption) ?_
              rotate_left
              · intro w'' hSw; (try dsimp only at hSw); simp only [zqa, zqb, zqc]; (go_simp <;> with_reducible rfl)
              try simp only [Act.put, zqd, zqe, zqf, zqa, zqb, zqc]
              refine wpAnyH_take (i := 2) (v := ?_) rfl (by kernel_rfl) (by kernel_rfl) (by kernel_rfl) (fun _ _ _ h => h) (Or.inl ⟨by kernel_rfl, ?_⟩) (by assumption) ?_
              rotate_left
              · intro w'' hSw; (try dsimp only at hSw); simp only [zqa, zqb, zqc]; (go_simp <;> with_reducible rfl)
              try simp only [Act.put, zqd, zqe, zqf, zqa, zqb, zqc]
              refine wpAnyH_take (i := 3) (v := ?_) rfl (by kernel_rfl) (by kernel_rfl) (by kernel_rfl) (fun _ _ _ h => h) (Or.inl ⟨by kernel_rfl, ?_⟩) (by assumption) ?_
              rotate_left
              · intro w'' hSw; (try dsimp only at hSw); simp only [zqa, zqb, zqc]; (go_simp <;> with_reducible rfl)
              try simp only [Act.put, zqd, zqe, zqf, zqa, zqb, zqc]
              refine wpAnyH_take (i := 4) (v := ?_) rfl (by kernel_rfl) (by kernel_rfl) (by kernel_rfl) (fun _ _ _ h => h) (Or.inl ⟨by kernel_rfl, ?_⟩) (by assumption) ?_
              rotate_left
              · intro w'' hSw; (try dsimp only at hSw); simp only [zqa, zqb, zqc]; (go_simp <;> with_reducible rfl)
              try simp only [Act.put, zqd, zqe, zqf, zqa, zqb, zqc]
              refine wpAnyH_take (i := 5) (v := ?_) rfl (by kernel_rfl) (by kernel_rfl) (by kernel_rfl) (fun _ _ _ h => h) (Or.inl ⟨by kernel_rfl, ?_⟩) (by assumption) ?_
              rotate_left
              · intro w'' hSw; (try dsimp only at hSw); simp only [zqa, zqb, zqc]; (go_simp <;> with_reducible rfl)
              try simp only [Act.put, zqd, zqe, zqf, zqa, zqb, zqc]
              refine wpAnyH_take (i := 7) (v := ?_) rfl (by kernel_rfl) (by kernel_rfl) (by kernel_rfl) (fun _ _ _ h => h) (Or.inl ⟨by kernel_rfl, ?_⟩) (by assumption) ?_
              rotate_left
              · intro w'' hSw; (try dsimp only at hSw); simp only [zqa, zqb, zqc]; (go_simp <;> with_reducible rfl)
              try simp only [Act.put, zqd, zqe, zqf, zqa, zqb, zqc]
              refine wpAnyH_take (i := 8) (v := ?_) rfl (by kernel_rfl) (by kernel_rfl) (by kernel_rfl) (fun _ _ _ h => h) (Or.inl ⟨by kernel_rfl, ?_⟩) (by assumption) ?_
              rotate_left
              · intro w'' hSw; (try dsimp only at hSw); simp only [zqa, zqb, zqc]; (go_simp <;> with_reducible rfl)
              try simp only [Act.put, zqd, zqe, zqf, zqa, zqb, zqc]
              refine wpAnyH_take (i := 9) (v := ?_) rfl (by kernel_rfl) (by kernel_rfl) (by kernel_rfl) (fun _ _ _ h => h) (Or.inl ⟨by kernel_rfl, ?_⟩) (by assumption) ?_
              rotate_left
              · intro w'' hSw; (try dsimp only at hSw); simp only [zqa, zqb, zqc]; (go_simp <;> with_reducible rfl)
              try simp only [Act.put, zqd, zqe, zqf, zqa, zqb, zqc]
              refine wpAnyH_take (i := 10) (v := ?_) rfl (by kernel_rfl) (by kernel_rfl) (by kernel_rfl) (fun _ _ _ h => h) (Or.inl ⟨by kernel_rfl, ?_⟩) (by assumption) ?_
              rotate_left
              · intro w'' hSw; (try dsimp only at hSw); simp only [zqa, zqb, zqc]; (go_simp <;> with_reducible rfl)
              try simp only [Act.put, zqd, zqe, zqf, zqa, zqb, zqc]
              refine wpAnyH_take (i := 12) (v := ?_) rfl (by kernel_rfl) (by kernel_rfl) (by kernel_rfl) (fun _ _ _ h => h) (Or.inl ⟨by kernel_rfl, ?_⟩) (by assumption) ?_
              rotate_left
              · intro w'' hSw; (try dsimp only at hSw); simp only [zqa, zqb, zqc]; (go_simp <;> with_reducible rfl)
              try simp only [Act.put, zqd, zqe, zqf, zqa, zqb, zqc]
              refine wpAnyH_take (i := 13) (v := ?_) rfl (by kernel_rfl) (by kernel_rfl) (by kernel_rfl) (fun _ _ _ h => h) (Or.inl ⟨by kernel_rfl, ?_⟩) (by assumption) ?_
              rotate_left
              · intro w'' hSw; (try dsimp only at hSw); simp only [zqa, zqb, zqc]; (go_simp <;> with_reducible rfl)
              try simp only [Act.put, zqd, zqe, zqf, zqa, zqb, zqc]
              refine wpAnyH_take (i := 14) (v := ?_) rfl (by kernel_rfl) (by kernel_rfl) (by kernel_rfl) (fun _ _ _ h => h) (Or.inl ⟨by kernel_rfl, ?_⟩) (by assumption) ?_
              rotate_left
              · intro w'' hSw; (try dsimp only at hSw); simp only [zqa, zqb, zqc]; (go_simp <;> with_reducible rfl)
              try simp only [Act.put, zqd, zqe, zqf, zqa, zqb, zqc]
              refine wpAnyH_take (i := 15) (v := ?_) rfl (by kernel_rfl) (by kernel_rfl) (by kernel_rfl) (fun _ _ _ h => h) (Or.inl ⟨by kernel_rfl, ?_⟩) (by assumption) ?_
              rotate_left
              · intro w'' hSw; (try dsimp only at hSw); simp only [zqa, zqb, zqc]; (go_simp <;> with_reducible rfl)
              try simp only [Act.put, zqd, zqe, zqf, zqa, zqb, zqc]
              refine wpAnyH_ready (rs := [6, 17]) (by kernel_rfl) (by simp) ?_
              refine AllReadyH.cons rfl (fun K hK => ?_) (AllReadyH.cons rfl (fun K hK => ?_) AllReadyH.nil)
              · rw [if_pos (by rfl)]
                simp only [zqa, zqb, zqc]
                go_simp
                (go_at_call 60; refine (light_calls mi _).mono ?_; rintro e wc1 ⟨rfl, kc1⟩)
                try go_wp2_with fail
                refine hK.out _ _ ?_ (fun hH1 => ?_)
                · exact ⟨hH0.1.trans kc1, HA.step (hH0.1.trans kc1)⟩
                clear hK K hH0
                try simp only [Act.put, zqd, zqe, zqf, zqa, zqb, zqc]
                refine wpAnyH_ready (rs := [11, 17]) (by kernel_rfl) (by simp) ?_
                refine AllReadyH.cons rfl (fun K hK => ?_) (AllReadyH.cons rfl (fun K hK => ?_) AllReadyH.nil)
                · rw [if_pos (by rfl)]
                  simp only [zqa, zqb, zqc]
                  go_simp
                  (go_at_call 60; refine (light_calls mk _).mono ?_; rintro e wc2 ⟨rfl, kc2⟩)
                  try go_wp2_with fail
                  refine hK.out _ _ ?_ (fun hH2 => ?_)
                  · exact ⟨hH1.1.trans kc2, HA.step (hH1.1.trans kc2)⟩
                  clear hK K hH1
                  try simp only [Act.put, zqd, zqe, zqf, zqa, zqb, zqc]
                  refine wpAnyH_take (i := 16) (v := ?_) rfl (by kernel_rfl) (by kernel_rfl) (by kernel_rfl) (fun _ _ _ h => h) (Or.inl ⟨by kernel_rfl, ?_⟩) (by assumption) ?_
                  rotate_left
                  · intro w'' hSw; (try dsimp only at hSw); simp only [zqa, zqb, zqc]; (go_simp <;> with_reducible rfl)
                  try simp only [Act.put, zqd, zqe, zqf, zqa, zqb, zqc]
                  refine wpAnyH_ready (rs := [17]) (by kernel_rfl) (by simp) ?_
                  refine AllReadyH.cons rfl (fun K hK => ?_) AllReadyH.nil
                  rw [if_pos (by rfl)]
                  simp only [zqa, zqb, zqc]
                  go_simp
                  refine hK.out _ _ ?_ (fun hH3 => ?_)
                  · exact ⟨hH2.1.alloc _ _, HA.step (hH2.1.alloc _ _)⟩
                  have hp : wA.heap.size ≤ wc2.heap.size := Nat.le_trans hH2.1.below.size (Nat.le_of_eq (by simp))
                  have hP : Fr9 wA (wc2.heap.size) (wc2.alloc (.cells #[.pointer none, .pointer none, .int .i64 0, .int .i64 0, .int .i64 0, .int .i64 0, .int .i64 0, .int .i64 0, .int .i64 0] 85)) := by refine ⟨hH2.1.alloc _ _, cellV_of (v := .pointer none) ?_, cellV_of (v := .pointer none) ?_, cellV_of (v := .int .i64 0) ?_, cellV_of (v := .int .i64 0) ?_, cellV_of (v := .int .i64 0) ?_, cellV_of (v := .int .i64 0) ?_, cellV_of (v := .int .i64 0) ?_, cellV_of (v := .int .i64 0) ?_, cellV_of (v := .int .i64 0) ?_, ?_, ?_, ?_, ?_, ?_, ?_, ?_, ?_, ?_⟩ <;> go_simp
                  clear hK K hH2
                  try simp only [Act.put, zqd, zqe, zqf, zqa, zqb, zqc]
                  generalize (wc2.alloc (.cells #[.pointer none, .pointer none, .int .i64 0, .int .i64 0, .int .i64 0, .int .i64 0, .int .i64 0, .int .i64 0, .int .i64 0] 85)) = wz4 at hH3 hP ⊢
                  have hP0 := hP
                  obtain ⟨_, cp0, cp1, cp2, cp3, cp4, cp5, cp6, cp7, cp8, fp0, fp1, fp2, fp3, fp4, fp5, fp6, fp7, fp8⟩ := hP0
                  refine wpAnyH_ready (rs := [18]) (by kernel_rfl) (by simp) ?_
                  refine AllReadyH.cons rfl (fun K hK => ?_) AllReadyH.nil
                  rw [if_pos (by rfl)]
                  simp only [zqa, zqb, zqc]
                  go_simp
                  refine hK.out _ _ ?_ (fun hS1 => ?_)
                  · exact ⟨kept_set9 hH3.1 hp _ _ _ _ _ _ _ _ _, HA.step (kept_set9 hH3.1 hp _ _ _ _ _ _ _ _ _)⟩
                  clear hK K
                  try simp only [Act.put, zqd, zqe, zqf, zqa, zqb, zqc]
                  refine wpAnyH_done (by kernel_rfl) ?_ _
                  obtain ⟨s0, s1, s2, s3, s4, s5, s6, s7, s8⟩ := set9_of (v0 := .pointer (some ⟨g, i * 17, none⟩)) (v1 := .pointer (some ⟨g, k * 17, none⟩)) (v2 := .int .i64 (lightX mi)) (v3 := .int .i64 (lightX mk)) (v4 := .int .i64 0) (v5 := .int .i64 t.way.x) (v6 := .int .i64 t.way.y) (v7 := .int .i64 t.way.z) (v8 := .int .i64 t.deep) cp0 cp1 cp2 cp3 cp4 cp5 cp6 cp7 cp8
                  have hfz := frz9 fp4 (.pointer (some ⟨g, i * 17, none⟩)) (.pointer (some ⟨g, k * 17, none⟩)) (.int .i64 (lightX mi)) (.int .i64 (lightX mk)) (.int .i64 0) (.int .i64 t.way.x) (.int .i64 t.way.y) (.int .i64 t.way.z) (.int .i64 t.deep)
                  go_wp2_with fail
                  go_meet
                  case rel => exact ⟨_, rfl, hS1.1, hp, s0, s1, s2, s3, s4, s5, s6, s7, s8, hfz⟩
                · rw [if_pos (by rfl)]
                  simp only [zqa, zqb, zqc]
                  go_simp
                  refine hK.out _ _ ?_ (fun hH5 => ?_)
                  · exact ⟨hH1.1.alloc _ _, HA.step (hH1.1.alloc _ _)⟩
                  have hp : wA.heap.size ≤ wc1.heap.size := Nat.le_trans hH1.1.below.size (Nat.le_of_eq (by simp))
                  have hP : Fr9 wA (wc1.heap.size) (wc1.alloc (.cells #[.pointer none, .pointer none, .int .i64 0, .int .i64 0, .int .i64 0, .int .i64 0, .int .i64 0, .int .i64 0, .int .i64 0] 85)) := by refine ⟨hH1.1.alloc _ _, cellV_of (v := .pointer none) ?_, cellV_of (v := .pointer none) ?_, cellV_of (v := .int .i64 0) ?_, cellV_of (v := .int .i64 0) ?_, cellV_of (v := .int .i64 0) ?_, cellV_of (v := .int .i64 0) ?_, cellV_of (v := .int .i64 0) ?_, cellV_of (v := .int .i64 0) ?_, cellV_of (v := .int .i64 0) ?_, ?_, ?_, ?_, ?_, ?_, ?_, ?_, ?_, ?_⟩ <;> go_simp
                  clear hK K hH1
                  try simp only [Act.put, zqd, zqe, zqf, zqa, zqb, zqc]
                  refine wpAnyH_ready (rs := [11]) (by kernel_rfl) (by simp) ?_
                  refine AllReadyH.cons rfl (fun K hK => ?_) AllReadyH.nil
                  rw [if_pos (by rfl)]
                  simp only [zqa, zqb, zqc]
                  go_simp
                  (go_at_call 60; refine (light_calls mk _).mono ?_; rintro e wc6 ⟨rfl, kc6⟩)
                  try go_wp2_with fail
                  refine hK.out _ _ ?_ (fun hH6 => ?_)
                  · exact ⟨hH5.1.trans kc6, HA.step (hH5.1.trans kc6)⟩
                  replace hP := hP.step kc6
                  clear hK K hH5
                  try simp only [Act.put, zqd, zqe, zqf, zqa, zqb, zqc]
                  refine wpAnyH_take (i := 16) (v := ?_) rfl (by kernel_rfl) (by kernel_rfl) (by kernel_rfl) (fun _ _ _ h => h) (Or.inl ⟨by kernel_rfl, ?_⟩) (by assumption) ?_
                  rotate_left
                  · intro w'' hSw; (try dsimp only at hSw); simp only [zqa, zqb, zqc]; (go_simp <;> with_reducible rfl)
                  try simp only [Act.put, zqd, zqe, zqf, zqa, zqb, zqc]
                  have hP0 := hP
                  obtain ⟨_, cp0, cp1, cp2, cp3, cp4, cp5, cp6, cp7, cp8, fp0, fp1, fp2, fp3, fp4, fp5, fp6, fp7, fp8⟩ := hP0
                  refine wpAnyH_ready (rs := [18]) (by kernel_rfl) (by simp) ?_
                  refine AllReadyH.cons rfl (fun K hK => ?_) AllReadyH.nil
                  rw [if_pos (by rfl)]
                  simp only [zqa, zqb, zqc]
                  go_simp
                  refine hK.out _ _ ?_ (fun hS1 => ?_)
                  · exact ⟨kept_set9 hH6.1 hp _ _ _ _ _ _ _ _ _, HA.step (kept_set9 hH6.1 hp _ _ _ _ _ _ _ _ _)⟩
                  clear hK K
                  try simp only [Act.put, zqd, zqe, zqf, zqa, zqb, zqc]
                  refine wpAnyH_done (by kernel_rfl) ?_ _
                  obtain ⟨s0, s1, s2, s3, s4, s5, s6, s7, s8⟩ := set9_of (v0 := .pointer (some ⟨g, i * 17, none⟩)) (v1 := .pointer (some ⟨g, k * 17, none⟩)) (v2 := .int .i64 (lightX mi)) (v3 := .int .i64 (lightX mk)) (v4 := .int .i64 0) (v5 := .int .i64 t.way.x) (v6 := .int .i64 t.way.y) (v7 := .int .i64 t.way.z) (v8 := .int .i64 t.deep) cp0 cp1 cp2 cp3 cp4 cp5 cp6 cp7 cp8
                  have hfz := frz9 fp4 (.pointer (some ⟨g, i * 17, none⟩)) (.pointer (some ⟨g, k * 17, none⟩)) (.int .i64 (lightX mi)) (.int .i64 (lightX mk)) (.int .i64 0) (.int .i64 t.way.x) (.int .i64 t.way.y) (.int .i64 t.way.z) (.int .i64 t.deep)
                  go_wp2_with fail
                  go_meet
                  case rel => exact ⟨_, rfl, hS1.1, hp, s0, s1, s2, s3, s4, s5, s6, s7, s8, hfz⟩
              · rw [if_pos (by rfl)]
                simp only [zqa, zqb, zqc]
                go_simp
                refine hK.out _ _ ?_ (fun hH7 => ?_)
                · exact ⟨hH0.1.alloc _ _, HA.step (hH0.1.alloc _ _)⟩
                have hp : wA.heap.size ≤ wA.heap.size := Nat.le_trans hH0.1.below.size (Nat.le_of_eq (by simp))
                have hP : Fr9 wA (wA.heap.size) (wA.drew.alloc (.cells #[.pointer none, .pointer none, .int .i64 0, .int .i64 0, .int .i64 0, .int .i64 0, .int .i64 0, .int .i64 0, .int .i64 0] 85)) := by refine ⟨hH0.1.alloc _ _, cellV_of (v := .pointer none) ?_, cellV_of (v := .pointer none) ?_, cellV_of (v := .int .i64 0) ?_, cellV_of (v := .int .i64 0) ?_, cellV_of (v := .int .i64 0) ?_, cellV_of (v := .int .i64 0) ?_, cellV_of (v := .int .i64 0) ?_, cellV_of (v := .int .i64 0) ?_, cellV_of (v := .int .i64 0) ?_, ?_, ?_, ?_, ?_, ?_, ?_, ?_, ?_, ?_⟩ <;> go_simp
                clear hK K hH0
                try simp only [Act.put, zqd, zqe, zqf, zqa, zqb, zqc]
                refine wpAnyH_ready (rs := [6]) (by kernel_rfl) (by simp) ?_
                refine AllReadyH.cons rfl (fun K hK => ?_) AllReadyH.nil
                rw [if_pos (by rfl)]
                simp only [zqa, zqb, zqc]
                go_simp
                (go_at_call 60; refine (light_calls mi _).mono ?_; rintro e wc8 ⟨rfl, kc8⟩)
                try go_wp2_with fail
                refine hK.out _ _ ?_ (fun hH8 => ?_)
                · exact ⟨hH7.1.trans kc8, HA.step (hH7.1.trans kc8)⟩
                replace hP := hP.step kc8
                clear hK K hH7
                try simp only [Act.put, zqd, zqe, zqf, zqa, zqb, zqc]
                refine wpAnyH_ready (rs := [11]) (by kernel_rfl) (by simp) ?_
                refine AllReadyH.cons rfl (fun K hK => ?_) AllReadyH.nil
                rw [if_pos (by rfl)]
                simp only [zqa, zqb, zqc]
                go_simp
                (go_at_call 60; refine (light_calls mk _).mono ?_; rintro e wc9 ⟨rfl, kc9⟩)
                try go_wp2_with fail
                refine hK.out _ _ ?_ (fun hH9 => ?_)
                · exact ⟨hH8.1.trans kc9, HA.step (hH8.1.trans kc9)⟩
                replace hP := hP.step kc9
                clear hK K hH8
                try simp only [Act.put, zqd, zqe, zqf, zqa, zqb, zqc]
                refine wpAnyH_take (i := 16) (v := ?_) rfl (by kernel_rfl) (by kernel_rfl) (by kernel_rfl) (fun _ _ _ h => h) (Or.inl ⟨by kernel_rfl, ?_⟩) (by assumption) ?_
                rotate_left
                · intro w'' hSw; (try dsimp only at hSw); simp only [zqa, zqb, zqc]; (go_simp <;> with_reducible rfl)
                try simp only [Act.put, zqd, zqe, zqf, zqa, zqb, zqc]
                have hP0 := hP
                obtain ⟨_, cp0, cp1, cp2, cp3, cp4, cp5, cp6, cp7, cp8, fp0, fp1, fp2, fp3, fp4, fp5, fp6, fp7, fp8⟩ := hP0
                refine wpAnyH_ready (rs := [18]) (by kernel_rfl) (by simp) ?_
                refine AllReadyH.cons rfl (fun K hK => ?_) AllReadyH.nil
                rw [if_pos (by rfl)]
                simp only [zqa, zqb, zqc]
                go_simp
                refine hK.out _ _ ?_ (fun hS1 => ?_)
                · exact ⟨kept_set9 hH9.1 hp _ _ _ _ _ _ _ _ _, HA.step (kept_set9 hH9.1 hp _ _ _ _ _ _ _ _ _)⟩
                clear hK K
                try simp only [Act.put, zqd, zqe, zqf, zqa, zqb, zqc]
                refine wpAnyH_done (by kernel_rfl) ?_ _
                obtain ⟨s0, s1, s2, s3, s4, s5, s6, s7, s8⟩ := set9_of (v0 := .pointer (some ⟨g, i * 17, none⟩)) (v1 := .pointer (some ⟨g, k * 17, none⟩)) (v2 := .int .i64 (lightX mi)) (v3 := .int .i64 (lightX mk)) (v4 := .int .i64 0) (v5 := .int .i64 t.way.x) (v6 := .int .i64 t.way.y) (v7 := .int .i64 t.way.z) (v8 := .int .i64 t.deep) cp0 cp1 cp2 cp3 cp4 cp5 cp6 cp7 cp8
                have hfz := frz9 fp4 (.pointer (some ⟨g, i * 17, none⟩)) (.pointer (some ⟨g, k * 17, none⟩)) (.int .i64 (lightX mi)) (.int .i64 (lightX mk)) (.int .i64 0) (.int .i64 t.way.x) (.int .i64 t.way.y) (.int .i64 t.way.z) (.int .i64 t.deep)
                go_wp2_with fail
                go_meet
                case rel => exact ⟨_, rfl, hS1.1, hp, s0, s1, s2, s3, s4, s5, s6, s7, s8, hfz⟩
            case rest =>
              clear HA
              obtain ⟨p, rfl, kc, hp, s0, s1, s2, s3, s4, s5, s6, s7, s8, hfz⟩ := hcut
              have HC : Hid (Only [] wr wc ∧ wr.heap.size ≤ p) := ⟨HOA.out.trans (Only.of_kept kc), Nat.le_trans HOA.out.size hp⟩
              clear kc hp HOA
              generalize lightX mi = x at HE s2
              generalize lightX mk = y at HE s3
              go_wp2_with fail
              refine (add_calls x y wc).mono ?_
              rintro e w6 ⟨rfl, k6⟩
              have HC6 : Hid (Only [] wr w6 ∧ wr.heap.size ≤ p) := ⟨HC.out.1.trans (Only.of_kept k6), HC.out.2⟩
              have r0 := kept_cell k6 s0
              have r1 := kept_cell k6 s1
              have r2 := kept_cell k6 s2
              have r3 := kept_cell k6 s3
              have r4 := kept_cell k6 s4
              have r5 := kept_cell k6 s5
              have r6 := kept_cell k6 s6
              have r7 := kept_cell k6 s7
              have r8 := kept_cell k6 s8
              have hf6 := kept_frozen k6 hfz
              clear k6 s0 s1 s2 s3 s4 s5 s6 s7 s8 hfz HC
              generalize add x y = al at HE
              by_cases hal : 0 < al
              · have HE1 : Hid (meetX1 n B (T j) = [⟨i, k, x, y, al, t.way, t.deep⟩]) := by show meetX1 n B (T j) = _; rw [← HT.out, HE.out, if_pos hal]
                go_upto_region 11 with fail
                have H7 : Hid (Only [] wr (w6.setCell ⟨p, 4, none⟩ (.int .i64 al))) := HC6.out.1.setCell (p := ⟨p, 4, none⟩) (Or.inr HC6.out.2) _
                have q0 : (w6.setCell ⟨p, 4, none⟩ (.int .i64 al)).cell? ⟨p, 0, none⟩ = some (.pointer (some ⟨g, i * 17, none⟩)) := by go_simp
                have q1 : (w6.setCell ⟨p, 4, none⟩ (.int .i64 al)).cell? ⟨p, 1, none⟩ = some (.pointer (some ⟨g, k * 17, none⟩)) := by go_simp
                have q2 : (w6.setCell ⟨p, 4, none⟩ (.int .i64 al)).cell? ⟨p, 2, none⟩ = some (.int .i64 x) := by go_simp
                have q3 : (w6.setCell ⟨p, 4, none⟩ (.int .i64 al)).cell? ⟨p, 3, none⟩ = some (.int .i64 y) := by go_simp
                have q4 : (w6.setCell ⟨p, 4, none⟩ (.int .i64 al)).cell? ⟨p, 4, none⟩ = some (.int .i64 al) := by go_simp
                have q5 : (w6.setCell ⟨p, 4, none⟩ (.int .i64 al)).cell? ⟨p, 5, none⟩ = some (.int .i64 t.way.x) := by go_simp
                have q6 : (w6.setCell ⟨p, 4, none⟩ (.int .i64 al)).cell? ⟨p, 6, none⟩ = some (.int .i64 t.way.y) := by go_simp
                have q7 : (w6.setCell ⟨p, 4, none⟩ (.int .i64 al)).cell? ⟨p, 7, none⟩ = some (.int .i64 t.way.z) := by go_simp
                have q8 : (w6.setCell ⟨p, 4, none⟩ (.int .i64 al)).cell? ⟨p, 8, none⟩ = some (.int .i64 t.deep) := by go_simp
                clear r0 r1 r2 r3 r4 r5 r6 r7 r8 hf6
                revert H7 q0 q1 q2 q3 q4 q5 q6 q7 q8
                generalize World.setCell w6 _ _ = w7
                intro H7 q0 q1 q2 q3 q4 q5 q6 q7 q8
                have hsl := HS.out.sl.only H7.out (by simp)
                have hml := meetsX_len n B T j
                obtain ⟨i2, hi0, hz0, hz1, hz2⟩ := info_parts' meetInfo
                unfold SlMt at hsl
                go_wp2_with (first | (at_builtin; refine wpList_append_own_at _ rfl _ _ 82 rfl 0 85 i2 (.agg #[.pointer none, .pointer none, .int .i64 0, .int .i64 0, .int .i64 0, .int .i64 0, .int .i64 0, .int .i64 0, .int .i64 0]) 9 72 Tryz.underlying82 hi0 hz0 hz1 hz2 rfl (by decide) v _ _ rfl (World.ownsRow.alloc hsl _) ⟨w7.heap.size, 0, none⟩ 1 1 [.pointer (some ⟨g, i * 17, none⟩), .pointer (some ⟨g, k * 17, none⟩), .int .i64 x, .int .i64 y, .int .i64 al, .int .i64 t.way.x, .int .i64 t.way.y, .int .i64 t.way.z, .int .i64 t.deep] rfl rfl (cell_nine _ _ _ _ _ _ _ _ _ _ _) (by simp [Value.oneCell']) (by unfold maxLen; omega) (by omega) (by simp) ?_; intro v' w8 hown hgrow hnil hloc; have H8 : Hid (_ ∧ _ ∧ _) := SlMt.put (q := ⟨i, k, x, y, al, t.way, t.deep⟩) hown hgrow hloc; clear hown hgrow hnil hloc hsl))
                go_roundg (m - (j + 1))
                case measure => have := H2.out.2; omega
                case rel => exact ⟨v', j + 1, rfl, by go_num, ⟨by omega, rfl⟩, HS.out.put HE1.out H7.out H8.out⟩
              · have HE1 : Hid (meetX1 n B (T j) = []) := by show meetX1 n B (T j) = _; rw [← HT.out, HE.out, if_neg hal]
                go_wp2_with fail
                go_roundg (m - (j + 1))
                case measure => have := H2.out.2; omega
                case rel => exact ⟨v, j + 1, rfl, by go_num, ⟨by omega, rfl⟩, HS.out.next HE1.out (HC6.out.1.setCell (p := ⟨p, 4, none⟩) (Or.inr HC6.out.2) _)⟩
    · have hjl : ¬ (j : Int) < (m : Int) := by omega
      obtain rfl : j = m := by have := H2.out.1; omega
      go_wp2_with fail
      go_ret
      exact ⟨v, rfl, HS.out.sl, H1.out.2.trans HS.out.only, fun q hq => Nat.le_trans H1.out.2.size (HS.out.new q hq)⟩
end Go.Proofs.YtbfkloclmlnahabGreat

namespace Go.Proofs.YtbfkloclmlnahabGreat
open Go.ChangeShapes Go.WideShapes Go.ChangeAt Go.RowKit
set_option linter.unusedVariables false
set_option linter.unusedSimpArgs false

theorem put33 {w : World} {p q : Nat} (hne : p ≠ q) {a0 a1 a2 b0 b1 b2 : Value} (c0 : w.cell? ⟨p, 0, none⟩ = some a0) (c1 : w.cell? ⟨p, 1, none⟩ = some a1) (c2 : w.cell? ⟨p, 2, none⟩ = some a2) (d0 : w.cell? ⟨q, 0, none⟩ = some b0) (d1 : w.cell? ⟨q, 1, none⟩ = some b1) (d2 : w.cell? ⟨q, 2, none⟩ = some b2) (v0 v1 v2 u0 u1 u2 : Value) :
    ((((((w.setCell ⟨p, 0, none⟩ v0).setCell ⟨p, 1, none⟩ v1).setCell ⟨p, 2, none⟩ v2).setCell ⟨q, 0, none⟩ u0).setCell ⟨q, 1, none⟩ u1).setCell ⟨q, 2, none⟩ u2).cell? ⟨p, 0, none⟩ = some v0 ∧ ((((((w.setCell ⟨p, 0, none⟩ v0).setCell ⟨p, 1, none⟩ v1).setCell ⟨p, 2, none⟩ v2).setCell ⟨q, 0, none⟩ u0).setCell ⟨q, 1, none⟩ u1).setCell ⟨q, 2, none⟩ u2).cell? ⟨p, 1, none⟩ = some v1 ∧ ((((((w.setCell ⟨p, 0, none⟩ v0).setCell ⟨p, 1, none⟩ v1).setCell ⟨p, 2, none⟩ v2).setCell ⟨q, 0, none⟩ u0).setCell ⟨q, 1, none⟩ u1).setCell ⟨q, 2, none⟩ u2).cell? ⟨p, 2, none⟩ = some v2 ∧ ((((((w.setCell ⟨p, 0, none⟩ v0).setCell ⟨p, 1, none⟩ v1).setCell ⟨p, 2, none⟩ v2).setCell ⟨q, 0, none⟩ u0).setCell ⟨q, 1, none⟩ u1).setCell ⟨q, 2, none⟩ u2).cell? ⟨q, 0, none⟩ = some u0 ∧ ((((((w.setCell ⟨p, 0, none⟩ v0).setCell ⟨p, 1, none⟩ v1).setCell ⟨p, 2, none⟩ v2).setCell ⟨q, 0, none⟩ u0).setCell ⟨q, 1, none⟩ u1).setCell ⟨q, 2, none⟩ u2).cell? ⟨q, 1, none⟩ = some u1 ∧ ((((((w.setCell ⟨p, 0, none⟩ v0).setCell ⟨p, 1, none⟩ v1).setCell ⟨p, 2, none⟩ v2).setCell ⟨q, 0, none⟩ u0).setCell ⟨q, 1, none⟩ u1).setCell ⟨q, 2, none⟩ u2).cell? ⟨q, 2, none⟩ = some u2 := by
  have n1 : q ≠ p := fun e => hne e.symm
  refine ⟨?_, ?_, ?_, ?_, ?_, ?_⟩ <;> go_simp
set_option maxRecDepth 100000 in
set_option maxHeartbeats 2000000 in
theorem split_calls (p0 p1 : Value) (x y al wx wy wz dp a b c j : Int) (w : World) :
    Calls Tryz.prog 70 #[.agg #[p0, p1, .int .i64 x, .int .i64 y, .int .i64 al, .int .i64 wx, .int .i64 wy, .int .i64 wz, .int .i64 dp], .agg #[.int .i64 a, .int .i64 b, .int .i64 c], .int .i64 j] w fun e w' => e = .returned (.tuple #[.agg #[.int .i64 (mul a (mul j x)), .int .i64 (mul b (mul j x)), .int .i64 (mul c (mul j x))], .agg #[.int .i64 (mul a (mul j y)), .int .i64 (mul b (mul j y)), .int .i64 (mul c (mul j y))]]) ∧ Kept w w' := by
  go_enter Tryz.func70, Tryz.ntmps70
  go_upto_region 1 with fail
  have HA : Hid (∃ wA, wA = ((((w.alloc (.cells #[p0, p1, .int .i64 x, .int .i64 y, .int .i64 al, .int .i64 wx, .int .i64 wy, .int .i64 wz, .int .i64 dp] 85)).alloc (.cells #[.int .i64 a, .int .i64 b, .int .i64 c] 24)).alloc (.cells #[.int .i64 0, .int .i64 0, .int .i64 0] 24)).alloc (.cells #[.int .i64 0, .int .i64 0, .int .i64 0] 24)) ∧ Kept w wA ∧ (wA.cell? ⟨w.heap.size, 2, none⟩ = some (.int .i64 x) ∧ wA.cell? ⟨w.heap.size, 3, none⟩ = some (.int .i64 y) ∧ wA.cell? ⟨w.heap.size + 1, 0, none⟩ = some (.int .i64 a) ∧ wA.cell? ⟨w.heap.size + 1, 1, none⟩ = some (.int .i64 b) ∧ wA.cell? ⟨w.heap.size + 1, 2, none⟩ = some (.int .i64 c)) ∧ (wA.cell? ⟨w.heap.size + 1 + 1, 0, none⟩ = some (.int .i64 0) ∧ wA.cell? ⟨w.heap.size + 1 + 1, 1, none⟩ = some (.int .i64 0) ∧ wA.cell? ⟨w.heap.size + 1 + 1, 2, none⟩ = some (.int .i64 0) ∧ wA.cell? ⟨w.heap.size + 1 + 1 + 1, 0, none⟩ = some (.int .i64 0) ∧ wA.cell? ⟨w.heap.size + 1 + 1 + 1, 1, none⟩ = some (.int .i64 0) ∧ wA.cell? ⟨w.heap.size + 1 + 1 + 1, 2, none⟩ = some (.int .i64 0)) ∧ (∀ i, wA.frozen? ⟨w.heap.size + 1 + 1, i, none⟩ = false) ∧ (∀ i, wA.frozen? ⟨w.heap.size + 1 + 1 + 1, i, none⟩ = false)) := by
    refine ⟨_, rfl, (((((Kept.refl w).alloc _ _).alloc _ _).alloc _ _).alloc _ _), ⟨?_, ?_, ?_, ?_, ?_⟩, ⟨?_, ?_, ?_, ?_, ?_, ?_⟩, ?_, ?_⟩
    all_goals (try intro i)
    all_goals go_simp
  obtain ⟨wA, hwA, hkA, hcs, hr, hf1, hf2⟩ := HA.out
  simp only [← hwA]
  clear hwA HA
  have HA : Hid (Kept w wA) := hkA
  have HF : Hid ((wA.cell? ⟨w.heap.size + 1 + 1, 0, none⟩ = some (.int .i64 0) ∧ wA.cell? ⟨w.heap.size + 1 + 1, 1, none⟩ = some (.int .i64 0) ∧ wA.cell? ⟨w.heap.size + 1 + 1, 2, none⟩ = some (.int .i64 0) ∧ wA.cell? ⟨w.heap.size + 1 + 1 + 1, 0, none⟩ = some (.int .i64 0) ∧ wA.cell? ⟨w.heap.size + 1 + 1 + 1, 1, none⟩ = some (.int .i64 0) ∧ wA.cell? ⟨w.heap.size + 1 + 1 + 1, 2, none⟩ = some (.int .i64 0)) ∧ (∀ i, wA.frozen? ⟨w.heap.size + 1 + 1, i, none⟩ = false) ∧ (∀ i, wA.frozen? ⟨w.heap.size + 1 + 1 + 1, i, none⟩ = false)) := ⟨hr, hf1, hf2⟩
  have HN : Hid (w.heap.size ≤ w.heap.size + 1 + 1 ∧ w.heap.size ≤ w.heap.size + 1 + 1 + 1 ∧ w.heap.size + 1 + 1 ≠ w.heap.size + 1 + 1 + 1 ∧ w.heap.size ∉ [w.heap.size + 1 + 1, w.heap.size + 1 + 1 + 1] ∧ w.heap.size + 1 ∉ [w.heap.size + 1 + 1, w.heap.size + 1 + 1 + 1]) := by
    refine ⟨by omega, by omega, by omega, ?_, ?_⟩ <;> (simp only [List.mem_cons, List.not_mem_nil, or_false]; omega)
  clear hkA hr hf1 hf2
  revert HN HF hcs
  generalize w.heap.size + 1 + 1 + 1 = r2
  generalize w.heap.size + 1 + 1 = r1
  generalize w.heap.size + 1 = kw
  generalize hkx : w.heap.size = kx
  intro hcs HF HN
  have HX : Hid (w.heap.size = kx) := hkx
  clear hkx
  have HK : Hid (∀ w', Only [r1, r2] wA w' → Only [r1, r2] wA w' ∧ w'.cell? ⟨kx, 2, none⟩ = some (.int .i64 x) ∧ w'.cell? ⟨kx, 3, none⟩ = some (.int .i64 y) ∧ w'.cell? ⟨kw, 0, none⟩ = some (.int .i64 a) ∧ w'.cell? ⟨kw, 1, none⟩ = some (.int .i64 b) ∧ w'.cell? ⟨kw, 2, none⟩ = some (.int .i64 c)) := fun w' o => ⟨o, cell_only o hcs.1 HN.out.2.2.2.1, cell_only o hcs.2.1 HN.out.2.2.2.1, cell_only o hcs.2.2.1 HN.out.2.2.2.2, cell_only o hcs.2.2.2.1 HN.out.2.2.2.2, cell_only o hcs.2.2.2.2 HN.out.2.2.2.2⟩
  clear hcs
  refine wp_region_held_drew (S := (fun w' => Only [r1, r2] wA w' ∧ w'.cell? ⟨kx, 2, none⟩ = some (.int .i64 x) ∧ w'.cell? ⟨kx, 3, none⟩ = some (.int .i64 y) ∧ w'.cell? ⟨kw, 0, none⟩ = some (.int .i64 a) ∧ w'.cell? ⟨kw, 1, none⟩ = some (.int .i64 b) ∧ w'.cell? ⟨kw, 2, none⟩ = some (.int .i64 c))) (by kernel_rfl) ?_ (fun hHeld1 => ?_)
  · (try dsimp only); exact HK.out _ (Only.refl _ _).drew
  refine wpAnyH_take (i := 0) (v := ?_) rfl (by kernel_rfl) (by kernel_rfl) (by kernel_rfl) (fun _ _ _ h => h) (Or.inl ⟨by kernel_rfl, ?_⟩) (by assumption) ?_
  rotate_left
  · intro w'' hSw; (try dsimp only at hSw); simp only [zqa, zqb, zqc]; (go_simp <;> with_reducible rfl)
  try simp only [Act.put, zqd, zqe, zqf, zqa, zqb, zqc]
  refine wpAnyH_take (i := 1) (v := ?_) rfl (by kernel_rfl) (by kernel_rfl) (by kernel_rfl) (fun _ _ _ h => h) (Or.inl ⟨by kernel_rfl, ?_⟩) (by assumption) ?_
  rotate_left
  · intro w'' hSw; (try dsimp only at hSw); simp only [zqa, zqb, zqc]; (go_simp <;> with_reducible rfl)
  try simp only [Act.put, zqd, zqe, zqf, zqa, zqb, zqc]
  refine wpAnyH_take (i := 2) (v := ?_) rfl (by kernel_rfl) (by kernel_rfl) (by kernel_rfl) (fun _ _ _ h => h) (Or.inl ⟨by kernel_rfl, ?_⟩) (by assumption) ?_
  rotate_left
  · intro w'' hSw; (try dsimp only at hSw); simp only [zqa, zqb, zqc]; (go_simp <;> with_reducible rfl)
  try simp only [Act.put, zqd, zqe, zqf, zqa, zqb, zqc]
  refine wpAnyH_take (i := 3) (v := ?_) rfl (by kernel_rfl) (by kernel_rfl) (by kernel_rfl) (fun _ _ _ h => h) (Or.inl ⟨by kernel_rfl, ?_⟩) (by assumption) ?_
  rotate_left
  · intro w'' hSw; (try dsimp only at hSw); simp only [zqa, zqb, zqc]; (go_simp <;> with_reducible rfl)
  try simp only [Act.put, zqd, zqe, zqf, zqa, zqb, zqc]
  refine wpAnyH_take (i := 6) (v := ?_) rfl (by kernel_rfl) (by kernel_rfl) (by kernel_rfl) (fun _ _ _ h => h) (Or.inl ⟨by kernel_rfl, ?_⟩) (by assumption) ?_
  rotate_left
  · intro w'' hSw; (try dsimp only at hSw); simp only [zqa, zqb, zqc]; (go_simp <;> with_reducible rfl)
  try simp only [Act.put, zqd, zqe, zqf, zqa, zqb, zqc]
  refine wpAnyH_take (i := 7) (v := ?_) rfl (by kernel_rfl) (by kernel_rfl) (by kernel_rfl) (fun _ _ _ h => h) (Or.inl ⟨by kernel_rfl, ?_⟩) (by assumption) ?_
  rotate_left
  · intro w'' hSw; (try dsimp only at hSw); simp only [zqa, zqb, zqc]; (go_simp <;> with_reducible rfl)
  try simp only [Act.put, zqd, zqe, zqf, zqa, zqb, zqc]
  refine wpAnyH_take (i := 8) (v := ?_) rfl (by kernel_rfl) (by kernel_rfl) (by kernel_rfl) (fun _ _ _ h => h) (Or.inl ⟨by kernel_rfl, ?_⟩) (by assumption) ?_
  rotate_left
  · intro w'' hSw; (try dsimp only at hSw); simp only [zqa, zqb, zqc]; (go_simp <;> with_reducible rfl)
  try simp only [Act.put, zqd, zqe, zqf, zqa, zqb, zqc]
  refine wpAnyH_take (i := 9) (v := ?_) rfl (by kernel_rfl) (by kernel_rfl) (by kernel_rfl) (fun _ _ _ h => h) (Or.inl ⟨by kernel_rfl, ?_⟩) (by assumption) ?_
  rotate_left
  · intro w'' hSw; (try dsimp only at hSw); simp only [zqa, zqb, zqc]; (go_simp <;> with_reducible rfl)
  try simp only [Act.put, zqd, zqe, zqf, zqa, zqb, zqc]
  refine wpAnyH_ready (rs := [4]) (by kernel_rfl) (by simp) ?_
  refine AllReadyH.cons rfl (fun K hK => ?_) AllReadyH.nil
  first | (with_reducible refine iteYes ?hcx ?htx; case hcx => kernel_rfl) | rw [if_pos (by rfl)]
  simp only [zqa, zqb, zqc]
  go_simp
  (go_at_call 64; refine (mul_calls _ _ _).mono ?_; rintro e w1 ⟨rfl, k1⟩; have K1 : Hid (Kept wA w1) := (Kept.refl wA).drew.trans k1; clear k1)
  try go_wp2_with fail
  refine hK.out _ _ ?_ (fun hHeld2 => ?_)
  · (try dsimp only); exact HK.out _ (Only.of_kept K1.out)
  clear hK K hHeld1
  try simp only [Act.put, zqd, zqe, zqf, zqa, zqb, zqc]
  refine wpAnyH_ready (rs := [5]) (by kernel_rfl) (by simp) ?_
  refine AllReadyH.cons rfl (fun K hK => ?_) AllReadyH.nil
  first | (with_reducible refine iteYes ?hcx ?htx; case hcx => kernel_rfl) | rw [if_pos (by rfl)]
  simp only [zqa, zqb, zqc]
  go_simp
  (go_at_call 66; refine (times_calls _ _ _ _ _).mono ?_; rintro e w2 ⟨rfl, k2⟩; have K2 : Hid (Kept wA w2) := K1.out.trans k2; clear k2)
  try go_wp2_with fail
  refine hK.out _ _ ?_ (fun hHeld3 => ?_)
  · (try dsimp only); exact HK.out _ (Only.of_kept K2.out)
  clear hK K hHeld2
  try simp only [Act.put, zqd, zqe, zqf, zqa, zqb, zqc]
  refine wpAnyH_ready (rs := [10]) (by kernel_rfl) (by simp) ?_
  refine AllReadyH.cons rfl (fun K hK => ?_) AllReadyH.nil
  first | (with_reducible refine iteYes ?hcx ?htx; case hcx => kernel_rfl) | rw [if_pos (by rfl)]
  simp only [zqa, zqb, zqc]
  go_simp
  (go_at_call 64; refine (mul_calls _ _ _).mono ?_; rintro e w3 ⟨rfl, k3⟩; have K3 : Hid (Kept wA w3) := K2.out.trans k3; clear k3)
  try go_wp2_with fail
  refine hK.out _ _ ?_ (fun hHeld4 => ?_)
  · (try dsimp only); exact HK.out _ (Only.of_kept K3.out)
  clear hK K hHeld3
  try simp only [Act.put, zqd, zqe, zqf, zqa, zqb, zqc]
  refine wpAnyH_ready (rs := [11]) (by kernel_rfl) (by simp) ?_
  refine AllReadyH.cons rfl (fun K hK => ?_) AllReadyH.nil
  first | (with_reducible refine iteYes ?hcx ?htx; case hcx => kernel_rfl) | rw [if_pos (by rfl)]
  simp only [zqa, zqb, zqc]
  go_simp
  (go_at_call 66; refine (times_calls _ _ _ _ _).mono ?_; rintro e w4 ⟨rfl, k4⟩; have K4 : Hid (Kept wA w4) := K3.out.trans k4; clear k4)
  try go_wp2_with fail
  refine hK.out _ _ ?_ (fun hHeld5 => ?_)
  · (try dsimp only); exact HK.out _ (Only.of_kept K4.out)
  clear hK K hHeld4
  try simp only [Act.put, zqd, zqe, zqf, zqa, zqb, zqc]
  have c0 := kept_cell K4.out HF.out.1.1
  have c1 := kept_cell K4.out HF.out.1.2.1
  have c2 := kept_cell K4.out HF.out.1.2.2.1
  have d0 := kept_cell K4.out HF.out.1.2.2.2.1
  have d1 := kept_cell K4.out HF.out.1.2.2.2.2.1
  have d2 := kept_cell K4.out HF.out.1.2.2.2.2.2
  have f0 := kept_frozen K4.out (HF.out.2.1 0)
  have f1 := kept_frozen K4.out (HF.out.2.1 1)
  have f2 := kept_frozen K4.out (HF.out.2.1 2)
  have g0 := kept_frozen K4.out (HF.out.2.2 0)
  have g1 := kept_frozen K4.out (HF.out.2.2 1)
  have g2 := kept_frozen K4.out (HF.out.2.2 2)
  have hne := HN.out.2.2.1
  have hne' : r2 ≠ r1 := fun e => hne e.symm
  refine wpAnyH_ready (rs := [12]) (by kernel_rfl) (by simp) ?_
  refine AllReadyH.cons rfl (fun K hK => ?_) AllReadyH.nil
  first | (with_reducible refine iteYes ?hcx ?htx; case hcx => kernel_rfl) | rw [if_pos (by rfl)]
  simp only [zqa, zqb, zqc]
  go_simp
  refine hK.out _ _ ?_ (fun hHeld6 => ?_)
  · (try dsimp only); exact HK.out _ ((((Only.of_kept K4.out).setCell (p := ⟨r1, 0, none⟩) (Or.inl (by simp)) _).setCell (p := ⟨r1, 1, none⟩) (Or.inl (by simp)) _).setCell (p := ⟨r1, 2, none⟩) (Or.inl (by simp)) _)
  clear hK K
  try simp only [Act.put, zqd, zqe, zqf, zqa, zqb, zqc]
  refine wpAnyH_ready (rs := [13]) (by kernel_rfl) (by simp) ?_
  refine AllReadyH.cons rfl (fun K hK => ?_) AllReadyH.nil
  first | (with_reducible refine iteYes ?hcx ?htx; case hcx => kernel_rfl) | rw [if_pos (by rfl)]
  simp only [zqa, zqb, zqc]
  go_simp
  refine hK.out _ _ ?_ (fun hHeld7 => ?_)
  · (try dsimp only); exact HK.out _ (((((((Only.of_kept K4.out).setCell (p := ⟨r1, 0, none⟩) (Or.inl (by simp)) _).setCell (p := ⟨r1, 1, none⟩) (Or.inl (by simp)) _).setCell (p := ⟨r1, 2, none⟩) (Or.inl (by simp)) _).setCell (p := ⟨r2, 0, none⟩) (Or.inl (by simp)) _).setCell (p := ⟨r2, 1, none⟩) (Or.inl (by simp)) _).setCell (p := ⟨r2, 2, none⟩) (Or.inl (by simp)) _)
  clear hK K
  try simp only [Act.put, zqd, zqe, zqf, zqa, zqb, zqc]
  refine wpAnyH_done (by kernel_rfl) ?_ _
  clear hHeld7 hHeld6
  obtain ⟨e0, e1, e2, e3, e4, e5⟩ := put33 hne c0 c1 c2 d0 d1 d2 (.int .i64 (mul a (mul j x))) (.int .i64 (mul b (mul j x))) (.int .i64 (mul c (mul j x))) (.int .i64 (mul a (mul j y))) (.int .i64 (mul b (mul j y))) (.int .i64 (mul c (mul j y)))
  have hfin : Kept w ((((((w4.setCell ⟨r1, 0, none⟩ (.int .i64 (mul a (mul j x)))).setCell ⟨r1, 1, none⟩ (.int .i64 (mul b (mul j x)))).setCell ⟨r1, 2, none⟩ (.int .i64 (mul c (mul j x)))).setCell ⟨r2, 0, none⟩ (.int .i64 (mul a (mul j y)))).setCell ⟨r2, 1, none⟩ (.int .i64 (mul b (mul j y)))).setCell ⟨r2, 2, none⟩ (.int .i64 (mul c (mul j y)))) := by
    have hx := HX.out
    have h1 := HN.out.1
    have h2 := HN.out.2.1
    have k := HA.out.trans K4.out
    exact (((((k.setCell (p := ⟨r1, 0, none⟩) (by show w.heap.size ≤ r1; omega) _).setCell (p := ⟨r1, 1, none⟩) (by show w.heap.size ≤ r1; omega) _).setCell (p := ⟨r1, 2, none⟩) (by show w.heap.size ≤ r1; omega) _).setCell (p := ⟨r2, 0, none⟩) (by show w.heap.size ≤ r2; omega) _).setCell (p := ⟨r2, 1, none⟩) (by show w.heap.size ≤ r2; omega) _).setCell (p := ⟨r2, 2, none⟩) (by show w.heap.size ≤ r2; omega) _
  go_wp2_with fail
  exact bodyPost_ret (v := .tuple #[.agg #[.int .i64 (mul a (mul j x)), .int .i64 (mul b (mul j x)), .int .i64 (mul c (mul j x))], .agg #[.int .i64 (mul a (mul j y)), .int .i64 (mul b (mul j y)), .int .i64 (mul c (mul j y))]]) (by simp [results, Tryz.results70, go_sem, e0, e1, e2, e3, e4, e5]) rfl ⟨rfl, hfin⟩
end Go.Proofs.YtbfkloclmlnahabGreat
