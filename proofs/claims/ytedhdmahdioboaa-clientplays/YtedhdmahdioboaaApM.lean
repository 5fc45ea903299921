/- cmp.Compare of two numbers: whatever they are. -/
import Derived.Test.YtedhdmahdioboaaBase
import Derived.Deep.QuietTactic
import Derived.BigQuiet
import Derived.Deep.CutRange
import Derived.Deep.LoopGhost
import Derived.LoopN
import Derived.Test.YtedhdmahdioboaaSnp
import Derived.Test.YtedhdmahdioboaaRdm
import Derived.Test.YtedhdmahdioboaaSne
import Derived.Deep.MidRow
namespace Go.Proofs.Ytedhdmahdioboaa
open Go.ChangeShapes Go.WideShapes Go.ChangeAt Go.RowKit
set_option linter.unusedVariables false
set_option linter.unusedSimpArgs false

theorem isNaN_calls (n : Int) (w : World) : Calls Try.prog 130 #[.int .i64 n] w fun e w' => e = .returned (.bool false) ∧ w' = w := by
  have h : (n != n) = false := by simp
  go_enter Try.func130, Try.ntmps130
  go_wp2
  go_ret
  exact ⟨rfl, rfl⟩
def cmpI (a b : Int) : Int := if a < b then -1 else if b < a then 1 else 0
theorem compare_calls (a b : Int) (w : World) : Calls Try.prog 144 #[.int .i64 a, .int .i64 b] w fun e w' => e = .returned (.int .i64 (cmpI a b)) ∧ w' = w := by
  unfold cmpI
  by_cases h : a < b
  · rw [if_pos h]
    go_enter Try.func144, Try.ntmps144
    go_wp2_with (go_at_call 130; refine (isNaN_calls _ _).mono ?_; rintro e w1 ⟨rfl, rfl⟩)
    go_ret
    exact ⟨rfl, rfl⟩
  · rw [if_neg h]
    by_cases h2 : b < a
    · rw [if_pos h2]
      go_enter Try.func144, Try.ntmps144
      go_wp2_with (go_at_call 130; refine (isNaN_calls _ _).mono ?_; rintro e w1 ⟨rfl, rfl⟩)
      go_ret
      exact ⟨rfl, rfl⟩
    · rw [if_neg h2]
      go_enter Try.func144, Try.ntmps144
      go_wp2_with (go_at_call 130; refine (isNaN_calls _ _).mono ?_; rintro e w1 ⟨rfl, rfl⟩)
      go_ret
      exact ⟨rfl, rfl⟩
end Go.Proofs.Ytedhdmahdioboaa
/- What a reader makes of what Delta wrote: plain facts. -/
namespace Go.Proofs.Ytedhdmahdioboaa
open Go.ChangeShapes Go.WideShapes Go.ChangeAt Go.RowKit
set_option linter.unusedVariables false
set_option linter.unusedSimpArgs false

/-- The next that is told: what lies ahead of it did not change. -/
structure Nxt (f : Nat) (F T : List Sn) (la m : Int) (P F1 T1 : List Sn) (id : Int) : Prop where
  eF : F = P ++ F1
  eT : T = P ++ T1
  low : ∀ s ∈ P, s.id < id
  ge : ∀ s L, F1 = s :: L → id ≤ s.id
  lt : m < id
  le : id ≤ 1099511627776
  ne : eqS (takeS id F1) (takeS id T1) = false
  some_ : (takeS id F1).id = id ∨ (takeS id T1).id = id
  bits : ∃ f', (takeL id F1).length + (takeL id T1).length ≤ f' ∧ deltaM f F T la = chgB la (takeS id F1) (takeS id T1) ++ deltaM f' (takeL id F1) (takeL id T1) id
  rf : Ris id (takeL id F1)
  rt : Ris id (takeL id T1)
  gF : Ok1 la (takeS id F1)
  gT : Ok1 la (takeS id T1)
  hT : T1 = (if (takeS id T1).id = 0 then [] else [takeS id T1]) ++ takeL id T1
theorem takeS_cons {id : Int} {F : List Sn} {s : Sn} (h0 : id ≠ 0) (h : takeS id F = s) (hs : s.id = id) : F = s :: takeL id F := by
  cases F with
  | nil => rw [← h] at hs; exact absurd hs.symm h0
  | cons t F =>
    by_cases e : t.id = id
    · have e1 : takeS id (t :: F) = t := by simp [takeS, e]
      rw [e1] at h
      rw [← h]
      simp [takeL, e]
    · have e1 : takeS id (t :: F) = zs := by simp [takeS, e]
      rw [← h, e1] at hs
      exact absurd hs.symm h0
theorem takeL_none {id : Int} {T : List Sn} (h0 : id ≠ 0) (h : (takeS id T).id = 0) : takeL id T = T := by
  cases T with
  | nil => rfl
  | cons t T =>
    by_cases e : t.id = id
    · have e1 : takeS id (t :: T) = t := by simp [takeS, e]
      rw [e1] at h
      omega
    · simp [takeL, e]
theorem delta_next : ∀ (f : Nat) (F T : List Sn) (la m : Int), F.length + T.length ≤ f → Ris m F → Ris m T → 0 ≤ la → la ≤ m →
    (F = T ∧ deltaM f F T la = []) ∨ ∃ P F1 T1 id, Nxt f F T la m P F1 T1 id := by
  intro f
  induction f with
  | zero =>
    intro F T la m hl _ _ _ _
    have e1 : F = [] := List.length_eq_zero_iff.1 (by omega)
    have e2 : T = [] := List.length_eq_zero_iff.1 (by omega)
    left; rw [e1, e2]; exact ⟨rfl, rfl⟩
  | succ f ih =>
    intro F T la m hl hF hT h0 hm
    by_cases hn : F = [] ∧ T = []
    · left; rw [hn.1, hn.2]; exact ⟨rfl, deltaM_nil _ _⟩
    · obtain ⟨l1, l2, l3⟩ := lowId_le hF hT hn
      have hs := low_some hn
      have sh := take_shorter hn
      have rF := ris_take hF l2
      have rT := ris_take hT l3
      have st := deltaM_step (f := f) la hn
      generalize hid : lowId F T = id at l1 l2 l3 hs sh rF rT st
      have hid0 : id ≠ 0 := by omega
      have hle : id ≤ 1099511627776 := by
        rcases hs with e | e
        · have := takeS_cons hid0 rfl e
          rw [this] at hF
          have := hF.2.1; omega
        · have := takeS_cons hid0 rfl e
          rw [this] at hT
          have := hT.2.1; omega
      have oF : Ok1 la (takeS id F) := ok_take h0 (hF.mono hm)
      have oT : Ok1 la (takeS id T) := ok_take h0 (hT.mono hm)
      cases hq : eqS (takeS id F) (takeS id T) with
      | true =>
        have he := (eqS_iff _ _).1 hq
        have hi : (takeS id F).id = id := by rcases hs with e | e; exact e; rw [he]; exact e
        have cF := takeS_cons hid0 rfl hi
        have cT := takeS_cons (s := takeS id F) hid0 he.symm hi
        have eb : chgB la (takeS id F) (takeS id T) = [] := by unfold chgB; rw [hq]; rfl
        have el : chgL la (takeS id F) (takeS id T) = la := by unfold chgL; rw [hq]; rfl
        rw [eb, el, List.nil_append] at st
        rcases ih (takeL id F) (takeL id T) la id (by omega) rF rT h0 (by omega) with ⟨e, eb⟩ | ⟨P, F1, T1, id', hx⟩
        · left
          refine ⟨?_, by rw [st, eb]⟩
          rw [cF, cT, e]
        · right
          obtain ⟨f', hf', hb⟩ := hx.bits
          refine ⟨takeS id F :: P, F1, T1, id', by rw [List.cons_append, ← hx.eF]; exact cF, by rw [List.cons_append, ← hx.eT]; exact cT, fun s hs => ?_, hx.ge, by have := hx.lt; omega, hx.le, hx.ne, hx.some_, ⟨f', hf', by rw [st, hb]⟩, hx.rf, hx.rt, hx.gF, hx.gT, hx.hT⟩
          rcases List.mem_cons.1 hs with e | e
          · rw [e, hi]; exact hx.lt
          · exact hx.low s e
      | false =>
        right
        have el : chgL la (takeS id F) (takeS id T) = id := by
          unfold chgL
          rw [hq]
          simp only [Bool.false_eq_true, if_false]
          split
          · rename_i e
            rcases hs with e1 | e1
            · exact e1
            · omega
          · rename_i e
            rcases takeS_id (id := id) (F := T) with e1 | e1
            · exact e1
            · contradiction
        rw [el] at st
        refine ⟨[], F, T, id, rfl, rfl, by simp, l2, l1, hle, hq, hs, ⟨f, by omega, st⟩, rF, rT, oF, oT, ?_⟩
        rcases takeS_id (id := id) (F := T) with e1 | e1
        · rw [if_neg (by omega)]; exact takeS_cons hid0 rfl e1
        · rw [if_pos e1, takeL_none hid0 e1]; rfl
/-- Three numbers. -/
def vec3 (L : List Nat) (p : Nat) : Int × Int × Int := ((intM L p).2.1, (intM L (intM L p).2.2).2.1, (intM L (intM L (intM L p).2.2).2.2).2.1)
def vecE (L : List Nat) (p : Nat) : Bool := decide ((intM L p).1 ≠ 0) || decide ((intM L (intM L p).2.2).1 ≠ 0) || decide ((intM L (intM L (intM L p).2.2).2.2).1 ≠ 0)
def vecP (L : List Nat) (p : Nat) : Nat := (intM L (intM L (intM L p).2.2).2.2).2.2
theorem vec_at {L a c : List Nat} {x y z : Int} {p : Nat} (h : bitsOf L = a ++ vecB x y z ++ c) (hp : p = a.length) (hx : ¬ badInt x) (hy : ¬ badInt y) (hz : ¬ badInt z) : vec3 L p = (x, y, z) ∧ vecE L p = false ∧ vecP L p = (a ++ vecB x y z).length := by
  unfold vecB at h ⊢
  have h1 := iM_at (c := varB (codeM y) ++ varB (codeM z) ++ c) (by rw [h]; simp only [List.append_assoc]) hp hx
  have h2 := iM_at (a := a ++ varB (codeM x)) (c := varB (codeM z) ++ c) (p := (a ++ varB (codeM x)).length) (by rw [h]; simp only [List.append_assoc]) rfl hy
  have h3 := iM_at (a := a ++ varB (codeM x) ++ varB (codeM y)) (c := c) (p := (a ++ varB (codeM x) ++ varB (codeM y)).length) (by rw [h]; simp only [List.append_assoc]) rfl hz
  unfold vec3 vecE vecP
  rw [h1]
  simp only
  rw [h2]
  simp only
  rw [h3]
  refine ⟨rfl, rfl, ?_⟩
  simp only [List.append_assoc]
theorem wrap_far {a b : Int} (h : farB a = true) (k : farB b = true) : wrap64 (b + (a - b)) = a := by
  simp only [farB, Bool.not_eq_true', Bool.or_eq_false_iff, decide_eq_false_iff_not] at h k
  unfold wrap64; omega
end Go.Proofs.Ytedhdmahdioboaa
/- snap's reader: number, vec, plus: whichever bytes. -/
namespace Go.Proofs.Ytedhdmahdioboaa
open Go.ChangeShapes Go.WideShapes Go.ChangeAt Go.RowKit
set_option linter.unusedVariables false
set_option linter.unusedSimpArgs false

theorem RdAt.blt {w : World} {r : Nat} {a : Option Addr} {c : Nat} {L : List Nat} {p : Nat} (h : RdAt w r a c L p) {g o : Nat} (e : a = some ⟨g, o, none⟩) (hL : L ≠ []) : g < w.heap.size := by
  obtain ⟨g', o', e', hc⟩ := h.by_ 0 (by cases L with | nil => exact absurd rfl hL | cons x t => simp)
  rw [e] at e'; injection e' with e'; injection e' with e1 _ _
  rw [e1]; exact World.block_lt_of_cell? w _ hc
/-- A reader: its bits.Reader, whether something went wrong, whom it read last. -/
structure SR (w : World) (kr r : Nat) (a : Option Addr) (c : Nat) (L : List Nat) (bad : Bool) (la : Int) (p : Nat) : Prop where
  rd : RdAt w r a c L p
  at_ : ∃ er : Nat, bad = decide (er ≠ 0) ∧ w.heap[kr]? = some (.cells #[.pointer (some ⟨r, 0, none⟩), eN er, .int .i64 la] 212)
  hkr : kr ≠ r
  apart : ∀ g o, a = some ⟨g, o, none⟩ → L ≠ [] → g ≠ kr
section
variable {w w' : World} {kr r : Nat} {a : Option Addr} {c : Nat} {L : List Nat} {bad : Bool} {la : Int} {p q : Nat}
theorem SR.lt (h : SR w kr r a c L bad la p) : kr < w.heap.size := by
  obtain ⟨er, _, h1⟩ := h.at_
  exact (Array.getElem?_eq_some_iff.1 h1).1
theorem SR.c0 (h : SR w kr r a c L bad la p) : w.cell? ⟨kr, 0, none⟩ = some (.pointer (some ⟨r, 0, none⟩)) := by
  obtain ⟨er, _, h1⟩ := h.at_
  simp [World.cell?, h1]
theorem SR.c2 (h : SR w kr r a c L bad la p) : w.cell? ⟨kr, 2, none⟩ = some (.int .i64 la) := by
  obtain ⟨er, _, h1⟩ := h.at_
  simp [World.cell?, h1]
theorem SR.free (h : SR w kr r a c L bad la p) (i : Nat) : w.frozen? ⟨kr, i, none⟩ = false := by
  obtain ⟨er, _, h1⟩ := h.at_
  simp [World.frozen?, h1]
theorem SR.er (h : SR w kr r a c L bad la p) : ∃ er : Nat, bad = decide (er ≠ 0) ∧ w.cell? ⟨kr, 1, none⟩ = some (eN er) := by
  obtain ⟨er, e, h1⟩ := h.at_
  exact ⟨er, e, by simp [World.cell?, h1]⟩
theorem SR.only (h : SR w kr r a c L bad la p) {D : List Nat} (o : Only D w w') (h1 : kr ∉ D) (h2 : r ∉ D) (s : ∀ g o, a = some ⟨g, o, none⟩ → L ≠ [] → g ∉ D) : SR w' kr r a c L bad la p := by
  obtain ⟨er, e, hc⟩ := h.at_
  exact ⟨h.rd.only o h2 s, ⟨er, e, (o.block kr h.lt h1).trans hc⟩, h.hkr, h.apart⟩
theorem SR.keep (h : SR w kr r a c L bad la p) (o : Only [] w w') : SR w' kr r a c L bad la p := h.only o (by simp) (by simp) (by simp)
theorem SR.read (h : SR w kr r a c L bad la p) (hr : RdAt w' r a c L q) (o : Only [r] w w') : SR w' kr r a c L bad la q := by
  obtain ⟨er, e, hc⟩ := h.at_
  exact ⟨hr, ⟨er, e, (o.block kr h.lt (by simpa using h.hkr)).trans hc⟩, h.hkr, h.apart⟩
theorem SR.put (h : SR w kr r a c L bad la p) (er : Nat) : SR (w.setCell ⟨kr, 1, none⟩ (eN er)) kr r a c L (decide (er ≠ 0)) la p := by
  obtain ⟨e0, _, hc⟩ := h.at_
  have o : Only [kr] w (w.setCell ⟨kr, 1, none⟩ (eN er)) := (Only.refl _ _).setCell (p := ⟨kr, 1, none⟩) (Or.inl (by simp)) _
  refine ⟨h.rd.only o (by simp; exact fun e => h.hkr e.symm) (fun g p e hL => by simpa using h.apart g p e hL), ⟨er, rfl, ?_⟩, h.hkr, h.apart⟩
  rw [heap_put hc]; rfl
theorem SR.putLast (h : SR w kr r a c L bad la p) (n : Int) : SR (w.setCell ⟨kr, 2, none⟩ (.int .i64 n)) kr r a c L bad n p := by
  obtain ⟨e0, e, hc⟩ := h.at_
  have o : Only [kr] w (w.setCell ⟨kr, 2, none⟩ (.int .i64 n)) := (Only.refl _ _).setCell (p := ⟨kr, 2, none⟩) (Or.inl (by simp)) _
  refine ⟨h.rd.only o (by simp; exact fun e => h.hkr e.symm) (fun g p e hL => by simpa using h.apart g p e hL), ⟨e0, e, ?_⟩, h.hkr, h.apart⟩
  rw [heap_put hc]; rfl
end
theorem numberS_calls (kr r : Nat) (a : Option Addr) (c : Nat) (L : List Nat) (bad : Bool) (la : Int) (p : Nat) (n : Int) (er : Nat) (w : World) (h : SR w kr r a c L bad la p) :
    Calls Try.prog 141 #[.pointer (some ⟨kr, 0, none⟩), .int .i64 n, eN er] w fun e w' => e = .returned (.int .i64 n) ∧ SR w' kr r a c L (bad || decide (er ≠ 0)) la p ∧ Only [kr] w w' := by
  obtain ⟨e0, eb, hc⟩ := h.at_
  have HR : Hid (SR w kr r a c L bad la p) := h
  have f1 : w.frozen? ⟨kr, 1, none⟩ = false := by simp [World.frozen?, hc]
  by_cases h0 : e0 = 0
  · have eb' : bad = false := by rw [eb, h0]; rfl
    have c1 : w.cell? ⟨kr, 1, none⟩ = some .nilIface := by simp [World.cell?, hc, h0, eN]
    have HP : Hid (SR (w.setCell ⟨kr, 1, none⟩ (eN er)) kr r a c L (bad || decide (er ≠ 0)) la p ∧ Only [kr] w (w.setCell ⟨kr, 1, none⟩ (eN er))) := ⟨by rw [eb', Bool.false_or]; exact h.put er, (Only.refl _ _).setCell (p := ⟨kr, 1, none⟩) (Or.inl (by simp)) _⟩
    clear hc h eb h0 eb'
    by_cases h1 : er = 0
    · rw [h1, eN_zero] at HP ⊢
      go_enter Try.func141, Try.ntmps141
      go_wp2_with fail
      go_ret
      exact ⟨rfl, HP.out.1, HP.out.2⟩
    · rw [eN_pos h1] at HP ⊢
      clear h1
      go_enter Try.func141, Try.ntmps141
      go_wp2_with fail
      go_ret
      exact ⟨rfl, HP.out.1, HP.out.2⟩
  · have c1 : w.cell? ⟨kr, 1, none⟩ = some (.iface 62 (.int .i64 ((e0 : Int)))) := by simp [World.cell?, hc, eN_pos h0]
    have HB : Hid ((bad || decide (er ≠ 0)) = bad) := by show _ = _; rw [eb]; simp [h0]
    clear hc h eb h0
    generalize eN er = ev
    go_enter Try.func141, Try.ntmps141
    go_wp2_with fail
    go_ret
    exact ⟨rfl, by rw [HB.out]; exact HR.out, Only.refl _ _⟩
theorem only_put3 {w : World} (k o : Nat) (x y z : Value) : Only [k] w (((w.setCell ⟨k, o, none⟩ x).setCell ⟨k, o + 1, none⟩ y).setCell ⟨k, o + 2, none⟩ z) :=
  ((((Only.refl [k] w).setCell (p := ⟨k, o, none⟩) (Or.inl (by simp)) _).setCell (p := ⟨k, o + 1, none⟩) (Or.inl (by simp)) _).setCell (p := ⟨k, o + 2, none⟩) (Or.inl (by simp)) _)
theorem World_lt {w : World} {b : Nat} {o : Obj} (h : w.heap[b]? = some o) : b < w.heap.size := (Array.getElem?_eq_some_iff.1 h).1
/-- Behind a read and its being kept. -/
theorem SR.pair {w w2 w3 : World} {kr r : Nat} {D : List Nat} (o2 : Only [r] w w2) (o3 : Only [kr] w2 w3) : Only [kr, r] w w3 := (o2.mono (by simp)).trans (o3.mono (by simp))
set_option maxRecDepth 100000 in
theorem vecS2_calls (kr r : Nat) (a : Option Addr) (c : Nat) (L : List Nat) (bad : Bool) (la : Int) (p : Nat) (w : World) (h : SR w kr r a c L bad la p) :
    Calls Try.prog 157 #[.pointer (some ⟨kr, 0, none⟩)] w fun e w' => e = .returned (.agg #[.int .i64 ((vec3 L p).1), .int .i64 ((vec3 L p).2.1), .int .i64 ((vec3 L p).2.2)]) ∧ SR w' kr r a c L (bad || vecE L p) la (vecP L p) ∧ Only [kr, r] w w' := by
  obtain ⟨q1, hq1⟩ : ∃ q, q = intM L p := ⟨_, rfl⟩
  obtain ⟨q2, hq2⟩ : ∃ q, q = intM L q1.2.2 := ⟨_, rfl⟩
  obtain ⟨q3, hq3⟩ : ∃ q, q = intM L q2.2.2 := ⟨_, rfl⟩
  have HQ : Hid (vec3 L p = (q1.2.1, q2.2.1, q3.2.1) ∧ vecE L p = (decide (q1.1 ≠ 0) || decide (q2.1 ≠ 0) || decide (q3.1 ≠ 0)) ∧ vecP L p = q3.2.2) := by
    unfold vec3 vecE vecP
    rw [hq3, hq2, hq1]
    exact ⟨rfl, rfl, rfl⟩
  rw [HQ.out.1, HQ.out.2.1, HQ.out.2.2]
  have HI : Hid (q1 = intM L p ∧ q2 = intM L q1.2.2 ∧ q3 = intM L q2.2.2) := ⟨hq1, hq2, hq3⟩
  have HB : Hid (SR w kr r a c L bad la p) := h
  clear h hq1 hq2 hq3 HQ
  go_enter Try.func157, Try.ntmps157
  go_upto_region 1 with fail
  have HA : Hid (SR (w.alloc (.cells #[.int .i64 0, .int .i64 0, .int .i64 0] 27)) kr r a c L bad la p ∧ Only [] w (w.alloc (.cells #[.int .i64 0, .int .i64 0, .int .i64 0] 27)) ∧ (w.alloc (.cells #[.int .i64 0, .int .i64 0, .int .i64 0] 27)).heap[w.heap.size]? = some (.cells #[.int .i64 0, .int .i64 0, .int .i64 0] 27) ∧ (w.heap.size ≠ kr ∧ w.heap.size ≠ r) ∧ ∀ g o, a = some ⟨g, o, none⟩ → L ≠ [] → g ≠ w.heap.size) := by
    have o : Only [] w (w.alloc (.cells #[.int .i64 0, .int .i64 0, .int .i64 0] 27)) := (Only.refl [] w).alloc _
    exact ⟨HB.out.keep o, o, (MapKept.heap_alloc w _).1, ⟨fun e => by have := HB.out.lt; omega, fun e => by have := HB.out.rd.lt; omega⟩, fun g o e hL => by have := HB.out.rd.blt e hL; omega⟩
  have HN : Hid (w.heap.size ≤ w.heap.size) := Nat.le_refl _
  clear HB
  revert HA HN
  generalize hk : w.heap.size = kv
  have HK : Hid (w.heap.size = kv) := hk
  clear hk
  generalize World.alloc w _ = w0
  intro HA HN
  have H0 : Hid (SR w0 kr r a c L bad la p) := HA.out.1
  have c0 := H0.out.c0
  go_wp2_with fail
  refine (rint_calls r a c L p _ H0.out.rd).mono ?_
  rw [← HI.out.1]
  rintro e w1 ⟨rfl, h2, o2⟩
  rw [show (if ((q1.1 : Nat) : Int) = 0 then Value.nilIface else errV ((q1.1 : Nat) : Int)) = eN q1.1 from rfl]
  have H1 : Hid (SR w1 kr r a c L bad la q1.2.2 ∧ Only [r] w0 w1) := ⟨H0.out.read h2 o2, o2⟩
  clear h2 o2 H0 c0
  go_wp2_with fail
  refine (numberS_calls kr r a c L _ la q1.2.2 q1.2.1 q1.1 w1 H1.out.1).mono ?_
  rintro e w2 ⟨rfl, h3, o3⟩
  have H2 : Hid (SR w2 kr r a c L (bad || decide (q1.1 ≠ 0)) la q1.2.2 ∧ Only [kr, r] w0 w2) := ⟨h3, SR.pair (D := []) H1.out.2 o3⟩
  have c0 := h3.c0
  clear h3 o3 H1
  go_wp2_with fail
  refine (rint_calls r a c L _ _ H2.out.1.rd).mono ?_
  rw [← HI.out.2.1]
  rintro e w3 ⟨rfl, h2, o2⟩
  rw [show (if ((q2.1 : Nat) : Int) = 0 then Value.nilIface else errV ((q2.1 : Nat) : Int)) = eN q2.1 from rfl]
  have H3 : Hid (SR w3 kr r a c L (bad || decide (q1.1 ≠ 0)) la q2.2.2 ∧ Only [kr, r] w0 w3) := ⟨H2.out.1.read h2 o2, H2.out.2.trans (o2.mono (by simp))⟩
  clear h2 o2 H2 c0
  go_wp2_with fail
  refine (numberS_calls kr r a c L _ la q2.2.2 q2.2.1 q2.1 w3 H3.out.1).mono ?_
  rintro e w4 ⟨rfl, h3, o3⟩
  have H4 : Hid (SR w4 kr r a c L (bad || decide (q1.1 ≠ 0) || decide (q2.1 ≠ 0)) la q2.2.2 ∧ Only [kr, r] w0 w4) := ⟨h3, H3.out.2.trans (o3.mono (by simp))⟩
  have c0 := h3.c0
  clear h3 o3 H3
  go_wp2_with fail
  refine (rint_calls r a c L _ _ H4.out.1.rd).mono ?_
  rw [← HI.out.2.2]
  rintro e w5 ⟨rfl, h2, o2⟩
  rw [show (if ((q3.1 : Nat) : Int) = 0 then Value.nilIface else errV ((q3.1 : Nat) : Int)) = eN q3.1 from rfl]
  have H5 : Hid (SR w5 kr r a c L (bad || decide (q1.1 ≠ 0) || decide (q2.1 ≠ 0)) la q3.2.2 ∧ Only [kr, r] w0 w5) := ⟨H4.out.1.read h2 o2, H4.out.2.trans (o2.mono (by simp))⟩
  clear h2 o2 H4 c0
  go_wp2_with fail
  refine (numberS_calls kr r a c L _ la q3.2.2 q3.2.1 q3.1 w5 H5.out.1).mono ?_
  rintro e w6 ⟨rfl, h3, o3⟩
  have H6 : Hid (SR w6 kr r a c L (bad || (decide (q1.1 ≠ 0) || decide (q2.1 ≠ 0) || decide (q3.1 ≠ 0))) la q3.2.2 ∧ Only [kr, r] w0 w6) := ⟨by rw [← Bool.or_assoc, ← Bool.or_assoc]; exact h3, H5.out.2.trans (o3.mono (by simp))⟩
  clear h3 o3 H5
  have hc := (H6.out.2.block kv (World_lt HA.out.2.2.1) (by simp; exact HA.out.2.2.2.1)).trans HA.out.2.2.1
  have z0 : w6.cell? ⟨kv, 0, none⟩ = some (.int .i64 0) := by simp [World.cell?, hc]
  have z1 : w6.cell? ⟨kv, 1, none⟩ = some (.int .i64 0) := by simp [World.cell?, hc]
  have z2 : w6.cell? ⟨kv, 2, none⟩ = some (.int .i64 0) := by simp [World.cell?, hc]
  have y0 : w6.frozen? ⟨kv, 0, none⟩ = false := by simp [World.frozen?, hc]
  have y1 : w6.frozen? ⟨kv, 1, none⟩ = false := by simp [World.frozen?, hc]
  have y2 : w6.frozen? ⟨kv, 2, none⟩ = false := by simp [World.frozen?, hc]
  clear hc
  go_wp2_with fail
  obtain ⟨e0, e1, e2⟩ := set3_of (v0 := .int .i64 (q1.2.1)) (v1 := .int .i64 (q2.2.1)) (v2 := .int .i64 (q3.2.1)) z0 z1 z2
  exact bodyPost_ret (v := .agg #[.int .i64 (q1.2.1), .int .i64 (q2.2.1), .int .i64 (q3.2.1)]) (by simp [results, Try.results157, go_sem, e0, e1, e2]) rfl ⟨rfl, H6.out.1.only (only_put3 kv 0 _ _ _) (by simp; exact fun e => HA.out.2.2.2.1.1 e.symm) (by simp; exact fun e => HA.out.2.2.2.1.2 e.symm) (fun g o e hL => by simp; exact HA.out.2.2.2.2 g o e hL), ((HA.out.2.1.mono (by simp)).trans H6.out.2).then (only_put3 kv 0 _ _ _) (fun y hy => by rw [List.mem_singleton.1 hy]; exact Or.inr (by rw [HK.out]; exact Nat.le_refl _))⟩
end Go.Proofs.Ytedhdmahdioboaa
/- (*snap.reader).seen: one that came or changed: whichever bytes. -/
namespace Go.Proofs.Ytedhdmahdioboaa
open Go.ChangeShapes Go.WideShapes Go.ChangeAt Go.RowKit
set_option linter.unusedVariables false
set_option linter.unusedSimpArgs false

theorem plus_calls (a b c x y z : Int) (w : World) :
    Calls Try.prog 156 #[.agg #[.int .i64 a, .int .i64 b, .int .i64 c], .agg #[.int .i64 x, .int .i64 y, .int .i64 z]] w fun e w' => e = .returned (.agg #[.int .i64 (wrap64 (a + x)), .int .i64 (wrap64 (b + y)), .int .i64 (wrap64 (c + z))]) ∧ Only [] w w' := by
  go_enter Try.func156, Try.ntmps156
  go_wp2
  exact bodyPost_ret (v := .agg #[.int .i64 (wrap64 (a + x)), .int .i64 (wrap64 (b + y)), .int .i64 (wrap64 (c + z))]) (by simp [results, Try.results156, go_sem]) rfl ⟨rfl, (((Only.refl [] w).alloc _).alloc _).alloc _⟩
/-- What is read of one: its kind, its size, its place, its speed. -/
def rKd (L : List Nat) (x : Sn × Bool × Nat) : Sn × Bool × Nat := ({ x.1 with kd := (getM L x.2.2 3).2.1 }, x.2.1 || decide ((getM L x.2.2 3).1 ≠ 0), (getM L x.2.2 3).2.2)
def rS (L : List Nat) (u : Sn) (x : Sn × Bool × Nat) : Sn × Bool × Nat := ({ x.1 with sx := wrap64 (u.sx + (vec3 L x.2.2).1), sy := wrap64 (u.sy + (vec3 L x.2.2).2.1), sz := wrap64 (u.sz + (vec3 L x.2.2).2.2) }, x.2.1 || vecE L x.2.2, vecP L x.2.2)
def rA (L : List Nat) (u : Sn) (x : Sn × Bool × Nat) : Sn × Bool × Nat := ({ x.1 with ax := wrap64 (u.ax + (vec3 L x.2.2).1), ay := wrap64 (u.ay + (vec3 L x.2.2).2.1), az := wrap64 (u.az + (vec3 L x.2.2).2.2) }, x.2.1 || vecE L x.2.2, vecP L x.2.2)
def rV (L : List Nat) (u : Sn) (x : Sn × Bool × Nat) : Sn × Bool × Nat := ({ x.1 with vx := wrap64 (u.vx + (vec3 L x.2.2).1), vy := wrap64 (u.vy + (vec3 L x.2.2).2.1), vz := wrap64 (u.vz + (vec3 L x.2.2).2.2) }, x.2.1 || vecE L x.2.2, vecP L x.2.2)
def seen1 (L : List Nat) (a : Bool) (u : Sn) (x : Sn × Bool × Nat) : Sn × Bool × Nat := if a then rS L u (rKd L x) else x
def seen2 (L : List Nat) (b : Bool) (u : Sn) (x : Sn × Bool × Nat) : Sn × Bool × Nat := if b then rA L u x else x
def seen3 (L : List Nat) (c : Bool) (u : Sn) (x : Sn × Bool × Nat) : Sn × Bool × Nat := if c then rV L u x else x
def seenM (L : List Nat) (a b c : Bool) (id : Int) (u : Sn) (bad : Bool) (p : Nat) : Sn × Bool × Nat := seen3 L c u (seen2 L b u (seen1 L a u ({ u with id := id }, bad, p)))
theorem get3 (L : List Nat) (p : Nat) : ∃ a b c, (getM L p 3).2.1 = pN a b c := by
  have h : ∃ n : Nat, n < 8 ∧ (getM L p 3).2.1 = (n : Int) := by
    unfold getM
    rw [if_neg (by simp)]
    split
    · exact ⟨0, by omega, rfl⟩
    · refine ⟨_, ?_, rfl⟩
      have hb : Bits (((bitsOf L).drop p).take (3 : Int).toNat) := fun b hb => bitsOf_bits L b (List.mem_of_mem_drop (List.mem_of_mem_take hb))
      have := valB_lt hb
      have hl : (((bitsOf L).drop p).take (3 : Int).toNat).length ≤ 3 := by rw [List.length_take]; exact Nat.min_le_left _ _
      exact Nat.lt_of_lt_of_le this (Nat.pow_le_pow_right (by omega) hl)
  obtain ⟨n, hn, e⟩ := h
  rw [e]
  rcases (show n = 0 ∨ n = 1 ∨ n = 2 ∨ n = 3 ∨ n = 4 ∨ n = 5 ∨ n = 6 ∨ n = 7 by omega) with rfl | rfl | rfl | rfl | rfl | rfl | rfl | rfl
  · exact ⟨false, false, false, rfl⟩
  · exact ⟨false, false, true, rfl⟩
  · exact ⟨false, true, false, rfl⟩
  · exact ⟨false, true, true, rfl⟩
  · exact ⟨true, false, false, rfl⟩
  · exact ⟨true, false, true, rfl⟩
  · exact ⟨true, true, false, rfl⟩
  · exact ⟨true, true, true, rfl⟩
/-- While one is read. -/
structure SeS (w : World) (kr r : Nat) (a : Option Addr) (c : Nat) (L : List Nat) (la : Int) (k7 k8 k10 : Nat) (u : Sn) (x : Sn × Bool × Nat) (wr : World) : Prop where
  sr : SR wr kr r a c L x.2.1 la x.2.2
  a7 : SnAt 120 wr k7 u
  a8 : SnAt 120 wr k8 zs
  a10 : SnAt 120 wr k10 x.1
  only : Only [kr, r] w wr
  n : w.heap.size ≤ k7 ∧ w.heap.size ≤ k8 ∧ w.heap.size ≤ k10
  d : k7 ≠ k10 ∧ k8 ≠ k10 ∧ k7 ≠ k8
  old : kr < w.heap.size ∧ r < w.heap.size ∧ ∀ g o, a = some ⟨g, o, none⟩ → L ≠ [] → g < w.heap.size
section
variable {w : World} {kr r : Nat} {a : Option Addr} {c : Nat} {L : List Nat} {la : Int} {k7 k8 k10 : Nat} {u : Sn} {x : Sn × Bool × Nat} {wr w' : World}
theorem SeS.read {bad : Bool} {p : Nat} (h : SeS w kr r a c L la k7 k8 k10 u x wr) (s : SR w' kr r a c L bad la p) (o : Only [kr, r] wr w') : SeS w kr r a c L la k7 k8 k10 u (x.1, bad, p) w' := by
  obtain ⟨n1, n2, n3⟩ := h.n
  obtain ⟨o1, o2, _⟩ := h.old
  exact ⟨s, h.a7.only o (by simp; omega), h.a8.only o (by simp; omega), h.a10.only o (by simp; omega), h.only.trans o, h.n, h.d, h.old⟩
theorem SeS.keep (h : SeS w kr r a c L la k7 k8 k10 u x wr) (o : Only [] wr w') : SeS w kr r a c L la k7 k8 k10 u x w' :=
  ⟨h.sr.keep o, h.a7.only o (by simp), h.a8.only o (by simp), h.a10.only o (by simp), h.only.then o (by simp), h.n, h.d, h.old⟩
theorem SeS.put {s : Sn} (h : SeS w kr r a c L la k7 k8 k10 u x wr) (hs : SnAt 120 w' k10 s) (o : Only [k10] wr w') : SeS w kr r a c L la k7 k8 k10 u (s, x.2) w' := by
  obtain ⟨n1, n2, n3⟩ := h.n
  obtain ⟨o1, o2, o3⟩ := h.old
  obtain ⟨d1, d2, d3⟩ := h.d
  exact ⟨h.sr.only o (by simp; omega) (by simp; omega) (fun g p e hL => by have := o3 g p e hL; simp; omega), h.a7.only o (by simpa using d1), h.a8.only o (by simpa using d2), hs, h.only.then o (fun y hy => by rw [List.mem_singleton.1 hy]; exact Or.inr n3), h.n, h.d, h.old⟩
end
section
variable {T : TypeId} {w : World} {k : Nat} {q : Sn}
theorem SnAt.p1 (h : SnAt T w k q) (i : Nat) (v : Value) : (w.setCell ⟨k, i, none⟩ v).heap[k]? = some (.cells (#[.int .i64 (q.id), .int .i64 (q.kd), .int .i64 (q.sx), .int .i64 (q.sy), .int .i64 (q.sz), .int .i64 (q.ax), .int .i64 (q.ay), .int .i64 (q.az), .int .i64 (q.vx), .int .i64 (q.vy), .int .i64 (q.vz)].setIfInBounds i v) T) := heap_put h i v
theorem SnAt.put0 (h : SnAt T w k q) (n : Int) : SnAt T (w.setCell ⟨k, 0, none⟩ (.int .i64 n)) k { q with id := n } := by
  have h1 := h.p1 0 (.int .i64 n)
  simp only [List.setIfInBounds_toArray, List.set_cons_zero, List.set_cons_succ] at h1
  exact h1
theorem SnAt.put1 (h : SnAt T w k q) (n : Int) : SnAt T (w.setCell ⟨k, 1, none⟩ (.int .i64 n)) k { q with kd := n } := by
  have h1 := h.p1 1 (.int .i64 n)
  simp only [List.setIfInBounds_toArray, List.set_cons_zero, List.set_cons_succ] at h1
  exact h1
theorem SnAt.putS (h : SnAt T w k q) (x y z : Int) : SnAt T (((w.setCell ⟨k, 2, none⟩ (.int .i64 x)).setCell ⟨k, 3, none⟩ (.int .i64 y)).setCell ⟨k, 4, none⟩ (.int .i64 z)) k { q with sx := x, sy := y, sz := z } := by
  have h1 := heap_put (heap_put (heap_put h 2 (.int .i64 x)) 3 (.int .i64 y)) 4 (.int .i64 z)
  simp only [List.setIfInBounds_toArray, List.set_cons_zero, List.set_cons_succ] at h1
  exact h1
theorem SnAt.putA (h : SnAt T w k q) (x y z : Int) : SnAt T (((w.setCell ⟨k, 5, none⟩ (.int .i64 x)).setCell ⟨k, 6, none⟩ (.int .i64 y)).setCell ⟨k, 7, none⟩ (.int .i64 z)) k { q with ax := x, ay := y, az := z } := by
  have h1 := heap_put (heap_put (heap_put h 5 (.int .i64 x)) 6 (.int .i64 y)) 7 (.int .i64 z)
  simp only [List.setIfInBounds_toArray, List.set_cons_zero, List.set_cons_succ] at h1
  exact h1
theorem SnAt.putV (h : SnAt T w k q) (x y z : Int) : SnAt T (((w.setCell ⟨k, 8, none⟩ (.int .i64 x)).setCell ⟨k, 9, none⟩ (.int .i64 y)).setCell ⟨k, 10, none⟩ (.int .i64 z)) k { q with vx := x, vy := y, vz := z } := by
  have h1 := heap_put (heap_put (heap_put h 8 (.int .i64 x)) 9 (.int .i64 y)) 10 (.int .i64 z)
  simp only [List.setIfInBounds_toArray, List.set_cons_zero, List.set_cons_succ] at h1
  exact h1
end
/-- Which parts are told. -/
def PartsR (L : List Nat) (word : Int) (bad : Bool) (p : Nat) (A B C : Bool) (bad0 : Bool) (p0 : Nat) : Prop :=
  (word = 2 ∧ pN A B C = (getM L p 3).2.1 ∧ bad0 = (bad || decide ((getM L p 3).1 ≠ 0)) ∧ p0 = (getM L p 3).2.2) ∨ (word = 1 ∧ A = true ∧ B = true ∧ C = true ∧ bad0 = bad ∧ p0 = p)
def SeenPost (kr r : Nat) (a : Option Addr) (c : Nat) (L : List Nat) (bad : Bool) (la : Int) (p : Nat) (word id : Int) (u : Sn) (w : World) (e : Ending) (w' : World) : Prop :=
  ∃ A B C bad0 p0 s bad1 p1, PartsR L word bad p A B C bad0 p0 ∧ (s, bad1, p1) = seenM L A B C id u bad0 p0 ∧ e = .returned (.agg #[.int .i64 (s.id), .int .i64 (s.kd), .int .i64 (s.sx), .int .i64 (s.sy), .int .i64 (s.sz), .int .i64 (s.ax), .int .i64 (s.ay), .int .i64 (s.az), .int .i64 (s.vx), .int .i64 (s.vy), .int .i64 (s.vz)]) ∧ SR w' kr r a c L bad1 la p1 ∧ Only [kr, r] w w'
set_option maxRecDepth 100000 in
set_option maxHeartbeats 4000000 in
theorem seenS_calls (kr r : Nat) (a : Option Addr) (c : Nat) (L : List Nat) (bad : Bool) (la : Int) (p : Nat) (word id : Int) (u : Sn) (w : World) (h : SR w kr r a c L bad la p) (hw : word = 1 ∨ word = 2) :
    Calls Try.prog 146 #[.pointer (some ⟨kr, 0, none⟩), .int .i64 word, .int .i64 id, .agg #[.int .i64 (u.id), .int .i64 (u.kd), .int .i64 (u.sx), .int .i64 (u.sy), .int .i64 (u.sz), .int .i64 (u.ax), .int .i64 (u.ay), .int .i64 (u.az), .int .i64 (u.vx), .int .i64 (u.vy), .int .i64 (u.vz)]] w (SeenPost kr r a c L bad la p word id u w) := by
  have H0 : Hid (SR w kr r a c L bad la p) := h
  have HO : Hid (kr < w.heap.size ∧ r < w.heap.size ∧ ∀ g o, a = some ⟨g, o, none⟩ → L ≠ [] → g < w.heap.size) := ⟨h.lt, h.rd.lt, fun g o e hL => h.rd.blt e hL⟩
  clear h
  go_enter Try.func146, Try.ntmps146
  go_upto_region 1 with fail
  have H1 : Hid (SR ((w.alloc (.cells #[.int .i64 (u.id), .int .i64 (u.kd), .int .i64 (u.sx), .int .i64 (u.sy), .int .i64 (u.sz), .int .i64 (u.ax), .int .i64 (u.ay), .int .i64 (u.az), .int .i64 (u.vx), .int .i64 (u.vy), .int .i64 (u.vz)] 120)).alloc (.cells #[.int .i64 0, .int .i64 0, .int .i64 0, .int .i64 0, .int .i64 0, .int .i64 0, .int .i64 0, .int .i64 0, .int .i64 0, .int .i64 0, .int .i64 0] 120)) kr r a c L bad la p ∧ SnAt 120 ((w.alloc (.cells #[.int .i64 (u.id), .int .i64 (u.kd), .int .i64 (u.sx), .int .i64 (u.sy), .int .i64 (u.sz), .int .i64 (u.ax), .int .i64 (u.ay), .int .i64 (u.az), .int .i64 (u.vx), .int .i64 (u.vy), .int .i64 (u.vz)] 120)).alloc (.cells #[.int .i64 0, .int .i64 0, .int .i64 0, .int .i64 0, .int .i64 0, .int .i64 0, .int .i64 0, .int .i64 0, .int .i64 0, .int .i64 0, .int .i64 0] 120)) w.heap.size u ∧ SnAt 120 ((w.alloc (.cells #[.int .i64 (u.id), .int .i64 (u.kd), .int .i64 (u.sx), .int .i64 (u.sy), .int .i64 (u.sz), .int .i64 (u.ax), .int .i64 (u.ay), .int .i64 (u.az), .int .i64 (u.vx), .int .i64 (u.vy), .int .i64 (u.vz)] 120)).alloc (.cells #[.int .i64 0, .int .i64 0, .int .i64 0, .int .i64 0, .int .i64 0, .int .i64 0, .int .i64 0, .int .i64 0, .int .i64 0, .int .i64 0, .int .i64 0] 120)) (w.heap.size + 1) zs ∧ Only [] w ((w.alloc (.cells #[.int .i64 (u.id), .int .i64 (u.kd), .int .i64 (u.sx), .int .i64 (u.sy), .int .i64 (u.sz), .int .i64 (u.ax), .int .i64 (u.ay), .int .i64 (u.az), .int .i64 (u.vx), .int .i64 (u.vy), .int .i64 (u.vz)] 120)).alloc (.cells #[.int .i64 0, .int .i64 0, .int .i64 0, .int .i64 0, .int .i64 0, .int .i64 0, .int .i64 0, .int .i64 0, .int .i64 0, .int .i64 0, .int .i64 0] 120))) := by
    have o : Only [] w ((w.alloc (.cells #[.int .i64 (u.id), .int .i64 (u.kd), .int .i64 (u.sx), .int .i64 (u.sy), .int .i64 (u.sz), .int .i64 (u.ax), .int .i64 (u.ay), .int .i64 (u.az), .int .i64 (u.vx), .int .i64 (u.vy), .int .i64 (u.vz)] 120)).alloc (.cells #[.int .i64 0, .int .i64 0, .int .i64 0, .int .i64 0, .int .i64 0, .int .i64 0, .int .i64 0, .int .i64 0, .int .i64 0, .int .i64 0, .int .i64 0] 120)) := ((Only.refl [] w).alloc _).alloc _
    refine ⟨H0.out.keep o, (SnAt.new _ w u).only (D := []) ((Only.refl _ _).alloc _) (by simp), ?_, o⟩
    have := zs_new (w.alloc (.cells #[.int .i64 (u.id), .int .i64 (u.kd), .int .i64 (u.sx), .int .i64 (u.sy), .int .i64 (u.sz), .int .i64 (u.ax), .int .i64 (u.ay), .int .i64 (u.az), .int .i64 (u.vx), .int .i64 (u.vy), .int .i64 (u.vz)] 120))
    simpa using this
  have HS : Hid (w.heap.size + 1 < ((w.alloc (.cells #[.int .i64 (u.id), .int .i64 (u.kd), .int .i64 (u.sx), .int .i64 (u.sy), .int .i64 (u.sz), .int .i64 (u.ax), .int .i64 (u.ay), .int .i64 (u.az), .int .i64 (u.vx), .int .i64 (u.vy), .int .i64 (u.vz)] 120)).alloc (.cells #[.int .i64 0, .int .i64 0, .int .i64 0, .int .i64 0, .int .i64 0, .int .i64 0, .int .i64 0, .int .i64 0, .int .i64 0, .int .i64 0, .int .i64 0] 120)).heap.size) := by show _ < _; simp
  clear H0
  revert H1 HS
  obtain ⟨k8, hk8⟩ : ∃ k8, w.heap.size + 1 = k8 := ⟨_, rfl⟩
  rw [hk8]
  obtain ⟨k7, hk7⟩ : ∃ k7, w.heap.size = k7 := ⟨_, rfl⟩
  have HK : Hid (w.heap.size = k7 ∧ w.heap.size + 1 = k8) := ⟨hk7, hk8⟩
  have HO2 := HO
  rw [hk7]
  clear hk7 hk8
  generalize World.alloc (World.alloc w _) _ = w1
  intro H1 HS
  go_upto_if 12 with fail
  go_cut [9] from 11 (fun s9 wc => ∃ A B C bad0 p0, s9 = .int .i64 (pN A B C) ∧ Hid (PartsR L word bad p A B C bad0 p0 ∧ SR wc kr r a c L bad0 la p0 ∧ SnAt 120 wc k7 u ∧ SnAt 120 wc k8 zs ∧ Only [kr, r] w wc ∧ w1.heap.size ≤ wc.heap.size))
  case first =>
    rcases hw with rfl | rfl
    · go_wp2_with fail
      go_meet
      case rel => exact ⟨true, true, true, bad, p, rfl, Or.inr ⟨rfl, rfl, rfl, rfl, rfl, rfl⟩, H1.out.1, H1.out.2.1, H1.out.2.2.1, H1.out.2.2.2.mono (by simp), Nat.le_refl _⟩
    · have c0 := H1.out.1.c0
      obtain ⟨g, hg⟩ : ∃ g, g = getM L p 3 := ⟨_, rfl⟩
      have HG : Hid (g = getM L p 3) := hg
      go_wp2_with fail
      refine (get_getM r a c L p 3 _ H1.out.1.rd).mono ?_
      rw [← hg]
      rintro e w2 ⟨rfl, h2, o2⟩
      rw [show (if ((g.1 : Nat) : Int) = 0 then Value.nilIface else errV ((g.1 : Nat) : Int)) = eN g.1 from rfl]
      have H2 : Hid (SR w2 kr r a c L bad la g.2.2 ∧ Only [r] w1 w2) := ⟨H1.out.1.read h2 o2, o2⟩
      clear h2 o2 hg c0
      go_wp2_with fail
      refine (numberS_calls kr r a c L _ la g.2.2 g.2.1 g.1 w2 H2.out.1).mono ?_
      rintro e w3 ⟨rfl, h3, o3⟩
      obtain ⟨A, B, C, hN⟩ := get3 L p
      rw [← HG.out] at hN
      rw [hN]
      have o4 : Only [kr, r] w1 w3 := SR.pair (D := []) H2.out.2 o3
      have H3 : Hid (PartsR L 2 bad p A B C (bad || decide (g.1 ≠ 0)) g.2.2 ∧ SR w3 kr r a c L (bad || decide (g.1 ≠ 0)) la g.2.2 ∧ SnAt 120 w3 k7 u ∧ SnAt 120 w3 k8 zs ∧ Only [kr, r] w w3 ∧ w1.heap.size ≤ w3.heap.size) :=
        ⟨Or.inl ⟨rfl, by rw [← hN, ← HG.out], by rw [← HG.out], by rw [← HG.out]⟩, h3, H1.out.2.1.only o4 (by have := HK.out; have := HO.out; simp; omega), H1.out.2.2.1.only o4 (by have := HK.out; have := HO.out; simp; omega), (H1.out.2.2.2.mono (by simp)).trans o4, o4.size⟩
      clear h3 o3 o4 hN H2
      go_wp2_with fail
      go_meet
      case rel => exact ⟨A, B, C, _, _, by rfl, H3⟩
  case rest =>
    obtain ⟨A, B, C, bad0, p0, rfl, H2⟩ := hcut
    clear H1
    have n4 : (Go.bits .and .i64 (pN A B C) 4 != 0) = A := by cases A <;> cases B <;> cases C <;> rfl
    have n2 : (Go.bits .and .i64 (pN A B C) 2 != 0) = B := by cases A <;> cases B <;> cases C <;> rfl
    have n1 : (Go.bits .and .i64 (pN A B C) 1 != 0) = C := by cases A <;> cases B <;> cases C <;> rfl
    generalize pN A B C = pn at n4 n2 n1 ⊢
    generalize wc = w2 at H2 ⊢
    have z0 := H2.out.2.2.1.off 0
    have z1 := H2.out.2.2.1.off 1
    have z2 := H2.out.2.2.1.off 2
    have z3 := H2.out.2.2.1.off 3
    have z4 := H2.out.2.2.1.off 4
    have z5 := H2.out.2.2.1.off 5
    have z6 := H2.out.2.2.1.off 6
    have z7 := H2.out.2.2.1.off 7
    have z8 := H2.out.2.2.1.off 8
    have z9 := H2.out.2.2.1.off 9
    have z10 := H2.out.2.2.1.off 10
    simp only [List.getElem?_toArray, List.getElem?_cons_succ, List.getElem?_cons_zero] at z0 z1 z2 z3 z4 z5 z6 z7 z8 z9 z10
    go_upto_region 6 with fail
    have H3 : Hid (SeS w kr r a c L la k7 k8 w2.heap.size u ({ u with id := id }, bad0, p0) (w2.alloc (.cells #[.int .i64 id, .int .i64 (u.kd), .int .i64 (u.sx), .int .i64 (u.sy), .int .i64 (u.sz), .int .i64 (u.ax), .int .i64 (u.ay), .int .i64 (u.az), .int .i64 (u.vx), .int .i64 (u.vy), .int .i64 (u.vz)] 120))) := by
      have o : Only [] w2 (w2.alloc (.cells #[.int .i64 id, .int .i64 (u.kd), .int .i64 (u.sx), .int .i64 (u.sy), .int .i64 (u.sz), .int .i64 (u.ax), .int .i64 (u.ay), .int .i64 (u.az), .int .i64 (u.vx), .int .i64 (u.vy), .int .i64 (u.vz)] 120)) := (Only.refl [] w2).alloc _
      have b7 := H2.out.2.2.1.lt
      have b8 := H2.out.2.2.2.1.lt
      have hk := HK.out
      exact ⟨H2.out.2.1.keep o, H2.out.2.2.1.only o (by simp), H2.out.2.2.2.1.only o (by simp), SnAt.new _ w2 { u with id := id }, H2.out.2.2.2.2.1.then o (by simp), ⟨by omega, by omega, by omega⟩, ⟨by omega, by omega, by omega⟩, HO.out⟩
    have HP : Hid (PartsR L word bad p A B C bad0 p0) := H2.out.1
    clear H2 z0 z1 z2 z3 z4 z5 z6 z7 z8 z9 z10
    revert H3
    generalize w2.heap.size = k10
    generalize World.alloc w2 _ = w3
    intro H3
    go_upto_if 27 with fail
    go_cut [9] from 11 (fun s9 wc => s9 = .int .i64 pn ∧ Hid (SeS w kr r a c L la k7 k8 k10 u (seen1 L A u ({ u with id := id }, bad0, p0)) wc))
    case first =>
      cases A with
      | false =>
        go_wp2_with fail
        go_meet
        case rel => exact ⟨rfl, H3⟩
      | true =>
        have c0 := H3.out.sr.c0
        obtain ⟨g, hg⟩ : ∃ g, g = getM L p0 3 := ⟨_, rfl⟩
        have HG : Hid (g = getM L p0 3) := hg
        go_wp2_with fail
        refine (get_getM r a c L p0 3 _ H3.out.sr.rd).mono ?_
        rw [← hg]
        rintro e w4 ⟨rfl, h2, o2⟩
        rw [show (if ((g.1 : Nat) : Int) = 0 then Value.nilIface else errV ((g.1 : Nat) : Int)) = eN g.1 from rfl]
        have H4 : Hid (SR w4 kr r a c L bad0 la g.2.2 ∧ Only [r] w3 w4) := ⟨H3.out.sr.read h2 o2, o2⟩
        clear h2 o2 hg c0
        go_wp2_with fail
        refine (numberS_calls kr r a c L _ la g.2.2 g.2.1 g.1 w4 H4.out.1).mono ?_
        rintro e w5 ⟨rfl, h3, o3⟩
        have H5 : Hid (SeS w kr r a c L la k7 k8 k10 u ({ u with id := id }, bad0 || decide (g.1 ≠ 0), g.2.2) w5) := H3.out.read h3 (SR.pair (D := []) H4.out.2 o3)
        clear h3 o3 H4
        have c1 := H5.out.a10.off 1; have y1 := H5.out.a10.free 1
        simp only [List.getElem?_toArray, List.getElem?_cons_succ, List.getElem?_cons_zero] at c1
        go_upto_region 8 with fail
        have H6 : Hid (SeS w kr r a c L la k7 k8 k10 u (rKd L ({ u with id := id }, bad0, p0)) (w5.setCell ⟨k10, 1, none⟩ (.int .i64 (g.2.1)))) := by
          have h6 := H5.out.put (H5.out.a10.put1 g.2.1) ((Only.refl [k10] w5).setCell (p := ⟨k10, 1, none⟩) (Or.inl (by simp)) _)
          unfold rKd
          rw [← HG.out]
          exact h6
        clear H5 c1 y1
        generalize w5.setCell ⟨k10, 1, none⟩ (.int .i64 (g.2.1)) = w6 at H6 ⊢
        obtain ⟨x1, hx1⟩ : ∃ x1, x1 = rKd L ({ u with id := id }, bad0, p0) := ⟨_, rfl⟩
        rw [← hx1] at H6
        have HX1 : Hid (x1 = rKd L ({ u with id := id }, bad0, p0)) := hx1
        clear hx1
        have e2 := H6.out.a7.off 2
        have e3 := H6.out.a7.off 3
        have e4 := H6.out.a7.off 4
        simp only [List.getElem?_toArray, List.getElem?_cons_succ, List.getElem?_cons_zero] at e2 e3 e4
        have h7 : k7 ∉ [kr, r] := by have h1 := H6.out.n; have h2 := H6.out.old; simp; omega
        have h7k : k7 ∉ [k10] := by have h1 := H6.out.d; simp; omega
        refine wp_region_held_drew (S := (fun w' => w'.cell? ⟨k7, 2, none⟩ = some (.int .i64 (u.sx)) ∧ w'.cell? ⟨k7, 3, none⟩ = some (.int .i64 (u.sy)) ∧ w'.cell? ⟨k7, 4, none⟩ = some (.int .i64 (u.sz)))) (by kernel_rfl) ?_ (fun hHeld1 => ?_)
        · (try dsimp only); exact ⟨e2, e3, e4⟩
        refine tkW 0 rfl ?_; refine tkW 1 rfl ?_; refine tkW 2 rfl ?_
        try simp only [Act.put, List.setIfInBounds_toArray, List.set_cons_zero, List.set_cons_succ, List.getElem_toArray, List.getElem_cons_succ, List.getElem_cons_zero]
        refine wpAnyH_ready (rs := [3]) (by kernel_rfl) (by simp) ?_
        refine AllReadyH.cons rfl (fun K hK => ?_) AllReadyH.nil
        first | (with_reducible refine iteYes ?hcx ?htx; case hcx => kernel_rfl) | rw [if_pos (by rfl)]
        simp only [List.getElem_toArray, List.getElem_cons_succ, List.getElem_cons_zero]
        go_simp
        (go_at_call 157; refine (vecS2_calls kr r a c L _ la _ _ (H6.out.sr.keep (Only.refl _ _).drew)).mono ?_; rintro e wv ⟨rfl, hs, ov⟩)
        try go_wp2_with fail
        refine hK.out _ _ ?_ (fun hHeld2 => ?_)
        · (try dsimp only); exact ⟨ov.cell (a := ⟨k7, 2, none⟩) (v := .int .i64 (u.sx)) e2 h7, ov.cell (a := ⟨k7, 3, none⟩) (v := .int .i64 (u.sy)) e3 h7, ov.cell (a := ⟨k7, 4, none⟩) (v := .int .i64 (u.sz)) e4 h7⟩
        clear hK K hHeld1
        try simp only [Act.put, List.setIfInBounds_toArray, List.set_cons_zero, List.set_cons_succ, List.getElem_toArray, List.getElem_cons_succ, List.getElem_cons_zero]
        have HV : Hid (SeS w kr r a c L la k7 k8 k10 u ((x1).1, (x1).2.1 || vecE L (x1).2.2, vecP L (x1).2.2) wv ∧ Only [kr, r] w6 wv) := ⟨(H6.out.keep (Only.refl _ _).drew).read hs ov, (Only.refl [kr, r] w6).drew.trans ov⟩
        clear hs ov
        refine wpAnyH_ready (rs := [4]) (by kernel_rfl) (by simp) ?_
        refine AllReadyH.cons rfl (fun K hK => ?_) AllReadyH.nil
        first | (with_reducible refine iteYes ?hcx ?htx; case hcx => kernel_rfl) | rw [if_pos (by rfl)]
        simp only [List.getElem_toArray, List.getElem_cons_succ, List.getElem_cons_zero]
        go_simp
        (go_at_call 156; refine (plus_calls u.sx u.sy u.sz _ _ _ _).mono ?_; rintro e wp ⟨rfl, op⟩)
        try go_wp2_with fail
        refine hK.out _ _ ?_ (fun hHeld3 => ?_)
        · (try dsimp only); exact ⟨(HV.out.2.trans (op.mono (by simp))).cell (a := ⟨k7, 2, none⟩) (v := .int .i64 (u.sx)) e2 h7, (HV.out.2.trans (op.mono (by simp))).cell (a := ⟨k7, 3, none⟩) (v := .int .i64 (u.sy)) e3 h7, (HV.out.2.trans (op.mono (by simp))).cell (a := ⟨k7, 4, none⟩) (v := .int .i64 (u.sz)) e4 h7⟩
        clear hK K hHeld2
        try simp only [Act.put, List.setIfInBounds_toArray, List.set_cons_zero, List.set_cons_succ, List.getElem_toArray, List.getElem_cons_succ, List.getElem_cons_zero]
        have HQ : Hid (SeS w kr r a c L la k7 k8 k10 u ((x1).1, (x1).2.1 || vecE L (x1).2.2, vecP L (x1).2.2) wp ∧ Only [kr, r] w6 wp) := ⟨HV.out.1.keep op, HV.out.2.trans (op.mono (by simp))⟩
        clear op HV
        have c2 := HQ.out.1.a10.off 2; have y2 := HQ.out.1.a10.free 2
        have c3 := HQ.out.1.a10.off 3; have y3 := HQ.out.1.a10.free 3
        have c4 := HQ.out.1.a10.off 4; have y4 := HQ.out.1.a10.free 4
        simp only [List.getElem?_toArray, List.getElem?_cons_succ, List.getElem?_cons_zero] at c2 c3 c4
        refine tkW 5 rfl ?_
        try simp only [Act.put, List.setIfInBounds_toArray, List.set_cons_zero, List.set_cons_succ, List.getElem_toArray, List.getElem_cons_succ, List.getElem_cons_zero]
        refine wpAnyH_ready (rs := [6]) (by kernel_rfl) (by simp) ?_
        refine AllReadyH.cons rfl (fun K hK => ?_) AllReadyH.nil
        first | (with_reducible refine iteYes ?hcx ?htx; case hcx => kernel_rfl) | rw [if_pos (by rfl)]
        simp only [List.getElem_toArray, List.getElem_cons_succ, List.getElem_cons_zero]
        go_simp
        refine hK.out _ _ ?_ (fun hHeld4 => ?_)
        · (try dsimp only); exact ⟨(only_put3 k10 2 _ _ _).cell (a := ⟨k7, 2, none⟩) (v := .int .i64 (u.sx)) (HQ.out.2.cell (a := ⟨k7, 2, none⟩) (v := .int .i64 (u.sx)) e2 h7) h7k, (only_put3 k10 2 _ _ _).cell (a := ⟨k7, 3, none⟩) (v := .int .i64 (u.sy)) (HQ.out.2.cell (a := ⟨k7, 3, none⟩) (v := .int .i64 (u.sy)) e3 h7) h7k, (only_put3 k10 2 _ _ _).cell (a := ⟨k7, 4, none⟩) (v := .int .i64 (u.sz)) (HQ.out.2.cell (a := ⟨k7, 4, none⟩) (v := .int .i64 (u.sz)) e4 h7) h7k⟩
        clear hK K
        try simp only [Act.put, List.setIfInBounds_toArray, List.set_cons_zero, List.set_cons_succ, List.getElem_toArray, List.getElem_cons_succ, List.getElem_cons_zero]
        refine wpAnyH_done (by kernel_rfl) ?_ _
        have HR : Hid (SeS w kr r a c L la k7 k8 k10 u (rS L u (x1)) (((wp.setCell ⟨k10, 2, none⟩ (.int .i64 (wrap64 (u.sx + (vec3 L (x1).2.2).1)))).setCell ⟨k10, 3, none⟩ (.int .i64 (wrap64 (u.sy + (vec3 L (x1).2.2).2.1)))).setCell ⟨k10, 4, none⟩ (.int .i64 (wrap64 (u.sz + (vec3 L (x1).2.2).2.2))))) := HQ.out.1.put (HQ.out.1.a10.putS _ _ _) (only_put3 k10 2 _ _ _)
        clear HQ c2 y2 c3 y3 c4 y4
        go_wp2_with fail
        go_meet
        case rel => exact ⟨rfl, by rw [show seen1 L true u ({ u with id := id }, bad0, p0) = rS L u (rKd L ({ u with id := id }, bad0, p0)) from rfl, ← HX1.out]; exact HR⟩
    case rest =>
      obtain ⟨rfl, H7⟩ := hcut
      clear H3
      generalize wc = w7 at H7 ⊢
      obtain ⟨xa, hxa⟩ : ∃ x, x = seen1 L A u ({ u with id := id }, bad0, p0) := ⟨_, rfl⟩
      rw [← hxa] at H7
      have Dxa : Hid (xa = seen1 L A u ({ u with id := id }, bad0, p0)) := hxa
      clear hxa
      go_upto_if 46 with fail
      go_cut [9] from 11 (fun s9 wc => s9 = .int .i64 pn ∧ Hid (SeS w kr r a c L la k7 k8 k10 u (seen2 L B u xa) wc))
      case first =>
        cases B with
        | false =>
          go_wp2_with fail
          go_meet
          case rel => exact ⟨rfl, H7⟩
        | true =>
          go_upto_region 10 with fail
          have e5 := H7.out.a7.off 5
          have e6 := H7.out.a7.off 6
          have e7 := H7.out.a7.off 7
          simp only [List.getElem?_toArray, List.getElem?_cons_succ, List.getElem?_cons_zero] at e5 e6 e7
          have h7 : k7 ∉ [kr, r] := by have h1 := H7.out.n; have h2 := H7.out.old; simp; omega
          have h7k : k7 ∉ [k10] := by have h1 := H7.out.d; simp; omega
          refine wp_region_held_drew (S := (fun w' => w'.cell? ⟨k7, 5, none⟩ = some (.int .i64 (u.ax)) ∧ w'.cell? ⟨k7, 6, none⟩ = some (.int .i64 (u.ay)) ∧ w'.cell? ⟨k7, 7, none⟩ = some (.int .i64 (u.az)))) (by kernel_rfl) ?_ (fun hHeld1 => ?_)
          · (try dsimp only); exact ⟨e5, e6, e7⟩
          refine tkW 0 rfl ?_; refine tkW 1 rfl ?_; refine tkW 2 rfl ?_
          try simp only [Act.put, List.setIfInBounds_toArray, List.set_cons_zero, List.set_cons_succ, List.getElem_toArray, List.getElem_cons_succ, List.getElem_cons_zero]
          refine wpAnyH_ready (rs := [3]) (by kernel_rfl) (by simp) ?_
          refine AllReadyH.cons rfl (fun K hK => ?_) AllReadyH.nil
          first | (with_reducible refine iteYes ?hcx ?htx; case hcx => kernel_rfl) | rw [if_pos (by rfl)]
          simp only [List.getElem_toArray, List.getElem_cons_succ, List.getElem_cons_zero]
          go_simp
          (go_at_call 157; refine (vecS2_calls kr r a c L _ la _ _ (H7.out.sr.keep (Only.refl _ _).drew)).mono ?_; rintro e wv ⟨rfl, hs, ov⟩)
          try go_wp2_with fail
          refine hK.out _ _ ?_ (fun hHeld2 => ?_)
          · (try dsimp only); exact ⟨ov.cell (a := ⟨k7, 5, none⟩) (v := .int .i64 (u.ax)) e5 h7, ov.cell (a := ⟨k7, 6, none⟩) (v := .int .i64 (u.ay)) e6 h7, ov.cell (a := ⟨k7, 7, none⟩) (v := .int .i64 (u.az)) e7 h7⟩
          clear hK K hHeld1
          try simp only [Act.put, List.setIfInBounds_toArray, List.set_cons_zero, List.set_cons_succ, List.getElem_toArray, List.getElem_cons_succ, List.getElem_cons_zero]
          have HV : Hid (SeS w kr r a c L la k7 k8 k10 u ((xa).1, (xa).2.1 || vecE L (xa).2.2, vecP L (xa).2.2) wv ∧ Only [kr, r] w7 wv) := ⟨(H7.out.keep (Only.refl _ _).drew).read hs ov, (Only.refl [kr, r] w7).drew.trans ov⟩
          clear hs ov
          refine wpAnyH_ready (rs := [4]) (by kernel_rfl) (by simp) ?_
          refine AllReadyH.cons rfl (fun K hK => ?_) AllReadyH.nil
          first | (with_reducible refine iteYes ?hcx ?htx; case hcx => kernel_rfl) | rw [if_pos (by rfl)]
          simp only [List.getElem_toArray, List.getElem_cons_succ, List.getElem_cons_zero]
          go_simp
          (go_at_call 156; refine (plus_calls u.ax u.ay u.az _ _ _ _).mono ?_; rintro e wp ⟨rfl, op⟩)
          try go_wp2_with fail
          refine hK.out _ _ ?_ (fun hHeld3 => ?_)
          · (try dsimp only); exact ⟨(HV.out.2.trans (op.mono (by simp))).cell (a := ⟨k7, 5, none⟩) (v := .int .i64 (u.ax)) e5 h7, (HV.out.2.trans (op.mono (by simp))).cell (a := ⟨k7, 6, none⟩) (v := .int .i64 (u.ay)) e6 h7, (HV.out.2.trans (op.mono (by simp))).cell (a := ⟨k7, 7, none⟩) (v := .int .i64 (u.az)) e7 h7⟩
          clear hK K hHeld2
          try simp only [Act.put, List.setIfInBounds_toArray, List.set_cons_zero, List.set_cons_succ, List.getElem_toArray, List.getElem_cons_succ, List.getElem_cons_zero]
          have HQ : Hid (SeS w kr r a c L la k7 k8 k10 u ((xa).1, (xa).2.1 || vecE L (xa).2.2, vecP L (xa).2.2) wp ∧ Only [kr, r] w7 wp) := ⟨HV.out.1.keep op, HV.out.2.trans (op.mono (by simp))⟩
          clear op HV
          have c5 := HQ.out.1.a10.off 5; have y5 := HQ.out.1.a10.free 5
          have c6 := HQ.out.1.a10.off 6; have y6 := HQ.out.1.a10.free 6
          have c7 := HQ.out.1.a10.off 7; have y7 := HQ.out.1.a10.free 7
          simp only [List.getElem?_toArray, List.getElem?_cons_succ, List.getElem?_cons_zero] at c5 c6 c7
          refine tkW 5 rfl ?_
          try simp only [Act.put, List.setIfInBounds_toArray, List.set_cons_zero, List.set_cons_succ, List.getElem_toArray, List.getElem_cons_succ, List.getElem_cons_zero]
          refine wpAnyH_ready (rs := [6]) (by kernel_rfl) (by simp) ?_
          refine AllReadyH.cons rfl (fun K hK => ?_) AllReadyH.nil
          first | (with_reducible refine iteYes ?hcx ?htx; case hcx => kernel_rfl) | rw [if_pos (by rfl)]
          simp only [List.getElem_toArray, List.getElem_cons_succ, List.getElem_cons_zero]
          go_simp
          refine hK.out _ _ ?_ (fun hHeld4 => ?_)
          · (try dsimp only); exact ⟨(only_put3 k10 5 _ _ _).cell (a := ⟨k7, 5, none⟩) (v := .int .i64 (u.ax)) (HQ.out.2.cell (a := ⟨k7, 5, none⟩) (v := .int .i64 (u.ax)) e5 h7) h7k, (only_put3 k10 5 _ _ _).cell (a := ⟨k7, 6, none⟩) (v := .int .i64 (u.ay)) (HQ.out.2.cell (a := ⟨k7, 6, none⟩) (v := .int .i64 (u.ay)) e6 h7) h7k, (only_put3 k10 5 _ _ _).cell (a := ⟨k7, 7, none⟩) (v := .int .i64 (u.az)) (HQ.out.2.cell (a := ⟨k7, 7, none⟩) (v := .int .i64 (u.az)) e7 h7) h7k⟩
          clear hK K
          try simp only [Act.put, List.setIfInBounds_toArray, List.set_cons_zero, List.set_cons_succ, List.getElem_toArray, List.getElem_cons_succ, List.getElem_cons_zero]
          refine wpAnyH_done (by kernel_rfl) ?_ _
          have HR : Hid (SeS w kr r a c L la k7 k8 k10 u (rA L u (xa)) (((wp.setCell ⟨k10, 5, none⟩ (.int .i64 (wrap64 (u.ax + (vec3 L (xa).2.2).1)))).setCell ⟨k10, 6, none⟩ (.int .i64 (wrap64 (u.ay + (vec3 L (xa).2.2).2.1)))).setCell ⟨k10, 7, none⟩ (.int .i64 (wrap64 (u.az + (vec3 L (xa).2.2).2.2))))) := HQ.out.1.put (HQ.out.1.a10.putA _ _ _) (only_put3 k10 5 _ _ _)
          clear HQ c5 y5 c6 y6 c7 y7
          go_wp2_with fail
          go_meet
          case rel => exact ⟨rfl, HR⟩
      case rest =>
        obtain ⟨rfl, H8⟩ := hcut
        clear H7
        generalize wc = w8 at H8 ⊢
        obtain ⟨xb, hxb⟩ : ∃ x, x = seen2 L B u xa := ⟨_, rfl⟩
        rw [← hxb] at H8
        have Dxb : Hid (xb = seen2 L B u xa) := hxb
        clear hxb
        go_upto_if 55 with fail
        go_cut [9] from 11 (fun s9 wc => s9 = .int .i64 pn ∧ Hid (SeS w kr r a c L la k7 k8 k10 u (seen3 L C u xb) wc))
        case first =>
          cases C with
          | false =>
            go_wp2_with fail
            go_meet
            case rel => exact ⟨rfl, H8⟩
          | true =>
            go_upto_region 12 with fail
            have e8 := H8.out.a7.off 8
            have e9 := H8.out.a7.off 9
            have e10 := H8.out.a7.off 10
            simp only [List.getElem?_toArray, List.getElem?_cons_succ, List.getElem?_cons_zero] at e8 e9 e10
            have h7 : k7 ∉ [kr, r] := by have h1 := H8.out.n; have h2 := H8.out.old; simp; omega
            have h7k : k7 ∉ [k10] := by have h1 := H8.out.d; simp; omega
            refine wp_region_held_drew (S := (fun w' => w'.cell? ⟨k7, 8, none⟩ = some (.int .i64 (u.vx)) ∧ w'.cell? ⟨k7, 9, none⟩ = some (.int .i64 (u.vy)) ∧ w'.cell? ⟨k7, 10, none⟩ = some (.int .i64 (u.vz)))) (by kernel_rfl) ?_ (fun hHeld1 => ?_)
            · (try dsimp only); exact ⟨e8, e9, e10⟩
            refine tkW 0 rfl ?_; refine tkW 1 rfl ?_; refine tkW 2 rfl ?_
            try simp only [Act.put, List.setIfInBounds_toArray, List.set_cons_zero, List.set_cons_succ, List.getElem_toArray, List.getElem_cons_succ, List.getElem_cons_zero]
            refine wpAnyH_ready (rs := [3]) (by kernel_rfl) (by simp) ?_
            refine AllReadyH.cons rfl (fun K hK => ?_) AllReadyH.nil
            first | (with_reducible refine iteYes ?hcx ?htx; case hcx => kernel_rfl) | rw [if_pos (by rfl)]
            simp only [List.getElem_toArray, List.getElem_cons_succ, List.getElem_cons_zero]
            go_simp
            (go_at_call 157; refine (vecS2_calls kr r a c L _ la _ _ (H8.out.sr.keep (Only.refl _ _).drew)).mono ?_; rintro e wv ⟨rfl, hs, ov⟩)
            try go_wp2_with fail
            refine hK.out _ _ ?_ (fun hHeld2 => ?_)
            · (try dsimp only); exact ⟨ov.cell (a := ⟨k7, 8, none⟩) (v := .int .i64 (u.vx)) e8 h7, ov.cell (a := ⟨k7, 9, none⟩) (v := .int .i64 (u.vy)) e9 h7, ov.cell (a := ⟨k7, 10, none⟩) (v := .int .i64 (u.vz)) e10 h7⟩
            clear hK K hHeld1
            try simp only [Act.put, List.setIfInBounds_toArray, List.set_cons_zero, List.set_cons_succ, List.getElem_toArray, List.getElem_cons_succ, List.getElem_cons_zero]
            have HV : Hid (SeS w kr r a c L la k7 k8 k10 u ((xb).1, (xb).2.1 || vecE L (xb).2.2, vecP L (xb).2.2) wv ∧ Only [kr, r] w8 wv) := ⟨(H8.out.keep (Only.refl _ _).drew).read hs ov, (Only.refl [kr, r] w8).drew.trans ov⟩
            clear hs ov
            refine wpAnyH_ready (rs := [4]) (by kernel_rfl) (by simp) ?_
            refine AllReadyH.cons rfl (fun K hK => ?_) AllReadyH.nil
            first | (with_reducible refine iteYes ?hcx ?htx; case hcx => kernel_rfl) | rw [if_pos (by rfl)]
            simp only [List.getElem_toArray, List.getElem_cons_succ, List.getElem_cons_zero]
            go_simp
            (go_at_call 156; refine (plus_calls u.vx u.vy u.vz _ _ _ _).mono ?_; rintro e wp ⟨rfl, op⟩)
            try go_wp2_with fail
            refine hK.out _ _ ?_ (fun hHeld3 => ?_)
            · (try dsimp only); exact ⟨(HV.out.2.trans (op.mono (by simp))).cell (a := ⟨k7, 8, none⟩) (v := .int .i64 (u.vx)) e8 h7, (HV.out.2.trans (op.mono (by simp))).cell (a := ⟨k7, 9, none⟩) (v := .int .i64 (u.vy)) e9 h7, (HV.out.2.trans (op.mono (by simp))).cell (a := ⟨k7, 10, none⟩) (v := .int .i64 (u.vz)) e10 h7⟩
            clear hK K hHeld2
            try simp only [Act.put, List.setIfInBounds_toArray, List.set_cons_zero, List.set_cons_succ, List.getElem_toArray, List.getElem_cons_succ, List.getElem_cons_zero]
            have HQ : Hid (SeS w kr r a c L la k7 k8 k10 u ((xb).1, (xb).2.1 || vecE L (xb).2.2, vecP L (xb).2.2) wp ∧ Only [kr, r] w8 wp) := ⟨HV.out.1.keep op, HV.out.2.trans (op.mono (by simp))⟩
            clear op HV
            have c8 := HQ.out.1.a10.off 8; have y8 := HQ.out.1.a10.free 8
            have c9 := HQ.out.1.a10.off 9; have y9 := HQ.out.1.a10.free 9
            have c10 := HQ.out.1.a10.off 10; have y10 := HQ.out.1.a10.free 10
            simp only [List.getElem?_toArray, List.getElem?_cons_succ, List.getElem?_cons_zero] at c8 c9 c10
            refine tkW 5 rfl ?_
            try simp only [Act.put, List.setIfInBounds_toArray, List.set_cons_zero, List.set_cons_succ, List.getElem_toArray, List.getElem_cons_succ, List.getElem_cons_zero]
            refine wpAnyH_ready (rs := [6]) (by kernel_rfl) (by simp) ?_
            refine AllReadyH.cons rfl (fun K hK => ?_) AllReadyH.nil
            first | (with_reducible refine iteYes ?hcx ?htx; case hcx => kernel_rfl) | rw [if_pos (by rfl)]
            simp only [List.getElem_toArray, List.getElem_cons_succ, List.getElem_cons_zero]
            go_simp
            refine hK.out _ _ ?_ (fun hHeld4 => ?_)
            · (try dsimp only); exact ⟨(only_put3 k10 8 _ _ _).cell (a := ⟨k7, 8, none⟩) (v := .int .i64 (u.vx)) (HQ.out.2.cell (a := ⟨k7, 8, none⟩) (v := .int .i64 (u.vx)) e8 h7) h7k, (only_put3 k10 8 _ _ _).cell (a := ⟨k7, 9, none⟩) (v := .int .i64 (u.vy)) (HQ.out.2.cell (a := ⟨k7, 9, none⟩) (v := .int .i64 (u.vy)) e9 h7) h7k, (only_put3 k10 8 _ _ _).cell (a := ⟨k7, 10, none⟩) (v := .int .i64 (u.vz)) (HQ.out.2.cell (a := ⟨k7, 10, none⟩) (v := .int .i64 (u.vz)) e10 h7) h7k⟩
            clear hK K
            try simp only [Act.put, List.setIfInBounds_toArray, List.set_cons_zero, List.set_cons_succ, List.getElem_toArray, List.getElem_cons_succ, List.getElem_cons_zero]
            refine wpAnyH_done (by kernel_rfl) ?_ _
            have HR : Hid (SeS w kr r a c L la k7 k8 k10 u (rV L u (xb)) (((wp.setCell ⟨k10, 8, none⟩ (.int .i64 (wrap64 (u.vx + (vec3 L (xb).2.2).1)))).setCell ⟨k10, 9, none⟩ (.int .i64 (wrap64 (u.vy + (vec3 L (xb).2.2).2.1)))).setCell ⟨k10, 10, none⟩ (.int .i64 (wrap64 (u.vz + (vec3 L (xb).2.2).2.2))))) := HQ.out.1.put (HQ.out.1.a10.putV _ _ _) (only_put3 k10 8 _ _ _)
            clear HQ c8 y8 c9 y9 c10 y10
            go_wp2_with fail
            go_meet
            case rel => exact ⟨rfl, HR⟩
        case rest =>
          obtain ⟨rfl, H9⟩ := hcut
          clear H8
          generalize wc = w9 at H9 ⊢
          obtain ⟨xc, hxc⟩ : ∃ x, x = seen3 L C u xb := ⟨_, rfl⟩
          rw [← hxc] at H9
          have Dxc : Hid (xc = seen3 L C u xb) := hxc
          clear hxc
          have HE : Hid (xc = seenM L A B C id u bad0 p0) := by show _ = _; rw [Dxc.out, Dxb.out, Dxa.out]; rfl
          obtain ⟨s, bad1, p1⟩ := xc
          clear Dxc
          have z0 := H9.out.a10.off 0; have v0 := H9.out.a8.off 0; have y0 := H9.out.a8.free 0
          have z1 := H9.out.a10.off 1; have v1 := H9.out.a8.off 1; have y1 := H9.out.a8.free 1
          have z2 := H9.out.a10.off 2; have v2 := H9.out.a8.off 2; have y2 := H9.out.a8.free 2
          have z3 := H9.out.a10.off 3; have v3 := H9.out.a8.off 3; have y3 := H9.out.a8.free 3
          have z4 := H9.out.a10.off 4; have v4 := H9.out.a8.off 4; have y4 := H9.out.a8.free 4
          have z5 := H9.out.a10.off 5; have v5 := H9.out.a8.off 5; have y5 := H9.out.a8.free 5
          have z6 := H9.out.a10.off 6; have v6 := H9.out.a8.off 6; have y6 := H9.out.a8.free 6
          have z7 := H9.out.a10.off 7; have v7 := H9.out.a8.off 7; have y7 := H9.out.a8.free 7
          have z8 := H9.out.a10.off 8; have v8 := H9.out.a8.off 8; have y8 := H9.out.a8.free 8
          have z9 := H9.out.a10.off 9; have v9 := H9.out.a8.off 9; have y9 := H9.out.a8.free 9
          have z10 := H9.out.a10.off 10; have v10 := H9.out.a8.off 10; have y10 := H9.out.a8.free 10
          simp only [zs, List.getElem?_toArray, List.getElem?_cons_succ, List.getElem?_cons_zero] at z0 v0 z1 v1 z2 v2 z3 v3 z4 v4 z5 v5 z6 v6 z7 v7 z8 v8 z9 v9 z10 v10
          have HF : Hid (SnAt 120 (((((((((((w9.setCell ⟨k8, 0, none⟩ (.int .i64 (s.id))).setCell ⟨k8, 1, none⟩ (.int .i64 (s.kd))).setCell ⟨k8, 2, none⟩ (.int .i64 (s.sx))).setCell ⟨k8, 3, none⟩ (.int .i64 (s.sy))).setCell ⟨k8, 4, none⟩ (.int .i64 (s.sz))).setCell ⟨k8, 5, none⟩ (.int .i64 (s.ax))).setCell ⟨k8, 6, none⟩ (.int .i64 (s.ay))).setCell ⟨k8, 7, none⟩ (.int .i64 (s.az))).setCell ⟨k8, 8, none⟩ (.int .i64 (s.vx))).setCell ⟨k8, 9, none⟩ (.int .i64 (s.vy))).setCell ⟨k8, 10, none⟩ (.int .i64 (s.vz))) k8 s ∧ SR (((((((((((w9.setCell ⟨k8, 0, none⟩ (.int .i64 (s.id))).setCell ⟨k8, 1, none⟩ (.int .i64 (s.kd))).setCell ⟨k8, 2, none⟩ (.int .i64 (s.sx))).setCell ⟨k8, 3, none⟩ (.int .i64 (s.sy))).setCell ⟨k8, 4, none⟩ (.int .i64 (s.sz))).setCell ⟨k8, 5, none⟩ (.int .i64 (s.ax))).setCell ⟨k8, 6, none⟩ (.int .i64 (s.ay))).setCell ⟨k8, 7, none⟩ (.int .i64 (s.az))).setCell ⟨k8, 8, none⟩ (.int .i64 (s.vx))).setCell ⟨k8, 9, none⟩ (.int .i64 (s.vy))).setCell ⟨k8, 10, none⟩ (.int .i64 (s.vz))) kr r a c L bad1 la p1 ∧ Only [kr, r] w (((((((((((w9.setCell ⟨k8, 0, none⟩ (.int .i64 (s.id))).setCell ⟨k8, 1, none⟩ (.int .i64 (s.kd))).setCell ⟨k8, 2, none⟩ (.int .i64 (s.sx))).setCell ⟨k8, 3, none⟩ (.int .i64 (s.sy))).setCell ⟨k8, 4, none⟩ (.int .i64 (s.sz))).setCell ⟨k8, 5, none⟩ (.int .i64 (s.ax))).setCell ⟨k8, 6, none⟩ (.int .i64 (s.ay))).setCell ⟨k8, 7, none⟩ (.int .i64 (s.az))).setCell ⟨k8, 8, none⟩ (.int .i64 (s.vx))).setCell ⟨k8, 9, none⟩ (.int .i64 (s.vy))).setCell ⟨k8, 10, none⟩ (.int .i64 (s.vz)))) := by
            have o : Only [k8] w9 (((((((((((w9.setCell ⟨k8, 0, none⟩ (.int .i64 (s.id))).setCell ⟨k8, 1, none⟩ (.int .i64 (s.kd))).setCell ⟨k8, 2, none⟩ (.int .i64 (s.sx))).setCell ⟨k8, 3, none⟩ (.int .i64 (s.sy))).setCell ⟨k8, 4, none⟩ (.int .i64 (s.sz))).setCell ⟨k8, 5, none⟩ (.int .i64 (s.ax))).setCell ⟨k8, 6, none⟩ (.int .i64 (s.ay))).setCell ⟨k8, 7, none⟩ (.int .i64 (s.az))).setCell ⟨k8, 8, none⟩ (.int .i64 (s.vx))).setCell ⟨k8, 9, none⟩ (.int .i64 (s.vy))).setCell ⟨k8, 10, none⟩ (.int .i64 (s.vz))) := ((((((((((((Only.refl [k8] w9).setCell (p := ⟨k8, 0, none⟩) (Or.inl (by simp)) _).setCell (p := ⟨k8, 1, none⟩) (Or.inl (by simp)) _).setCell (p := ⟨k8, 2, none⟩) (Or.inl (by simp)) _).setCell (p := ⟨k8, 3, none⟩) (Or.inl (by simp)) _).setCell (p := ⟨k8, 4, none⟩) (Or.inl (by simp)) _).setCell (p := ⟨k8, 5, none⟩) (Or.inl (by simp)) _).setCell (p := ⟨k8, 6, none⟩) (Or.inl (by simp)) _).setCell (p := ⟨k8, 7, none⟩) (Or.inl (by simp)) _).setCell (p := ⟨k8, 8, none⟩) (Or.inl (by simp)) _).setCell (p := ⟨k8, 9, none⟩) (Or.inl (by simp)) _).setCell (p := ⟨k8, 10, none⟩) (Or.inl (by simp)) _)
            obtain ⟨n1, n2, n3⟩ := H9.out.n
            obtain ⟨o1, o2, o3⟩ := H9.out.old
            exact ⟨sn_put H9.out.a8 s, H9.out.sr.only o (by simp; omega) (by simp; omega) (fun g p e hL => by have := o3 g p e hL; simp; omega), H9.out.only.then o (fun y hy => by rw [List.mem_singleton.1 hy]; exact Or.inr n2)⟩
          go_wp2_with fail
          generalize (((((((((((w9.setCell ⟨k8, 0, none⟩ (.int .i64 (s.id))).setCell ⟨k8, 1, none⟩ (.int .i64 (s.kd))).setCell ⟨k8, 2, none⟩ (.int .i64 (s.sx))).setCell ⟨k8, 3, none⟩ (.int .i64 (s.sy))).setCell ⟨k8, 4, none⟩ (.int .i64 (s.sz))).setCell ⟨k8, 5, none⟩ (.int .i64 (s.ax))).setCell ⟨k8, 6, none⟩ (.int .i64 (s.ay))).setCell ⟨k8, 7, none⟩ (.int .i64 (s.az))).setCell ⟨k8, 8, none⟩ (.int .i64 (s.vx))).setCell ⟨k8, 9, none⟩ (.int .i64 (s.vy))).setCell ⟨k8, 10, none⟩ (.int .i64 (s.vz))) = w10 at HF ⊢
          clear z0 v0 y0 z1 v1 y1 z2 v2 y2 z3 v3 y3 z4 v4 y4 z5 v5 y5 z6 v6 y6 z7 v7 y7 z8 v8 y8 z9 v9 y9 z10 v10 y10
          have z0 := HF.out.1.off 0
          have z1 := HF.out.1.off 1
          have z2 := HF.out.1.off 2
          have z3 := HF.out.1.off 3
          have z4 := HF.out.1.off 4
          have z5 := HF.out.1.off 5
          have z6 := HF.out.1.off 6
          have z7 := HF.out.1.off 7
          have z8 := HF.out.1.off 8
          have z9 := HF.out.1.off 9
          have z10 := HF.out.1.off 10
          simp only [List.getElem?_toArray, List.getElem?_cons_succ, List.getElem?_cons_zero] at z0 z1 z2 z3 z4 z5 z6 z7 z8 z9 z10
          exact bodyPost_ret (v := .agg #[.int .i64 (s.id), .int .i64 (s.kd), .int .i64 (s.sx), .int .i64 (s.sy), .int .i64 (s.sz), .int .i64 (s.ax), .int .i64 (s.ay), .int .i64 (s.az), .int .i64 (s.vx), .int .i64 (s.vy), .int .i64 (s.vz)]) (by simp [results, Try.results146, go_sem, z0, z1, z2, z3, z4, z5, z6, z7, z8, z9, z10]) rfl ⟨A, B, C, bad0, p0, s, bad1, p1, HP.out, HE.out, rfl, HF.out.2.1, HF.out.2.2⟩
end Go.Proofs.Ytedhdmahdioboaa
/- Rows of seen ones: laid behind each other, cut; slices.BinarySearchFunc over them: whichever they are. -/
namespace Go.Proofs.Ytedhdmahdioboaa
open Go.ChangeShapes Go.WideShapes Go.ChangeAt Go.RowKit
set_option linter.unusedVariables false
set_option linter.unusedSimpArgs false

def rowS (L : List Sn) : List Value := (List.range (L.length * 11)).map (fun j => sc (L.getD (j / 11) zs) (j % 11))
theorem rowS_len (L : List Sn) : (rowS L).length = L.length * 11 := by simp [rowS]
theorem rowS_at (L : List Sn) (j : Nat) (h : j < L.length * 11) : (rowS L)[j]? = some (sc (L.getD (j / 11) zs) (j % 11)) := by simp [rowS, h]
theorem rowS_out (L : List Sn) (j : Nat) (h : ¬ j < L.length * 11) : (rowS L)[j]? = none := by rw [List.getElem?_eq_none]; rw [rowS_len]; omega
theorem rowS_app (A B : List Sn) : rowS A ++ rowS B = rowS (A ++ B) := by
  apply List.ext_getElem?
  intro j
  by_cases h : j < A.length * 11
  · rw [List.getElem?_append_left (by rw [rowS_len]; exact h), rowS_at _ _ h, rowS_at _ _ (by rw [List.length_append]; omega), List.getD_eq_getElem?_getD, List.getD_eq_getElem?_getD, List.getElem?_append_left (by omega)]
  · rw [List.getElem?_append_right (by rw [rowS_len]; omega), rowS_len]
    by_cases h2 : j < (A ++ B).length * 11
    · have h3 : j - A.length * 11 < B.length * 11 := by rw [List.length_append] at h2; omega
      have e1 : (j - A.length * 11) / 11 = j / 11 - A.length := by omega
      have e2 : (j - A.length * 11) % 11 = j % 11 := by omega
      rw [rowS_at _ _ h3, rowS_at _ _ h2, e1, e2, List.getD_eq_getElem?_getD, List.getD_eq_getElem?_getD, List.getElem?_append_right (by omega)]
    · rw [rowS_out _ _ h2, rowS_out _ _ (by rw [List.length_append] at h2; omega)]
theorem sc_one (s : Sn) (k : Nat) : (sc s k).oneCell' = true := by unfold sc; split <;> rfl
theorem rowS_one (L : List Sn) : ∀ u ∈ rowS L, u.oneCell' = true := by
  intro u hu
  obtain ⟨j, _, rfl⟩ := List.mem_map.1 hu
  exact sc_one _ _
theorem rowS_nil : rowS [] = [] := rfl
theorem seen_news {w : World} {g o : Nat} {L : List Sn} (h : SeenAt w (some ⟨g, o, none⟩) L.length (fun j => L.getD j zs)) : ∀ j u, (rowS L)[j]? = some u → w.cell? ((⟨g, o, none⟩ : Addr).add j) = some u := by
  intro j u hj
  by_cases hl : j < L.length * 11
  · rw [rowS_at _ _ hl] at hj
    obtain ⟨g', o', e, hc⟩ := h (j / 11) (by omega)
    injection e with e
    injection e with e1 e2 _
    subst e1 e2
    have := hc (j % 11) (by omega)
    rw [Addr.add_mid, ← hj, ← this]
    congr 2
    omega
  · rw [rowS_out _ _ hl] at hj; cases hj
theorem snapInfo : (Try.prog.info? 120).map (fun i => (i.zero, i.size, i.bytes)) = some (some (.agg #[.int .i64 0, .int .i64 0, .int .i64 0, .int .i64 0, .int .i64 0, .int .i64 0, .int .i64 0, .int .i64 0, .int .i64 0, .int .i64 0, .int .i64 0]), 11, 88) := by kernel_rfl
theorem refInfo : (Try.prog.info? 116).map (fun i => (i.zero, i.size, i.bytes)) = some (some (.agg #[.int .i64 0, .int .i64 0, .int .i64 0, .int .i64 0, .int .i64 0, .int .i64 0, .int .i64 0, .int .i64 0, .int .i64 0, .int .i64 0, .int .i64 0]), 11, 88) := by kernel_rfl
/-- A type of seen ones: of its slices, of its elements. -/
structure SnT (t e : TypeId) : Prop where
  und : Try.prog.underlying t = some (.slice e)
  info : (Try.prog.info? e).map (fun i => (i.zero, i.size, i.bytes)) = some (some (.agg #[.int .i64 0, .int .i64 0, .int .i64 0, .int .i64 0, .int .i64 0, .int .i64 0, .int .i64 0, .int .i64 0, .int .i64 0, .int .i64 0, .int .i64 0]), 11, 88)
theorem snapT : SnT 52 120 := ⟨Try.underlying52, snapInfo⟩
theorem refT : SnT 56 116 := ⟨Try.underlying56, refInfo⟩
theorem infoS {P : Program} {t : TypeId} {z : Value} {n b : Nat} (h : (P.info? t).map (fun i => (i.zero, i.size, i.bytes)) = some (some z, n, b)) : ∃ i, P.info? t = some i ∧ i.zero = some z ∧ i.size = n ∧ i.bytes = b := by
  cases hi : P.info? t with
  | none => rw [hi] at h; cases h
  | some i =>
    rw [hi] at h
    simp only [Option.map_some, Option.some.injEq, Prod.mk.injEq] at h
    exact ⟨i, rfl, h.1, h.2.1, h.2.2⟩
theorem ownS_shape {w : World} {b s : Nat} {T : TypeId} {v : Value} {n : Nat} {xs : List Value} (h : w.ownsRow b T s v n xs) : ∃ a c, v = .slice a n c ∧ n ≤ c ∧ (a = none → c = 0) := by
  obtain ⟨_, ⟨rfl, rfl⟩ | ⟨g, cap, cur, rfl, _, _, h1, _⟩⟩ := h
  · exact ⟨none, 0, rfl, Nat.le_refl _, fun _ => rfl⟩
  · exact ⟨_, _, rfl, h1, fun e => by cases e⟩
theorem own_sv {w : World} {b : Nat} {T : TypeId} {v : Value} {R : List Sn} (h : w.ownsRow b T 11 v R.length (rowS R)) : SvAt w v R ∧ NilOk v := by
  obtain ⟨a, c, rfl, hc, hn⟩ := ownS_shape h
  refine ⟨⟨a, c, rfl, hc, fun j hj => ?_⟩, fun n' c' e => ?_⟩
  · have h2 := h
    obtain ⟨_, ⟨e, e0⟩ | ⟨g, cap, cur, e, _, _, _, _⟩⟩ := h
    · omega
    · injection e with e1 _ e3
      subst e1 e3
      refine ⟨g, 0, rfl, fun k hk => ?_⟩
      rw [World.ownsRow.cellAt h2 _ (by omega), Nat.zero_add, rowS_at _ _ (by omega)]
      have q1 : (j * 11 + k) / 11 = j := by omega
      have q2 : (j * 11 + k) % 11 = k := by omega
      rw [q1, q2]
  · injection e with e1 _ e3
    subst e1 e3
    exact hn rfl
set_option maxRecDepth 100000 in
/-- Seen ones behind seen ones, whichever they are. -/
theorem run_appendS {t e : TypeId} (hT : SnT t e) (w : World) (base : Nat) (ty : TypeId) (v : Value) (A : List Sn) (hown : w.ownsRow base e 11 v A.length (rowS A)) (a : Option Addr) (c : Nat) (B : List Sn) (hb : SeenAt w a B.length (fun j => B.getD j zs)) (hn : a = none → c = 0) (hc : B.length ≤ c) (hl : A.length + B.length ≤ 1000000) (hbase : base ≤ w.heap.size) :
    ∃ v' w', (Builtin.append_ #[t, t] ty #[v, .slice a B.length c]).run Try.prog w = .ok v' w' ∧ w'.ownsRow base e 11 v' (A ++ B).length (rowS (A ++ B)) ∧ w.grownBy w' v.ownBlock ∧ (v'.ownBlock = v.ownBlock ∨ v'.ownBlock = some w.heap.size) := by
  obtain ⟨i0, hi0, hz0, hz1, hz2⟩ := infoS hT.info
  cases a with
  | none =>
    obtain rfl := hn rfl
    obtain rfl : B = [] := List.length_eq_zero_iff.1 (by omega)
    refine ⟨_, _, run_append_owned_none (P := Try.prog) w base t ty e i0 11 hT.und hi0 v A.length (rowS A) hown, by simpa using hown, ⟨rfl, rfl, rfl, Nat.le_refl _, fun _ _ _ => rfl⟩, Or.inl rfl⟩
  | some ad =>
    obtain ⟨g, o, s⟩ := ad
    have hnews : ∀ j u, (rowS B)[j]? = some u → w.cell? ((⟨g, o, s⟩ : Addr).add j) = some u := by
      intro j u hj
      by_cases h0 : B.length = 0
      · rw [List.length_eq_zero_iff.1 h0] at hj; simp [rowS] at hj
      · obtain ⟨g', o', e', _⟩ := hb 0 (by omega)
        injection e' with e'
        injection e' with e1 e2 e3
        subst e1 e2 e3
        exact seen_news hb j u hj
    obtain ⟨v', w', h1, h2, h3, _, h5⟩ := run_append_own_at (P := Try.prog) w base t ty e i0 _ 11 88 hT.und hi0 hz0 hz1 hz2 rfl (by decide) v A.length (rowS A) hown ⟨g, o, s⟩ B.length c (rowS B) (rowS_len B) hnews (rowS_one B) (by unfold maxLen; omega) (by omega) hbase
    rw [rowS_app, ← List.length_append] at h2
    exact ⟨v', w', h1, h2, h3, h5⟩
theorem wpList_appendS {ops : Array Oper} {rest : List Oper} {o : Oper} {ac : Act} {w : World} {Q : Exit → Act → World → Prop} {t e : TypeId} (hT : SnT t e) (hgd : o.guard = none) (s x : Operand)
    (ho : o.op = .call { callee := .builtin .append, args := #[s, x], argTypes := #[t, t] }) (base : Nat) (v : Value) (A : List Sn) (hs : ac.eval s = v) (hown : w.ownsRow base e 11 v A.length (rowS A)) (a : Option Addr) (m c : Nat) (B : List Sn) (hx : ac.eval x = .slice a m c) (hm : m = B.length) (hb : SeenAt w a B.length (fun j => B.getD j zs)) (hn : a = none → c = 0) (hc : B.length ≤ c) (hl : A.length + B.length ≤ 1000000) (hbase : base ≤ w.heap.size)
    (h : ∀ v' w', w'.ownsRow base e 11 v' (A ++ B).length (rowS (A ++ B)) → w.grownBy w' v.ownBlock → (v'.ownBlock = v.ownBlock ∨ v'.ownBlock = some w.heap.size) → wpList Try.prog ops Q rest (ac.put o.dst v') w') : wpList Try.prog ops Q (o :: rest) ac w := by
  subst hm
  refine wpList_plain hgd fun K hK => ?_
  obtain ⟨v', w', hr, h2, h3, h4⟩ := run_appendS hT w base o.type v A hown a c B hb hn hc hl hbase
  unfold Oper.wp execOp
  simp only [ho, resolve, invoke, builtin, Sem.run_bind, Sem.run_pure, Result.andThen_ok, List.map_toArray, List.map_cons, List.map_nil, hs, hx, hr]
  exact hK _ _ (h v' w' h2 h3 h4)
/-! Slices cut. -/
def fromS (a : Option Addr) (c k : Nat) : Option Addr := if c = k then a else a.map (·.add (k * 11))
theorem add_zeroS (a : Addr) : a.add 0 = a := by unfold Addr.add; simp
theorem run_toS {ρ : Operand → Value} {o : Oper} {x y : Operand} {a : Option Addr} {n c k : Nat} {w : World} (T : TypeId) (hT : T = 52 ∨ T = 56) (ho : o.op = .slice T x none (some y) none) (hx : ρ x = .slice a n c) (hy : ρ y = .int .i64 (k : Int)) (hk : k ≤ c) :
    (execOp ρ o).run Try.prog w = .ok (.value (.slice a k c)) w := by
  have hk' : (k : Int) ≤ (c : Int) := by omega
  rcases hT with rfl | rfl
  all_goals
    unfold execOp
    rw [ho]
    simp only [hx, hy]
    go_simp
    try simp [add_zeroS]
    try (cases a <;> simp [add_zeroS])
theorem run_fromS {ρ : Operand → Value} {o : Oper} {x y : Operand} {a : Option Addr} {n c k : Nat} {w : World} (T : TypeId) (hT : T = 52 ∨ T = 56) (ho : o.op = .slice T x (some y) none none) (hx : ρ x = .slice a n c) (hy : ρ y = .int .i64 (k : Int)) (hk : k ≤ n) :
    (execOp ρ o).run Try.prog w = .ok (.value (.slice (fromS a c k) (n - k) (c - k))) w := by
  have hk' : (k : Int) ≤ (n : Int) := by omega
  rcases hT with rfl | rfl
  all_goals
    unfold execOp
    rw [ho]
    simp only [hx, hy]
    go_simp
    try rfl
theorem wpList_toS {ops : Array Oper} {rest : List Oper} {o : Oper} {ac : Act} {w : World} {Q : Exit → Act → World → Prop} (T : TypeId) (hT : T = 52 ∨ T = 56) (hg : o.guard = none) (x y : Operand) (a : Option Addr) (n c k : Nat) (ho : o.op = .slice T x none (some y) none) (hx : ac.eval x = .slice a n c) (hy : ac.eval y = .int .i64 (k : Int)) (hk : k ≤ c)
    (h : wpList Try.prog ops Q rest (ac.put o.dst (.slice a k c)) w) : wpList Try.prog ops Q (o :: rest) ac w := by
  refine wpList_plain hg fun K hK => ?_
  unfold Oper.wp
  rw [run_toS T hT ho hx hy hk, Oper.upon_value]
  exact hK _ _ h
theorem wpList_fromS {ops : Array Oper} {rest : List Oper} {o : Oper} {ac : Act} {w : World} {Q : Exit → Act → World → Prop} (T : TypeId) (hT : T = 52 ∨ T = 56) (hg : o.guard = none) (x y : Operand) (a : Option Addr) (n c k : Nat) (ho : o.op = .slice T x (some y) none none) (hx : ac.eval x = .slice a n c) (hy : ac.eval y = .int .i64 (k : Int)) (hk : k ≤ n)
    (h : wpList Try.prog ops Q rest (ac.put o.dst (.slice (fromS a c k) (n - k) (c - k))) w) : wpList Try.prog ops Q (o :: rest) ac w := by
  refine wpList_plain hg fun K hK => ?_
  unfold Oper.wp
  rw [run_fromS T hT ho hx hy hk, Oper.upon_value]
  exact hK _ _ h
theorem seen_take {w : World} {a : Option Addr} {L : List Sn} (h : SeenAt w a L.length (fun j => L.getD j zs)) (k : Nat) : SeenAt w a (L.take k).length (fun j => (L.take k).getD j zs) := by
  intro j hj
  rw [List.length_take] at hj
  obtain ⟨g, o, e, hc⟩ := h j (by omega)
  refine ⟨g, o, e, fun i hi => ?_⟩
  have := hc i hi
  simp only [List.getD_eq_getElem?_getD] at this ⊢
  rw [List.getElem?_take, if_pos (by omega)]
  exact this
theorem seen_drop {w : World} {a : Option Addr} {L : List Sn} {c k : Nat} (h : SeenAt w a L.length (fun j => L.getD j zs)) (hc : L.length ≤ c) : SeenAt w (fromS a c k) (L.drop k).length (fun j => (L.drop k).getD j zs) := by
  intro j hj
  rw [List.length_drop] at hj
  obtain ⟨g, o, rfl, hcell⟩ := h (k + j) (by omega)
  refine ⟨g, o + k * 11, ?_, fun i hi => ?_⟩
  · unfold fromS
    rw [if_neg (by omega), Option.map_some, Addr.add_mid]
  · have := hcell i hi
    simp only [List.getD_eq_getElem?_getD] at this ⊢
    rw [List.getElem?_drop, ← this]
    congr 2
    omega
theorem sv_drop {w : World} {a : Option Addr} {c : Nat} {L : List Sn} {k : Nat} (h : SeenAt w a L.length (fun j => L.getD j zs)) (hc : L.length ≤ c) (hk : k ≤ L.length) : SvAt w (.slice (fromS a c k) (L.length - k) (c - k)) (L.drop k) :=
  ⟨fromS a c k, c - k, by rw [List.length_drop], by rw [List.length_drop]; omega, seen_drop h hc⟩
theorem nil_drop {a : Option Addr} {c n k : Nat} (h : a = none → c = 0) : NilOk (.slice (fromS a c k) n (c - k)) := by
  intro n' c' e
  injection e with e1 _ e3
  unfold fromS at e1
  cases a with
  | none => have := h rfl; omega
  | some ad =>
    split at e1
    · cases e1
    · rw [Option.map_some] at e1; cases e1
/-! Where a number stands. -/
theorem cmpView_calls (s : Sn) (id : Int) (w : World) : Calls Try.prog 143 #[.agg #[.int .i64 (s.id), .int .i64 (s.kd), .int .i64 (s.sx), .int .i64 (s.sy), .int .i64 (s.sz), .int .i64 (s.ax), .int .i64 (s.ay), .int .i64 (s.az), .int .i64 (s.vx), .int .i64 (s.vy), .int .i64 (s.vz)], .int .i64 id] w fun e w' => e = .returned (.int .i64 (cmpI s.id id)) ∧ Only [] w w' := by
  go_enter Try.func143, Try.ntmps143
  go_wp2_with fail
  refine (compare_calls _ _ _).mono ?_
  rintro e w1 ⟨rfl, rfl⟩
  go_wp2_with fail
  go_ret
  exact ⟨rfl, (Only.refl [] w).alloc _⟩
def StopsS (L : List Sn) (id : Int) (r : Nat) : Prop := r ≤ L.length ∧ (r = 0 ∨ (L.getD (r - 1) zs).id < id) ∧ (r = L.length ∨ id ≤ (L.getD r zs).id)
def SearchPost (L : List Sn) (id : Int) (w : World) (e : Ending) (w' : World) : Prop := ∃ (r : Nat) (b : Bool), e = .returned (.tuple #[.int .i64 ((r : Int)), .bool b]) ∧ StopsS L id r ∧ Only [] w w'
set_option maxRecDepth 100000 in
set_option maxHeartbeats 2000000 in
theorem searchS_calls (L : List Sn) (id : Int) (v : Value) (w : World) (h : SvAt w v L) (hl : L.length ≤ 1000) :
    Calls Try.prog 142 #[v, .int .i64 id, .func (.func 143) #[] #[]] w (SearchPost L id w) := by
  obtain ⟨a, c, rfl, hc, hv⟩ := h
  have HB : Hid (SeenAt w a L.length (fun j => L.getD j zs) ∧ L.length ≤ 1000) := ⟨hv, hl⟩
  clear hv hl hc
  go_enter Try.func142, Try.ntmps142
  go_wp2_with fail
  go_loopg [9, 10] L.length (fun k iv jv wr => ∃ i j : Nat, iv = .int .i64 (i : Int) ∧ jv = .int .i64 (j : Int) ∧ Hid (i ≤ j ∧ j ≤ L.length ∧ k = j - i ∧ (i = 0 ∨ (L.getD (i - 1) zs).id < id) ∧ (j = L.length ∨ id ≤ (L.getD j zs).id)) ∧ Hid (Only [] w wr))
  case atStart => exact ⟨0, L.length, rfl, rfl, ⟨by omega, by omega, rfl, Or.inl rfl, Or.inl rfl⟩, Only.refl _ _⟩
  case round =>
    obtain ⟨i, j, rfl, rfl, H1, HO⟩ := hrel
    have hn := HB.out.2
    by_cases hij : i < j
    · have hijl : (i : Int) < (j : Int) := by omega
      have hj := H1.out.2.1
      obtain ⟨h, hh⟩ : ∃ h, h = (i + j) / 2 := ⟨_, rfl⟩
      have hhf : ((i : Int) + (j : Int)) / 2 = (h : Int) := by omega
      have HH : Hid (i ≤ h ∧ h < j) := ⟨by omega, by omega⟩
      have hhl : (h : Int) < (L.length : Int) := by omega
      clear hh
      obtain ⟨g, o, rfl, hcell⟩ := (HB.out.1.only HO.out) h (by have := HH.out; omega)
      have z0 := hcell 0 (by omega); have z1 := hcell 1 (by omega); have z2 := hcell 2 (by omega); have z3 := hcell 3 (by omega)
      have z4 := hcell 4 (by omega); have z5 := hcell 5 (by omega); have z6 := hcell 6 (by omega); have z7 := hcell 7 (by omega)
      have z8 := hcell 8 (by omega); have z9 := hcell 9 (by omega); have z10 := hcell 10 (by omega)
      clear hcell
      obtain ⟨s, hs⟩ : ∃ s, L.getD h zs = s := ⟨_, rfl⟩
      simp only [hs] at z0 z1 z2 z3 z4 z5 z6 z7 z8 z9 z10
      have HS : Hid (L.getD h zs = s) := hs
      clear hs
      simp only [sc, Nat.add_zero] at z0 z1 z2 z3 z4 z5 z6 z7 z8 z9 z10
      go_upto_region 5 with fail
      try simp only [hhf]
      clear hhf
      go_wp2_with fail
      refine (cmpView_calls s id _).mono ?_
      rintro e w2 ⟨rfl, o2⟩
      have HO2 : Hid (Only [] w w2) := HO.out.trans o2
      clear o2 HO z0 z1 z2 z3 z4 z5 z6 z7 z8 z9 z10
      by_cases hlt : s.id < id
      · have hd : decide (cmpI s.id id < 0) = true := by unfold cmpI; rw [if_pos hlt]; rfl
        generalize cmpI s.id id = cv at hd ⊢
        go_wp2_with fail
        go_roundg (j - (h + 1))
        case measure => have h1 := H1.out.2.2.1; have h2 := HH.out; omega
        case rel => exact ⟨h + 1, j, by go_num, rfl, ⟨by have := HH.out; omega, hj, rfl, Or.inr (by show (L.getD h zs).id < id; rw [HS.out]; exact hlt), H1.out.2.2.2.2⟩, HO2⟩
      · have hd : decide (cmpI s.id id < 0) = false := by unfold cmpI; rw [if_neg hlt]; split <;> rfl
        generalize cmpI s.id id = cv at hd ⊢
        go_wp2_with fail
        go_roundg (h - i)
        case measure => have h1 := H1.out.2.2.1; have h2 := HH.out; omega
        case rel => exact ⟨i, h, rfl, rfl, ⟨HH.out.1, by have := HH.out; omega, rfl, H1.out.2.2.2.1, Or.inr (by show id ≤ (L.getD h zs).id; rw [HS.out]; omega)⟩, HO2⟩
    · have hijl : ¬ (i : Int) < (j : Int) := by omega
      obtain rfl : i = j := by have := H1.out.1; omega
      have HST : Hid (StopsS L id i) := ⟨H1.out.2.1, H1.out.2.2.2.1, H1.out.2.2.2.2⟩
      by_cases hin : i < L.length
      · have hinl : (i : Int) < (L.length : Int) := by omega
        obtain ⟨g, o, rfl, hcell⟩ := (HB.out.1.only HO.out) i hin
        have z0 := hcell 0 (by omega); have z1 := hcell 1 (by omega); have z2 := hcell 2 (by omega); have z3 := hcell 3 (by omega)
        have z4 := hcell 4 (by omega); have z5 := hcell 5 (by omega); have z6 := hcell 6 (by omega); have z7 := hcell 7 (by omega)
        have z8 := hcell 8 (by omega); have z9 := hcell 9 (by omega); have z10 := hcell 10 (by omega)
        clear hcell
        obtain ⟨s, hs⟩ : ∃ s, L.getD i zs = s := ⟨_, rfl⟩
        simp only [hs] at z0 z1 z2 z3 z4 z5 z6 z7 z8 z9 z10
        clear hs
        simp only [sc, Nat.add_zero] at z0 z1 z2 z3 z4 z5 z6 z7 z8 z9 z10
        go_wp2_with fail
        refine (cmpView_calls s id _).mono ?_
        rintro e w2 ⟨rfl, o2⟩
        have HO2 : Hid (Only [] w w2) := HO.out.trans o2
        clear o2 HO z0 z1 z2 z3 z4 z5 z6 z7 z8 z9 z10
        generalize cmpI s.id id = cv
        go_wp2_with fail
        exact bodyPost_ret (v := .tuple #[.int .i64 ((i : Int)), .bool (cv == 0)]) (by simp [results, Try.results142, go_sem]) rfl ⟨i, _, rfl, HST.out, HO2.out⟩
      · have hinl : ¬ (i : Int) < (L.length : Int) := by omega
        have hd : decide ((i : Int) < (L.length : Int)) = false := decide_eq_false hinl
        go_wp2_with fail
        exact bodyPost_ret (v := .tuple #[.int .i64 ((i : Int)), .bool false]) (by simp [results, Try.results142, go_sem]) rfl ⟨i, _, rfl, HST.out, HO.out⟩
end Go.Proofs.Ytedhdmahdioboaa
/- A reader on the way that a Delta wrote: plain facts. -/
namespace Go.Proofs.Ytedhdmahdioboaa
open Go.ChangeShapes Go.WideShapes Go.ChangeAt Go.RowKit
set_option linter.unusedVariables false
set_option linter.unusedSimpArgs false

theorem neqV_no {a b c p q r : Int} (h : neqV a b c p q r = false) : a = p ∧ b = q ∧ c = r := by
  unfold neqV at h
  simp only [Bool.not_eq_false', Bool.and_eq_true, beq_iff_eq] at h
  exact h
theorem d4_no {u v : Sn} (h : d4 u v = false) : u.kd = v.kd ∧ u.sx = v.sx ∧ u.sy = v.sy ∧ u.sz = v.sz := by
  unfold d4 at h
  rw [Bool.or_eq_false_iff] at h
  have h1 := neqV_no h.1
  have h2 : u.kd = v.kd := by simpa using h.2
  exact ⟨h2, h1⟩
theorem pN_inj {a b c a' b' c' : Bool} (h : pN a b c = pN a' b' c') : a = a' ∧ b = b' ∧ c = c' := by
  cases a <;> cases b <;> cases c <;> cases a' <;> cases b' <;> cases c' <;> simp [pN] at h ⊢
theorem seen1_at {L pre rest : List Nat} {A : Bool} {u v : Sn} {x : Sn} {p : Nat} (h : bitsOf L = pre ++ (if A then p4B u v else []) ++ rest) (hp : p = pre.length) (hu : Good u) (hv : Good v) (hA : A = false → x.kd = v.kd ∧ x.sx = v.sx ∧ x.sy = v.sy ∧ x.sz = v.sz) :
    seen1 L A u (x, false, p) = ({ x with kd := v.kd, sx := v.sx, sy := v.sy, sz := v.sz }, false, (pre ++ (if A then p4B u v else [])).length) := by
  cases A with
  | false =>
    obtain ⟨h1, h2, h3, h4⟩ := hA rfl
    unfold seen1
    simp only [Bool.false_eq_true, if_false, List.append_nil]
    rw [← h1, ← h2, ← h3, ← h4, hp]
  | true =>
    simp only [if_true] at h ⊢
    unfold p4B at h ⊢
    obtain ⟨k0, k7⟩ := hv.kd
    obtain ⟨kn, hkn⟩ : ∃ kn : Nat, v.kd = (kn : Int) := ⟨v.kd.toNat, by omega⟩
    have hk : v.kd.toNat = kn := by omega
    rw [hk] at h ⊢
    have g := gM_at (L := L) (a := pre) (k := kn) (wd := 3) (c := vecB (v.sx - u.sx) (v.sy - u.sy) (v.sz - u.sz) ++ rest) (p := p) (by rw [h]; simp only [List.append_assoc]) hp (by omega) (by omega)
    have g' : getM L p 3 = (0, (kn : Int), (pre ++ putB kn 3).length) := g
    have s1 := hv.s3; have s2 := hu.s3
    obtain ⟨q1, q2, q3⟩ := vec_at (L := L) (a := pre ++ putB kn 3) (x := v.sx - u.sx) (y := v.sy - u.sy) (z := v.sz - u.sz) (c := rest) (p := (pre ++ putB kn 3).length) (by rw [h]; simp only [List.append_assoc]) rfl (not_badInt s1.1 s2.1) (not_badInt s1.2.1 s2.2.1) (not_badInt s1.2.2 s2.2.2)
    unfold seen1 rS rKd
    simp only [if_true, g', q1, q2, q3]
    rw [wrap_far s1.1 s2.1, wrap_far s1.2.1 s2.2.1, wrap_far s1.2.2 s2.2.2, hkn]
    simp
theorem seen2_at {L pre rest : List Nat} {A : Bool} {u v : Sn} {x : Sn} {p : Nat} (h : bitsOf L = pre ++ (if A then p2B u v else []) ++ rest) (hp : p = pre.length) (hu : Good u) (hv : Good v) (hA : A = false → x.ax = v.ax ∧ x.ay = v.ay ∧ x.az = v.az) :
    seen2 L A u (x, false, p) = ({ x with ax := v.ax, ay := v.ay, az := v.az }, false, (pre ++ (if A then p2B u v else [])).length) := by
  cases A with
  | false =>
    obtain ⟨h2, h3, h4⟩ := hA rfl
    unfold seen2
    simp only [Bool.false_eq_true, if_false, List.append_nil]
    rw [← h2, ← h3, ← h4, hp]
  | true =>
    simp only [if_true] at h ⊢
    unfold p2B at h ⊢
    have s1 := hv.a3; have s2 := hu.a3
    obtain ⟨q1, q2, q3⟩ := vec_at h hp (not_badInt s1.1 s2.1) (not_badInt s1.2.1 s2.2.1) (not_badInt s1.2.2 s2.2.2)
    unfold seen2 rA
    simp only [if_true, q1, q2, q3]
    rw [wrap_far s1.1 s2.1, wrap_far s1.2.1 s2.2.1, wrap_far s1.2.2 s2.2.2]
    simp
theorem seen3_at {L pre rest : List Nat} {A : Bool} {u v : Sn} {x : Sn} {p : Nat} (h : bitsOf L = pre ++ (if A then p1B u v else []) ++ rest) (hp : p = pre.length) (hu : Good u) (hv : Good v) (hA : A = false → x.vx = v.vx ∧ x.vy = v.vy ∧ x.vz = v.vz) :
    seen3 L A u (x, false, p) = ({ x with vx := v.vx, vy := v.vy, vz := v.vz }, false, (pre ++ (if A then p1B u v else [])).length) := by
  cases A with
  | false =>
    obtain ⟨h2, h3, h4⟩ := hA rfl
    unfold seen3
    simp only [Bool.false_eq_true, if_false, List.append_nil]
    rw [← h2, ← h3, ← h4, hp]
  | true =>
    simp only [if_true] at h ⊢
    unfold p1B at h ⊢
    have s1 := hv.v3; have s2 := hu.v3
    obtain ⟨q1, q2, q3⟩ := vec_at h hp (not_badInt s1.1 s2.1) (not_badInt s1.2.1 s2.2.1) (not_badInt s1.2.2 s2.2.2)
    unfold seen3 rV
    simp only [if_true, q1, q2, q3]
    rw [wrap_far s1.1 s2.1, wrap_far s1.2.1 s2.2.1, wrap_far s1.2.2 s2.2.2]
    simp
theorem seenM_at {L pre rest : List Nat} {A B C : Bool} {u v : Sn} {id : Int} {p : Nat} (h : bitsOf L = pre ++ partsB A B C u v ++ rest) (hp : p = pre.length) (hu : Good u) (hv : Good v) (hid : id = v.id) (hA : A = false → u.kd = v.kd ∧ u.sx = v.sx ∧ u.sy = v.sy ∧ u.sz = v.sz) (hB : B = false → u.ax = v.ax ∧ u.ay = v.ay ∧ u.az = v.az) (hC : C = false → u.vx = v.vx ∧ u.vy = v.vy ∧ u.vz = v.vz) :
    seenM L A B C id u false p = (v, false, (pre ++ partsB A B C u v).length) := by
  unfold partsB at h ⊢
  unfold seenM
  rw [seen1_at (L := L) (pre := pre) (rest := (if B then p2B u v else []) ++ (if C then p1B u v else []) ++ rest) (v := v) (x := { u with id := id }) (by rw [h]; simp only [List.append_assoc]) hp hu hv hA]
  dsimp only
  rw [seen2_at (L := L) (pre := pre ++ (if A then p4B u v else [])) (rest := (if C then p1B u v else []) ++ rest) (v := v) (x := ⟨id, v.kd, v.sx, v.sy, v.sz, u.ax, u.ay, u.az, u.vx, u.vy, u.vz⟩) (by rw [h]; simp only [List.append_assoc]) rfl hu hv hB]
  dsimp only
  rw [seen3_at (L := L) (pre := pre ++ (if A then p4B u v else []) ++ (if B then p2B u v else [])) (rest := rest) (v := v) (x := ⟨id, v.kd, v.sx, v.sy, v.sz, v.ax, v.ay, v.az, u.vx, u.vy, u.vz⟩) (by rw [h]; simp only [List.append_assoc]) rfl hu hv hC]
  rw [hid]
  simp only [List.append_assoc]
/-- The way of a reader, if what it reads was written. -/
def Way (F : List Sn) (L : List Nat) (R F1 : List Sn) (bad : Bool) (la : Int) (p : Nat) : Prop :=
  ∀ T, rightL T = true → bytesOf (deltaT F T) = L → bad = false ∧ ∃ (T1 : List Sn) (f : Nat) (m : Int) (pre pad : List Nat), T = R ++ T1 ∧ F1.length + T1.length ≤ f ∧ Ris m F1 ∧ Ris m T1 ∧ 0 ≤ la ∧ la ≤ m ∧ bitsOf L = pre ++ (deltaM f F1 T1 la ++ putB 3 2) ++ pad ∧ p = pre.length
theorem Way.start {F : List Sn} (hF : rightL F = true) (L : List Nat) : Way F L [] F false 0 0 := by
  intro T hT hL
  obtain ⟨pad, hb⟩ := bytes_bits (delta_bits F T)
  refine ⟨rfl, T, F.length + T.length, 0, [], pad, rfl, Nat.le_refl _, (rightL_ris hF).1, (rightL_ris hT).1, Int.le_refl _, Int.le_refl _, ?_, rfl⟩
  rw [← hL, hb]
  rfl
theorem word_at {L pre rest : List Nat} {k : Nat} {la id : Int} {p : Nat} (h : bitsOf L = pre ++ wordB k la id ++ rest) (hp : p = pre.length) (hk : k < 4) (h0 : 0 ≤ la) (h1 : la < id) (h2 : id ≤ 1099511627776) :
    getM L p 2 = (0, (k : Int), (pre ++ putB k 2).length) ∧ numM 4611686018427387903 L (pre ++ putB k 2).length = (0, (id - la - 1).toNat, (pre ++ wordB k la id).length) := by
  unfold wordB at h ⊢
  refine ⟨gM_at (L := L) (a := pre) (k := k) (wd := 2) (c := varB (id - la - 1).toNat ++ rest) (by rw [h]; simp only [List.append_assoc]) hp (by omega) (by omega), ?_⟩
  have e := numM_back 4611686018427387903 (id - la - 1).toNat L (pre ++ putB k 2) rest (by rw [h]; simp only [List.append_assoc]) (by omega) (by decide)
  rw [e]
  simp only [List.length_append, Nat.add_assoc]
/-- At the end. -/
theorem Way.done {F : List Sn} {L : List Nat} {R F1 : List Sn} {bad : Bool} {la : Int} {p : Nat} (h : Way F L R F1 bad la p) {g : Nat × Int × Nat} (hg : g = getM L p 2) (hs : g.2.1 = 3 ∨ (bad || decide (g.1 ≠ 0)) = true) :
    ∀ T, rightL T = true → bytesOf (deltaT F T) = L → (bad || decide (g.1 ≠ 0)) = false ∧ R ++ F1 = T := by
  intro T hT hL
  obtain ⟨hb, T1, f, m, pre, pad, eT, hf, rF, rT, h0, hm, bits, hp⟩ := h T hT hL
  rcases delta_next f F1 T1 la m hf rF rT h0 hm with ⟨e, ed⟩ | ⟨P, F2, T2, id, hx⟩
  · rw [ed, List.nil_append] at bits
    have e1 : getM L p 2 = (0, 3, (pre ++ putB 3 2).length) := gM_at (L := L) (a := pre) (k := 3) (wd := 2) (c := pad) bits hp (by omega) (by omega)
    rw [hg, e1, hb, eT, e]
    exact ⟨rfl, rfl⟩
  · exfalso
    obtain ⟨f', _, eb⟩ := hx.bits
    have hl := hx.lt
    have hle := hx.le
    have hk : ∃ k : Nat, k < 3 ∧ ∃ more, chgB la (takeS id F2) (takeS id T2) = wordB k la id ++ more := by
      unfold chgB
      rw [hx.ne]
      simp only [Bool.false_eq_true, if_false]
      split
      · rename_i e
        have e2 : (takeS id F2).id = id := by rcases hx.some_ with q | q; exact q; omega
        exact ⟨0, by omega, [], by rw [e2, List.append_nil]⟩
      · rename_i e
        have e2 : (takeS id T2).id = id := by rcases takeS_id (id := id) (F := T2) with q | q; exact q; contradiction
        split
        · exact ⟨1, by omega, _, by rw [e2]⟩
        · exact ⟨2, by omega, _, by rw [e2, List.append_assoc]⟩
    obtain ⟨k, hk3, more, ek⟩ := hk
    rw [eb, ek] at bits
    obtain ⟨w1, _⟩ := word_at (L := L) (pre := pre) (rest := more ++ deltaM f' (takeL id F2) (takeL id T2) id ++ putB 3 2 ++ pad) (k := k) (la := la) (id := id) (p := p) (by rw [bits]; simp only [List.append_assoc]) hp (by omega) h0 (by omega) hle
    rw [hg, w1, hb] at hs
    rcases hs with q | q
    · simp only at q; omega
    · simp at q
theorem ris_get {m : Int} {F : List Sn} (h : Ris m F) : ∀ i j : Nat, i ≤ j → j < F.length → (F.getD i zs).id ≤ (F.getD j zs).id := by
  induction F generalizing m with
  | nil => intro i j _ hj; simp at hj
  | cons s F ih =>
    intro i j hij hj
    cases j with
    | zero => obtain rfl : i = 0 := by omega
              exact Int.le_refl _
    | succ j =>
      cases i with
      | succ i => exact ih h.2.2.2 i j (by omega) (by simpa using hj)
      | zero =>
        show s.id ≤ (F.getD j zs).id
        have h1 := ih h.2.2.2 0 j (by omega) (by simpa using hj)
        cases F with
        | nil => simp at hj
        | cons t F => have := h.2.2.2.1; exact Int.le_trans (Int.le_of_lt this) h1
theorem stops_at {m : Int} {P F1 : List Sn} {id : Int} {r : Nat} (h : StopsS (P ++ F1) id r) (hr : Ris m (P ++ F1)) (low : ∀ s ∈ P, s.id < id) (ge : ∀ s L, F1 = s :: L → id ≤ s.id) : r = P.length := by
  obtain ⟨h1, h2, h3⟩ := h
  rcases Nat.lt_trichotomy r P.length with q | q | q
  · exfalso
    rcases h3 with e | e
    · rw [List.length_append] at e; omega
    · have hm : (P ++ F1).getD r zs ∈ P := by
        rw [List.getD_eq_getElem?_getD, List.getElem?_append_left q, List.getElem?_eq_getElem q]
        exact List.getElem_mem q
      have := low _ hm
      omega
  · exact q
  · exfalso
    cases F1 with
    | nil => simp only [List.append_nil] at h1; omega
    | cons s F1 =>
      rcases h2 with e | e
      · omega
      · have h4 := ris_get hr P.length (r - 1) (by omega) (by omega)
        have h5 := ge s F1 rfl
        have h6 : (P ++ s :: F1).getD P.length zs = s := by rw [List.getD_eq_getElem?_getD, List.getElem?_append_right (Nat.le_refl _), Nat.sub_self]; rfl
        rw [h6] at h4
        omega
theorem idv_at {la id : Int} (h0 : 0 ≤ la) (h1 : la < id) (h2 : id ≤ 1099511627776) : wrap64 (wrap64 (la + 1) + (((id - la - 1).toNat : Nat) : Int)) = id := by
  have e1 : wrap64 (la + 1) = la + 1 := by unfold wrap64; omega
  rw [e1]
  have e2 : la + 1 + (((id - la - 1).toNat : Nat) : Int) = id := by omega
  rw [e2]
  unfold wrap64; omega
/-- One that is told: it goes, it comes or it changes. -/
theorem Way.next {F : List Sn} {L : List Nat} {R F1 : List Sn} {bad : Bool} {la : Int} {p : Nat} (h : Way F L R F1 bad la p) {g : Nat × Int × Nat} (hg : g = getM L p 2) (h3 : g.2.1 ≠ 3) {n : Nat × Nat × Nat} (hn : n = numM 4611686018427387903 L g.2.2) {idv : Int} (hi : idv = wrap64 (wrap64 (la + 1) + ((n.2.1 : Nat) : Int))) {r : Nat} (hr : StopsS F1 idv r) :
    (g.2.1 = 0 → Way F L (R ++ F1.take r) (takeL idv (F1.drop r)) (bad || decide (g.1 ≠ 0) || decide (n.1 ≠ 0)) idv n.2.2) ∧
    (∀ A B C bad0 p0 s bad1 p1, PartsR L g.2.1 (bad || decide (g.1 ≠ 0) || decide (n.1 ≠ 0)) n.2.2 A B C bad0 p0 → (s, bad1, p1) = seenM L A B C idv (takeS idv (F1.drop r)) bad0 p0 → Way F L (R ++ F1.take r ++ [s]) (takeL idv (F1.drop r)) bad1 idv p1) := by
  -- what holds of each view that was written
  have key : ∀ T, rightL T = true → bytesOf (deltaT F T) = L → bad = false ∧ ∃ (P F2 T2 : List Sn) (f f' : Nat) (m : Int) (pre pad : List Nat) (id : Int), T = R ++ (P ++ T2) ∧ Nxt f F1 (P ++ T2) la m P F2 T2 id ∧ 0 ≤ la ∧ la < id ∧ (takeL id F2).length + (takeL id T2).length ≤ f' ∧ bitsOf L = pre ++ (chgB la (takeS id F2) (takeS id T2) ++ (deltaM f' (takeL id F2) (takeL id T2) id ++ putB 3 2)) ++ pad ∧ p = pre.length ∧ F1 = P ++ F2 ∧ (∀ r', StopsS F1 id r' → r' = P.length) := by
    intro T hT hL
    obtain ⟨hb, T1, f, m, pre, pad, eT, hf, rF, rT, h0, hm, bits, hp⟩ := h T hT hL
    rcases delta_next f F1 T1 la m hf rF rT h0 hm with ⟨e, ed⟩ | ⟨P, F2, T2, id, hx⟩
    · exfalso
      rw [ed, List.nil_append] at bits
      have e1 : getM L p 2 = (0, 3, (pre ++ putB 3 2).length) := gM_at (L := L) (a := pre) (k := 3) (wd := 2) (c := pad) bits hp (by omega) (by omega)
      rw [hg, e1] at h3
      exact h3 rfl
    · obtain ⟨f', hf', eb⟩ := hx.bits
      have hl := hx.lt
      refine ⟨hb, P, F2, T2, f, f', m, pre, pad, id, by rw [eT, ← hx.eT], by rw [← hx.eT]; exact hx, h0, by omega, hf', by rw [bits, eb]; simp only [List.append_assoc], hp, hx.eF, fun r' hr' => ?_⟩
      rw [hx.eF] at hr' rF
      exact stops_at hr' rF hx.low hx.ge
  constructor
  · intro hw T hT hL
    obtain ⟨hb, P, F2, T2, f, f', m, pre, pad, id, eT, hx, h0, h1, hf', bits, hp, eF, hst⟩ := key T hT hL
    have hle := hx.le
    by_cases hv : (takeS id T2).id = 0
    · have hu : (takeS id F2).id = id := by rcases hx.some_ with q | q; exact q; omega
      have ek : chgB la (takeS id F2) (takeS id T2) = wordB 0 la id := by unfold chgB; rw [hx.ne, hu]; simp [hv]
      rw [ek] at bits
      obtain ⟨w1, w2⟩ := word_at (L := L) (pre := pre) (rest := deltaM f' (takeL id F2) (takeL id T2) id ++ putB 3 2 ++ pad) (k := 0) (la := la) (id := id) (p := p) (by rw [bits]; simp only [List.append_assoc]) hp (by omega) h0 h1 hle
      rw [w1] at hg
      rw [hg] at hn
      simp only at hn
      rw [w2] at hn
      have hid : idv = id := by rw [hi, hn]; exact idv_at h0 h1 hle
      subst hid
      have hrP := hst r hr
      have e1 : F1.drop r = F2 := by rw [hrP, eF, List.drop_left]
      have e2 : F1.take r = P := by rw [hrP, eF, List.take_left]
      rw [e1, e2, hg, hn, hb]
      refine ⟨rfl, takeL idv T2, f', idv, pre ++ wordB 0 la idv, pad, ?_, hf', hx.rf, hx.rt, by omega, Int.le_refl _, by rw [bits]; simp only [List.append_assoc], rfl⟩
      have h6 := hx.hT
      rw [if_pos hv, List.nil_append] at h6
      rw [eT, ← h6, List.append_assoc]
    · exfalso
      have hv2 : (takeS id T2).id = id := by rcases takeS_id (id := id) (F := T2) with q | q; exact q; contradiction
      have ek : ∃ k : Nat, 0 < k ∧ k < 3 ∧ ∃ more, chgB la (takeS id F2) (takeS id T2) = wordB k la id ++ more := by
        unfold chgB
        rw [hx.ne]
        simp only [Bool.false_eq_true, if_false]
        rw [if_neg hv]
        split
        · exact ⟨1, by omega, by omega, _, by rw [hv2]⟩
        · exact ⟨2, by omega, by omega, _, by rw [hv2, List.append_assoc]⟩
      obtain ⟨k, hk0, hk3, more, ek⟩ := ek
      rw [ek] at bits
      obtain ⟨w1, _⟩ := word_at (L := L) (pre := pre) (rest := more ++ deltaM f' (takeL id F2) (takeL id T2) id ++ putB 3 2 ++ pad) (k := k) (la := la) (id := id) (p := p) (by rw [bits]; simp only [List.append_assoc]) hp (by omega) h0 h1 hle
      rw [hg, w1] at hw
      simp only at hw
      omega
  · intro A B C bad0 p0 s bad1 p1 hP hS T hT hL
    obtain ⟨hb, P, F2, T2, f, f', m, pre, pad, id, eT, hx, h0, h1, hf', bits, hp, eF, hst⟩ := key T hT hL
    have hle := hx.le
    by_cases hv : (takeS id T2).id = 0
    · exfalso
      have hu : (takeS id F2).id = id := by rcases hx.some_ with q | q; exact q; omega
      have ek : chgB la (takeS id F2) (takeS id T2) = wordB 0 la id := by unfold chgB; rw [hx.ne, hu]; simp [hv]
      rw [ek] at bits
      obtain ⟨w1, w2⟩ := word_at (L := L) (pre := pre) (rest := deltaM f' (takeL id F2) (takeL id T2) id ++ putB 3 2 ++ pad) (k := 0) (la := la) (id := id) (p := p) (by rw [bits]; simp only [List.append_assoc]) hp (by omega) h0 h1 hle
      rw [hg, w1] at hP
      unfold PartsR at hP
      simp at hP
    · have hv2 : (takeS id T2).id = id := by rcases takeS_id (id := id) (F := T2) with q | q; exact q; contradiction
      have h6 := hx.hT
      rw [if_neg hv] at h6
      have gF := hx.gF.good
      have gT := hx.gT.good
      by_cases hu : (takeS id F2).id = 0
      · have uz : takeS id F2 = zs := hx.gF.none_ hu
        have ek : chgB la (takeS id F2) (takeS id T2) = wordB 1 la id ++ partsB true true true (takeS id F2) (takeS id T2) := by unfold chgB; rw [hx.ne]; simp [hv, hu, hv2]; intro q; omega
        rw [ek] at bits
        obtain ⟨w1, w2⟩ := word_at (L := L) (pre := pre) (rest := partsB true true true (takeS id F2) (takeS id T2) ++ deltaM f' (takeL id F2) (takeL id T2) id ++ putB 3 2 ++ pad) (k := 1) (la := la) (id := id) (p := p) (by rw [bits]; simp only [List.append_assoc]) hp (by omega) h0 h1 hle
        rw [w1] at hg
        rw [hg] at hn
        simp only at hn
        rw [w2] at hn
        have hid : idv = id := by rw [hi, hn]; exact idv_at h0 h1 hle
        subst hid
        have hrP := hst r hr
        have e1 : F1.drop r = F2 := by rw [hrP, eF, List.drop_left]
        have e2 : F1.take r = P := by rw [hrP, eF, List.take_left]
        rw [e1] at hS
        rw [hg, hn, hb] at hP
        rcases hP with ⟨q, _⟩ | ⟨_, rfl, rfl, rfl, q4, q5⟩
        · simp at q
        · rw [q4, q5] at hS
          simp only [Bool.or_self, ne_eq, not_true_eq_false, decide_false] at hS
          rw [seenM_at (L := L) (pre := pre ++ wordB 1 la idv) (rest := deltaM f' (takeL idv F2) (takeL idv T2) idv ++ putB 3 2 ++ pad) (v := takeS idv T2) (by rw [bits]; simp only [List.append_assoc]) rfl gF gT hv2.symm (fun q => by cases q) (fun q => by cases q) (fun q => by cases q)] at hS
          injection hS with s1 s2
          injection s2 with s2 s3
          rw [e1, e2, s1, s2, s3]
          refine ⟨rfl, takeL idv T2, f', idv, pre ++ wordB 1 la idv ++ partsB true true true (takeS idv F2) (takeS idv T2), pad, ?_, hf', hx.rf, hx.rt, by omega, Int.le_refl _, by rw [bits]; simp only [List.append_assoc], rfl⟩
          rw [eT]
          conv => lhs; rw [h6]
          simp only [List.append_assoc]
      · have ek : chgB la (takeS id F2) (takeS id T2) = wordB 2 la id ++ putB (pN (d4 (takeS id F2) (takeS id T2)) (d2 (takeS id F2) (takeS id T2)) (d1 (takeS id F2) (takeS id T2))).toNat 3 ++ partsB (d4 (takeS id F2) (takeS id T2)) (d2 (takeS id F2) (takeS id T2)) (d1 (takeS id F2) (takeS id T2)) (takeS id F2) (takeS id T2) := by
          unfold chgB; rw [hx.ne]; simp only [Bool.false_eq_true, if_false]; rw [if_neg hv, if_neg hu, hv2]
        obtain ⟨u, hU⟩ : ∃ u, takeS id F2 = u := ⟨_, rfl⟩
        obtain ⟨v, hV⟩ : ∃ v, takeS id T2 = v := ⟨_, rfl⟩
        rw [hU, hV] at ek
        have hx_gF := gF; have hx_gT := gT
        rw [hU] at gF hu
        rw [hV] at gT hv hv2 h6
        obtain ⟨a4, ha4⟩ : ∃ a, d4 u v = a := ⟨_, rfl⟩
        obtain ⟨a2, ha2⟩ : ∃ a, d2 u v = a := ⟨_, rfl⟩
        obtain ⟨a1, ha1⟩ : ∃ a, d1 u v = a := ⟨_, rfl⟩
        rw [ha4, ha2, ha1] at ek
        rw [hU, hV, ek] at bits
        obtain ⟨w1, w2⟩ := word_at (L := L) (pre := pre) (rest := putB (pN a4 a2 a1).toNat 3 ++ partsB a4 a2 a1 u v ++ deltaM f' (takeL id F2) (takeL id T2) id ++ putB 3 2 ++ pad) (k := 2) (la := la) (id := id) (p := p) (by rw [bits]; simp only [List.append_assoc]) hp (by omega) h0 h1 hle
        have w3 : getM L (pre ++ wordB 2 la id).length 3 = (0, (((pN a4 a2 a1).toNat : Nat) : Int), (pre ++ wordB 2 la id ++ putB (pN a4 a2 a1).toNat 3).length) := gM_at (L := L) (a := pre ++ wordB 2 la id) (k := (pN a4 a2 a1).toNat) (wd := 3) (c := partsB a4 a2 a1 u v ++ deltaM f' (takeL id F2) (takeL id T2) id ++ putB 3 2 ++ pad) (by rw [bits]; simp only [List.append_assoc]) rfl (by cases a4 <;> cases a2 <;> cases a1 <;> decide) (by omega)
        rw [w1] at hg
        rw [hg] at hn
        simp only at hn
        rw [w2] at hn
        have hid : idv = id := by rw [hi, hn]; exact idv_at h0 h1 hle
        subst hid
        have hrP := hst r hr
        have e1 : F1.drop r = F2 := by rw [hrP, eF, List.drop_left]
        have e2 : F1.take r = P := by rw [hrP, eF, List.take_left]
        rw [e1, hU] at hS
        rw [hg, hn, hb] at hP
        rcases hP with ⟨_, q2, q3, q4⟩ | ⟨q, _⟩
        · simp only at q2 q3 q4
          rw [w3] at q2 q3 q4
          simp only at q2 q3 q4
          have q5 : (((pN a4 a2 a1).toNat : Nat) : Int) = pN a4 a2 a1 := by cases a4 <;> cases a2 <;> cases a1 <;> rfl
          rw [q5] at q2
          obtain ⟨rfl, rfl, rfl⟩ := pN_inj q2
          rw [q3, q4] at hS
          simp only [Bool.or_self, ne_eq, not_true_eq_false, decide_false] at hS
          rw [seenM_at (L := L) (pre := pre ++ wordB 2 la idv ++ putB (pN A B C).toNat 3) (rest := deltaM f' (takeL idv F2) (takeL idv T2) idv ++ putB 3 2 ++ pad) (v := v) (by rw [bits]; simp only [List.append_assoc]) rfl gF gT hv2.symm (fun q => d4_no (by rw [ha4, q])) (fun q => neqV_no (show d2 u v = false by rw [ha2, q])) (fun q => neqV_no (show d1 u v = false by rw [ha1, q]))] at hS
          injection hS with s1 s2
          injection s2 with s2 s3
          rw [e1, e2, s1, s2, s3]
          refine ⟨rfl, takeL idv T2, f', idv, pre ++ wordB 2 la idv ++ putB (pN A B C).toNat 3 ++ partsB A B C u v, pad, ?_, hf', hx.rf, hx.rt, by omega, Int.le_refl _, by rw [bits]; simp only [List.append_assoc], rfl⟩
          rw [eT]
          conv => lhs; rw [h6]
          simp only [List.append_assoc]
        · simp at q
end Go.Proofs.Ytedhdmahdioboaa
/- (*snap.reader).view: the view that comes of another one: whichever bytes. -/
namespace Go.Proofs.Ytedhdmahdioboaa
open Go.ChangeShapes Go.WideShapes Go.ChangeAt Go.RowKit
set_option linter.unusedVariables false
set_option linter.unusedSimpArgs false

theorem gatherM_ge (most : Nat) (l : List Nat) : ∀ (f i n p : Nat), p ≤ (gatherM most l f i n p).2.2 := by
  intro f
  induction f with
  | zero => intro i n p; exact Nat.le_refl _
  | succ f ih =>
    intro i n p
    rw [gatherM_succ]
    split
    · exact Nat.le_refl _
    · split
      · exact Nat.le_add_right _ _
      · split
        · exact Nat.le_add_right _ _
        · split
          · exact Nat.le_add_right _ _
          · exact Nat.le_trans (Nat.le_add_right _ _) (ih _ _ _)
theorem numM_ge (most : Nat) (L : List Nat) (p : Nat) : p ≤ (numM most L p).2.2 := by
  unfold numM
  split
  · exact gatherM_ge _ _ _ _ _ _
  · exact Nat.le_refl _
theorem intM_ge (L : List Nat) (p : Nat) : p ≤ (intM L p).2.2 := by
  unfold intM
  split
  · exact numM_ge _ _ _
  · exact Nat.le_refl _
theorem getM_ge (L : List Nat) (p : Nat) (wd : Int) : p ≤ (getM L p wd).2.2 := by
  unfold getM
  split
  · exact Nat.le_refl _
  · split
    · exact Nat.le_refl _
    · exact Nat.le_add_right _ _
theorem vecP_ge (L : List Nat) (p : Nat) : p ≤ vecP L p := Nat.le_trans (intM_ge L p) (Nat.le_trans (intM_ge L _) (intM_ge L _))
theorem seenM_ge (L : List Nat) (A B C : Bool) (id : Int) (u : Sn) (bad : Bool) (p : Nat) : p ≤ (seenM L A B C id u bad p).2.2 := by
  have h1 : p ≤ (seen1 L A u ({ u with id := id }, bad, p)).2.2 := by
    unfold seen1
    split
    · exact Nat.le_trans (getM_ge L p 3) (vecP_ge L _)
    · exact Nat.le_refl _
  have h2 : ∀ x : Sn × Bool × Nat, x.2.2 ≤ (seen2 L B u x).2.2 := by
    intro x; unfold seen2
    split
    · exact vecP_ge L _
    · exact Nat.le_refl _
  have h3 : ∀ x : Sn × Bool × Nat, x.2.2 ≤ (seen3 L C u x).2.2 := by
    intro x; unfold seen3
    split
    · exact vecP_ge L _
    · exact Nat.le_refl _
  exact Nat.le_trans h1 (Nat.le_trans (h2 _) (h3 _))
theorem parts_ge {L : List Nat} {word : Int} {bad : Bool} {p : Nat} {A B C bad0 : Bool} {p0 : Nat} (h : PartsR L word bad p A B C bad0 p0) : p ≤ p0 := by
  rcases h with ⟨_, _, _, e⟩ | ⟨_, _, _, _, _, e⟩
  · rw [e]; exact getM_ge L p 3
  · omega
theorem get2 (L : List Nat) (p : Nat) : ∃ k : Nat, k < 4 ∧ (getM L p 2).2.1 = (k : Int) ∧ ((getM L p 2).1 = 0 → (getM L p 2).2.2 = p + 2) := by
  unfold getM
  rw [if_neg (by simp)]
  split
  · exact ⟨0, by omega, rfl, fun e => by cases e⟩
  · refine ⟨_, ?_, rfl, fun _ => rfl⟩
    have hb : Bits (((bitsOf L).drop p).take (2 : Int).toNat) := fun b hb => bitsOf_bits L b (List.mem_of_mem_drop (List.mem_of_mem_take hb))
    have := valB_lt hb
    have hl : (((bitsOf L).drop p).take (2 : Int).toNat).length ≤ 2 := by rw [List.length_take]; exact Nat.min_le_left _ _
    exact Nat.lt_of_lt_of_le this (Nat.pow_le_pow_right (by omega) hl)
theorem takeL_le (id : Int) (L : List Sn) : (takeL id L).length ≤ L.length := by
  cases L with
  | nil => exact Nat.le_refl _
  | cons s t => by_cases e : s.id = id <;> simp [takeL, e]
theorem rvarN_calls (r : Nat) (a : Option Addr) (c : Nat) (L : List Nat) (p : Nat) (w : World) (h : RdAt w r a c L p) (n : Nat × Nat × Nat) (hn : n = numM 4611686018427387903 L p) :
    Calls Try.prog 109 #[.pointer (some ⟨r, 0, none⟩)] w fun e w' => e = .returned (.tuple #[.int .i64 (((n.2.1 : Nat) : Int)), eN n.1]) ∧ RdAt w' r a c L n.2.2 ∧ Only [r] w w' := by
  subst hn
  exact rvar_calls r a c L p w h
/-- While a view is read. -/
structure VwS (w0 w : World) (kr r : Nat) (a : Option Addr) (c : Nat) (L : List Nat) (F : List Sn) (fv tv : Value) (F1 R : List Sn) (bad : Bool) (la : Int) (p : Nat) (wr : World) : Prop where
  sv : SvAt w0 fv F1
  nil : NilOk fv
  own : wr.ownsRow w.heap.size 120 11 tv R.length (rowS R)
  sr : SR wr kr r a c L bad la p
  only : Only [kr, r] w wr
  lf : F1.length ≤ 60
  len : R.length + F1.length ≤ F.length + p
  way : Way F L R F1 bad la p
/-- What lies apart. -/
structure VwC (w0 w : World) (kr r : Nat) (a : Option Addr) (L : List Nat) (F : List Sn) : Prop where
  o0 : Only [] w0 w
  k0 : w0.heap.size ≤ kr ∧ w0.heap.size ≤ r
  old : kr < w.heap.size ∧ r < w.heap.size ∧ ∀ g o, a = some ⟨g, o, none⟩ → L ≠ [] → g < w.heap.size
  lF : F.length ≤ 60
  lL : L.length ≤ 4000
section
variable {w0 w : World} {kr r : Nat} {a : Option Addr} {c : Nat} {L : List Nat} {F : List Sn}
theorem VwC.from0 (h : VwC w0 w kr r a L F) {wr : World} (o : Only [kr, r] w wr) : Only [] w0 wr := h.o0.then o (fun y hy => by
  have := h.k0
  simp only [List.mem_cons, List.not_mem_nil, or_false] at hy
  rcases hy with rfl | rfl
  · exact Or.inr this.1
  · exact Or.inr this.2)
/-- A row of one's own stays where others turn. -/
theorem ownS_keep {wr w' : World} {b : Nat} {T : TypeId} {v : Value} {n s : Nat} {xs : List Value} {D : List Nat} (h : wr.ownsRow b T s v n xs) (o : Only D wr w') (hd : ∀ k ∈ D, k < b) : w'.ownsRow b T s v n xs := by
  obtain ⟨h1, h2 | ⟨g, cap, cur, e, hb, hg, rest⟩⟩ := h
  · exact ⟨h1, Or.inl h2⟩
  · exact ⟨h1, Or.inr ⟨g, cap, cur, e, hb, (o.block g (Array.getElem?_eq_some_iff.1 hg).1 (fun q => by have := hd g q; omega)).trans hg, rest⟩⟩
theorem ownS_ge {wr : World} {b : Nat} {T : TypeId} {v : Value} {n s : Nat} {xs : List Value} (h : wr.ownsRow b T s v n xs) : ∀ k, v.ownBlock = some k → b ≤ k := by
  obtain ⟨h1, ⟨rfl, _⟩ | ⟨g, cap, cur, rfl, hb, _⟩⟩ := h
  · intro k e; cases e
  · intro k e; simp only [Value.ownBlock, Option.some.injEq] at e; omega
theorem VwS.grow {fv tv tv' : Value} {F1 R R' : List Sn} {bad : Bool} {la : Int} {p : Nat} {wr w' : World} (hc : VwC w0 w kr r a L F) (hown0 : wr.ownsRow w.heap.size 120 11 tv R.length (rowS R)) (hsr : SR wr kr r a c L bad la p) (ho : Only [kr, r] w wr) (hgrow : wr.grownBy w' tv.ownBlock) : SR w' kr r a c L bad la p ∧ Only [kr, r] w w' ∧ Only (tv.ownBlock.toList) wr w' := by
  have hg : Only (tv.ownBlock.toList) wr w' := (Only.refl _ wr).grown hgrow (fun k hk => Or.inl (by simp [hk]))
  have hge := ownS_ge hown0
  obtain ⟨o1, o2, o3⟩ := hc.old
  refine ⟨hsr.only hg (fun q => ?_) (fun q => ?_) (fun g o e hL q => ?_), ho.grown hgrow (fun k hk => Or.inr (hge k hk)), hg⟩
  · have := hge kr (by simpa using q); omega
  · have := hge r (by simpa using q); omega
  · have := hge g (by simpa using q); have := o3 g o e hL; omega
end
theorem ownS_lt {wr : World} {b : Nat} {T : TypeId} {v : Value} {n s : Nat} {xs : List Value} (h : wr.ownsRow b T s v n xs) : ∀ k, v.ownBlock = some k → k < wr.heap.size := by
  obtain ⟨h1, ⟨rfl, _⟩ | ⟨g, cap, cur, rfl, hb, hg, _⟩⟩ := h
  · intro k e; cases e
  · intro k e; simp only [Value.ownBlock, Option.some.injEq] at e; subst e; exact (Array.getElem?_eq_some_iff.1 hg).1
theorem ownS_far {wr w' : World} {b : Nat} {T : TypeId} {v : Value} {n s : Nat} {xs : List Value} {D : List Nat} (h : wr.ownsRow b T s v n xs) (o : Only D wr w') (hd : ∀ k, v.ownBlock = some k → k ∉ D) : w'.ownsRow b T s v n xs := by
  obtain ⟨h1, h2 | ⟨g, cap, cur, rfl, hb, hg, rest⟩⟩ := h
  · exact ⟨h1, Or.inl h2⟩
  · exact ⟨h1, Or.inr ⟨g, cap, cur, rfl, hb, (o.block g (Array.getElem?_eq_some_iff.1 hg).1 (hd g rfl)).trans hg, rest⟩⟩
theorem seen_one (w : World) (s : Sn) : SeenAt (w.alloc (.cells #[.int .i64 (s.id), .int .i64 (s.kd), .int .i64 (s.sx), .int .i64 (s.sy), .int .i64 (s.sz), .int .i64 (s.ax), .int .i64 (s.ay), .int .i64 (s.az), .int .i64 (s.vx), .int .i64 (s.vy), .int .i64 (s.vz)] 120)) (some ⟨w.heap.size, 0, none⟩) [s].length (fun j => [s].getD j zs) := by
  intro j hj
  obtain rfl : j = 0 := by simp at hj; omega
  refine ⟨_, _, rfl, fun k hk => ?_⟩
  have h := (SnAt.new 120 w s).off k
  simp only [Nat.zero_mul, Nat.zero_add, Nat.add_zero] at h ⊢
  rw [h]
  match k, hk with
  | 0, _ => rfl
  | 1, _ => rfl
  | 2, _ => rfl
  | 3, _ => rfl
  | 4, _ => rfl
  | 5, _ => rfl
  | 6, _ => rfl
  | 7, _ => rfl
  | 8, _ => rfl
  | 9, _ => rfl
  | 10, _ => rfl
  | k + 11, h => exact absurd h (by omega)
def ViewPost (kr r : Nat) (a : Option Addr) (c : Nat) (L : List Nat) (F : List Sn) (w : World) (e : Ending) (w' : World) : Prop :=
  ∃ v R bad la p, e = .returned v ∧ w'.ownsRow w.heap.size 120 11 v R.length (rowS R) ∧ R.length ≤ 100000 ∧ SR w' kr r a c L bad la p ∧ Only [kr, r] w w' ∧ ∀ T, rightL T = true → bytesOf (deltaT F T) = L → bad = false ∧ R = T
set_option maxRecDepth 100000 in
set_option maxHeartbeats 3000000 in
theorem view_calls (w0 : World) (kr r : Nat) (a : Option Addr) (c : Nat) (L : List Nat) (F : List Sn) (fv : Value) (w : World) (hR : SR w kr r a c L false 0 0) (hC : VwC w0 w kr r a L F) (hv : SvAt w0 fv F) (hn : NilOk fv) (hF : rightL F = true) :
    Calls Try.prog 117 #[.pointer (some ⟨kr, 0, none⟩), fv] w (ViewPost kr r a c L F w) := by
  have HC : Hid (VwC w0 w kr r a L F) := hC
  have H0 : Hid (VwS w0 w kr r a c L F fv (.slice none 0 0) F [] false 0 0 w) := ⟨hv, hn, World.ownsRow_nil w _ _ _, hR, Only.refl _ _, hC.lF, by simp, Way.start hF L⟩
  clear hR hC hv hn hF
  go_enter Try.func117, Try.ntmps117
  go_wp2_with fail
  go_loopg [1, 5] (8 * L.length) (fun k s1 s5 wr => ∃ (fv1 tv : Value) (F1 R : List Sn) (bad : Bool) (la : Int) (p : Nat), fv1 = s1 ∧ tv = s5 ∧ Hid (k = 8 * L.length - p) ∧ Hid (VwS w0 w kr r a c L F fv1 tv F1 R bad la p wr))
  case atStart => exact ⟨_, _, F, [], false, 0, 0, rfl, rfl, rfl, H0⟩
  case round =>
    clear H0
    obtain ⟨fv1, tv, F1, R, bad, la, p, rfl, rfl, HI, HV⟩ := hrel
    obtain ⟨af, cf, rfl, hcf, hsf0⟩ := HV.out.sv
    have hnil : af = none → cf = 0 := fun e => HV.out.nil F1.length cf (by rw [e])
    have HS0 : Hid (SeenAt w0 af F1.length (fun j => F1.getD j zs) ∧ (af = none → cf = 0) ∧ F1.length ≤ cf) := ⟨hsf0, hnil, hcf⟩
    clear hsf0 hnil hcf
    have c0 := HV.out.sr.c0
    obtain ⟨g, hg⟩ : ∃ g, g = getM L p 2 := ⟨_, rfl⟩
    have HG : Hid (g = getM L p 2) := hg
    go_wp2_with fail
    refine (get_getM r a c L p 2 _ HV.out.sr.rd).mono ?_
    rw [← hg]
    rintro e w1 ⟨rfl, h2, o2⟩
    rw [show (if ((g.1 : Nat) : Int) = 0 then Value.nilIface else errV ((g.1 : Nat) : Int)) = eN g.1 from rfl]
    have H1 : Hid (SR w1 kr r a c L bad la g.2.2 ∧ Only [r] wr w1) := ⟨HV.out.sr.read h2 o2, o2⟩
    clear h2 o2 hg c0
    go_wp2_with fail
    refine (numberS_calls kr r a c L _ la g.2.2 g.2.1 g.1 w1 H1.out.1).mono ?_
    rintro e w2 ⟨rfl, h3, o3⟩
    have H2 : Hid (SR w2 kr r a c L (bad || decide (g.1 ≠ 0)) la g.2.2 ∧ Only [kr, r] wr w2 ∧ Only [kr, r] w w2 ∧ w2.ownsRow w.heap.size 120 11 tv R.length (rowS R)) := by
      have o4 : Only [kr, r] wr w2 := SR.pair (D := []) H1.out.2 o3
      refine ⟨h3, o4, HV.out.only.trans o4, ownS_keep HV.out.own o4 (fun k hk => ?_)⟩
      have := HC.out.old
      simp only [List.mem_cons, List.not_mem_nil, or_false] at hk
      rcases hk with rfl | rfl
      · exact this.1
      · exact this.2.1
    clear h3 o3 H1
    obtain ⟨k, hk4, hkg, hk2⟩ := get2 L p
    rw [← HG.out] at hkg hk2
    rw [hkg]
    have HK : Hid (k < 4 ∧ g.2.1 = (k : Int) ∧ (g.1 = 0 → g.2.2 = p + 2)) := ⟨hk4, hkg, hk2⟩
    clear hk4 hkg hk2
    have c1 := H2.out.1.c0
    obtain ⟨er, heb, hce⟩ := H2.out.1.er
    have HEB : Hid ((bad || decide (g.1 ≠ 0)) = decide (er ≠ 0)) := heb
    clear heb
    have hsf2 : SeenAt w2 af F1.length (fun j => F1.getD j zs) := HS0.out.1.only (HC.out.from0 H2.out.2.2.1)
    have hown2 := H2.out.2.2.2
    have hnl := HS0.out.2.1
    have hcf := HS0.out.2.2
    have hbs : w.heap.size ≤ w2.heap.size := H2.out.2.2.1.size
    have hlen : R.length + F1.length ≤ 100000 := by have h1 := HV.out.len; have h2 := HC.out.lF; have h3 := HC.out.lL; have h4 := HV.out.sr.rd.pos; omega
    by_cases hk3 : k = 3
    · subst hk3
      have HEND : Hid (∀ T, rightL T = true → bytesOf (deltaT F T) = L → (bad || decide (g.1 ≠ 0)) = false ∧ R ++ F1 = T) := HV.out.way.done HG.out (Or.inl HK.out.2.1)
      go_wp2_with (first | (at_builtin; refine wpList_appendS snapT rfl _ _ rfl w.heap.size tv R rfl hown2 af F1.length cf F1 rfl rfl hsf2 hnl hcf (by omega) hbs ?_; intro v9 w9 hown hgrow hloc; have H9 : Hid (w9.ownsRow w.heap.size 120 11 v9 (R ++ F1).length (rowS (R ++ F1)) ∧ SR w9 kr r a c L (bad || decide (g.1 ≠ 0)) la g.2.2 ∧ Only [kr, r] w w9) := ⟨hown, (VwS.grow (fv := .slice none 0 0) (tv' := .slice none 0 0) (F1 := []) (R' := []) HC.out hown2 H2.out.1 H2.out.2.2.1 hgrow).1, (VwS.grow (fv := .slice none 0 0) (tv' := .slice none 0 0) (F1 := []) (R' := []) HC.out hown2 H2.out.1 H2.out.2.2.1 hgrow).2.1⟩; clear hown hgrow hloc))
      exact bodyPost_ret (v := v9) (by simp [results, Try.results117, go_sem]) rfl ⟨v9, R ++ F1, _, _, _, rfl, H9.out.1, by rw [List.length_append]; omega, H9.out.2.1, H9.out.2.2, fun T hT hL => HEND.out T hT hL⟩
    · have hk3b : ((k : Int) == 3) = false := by simp; omega
      have HK3 : Hid (k ≠ 3) := hk3
      clear hk3
      by_cases he : er = 0
      · rw [he, eN_zero] at hce
        have HB0 : Hid ((bad || decide (g.1 ≠ 0)) = false) := by show _ = _; rw [HEB.out, he]; rfl
        clear he HEB
        have HP : Hid (g.2.2 = p + 2) := HK.out.2.2 (by have := HB0.out; rw [Bool.or_eq_false_iff] at this; simpa using this.2)
        obtain ⟨nn, hnn⟩ : ∃ n, n = numM 4611686018427387903 L g.2.2 := ⟨_, rfl⟩
        have HNN : Hid (nn = numM 4611686018427387903 L g.2.2) := hnn
        clear hnn
        go_upto_region 5 with fail
        have c2 := H2.out.1.c2
        refine wp_region_held_drew (S := (fun w' => w'.cell? ⟨kr, 0, none⟩ = some (.pointer (some ⟨r, 0, none⟩)) ∧ w'.cell? ⟨kr, 2, none⟩ = some (.int .i64 la))) (by kernel_rfl) ?_ (fun hHeld1 => ?_)
        · (try dsimp only); exact ⟨c1, c2⟩
        refine tkW 0 rfl ?_; refine tkW 1 rfl ?_; refine tkW 2 rfl ?_; refine tkW 3 rfl ?_
        try simp only [Act.put, List.setIfInBounds_toArray, List.set_cons_zero, List.set_cons_succ, List.getElem_toArray, List.getElem_cons_succ, List.getElem_cons_zero]
        refine tkW 4 rfl ?_; refine tkW 5 rfl ?_; refine tkW 6 rfl ?_; refine tkW 7 rfl ?_
        try simp only [Act.put, List.setIfInBounds_toArray, List.set_cons_zero, List.set_cons_succ, List.getElem_toArray, List.getElem_cons_succ, List.getElem_cons_zero]
        refine tkW 8 rfl ?_; refine tkW 9 rfl ?_
        try simp only [Act.put, List.setIfInBounds_toArray, List.set_cons_zero, List.set_cons_succ, List.getElem_toArray, List.getElem_cons_succ, List.getElem_cons_zero]
        refine wpAnyH_ready (rs := [10]) (by kernel_rfl) (by simp) ?_
        refine AllReadyH.cons rfl (fun K hK => ?_) AllReadyH.nil
        first | (with_reducible refine iteYes ?hcx ?htx; case hcx => kernel_rfl) | rw [if_pos (by rfl)]
        simp only [List.getElem_toArray, List.getElem_cons_succ, List.getElem_cons_zero]
        go_simp
        (go_at_call 109; refine (rvarN_calls r a c L _ _ (H2.out.1.keep (Only.refl _ _).drew).rd nn HNN.out).mono ?_; rintro e w3 ⟨rfl, h3, o3⟩)
        try go_wp2_with fail
        refine hK.out _ _ ?_ (fun hHeld2 => ?_)
        · (try dsimp only); exact ⟨o3.cell (a := ⟨kr, 0, none⟩) (v := .pointer (some ⟨r, 0, none⟩)) c1 (by simpa using H2.out.1.hkr), o3.cell (a := ⟨kr, 2, none⟩) (v := .int .i64 la) c2 (by simpa using H2.out.1.hkr)⟩
        clear hK K hHeld1
        try simp only [Act.put, List.setIfInBounds_toArray, List.set_cons_zero, List.set_cons_succ, List.getElem_toArray, List.getElem_cons_succ, List.getElem_cons_zero]
        have H3 : Hid (SR w3 kr r a c L (bad || decide (g.1 ≠ 0)) la nn.2.2 ∧ Only [r] w2 w3) := ⟨(H2.out.1.keep (Only.refl _ _).drew).read h3 o3, (Only.refl [r] w2).drew.trans o3⟩
        clear h3 o3
        refine tkW 11 rfl ?_; refine tkW 12 rfl ?_
        try simp only [Act.put, List.setIfInBounds_toArray, List.set_cons_zero, List.set_cons_succ, List.getElem_toArray, List.getElem_cons_succ, List.getElem_cons_zero]
        refine wpAnyH_ready (rs := [13]) (by kernel_rfl) (by simp) ?_
        refine AllReadyH.cons rfl (fun K hK => ?_) AllReadyH.nil
        first | (with_reducible refine iteYes ?hcx ?htx; case hcx => kernel_rfl) | rw [if_pos (by rfl)]
        simp only [List.getElem_toArray, List.getElem_cons_succ, List.getElem_cons_zero]
        go_simp
        (go_at_call 141; refine (numberS_calls kr r a c L _ la nn.2.2 ((nn.2.1 : Nat) : Int) nn.1 w3 H3.out.1).mono ?_; rintro e w4 ⟨rfl, h4, o4⟩)
        try go_wp2_with fail
        refine hK.out _ _ ?_ (fun hHeld3 => ?_)
        · (try dsimp only); exact ⟨h4.c0, h4.c2⟩
        clear hK K hHeld2
        try simp only [Act.put, List.setIfInBounds_toArray, List.set_cons_zero, List.set_cons_succ, List.getElem_toArray, List.getElem_cons_succ, List.getElem_cons_zero]
        refine tkW 14 rfl ?_; refine tkW 15 rfl ?_
        try simp only [Act.put, List.setIfInBounds_toArray, List.set_cons_zero, List.set_cons_succ, List.getElem_toArray, List.getElem_cons_succ, List.getElem_cons_zero]
        refine wpAnyH_done (by kernel_rfl) ?_ _
        have H4 : Hid (SR w4 kr r a c L (bad || decide (g.1 ≠ 0) || decide (nn.1 ≠ 0)) la nn.2.2 ∧ Only [kr, r] w2 w4) := ⟨h4, SR.pair (D := []) H3.out.2 o4⟩
        clear h4 o4 H3 c1 c2 hce
        obtain ⟨idv, hidv⟩ : ∃ x, x = IntKind.i64.wrap (IntKind.i64.wrap (la + 1) + ((nn.2.1 : Nat) : Int)) := ⟨_, rfl⟩
        rw [← hidv]
        have HID : Hid (idv = wrap64 (wrap64 (la + 1) + ((nn.2.1 : Nat) : Int))) := by show _ = _; rw [hidv, IntWalk.i64_left, IntWalk.i64_left]
        clear hidv
        have c2 := H4.out.1.c2; have y2 := H4.out.1.free 2
        go_upto_region 7 with fail
        have H5 : Hid (SR (w4.setCell ⟨kr, 2, none⟩ (.int .i64 idv)) kr r a c L (bad || decide (g.1 ≠ 0) || decide (nn.1 ≠ 0)) idv nn.2.2 ∧ Only [kr, r] w2 (w4.setCell ⟨kr, 2, none⟩ (.int .i64 idv))) := ⟨H4.out.1.putLast idv, H4.out.2.setCell (p := ⟨kr, 2, none⟩) (Or.inl (by simp)) _⟩
        clear H4 c2 y2
        generalize w4.setCell ⟨kr, 2, none⟩ (.int .i64 idv) = w5 at H5 ⊢
        go_wp2_with fail
        refine (searchS_calls F1 idv _ _ ⟨af, cf, rfl, hcf, HS0.out.1.only (HC.out.from0 (H2.out.2.2.1.trans H5.out.2))⟩ (by have := HV.out.lf; omega)).mono ?_
        rintro e w6 ⟨rr, bb, rfl, hst, o6⟩
        have HST : Hid (StopsS F1 idv rr) := hst
        have H6 : Hid (SR w6 kr r a c L (bad || decide (g.1 ≠ 0) || decide (nn.1 ≠ 0)) idv nn.2.2 ∧ Only [kr, r] w w6 ∧ w6.ownsRow w.heap.size 120 11 tv R.length (rowS R)) := by
          have o7 : Only [kr, r] w2 w6 := H5.out.2.then o6 (by simp)
          refine ⟨H5.out.1.keep o6, H2.out.2.2.1.trans o7, ownS_keep H2.out.2.2.2 o7 (fun k hk => ?_)⟩
          have := HC.out.old
          simp only [List.mem_cons, List.not_mem_nil, or_false] at hk
          rcases hk with rfl | rfl
          · exact this.1
          · exact this.2.1
        clear o6 H5 hst hsf2 hown2 hbs
        have hrl : rr ≤ F1.length := HST.out.1
        have hrc : rr ≤ cf := by omega
        have htl : rr = (F1.take rr).length := by rw [List.length_take]; omega
        have HTL : Hid (rr = (F1.take rr).length) := htl
        clear htl
        have hsf6 : SeenAt w6 af F1.length (fun j => F1.getD j zs) := HS0.out.1.only (HC.out.from0 H6.out.2.1)
        have hst6 := seen_take hsf6 rr
        have hown6 := H6.out.2.2
        have hb6 : w.heap.size ≤ w6.heap.size := H6.out.2.1.size
        have hl6 : (F1.take rr).length ≤ cf := by have := HTL.out; omega
        have hs6 : R.length + (F1.take rr).length ≤ 1000000 := by have := HTL.out; omega
        go_upto_region 9 with (first | (refine wpList_toS _ (Or.inl rfl) rfl (.tmp 58) (.tmp 59) af F1.length cf rr rfl rfl rfl hrc ?_) | (at_builtin; refine wpList_appendS snapT rfl _ _ rfl w.heap.size tv R rfl hown6 af rr cf (F1.take rr) rfl HTL.out hst6 hnl hl6 hs6 hb6 ?_; intro v8 w8 hown hgrow hloc; have H8 : Hid (w8.ownsRow w.heap.size 120 11 v8 (R ++ F1.take rr).length (rowS (R ++ F1.take rr)) ∧ SR w8 kr r a c L (bad || decide (g.1 ≠ 0) || decide (nn.1 ≠ 0)) idv nn.2.2 ∧ Only [kr, r] w w8) := ⟨hown, (VwS.grow (fv := .slice none 0 0) (tv' := .slice none 0 0) (F1 := []) (R' := []) HC.out hown6 H6.out.1 H6.out.2.1 hgrow).1, (VwS.grow (fv := .slice none 0 0) (tv' := .slice none 0 0) (F1 := []) (R' := []) HC.out hown6 H6.out.1 H6.out.2.1 hgrow).2.1⟩; clear hown hgrow hloc))
        clear hsf6 hst6 hown6 hb6 hl6 hs6 H6
        go_upto_region 10 with fail
        have H9 : Hid ((w8.alloc (.cells #[.int .i64 0, .int .i64 0, .int .i64 0, .int .i64 0, .int .i64 0, .int .i64 0, .int .i64 0, .int .i64 0, .int .i64 0, .int .i64 0, .int .i64 0] 120)).ownsRow w.heap.size 120 11 v8 (R ++ F1.take rr).length (rowS (R ++ F1.take rr)) ∧ SR (w8.alloc (.cells #[.int .i64 0, .int .i64 0, .int .i64 0, .int .i64 0, .int .i64 0, .int .i64 0, .int .i64 0, .int .i64 0, .int .i64 0, .int .i64 0, .int .i64 0] 120)) kr r a c L (bad || decide (g.1 ≠ 0) || decide (nn.1 ≠ 0)) idv nn.2.2 ∧ Only [kr, r] w (w8.alloc (.cells #[.int .i64 0, .int .i64 0, .int .i64 0, .int .i64 0, .int .i64 0, .int .i64 0, .int .i64 0, .int .i64 0, .int .i64 0, .int .i64 0, .int .i64 0] 120)) ∧ SnAt 120 (w8.alloc (.cells #[.int .i64 0, .int .i64 0, .int .i64 0, .int .i64 0, .int .i64 0, .int .i64 0, .int .i64 0, .int .i64 0, .int .i64 0, .int .i64 0, .int .i64 0] 120)) w8.heap.size zs ∧ w.heap.size ≤ w8.heap.size ∧ (∀ k, v8.ownBlock = some k → k ≠ w8.heap.size)) := by
          have o : Only [] w8 (w8.alloc (.cells #[.int .i64 0, .int .i64 0, .int .i64 0, .int .i64 0, .int .i64 0, .int .i64 0, .int .i64 0, .int .i64 0, .int .i64 0, .int .i64 0, .int .i64 0] 120)) := (Only.refl [] w8).alloc _
          refine ⟨ownS_keep H8.out.1 o (by simp), H8.out.2.1.keep o, H8.out.2.2.then o (by simp), zs_new w8, H8.out.2.2.size, fun k hk e => ?_⟩
          have := ownS_lt H8.out.1 k hk
          omega
        clear H8
        revert H9
        generalize w8.heap.size = k10
        generalize World.alloc w8 _ = w9
        intro H9
        go_wp2_with (first | (refine wpList_fromS _ (Or.inl rfl) rfl (.tmp 63) (.tmp 64) af F1.length cf rr rfl rfl rfl hrl ?_))
        refine (takeN_calls (F1.drop rr) idv _ _ (sv_drop (HS0.out.1.only (HC.out.from0 H9.out.2.2.1)) hcf hrl) (by have := HV.out.lf; rw [List.length_drop]; omega)).mono ?_
        rintro e wt ⟨v', rfl, hsv, hnl2, ot⟩
        have HNV : Hid ((∀ w0, SvAt w0 (.slice (fromS af cf rr) (F1.length - rr) (cf - rr)) (F1.drop rr) → SvAt w0 v' (takeL idv (F1.drop rr))) ∧ NilOk v') := ⟨hsv, hnl2 (nil_drop hnl)⟩
        obtain ⟨U, hU⟩ : ∃ U, takeS idv (F1.drop rr) = U := ⟨_, rfl⟩
        have HU : Hid (takeS idv (F1.drop rr) = U) := hU
        rw [hU]
        clear hU hsv hnl2
        have HT : Hid (wt.ownsRow w.heap.size 120 11 v8 (R ++ F1.take rr).length (rowS (R ++ F1.take rr)) ∧ SR wt kr r a c L (bad || decide (g.1 ≠ 0) || decide (nn.1 ≠ 0)) idv nn.2.2 ∧ Only [kr, r] w wt ∧ SnAt 120 wt k10 zs ∧ w.heap.size ≤ k10 ∧ (∀ k, v8.ownBlock = some k → k ≠ k10)) :=
          ⟨ownS_keep H9.out.1 ot (by simp), H9.out.2.1.keep ot, H9.out.2.2.1.then ot (by simp), H9.out.2.2.2.1.only ot (by simp), H9.out.2.2.2.2⟩
        clear ot H9
        have z0 := HT.out.2.2.2.1.off 0; have y0 := HT.out.2.2.2.1.free 0
        have z1 := HT.out.2.2.2.1.off 1; have y1 := HT.out.2.2.2.1.free 1
        have z2 := HT.out.2.2.2.1.off 2; have y2 := HT.out.2.2.2.1.free 2
        have z3 := HT.out.2.2.2.1.off 3; have y3 := HT.out.2.2.2.1.free 3
        have z4 := HT.out.2.2.2.1.off 4; have y4 := HT.out.2.2.2.1.free 4
        have z5 := HT.out.2.2.2.1.off 5; have y5 := HT.out.2.2.2.1.free 5
        have z6 := HT.out.2.2.2.1.off 6; have y6 := HT.out.2.2.2.1.free 6
        have z7 := HT.out.2.2.2.1.off 7; have y7 := HT.out.2.2.2.1.free 7
        have z8 := HT.out.2.2.2.1.off 8; have y8 := HT.out.2.2.2.1.free 8
        have z9 := HT.out.2.2.2.1.off 9; have y9 := HT.out.2.2.2.1.free 9
        have z10 := HT.out.2.2.2.1.off 10; have y10 := HT.out.2.2.2.1.free 10
        simp only [zs, List.getElem?_toArray, List.getElem?_cons_succ, List.getElem?_cons_zero] at z0 z1 z2 z3 z4 z5 z6 z7 z8 z9 z10
        have HF : Hid ((((((((((((wt.setCell ⟨k10, 0, none⟩ (.int .i64 (U.id))).setCell ⟨k10, 1, none⟩ (.int .i64 (U.kd))).setCell ⟨k10, 2, none⟩ (.int .i64 (U.sx))).setCell ⟨k10, 3, none⟩ (.int .i64 (U.sy))).setCell ⟨k10, 4, none⟩ (.int .i64 (U.sz))).setCell ⟨k10, 5, none⟩ (.int .i64 (U.ax))).setCell ⟨k10, 6, none⟩ (.int .i64 (U.ay))).setCell ⟨k10, 7, none⟩ (.int .i64 (U.az))).setCell ⟨k10, 8, none⟩ (.int .i64 (U.vx))).setCell ⟨k10, 9, none⟩ (.int .i64 (U.vy))).setCell ⟨k10, 10, none⟩ (.int .i64 (U.vz))).ownsRow w.heap.size 120 11 v8 (R ++ F1.take rr).length (rowS (R ++ F1.take rr)) ∧ SR (((((((((((wt.setCell ⟨k10, 0, none⟩ (.int .i64 (U.id))).setCell ⟨k10, 1, none⟩ (.int .i64 (U.kd))).setCell ⟨k10, 2, none⟩ (.int .i64 (U.sx))).setCell ⟨k10, 3, none⟩ (.int .i64 (U.sy))).setCell ⟨k10, 4, none⟩ (.int .i64 (U.sz))).setCell ⟨k10, 5, none⟩ (.int .i64 (U.ax))).setCell ⟨k10, 6, none⟩ (.int .i64 (U.ay))).setCell ⟨k10, 7, none⟩ (.int .i64 (U.az))).setCell ⟨k10, 8, none⟩ (.int .i64 (U.vx))).setCell ⟨k10, 9, none⟩ (.int .i64 (U.vy))).setCell ⟨k10, 10, none⟩ (.int .i64 (U.vz))) kr r a c L (bad || decide (g.1 ≠ 0) || decide (nn.1 ≠ 0)) idv nn.2.2 ∧ Only [kr, r] w (((((((((((wt.setCell ⟨k10, 0, none⟩ (.int .i64 (U.id))).setCell ⟨k10, 1, none⟩ (.int .i64 (U.kd))).setCell ⟨k10, 2, none⟩ (.int .i64 (U.sx))).setCell ⟨k10, 3, none⟩ (.int .i64 (U.sy))).setCell ⟨k10, 4, none⟩ (.int .i64 (U.sz))).setCell ⟨k10, 5, none⟩ (.int .i64 (U.ax))).setCell ⟨k10, 6, none⟩ (.int .i64 (U.ay))).setCell ⟨k10, 7, none⟩ (.int .i64 (U.az))).setCell ⟨k10, 8, none⟩ (.int .i64 (U.vx))).setCell ⟨k10, 9, none⟩ (.int .i64 (U.vy))).setCell ⟨k10, 10, none⟩ (.int .i64 (U.vz))) ∧ SnAt 120 (((((((((((wt.setCell ⟨k10, 0, none⟩ (.int .i64 (U.id))).setCell ⟨k10, 1, none⟩ (.int .i64 (U.kd))).setCell ⟨k10, 2, none⟩ (.int .i64 (U.sx))).setCell ⟨k10, 3, none⟩ (.int .i64 (U.sy))).setCell ⟨k10, 4, none⟩ (.int .i64 (U.sz))).setCell ⟨k10, 5, none⟩ (.int .i64 (U.ax))).setCell ⟨k10, 6, none⟩ (.int .i64 (U.ay))).setCell ⟨k10, 7, none⟩ (.int .i64 (U.az))).setCell ⟨k10, 8, none⟩ (.int .i64 (U.vx))).setCell ⟨k10, 9, none⟩ (.int .i64 (U.vy))).setCell ⟨k10, 10, none⟩ (.int .i64 (U.vz))) k10 U) := by
          have o : Only [k10] wt (((((((((((wt.setCell ⟨k10, 0, none⟩ (.int .i64 (U.id))).setCell ⟨k10, 1, none⟩ (.int .i64 (U.kd))).setCell ⟨k10, 2, none⟩ (.int .i64 (U.sx))).setCell ⟨k10, 3, none⟩ (.int .i64 (U.sy))).setCell ⟨k10, 4, none⟩ (.int .i64 (U.sz))).setCell ⟨k10, 5, none⟩ (.int .i64 (U.ax))).setCell ⟨k10, 6, none⟩ (.int .i64 (U.ay))).setCell ⟨k10, 7, none⟩ (.int .i64 (U.az))).setCell ⟨k10, 8, none⟩ (.int .i64 (U.vx))).setCell ⟨k10, 9, none⟩ (.int .i64 (U.vy))).setCell ⟨k10, 10, none⟩ (.int .i64 (U.vz))) := ((((((((((((Only.refl [k10] wt).setCell (p := ⟨k10, 0, none⟩) (Or.inl (by simp)) _).setCell (p := ⟨k10, 1, none⟩) (Or.inl (by simp)) _).setCell (p := ⟨k10, 2, none⟩) (Or.inl (by simp)) _).setCell (p := ⟨k10, 3, none⟩) (Or.inl (by simp)) _).setCell (p := ⟨k10, 4, none⟩) (Or.inl (by simp)) _).setCell (p := ⟨k10, 5, none⟩) (Or.inl (by simp)) _).setCell (p := ⟨k10, 6, none⟩) (Or.inl (by simp)) _).setCell (p := ⟨k10, 7, none⟩) (Or.inl (by simp)) _).setCell (p := ⟨k10, 8, none⟩) (Or.inl (by simp)) _).setCell (p := ⟨k10, 9, none⟩) (Or.inl (by simp)) _).setCell (p := ⟨k10, 10, none⟩) (Or.inl (by simp)) _)
          have hk := HT.out.2.2.2.2.1
          obtain ⟨o1, o2, o3⟩ := HC.out.old
          exact ⟨ownS_far HT.out.1 o (fun k hk => by simpa using HT.out.2.2.2.2.2 k hk), HT.out.2.1.only o (by simp; omega) (by simp; omega) (fun g p e hL => by have := o3 g p e hL; simp; omega), HT.out.2.2.1.then o (fun y hy => by rw [List.mem_singleton.1 hy]; exact Or.inr hk), sn_put HT.out.2.2.2.1 U⟩
        go_upto_region 11 with fail
        generalize (((((((((((wt.setCell ⟨k10, 0, none⟩ (.int .i64 (U.id))).setCell ⟨k10, 1, none⟩ (.int .i64 (U.kd))).setCell ⟨k10, 2, none⟩ (.int .i64 (U.sx))).setCell ⟨k10, 3, none⟩ (.int .i64 (U.sy))).setCell ⟨k10, 4, none⟩ (.int .i64 (U.sz))).setCell ⟨k10, 5, none⟩ (.int .i64 (U.ax))).setCell ⟨k10, 6, none⟩ (.int .i64 (U.ay))).setCell ⟨k10, 7, none⟩ (.int .i64 (U.az))).setCell ⟨k10, 8, none⟩ (.int .i64 (U.vx))).setCell ⟨k10, 9, none⟩ (.int .i64 (U.vy))).setCell ⟨k10, 10, none⟩ (.int .i64 (U.vz))) = w10 at HF ⊢
        clear z0 z1 z2 z3 z4 z5 z6 z7 z8 z9 z10 y0 y1 y2 y3 y4 y5 y6 y7 y8 y9 y10 HT
        have HSV : Hid (SvAt w0 v' (takeL idv (F1.drop rr)) ∧ NilOk v' ∧ (takeL idv (F1.drop rr)).length ≤ F1.length - rr) := by
          refine ⟨HNV.out.1 w0 (sv_drop HS0.out.1 hcf hrl), HNV.out.2, ?_⟩
          have h1 := takeL_le idv (F1.drop rr)
          rw [List.length_drop] at h1
          exact h1
        clear HNV
        have HGE : Hid (p + 2 ≤ nn.2.2) := by show _ ≤ _; rw [← HP.out, HNN.out]; exact numM_ge _ _ _
        have HNX : Hid _ := HV.out.way.next HG.out (by rw [HK.out.2.1]; have := HK3.out; omega) HNN.out HID.out HST.out
        by_cases hk0 : k = 0
        · subst hk0
          have H11 : Hid (VwS w0 w kr r a c L F v' v8 (takeL idv (F1.drop rr)) (R ++ F1.take rr) (bad || decide (g.1 ≠ 0) || decide (nn.1 ≠ 0)) idv nn.2.2 w10) :=
            ⟨HSV.out.1, HSV.out.2.1, HF.out.1, HF.out.2.1, HF.out.2.2.1, by have h1 := HSV.out.2.2; have h2 := HV.out.lf; omega, by have h1 := HSV.out.2.2; have h2 := HV.out.len; have h3 := HGE.out; have h4 := HTL.out; rw [List.length_append]; omega, HNX.out.1 HK.out.2.1⟩
          go_wp2_with fail
          go_roundg (8 * L.length - nn.2.2)
          case measure => have h1 := HI.out; have h2 := HGE.out; have h3 := HF.out.2.1.rd.pos; omega
          case rel => exact ⟨_, _, _, _, _, _, _, rfl, rfl, rfl, H11⟩
        · have hk0b : ((k : Int) != 0) = true := by simp; omega
          have hk12 : (k : Int) = 1 ∨ (k : Int) = 2 := by have := HK.out.1; have := HK3.out; omega
          have HK12 : Hid ((k : Int) = 1 ∨ (k : Int) = 2) := hk12
          clear hk0 hk12
          have z0 := HF.out.2.2.2.off 0
          have z1 := HF.out.2.2.2.off 1
          have z2 := HF.out.2.2.2.off 2
          have z3 := HF.out.2.2.2.off 3
          have z4 := HF.out.2.2.2.off 4
          have z5 := HF.out.2.2.2.off 5
          have z6 := HF.out.2.2.2.off 6
          have z7 := HF.out.2.2.2.off 7
          have z8 := HF.out.2.2.2.off 8
          have z9 := HF.out.2.2.2.off 9
          have z10 := HF.out.2.2.2.off 10
          simp only [List.getElem?_toArray, List.getElem?_cons_succ, List.getElem?_cons_zero] at z0 z1 z2 z3 z4 z5 z6 z7 z8 z9 z10
          go_wp2_with fail
          refine (seenS_calls kr r a c L _ idv _ (k : Int) idv U _ HF.out.2.1 HK12.out).mono ?_
          rintro e w11 ⟨A, B, C, bad0, p0, s, bad1, p1, hpr, hsm, rfl, hsr, os⟩
          have H12 : Hid (w11.ownsRow w.heap.size 120 11 v8 (R ++ F1.take rr).length (rowS (R ++ F1.take rr)) ∧ SR w11 kr r a c L bad1 idv p1 ∧ Only [kr, r] w w11 ∧ Way F L (R ++ F1.take rr ++ [s]) (takeL idv (F1.drop rr)) bad1 idv p1 ∧ nn.2.2 ≤ p1) := by
            refine ⟨ownS_keep HF.out.1 os (fun k hk => ?_), hsr, HF.out.2.2.1.trans os, HNX.out.2 A B C bad0 p0 s bad1 p1 (by rw [HK.out.2.1]; exact hpr) (by rw [HU.out]; exact hsm), ?_⟩
            · have := HC.out.old
              simp only [List.mem_cons, List.not_mem_nil, or_false] at hk
              rcases hk with rfl | rfl
              · exact this.1
              · exact this.2.1
            · have h1 := parts_ge hpr
              have h2 := seenM_ge L A B C idv U bad0 p0
              rw [← hsm] at h2
              exact Nat.le_trans h1 h2
          clear hpr hsm hsr os z0 z1 z2 z3 z4 z5 z6 z7 z8 z9 z10 HF
          have hown12 := ownS_keep H12.out.1 ((Only.refl [] w11).alloc (.cells #[.int .i64 (s.id), .int .i64 (s.kd), .int .i64 (s.sx), .int .i64 (s.sy), .int .i64 (s.sz), .int .i64 (s.ax), .int .i64 (s.ay), .int .i64 (s.az), .int .i64 (s.vx), .int .i64 (s.vy), .int .i64 (s.vz)] 120)) (by simp)
          have hone : SeenAt (w11.alloc (.cells #[.int .i64 (s.id), .int .i64 (s.kd), .int .i64 (s.sx), .int .i64 (s.sy), .int .i64 (s.sz), .int .i64 (s.ax), .int .i64 (s.ay), .int .i64 (s.az), .int .i64 (s.vx), .int .i64 (s.vy), .int .i64 (s.vz)] 120)) (some ⟨w11.heap.size, 0, none⟩) [s].length (fun j => [s].getD j zs) := seen_one w11 s
          have hb12 : w.heap.size ≤ (w11.alloc (.cells #[.int .i64 (s.id), .int .i64 (s.kd), .int .i64 (s.sx), .int .i64 (s.sy), .int .i64 (s.sz), .int .i64 (s.ax), .int .i64 (s.ay), .int .i64 (s.az), .int .i64 (s.vx), .int .i64 (s.vy), .int .i64 (s.vz)] 120)).heap.size := by have := H12.out.2.2.1.size; simp; omega
          have hl12 : (R ++ F1.take rr).length + [s].length ≤ 1000000 := by have := HTL.out; simp only [List.length_append, List.length_singleton]; omega
          have HAL : Hid (SR (w11.alloc (.cells #[.int .i64 (s.id), .int .i64 (s.kd), .int .i64 (s.sx), .int .i64 (s.sy), .int .i64 (s.sz), .int .i64 (s.ax), .int .i64 (s.ay), .int .i64 (s.az), .int .i64 (s.vx), .int .i64 (s.vy), .int .i64 (s.vz)] 120)) kr r a c L bad1 idv p1 ∧ Only [kr, r] w (w11.alloc (.cells #[.int .i64 (s.id), .int .i64 (s.kd), .int .i64 (s.sx), .int .i64 (s.sy), .int .i64 (s.sz), .int .i64 (s.ax), .int .i64 (s.ay), .int .i64 (s.az), .int .i64 (s.vx), .int .i64 (s.vy), .int .i64 (s.vz)] 120))) := ⟨H12.out.2.1.keep ((Only.refl [] w11).alloc _), H12.out.2.2.1.then ((Only.refl [] w11).alloc _) (by simp)⟩
          go_wp2_with (first | (at_builtin; refine wpList_appendS snapT rfl _ _ rfl w.heap.size v8 (R ++ F1.take rr) rfl hown12 (some ⟨w11.heap.size, 0, none⟩) 1 1 [s] rfl rfl hone (fun e => by cases e) (by simp) hl12 hb12 ?_; intro v13 w13 hown hgrow hloc; have H13 : Hid (w13.ownsRow w.heap.size 120 11 v13 (R ++ F1.take rr ++ [s]).length (rowS (R ++ F1.take rr ++ [s])) ∧ SR w13 kr r a c L bad1 idv p1 ∧ Only [kr, r] w w13) := ⟨hown, (VwS.grow (fv := .slice none 0 0) (tv' := .slice none 0 0) (F1 := []) (R' := []) HC.out hown12 HAL.out.1 HAL.out.2 hgrow).1, (VwS.grow (fv := .slice none 0 0) (tv' := .slice none 0 0) (F1 := []) (R' := []) HC.out hown12 HAL.out.1 HAL.out.2 hgrow).2.1⟩; clear hown hgrow hloc hown12 hone hb12 hl12 HAL))
          have H14 : Hid (VwS w0 w kr r a c L F v' v13 (takeL idv (F1.drop rr)) (R ++ F1.take rr ++ [s]) bad1 idv p1 w13) :=
            ⟨HSV.out.1, HSV.out.2.1, H13.out.1, H13.out.2.1, H13.out.2.2, by have h1 := HSV.out.2.2; have h2 := HV.out.lf; omega, by have h1 := HSV.out.2.2; have h2 := HV.out.len; have h3 := HGE.out; have h4 := HTL.out; have h5 := H12.out.2.2.2.2; simp only [List.length_append, List.length_singleton]; omega, H12.out.2.2.2.1⟩
          go_wp2_with fail
          go_roundg (8 * L.length - p1)
          case measure => have h1 := HI.out; have h2 := HGE.out; have h3 := H13.out.2.1.rd.pos; have h5 := H12.out.2.2.2.2; omega
          case rel => exact ⟨_, _, _, _, _, _, _, rfl, rfl, rfl, H14⟩
      · rw [eN_pos he] at hce
        have HB1 : Hid ((bad || decide (g.1 ≠ 0)) = true) := by show _ = _; rw [HEB.out]; simp [he]
        clear he HEB
        have HEND : Hid (∀ T, rightL T = true → bytesOf (deltaT F T) = L → (bad || decide (g.1 ≠ 0)) = false ∧ R ++ F1 = T) := HV.out.way.done HG.out (Or.inr HB1.out)
        go_wp2_with (first | (at_builtin; refine wpList_appendS snapT rfl _ _ rfl w.heap.size tv R rfl hown2 af F1.length cf F1 rfl rfl hsf2 hnl hcf (by omega) hbs ?_; intro v9 w9 hown hgrow hloc; have H9 : Hid (w9.ownsRow w.heap.size 120 11 v9 (R ++ F1).length (rowS (R ++ F1)) ∧ SR w9 kr r a c L (bad || decide (g.1 ≠ 0)) la g.2.2 ∧ Only [kr, r] w w9) := ⟨hown, (VwS.grow (fv := .slice none 0 0) (tv' := .slice none 0 0) (F1 := []) (R' := []) HC.out hown2 H2.out.1 H2.out.2.2.1 hgrow).1, (VwS.grow (fv := .slice none 0 0) (tv' := .slice none 0 0) (F1 := []) (R' := []) HC.out hown2 H2.out.1 H2.out.2.2.1 hgrow).2.1⟩; clear hown hgrow hloc))
        exact bodyPost_ret (v := v9) (by simp [results, Try.results117, go_sem]) rfl ⟨v9, R ++ F1, _, _, _, rfl, H9.out.1, by rw [List.length_append]; omega, H9.out.2.1, H9.out.2.2, fun T hT hL => HEND.out T hT hL⟩
end Go.Proofs.Ytedhdmahdioboaa
