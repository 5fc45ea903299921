/- snap's reader: number, vec, plus: whichever bytes. -/
import Derived.Test.YtedhdmahdioboaaDoorAp1
import Derived.Test.YtedhdmahdioboaaDoorSne
namespace Go.Proofs.YtedhdmahdioboaaDoor
open Go.ChangeShapes Go.WideShapes Go.ChangeAt Go.RowKit
set_option linter.unusedVariables false
set_option linter.unusedSimpArgs false

theorem RdAt.blt {w : World} {r : Nat} {a : Option Addr} {c : Nat} {L : List Nat} {p : Nat} (h : RdAt w r a c L p) {g o : Nat} (e : a = some ⟨g, o, none⟩) (hL : L ≠ []) : g < w.heap.size := by
  obtain ⟨g', o', e', hc⟩ := h.by_ 0 (by cases L with | nil => exact absurd rfl hL | cons x t => simp)
  rw [e] at e'; injection e' with e'; injection e' with e1 _ _
  rw [e1]; exact World.block_lt_of_cell? w _ hc
/-- A reader: its bits.Reader, whether something went wrong, whom it read last. -/
structure SR (w : World) (kr r : Nat) (a : Option Addr) (c : Nat) (L : List Nat) (bad : Bool) (la : Int) (p : Nat) : Prop where
  rd : RdAt w r a c L p
  at_ : ∃ er : Nat, bad = decide (er ≠ 0) ∧ w.heap[kr]? = some (.cells #[.pointer (some ⟨r, 0, none⟩), eN er, .int .i64 la] 62)
  hkr : kr ≠ r
  apart : ∀ g o, a = some ⟨g, o, none⟩ → L ≠ [] → g ≠ kr
section
variable {w w' : World} {kr r : Nat} {a : Option Addr} {c : Nat} {L : List Nat} {bad : Bool} {la : Int} {p q : Nat}
theorem SR.lt (h : SR w kr r a c L bad la p) : kr < w.heap.size := by
  obtain ⟨er, _, h1⟩ := h.at_
  exact (Array.getElem?_eq_some_iff.1 h1).1
theorem SR.c0 (h : SR w kr r a c L bad la p) : w.cell? ⟨kr, 0, none⟩ = some (.pointer (some ⟨r, 0, none⟩)) := by
  obtain ⟨er, _, h1⟩ := h.at_
  simp [World.cell?, h1]
theorem SR.c2 (h : SR w kr r a c L bad la p) : w.cell? ⟨kr, 2, none⟩ = some (.int .i64 la) := by
  obtain ⟨er, _, h1⟩ := h.at_
  simp [World.cell?, h1]
theorem SR.free (h : SR w kr r a c L bad la p) (i : Nat) : w.frozen? ⟨kr, i, none⟩ = false := by
  obtain ⟨er, _, h1⟩ := h.at_
  simp [World.frozen?, h1]
theorem SR.er (h : SR w kr r a c L bad la p) : ∃ er : Nat, bad = decide (er ≠ 0) ∧ w.cell? ⟨kr, 1, none⟩ = some (eN er) := by
  obtain ⟨er, e, h1⟩ := h.at_
  exact ⟨er, e, by simp [World.cell?, h1]⟩
theorem SR.only (h : SR w kr r a c L bad la p) {D : List Nat} (o : Only D w w') (h1 : kr ∉ D) (h2 : r ∉ D) (s : ∀ g o, a = some ⟨g, o, none⟩ → L ≠ [] → g ∉ D) : SR w' kr r a c L bad la p := by
  obtain ⟨er, e, hc⟩ := h.at_
  exact ⟨h.rd.only o h2 s, ⟨er, e, (o.block kr h.lt h1).trans hc⟩, h.hkr, h.apart⟩
theorem SR.keep (h : SR w kr r a c L bad la p) (o : Only [] w w') : SR w' kr r a c L bad la p := h.only o (by simp) (by simp) (by simp)
theorem SR.read (h : SR w kr r a c L bad la p) (hr : RdAt w' r a c L q) (o : Only [r] w w') : SR w' kr r a c L bad la q := by
  obtain ⟨er, e, hc⟩ := h.at_
  exact ⟨hr, ⟨er, e, (o.block kr h.lt (by simpa using h.hkr)).trans hc⟩, h.hkr, h.apart⟩
theorem SR.put (h : SR w kr r a c L bad la p) (er : Nat) : SR (w.setCell ⟨kr, 1, none⟩ (eN er)) kr r a c L (decide (er ≠ 0)) la p := by
  obtain ⟨e0, _, hc⟩ := h.at_
  have o : Only [kr] w (w.setCell ⟨kr, 1, none⟩ (eN er)) := (Only.refl _ _).setCell (p := ⟨kr, 1, none⟩) (Or.inl (by simp)) _
  refine ⟨h.rd.only o (by simp; exact fun e => h.hkr e.symm) (fun g p e hL => by simpa using h.apart g p e hL), ⟨er, rfl, ?_⟩, h.hkr, h.apart⟩
  rw [heap_put hc]; rfl
theorem SR.putLast (h : SR w kr r a c L bad la p) (n : Int) : SR (w.setCell ⟨kr, 2, none⟩ (.int .i64 n)) kr r a c L bad n p := by
  obtain ⟨e0, e, hc⟩ := h.at_
  have o : Only [kr] w (w.setCell ⟨kr, 2, none⟩ (.int .i64 n)) := (Only.refl _ _).setCell (p := ⟨kr, 2, none⟩) (Or.inl (by simp)) _
  refine ⟨h.rd.only o (by simp; exact fun e => h.hkr e.symm) (fun g p e hL => by simpa using h.apart g p e hL), ⟨e0, e, ?_⟩, h.hkr, h.apart⟩
  rw [heap_put hc]; rfl
end
theorem numberS_calls (kr r : Nat) (a : Option Addr) (c : Nat) (L : List Nat) (bad : Bool) (la : Int) (p : Nat) (n : Int) (er : Nat) (w : World) (h : SR w kr r a c L bad la p) :
    Calls Tryd.prog 35 #[.pointer (some ⟨kr, 0, none⟩), .int .i64 n, eN er] w fun e w' => e = .returned (.int .i64 n) ∧ SR w' kr r a c L (bad || decide (er ≠ 0)) la p ∧ Only [kr] w w' := by
  obtain ⟨e0, eb, hc⟩ := h.at_
  have HR : Hid (SR w kr r a c L bad la p) := h
  have f1 : w.frozen? ⟨kr, 1, none⟩ = false := by simp [World.frozen?, hc]
  by_cases h0 : e0 = 0
  · have eb' : bad = false := by rw [eb, h0]; rfl
    have c1 : w.cell? ⟨kr, 1, none⟩ = some .nilIface := by simp [World.cell?, hc, h0, eN]
    have HP : Hid (SR (w.setCell ⟨kr, 1, none⟩ (eN er)) kr r a c L (bad || decide (er ≠ 0)) la p ∧ Only [kr] w (w.setCell ⟨kr, 1, none⟩ (eN er))) := ⟨by rw [eb', Bool.false_or]; exact h.put er, (Only.refl _ _).setCell (p := ⟨kr, 1, none⟩) (Or.inl (by simp)) _⟩
    clear hc h eb h0 eb'
    by_cases h1 : er = 0
    · rw [h1, eN_zero] at HP ⊢
      go_enter Tryd.func35, Tryd.ntmps35
      go_wp2_with fail
      go_ret
      exact ⟨rfl, HP.out.1, HP.out.2⟩
    · rw [eN_pos h1] at HP ⊢
      clear h1
      go_enter Tryd.func35, Tryd.ntmps35
      go_wp2_with fail
      go_ret
      exact ⟨rfl, HP.out.1, HP.out.2⟩
  · have c1 : w.cell? ⟨kr, 1, none⟩ = some (.iface 26 (.int .i64 ((e0 : Int)))) := by simp [World.cell?, hc, eN_pos h0]
    have HB : Hid ((bad || decide (er ≠ 0)) = bad) := by show _ = _; rw [eb]; simp [h0]
    clear hc h eb h0
    generalize eN er = ev
    go_enter Tryd.func35, Tryd.ntmps35
    go_wp2_with fail
    go_ret
    exact ⟨rfl, by rw [HB.out]; exact HR.out, Only.refl _ _⟩
theorem only_put3 {w : World} (k o : Nat) (x y z : Value) : Only [k] w (((w.setCell ⟨k, o, none⟩ x).setCell ⟨k, o + 1, none⟩ y).setCell ⟨k, o + 2, none⟩ z) :=
  ((((Only.refl [k] w).setCell (p := ⟨k, o, none⟩) (Or.inl (by simp)) _).setCell (p := ⟨k, o + 1, none⟩) (Or.inl (by simp)) _).setCell (p := ⟨k, o + 2, none⟩) (Or.inl (by simp)) _)
theorem World_lt {w : World} {b : Nat} {o : Obj} (h : w.heap[b]? = some o) : b < w.heap.size := (Array.getElem?_eq_some_iff.1 h).1
/-- Behind a read and its being kept. -/
theorem SR.pair {w w2 w3 : World} {kr r : Nat} {D : List Nat} (o2 : Only [r] w w2) (o3 : Only [kr] w2 w3) : Only [kr, r] w w3 := (o2.mono (by simp)).trans (o3.mono (by simp))
set_option maxRecDepth 100000 in
theorem vecS2_calls (kr r : Nat) (a : Option Addr) (c : Nat) (L : List Nat) (bad : Bool) (la : Int) (p : Nat) (w : World) (h : SR w kr r a c L bad la p) :
    Calls Tryd.prog 56 #[.pointer (some ⟨kr, 0, none⟩)] w fun e w' => e = .returned (.agg #[.int .i64 ((vec3 L p).1), .int .i64 ((vec3 L p).2.1), .int .i64 ((vec3 L p).2.2)]) ∧ SR w' kr r a c L (bad || vecE L p) la (vecP L p) ∧ Only [kr, r] w w' := by
  obtain ⟨q1, hq1⟩ : ∃ q, q = intM L p := ⟨_, rfl⟩
  obtain ⟨q2, hq2⟩ : ∃ q, q = intM L q1.2.2 := ⟨_, rfl⟩
  obtain ⟨q3, hq3⟩ : ∃ q, q = intM L q2.2.2 := ⟨_, rfl⟩
  have HQ : Hid (vec3 L p = (q1.2.1, q2.2.1, q3.2.1) ∧ vecE L p = (decide (q1.1 ≠ 0) || decide (q2.1 ≠ 0) || decide (q3.1 ≠ 0)) ∧ vecP L p = q3.2.2) := by
    unfold vec3 vecE vecP
    rw [hq3, hq2, hq1]
    exact ⟨rfl, rfl, rfl⟩
  rw [HQ.out.1, HQ.out.2.1, HQ.out.2.2]
  have HI : Hid (q1 = intM L p ∧ q2 = intM L q1.2.2 ∧ q3 = intM L q2.2.2) := ⟨hq1, hq2, hq3⟩
  have HB : Hid (SR w kr r a c L bad la p) := h
  clear h hq1 hq2 hq3 HQ
  go_enter Tryd.func56, Tryd.ntmps56
  go_upto_region 1 with fail
  have HA : Hid (SR (w.alloc (.cells #[.int .i64 0, .int .i64 0, .int .i64 0] 45)) kr r a c L bad la p ∧ Only [] w (w.alloc (.cells #[.int .i64 0, .int .i64 0, .int .i64 0] 45)) ∧ (w.alloc (.cells #[.int .i64 0, .int .i64 0, .int .i64 0] 45)).heap[w.heap.size]? = some (.cells #[.int .i64 0, .int .i64 0, .int .i64 0] 45) ∧ (w.heap.size ≠ kr ∧ w.heap.size ≠ r) ∧ ∀ g o, a = some ⟨g, o, none⟩ → L ≠ [] → g ≠ w.heap.size) := by
    have o : Only [] w (w.alloc (.cells #[.int .i64 0, .int .i64 0, .int .i64 0] 45)) := (Only.refl [] w).alloc _
    exact ⟨HB.out.keep o, o, (MapKept.heap_alloc w _).1, ⟨fun e => by have := HB.out.lt; omega, fun e => by have := HB.out.rd.lt; omega⟩, fun g o e hL => by have := HB.out.rd.blt e hL; omega⟩
  have HN : Hid (w.heap.size ≤ w.heap.size) := Nat.le_refl _
  clear HB
  revert HA HN
  generalize hk : w.heap.size = kv
  have HK : Hid (w.heap.size = kv) := hk
  clear hk
  generalize World.alloc w _ = w0
  intro HA HN
  have H0 : Hid (SR w0 kr r a c L bad la p) := HA.out.1
  have c0 := H0.out.c0
  go_wp2_with fail
  refine (rint_calls r a c L p _ H0.out.rd).mono ?_
  rw [← HI.out.1]
  rintro e w1 ⟨rfl, h2, o2⟩
  rw [show (if ((q1.1 : Nat) : Int) = 0 then Value.nilIface else errV ((q1.1 : Nat) : Int)) = eN q1.1 from rfl]
  have H1 : Hid (SR w1 kr r a c L bad la q1.2.2 ∧ Only [r] w0 w1) := ⟨H0.out.read h2 o2, o2⟩
  clear h2 o2 H0 c0
  go_wp2_with fail
  refine (numberS_calls kr r a c L _ la q1.2.2 q1.2.1 q1.1 w1 H1.out.1).mono ?_
  rintro e w2 ⟨rfl, h3, o3⟩
  have H2 : Hid (SR w2 kr r a c L (bad || decide (q1.1 ≠ 0)) la q1.2.2 ∧ Only [kr, r] w0 w2) := ⟨h3, SR.pair (D := []) H1.out.2 o3⟩
  have c0 := h3.c0
  clear h3 o3 H1
  go_wp2_with fail
  refine (rint_calls r a c L _ _ H2.out.1.rd).mono ?_
  rw [← HI.out.2.1]
  rintro e w3 ⟨rfl, h2, o2⟩
  rw [show (if ((q2.1 : Nat) : Int) = 0 then Value.nilIface else errV ((q2.1 : Nat) : Int)) = eN q2.1 from rfl]
  have H3 : Hid (SR w3 kr r a c L (bad || decide (q1.1 ≠ 0)) la q2.2.2 ∧ Only [kr, r] w0 w3) := ⟨H2.out.1.read h2 o2, H2.out.2.trans (o2.mono (by simp))⟩
  clear h2 o2 H2 c0
  go_wp2_with fail
  refine (numberS_calls kr r a c L _ la q2.2.2 q2.2.1 q2.1 w3 H3.out.1).mono ?_
  rintro e w4 ⟨rfl, h3, o3⟩
  have H4 : Hid (SR w4 kr r a c L (bad || decide (q1.1 ≠ 0) || decide (q2.1 ≠ 0)) la q2.2.2 ∧ Only [kr, r] w0 w4) := ⟨h3, H3.out.2.trans (o3.mono (by simp))⟩
  have c0 := h3.c0
  clear h3 o3 H3
  go_wp2_with fail
  refine (rint_calls r a c L _ _ H4.out.1.rd).mono ?_
  rw [← HI.out.2.2]
  rintro e w5 ⟨rfl, h2, o2⟩
  rw [show (if ((q3.1 : Nat) : Int) = 0 then Value.nilIface else errV ((q3.1 : Nat) : Int)) = eN q3.1 from rfl]
  have H5 : Hid (SR w5 kr r a c L (bad || decide (q1.1 ≠ 0) || decide (q2.1 ≠ 0)) la q3.2.2 ∧ Only [kr, r] w0 w5) := ⟨H4.out.1.read h2 o2, H4.out.2.trans (o2.mono (by simp))⟩
  clear h2 o2 H4 c0
  go_wp2_with fail
  refine (numberS_calls kr r a c L _ la q3.2.2 q3.2.1 q3.1 w5 H5.out.1).mono ?_
  rintro e w6 ⟨rfl, h3, o3⟩
  have H6 : Hid (SR w6 kr r a c L (bad || (decide (q1.1 ≠ 0) || decide (q2.1 ≠ 0) || decide (q3.1 ≠ 0))) la q3.2.2 ∧ Only [kr, r] w0 w6) := ⟨by rw [← Bool.or_assoc, ← Bool.or_assoc]; exact h3, H5.out.2.trans (o3.mono (by simp))⟩
  clear h3 o3 H5
  have hc := (H6.out.2.block kv (World_lt HA.out.2.2.1) (by simp; exact HA.out.2.2.2.1)).trans HA.out.2.2.1
  have z0 : w6.cell? ⟨kv, 0, none⟩ = some (.int .i64 0) := by simp [World.cell?, hc]
  have z1 : w6.cell? ⟨kv, 1, none⟩ = some (.int .i64 0) := by simp [World.cell?, hc]
  have z2 : w6.cell? ⟨kv, 2, none⟩ = some (.int .i64 0) := by simp [World.cell?, hc]
  have y0 : w6.frozen? ⟨kv, 0, none⟩ = false := by simp [World.frozen?, hc]
  have y1 : w6.frozen? ⟨kv, 1, none⟩ = false := by simp [World.frozen?, hc]
  have y2 : w6.frozen? ⟨kv, 2, none⟩ = false := by simp [World.frozen?, hc]
  clear hc
  go_wp2_with fail
  obtain ⟨e0, e1, e2⟩ := set3_of (v0 := .int .i64 (q1.2.1)) (v1 := .int .i64 (q2.2.1)) (v2 := .int .i64 (q3.2.1)) z0 z1 z2
  exact bodyPost_ret (v := .agg #[.int .i64 (q1.2.1), .int .i64 (q2.2.1), .int .i64 (q3.2.1)]) (by simp [results, Tryd.results56, go_sem, e0, e1, e2]) rfl ⟨rfl, H6.out.1.only (only_put3 kv 0 _ _ _) (by simp; exact fun e => HA.out.2.2.2.1.1 e.symm) (by simp; exact fun e => HA.out.2.2.2.1.2 e.symm) (fun g o e hL => by simp; exact HA.out.2.2.2.2 g o e hL), ((HA.out.2.1.mono (by simp)).trans H6.out.2).then (only_put3 kv 0 _ _ _) (fun y hy => by rw [List.mem_singleton.1 hy]; exact Or.inr (by rw [HK.out]; exact Nat.le_refl _))⟩
end Go.Proofs.YtedhdmahdioboaaDoor
