/- wire's reader: what it reads, and whether anything was wrong: whichever bytes. -/
import Derived.Test.YtbiaajncngldlaaWi1
import Derived.Test.YtbiaajncngldlaaSg5
namespace Go.Proofs.Ytbiaajncngldlaa
open Go.ChangeShapes Go.WideShapes Go.ChangeAt Go.RowKit
set_option linter.unusedVariables false
set_option linter.unusedSimpArgs false

def getM (L : List Nat) (p : Nat) (wd : Int) : Nat × Int × Nat :=
  if ¬ (0 ≤ wd ∧ wd ≤ 62) then (2, 0, p) else if 8 * L.length < p + wd.toNat then (8, 0, p) else (0, ((valB (((bitsOf L).drop p).take wd.toNat) : Nat) : Int), p + wd.toNat)
theorem get_getM (r : Nat) (a : Option Addr) (c : Nat) (L : List Nat) (p : Nat) (wd : Int) (w : World) (h : RdAt w r a c L p) :
    Calls Try.prog 33 #[.pointer (some ⟨r, 0, none⟩), .int .i64 wd] w (RdPost r a c L ((getM L p wd).1 : Nat) (getM L p wd).2.1 (getM L p wd).2.2 w) := by
  refine (get_calls r a c L p wd w h).mono ?_
  rintro e w' (⟨h1, h2⟩ | ⟨h1, h2, h3⟩ | ⟨h1, h2, h3⟩)
  · unfold getM; rw [if_pos h1]; exact h2
  · unfold getM; rw [if_neg (by simpa using h1), if_pos h2]; exact h3
  · unfold getM; rw [if_neg (by simpa using h1), if_neg (by omega)]; exact h3

def eN (er : Nat) : Value := if ((er : Nat) : Int) = 0 then .nilIface else errV ((er : Nat) : Int)
theorem eN_zero : eN 0 = .nilIface := rfl
theorem eN_pos {er : Nat} (h : er ≠ 0) : eN er = .iface 44 (.int .i64 ((er : Int))) := if_neg (by omega)
/-- A reader: its bits.Reader, and whether something went wrong. -/
structure RW (w : World) (kr r : Nat) (a : Option Addr) (c : Nat) (L : List Nat) (bad : Bool) (p : Nat) : Prop where
  rd : RdAt w r a c L p
  at_ : ∃ er : Nat, bad = decide (er ≠ 0) ∧ w.heap[kr]? = some (.cells #[.pointer (some ⟨r, 0, none⟩), eN er] 58)
  hkr : kr ≠ r
  apart : ∀ g o, a = some ⟨g, o, none⟩ → L ≠ [] → g ≠ kr
theorem RW.lt {w : World} {kr r : Nat} {a : Option Addr} {c : Nat} {L : List Nat} {bad : Bool} {p : Nat} (h : RW w kr r a c L bad p) : kr < w.heap.size := by
  obtain ⟨er, _, h1⟩ := h.at_
  exact (Array.getElem?_eq_some_iff.1 h1).1
theorem RW.c0 {w : World} {kr r : Nat} {a : Option Addr} {c : Nat} {L : List Nat} {bad : Bool} {p : Nat} (h : RW w kr r a c L bad p) : w.cell? ⟨kr, 0, none⟩ = some (.pointer (some ⟨r, 0, none⟩)) := by
  obtain ⟨er, _, h1⟩ := h.at_
  simp [World.cell?, h1]
theorem RW.only {w w' : World} {kr r : Nat} {a : Option Addr} {c : Nat} {L : List Nat} {bad : Bool} {p : Nat} (h : RW w kr r a c L bad p) {D : List Nat} (o : Only D w w') (h1 : kr ∉ D) (h2 : r ∉ D) (s : ∀ g o, a = some ⟨g, o, none⟩ → L ≠ [] → g ∉ D) : RW w' kr r a c L bad p := by
  obtain ⟨er, e, hc⟩ := h.at_
  exact ⟨h.rd.only o h2 s, ⟨er, e, (o.block kr h.lt h1).trans hc⟩, h.hkr, h.apart⟩
/-- Behind a call of the bits.Reader. -/
theorem RW.read {w w' : World} {kr r : Nat} {a : Option Addr} {c : Nat} {L : List Nat} {bad : Bool} {p q : Nat} (h : RW w kr r a c L bad p) (hr : RdAt w' r a c L q) (o : Only [r] w w') : RW w' kr r a c L bad q := by
  obtain ⟨er, e, hc⟩ := h.at_
  exact ⟨hr, ⟨er, e, (o.block kr h.lt (by simpa using h.hkr)).trans hc⟩, h.hkr, h.apart⟩
theorem RW.put {w : World} {kr r : Nat} {a : Option Addr} {c : Nat} {L : List Nat} {bad : Bool} {p : Nat} (h : RW w kr r a c L bad p) (er : Nat) : RW (w.setCell ⟨kr, 1, none⟩ (eN er)) kr r a c L (decide (er ≠ 0)) p := by
  obtain ⟨e0, _, hc⟩ := h.at_
  have o : Only [kr] w (w.setCell ⟨kr, 1, none⟩ (eN er)) := (Only.refl _ _).setCell (p := ⟨kr, 1, none⟩) (Or.inl (by simp)) _
  refine ⟨h.rd.only o (by simp; exact fun e => h.hkr e.symm) (fun g p e hL => by simpa using h.apart g p e hL), ⟨er, rfl, ?_⟩, h.hkr, h.apart⟩
  rw [heap_put hc]; rfl
theorem numberW_calls (kr r : Nat) (a : Option Addr) (c : Nat) (L : List Nat) (bad : Bool) (p : Nat) (n : Int) (er : Nat) (w : World) (h : RW w kr r a c L bad p) :
    Calls Try.prog 31 #[.pointer (some ⟨kr, 0, none⟩), .int .i64 n, eN er] w fun e w' => e = .returned (.int .i64 n) ∧ RW w' kr r a c L (bad || decide (er ≠ 0)) p ∧ Only [kr] w w' := by
  obtain ⟨e0, eb, hc⟩ := h.at_
  have HR : Hid (RW w kr r a c L bad p) := h
  have f1 : w.frozen? ⟨kr, 1, none⟩ = false := by simp [World.frozen?, hc]
  by_cases h0 : e0 = 0
  · have eb' : bad = false := by rw [eb, h0]; rfl
    have c1 : w.cell? ⟨kr, 1, none⟩ = some .nilIface := by simp [World.cell?, hc, h0, eN]
    have HP : Hid (RW (w.setCell ⟨kr, 1, none⟩ (eN er)) kr r a c L (bad || decide (er ≠ 0)) p ∧ Only [kr] w (w.setCell ⟨kr, 1, none⟩ (eN er))) := ⟨by rw [eb', Bool.false_or]; exact h.put er, (Only.refl _ _).setCell (p := ⟨kr, 1, none⟩) (Or.inl (by simp)) _⟩
    clear hc h eb h0 eb'
    by_cases h1 : er = 0
    · rw [h1, eN_zero] at HP ⊢
      go_enter Try.func31, Try.ntmps31
      go_wp2_with fail
      go_ret
      exact ⟨rfl, HP.out.1, HP.out.2⟩
    · rw [eN_pos h1] at HP ⊢
      clear h1
      go_enter Try.func31, Try.ntmps31
      go_wp2_with fail
      go_ret
      exact ⟨rfl, HP.out.1, HP.out.2⟩
  · have c1 : w.cell? ⟨kr, 1, none⟩ = some (.iface 44 (.int .i64 ((e0 : Int)))) := by simp [World.cell?, hc, eN_pos h0]
    have HB : Hid ((bad || decide (er ≠ 0)) = bad) := by show _ = _; rw [eb]; simp [h0]
    clear hc h eb h0
    generalize eN er = ev
    go_enter Try.func31, Try.ntmps31
    go_wp2_with fail
    go_ret
    exact ⟨rfl, by rw [HB.out]; exact HR.out, Only.refl _ _⟩
/-- Pointers into a block, at the head of a block of their own. -/
def PtrsAt (w : World) (g kc : Nat) (os : List Nat) : Prop := ∀ j (hj : j < os.length), w.cell? ⟨g, j, none⟩ = some (.pointer (some ⟨kc, os[j], none⟩))
theorem PtrsAt.only {w w' : World} {g kc : Nat} {os : List Nat} (h : PtrsAt w g kc os) {D : List Nat} (o : Only D w w') (s : g ∉ D) : PtrsAt w' g kc os := fun j hj => o.cell (h j hj) s
theorem PtrsAt.new1 (w : World) (kc o0 : Nat) (t : TypeId) : PtrsAt (w.alloc (.cells #[.pointer (some ⟨kc, o0, none⟩)] t)) w.heap.size kc [o0] := fun j hj => by
  match j, hj with
  | 0, _ => simp
theorem PtrsAt.new2 (w : World) (kc o0 o1 : Nat) (t : TypeId) : PtrsAt (w.alloc (.cells #[.pointer (some ⟨kc, o0, none⟩), .pointer (some ⟨kc, o1, none⟩)] t)) w.heap.size kc [o0, o1] := fun j hj => by
  match j, hj with
  | 0, _ => simp
  | 1, _ => simp
theorem PtrsAt.new3 (w : World) (kc o0 o1 o2 : Nat) (t : TypeId) : PtrsAt (w.alloc (.cells #[.pointer (some ⟨kc, o0, none⟩), .pointer (some ⟨kc, o1, none⟩), .pointer (some ⟨kc, o2, none⟩)] t)) w.heap.size kc [o0, o1, o2] := fun j hj => by
  match j, hj with
  | 0, _ => simp
  | 1, _ => simp
  | 2, _ => simp
/-- What is read so far: into which cells, whether anything was wrong, how far. -/
structure RS where
  A : Array Value
  bad : Bool
  p : Nat
def stepV (L : List Nat) (s : RS) (o : Nat) : RS := ⟨s.A.setIfInBounds o (.int .i64 (((numM 4611686018427387903 L s.p).2.1 : Nat))), s.bad || decide ((numM 4611686018427387903 L s.p).1 ≠ 0), (numM 4611686018427387903 L s.p).2.2⟩
def stepI (L : List Nat) (s : RS) (o : Nat) : RS := ⟨s.A.setIfInBounds o (.int .i64 ((intM L s.p).2.1)), s.bad || decide ((intM L s.p).1 ≠ 0), (intM L s.p).2.2⟩
def stepG (wd : Nat) (L : List Nat) (s : RS) (o : Nat) : RS := ⟨s.A.setIfInBounds o (.int .i64 ((getM L s.p (wd : Int)).2.1)), s.bad || decide ((getM L s.p (wd : Int)).1 ≠ 0), (getM L s.p (wd : Int)).2.2⟩
/-- A reader, and the block that it reads into. -/
structure RX (w : World) (kr r : Nat) (a : Option Addr) (c : Nat) (L : List Nat) (kc : Nat) (T : TypeId) (s : RS) : Prop where
  rw_ : RW w kr r a c L s.bad s.p
  tg : w.heap[kc]? = some (.cells s.A T)
  h1 : kc ≠ kr
  h2 : kc ≠ r
  h3 : ∀ g o, a = some ⟨g, o, none⟩ → L ≠ [] → g ≠ kc
theorem RX.lt {w : World} {kr r : Nat} {a : Option Addr} {c : Nat} {L : List Nat} {kc : Nat} {T : TypeId} {s : RS} (h : RX w kr r a c L kc T s) : kc < w.heap.size := (Array.getElem?_eq_some_iff.1 h.tg).1
theorem RX.mid {w w1 : World} {kr r : Nat} {a : Option Addr} {c : Nat} {L : List Nat} {kc : Nat} {T : TypeId} {s : RS} {b : Bool} {q : Nat} (h : RX w kr r a c L kc T s) (hr : RW w1 kr r a c L b q) (o : Only [kr, r] w w1) : RX w1 kr r a c L kc T ⟨s.A, b, q⟩ :=
  ⟨hr, (o.block kc h.lt (by simp; exact ⟨h.h1, h.h2⟩)).trans h.tg, h.h1, h.h2, h.h3⟩
theorem RX.put {w : World} {kr r : Nat} {a : Option Addr} {c : Nat} {L : List Nat} {kc : Nat} {T : TypeId} {s : RS} (h : RX w kr r a c L kc T s) (i : Nat) (v : Value) : RX (w.setCell ⟨kc, i, none⟩ v) kr r a c L kc T ⟨s.A.setIfInBounds i v, s.bad, s.p⟩ := by
  have o : Only [kc] w (w.setCell ⟨kc, i, none⟩ v) := (Only.refl _ _).setCell (p := ⟨kc, i, none⟩) (Or.inl (by simp)) _
  exact ⟨h.rw_.only o (by simp; exact fun e => h.h1 e.symm) (by simp; exact fun e => h.h2 e.symm) (fun g p e hL => by simpa using h.h3 g p e hL), heap_put h.tg _ _, h.h1, h.h2, h.h3⟩
theorem RX.only {w w' : World} {kr r : Nat} {a : Option Addr} {c : Nat} {L : List Nat} {kc : Nat} {T : TypeId} {s : RS} (h : RX w kr r a c L kc T s) (o : Only [] w w') : RX w' kr r a c L kc T s :=
  ⟨h.rw_.only o (by simp) (by simp) (by simp), (o.block kc h.lt (by simp)).trans h.tg, h.h1, h.h2, h.h3⟩
theorem foldl_size (f : RS → Nat → RS) (hf : ∀ s o, (f s o).A.size = s.A.size) (os : List Nat) (s : RS) : (os.foldl f s).A.size = s.A.size := by
  induction os generalizing s with
  | nil => rfl
  | cons o t ih => rw [List.foldl_cons, ih, hf]
theorem stepV_size (L : List Nat) (s : RS) (o : Nat) : (stepV L s o).A.size = s.A.size := by simp [stepV]
theorem stepI_size (L : List Nat) (s : RS) (o : Nat) : (stepI L s o).A.size = s.A.size := by simp [stepI]
theorem stepG_size (wd : Nat) (L : List Nat) (s : RS) (o : Nat) : (stepG wd L s o).A.size = s.A.size := by simp [stepG]
set_option maxRecDepth 100000 in
theorem varsR_calls (kr r : Nat) (a : Option Addr) (c : Nat) (L : List Nat) (kc : Nat) (T : TypeId) (s : RS) (g : Nat) (os : List Nat) (cc : Nat) (w : World) (h : RX w kr r a c L kc T s) (hp : PtrsAt w g kc os) (hg : g ≠ kr ∧ g ≠ r ∧ g ≠ kc) (ho : ∀ o ∈ os, o < s.A.size) (hl : os.length ≤ 100) :
    Calls Try.prog 19 #[.pointer (some ⟨kr, 0, none⟩), .slice (some ⟨g, 0, none⟩) os.length cc] w fun e w' => e = .returned (.tuple #[]) ∧ RX w' kr r a c L kc T (os.foldl (stepV L) s) ∧ Only [kr, r, kc] w w' := by
  have HC : Hid (PtrsAt w g kc os ∧ (g ≠ kr ∧ g ≠ r ∧ g ≠ kc) ∧ ∀ o ∈ os, o < s.A.size) := ⟨hp, hg, ho⟩
  have H0 : Hid (RX w kr r a c L kc T ((os.take 0).foldl (stepV L) s)) := h
  clear hp hg ho h
  go_enter Try.func19, Try.ntmps19
  go_wp2_with fail
  go_loopg [8] os.length (fun k' idx wr => ∃ i : Nat, idx = .int .i64 (i : Int) ∧ Hid (i ≤ os.length ∧ k' = os.length - i) ∧ Hid (RX wr kr r a c L kc T ((os.take i).foldl (stepV L) s) ∧ Only [kr, r, kc] w wr))
  case atStart => exact ⟨0, rfl, ⟨by omega, rfl⟩, ⟨H0.out, Only.refl _ _⟩⟩
  case round =>
    clear H0
    obtain ⟨i, rfl, HI, HE⟩ := hrel
    by_cases hi : i < os.length
    · have hil : (i : Int) < (os.length : Int) := by omega
      have cp := (HC.out.1.only HE.out.2 (by simp; exact HC.out.2.1)) i hi
      obtain ⟨o, hoi⟩ : ∃ o, os[i] = o := ⟨_, rfl⟩
      rw [hoi] at cp
      have hos : o < s.A.size := HC.out.2.2 o (by rw [← hoi]; exact List.getElem_mem hi)
      have HF : Hid ((os.take (i + 1)).foldl (stepV L) s = stepV L ((os.take i).foldl (stepV L) s) o) := by
        show _ = _
        rw [List.take_succ_eq_append_getElem hi, List.foldl_append, hoi]; rfl
      obtain ⟨s1, hs1⟩ : ∃ s1, s1 = (os.take i).foldl (stepV L) s := ⟨_, rfl⟩
      have hsz : s1.A.size = s.A.size := by rw [hs1]; exact foldl_size _ (stepV_size L) _ _
      rw [← hs1] at HF
      have HE1 : Hid (RX wr kr r a c L kc T s1 ∧ Only [kr, r, kc] w wr ∧ o < s1.A.size) := ⟨by rw [hs1]; exact HE.out.1, HE.out.2, by omega⟩
      clear HE hs1 hoi hos hsz
      have c0 := HE1.out.1.rw_.c0
      obtain ⟨q, hq⟩ : ∃ q, q = numM 4611686018427387903 L s1.p := ⟨_, rfl⟩
      have HQ : Hid (q = numM 4611686018427387903 L s1.p) := hq
      go_wp2_with fail
      refine (rvar_calls r a c L s1.p _ HE1.out.1.rw_.rd).mono ?_
      rw [← hq]
      rintro e w2 ⟨rfl, h2, o2⟩
      rw [show (if ((q.1 : Nat) : Int) = 0 then Value.nilIface else errV ((q.1 : Nat) : Int)) = eN q.1 from rfl]
      have H2 : Hid (RW w2 kr r a c L s1.bad q.2.2 ∧ Only [r] wr w2) := ⟨HE1.out.1.rw_.read h2 o2, o2⟩
      clear h2 o2 hq
      go_wp2_with fail
      refine (numberW_calls kr r a c L s1.bad q.2.2 ((q.2.1 : Nat) : Int) q.1 w2 H2.out.1).mono ?_
      rintro e w3 ⟨rfl, h3, o3⟩
      have H3 : Hid (RX w3 kr r a c L kc T ⟨s1.A, s1.bad || decide (q.1 ≠ 0), q.2.2⟩ ∧ Only [kr, r, kc] w w3) :=
        ⟨HE1.out.1.mid h3 ((H2.out.2.mono (by simp)).trans (o3.mono (by simp))), HE1.out.2.1.trans ((H2.out.2.mono (by simp)).trans (o3.mono (by simp)))⟩
      clear h3 o3 H2
      have hcell : ∃ u, w3.cell? ⟨kc, o, none⟩ = some u := by
        have hb := HE1.out.2.2
        exact ⟨s1.A[o], by have := H3.out.1.tg; simp [World.cell?, this, Array.getElem?_eq_getElem hb]⟩
      obtain ⟨u, hcell⟩ := hcell
      have hfr : w3.frozen? ⟨kc, o, none⟩ = false := by have := H3.out.1.tg; simp [World.frozen?, this]
      have H4 : Hid (RX (w3.setCell ⟨kc, o, none⟩ (.int .i64 (((q.2.1 : Nat) : Int)))) kr r a c L kc T ((os.take (i + 1)).foldl (stepV L) s) ∧ Only [kr, r, kc] w (w3.setCell ⟨kc, o, none⟩ (.int .i64 (((q.2.1 : Nat) : Int))))) := by
        refine ⟨?_, H3.out.2.setCell (p := ⟨kc, o, none⟩) (Or.inl (by simp)) _⟩
        have := H3.out.1.put o (.int .i64 (((q.2.1 : Nat) : Int)))
        rw [HF.out]
        unfold stepV
        rw [← HQ.out]
        exact this
      clear cp c0 H3
      go_wp2_with fail
      go_roundg (os.length - (i + 1))
      case measure => have := HI.out.2; omega
      case rel => exact ⟨i + 1, by go_num, ⟨by omega, rfl⟩, H4⟩
    have hil : ¬ (i : Int) < (os.length : Int) := by omega
    go_wp2_with fail
    refine bodyPost_end (results_none rfl _ _ _) rfl ?_
    have := HE.out
    rw [List.take_of_length_le (by omega)] at this
    exact ⟨rfl, this.1, this.2⟩
set_option maxRecDepth 100000 in
theorem intsR_calls (kr r : Nat) (a : Option Addr) (c : Nat) (L : List Nat) (kc : Nat) (T : TypeId) (s : RS) (g : Nat) (os : List Nat) (cc : Nat) (w : World) (h : RX w kr r a c L kc T s) (hp : PtrsAt w g kc os) (hg : g ≠ kr ∧ g ≠ r ∧ g ≠ kc) (ho : ∀ o ∈ os, o < s.A.size) (hl : os.length ≤ 100) :
    Calls Try.prog 21 #[.pointer (some ⟨kr, 0, none⟩), .slice (some ⟨g, 0, none⟩) os.length cc] w fun e w' => e = .returned (.tuple #[]) ∧ RX w' kr r a c L kc T (os.foldl (stepI L) s) ∧ Only [kr, r, kc] w w' := by
  have HC : Hid (PtrsAt w g kc os ∧ (g ≠ kr ∧ g ≠ r ∧ g ≠ kc) ∧ ∀ o ∈ os, o < s.A.size) := ⟨hp, hg, ho⟩
  have H0 : Hid (RX w kr r a c L kc T ((os.take 0).foldl (stepI L) s)) := h
  clear hp hg ho h
  go_enter Try.func21, Try.ntmps21
  go_wp2_with fail
  go_loopg [8] os.length (fun k' idx wr => ∃ i : Nat, idx = .int .i64 (i : Int) ∧ Hid (i ≤ os.length ∧ k' = os.length - i) ∧ Hid (RX wr kr r a c L kc T ((os.take i).foldl (stepI L) s) ∧ Only [kr, r, kc] w wr))
  case atStart => exact ⟨0, rfl, ⟨by omega, rfl⟩, ⟨H0.out, Only.refl _ _⟩⟩
  case round =>
    clear H0
    obtain ⟨i, rfl, HI, HE⟩ := hrel
    by_cases hi : i < os.length
    · have hil : (i : Int) < (os.length : Int) := by omega
      have cp := (HC.out.1.only HE.out.2 (by simp; exact HC.out.2.1)) i hi
      obtain ⟨o, hoi⟩ : ∃ o, os[i] = o := ⟨_, rfl⟩
      rw [hoi] at cp
      have hos : o < s.A.size := HC.out.2.2 o (by rw [← hoi]; exact List.getElem_mem hi)
      have HF : Hid ((os.take (i + 1)).foldl (stepI L) s = stepI L ((os.take i).foldl (stepI L) s) o) := by
        show _ = _
        rw [List.take_succ_eq_append_getElem hi, List.foldl_append, hoi]; rfl
      obtain ⟨s1, hs1⟩ : ∃ s1, s1 = (os.take i).foldl (stepI L) s := ⟨_, rfl⟩
      have hsz : s1.A.size = s.A.size := by rw [hs1]; exact foldl_size _ (stepI_size L) _ _
      rw [← hs1] at HF
      have HE1 : Hid (RX wr kr r a c L kc T s1 ∧ Only [kr, r, kc] w wr ∧ o < s1.A.size) := ⟨by rw [hs1]; exact HE.out.1, HE.out.2, by omega⟩
      clear HE hs1 hoi hos hsz
      have c0 := HE1.out.1.rw_.c0
      obtain ⟨q, hq⟩ : ∃ q, q = intM L s1.p := ⟨_, rfl⟩
      have HQ : Hid (q = intM L s1.p) := hq
      go_wp2_with fail
      refine (rint_calls r a c L s1.p _ HE1.out.1.rw_.rd).mono ?_
      rw [← hq]
      rintro e w2 ⟨rfl, h2, o2⟩
      rw [show (if ((q.1 : Nat) : Int) = 0 then Value.nilIface else errV ((q.1 : Nat) : Int)) = eN q.1 from rfl]
      have H2 : Hid (RW w2 kr r a c L s1.bad q.2.2 ∧ Only [r] wr w2) := ⟨HE1.out.1.rw_.read h2 o2, o2⟩
      clear h2 o2 hq
      go_wp2_with fail
      refine (numberW_calls kr r a c L s1.bad q.2.2 q.2.1 q.1 w2 H2.out.1).mono ?_
      rintro e w3 ⟨rfl, h3, o3⟩
      have H3 : Hid (RX w3 kr r a c L kc T ⟨s1.A, s1.bad || decide (q.1 ≠ 0), q.2.2⟩ ∧ Only [kr, r, kc] w w3) :=
        ⟨HE1.out.1.mid h3 ((H2.out.2.mono (by simp)).trans (o3.mono (by simp))), HE1.out.2.1.trans ((H2.out.2.mono (by simp)).trans (o3.mono (by simp)))⟩
      clear h3 o3 H2
      have hcell : ∃ u, w3.cell? ⟨kc, o, none⟩ = some u := by
        have hb := HE1.out.2.2
        exact ⟨s1.A[o], by have := H3.out.1.tg; simp [World.cell?, this, Array.getElem?_eq_getElem hb]⟩
      obtain ⟨u, hcell⟩ := hcell
      have hfr : w3.frozen? ⟨kc, o, none⟩ = false := by have := H3.out.1.tg; simp [World.frozen?, this]
      have H4 : Hid (RX (w3.setCell ⟨kc, o, none⟩ (.int .i64 (q.2.1))) kr r a c L kc T ((os.take (i + 1)).foldl (stepI L) s) ∧ Only [kr, r, kc] w (w3.setCell ⟨kc, o, none⟩ (.int .i64 (q.2.1)))) := by
        refine ⟨?_, H3.out.2.setCell (p := ⟨kc, o, none⟩) (Or.inl (by simp)) _⟩
        have := H3.out.1.put o (.int .i64 (q.2.1))
        rw [HF.out]
        unfold stepI
        rw [← HQ.out]
        exact this
      clear cp c0 H3
      go_wp2_with fail
      go_roundg (os.length - (i + 1))
      case measure => have := HI.out.2; omega
      case rel => exact ⟨i + 1, by go_num, ⟨by omega, rfl⟩, H4⟩
    have hil : ¬ (i : Int) < (os.length : Int) := by omega
    go_wp2_with fail
    refine bodyPost_end (results_none rfl _ _ _) rfl ?_
    have := HE.out
    rw [List.take_of_length_le (by omega)] at this
    exact ⟨rfl, this.1, this.2⟩
set_option maxRecDepth 100000 in
theorem getsR_calls (kr r : Nat) (a : Option Addr) (c : Nat) (L : List Nat) (kc : Nat) (T : TypeId) (s : RS) (wd : Nat) (g : Nat) (os : List Nat) (cc : Nat) (w : World) (h : RX w kr r a c L kc T s) (hp : PtrsAt w g kc os) (hg : g ≠ kr ∧ g ≠ r ∧ g ≠ kc) (ho : ∀ o ∈ os, o < s.A.size) (hl : os.length ≤ 100) :
    Calls Try.prog 20 #[.pointer (some ⟨kr, 0, none⟩), .int .i64 ((wd : Int)), .slice (some ⟨g, 0, none⟩) os.length cc] w fun e w' => e = .returned (.tuple #[]) ∧ RX w' kr r a c L kc T (os.foldl (stepG wd L) s) ∧ Only [kr, r, kc] w w' := by
  have HC : Hid (PtrsAt w g kc os ∧ (g ≠ kr ∧ g ≠ r ∧ g ≠ kc) ∧ ∀ o ∈ os, o < s.A.size) := ⟨hp, hg, ho⟩
  have H0 : Hid (RX w kr r a c L kc T ((os.take 0).foldl (stepG wd L) s)) := h
  clear hp hg ho h
  go_enter Try.func20, Try.ntmps20
  go_wp2_with fail
  go_loopg [10] os.length (fun k' idx wr => ∃ i : Nat, idx = .int .i64 (i : Int) ∧ Hid (i ≤ os.length ∧ k' = os.length - i) ∧ Hid (RX wr kr r a c L kc T ((os.take i).foldl (stepG wd L) s) ∧ Only [kr, r, kc] w wr))
  case atStart => exact ⟨0, rfl, ⟨by omega, rfl⟩, ⟨H0.out, Only.refl _ _⟩⟩
  case round =>
    clear H0
    obtain ⟨i, rfl, HI, HE⟩ := hrel
    by_cases hi : i < os.length
    · have hil : (i : Int) < (os.length : Int) := by omega
      have cp := (HC.out.1.only HE.out.2 (by simp; exact HC.out.2.1)) i hi
      obtain ⟨o, hoi⟩ : ∃ o, os[i] = o := ⟨_, rfl⟩
      rw [hoi] at cp
      have hos : o < s.A.size := HC.out.2.2 o (by rw [← hoi]; exact List.getElem_mem hi)
      have HF : Hid ((os.take (i + 1)).foldl (stepG wd L) s = stepG wd L ((os.take i).foldl (stepG wd L) s) o) := by
        show _ = _
        rw [List.take_succ_eq_append_getElem hi, List.foldl_append, hoi]; rfl
      obtain ⟨s1, hs1⟩ : ∃ s1, s1 = (os.take i).foldl (stepG wd L) s := ⟨_, rfl⟩
      have hsz : s1.A.size = s.A.size := by rw [hs1]; exact foldl_size _ (stepG_size wd L) _ _
      rw [← hs1] at HF
      have HE1 : Hid (RX wr kr r a c L kc T s1 ∧ Only [kr, r, kc] w wr ∧ o < s1.A.size) := ⟨by rw [hs1]; exact HE.out.1, HE.out.2, by omega⟩
      clear HE hs1 hoi hos hsz
      have c0 := HE1.out.1.rw_.c0
      obtain ⟨q, hq⟩ : ∃ q, q = getM L s1.p (wd : Int) := ⟨_, rfl⟩
      have HQ : Hid (q = getM L s1.p (wd : Int)) := hq
      go_wp2_with fail
      refine (get_getM r a c L s1.p (wd : Int) _ HE1.out.1.rw_.rd).mono ?_
      rw [← hq]
      rintro e w2 ⟨rfl, h2, o2⟩
      rw [show (if ((q.1 : Nat) : Int) = 0 then Value.nilIface else errV ((q.1 : Nat) : Int)) = eN q.1 from rfl]
      have H2 : Hid (RW w2 kr r a c L s1.bad q.2.2 ∧ Only [r] wr w2) := ⟨HE1.out.1.rw_.read h2 o2, o2⟩
      clear h2 o2 hq
      go_wp2_with fail
      refine (numberW_calls kr r a c L s1.bad q.2.2 q.2.1 q.1 w2 H2.out.1).mono ?_
      rintro e w3 ⟨rfl, h3, o3⟩
      have H3 : Hid (RX w3 kr r a c L kc T ⟨s1.A, s1.bad || decide (q.1 ≠ 0), q.2.2⟩ ∧ Only [kr, r, kc] w w3) :=
        ⟨HE1.out.1.mid h3 ((H2.out.2.mono (by simp)).trans (o3.mono (by simp))), HE1.out.2.1.trans ((H2.out.2.mono (by simp)).trans (o3.mono (by simp)))⟩
      clear h3 o3 H2
      have hcell : ∃ u, w3.cell? ⟨kc, o, none⟩ = some u := by
        have hb := HE1.out.2.2
        exact ⟨s1.A[o], by have := H3.out.1.tg; simp [World.cell?, this, Array.getElem?_eq_getElem hb]⟩
      obtain ⟨u, hcell⟩ := hcell
      have hfr : w3.frozen? ⟨kc, o, none⟩ = false := by have := H3.out.1.tg; simp [World.frozen?, this]
      have H4 : Hid (RX (w3.setCell ⟨kc, o, none⟩ (.int .i64 (q.2.1))) kr r a c L kc T ((os.take (i + 1)).foldl (stepG wd L) s) ∧ Only [kr, r, kc] w (w3.setCell ⟨kc, o, none⟩ (.int .i64 (q.2.1)))) := by
        refine ⟨?_, H3.out.2.setCell (p := ⟨kc, o, none⟩) (Or.inl (by simp)) _⟩
        have := H3.out.1.put o (.int .i64 (q.2.1))
        rw [HF.out]
        unfold stepG
        rw [← HQ.out]
        exact this
      clear cp c0 H3
      go_wp2_with fail
      go_roundg (os.length - (i + 1))
      case measure => have := HI.out.2; omega
      case rel => exact ⟨i + 1, by go_num, ⟨by omega, rfl⟩, H4⟩
    have hil : ¬ (i : Int) < (os.length : Int) := by omega
    go_wp2_with fail
    refine bodyPost_end (results_none rfl _ _ _) rfl ?_
    have := HE.out
    rw [List.take_of_length_le (by omega)] at this
    exact ⟨rfl, this.1, this.2⟩
end Go.Proofs.Ytbiaajncngldlaa
