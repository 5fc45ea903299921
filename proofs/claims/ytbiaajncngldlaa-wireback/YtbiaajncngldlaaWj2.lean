/- wire.Asked: whichever bytes. -/
import Derived.Test.YtbiaajncngldlaaWi2
import Derived.Test.YtbiaajncngldlaaWj1
import Derived.Test.YtbiaajncngldlaaStr2
namespace Go.Proofs.Ytbiaajncngldlaa
open Go.ChangeShapes Go.WideShapes Go.ChangeAt Go.RowKit
set_option linter.unusedVariables false
set_option linter.unusedSimpArgs false

theorem readB_calls (a : Option Addr) (c : Nat) (L : List Nat) (w : World) (hl : L.length ≤ 100000) (hs : ∀ x ∈ L, x < 256) (h : ByAt w a L) (hn : a = none → L = [] ∧ c = 0) :
    Calls Try.prog 18 #[.slice a L.length c] w fun e w' => ∃ v, e = .returned v ∧ Made w v L w' ∧ Only [] w w' := by
  cases a with
  | none =>
    obtain ⟨rfl, rfl⟩ := hn rfl
    exact read_nil w
  | some ad =>
    cases L with
    | nil => exact readA_calls ad c [] w hl hs (fun j hj => by simp at hj)
    | cons b t =>
      obtain ⟨g, p, e, _⟩ := h 0 (by simp)
      injection e with e
      subst e
      exact read_calls g p c (b :: t) w hl hs h
/-! What is read of bytes, number by number. -/
def dE {β : Type} (q : Nat × β × Nat) : Bool := decide (q.1 ≠ 0)
def aV (L : List Nat) (p : Nat) : Nat × Nat × Nat := numM 4611686018427387903 L p
def a0 (L : List Nat) : Nat × Nat × Nat := aV L 0
def a1 (L : List Nat) : Nat × Nat × Nat := aV L (a0 L).2.2
def a2 (L : List Nat) : Nat × Nat × Nat := aV L (a1 L).2.2
def a3 (L : List Nat) : Nat × Int × Nat := getM L (a2 L).2.2 ((2 : Nat) : Int)
def b4 (L : List Nat) : Nat × Nat × Nat := aV L (a3 L).2.2
def b5 (L : List Nat) : Nat × Int × Nat := intM L (b4 L).2.2
def b6 (L : List Nat) : Nat × Int × Nat := intM L (b5 L).2.2
def b7 (L : List Nat) : Nat × Int × Nat := intM L (b6 L).2.2
def bad3 (L : List Nat) : Bool := dE (a0 L) || dE (a1 L) || dE (a2 L) || dE (a3 L)
def askedC (L : List Nat) : Cm :=
  if (a3 L).2.1 = 1 then ⟨(a0 L).2.1, (a1 L).2.1, (a2 L).2.1, 1, (b4 L).2.1, (b5 L).2.1, (b6 L).2.1, (b7 L).2.1⟩
  else if (a3 L).2.1 = 2 then ⟨(a0 L).2.1, (a1 L).2.1, (a2 L).2.1, 2, (b4 L).2.1, 0, 0, 0⟩ else ⟨(a0 L).2.1, (a1 L).2.1, (a2 L).2.1, (a3 L).2.1, 0, 0, 0, 0⟩
def askedB (L : List Nat) : Bool :=
  if (a3 L).2.1 = 1 then bad3 L || dE (b4 L) || dE (b5 L) || dE (b6 L) || dE (b7 L) else if (a3 L).2.1 = 2 then bad3 L || dE (b4 L) else bad3 L
def askedGood (L : List Nat) : Prop := askedB L = false ∧ (0 ≤ (askedC L).kd ∧ (askedC L).kd ≤ 2) ∧ askOk (askedC L) ∧ sameB (bytesOf (askT (askedC L))) L = true
def cmV (c : Cm) : Value := .agg #[.int .i64 (c.tk), .int .i64 (c.nm), .int .i64 (c.sn), .int .i64 (c.kd), .int .i64 (c.bd), .int .i64 (c.x), .int .i64 (c.y), .int .i64 (c.z)]
def AskedPost (L : List Nat) (w : World) (e : Ending) (w' : World) : Prop :=
  Only [] w w' ∧ ((askedGood L ∧ e = .returned (.tuple #[cmV (askedC L), .nilIface])) ∨ (¬ askedGood L ∧ e = .returned (.tuple #[cmV ⟨0, 0, 0, 0, 0, 0, 0, 0⟩, errV 3])))
/-- While a command is read. -/
structure AS (w : World) (kr r : Nat) (a : Option Addr) (c : Nat) (L : List Nat) (kc ks : Nat) (A : Array Value) (bad : Bool) (p : Nat) (wr : World) : Prop where
  rx : RX wr kr r a c L kc 25 ⟨A, bad, p⟩
  rs : CmAt 25 wr ks ⟨0, 0, 0, 0, 0, 0, 0, 0⟩
  d1 : ks ≠ kr
  d2 : ks ≠ r
  d3 : ks ≠ kc
  n1 : w.heap.size ≤ kr
  n2 : w.heap.size ≤ r
  n3 : w.heap.size ≤ kc
  n4 : w.heap.size ≤ ks
  only : Only [] w wr
section
variable {w : World} {kr r : Nat} {a : Option Addr} {c : Nat} {L : List Nat} {kc ks : Nat} {A B : Array Value} {bad bad' : Bool} {p q : Nat} {wr w' : World}
theorem AS.keep (h : AS w kr r a c L kc ks A bad p wr) (o : Only [] wr w') : AS w kr r a c L kc ks A bad p w' :=
  ⟨h.rx.only o, h.rs.only o (by simp), h.d1, h.d2, h.d3, h.n1, h.n2, h.n3, h.n4, h.only.trans o⟩
theorem AS.step {s : RS} (h : AS w kr r a c L kc ks A bad p wr) (hx : RX w' kr r a c L kc 25 s) (o : Only [kr, r, kc] wr w') (hs : s = ⟨B, bad', q⟩) : AS w kr r a c L kc ks B bad' q w' := by
  subst hs
  refine ⟨hx, h.rs.only o (by simp; exact ⟨h.d1, h.d2, h.d3⟩), h.d1, h.d2, h.d3, h.n1, h.n2, h.n3, h.n4, h.only.then o (fun b hb => ?_)⟩
  simp only [List.mem_cons, List.mem_nil_iff, or_false] at hb
  have := h.n1; have := h.n2; have := h.n3
  rcases hb with rfl | rfl | rfl <;> exact Or.inr (by assumption)
theorem AS.fresh (h : AS w kr r a c L kc ks A bad p wr) : wr.heap.size ≠ kr ∧ wr.heap.size ≠ r ∧ wr.heap.size ≠ kc := by
  have := h.rx.rw_.lt; have := h.rx.rw_.rd.lt; have := h.rx.lt
  omega
theorem AS.cm {x0 x1 x2 x3 x4 x5 x6 x7 : Int} (h : AS w kr r a c L kc ks #[.int .i64 x0, .int .i64 x1, .int .i64 x2, .int .i64 x3, .int .i64 x4, .int .i64 x5, .int .i64 x6, .int .i64 x7] bad p wr) : CmAt 25 wr kc ⟨x0, x1, x2, x3, x4, x5, x6, x7⟩ := h.rx.tg
theorem AS.err (h : AS w kr r a c L kc ks A bad p wr) : ∃ er : Nat, bad = decide (er ≠ 0) ∧ wr.cell? ⟨kr, 1, none⟩ = some (eN er) := by
  obtain ⟨er, e, hc⟩ := h.rx.rw_.at_
  exact ⟨er, e, by simp [World.cell?, hc]⟩
theorem AS.res (h : AS w kr r a c L kc ks A bad p wr) (d : Cm) : Only [] w ((((((((wr.setCell ⟨ks, 0, none⟩ (.int .i64 (d.tk))).setCell ⟨ks, 1, none⟩ (.int .i64 (d.nm))).setCell ⟨ks, 2, none⟩ (.int .i64 (d.sn))).setCell ⟨ks, 3, none⟩ (.int .i64 (d.kd))).setCell ⟨ks, 4, none⟩ (.int .i64 (d.bd))).setCell ⟨ks, 5, none⟩ (.int .i64 (d.x))).setCell ⟨ks, 6, none⟩ (.int .i64 (d.y))).setCell ⟨ks, 7, none⟩ (.int .i64 (d.z))) := by
  have hk := Or.inr (a := ks ∈ ([] : List Nat)) h.n4
  exact only_put hk (only_put hk (only_put hk (only_put hk (only_put hk (only_put hk (only_put hk (only_put hk h.only _ _) _ _) _ _) _ _) _ _) _ _) _ _) _ _
end
set_option maxRecDepth 100000 in
set_option maxHeartbeats 8000000 in
theorem asked_calls (a : Option Addr) (c : Nat) (L : List Nat) (w : World) (hl : L.length ≤ 100000) (hs : ∀ x ∈ L, x < 256) (hb : ByAt w a L) (hn : a = none → L = [] ∧ c = 0) :
    Calls Try.prog 6 #[.slice a L.length c] w (AskedPost L w) := by
  have HB : Hid (ByAt w a L ∧ (∀ x ∈ L, x < 256) ∧ (a = none → L = [] ∧ c = 0) ∧ ReadsAs w (.slice a L.length c) L) := ⟨hb, hs, hn, arg_reads hb hn⟩
  clear hb hs hn
  go_enter Try.func6, Try.ntmps6
  go_upto_region 1 with fail
  have H0 : Hid (CmAt 25 (w.alloc (.cells #[.int .i64 0, .int .i64 0, .int .i64 0, .int .i64 0, .int .i64 0, .int .i64 0, .int .i64 0, .int .i64 0] 25)) w.heap.size ⟨0, 0, 0, 0, 0, 0, 0, 0⟩ ∧ Only [] w (w.alloc (.cells #[.int .i64 0, .int .i64 0, .int .i64 0, .int .i64 0, .int .i64 0, .int .i64 0, .int .i64 0, .int .i64 0] 25)) ∧ w.heap.size ≤ w.heap.size) := ⟨(MapKept.heap_alloc w _).1, (Only.refl _ _).alloc _, Nat.le_refl _⟩
  revert H0
  generalize hks : w.heap.size = ks
  have HKS : Hid (w.heap.size = ks) := hks
  clear hks
  generalize World.alloc w _ = w1
  intro H0
  go_wp2_with fail
  refine (readB_calls a c L w1 hl HB.out.2.1 (HB.out.1.only H0.out.2.1 (by simp)) HB.out.2.2.1).mono ?_
  rintro e w2 ⟨v, rfl, ⟨r, ar, cr, rfl, hr1, hr2, hr3⟩, o2⟩
  have H1 : Hid (CmAt 25 w2 ks ⟨0, 0, 0, 0, 0, 0, 0, 0⟩ ∧ Only [] w w2 ∧ w1.heap.size ≤ r ∧ RdAt w2 r ar cr L 0 ∧ (∀ g o, ar = some ⟨g, o, none⟩ → L ≠ [] → w1.heap.size ≤ g) ∧ ks < w1.heap.size ∧ w.heap.size ≤ w1.heap.size) :=
    ⟨H0.out.1.only o2 (by simp), H0.out.2.1.trans o2, hr1, hr2, hr3, H0.out.1.lt, H0.out.2.1.size⟩
  clear hr1 hr2 hr3 o2 H0
  go_upto_region 3 with fail
  have H2 : Hid (AS w w2.heap.size r ar cr L (w2.heap.size + 1) ks #[.int .i64 0, .int .i64 0, .int .i64 0, .int .i64 0, .int .i64 0, .int .i64 0, .int .i64 0, .int .i64 0] false 0 ((w2.alloc (.cells #[.pointer (some ⟨r, 0, none⟩), .nilIface] 58)).alloc (.cells #[.int .i64 0, .int .i64 0, .int .i64 0, .int .i64 0, .int .i64 0, .int .i64 0, .int .i64 0, .int .i64 0] 25))) := by
    obtain ⟨p1, p2, p3, p4, p5, p6, p7⟩ := H1.out
    have o : Only [] w2 ((w2.alloc (.cells #[.pointer (some ⟨r, 0, none⟩), .nilIface] 58)).alloc (.cells #[.int .i64 0, .int .i64 0, .int .i64 0, .int .i64 0, .int .i64 0, .int .i64 0, .int .i64 0, .int .i64 0] 25)) := ((Only.refl _ _).alloc _).alloc _
    have hrl := p4.lt
    have hkl := p1.lt
    have hblk : ∀ g o, ar = some ⟨g, o, none⟩ → L ≠ [] → g < w2.heap.size := fun g o e hL => by
      obtain ⟨g', o', e', hc⟩ := p4.by_ 0 (by cases L with | nil => exact absurd rfl hL | cons x t => simp)
      rw [e] at e'; injection e' with e'; injection e' with e1 _ _
      rw [e1]; exact World.block_lt_of_cell? w2 _ hc
    refine ⟨⟨⟨p4.only o (by simp) (by simp), ⟨0, rfl, ?_⟩, by omega, fun g o' e hL => by have := hblk g o' e hL; omega⟩, ?_, by omega, by show w2.heap.size + 1 ≠ r; omega, fun g o' e hL => by have := hblk g o' e hL; omega⟩, p1.only o (by simp), by omega, by omega, by omega, p2.size, by omega, by have := p2.size; omega, by have := HKS.out; omega, p2.trans o⟩
    · rw [Below.heap_alloc _ _ _ (by simp)]; exact (MapKept.heap_alloc w2 _).1
    · have := (MapKept.heap_alloc (w2.alloc (.cells #[.pointer (some ⟨r, 0, none⟩), .nilIface] 58)) (.cells #[.int .i64 0, .int .i64 0, .int .i64 0, .int .i64 0, .int .i64 0, .int .i64 0, .int .i64 0, .int .i64 0] 25)).1
      simpa using this
  clear H1
  revert H2
  generalize w2.heap.size + 1 = kc
  generalize w2.heap.size = kr
  generalize World.alloc (World.alloc w2 _) _ = w3
  intro H2
  go_wp2_with fail
  have HN : Hid (AS w kr r ar cr L kc ks #[.int .i64 0, .int .i64 0, .int .i64 0, .int .i64 0, .int .i64 0, .int .i64 0, .int .i64 0, .int .i64 0] false 0 (w3.alloc (.cells #[.pointer (some ⟨kc, 0, none⟩), .pointer (some ⟨kc, 1, none⟩), .pointer (some ⟨kc, 2, none⟩)] 60))) := H2.out.keep ((Only.refl _ _).alloc _)
  have h0 := PtrsAt.new3 w3 kc 0 1 2 60
  have HG : Hid (w3.heap.size ≠ kr ∧ w3.heap.size ≠ r ∧ w3.heap.size ≠ kc) := H2.out.fresh
  revert h0 HN HG
  generalize w3.heap.size = g
  generalize World.alloc w3 _ = w3'
  intro HN h0 HG
  refine (varsR_calls kr r ar cr L kc 25 _ g [0, 1, 2] _ w3' HN.out.rx h0 HG.out (by simp) (by simp)).mono ?_
  rintro e w4 ⟨rfl, h1, o1⟩
  have H3 : Hid (AS w kr r ar cr L kc ks #[.int .i64 (((a0 L).2.1 : Nat)), .int .i64 (((a1 L).2.1 : Nat)), .int .i64 (((a2 L).2.1 : Nat)), .int .i64 0, .int .i64 0, .int .i64 0, .int .i64 0, .int .i64 0] (dE (a0 L) || dE (a1 L) || dE (a2 L)) (a2 L).2.2 w4) := HN.out.step h1 o1 (by simp only [List.foldl_cons, List.foldl_nil, stepV, List.setIfInBounds_toArray, List.set_cons_zero, List.set_cons_succ, Bool.false_or]; rfl)
  clear h0 h1 o1 HN HG H2
  go_wp2_with fail
  have HN : Hid (AS w kr r ar cr L kc ks #[.int .i64 (((a0 L).2.1 : Nat)), .int .i64 (((a1 L).2.1 : Nat)), .int .i64 (((a2 L).2.1 : Nat)), .int .i64 0, .int .i64 0, .int .i64 0, .int .i64 0, .int .i64 0] (dE (a0 L) || dE (a1 L) || dE (a2 L)) (a2 L).2.2 (w4.alloc (.cells #[.pointer (some ⟨kc, 3, none⟩)] 60))) := H3.out.keep ((Only.refl _ _).alloc _)
  have h0 := PtrsAt.new1 w4 kc 3 60
  have HG : Hid (w4.heap.size ≠ kr ∧ w4.heap.size ≠ r ∧ w4.heap.size ≠ kc) := H3.out.fresh
  revert h0 HN HG
  generalize w4.heap.size = g
  generalize World.alloc w4 _ = w4'
  intro HN h0 HG
  refine (getsR_calls kr r ar cr L kc 25 _ 2 g [3] _ w4' HN.out.rx h0 HG.out (by simp) (by simp)).mono ?_
  rintro e w5 ⟨rfl, h1, o1⟩
  have H4 : Hid (AS w kr r ar cr L kc ks #[.int .i64 (((a0 L).2.1 : Nat)), .int .i64 (((a1 L).2.1 : Nat)), .int .i64 (((a2 L).2.1 : Nat)), .int .i64 ((a3 L).2.1), .int .i64 0, .int .i64 0, .int .i64 0, .int .i64 0] (bad3 L) (a3 L).2.2 w5) := HN.out.step h1 o1 (by simp only [List.foldl_cons, List.foldl_nil, stepG, List.setIfInBounds_toArray, List.set_cons_zero, List.set_cons_succ, Bool.false_or]; rfl)
  clear h0 h1 o1 HN HG H3
  obtain ⟨kd, hkd⟩ : ∃ kd, kd = (a3 L).2.1 := ⟨_, rfl⟩
  have HKD : Hid (kd = (a3 L).2.1) := hkd
  obtain ⟨x0, hx0⟩ : ∃ x0 : Int, x0 = (((a0 L).2.1 : Nat) : Int) := ⟨_, rfl⟩
  obtain ⟨x1, hx1⟩ : ∃ x1 : Int, x1 = (((a1 L).2.1 : Nat) : Int) := ⟨_, rfl⟩
  obtain ⟨x2, hx2⟩ : ∃ x2 : Int, x2 = (((a2 L).2.1 : Nat) : Int) := ⟨_, rfl⟩
  have HX : Hid (x0 = (((a0 L).2.1 : Nat) : Int) ∧ x1 = (((a1 L).2.1 : Nat) : Int) ∧ x2 = (((a2 L).2.1 : Nat) : Int)) := ⟨hx0, hx1, hx2⟩
  rw [← hkd, ← hx0, ← hx1, ← hx2] at H4
  clear hkd hx0 hx1 hx2
  by_cases hk1 : kd = 1
  · subst hk1
    obtain ⟨c0, c1, c2, c3, c4, c5, c6, c7⟩ := H4.out.cm.cells
    simp only at c0 c1 c2 c3 c4 c5 c6 c7
    go_wp2_with fail
    refine (hasBody_calls _ _).mono ?_
    rintro e w6 ⟨rfl, rfl⟩
    rw [show decide ((1 : Int) = 1 ∨ (1 : Int) = 2) = true by decide]
    clear c0 c1 c2 c3 c4 c5 c6 c7
    go_wp2_with fail
    have HN : Hid (AS w kr r ar cr L kc ks #[.int .i64 x0, .int .i64 x1, .int .i64 x2, .int .i64 1, .int .i64 0, .int .i64 0, .int .i64 0, .int .i64 0] (bad3 L) (a3 L).2.2 (w6.alloc (.cells #[.pointer (some ⟨kc, 4, none⟩)] 60))) := H4.out.keep ((Only.refl _ _).alloc _)
    have h0 := PtrsAt.new1 w6 kc 4 60
    have HG : Hid (w6.heap.size ≠ kr ∧ w6.heap.size ≠ r ∧ w6.heap.size ≠ kc) := H4.out.fresh
    revert h0 HN HG
    generalize w6.heap.size = g
    generalize World.alloc w6 _ = w6'
    intro HN h0 HG
    refine (varsR_calls kr r ar cr L kc 25 _ g [4] _ w6' HN.out.rx h0 HG.out (by simp) (by simp)).mono ?_
    rintro e w7 ⟨rfl, h1, o1⟩
    have H5 : Hid (AS w kr r ar cr L kc ks #[.int .i64 x0, .int .i64 x1, .int .i64 x2, .int .i64 1, .int .i64 (((b4 L).2.1 : Nat)), .int .i64 0, .int .i64 0, .int .i64 0] (bad3 L || dE (b4 L)) (b4 L).2.2 w7) := HN.out.step h1 o1 (by simp only [List.foldl_cons, List.foldl_nil, stepV, List.setIfInBounds_toArray, List.set_cons_zero, List.set_cons_succ, Bool.false_or]; rfl)
    clear h0 h1 o1 HN HG H4
    obtain ⟨x4, hx4⟩ : ∃ x4 : Int, x4 = (((b4 L).2.1 : Nat) : Int) := ⟨_, rfl⟩
    have HX4 : Hid (x4 = (((b4 L).2.1 : Nat) : Int)) := hx4
    rw [← hx4] at H5
    clear hx4
    obtain ⟨c0, c1, c2, c3, c4, c5, c6, c7⟩ := H5.out.cm.cells
    simp only at c0 c1 c2 c3 c4 c5 c6 c7
    go_wp2_with fail
    refine (hasWay_calls _ _).mono ?_
    rintro e w8 ⟨rfl, rfl⟩
    rw [show decide ((1 : Int) = 1) = true by decide]
    clear c0 c1 c2 c3 c4 c5 c6 c7
    go_wp2_with fail
    have HN : Hid (AS w kr r ar cr L kc ks #[.int .i64 x0, .int .i64 x1, .int .i64 x2, .int .i64 1, .int .i64 x4, .int .i64 0, .int .i64 0, .int .i64 0] (bad3 L || dE (b4 L)) (b4 L).2.2 (w8.alloc (.cells #[.pointer (some ⟨kc, 5, none⟩), .pointer (some ⟨kc, 6, none⟩), .pointer (some ⟨kc, 7, none⟩)] 60))) := H5.out.keep ((Only.refl _ _).alloc _)
    have h0 := PtrsAt.new3 w8 kc 5 6 7 60
    have HG : Hid (w8.heap.size ≠ kr ∧ w8.heap.size ≠ r ∧ w8.heap.size ≠ kc) := H5.out.fresh
    revert h0 HN HG
    generalize w8.heap.size = g
    generalize World.alloc w8 _ = w8'
    intro HN h0 HG
    refine (intsR_calls kr r ar cr L kc 25 _ g [5, 6, 7] _ w8' HN.out.rx h0 HG.out (by simp) (by simp)).mono ?_
    rintro e w9 ⟨rfl, h1, o1⟩
    have H6 : Hid (AS w kr r ar cr L kc ks #[.int .i64 x0, .int .i64 x1, .int .i64 x2, .int .i64 1, .int .i64 x4, .int .i64 ((b5 L).2.1), .int .i64 ((b6 L).2.1), .int .i64 ((b7 L).2.1)] (bad3 L || dE (b4 L) || dE (b5 L) || dE (b6 L) || dE (b7 L)) (b7 L).2.2 w9) := HN.out.step h1 o1 (by simp only [List.foldl_cons, List.foldl_nil, stepI, List.setIfInBounds_toArray, List.set_cons_zero, List.set_cons_succ, Bool.false_or]; rfl)
    clear h0 h1 o1 HN HG H5
    obtain ⟨x5, hx5⟩ : ∃ x5 : Int, x5 = (b5 L).2.1 := ⟨_, rfl⟩
    obtain ⟨x6, hx6⟩ : ∃ x6 : Int, x6 = (b6 L).2.1 := ⟨_, rfl⟩
    obtain ⟨x7, hx7⟩ : ∃ x7 : Int, x7 = (b7 L).2.1 := ⟨_, rfl⟩
    have HX5 : Hid (x5 = (b5 L).2.1 ∧ x6 = (b6 L).2.1 ∧ x7 = (b7 L).2.1) := ⟨hx5, hx6, hx7⟩
    rw [← hx5, ← hx6, ← hx7] at H6
    clear hx5 hx6 hx7
    have HC : Hid (askedC L = ⟨x0, x1, x2, 1, x4, x5, x6, x7⟩) := by show _ = _; unfold askedC; rw [if_pos HKD.out.symm, ← HX.out.1, ← HX.out.2.1, ← HX.out.2.2, ← HX4.out, ← HX5.out.1, ← HX5.out.2.1, ← HX5.out.2.2]
    have HBD : Hid (askedB L = (bad3 L || dE (b4 L) || dE (b5 L) || dE (b6 L) || dE (b7 L))) := by show _ = _; unfold askedB; rw [if_pos HKD.out.symm]
    obtain ⟨bd, hbd⟩ : ∃ bd, bd = (bad3 L || dE (b4 L) || dE (b5 L) || dE (b6 L) || dE (b7 L)) := ⟨_, rfl⟩
    rw [← hbd] at H6 HBD
    clear hbd
    obtain ⟨c0, c1, c2, c3, c4, c5, c6, c7⟩ := H6.out.cm.cells
    simp only at c0 c1 c2 c3 c4 c5 c6 c7
    go_wp2_with fail
    refine (ask_calls ⟨x0, x1, x2, 1, x4, x5, x6, x7⟩ w9).mono ?_
    intro e2 wa ha
    have HA : Hid (AS w kr r ar cr L kc ks #[.int .i64 x0, .int .i64 x1, .int .i64 x2, .int .i64 1, .int .i64 x4, .int .i64 x5, .int .i64 x6, .int .i64 x7] bd (b7 L).2.2 wa ∧ AskPost ⟨x0, x1, x2, 1, x4, x5, x6, x7⟩ w9 e2 wa) := ⟨H6.out.keep ha.1, ha⟩
    clear c0 c1 c2 c3 c4 c5 c6 c7 H6
    have hsh : ∃ u er, e2 = .returned (.tuple #[u, eN er]) ∧ ((er = 0 ∧ (0 ≤ (1 : Int) ∧ (1 : Int) ≤ 2) ∧ askOk ⟨x0, x1, x2, 1, x4, x5, x6, x7⟩ ∧ ReadsAs wa u (bytesOf (askT ⟨x0, x1, x2, 1, x4, x5, x6, x7⟩))) ∨ (er ≠ 0 ∧ ¬ ((0 ≤ (1 : Int) ∧ (1 : Int) ≤ 2) ∧ askOk ⟨x0, x1, x2, 1, x4, x5, x6, x7⟩))) := by
      rcases ha.2 with ⟨n, e⟩ | ⟨y, n, e⟩ | ⟨y, k, v, e, hf⟩
      · exact ⟨_, 1, e, Or.inr ⟨by decide, fun q => n q.1⟩⟩
      · exact ⟨_, 2, e, Or.inr ⟨by decide, fun q => n q.2⟩⟩
      · exact ⟨v, 0, e, Or.inl ⟨rfl, y, k, hf.reads⟩⟩
    clear ha
    obtain ⟨u, er, rfl, hcase⟩ := hsh
    have HCS : Hid ((er = 0 ∧ (0 ≤ (1 : Int) ∧ (1 : Int) ≤ 2) ∧ askOk ⟨x0, x1, x2, 1, x4, x5, x6, x7⟩ ∧ ReadsAs wa u (bytesOf (askT ⟨x0, x1, x2, 1, x4, x5, x6, x7⟩))) ∨ (er ≠ 0 ∧ ¬ ((0 ≤ (1 : Int) ∧ (1 : Int) ≤ 2) ∧ askOk ⟨x0, x1, x2, 1, x4, x5, x6, x7⟩))) := hcase
    clear hcase
    have H9 : Hid (AS w kr r ar cr L kc ks #[.int .i64 x0, .int .i64 x1, .int .i64 x2, .int .i64 1, .int .i64 x4, .int .i64 x5, .int .i64 x6, .int .i64 x7] bd (b7 L).2.2 wa) := HA.out.1
    clear HA
    obtain ⟨e9, he9, hc9⟩ := H9.out.err
    by_cases hz9 : e9 = 0
    case neg =>
      have HNG : Hid (¬ askedGood L) := fun q => by
        have h1 := q.1
        rw [HBD.out, he9] at h1
        simp [hz9] at h1
      rw [eN_pos hz9] at hc9
      clear hz9 he9
      obtain ⟨r0, r1, r2, r3, r4, r5, r6, r7⟩ := H9.out.rs.cells
      have f0 := H9.out.rs.free 0; have f1 := H9.out.rs.free 1; have f2 := H9.out.rs.free 2; have f3 := H9.out.rs.free 3
      have f4 := H9.out.rs.free 4; have f5 := H9.out.rs.free 5; have f6 := H9.out.rs.free 6; have f7 := H9.out.rs.free 7
      have HR : Hid (CmAt 25 ((((((((wa.setCell ⟨ks, 0, none⟩ (.int .i64 0)).setCell ⟨ks, 1, none⟩ (.int .i64 0)).setCell ⟨ks, 2, none⟩ (.int .i64 0)).setCell ⟨ks, 3, none⟩ (.int .i64 0)).setCell ⟨ks, 4, none⟩ (.int .i64 0)).setCell ⟨ks, 5, none⟩ (.int .i64 0)).setCell ⟨ks, 6, none⟩ (.int .i64 0)).setCell ⟨ks, 7, none⟩ (.int .i64 0)) ks ⟨0, 0, 0, 0, 0, 0, 0, 0⟩ ∧ Only [] w ((((((((wa.setCell ⟨ks, 0, none⟩ (.int .i64 0)).setCell ⟨ks, 1, none⟩ (.int .i64 0)).setCell ⟨ks, 2, none⟩ (.int .i64 0)).setCell ⟨ks, 3, none⟩ (.int .i64 0)).setCell ⟨ks, 4, none⟩ (.int .i64 0)).setCell ⟨ks, 5, none⟩ (.int .i64 0)).setCell ⟨ks, 6, none⟩ (.int .i64 0)).setCell ⟨ks, 7, none⟩ (.int .i64 0))) := ⟨H9.out.rs.put8 ⟨0, 0, 0, 0, 0, 0, 0, 0⟩, H9.out.res ⟨0, 0, 0, 0, 0, 0, 0, 0⟩⟩
      go_wp2_with fail
      clear r0 r1 r2 r3 r4 r5 r6 r7 f0 f1 f2 f3 f4 f5 f6 f7
      revert HR
      generalize World.setCell (World.setCell (World.setCell (World.setCell (World.setCell (World.setCell (World.setCell (World.setCell wa _ _) _ _) _ _) _ _) _ _) _ _) _ _) _ _ = wz
      intro HR
      obtain ⟨r0, r1, r2, r3, r4, r5, r6, r7⟩ := HR.out.1.cells
      simp only at r0 r1 r2 r3 r4 r5 r6 r7
      refine bodyPost_ret (v := .tuple #[.agg #[.int .i64 0, .int .i64 0, .int .i64 0, .int .i64 0, .int .i64 0, .int .i64 0, .int .i64 0, .int .i64 0], .iface 44 (.int .i64 3)]) (by simp [results, Try.results6, go_sem, r0, r1, r2, r3, r4, r5, r6, r7]) rfl ?_
      exact ⟨HR.out.2, Or.inr ⟨HNG.out, rfl⟩⟩
    have HB0 : Hid (askedB L = false) := by show _ = _; rw [HBD.out, he9, hz9]; rfl
    rw [hz9, eN_zero] at hc9
    clear hz9 he9
    by_cases hze : er = 0
    case neg =>
      have HNG : Hid (¬ askedGood L) := fun q => by
        rcases HCS.out with q1 | q1
        · exact hze q1.1
        · have h2 := q.2
          rw [HC.out] at h2
          exact q1.2 ⟨h2.1, h2.2.1⟩
      rw [eN_pos hze]
      clear hze
      obtain ⟨r0, r1, r2, r3, r4, r5, r6, r7⟩ := H9.out.rs.cells
      have f0 := H9.out.rs.free 0; have f1 := H9.out.rs.free 1; have f2 := H9.out.rs.free 2; have f3 := H9.out.rs.free 3
      have f4 := H9.out.rs.free 4; have f5 := H9.out.rs.free 5; have f6 := H9.out.rs.free 6; have f7 := H9.out.rs.free 7
      have HR : Hid (CmAt 25 ((((((((wa.setCell ⟨ks, 0, none⟩ (.int .i64 0)).setCell ⟨ks, 1, none⟩ (.int .i64 0)).setCell ⟨ks, 2, none⟩ (.int .i64 0)).setCell ⟨ks, 3, none⟩ (.int .i64 0)).setCell ⟨ks, 4, none⟩ (.int .i64 0)).setCell ⟨ks, 5, none⟩ (.int .i64 0)).setCell ⟨ks, 6, none⟩ (.int .i64 0)).setCell ⟨ks, 7, none⟩ (.int .i64 0)) ks ⟨0, 0, 0, 0, 0, 0, 0, 0⟩ ∧ Only [] w ((((((((wa.setCell ⟨ks, 0, none⟩ (.int .i64 0)).setCell ⟨ks, 1, none⟩ (.int .i64 0)).setCell ⟨ks, 2, none⟩ (.int .i64 0)).setCell ⟨ks, 3, none⟩ (.int .i64 0)).setCell ⟨ks, 4, none⟩ (.int .i64 0)).setCell ⟨ks, 5, none⟩ (.int .i64 0)).setCell ⟨ks, 6, none⟩ (.int .i64 0)).setCell ⟨ks, 7, none⟩ (.int .i64 0))) := ⟨H9.out.rs.put8 ⟨0, 0, 0, 0, 0, 0, 0, 0⟩, H9.out.res ⟨0, 0, 0, 0, 0, 0, 0, 0⟩⟩
      go_wp2_with fail
      clear r0 r1 r2 r3 r4 r5 r6 r7 f0 f1 f2 f3 f4 f5 f6 f7
      revert HR
      generalize World.setCell (World.setCell (World.setCell (World.setCell (World.setCell (World.setCell (World.setCell (World.setCell wa _ _) _ _) _ _) _ _) _ _) _ _) _ _) _ _ = wz
      intro HR
      obtain ⟨r0, r1, r2, r3, r4, r5, r6, r7⟩ := HR.out.1.cells
      simp only at r0 r1 r2 r3 r4 r5 r6 r7
      refine bodyPost_ret (v := .tuple #[.agg #[.int .i64 0, .int .i64 0, .int .i64 0, .int .i64 0, .int .i64 0, .int .i64 0, .int .i64 0, .int .i64 0], .iface 44 (.int .i64 3)]) (by simp [results, Try.results6, go_sem, r0, r1, r2, r3, r4, r5, r6, r7]) rfl ?_
      exact ⟨HR.out.2, Or.inr ⟨HNG.out, rfl⟩⟩
    have HY : Hid ((0 ≤ (1 : Int) ∧ (1 : Int) ≤ 2) ∧ askOk ⟨x0, x1, x2, 1, x4, x5, x6, x7⟩ ∧ ReadsAs wa u (bytesOf (askT ⟨x0, x1, x2, 1, x4, x5, x6, x7⟩))) := by
      rcases HCS.out with q1 | q1
      · exact q1.2
      · exact absurd hze q1.1
    rw [hze, eN_zero]
    clear hze HCS
    go_wp2_with fail
    refine (equalB_calls u _ (bytesOf (askT ⟨x0, x1, x2, 1, x4, x5, x6, x7⟩)) L wa HY.out.2.2 (HB.out.2.2.2.only H9.out.only)).mono ?_
    rintro e wb ⟨rfl, rfl⟩
    have HCC : Hid (askedGood L ↔ sameB (bytesOf (askT ⟨x0, x1, x2, 1, x4, x5, x6, x7⟩)) L = true) := by
      show _ ↔ _
      unfold askedGood
      rw [HC.out]
      exact ⟨fun q => q.2.2.2, fun q => ⟨HB0.out, HY.out.1, HY.out.2.1, q⟩⟩
    obtain ⟨sb, hsb⟩ : ∃ sb, sb = sameB (bytesOf (askT ⟨x0, x1, x2, 1, x4, x5, x6, x7⟩)) L := ⟨_, rfl⟩
    rw [← hsb] at HCC ⊢
    clear hsb
    cases sb with
    | false =>
      have HNG : Hid (¬ askedGood L) := fun q => by have := HCC.out.1 q; cases this
      obtain ⟨r0, r1, r2, r3, r4, r5, r6, r7⟩ := H9.out.rs.cells
      have f0 := H9.out.rs.free 0; have f1 := H9.out.rs.free 1; have f2 := H9.out.rs.free 2; have f3 := H9.out.rs.free 3
      have f4 := H9.out.rs.free 4; have f5 := H9.out.rs.free 5; have f6 := H9.out.rs.free 6; have f7 := H9.out.rs.free 7
      have HR : Hid (CmAt 25 ((((((((wb.setCell ⟨ks, 0, none⟩ (.int .i64 0)).setCell ⟨ks, 1, none⟩ (.int .i64 0)).setCell ⟨ks, 2, none⟩ (.int .i64 0)).setCell ⟨ks, 3, none⟩ (.int .i64 0)).setCell ⟨ks, 4, none⟩ (.int .i64 0)).setCell ⟨ks, 5, none⟩ (.int .i64 0)).setCell ⟨ks, 6, none⟩ (.int .i64 0)).setCell ⟨ks, 7, none⟩ (.int .i64 0)) ks ⟨0, 0, 0, 0, 0, 0, 0, 0⟩ ∧ Only [] w ((((((((wb.setCell ⟨ks, 0, none⟩ (.int .i64 0)).setCell ⟨ks, 1, none⟩ (.int .i64 0)).setCell ⟨ks, 2, none⟩ (.int .i64 0)).setCell ⟨ks, 3, none⟩ (.int .i64 0)).setCell ⟨ks, 4, none⟩ (.int .i64 0)).setCell ⟨ks, 5, none⟩ (.int .i64 0)).setCell ⟨ks, 6, none⟩ (.int .i64 0)).setCell ⟨ks, 7, none⟩ (.int .i64 0))) := ⟨H9.out.rs.put8 ⟨0, 0, 0, 0, 0, 0, 0, 0⟩, H9.out.res ⟨0, 0, 0, 0, 0, 0, 0, 0⟩⟩
      go_wp2_with fail
      clear r0 r1 r2 r3 r4 r5 r6 r7 f0 f1 f2 f3 f4 f5 f6 f7
      revert HR
      generalize World.setCell (World.setCell (World.setCell (World.setCell (World.setCell (World.setCell (World.setCell (World.setCell wb _ _) _ _) _ _) _ _) _ _) _ _) _ _) _ _ = wz
      intro HR
      obtain ⟨r0, r1, r2, r3, r4, r5, r6, r7⟩ := HR.out.1.cells
      simp only at r0 r1 r2 r3 r4 r5 r6 r7
      refine bodyPost_ret (v := .tuple #[.agg #[.int .i64 0, .int .i64 0, .int .i64 0, .int .i64 0, .int .i64 0, .int .i64 0, .int .i64 0, .int .i64 0], .iface 44 (.int .i64 3)]) (by simp [results, Try.results6, go_sem, r0, r1, r2, r3, r4, r5, r6, r7]) rfl ?_
      exact ⟨HR.out.2, Or.inr ⟨HNG.out, rfl⟩⟩
    | true =>
      have HGD : Hid (askedGood L) := HCC.out.2 rfl
      obtain ⟨c0, c1, c2, c3, c4, c5, c6, c7⟩ := H9.out.cm.cells
      simp only at c0 c1 c2 c3 c4 c5 c6 c7
      obtain ⟨r0, r1, r2, r3, r4, r5, r6, r7⟩ := H9.out.rs.cells
      have f0 := H9.out.rs.free 0; have f1 := H9.out.rs.free 1; have f2 := H9.out.rs.free 2; have f3 := H9.out.rs.free 3
      have f4 := H9.out.rs.free 4; have f5 := H9.out.rs.free 5; have f6 := H9.out.rs.free 6; have f7 := H9.out.rs.free 7
      have HR : Hid (CmAt 25 ((((((((wb.setCell ⟨ks, 0, none⟩ (.int .i64 x0)).setCell ⟨ks, 1, none⟩ (.int .i64 x1)).setCell ⟨ks, 2, none⟩ (.int .i64 x2)).setCell ⟨ks, 3, none⟩ (.int .i64 1)).setCell ⟨ks, 4, none⟩ (.int .i64 x4)).setCell ⟨ks, 5, none⟩ (.int .i64 x5)).setCell ⟨ks, 6, none⟩ (.int .i64 x6)).setCell ⟨ks, 7, none⟩ (.int .i64 x7)) ks ⟨x0, x1, x2, 1, x4, x5, x6, x7⟩ ∧ Only [] w ((((((((wb.setCell ⟨ks, 0, none⟩ (.int .i64 x0)).setCell ⟨ks, 1, none⟩ (.int .i64 x1)).setCell ⟨ks, 2, none⟩ (.int .i64 x2)).setCell ⟨ks, 3, none⟩ (.int .i64 1)).setCell ⟨ks, 4, none⟩ (.int .i64 x4)).setCell ⟨ks, 5, none⟩ (.int .i64 x5)).setCell ⟨ks, 6, none⟩ (.int .i64 x6)).setCell ⟨ks, 7, none⟩ (.int .i64 x7))) := ⟨H9.out.rs.put8 ⟨x0, x1, x2, 1, x4, x5, x6, x7⟩, H9.out.res ⟨x0, x1, x2, 1, x4, x5, x6, x7⟩⟩
      go_wp2_with fail
      clear r0 r1 r2 r3 r4 r5 r6 r7 f0 f1 f2 f3 f4 f5 f6 f7
      revert HR
      generalize World.setCell (World.setCell (World.setCell (World.setCell (World.setCell (World.setCell (World.setCell (World.setCell wb _ _) _ _) _ _) _ _) _ _) _ _) _ _) _ _ = wz
      intro HR
      obtain ⟨r0, r1, r2, r3, r4, r5, r6, r7⟩ := HR.out.1.cells
      simp only at r0 r1 r2 r3 r4 r5 r6 r7
      refine bodyPost_ret (v := .tuple #[.agg #[.int .i64 x0, .int .i64 x1, .int .i64 x2, .int .i64 1, .int .i64 x4, .int .i64 x5, .int .i64 x6, .int .i64 x7], .nilIface]) (by simp [results, Try.results6, go_sem, r0, r1, r2, r3, r4, r5, r6, r7]) rfl ?_
      exact ⟨HR.out.2, Or.inl ⟨HGD.out, by rw [HC.out]; rfl⟩⟩
  by_cases hk2 : kd = 2
  · subst hk2
    clear hk1
    obtain ⟨c0, c1, c2, c3, c4, c5, c6, c7⟩ := H4.out.cm.cells
    simp only at c0 c1 c2 c3 c4 c5 c6 c7
    go_wp2_with fail
    refine (hasBody_calls _ _).mono ?_
    rintro e w6 ⟨rfl, rfl⟩
    rw [show decide ((2 : Int) = 1 ∨ (2 : Int) = 2) = true by decide]
    clear c0 c1 c2 c3 c4 c5 c6 c7
    go_wp2_with fail
    have HN : Hid (AS w kr r ar cr L kc ks #[.int .i64 x0, .int .i64 x1, .int .i64 x2, .int .i64 2, .int .i64 0, .int .i64 0, .int .i64 0, .int .i64 0] (bad3 L) (a3 L).2.2 (w6.alloc (.cells #[.pointer (some ⟨kc, 4, none⟩)] 60))) := H4.out.keep ((Only.refl _ _).alloc _)
    have h0 := PtrsAt.new1 w6 kc 4 60
    have HG : Hid (w6.heap.size ≠ kr ∧ w6.heap.size ≠ r ∧ w6.heap.size ≠ kc) := H4.out.fresh
    revert h0 HN HG
    generalize w6.heap.size = g
    generalize World.alloc w6 _ = w6'
    intro HN h0 HG
    refine (varsR_calls kr r ar cr L kc 25 _ g [4] _ w6' HN.out.rx h0 HG.out (by simp) (by simp)).mono ?_
    rintro e w7 ⟨rfl, h1, o1⟩
    have H5 : Hid (AS w kr r ar cr L kc ks #[.int .i64 x0, .int .i64 x1, .int .i64 x2, .int .i64 2, .int .i64 (((b4 L).2.1 : Nat)), .int .i64 0, .int .i64 0, .int .i64 0] (bad3 L || dE (b4 L)) (b4 L).2.2 w7) := HN.out.step h1 o1 (by simp only [List.foldl_cons, List.foldl_nil, stepV, List.setIfInBounds_toArray, List.set_cons_zero, List.set_cons_succ, Bool.false_or]; rfl)
    clear h0 h1 o1 HN HG H4
    obtain ⟨x4, hx4⟩ : ∃ x4 : Int, x4 = (((b4 L).2.1 : Nat) : Int) := ⟨_, rfl⟩
    have HX4 : Hid (x4 = (((b4 L).2.1 : Nat) : Int)) := hx4
    rw [← hx4] at H5
    clear hx4
    obtain ⟨c0, c1, c2, c3, c4, c5, c6, c7⟩ := H5.out.cm.cells
    simp only at c0 c1 c2 c3 c4 c5 c6 c7
    go_wp2_with fail
    refine (hasWay_calls _ _).mono ?_
    rintro e w8 ⟨rfl, rfl⟩
    rw [show decide ((2 : Int) = 1) = false by decide]
    clear c0 c1 c2 c3 c4 c5 c6 c7
    have HC : Hid (askedC L = ⟨x0, x1, x2, 2, x4, 0, 0, 0⟩) := by show _ = _; unfold askedC; rw [if_neg (by rw [← HKD.out]; decide), if_pos HKD.out.symm, ← HX.out.1, ← HX.out.2.1, ← HX.out.2.2, ← HX4.out]
    have HBD : Hid (askedB L = (bad3 L || dE (b4 L))) := by show _ = _; unfold askedB; rw [if_neg (by rw [← HKD.out]; decide), if_pos HKD.out.symm]
    obtain ⟨bd, hbd⟩ : ∃ bd, bd = (bad3 L || dE (b4 L)) := ⟨_, rfl⟩
    rw [← hbd] at H5 HBD
    clear hbd
    obtain ⟨c0, c1, c2, c3, c4, c5, c6, c7⟩ := H5.out.cm.cells
    simp only at c0 c1 c2 c3 c4 c5 c6 c7
    go_wp2_with fail
    refine (ask_calls ⟨x0, x1, x2, 2, x4, 0, 0, 0⟩ w8).mono ?_
    intro e2 wa ha
    have HA : Hid (AS w kr r ar cr L kc ks #[.int .i64 x0, .int .i64 x1, .int .i64 x2, .int .i64 2, .int .i64 x4, .int .i64 0, .int .i64 0, .int .i64 0] bd (b4 L).2.2 wa ∧ AskPost ⟨x0, x1, x2, 2, x4, 0, 0, 0⟩ w8 e2 wa) := ⟨H5.out.keep ha.1, ha⟩
    clear c0 c1 c2 c3 c4 c5 c6 c7 H5
    have hsh : ∃ u er, e2 = .returned (.tuple #[u, eN er]) ∧ ((er = 0 ∧ (0 ≤ (2 : Int) ∧ (2 : Int) ≤ 2) ∧ askOk ⟨x0, x1, x2, 2, x4, 0, 0, 0⟩ ∧ ReadsAs wa u (bytesOf (askT ⟨x0, x1, x2, 2, x4, 0, 0, 0⟩))) ∨ (er ≠ 0 ∧ ¬ ((0 ≤ (2 : Int) ∧ (2 : Int) ≤ 2) ∧ askOk ⟨x0, x1, x2, 2, x4, 0, 0, 0⟩))) := by
      rcases ha.2 with ⟨n, e⟩ | ⟨y, n, e⟩ | ⟨y, k, v, e, hf⟩
      · exact ⟨_, 1, e, Or.inr ⟨by decide, fun q => n q.1⟩⟩
      · exact ⟨_, 2, e, Or.inr ⟨by decide, fun q => n q.2⟩⟩
      · exact ⟨v, 0, e, Or.inl ⟨rfl, y, k, hf.reads⟩⟩
    clear ha
    obtain ⟨u, er, rfl, hcase⟩ := hsh
    have HCS : Hid ((er = 0 ∧ (0 ≤ (2 : Int) ∧ (2 : Int) ≤ 2) ∧ askOk ⟨x0, x1, x2, 2, x4, 0, 0, 0⟩ ∧ ReadsAs wa u (bytesOf (askT ⟨x0, x1, x2, 2, x4, 0, 0, 0⟩))) ∨ (er ≠ 0 ∧ ¬ ((0 ≤ (2 : Int) ∧ (2 : Int) ≤ 2) ∧ askOk ⟨x0, x1, x2, 2, x4, 0, 0, 0⟩))) := hcase
    clear hcase
    have H9 : Hid (AS w kr r ar cr L kc ks #[.int .i64 x0, .int .i64 x1, .int .i64 x2, .int .i64 2, .int .i64 x4, .int .i64 0, .int .i64 0, .int .i64 0] bd (b4 L).2.2 wa) := HA.out.1
    clear HA
    obtain ⟨e9, he9, hc9⟩ := H9.out.err
    by_cases hz9 : e9 = 0
    case neg =>
      have HNG : Hid (¬ askedGood L) := fun q => by
        have h1 := q.1
        rw [HBD.out, he9] at h1
        simp [hz9] at h1
      rw [eN_pos hz9] at hc9
      clear hz9 he9
      obtain ⟨r0, r1, r2, r3, r4, r5, r6, r7⟩ := H9.out.rs.cells
      have f0 := H9.out.rs.free 0; have f1 := H9.out.rs.free 1; have f2 := H9.out.rs.free 2; have f3 := H9.out.rs.free 3
      have f4 := H9.out.rs.free 4; have f5 := H9.out.rs.free 5; have f6 := H9.out.rs.free 6; have f7 := H9.out.rs.free 7
      have HR : Hid (CmAt 25 ((((((((wa.setCell ⟨ks, 0, none⟩ (.int .i64 0)).setCell ⟨ks, 1, none⟩ (.int .i64 0)).setCell ⟨ks, 2, none⟩ (.int .i64 0)).setCell ⟨ks, 3, none⟩ (.int .i64 0)).setCell ⟨ks, 4, none⟩ (.int .i64 0)).setCell ⟨ks, 5, none⟩ (.int .i64 0)).setCell ⟨ks, 6, none⟩ (.int .i64 0)).setCell ⟨ks, 7, none⟩ (.int .i64 0)) ks ⟨0, 0, 0, 0, 0, 0, 0, 0⟩ ∧ Only [] w ((((((((wa.setCell ⟨ks, 0, none⟩ (.int .i64 0)).setCell ⟨ks, 1, none⟩ (.int .i64 0)).setCell ⟨ks, 2, none⟩ (.int .i64 0)).setCell ⟨ks, 3, none⟩ (.int .i64 0)).setCell ⟨ks, 4, none⟩ (.int .i64 0)).setCell ⟨ks, 5, none⟩ (.int .i64 0)).setCell ⟨ks, 6, none⟩ (.int .i64 0)).setCell ⟨ks, 7, none⟩ (.int .i64 0))) := ⟨H9.out.rs.put8 ⟨0, 0, 0, 0, 0, 0, 0, 0⟩, H9.out.res ⟨0, 0, 0, 0, 0, 0, 0, 0⟩⟩
      go_wp2_with fail
      clear r0 r1 r2 r3 r4 r5 r6 r7 f0 f1 f2 f3 f4 f5 f6 f7
      revert HR
      generalize World.setCell (World.setCell (World.setCell (World.setCell (World.setCell (World.setCell (World.setCell (World.setCell wa _ _) _ _) _ _) _ _) _ _) _ _) _ _) _ _ = wz
      intro HR
      obtain ⟨r0, r1, r2, r3, r4, r5, r6, r7⟩ := HR.out.1.cells
      simp only at r0 r1 r2 r3 r4 r5 r6 r7
      refine bodyPost_ret (v := .tuple #[.agg #[.int .i64 0, .int .i64 0, .int .i64 0, .int .i64 0, .int .i64 0, .int .i64 0, .int .i64 0, .int .i64 0], .iface 44 (.int .i64 3)]) (by simp [results, Try.results6, go_sem, r0, r1, r2, r3, r4, r5, r6, r7]) rfl ?_
      exact ⟨HR.out.2, Or.inr ⟨HNG.out, rfl⟩⟩
    have HB0 : Hid (askedB L = false) := by show _ = _; rw [HBD.out, he9, hz9]; rfl
    rw [hz9, eN_zero] at hc9
    clear hz9 he9
    by_cases hze : er = 0
    case neg =>
      have HNG : Hid (¬ askedGood L) := fun q => by
        rcases HCS.out with q1 | q1
        · exact hze q1.1
        · have h2 := q.2
          rw [HC.out] at h2
          exact q1.2 ⟨h2.1, h2.2.1⟩
      rw [eN_pos hze]
      clear hze
      obtain ⟨r0, r1, r2, r3, r4, r5, r6, r7⟩ := H9.out.rs.cells
      have f0 := H9.out.rs.free 0; have f1 := H9.out.rs.free 1; have f2 := H9.out.rs.free 2; have f3 := H9.out.rs.free 3
      have f4 := H9.out.rs.free 4; have f5 := H9.out.rs.free 5; have f6 := H9.out.rs.free 6; have f7 := H9.out.rs.free 7
      have HR : Hid (CmAt 25 ((((((((wa.setCell ⟨ks, 0, none⟩ (.int .i64 0)).setCell ⟨ks, 1, none⟩ (.int .i64 0)).setCell ⟨ks, 2, none⟩ (.int .i64 0)).setCell ⟨ks, 3, none⟩ (.int .i64 0)).setCell ⟨ks, 4, none⟩ (.int .i64 0)).setCell ⟨ks, 5, none⟩ (.int .i64 0)).setCell ⟨ks, 6, none⟩ (.int .i64 0)).setCell ⟨ks, 7, none⟩ (.int .i64 0)) ks ⟨0, 0, 0, 0, 0, 0, 0, 0⟩ ∧ Only [] w ((((((((wa.setCell ⟨ks, 0, none⟩ (.int .i64 0)).setCell ⟨ks, 1, none⟩ (.int .i64 0)).setCell ⟨ks, 2, none⟩ (.int .i64 0)).setCell ⟨ks, 3, none⟩ (.int .i64 0)).setCell ⟨ks, 4, none⟩ (.int .i64 0)).setCell ⟨ks, 5, none⟩ (.int .i64 0)).setCell ⟨ks, 6, none⟩ (.int .i64 0)).setCell ⟨ks, 7, none⟩ (.int .i64 0))) := ⟨H9.out.rs.put8 ⟨0, 0, 0, 0, 0, 0, 0, 0⟩, H9.out.res ⟨0, 0, 0, 0, 0, 0, 0, 0⟩⟩
      go_wp2_with fail
      clear r0 r1 r2 r3 r4 r5 r6 r7 f0 f1 f2 f3 f4 f5 f6 f7
      revert HR
      generalize World.setCell (World.setCell (World.setCell (World.setCell (World.setCell (World.setCell (World.setCell (World.setCell wa _ _) _ _) _ _) _ _) _ _) _ _) _ _) _ _ = wz
      intro HR
      obtain ⟨r0, r1, r2, r3, r4, r5, r6, r7⟩ := HR.out.1.cells
      simp only at r0 r1 r2 r3 r4 r5 r6 r7
      refine bodyPost_ret (v := .tuple #[.agg #[.int .i64 0, .int .i64 0, .int .i64 0, .int .i64 0, .int .i64 0, .int .i64 0, .int .i64 0, .int .i64 0], .iface 44 (.int .i64 3)]) (by simp [results, Try.results6, go_sem, r0, r1, r2, r3, r4, r5, r6, r7]) rfl ?_
      exact ⟨HR.out.2, Or.inr ⟨HNG.out, rfl⟩⟩
    have HY : Hid ((0 ≤ (2 : Int) ∧ (2 : Int) ≤ 2) ∧ askOk ⟨x0, x1, x2, 2, x4, 0, 0, 0⟩ ∧ ReadsAs wa u (bytesOf (askT ⟨x0, x1, x2, 2, x4, 0, 0, 0⟩))) := by
      rcases HCS.out with q1 | q1
      · exact q1.2
      · exact absurd hze q1.1
    rw [hze, eN_zero]
    clear hze HCS
    go_wp2_with fail
    refine (equalB_calls u _ (bytesOf (askT ⟨x0, x1, x2, 2, x4, 0, 0, 0⟩)) L wa HY.out.2.2 (HB.out.2.2.2.only H9.out.only)).mono ?_
    rintro e wb ⟨rfl, rfl⟩
    have HCC : Hid (askedGood L ↔ sameB (bytesOf (askT ⟨x0, x1, x2, 2, x4, 0, 0, 0⟩)) L = true) := by
      show _ ↔ _
      unfold askedGood
      rw [HC.out]
      exact ⟨fun q => q.2.2.2, fun q => ⟨HB0.out, HY.out.1, HY.out.2.1, q⟩⟩
    obtain ⟨sb, hsb⟩ : ∃ sb, sb = sameB (bytesOf (askT ⟨x0, x1, x2, 2, x4, 0, 0, 0⟩)) L := ⟨_, rfl⟩
    rw [← hsb] at HCC ⊢
    clear hsb
    cases sb with
    | false =>
      have HNG : Hid (¬ askedGood L) := fun q => by have := HCC.out.1 q; cases this
      obtain ⟨r0, r1, r2, r3, r4, r5, r6, r7⟩ := H9.out.rs.cells
      have f0 := H9.out.rs.free 0; have f1 := H9.out.rs.free 1; have f2 := H9.out.rs.free 2; have f3 := H9.out.rs.free 3
      have f4 := H9.out.rs.free 4; have f5 := H9.out.rs.free 5; have f6 := H9.out.rs.free 6; have f7 := H9.out.rs.free 7
      have HR : Hid (CmAt 25 ((((((((wb.setCell ⟨ks, 0, none⟩ (.int .i64 0)).setCell ⟨ks, 1, none⟩ (.int .i64 0)).setCell ⟨ks, 2, none⟩ (.int .i64 0)).setCell ⟨ks, 3, none⟩ (.int .i64 0)).setCell ⟨ks, 4, none⟩ (.int .i64 0)).setCell ⟨ks, 5, none⟩ (.int .i64 0)).setCell ⟨ks, 6, none⟩ (.int .i64 0)).setCell ⟨ks, 7, none⟩ (.int .i64 0)) ks ⟨0, 0, 0, 0, 0, 0, 0, 0⟩ ∧ Only [] w ((((((((wb.setCell ⟨ks, 0, none⟩ (.int .i64 0)).setCell ⟨ks, 1, none⟩ (.int .i64 0)).setCell ⟨ks, 2, none⟩ (.int .i64 0)).setCell ⟨ks, 3, none⟩ (.int .i64 0)).setCell ⟨ks, 4, none⟩ (.int .i64 0)).setCell ⟨ks, 5, none⟩ (.int .i64 0)).setCell ⟨ks, 6, none⟩ (.int .i64 0)).setCell ⟨ks, 7, none⟩ (.int .i64 0))) := ⟨H9.out.rs.put8 ⟨0, 0, 0, 0, 0, 0, 0, 0⟩, H9.out.res ⟨0, 0, 0, 0, 0, 0, 0, 0⟩⟩
      go_wp2_with fail
      clear r0 r1 r2 r3 r4 r5 r6 r7 f0 f1 f2 f3 f4 f5 f6 f7
      revert HR
      generalize World.setCell (World.setCell (World.setCell (World.setCell (World.setCell (World.setCell (World.setCell (World.setCell wb _ _) _ _) _ _) _ _) _ _) _ _) _ _) _ _ = wz
      intro HR
      obtain ⟨r0, r1, r2, r3, r4, r5, r6, r7⟩ := HR.out.1.cells
      simp only at r0 r1 r2 r3 r4 r5 r6 r7
      refine bodyPost_ret (v := .tuple #[.agg #[.int .i64 0, .int .i64 0, .int .i64 0, .int .i64 0, .int .i64 0, .int .i64 0, .int .i64 0, .int .i64 0], .iface 44 (.int .i64 3)]) (by simp [results, Try.results6, go_sem, r0, r1, r2, r3, r4, r5, r6, r7]) rfl ?_
      exact ⟨HR.out.2, Or.inr ⟨HNG.out, rfl⟩⟩
    | true =>
      have HGD : Hid (askedGood L) := HCC.out.2 rfl
      obtain ⟨c0, c1, c2, c3, c4, c5, c6, c7⟩ := H9.out.cm.cells
      simp only at c0 c1 c2 c3 c4 c5 c6 c7
      obtain ⟨r0, r1, r2, r3, r4, r5, r6, r7⟩ := H9.out.rs.cells
      have f0 := H9.out.rs.free 0; have f1 := H9.out.rs.free 1; have f2 := H9.out.rs.free 2; have f3 := H9.out.rs.free 3
      have f4 := H9.out.rs.free 4; have f5 := H9.out.rs.free 5; have f6 := H9.out.rs.free 6; have f7 := H9.out.rs.free 7
      have HR : Hid (CmAt 25 ((((((((wb.setCell ⟨ks, 0, none⟩ (.int .i64 x0)).setCell ⟨ks, 1, none⟩ (.int .i64 x1)).setCell ⟨ks, 2, none⟩ (.int .i64 x2)).setCell ⟨ks, 3, none⟩ (.int .i64 2)).setCell ⟨ks, 4, none⟩ (.int .i64 x4)).setCell ⟨ks, 5, none⟩ (.int .i64 0)).setCell ⟨ks, 6, none⟩ (.int .i64 0)).setCell ⟨ks, 7, none⟩ (.int .i64 0)) ks ⟨x0, x1, x2, 2, x4, 0, 0, 0⟩ ∧ Only [] w ((((((((wb.setCell ⟨ks, 0, none⟩ (.int .i64 x0)).setCell ⟨ks, 1, none⟩ (.int .i64 x1)).setCell ⟨ks, 2, none⟩ (.int .i64 x2)).setCell ⟨ks, 3, none⟩ (.int .i64 2)).setCell ⟨ks, 4, none⟩ (.int .i64 x4)).setCell ⟨ks, 5, none⟩ (.int .i64 0)).setCell ⟨ks, 6, none⟩ (.int .i64 0)).setCell ⟨ks, 7, none⟩ (.int .i64 0))) := ⟨H9.out.rs.put8 ⟨x0, x1, x2, 2, x4, 0, 0, 0⟩, H9.out.res ⟨x0, x1, x2, 2, x4, 0, 0, 0⟩⟩
      go_wp2_with fail
      clear r0 r1 r2 r3 r4 r5 r6 r7 f0 f1 f2 f3 f4 f5 f6 f7
      revert HR
      generalize World.setCell (World.setCell (World.setCell (World.setCell (World.setCell (World.setCell (World.setCell (World.setCell wb _ _) _ _) _ _) _ _) _ _) _ _) _ _) _ _ = wz
      intro HR
      obtain ⟨r0, r1, r2, r3, r4, r5, r6, r7⟩ := HR.out.1.cells
      simp only at r0 r1 r2 r3 r4 r5 r6 r7
      refine bodyPost_ret (v := .tuple #[.agg #[.int .i64 x0, .int .i64 x1, .int .i64 x2, .int .i64 2, .int .i64 x4, .int .i64 0, .int .i64 0, .int .i64 0], .nilIface]) (by simp [results, Try.results6, go_sem, r0, r1, r2, r3, r4, r5, r6, r7]) rfl ?_
      exact ⟨HR.out.2, Or.inl ⟨HGD.out, by rw [HC.out]; rfl⟩⟩
  · have HN12 : Hid (kd ≠ 1 ∧ kd ≠ 2) := ⟨hk1, hk2⟩
    have hnb : decide (kd = 1 ∨ kd = 2) = false := by simp [hk1, hk2]
    have hnw : decide (kd = 1) = false := by simp [hk1]
    clear hk1 hk2
    obtain ⟨c0, c1, c2, c3, c4, c5, c6, c7⟩ := H4.out.cm.cells
    simp only at c0 c1 c2 c3 c4 c5 c6 c7
    go_wp2_with fail
    refine (hasBody_calls _ _).mono ?_
    rintro e w6 ⟨rfl, rfl⟩
    rw [hnb]
    go_wp2_with fail
    refine (hasWay_calls _ _).mono ?_
    rintro e w8 ⟨rfl, rfl⟩
    rw [hnw]
    clear c0 c1 c2 c3 c4 c5 c6 c7
    have HC : Hid (askedC L = ⟨x0, x1, x2, kd, 0, 0, 0, 0⟩) := by show _ = _; unfold askedC; rw [if_neg (by rw [← HKD.out]; exact HN12.out.1), if_neg (by rw [← HKD.out]; exact HN12.out.2), ← HX.out.1, ← HX.out.2.1, ← HX.out.2.2, ← HKD.out]
    have HBD : Hid (askedB L = (bad3 L)) := by show _ = _; unfold askedB; rw [if_neg (by rw [← HKD.out]; exact HN12.out.1), if_neg (by rw [← HKD.out]; exact HN12.out.2)]
    obtain ⟨bd, hbd⟩ : ∃ bd, bd = (bad3 L) := ⟨_, rfl⟩
    rw [← hbd] at H4 HBD
    clear hbd
    obtain ⟨c0, c1, c2, c3, c4, c5, c6, c7⟩ := H4.out.cm.cells
    simp only at c0 c1 c2 c3 c4 c5 c6 c7
    go_wp2_with fail
    refine (ask_calls ⟨x0, x1, x2, kd, 0, 0, 0, 0⟩ w8).mono ?_
    intro e2 wa ha
    have HA : Hid (AS w kr r ar cr L kc ks #[.int .i64 x0, .int .i64 x1, .int .i64 x2, .int .i64 kd, .int .i64 0, .int .i64 0, .int .i64 0, .int .i64 0] bd (a3 L).2.2 wa ∧ AskPost ⟨x0, x1, x2, kd, 0, 0, 0, 0⟩ w8 e2 wa) := ⟨H4.out.keep ha.1, ha⟩
    clear c0 c1 c2 c3 c4 c5 c6 c7 H4
    have hsh : ∃ u er, e2 = .returned (.tuple #[u, eN er]) ∧ ((er = 0 ∧ (0 ≤ (kd : Int) ∧ (kd : Int) ≤ 2) ∧ askOk ⟨x0, x1, x2, kd, 0, 0, 0, 0⟩ ∧ ReadsAs wa u (bytesOf (askT ⟨x0, x1, x2, kd, 0, 0, 0, 0⟩))) ∨ (er ≠ 0 ∧ ¬ ((0 ≤ (kd : Int) ∧ (kd : Int) ≤ 2) ∧ askOk ⟨x0, x1, x2, kd, 0, 0, 0, 0⟩))) := by
      rcases ha.2 with ⟨n, e⟩ | ⟨y, n, e⟩ | ⟨y, k, v, e, hf⟩
      · exact ⟨_, 1, e, Or.inr ⟨by decide, fun q => n q.1⟩⟩
      · exact ⟨_, 2, e, Or.inr ⟨by decide, fun q => n q.2⟩⟩
      · exact ⟨v, 0, e, Or.inl ⟨rfl, y, k, hf.reads⟩⟩
    clear ha
    obtain ⟨u, er, rfl, hcase⟩ := hsh
    have HCS : Hid ((er = 0 ∧ (0 ≤ (kd : Int) ∧ (kd : Int) ≤ 2) ∧ askOk ⟨x0, x1, x2, kd, 0, 0, 0, 0⟩ ∧ ReadsAs wa u (bytesOf (askT ⟨x0, x1, x2, kd, 0, 0, 0, 0⟩))) ∨ (er ≠ 0 ∧ ¬ ((0 ≤ (kd : Int) ∧ (kd : Int) ≤ 2) ∧ askOk ⟨x0, x1, x2, kd, 0, 0, 0, 0⟩))) := hcase
    clear hcase
    have H9 : Hid (AS w kr r ar cr L kc ks #[.int .i64 x0, .int .i64 x1, .int .i64 x2, .int .i64 kd, .int .i64 0, .int .i64 0, .int .i64 0, .int .i64 0] bd (a3 L).2.2 wa) := HA.out.1
    clear HA
    obtain ⟨e9, he9, hc9⟩ := H9.out.err
    by_cases hz9 : e9 = 0
    case neg =>
      have HNG : Hid (¬ askedGood L) := fun q => by
        have h1 := q.1
        rw [HBD.out, he9] at h1
        simp [hz9] at h1
      rw [eN_pos hz9] at hc9
      clear hz9 he9
      obtain ⟨r0, r1, r2, r3, r4, r5, r6, r7⟩ := H9.out.rs.cells
      have f0 := H9.out.rs.free 0; have f1 := H9.out.rs.free 1; have f2 := H9.out.rs.free 2; have f3 := H9.out.rs.free 3
      have f4 := H9.out.rs.free 4; have f5 := H9.out.rs.free 5; have f6 := H9.out.rs.free 6; have f7 := H9.out.rs.free 7
      have HR : Hid (CmAt 25 ((((((((wa.setCell ⟨ks, 0, none⟩ (.int .i64 0)).setCell ⟨ks, 1, none⟩ (.int .i64 0)).setCell ⟨ks, 2, none⟩ (.int .i64 0)).setCell ⟨ks, 3, none⟩ (.int .i64 0)).setCell ⟨ks, 4, none⟩ (.int .i64 0)).setCell ⟨ks, 5, none⟩ (.int .i64 0)).setCell ⟨ks, 6, none⟩ (.int .i64 0)).setCell ⟨ks, 7, none⟩ (.int .i64 0)) ks ⟨0, 0, 0, 0, 0, 0, 0, 0⟩ ∧ Only [] w ((((((((wa.setCell ⟨ks, 0, none⟩ (.int .i64 0)).setCell ⟨ks, 1, none⟩ (.int .i64 0)).setCell ⟨ks, 2, none⟩ (.int .i64 0)).setCell ⟨ks, 3, none⟩ (.int .i64 0)).setCell ⟨ks, 4, none⟩ (.int .i64 0)).setCell ⟨ks, 5, none⟩ (.int .i64 0)).setCell ⟨ks, 6, none⟩ (.int .i64 0)).setCell ⟨ks, 7, none⟩ (.int .i64 0))) := ⟨H9.out.rs.put8 ⟨0, 0, 0, 0, 0, 0, 0, 0⟩, H9.out.res ⟨0, 0, 0, 0, 0, 0, 0, 0⟩⟩
      go_wp2_with fail
      clear r0 r1 r2 r3 r4 r5 r6 r7 f0 f1 f2 f3 f4 f5 f6 f7
      revert HR
      generalize World.setCell (World.setCell (World.setCell (World.setCell (World.setCell (World.setCell (World.setCell (World.setCell wa _ _) _ _) _ _) _ _) _ _) _ _) _ _) _ _ = wz
      intro HR
      obtain ⟨r0, r1, r2, r3, r4, r5, r6, r7⟩ := HR.out.1.cells
      simp only at r0 r1 r2 r3 r4 r5 r6 r7
      refine bodyPost_ret (v := .tuple #[.agg #[.int .i64 0, .int .i64 0, .int .i64 0, .int .i64 0, .int .i64 0, .int .i64 0, .int .i64 0, .int .i64 0], .iface 44 (.int .i64 3)]) (by simp [results, Try.results6, go_sem, r0, r1, r2, r3, r4, r5, r6, r7]) rfl ?_
      exact ⟨HR.out.2, Or.inr ⟨HNG.out, rfl⟩⟩
    have HB0 : Hid (askedB L = false) := by show _ = _; rw [HBD.out, he9, hz9]; rfl
    rw [hz9, eN_zero] at hc9
    clear hz9 he9
    by_cases hze : er = 0
    case neg =>
      have HNG : Hid (¬ askedGood L) := fun q => by
        rcases HCS.out with q1 | q1
        · exact hze q1.1
        · have h2 := q.2
          rw [HC.out] at h2
          exact q1.2 ⟨h2.1, h2.2.1⟩
      rw [eN_pos hze]
      clear hze
      obtain ⟨r0, r1, r2, r3, r4, r5, r6, r7⟩ := H9.out.rs.cells
      have f0 := H9.out.rs.free 0; have f1 := H9.out.rs.free 1; have f2 := H9.out.rs.free 2; have f3 := H9.out.rs.free 3
      have f4 := H9.out.rs.free 4; have f5 := H9.out.rs.free 5; have f6 := H9.out.rs.free 6; have f7 := H9.out.rs.free 7
      have HR : Hid (CmAt 25 ((((((((wa.setCell ⟨ks, 0, none⟩ (.int .i64 0)).setCell ⟨ks, 1, none⟩ (.int .i64 0)).setCell ⟨ks, 2, none⟩ (.int .i64 0)).setCell ⟨ks, 3, none⟩ (.int .i64 0)).setCell ⟨ks, 4, none⟩ (.int .i64 0)).setCell ⟨ks, 5, none⟩ (.int .i64 0)).setCell ⟨ks, 6, none⟩ (.int .i64 0)).setCell ⟨ks, 7, none⟩ (.int .i64 0)) ks ⟨0, 0, 0, 0, 0, 0, 0, 0⟩ ∧ Only [] w ((((((((wa.setCell ⟨ks, 0, none⟩ (.int .i64 0)).setCell ⟨ks, 1, none⟩ (.int .i64 0)).setCell ⟨ks, 2, none⟩ (.int .i64 0)).setCell ⟨ks, 3, none⟩ (.int .i64 0)).setCell ⟨ks, 4, none⟩ (.int .i64 0)).setCell ⟨ks, 5, none⟩ (.int .i64 0)).setCell ⟨ks, 6, none⟩ (.int .i64 0)).setCell ⟨ks, 7, none⟩ (.int .i64 0))) := ⟨H9.out.rs.put8 ⟨0, 0, 0, 0, 0, 0, 0, 0⟩, H9.out.res ⟨0, 0, 0, 0, 0, 0, 0, 0⟩⟩
      go_wp2_with fail
      clear r0 r1 r2 r3 r4 r5 r6 r7 f0 f1 f2 f3 f4 f5 f6 f7
      revert HR
      generalize World.setCell (World.setCell (World.setCell (World.setCell (World.setCell (World.setCell (World.setCell (World.setCell wa _ _) _ _) _ _) _ _) _ _) _ _) _ _) _ _ = wz
      intro HR
      obtain ⟨r0, r1, r2, r3, r4, r5, r6, r7⟩ := HR.out.1.cells
      simp only at r0 r1 r2 r3 r4 r5 r6 r7
      refine bodyPost_ret (v := .tuple #[.agg #[.int .i64 0, .int .i64 0, .int .i64 0, .int .i64 0, .int .i64 0, .int .i64 0, .int .i64 0, .int .i64 0], .iface 44 (.int .i64 3)]) (by simp [results, Try.results6, go_sem, r0, r1, r2, r3, r4, r5, r6, r7]) rfl ?_
      exact ⟨HR.out.2, Or.inr ⟨HNG.out, rfl⟩⟩
    have HY : Hid ((0 ≤ (kd : Int) ∧ (kd : Int) ≤ 2) ∧ askOk ⟨x0, x1, x2, kd, 0, 0, 0, 0⟩ ∧ ReadsAs wa u (bytesOf (askT ⟨x0, x1, x2, kd, 0, 0, 0, 0⟩))) := by
      rcases HCS.out with q1 | q1
      · exact q1.2
      · exact absurd hze q1.1
    rw [hze, eN_zero]
    clear hze HCS
    go_wp2_with fail
    refine (equalB_calls u _ (bytesOf (askT ⟨x0, x1, x2, kd, 0, 0, 0, 0⟩)) L wa HY.out.2.2 (HB.out.2.2.2.only H9.out.only)).mono ?_
    rintro e wb ⟨rfl, rfl⟩
    have HCC : Hid (askedGood L ↔ sameB (bytesOf (askT ⟨x0, x1, x2, kd, 0, 0, 0, 0⟩)) L = true) := by
      show _ ↔ _
      unfold askedGood
      rw [HC.out]
      exact ⟨fun q => q.2.2.2, fun q => ⟨HB0.out, HY.out.1, HY.out.2.1, q⟩⟩
    obtain ⟨sb, hsb⟩ : ∃ sb, sb = sameB (bytesOf (askT ⟨x0, x1, x2, kd, 0, 0, 0, 0⟩)) L := ⟨_, rfl⟩
    rw [← hsb] at HCC ⊢
    clear hsb
    cases sb with
    | false =>
      have HNG : Hid (¬ askedGood L) := fun q => by have := HCC.out.1 q; cases this
      obtain ⟨r0, r1, r2, r3, r4, r5, r6, r7⟩ := H9.out.rs.cells
      have f0 := H9.out.rs.free 0; have f1 := H9.out.rs.free 1; have f2 := H9.out.rs.free 2; have f3 := H9.out.rs.free 3
      have f4 := H9.out.rs.free 4; have f5 := H9.out.rs.free 5; have f6 := H9.out.rs.free 6; have f7 := H9.out.rs.free 7
      have HR : Hid (CmAt 25 ((((((((wb.setCell ⟨ks, 0, none⟩ (.int .i64 0)).setCell ⟨ks, 1, none⟩ (.int .i64 0)).setCell ⟨ks, 2, none⟩ (.int .i64 0)).setCell ⟨ks, 3, none⟩ (.int .i64 0)).setCell ⟨ks, 4, none⟩ (.int .i64 0)).setCell ⟨ks, 5, none⟩ (.int .i64 0)).setCell ⟨ks, 6, none⟩ (.int .i64 0)).setCell ⟨ks, 7, none⟩ (.int .i64 0)) ks ⟨0, 0, 0, 0, 0, 0, 0, 0⟩ ∧ Only [] w ((((((((wb.setCell ⟨ks, 0, none⟩ (.int .i64 0)).setCell ⟨ks, 1, none⟩ (.int .i64 0)).setCell ⟨ks, 2, none⟩ (.int .i64 0)).setCell ⟨ks, 3, none⟩ (.int .i64 0)).setCell ⟨ks, 4, none⟩ (.int .i64 0)).setCell ⟨ks, 5, none⟩ (.int .i64 0)).setCell ⟨ks, 6, none⟩ (.int .i64 0)).setCell ⟨ks, 7, none⟩ (.int .i64 0))) := ⟨H9.out.rs.put8 ⟨0, 0, 0, 0, 0, 0, 0, 0⟩, H9.out.res ⟨0, 0, 0, 0, 0, 0, 0, 0⟩⟩
      go_wp2_with fail
      clear r0 r1 r2 r3 r4 r5 r6 r7 f0 f1 f2 f3 f4 f5 f6 f7
      revert HR
      generalize World.setCell (World.setCell (World.setCell (World.setCell (World.setCell (World.setCell (World.setCell (World.setCell wb _ _) _ _) _ _) _ _) _ _) _ _) _ _) _ _ = wz
      intro HR
      obtain ⟨r0, r1, r2, r3, r4, r5, r6, r7⟩ := HR.out.1.cells
      simp only at r0 r1 r2 r3 r4 r5 r6 r7
      refine bodyPost_ret (v := .tuple #[.agg #[.int .i64 0, .int .i64 0, .int .i64 0, .int .i64 0, .int .i64 0, .int .i64 0, .int .i64 0, .int .i64 0], .iface 44 (.int .i64 3)]) (by simp [results, Try.results6, go_sem, r0, r1, r2, r3, r4, r5, r6, r7]) rfl ?_
      exact ⟨HR.out.2, Or.inr ⟨HNG.out, rfl⟩⟩
    | true =>
      have HGD : Hid (askedGood L) := HCC.out.2 rfl
      obtain ⟨c0, c1, c2, c3, c4, c5, c6, c7⟩ := H9.out.cm.cells
      simp only at c0 c1 c2 c3 c4 c5 c6 c7
      obtain ⟨r0, r1, r2, r3, r4, r5, r6, r7⟩ := H9.out.rs.cells
      have f0 := H9.out.rs.free 0; have f1 := H9.out.rs.free 1; have f2 := H9.out.rs.free 2; have f3 := H9.out.rs.free 3
      have f4 := H9.out.rs.free 4; have f5 := H9.out.rs.free 5; have f6 := H9.out.rs.free 6; have f7 := H9.out.rs.free 7
      have HR : Hid (CmAt 25 ((((((((wb.setCell ⟨ks, 0, none⟩ (.int .i64 x0)).setCell ⟨ks, 1, none⟩ (.int .i64 x1)).setCell ⟨ks, 2, none⟩ (.int .i64 x2)).setCell ⟨ks, 3, none⟩ (.int .i64 kd)).setCell ⟨ks, 4, none⟩ (.int .i64 0)).setCell ⟨ks, 5, none⟩ (.int .i64 0)).setCell ⟨ks, 6, none⟩ (.int .i64 0)).setCell ⟨ks, 7, none⟩ (.int .i64 0)) ks ⟨x0, x1, x2, kd, 0, 0, 0, 0⟩ ∧ Only [] w ((((((((wb.setCell ⟨ks, 0, none⟩ (.int .i64 x0)).setCell ⟨ks, 1, none⟩ (.int .i64 x1)).setCell ⟨ks, 2, none⟩ (.int .i64 x2)).setCell ⟨ks, 3, none⟩ (.int .i64 kd)).setCell ⟨ks, 4, none⟩ (.int .i64 0)).setCell ⟨ks, 5, none⟩ (.int .i64 0)).setCell ⟨ks, 6, none⟩ (.int .i64 0)).setCell ⟨ks, 7, none⟩ (.int .i64 0))) := ⟨H9.out.rs.put8 ⟨x0, x1, x2, kd, 0, 0, 0, 0⟩, H9.out.res ⟨x0, x1, x2, kd, 0, 0, 0, 0⟩⟩
      go_wp2_with fail
      clear r0 r1 r2 r3 r4 r5 r6 r7 f0 f1 f2 f3 f4 f5 f6 f7
      revert HR
      generalize World.setCell (World.setCell (World.setCell (World.setCell (World.setCell (World.setCell (World.setCell (World.setCell wb _ _) _ _) _ _) _ _) _ _) _ _) _ _) _ _ = wz
      intro HR
      obtain ⟨r0, r1, r2, r3, r4, r5, r6, r7⟩ := HR.out.1.cells
      simp only at r0 r1 r2 r3 r4 r5 r6 r7
      refine bodyPost_ret (v := .tuple #[.agg #[.int .i64 x0, .int .i64 x1, .int .i64 x2, .int .i64 kd, .int .i64 0, .int .i64 0, .int .i64 0, .int .i64 0], .nilIface]) (by simp [results, Try.results6, go_sem, r0, r1, r2, r3, r4, r5, r6, r7]) rfl ?_
      exact ⟨HR.out.2, Or.inl ⟨HGD.out, by rw [HC.out]; rfl⟩⟩
end Go.Proofs.Ytbiaajncngldlaa
