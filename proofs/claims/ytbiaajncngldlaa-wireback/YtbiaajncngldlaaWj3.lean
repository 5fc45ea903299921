/- wire.Told: whichever bytes. -/
import Derived.Test.YtbiaajncngldlaaWi5
import Derived.Test.YtbiaajncngldlaaWj2
import Derived.Laws.MakeOwn
namespace Go.Proofs.Ytbiaajncngldlaa
open Go.ChangeShapes Go.WideShapes Go.ChangeAt Go.RowKit
set_option linter.unusedVariables false
set_option linter.unusedSimpArgs false

/-- Bytes read one by one, whether anything was wrong, how far. -/
def bStep (L : List Nat) (t : List Nat × Bool × Nat) : List Nat × Bool × Nat := (t.1 ++ [(getM L t.2.2 8).2.1.toNat], t.2.1 || dE (getM L t.2.2 8), (getM L t.2.2 8).2.2)
def bIter (L : List Nat) (t : List Nat × Bool × Nat) : Nat → List Nat × Bool × Nat
  | 0 => t
  | i + 1 => bStep L (bIter L t i)
theorem bIter_len (L : List Nat) (t : List Nat × Bool × Nat) (i : Nat) : (bIter L t i).1.length = t.1.length + i := by
  induction i with
  | zero => rfl
  | succ i ih => simp only [bIter, bStep, List.length_append, List.length_singleton, ih]; omega
theorem bitsOf_sub (L : List Nat) (p k : Nat) : Bits (((bitsOf L).drop p).take k) := fun b hb => bitsOf_bits L b (List.mem_of_mem_drop (List.mem_of_mem_take hb))
theorem getM_range (L : List Nat) (p wd : Nat) (h : wd ≤ 62) : 0 ≤ (getM L p (wd : Int)).2.1 ∧ (getM L p (wd : Int)).2.1 < 2 ^ wd := by
  have hp : (0 : Int) < 2 ^ wd := Int.pow_pos (by decide)
  unfold getM
  split
  · exact ⟨Int.le_refl _, hp⟩
  · split
    · exact ⟨Int.le_refl _, hp⟩
    · refine ⟨by show (0 : Int) ≤ ((_ : Nat) : Int); omega, ?_⟩
      show ((valB (((bitsOf L).drop p).take (wd : Int).toNat) : Nat) : Int) < 2 ^ wd
      have h1 := valB_lt (bitsOf_sub L p (wd : Int).toNat)
      have h2 : (((bitsOf L).drop p).take (wd : Int).toNat).length ≤ wd := by rw [List.length_take]; simp; omega
      have h3 : 2 ^ (((bitsOf L).drop p).take (wd : Int).toNat).length ≤ 2 ^ wd := Nat.pow_le_pow_right (by omega) h2
      exact_mod_cast Nat.lt_of_lt_of_le h1 h3
theorem bIter_small (L : List Nat) (t : List Nat × Bool × Nat) (i : Nat) (h : ∀ x ∈ t.1, x < 256) : ∀ x ∈ (bIter L t i).1, x < 256 := by
  induction i with
  | zero => exact h
  | succ i ih =>
    intro x hx
    simp only [bIter, bStep, List.mem_append, List.mem_singleton] at hx
    rcases hx with q | q
    · exact ih x q
    · have := getM_range L (bIter L t i).2.2 8 (by omega)
      rw [q]
      have h8 : (getM L (bIter L t i).2.2 ((8 : Nat) : Int)).2.1 < 256 := this.2
      have h9 := this.1
      have : (getM L (bIter L t i).2.2 8).2.1 < 256 := h8
      omega
theorem byteInfo2 : (Try.prog.info? 5).map (fun i => (i.zero, i.size, i.bytes)) = some (some (.int .u8 0), 1, 1) := by kernel_rfl
/-- Bytes in a block, as far as they are read. -/
def Part (w : World) (gb n : Nat) (B : List Nat) : Prop := ∃ A : Array Value, w.heap[gb]? = some (.cells A 5) ∧ A.size = n ∧ ∀ j, j < B.length → A[j]? = some (.int .u8 ((B.getD j 0 : Nat) : Int))
theorem Part.lt {w : World} {gb n : Nat} {B : List Nat} (h : Part w gb n B) : gb < w.heap.size := by obtain ⟨A, h1, _⟩ := h; exact (Array.getElem?_eq_some_iff.1 h1).1
theorem Part.only {w w' : World} {gb n : Nat} {B : List Nat} (h : Part w gb n B) {D : List Nat} (o : Only D w w') (s : gb ∉ D) : Part w' gb n B := by
  obtain ⟨A, h1, h2⟩ := h
  exact ⟨A, (o.block gb (Array.getElem?_eq_some_iff.1 h1).1 s).trans h1, h2⟩
theorem Part.put {w : World} {gb n : Nat} {B : List Nat} (h : Part w gb n B) (hn : B.length < n) (y : Nat) : Part (w.setCell ⟨gb, B.length, none⟩ (.int .u8 (y : Int))) gb n (B ++ [y]) := by
  obtain ⟨A, h1, h2, h3⟩ := h
  refine ⟨_, heap_put h1 _ _, by rw [Array.size_setIfInBounds]; exact h2, fun j hj => ?_⟩
  rw [Array.getElem?_setIfInBounds, getD_snoc]
  rw [List.length_append, List.length_singleton] at hj
  by_cases e : B.length = j
  · rw [if_pos e, if_pos (by omega), if_pos (by omega)]
  · rw [if_neg e, if_neg (by omega)]
    exact h3 j (by omega)
theorem Part.cell {w : World} {gb n : Nat} {B : List Nat} (h : Part w gb n B) {j : Nat} (hj : j < n) : ∃ u, w.cell? ⟨gb, j, none⟩ = some u := by
  obtain ⟨A, h1, h2, _⟩ := h
  exact ⟨A[j], by simp [World.cell?, h1, Array.getElem?_eq_getElem (show j < A.size by omega)]⟩
theorem Part.free {w : World} {gb n : Nat} {B : List Nat} (h : Part w gb n B) (j : Nat) : w.frozen? ⟨gb, j, none⟩ = false := by
  obtain ⟨A, h1, _⟩ := h
  simp [World.frozen?, h1]
theorem Part.by {w : World} {gb n : Nat} {B : List Nat} (h : Part w gb n B) : ByAt w (some ⟨gb, 0, none⟩) B := fun j hj => by
  obtain ⟨A, h1, _, h3⟩ := h
  exact ⟨gb, 0, rfl, by simp [World.cell?, h1, h3 j hj]⟩
theorem Part.new (w : World) (n : Nat) : Part (w.alloc (.cells (madeCells #[Value.int .u8 0] n) 5)) w.heap.size n [] :=
  ⟨_, (MapKept.heap_alloc w _).1, by rw [size_madeCells], fun j hj => by simp at hj⟩
set_option maxRecDepth 100000 in
set_option maxHeartbeats 2000000 in
theorem bytesR_calls (kr r : Nat) (a : Option Addr) (c : Nat) (L : List Nat) (bad : Bool) (p n : Nat) (w : World) (h : RW w kr r a c L bad p) (hn : n ≤ 1000) :
    Calls Try.prog 25 #[.pointer (some ⟨kr, 0, none⟩), .int .i64 ((n : Int))] w fun e w' => ∃ gb, e = .returned (.slice (some ⟨gb, 0, none⟩) n n) ∧ w.heap.size ≤ gb ∧ Part w' gb n (bIter L ([], bad, p) n).1 ∧ RW w' kr r a c L (bIter L ([], bad, p) n).2.1 (bIter L ([], bad, p) n).2.2 ∧ Only [kr, r] w w' := by
  obtain ⟨i0, hi0, hz0, hz1, hz2⟩ := info_parts byteInfo2
  have HR : Hid (RW w kr r a c L bad p) := h
  have hmk := run_makeSlice (P := Try.prog) w 26 5 i0 (.int .u8 0) Try.underlying26 hi0 hz0 .i64 .i64 (n : Int) (n : Int) (by omega) (Int.le_refl _) (by rw [hz1, Int.toNat_natCast]; omega) (by rw [hz2]; omega) (by omega)
  rw [Int.toNat_natCast, hz1, Nat.mul_one] at hmk
  have hzc : (Value.int .u8 0).cells = #[Value.int .u8 0] := rfl
  rw [hzc] at hmk
  clear h hz0 hz1 hz2 hi0
  go_enter Try.func25, Try.ntmps25
  go_upto_region 2 with fail
  have H0 : Hid (Part (w.alloc (.cells (madeCells #[Value.int .u8 0] n) 5)) w.heap.size n (bIter L ([], bad, p) 0).1 ∧ RW (w.alloc (.cells (madeCells #[Value.int .u8 0] n) 5)) kr r a c L (bIter L ([], bad, p) 0).2.1 (bIter L ([], bad, p) 0).2.2 ∧ Only [kr, r] w (w.alloc (.cells (madeCells #[Value.int .u8 0] n) 5))) :=
    ⟨Part.new w n, HR.out.only (D := []) ((Only.refl _ _).alloc _) (by simp) (by simp) (by simp), (Only.refl _ _).alloc _⟩
  have HD : Hid (w.heap.size ≠ kr ∧ w.heap.size ≠ r ∧ ∀ g o, a = some ⟨g, o, none⟩ → L ≠ [] → g ≠ w.heap.size) := by
    have h1 := HR.out.lt; have h2 := HR.out.rd.lt
    refine ⟨by omega, by omega, fun g o e hL => ?_⟩
    obtain ⟨g', o', e', hc⟩ := HR.out.rd.by_ 0 (by cases L with | nil => exact absurd rfl hL | cons x t => simp)
    rw [e] at e'; injection e' with e'; injection e' with e1 _ _
    have := World.block_lt_of_cell? w _ hc
    have h3 : g' < w.heap.size := this
    omega
  have HNW : Hid (w.heap.size ≤ w.heap.size) := Nat.le_refl _
  revert H0 HD
  generalize hgb : w.heap.size = gb
  have HGB : Hid (w.heap.size ≤ gb) := Nat.le_of_eq hgb
  clear hgb hmk HNW
  generalize World.alloc w _ = w1
  intro H0 HD
  clear HR
  go_wp2_with fail
  go_loopg [11] n (fun k' idx wr => ∃ i : Nat, idx = .int .i64 (i : Int) ∧ Hid (i ≤ n ∧ k' = n - i) ∧ Hid (Part wr gb n (bIter L ([], bad, p) i).1 ∧ RW wr kr r a c L (bIter L ([], bad, p) i).2.1 (bIter L ([], bad, p) i).2.2 ∧ Only [kr, r] w wr))
  case atStart => exact ⟨0, rfl, ⟨by omega, rfl⟩, H0⟩
  case round =>
    clear H0
    obtain ⟨i, rfl, HI, HE⟩ := hrel
    by_cases hi : i < n
    · have hil : (i : Int) < (n : Int) := by omega
      obtain ⟨B, bd, q, ht⟩ : ∃ B bd q, bIter L ([], bad, p) i = (B, bd, q) := ⟨_, _, _, rfl⟩
      have HT : Hid (bIter L ([], bad, p) i = (B, bd, q) ∧ B.length = i) := ⟨ht, by have := bIter_len L ([], bad, p) i; rw [ht] at this; simpa using this⟩
      have HE1 : Hid (Part wr gb n B ∧ RW wr kr r a c L bd q ∧ Only [kr, r] w wr) := by have := HE.out; rw [ht] at this; exact this
      clear HE ht
      obtain ⟨y, hy⟩ : ∃ y, y = getM L q ((8 : Nat) : Int) := ⟨_, rfl⟩
      have hyr := getM_range L q 8 (by omega)
      rw [← hy] at hyr
      have hy0 : 0 ≤ y.2.1 := hyr.1
      have hy1 : y.2.1 < 256 := hyr.2
      obtain ⟨yn, hyn⟩ : ∃ yn : Nat, y.2.1 = (yn : Int) := ⟨y.2.1.toNat, by omega⟩
      have HS : Hid (bIter L ([], bad, p) (i + 1) = (B ++ [yn], bd || dE y, y.2.2)) := by
        show bStep L (bIter L ([], bad, p) i) = _
        rw [HT.out.1]
        unfold bStep
        show (B ++ [(getM L q ((8 : Nat) : Int)).2.1.toNat], bd || dE (getM L q ((8 : Nat) : Int)), (getM L q ((8 : Nat) : Int)).2.2) = _
        rw [← hy, hyn, Int.toNat_natCast]
      have c0 := HE1.out.2.1.c0
      have hyn1 : yn < 256 := by omega
      go_wp2_with fail
      refine (get_getM r a c L q ((8 : Nat) : Int) _ HE1.out.2.1.rd).mono ?_
      rw [← hy]
      rintro e w2 ⟨rfl, h2, o2⟩
      rw [show (if ((y.1 : Nat) : Int) = 0 then Value.nilIface else errV ((y.1 : Nat) : Int)) = eN y.1 from rfl, hyn]
      have H2 : Hid (RW w2 kr r a c L bd y.2.2 ∧ Only [r] wr w2) := ⟨HE1.out.2.1.read h2 o2, o2⟩
      clear h2 o2 hy hyn hy0 hy1 hyr
      go_wp2_with fail
      refine (numberW_calls kr r a c L bd y.2.2 (yn : Int) y.1 w2 H2.out.1).mono ?_
      rintro e w3 ⟨rfl, h3, o3⟩
      have o4 : Only [kr, r] wr w3 := (H2.out.2.mono (by simp)).trans (o3.mono (by simp))
      have H3 : Hid (Part w3 gb n B ∧ RW w3 kr r a c L (bd || dE y) y.2.2 ∧ Only [kr, r] w w3) :=
        ⟨HE1.out.1.only o4 (by simp; exact ⟨HD.out.1, HD.out.2.1⟩), h3, HE1.out.2.2.trans o4⟩
      clear h3 o3 o4 H2
      obtain ⟨u, hcell⟩ := H3.out.1.cell hi
      have hfr := H3.out.1.free i
      have H4 : Hid (Part (w3.setCell ⟨gb, i, none⟩ (.int .u8 (yn : Int))) gb n (bIter L ([], bad, p) (i + 1)).1 ∧ RW (w3.setCell ⟨gb, i, none⟩ (.int .u8 (yn : Int))) kr r a c L (bIter L ([], bad, p) (i + 1)).2.1 (bIter L ([], bad, p) (i + 1)).2.2 ∧ Only [kr, r] w (w3.setCell ⟨gb, i, none⟩ (.int .u8 (yn : Int)))) := by
        have o : Only [gb] w3 (w3.setCell ⟨gb, i, none⟩ (.int .u8 (yn : Int))) := (Only.refl _ _).setCell (p := ⟨gb, i, none⟩) (Or.inl (by simp)) _
        rw [HS.out]
        refine ⟨?_, H3.out.2.1.only o (by simp; exact fun e => HD.out.1 e.symm) (by simp; exact fun e => HD.out.2.1 e.symm) (fun g p e hL => by simpa using HD.out.2.2 g p e hL), H3.out.2.2.setCell (p := ⟨gb, i, none⟩) (Or.inr HGB.out) _⟩
        have hp := H3.out.1.put (by rw [HT.out.2]; exact hi) yn
        rw [HT.out.2] at hp
        exact hp
      clear c0 H3 HE1
      go_wp2_with fail
      go_roundg (n - (i + 1))
      case measure => have := HI.out.2; omega
      case rel => exact ⟨i + 1, by go_num, ⟨by omega, rfl⟩, H4⟩
    have hil : ¬ (i : Int) < (n : Int) := by omega
    obtain rfl : i = n := by have := HI.out.1; omega
    go_wp2_with fail
    go_ret
    exact ⟨gb, rfl, HGB.out, HE.out.1, HE.out.2.1, HE.out.2.2⟩
/-! What is told by bytes. -/
def t2 (L : List Nat) : Nat × Int × Nat := getM L (a1 L).2.2 ((6 : Nat) : Int)
def t3 (L : List Nat) : Nat × Int × Nat := getM L (t2 L).2.2 ((6 : Nat) : Int)
def t4 (L : List Nat) : Nat × Int × Nat := getM L (t3 L).2.2 ((7 : Nat) : Int)
def tb5 (L : List Nat) : Bool := dE (a0 L) || dE (a1 L) || dE (t2 L) || dE (t3 L) || dE (t4 L)
def toldN (L : List Nat) : Nat := (t4 L).2.1.toNat
def toldI (L : List Nat) (i : Nat) : List Nat × Bool × Nat := bIter L ([], tb5 L, (t4 L).2.2) i
def toldP (L : List Nat) : Pc := ⟨(a0 L).2.1, (a1 L).2.1, (t3 L).2.1, (t2 L).2.1⟩
def toldY (L : List Nat) : List Nat := (toldI L (toldN L)).1
def toldGood (L : List Nat) : Prop := (toldI L (toldN L)).2.1 = false ∧ tellOk (toldP L) (toldY L).length ∧ sameB (bytesOf (tellT (toldP L) (toldY L))) L = true
theorem toldN_lt (L : List Nat) : toldN L < 128 ∧ (t4 L).2.1 = (toldN L : Int) := by
  have := getM_range L (t3 L).2.2 7 (by omega)
  have h1 : (t4 L).2.1 < 128 := this.2
  have h2 : 0 ≤ (t4 L).2.1 := this.1
  unfold toldN
  omega
def pcV (p : Pc) (v : Value) : Value := .agg #[.int .i64 (p.st), .int .i64 (p.ba), .int .i64 (p.ix), .int .i64 (p.mn), v]
def ToldPost (L : List Nat) (w : World) (e : Ending) (w' : World) : Prop :=
  Only [] w w' ∧ ((toldGood L ∧ ∃ gb, e = .returned (.tuple #[pcV (toldP L) (.slice (some ⟨gb, 0, none⟩) (toldY L).length (toldY L).length), .nilIface]) ∧ w.heap.size ≤ gb ∧ ByAt w' (some ⟨gb, 0, none⟩) (toldY L)) ∨ (¬ toldGood L ∧ e = .returned (.tuple #[pcV ⟨0, 0, 0, 0⟩ (.slice none 0 0), errV 3])))
theorem PcAt.put5 {T : TypeId} {w : World} {k : Nat} {p : Pc} {v : Value} (h : PcAt T w k p v) (d : Pc) (u : Value) : PcAt T (((((w.setCell ⟨k, 0, none⟩ (.int .i64 (d.st))).setCell ⟨k, 1, none⟩ (.int .i64 (d.ba))).setCell ⟨k, 2, none⟩ (.int .i64 (d.ix))).setCell ⟨k, 3, none⟩ (.int .i64 (d.mn))).setCell ⟨k, 4, none⟩ u) k d u := by
  unfold PcAt at h ⊢
  have h0 := heap_put h 0 (.int .i64 (d.st))
  simp only [List.setIfInBounds_toArray, List.set_cons_zero, List.set_cons_succ] at h0
  have h1 := heap_put h0 1 (.int .i64 (d.ba))
  simp only [List.setIfInBounds_toArray, List.set_cons_zero, List.set_cons_succ] at h1
  have h2 := heap_put h1 2 (.int .i64 (d.ix))
  simp only [List.setIfInBounds_toArray, List.set_cons_zero, List.set_cons_succ] at h2
  have h3 := heap_put h2 3 (.int .i64 (d.mn))
  simp only [List.setIfInBounds_toArray, List.set_cons_zero, List.set_cons_succ] at h3
  have h4 := heap_put h3 4 u
  simp only [List.setIfInBounds_toArray, List.set_cons_zero, List.set_cons_succ] at h4
  exact h4
/-- While a piece is read. -/
structure TS (w : World) (kr r : Nat) (a : Option Addr) (c : Nat) (L : List Nat) (kc ks kl : Nat) (P : Pc) (v : Value) (n : Int) (bad : Bool) (p : Nat) (wr : World) : Prop where
  rw_ : RW wr kr r a c L bad p
  tg : PcAt 39 wr kc P v
  rs : PcAt 39 wr ks ⟨0, 0, 0, 0⟩ (.slice none 0 0)
  lg : wr.heap[kl]? = some (.cells #[.int .i64 n] 3)
  d1 : ks ≠ kr ∧ ks ≠ r ∧ ks ≠ kc ∧ ks ≠ kl
  d2 : kc ≠ kr ∧ kc ≠ r ∧ kc ≠ kl
  d3 : kl ≠ kr ∧ kl ≠ r
  d4 : ∀ g o, a = some ⟨g, o, none⟩ → L ≠ [] → g ≠ kc ∧ g ≠ kl
  n1 : w.heap.size ≤ kr ∧ w.heap.size ≤ r ∧ w.heap.size ≤ kc ∧ w.heap.size ≤ ks ∧ w.heap.size ≤ kl
  only : Only [] w wr
section
variable {w : World} {kr r : Nat} {a : Option Addr} {c : Nat} {L : List Nat} {kc ks kl : Nat} {P P' : Pc} {v v' : Value} {n n' : Int} {bad bad' : Bool} {p q : Nat} {wr w' : World}
theorem TS.keep (h : TS w kr r a c L kc ks kl P v n bad p wr) (o : Only [] wr w') : TS w kr r a c L kc ks kl P v n bad p w' :=
  ⟨h.rw_.only o (by simp) (by simp) (by simp), h.tg.only o (by simp), h.rs.only o (by simp), (o.block kl (Array.getElem?_eq_some_iff.1 h.lg).1 (by simp)).trans h.lg, h.d1, h.d2, h.d3, h.d4, h.n1, h.only.trans o⟩
theorem TS.rx (h : TS w kr r a c L kc ks kl P v n bad p wr) : RX wr kr r a c L kc 39 ⟨#[.int .i64 (P.st), .int .i64 (P.ba), .int .i64 (P.ix), .int .i64 (P.mn), v], bad, p⟩ :=
  ⟨h.rw_, h.tg, h.d2.1, h.d2.2.1, fun g o e hL => (h.d4 g o e hL).1⟩
theorem TS.rl (h : TS w kr r a c L kc ks kl P v n bad p wr) : RX wr kr r a c L kl 3 ⟨#[.int .i64 n], bad, p⟩ :=
  ⟨h.rw_, h.lg, h.d3.1, h.d3.2, fun g o e hL => (h.d4 g o e hL).2⟩
theorem TS.step {s : RS} (h : TS w kr r a c L kc ks kl P v n bad p wr) (hx : RX w' kr r a c L kc 39 s) (o : Only [kr, r, kc] wr w') (hs : s = ⟨#[.int .i64 (P'.st), .int .i64 (P'.ba), .int .i64 (P'.ix), .int .i64 (P'.mn), v'], bad', q⟩) : TS w kr r a c L kc ks kl P' v' n bad' q w' := by
  subst hs
  obtain ⟨e1, e2, e3, e4⟩ := h.d1
  obtain ⟨e5, e6, e7⟩ := h.d2
  obtain ⟨e8, e9⟩ := h.d3
  obtain ⟨m1, m2, m3, m4, m5⟩ := h.n1
  refine ⟨hx.rw_, hx.tg, h.rs.only o (by simp; exact ⟨e1, e2, e3⟩), (o.block kl (Array.getElem?_eq_some_iff.1 h.lg).1 (by simp; exact ⟨e8, e9, fun e => e7 e.symm⟩)).trans h.lg, h.d1, h.d2, h.d3, h.d4, h.n1, h.only.then o (fun b hb => ?_)⟩
  simp only [List.mem_cons, List.mem_nil_iff, or_false] at hb
  rcases hb with rfl | rfl | rfl <;> exact Or.inr (by assumption)
theorem TS.stepl {s : RS} (h : TS w kr r a c L kc ks kl P v n bad p wr) (hx : RX w' kr r a c L kl 3 s) (o : Only [kr, r, kl] wr w') (hs : s = ⟨#[.int .i64 n'], bad', q⟩) : TS w kr r a c L kc ks kl P v n' bad' q w' := by
  subst hs
  obtain ⟨e1, e2, e3, e4⟩ := h.d1
  obtain ⟨e5, e6, e7⟩ := h.d2
  obtain ⟨m1, m2, m3, m4, m5⟩ := h.n1
  refine ⟨hx.rw_, h.tg.only o (by simp; exact ⟨e5, e6, e7⟩), h.rs.only o (by simp; exact ⟨e1, e2, e4⟩), hx.tg, h.d1, h.d2, h.d3, h.d4, h.n1, h.only.then o (fun b hb => ?_)⟩
  simp only [List.mem_cons, List.mem_nil_iff, or_false] at hb
  rcases hb with rfl | rfl | rfl <;> exact Or.inr (by assumption)
theorem TS.fresh (h : TS w kr r a c L kc ks kl P v n bad p wr) : wr.heap.size ≠ kr ∧ wr.heap.size ≠ r ∧ wr.heap.size ≠ kc ∧ wr.heap.size ≠ kl := by
  have := h.rw_.lt; have := h.rw_.rd.lt; have := h.tg.lt; have := (Array.getElem?_eq_some_iff.1 h.lg).1
  omega
theorem TS.err (h : TS w kr r a c L kc ks kl P v n bad p wr) : ∃ er : Nat, bad = decide (er ≠ 0) ∧ wr.cell? ⟨kr, 1, none⟩ = some (eN er) := by
  obtain ⟨er, e, hc⟩ := h.rw_.at_
  exact ⟨er, e, by simp [World.cell?, hc]⟩
theorem TS.res (h : TS w kr r a c L kc ks kl P v n bad p wr) (d : Pc) (u : Value) : Only [] w (((((wr.setCell ⟨ks, 0, none⟩ (.int .i64 (d.st))).setCell ⟨ks, 1, none⟩ (.int .i64 (d.ba))).setCell ⟨ks, 2, none⟩ (.int .i64 (d.ix))).setCell ⟨ks, 3, none⟩ (.int .i64 (d.mn))).setCell ⟨ks, 4, none⟩ u) := by
  have hk := Or.inr (a := ks ∈ ([] : List Nat)) h.n1.2.2.2.1
  exact only_put hk (only_put hk (only_put hk (only_put hk (only_put hk h.only _ _) _ _) _ _) _ _) _ _
/-- The bytes are there. -/
theorem TS.bytes {gb m : Nat} {B : List Nat} (h : TS w kr r a c L kc ks kl P v n bad p wr) (hr : RW w' kr r a c L bad' q) (o : Only [kr, r] wr w') (u : Value) : TS w kr r a c L kc ks kl P u n bad' q (w'.setCell ⟨kc, 4, none⟩ u) := by
  obtain ⟨e1, e2, e3, e4⟩ := h.d1
  obtain ⟨e5, e6, e7⟩ := h.d2
  obtain ⟨e8, e9⟩ := h.d3
  obtain ⟨m1, m2, m3, m4, m5⟩ := h.n1
  have o2 : Only [kc] w' (w'.setCell ⟨kc, 4, none⟩ u) := (Only.refl _ _).setCell (p := ⟨kc, 4, none⟩) (Or.inl (by simp)) _
  have t1 : PcAt 39 w' kc P v := h.tg.only o (by simp; exact ⟨e5, e6⟩)
  have l1 : w'.heap[kl]? = some (.cells #[.int .i64 n] 3) := (o.block kl (Array.getElem?_eq_some_iff.1 h.lg).1 (by simp; exact ⟨e8, e9⟩)).trans h.lg
  refine ⟨hr.only o2 (by simp; exact fun e => e5 e.symm) (by simp; exact fun e => e6 e.symm) (fun g p e hL => by simpa using (h.d4 g p e hL).1), ?_, (h.rs.only o (by simp; exact ⟨e1, e2⟩)).only o2 (by simpa using e3), (o2.block kl (Array.getElem?_eq_some_iff.1 l1).1 (by simp; exact fun e => e7 e.symm)).trans l1, h.d1, h.d2, h.d3, h.d4, h.n1, (h.only.then o (fun b hb => ?_)).then o2 (fun b hb => ?_)⟩
  · have := heap_put t1 4 u
    simp only [List.setIfInBounds_toArray, List.set_cons_zero, List.set_cons_succ] at this
    exact this
  · simp only [List.mem_cons, List.mem_nil_iff, or_false] at hb
    rcases hb with rfl | rfl <;> exact Or.inr (by assumption)
  · rw [List.mem_singleton.1 hb]; exact Or.inr m3
end
set_option maxRecDepth 100000 in
set_option maxHeartbeats 8000000 in
theorem told_calls (a : Option Addr) (c : Nat) (L : List Nat) (w : World) (hl : L.length ≤ 100000) (hs : ∀ x ∈ L, x < 256) (hb : ByAt w a L) (hn : a = none → L = [] ∧ c = 0) :
    Calls Try.prog 9 #[.slice a L.length c] w (ToldPost L w) := by
  have HB : Hid (ByAt w a L ∧ (∀ x ∈ L, x < 256) ∧ (a = none → L = [] ∧ c = 0) ∧ ReadsAs w (.slice a L.length c) L) := ⟨hb, hs, hn, arg_reads hb hn⟩
  clear hb hs hn
  go_enter Try.func9, Try.ntmps9
  go_upto_region 1 with fail
  have H0 : Hid (PcAt 39 (w.alloc (.cells #[.int .i64 0, .int .i64 0, .int .i64 0, .int .i64 0, .slice none 0 0] 39)) w.heap.size ⟨0, 0, 0, 0⟩ (.slice none 0 0) ∧ Only [] w (w.alloc (.cells #[.int .i64 0, .int .i64 0, .int .i64 0, .int .i64 0, .slice none 0 0] 39))) := ⟨(MapKept.heap_alloc w _).1, (Only.refl _ _).alloc _⟩
  revert H0
  generalize hks : w.heap.size = ks
  have HKS : Hid (w.heap.size = ks) := hks
  clear hks
  generalize World.alloc w _ = w1
  intro H0
  go_wp2_with fail
  refine (readB_calls a c L w1 hl HB.out.2.1 (HB.out.1.only H0.out.2 (by simp)) HB.out.2.2.1).mono ?_
  rintro e w2 ⟨v, rfl, ⟨r, ar, cr, rfl, hr1, hr2, hr3⟩, o2⟩
  have H1 : Hid (PcAt 39 w2 ks ⟨0, 0, 0, 0⟩ (.slice none 0 0) ∧ Only [] w w2 ∧ w1.heap.size ≤ r ∧ RdAt w2 r ar cr L 0 ∧ ks < w1.heap.size ∧ w.heap.size ≤ w1.heap.size) :=
    ⟨H0.out.1.only o2 (by simp), H0.out.2.trans o2, hr1, hr2, H0.out.1.lt, H0.out.2.size⟩
  clear hr1 hr2 hr3 o2 H0
  go_upto_region 4 with fail
  have H2 : Hid (TS w w2.heap.size r ar cr L (w2.heap.size + 1) ks (w2.heap.size + 1 + 1) ⟨0, 0, 0, 0⟩ (.slice none 0 0) 0 false 0 (((w2.alloc (.cells #[.pointer (some ⟨r, 0, none⟩), .nilIface] 58)).alloc (.cells #[.int .i64 0, .int .i64 0, .int .i64 0, .int .i64 0, .slice none 0 0] 39)).alloc (.cells #[.int .i64 0] 3))) := by
    obtain ⟨p1, p2, p3, p4, p6, p7⟩ := H1.out
    have hsz := p2.size
    have hks := HKS.out
    have o : Only [] w2 (((w2.alloc (.cells #[.pointer (some ⟨r, 0, none⟩), .nilIface] 58)).alloc (.cells #[.int .i64 0, .int .i64 0, .int .i64 0, .int .i64 0, .slice none 0 0] 39)).alloc (.cells #[.int .i64 0] 3)) := (((Only.refl _ _).alloc _).alloc _).alloc _
    have hrl := p4.lt
    have hkl := p1.lt
    have hblk : ∀ g o, ar = some ⟨g, o, none⟩ → L ≠ [] → g < w2.heap.size := fun g o e hL => by
      obtain ⟨g', o', e', hc⟩ := p4.by_ 0 (by cases L with | nil => exact absurd rfl hL | cons x t => simp)
      rw [e] at e'; injection e' with e'; injection e' with e1 _ _
      rw [e1]; exact World.block_lt_of_cell? w2 _ hc
    refine ⟨⟨p4.only o (by simp) (by simp), ⟨0, rfl, ?_⟩, by omega, fun g o' e hL => by have := hblk g o' e hL; omega⟩, ?_, p1.only o (by simp), ?_, by omega, by omega, by omega, fun g o' e hL => by have := hblk g o' e hL; omega, by omega, p2.trans o⟩
    · rw [Below.heap_alloc _ _ _ (by simp; omega), Below.heap_alloc _ _ _ (by simp)]; exact (MapKept.heap_alloc w2 _).1
    · have := (MapKept.heap_alloc (w2.alloc (.cells #[.pointer (some ⟨r, 0, none⟩), .nilIface] 58)) (.cells #[.int .i64 0, .int .i64 0, .int .i64 0, .int .i64 0, .slice none 0 0] 39)).1
      unfold PcAt
      rw [Below.heap_alloc _ _ _ (by simp)]
      simpa using this
    · have := (MapKept.heap_alloc ((w2.alloc (.cells #[.pointer (some ⟨r, 0, none⟩), .nilIface] 58)).alloc (.cells #[.int .i64 0, .int .i64 0, .int .i64 0, .int .i64 0, .slice none 0 0] 39)) (.cells #[.int .i64 0] 3)).1
      simpa using this
  clear H1
  revert H2
  generalize w2.heap.size + 1 + 1 = kl
  generalize w2.heap.size + 1 = kc
  generalize w2.heap.size = kr
  generalize World.alloc (World.alloc (World.alloc w2 _) _) _ = w3
  intro H2
  go_wp2_with fail
  have HN : Hid (TS w kr r ar cr L kc ks kl ⟨0, 0, 0, 0⟩ (.slice none 0 0) 0 false 0 (w3.alloc (.cells #[.pointer (some ⟨kc, 0, none⟩), .pointer (some ⟨kc, 1, none⟩)] 60))) := H2.out.keep ((Only.refl _ _).alloc _)
  have h0 := PtrsAt.new2 w3 kc 0 1 60
  have HG : Hid (w3.heap.size ≠ kr ∧ w3.heap.size ≠ r ∧ w3.heap.size ≠ kc ∧ w3.heap.size ≠ kl) := H2.out.fresh
  revert h0 HN HG
  generalize w3.heap.size = g
  generalize World.alloc w3 _ = w3'
  intro HN h0 HG
  refine (varsR_calls kr r ar cr L kc 39 _ g [0, 1] _ w3' HN.out.rx h0 ⟨HG.out.1, HG.out.2.1, HG.out.2.2.1⟩ (by simp) (by simp)).mono ?_
  rintro e w4 ⟨rfl, h1, o1⟩
  have H3 : Hid (TS w kr r ar cr L kc ks kl ⟨(((a0 L).2.1 : Nat) : Int), (((a1 L).2.1 : Nat) : Int), 0, 0⟩ (.slice none 0 0) 0 (dE (a0 L) || dE (a1 L)) (a1 L).2.2 w4) := HN.out.step h1 o1 (by simp only [List.foldl_cons, List.foldl_nil, stepV, List.setIfInBounds_toArray, List.set_cons_zero, List.set_cons_succ, Bool.false_or]; rfl)
  clear h0 h1 o1 HN HG H2
  go_wp2_with fail
  have HN : Hid (TS w kr r ar cr L kc ks kl ⟨(((a0 L).2.1 : Nat) : Int), (((a1 L).2.1 : Nat) : Int), 0, 0⟩ (.slice none 0 0) 0 (dE (a0 L) || dE (a1 L)) (a1 L).2.2 (w4.alloc (.cells #[.pointer (some ⟨kc, 3, none⟩), .pointer (some ⟨kc, 2, none⟩)] 60))) := H3.out.keep ((Only.refl _ _).alloc _)
  have h0 := PtrsAt.new2 w4 kc 3 2 60
  have HG : Hid (w4.heap.size ≠ kr ∧ w4.heap.size ≠ r ∧ w4.heap.size ≠ kc ∧ w4.heap.size ≠ kl) := H3.out.fresh
  revert h0 HN HG
  generalize w4.heap.size = g
  generalize World.alloc w4 _ = w4'
  intro HN h0 HG
  refine (getsR_calls kr r ar cr L kc 39 _ 6 g [3, 2] _ w4' HN.out.rx h0 ⟨HG.out.1, HG.out.2.1, HG.out.2.2.1⟩ (by simp) (by simp)).mono ?_
  rintro e w5 ⟨rfl, h1, o1⟩
  have H4 : Hid (TS w kr r ar cr L kc ks kl ⟨(((a0 L).2.1 : Nat) : Int), (((a1 L).2.1 : Nat) : Int), (t3 L).2.1, (t2 L).2.1⟩ (.slice none 0 0) 0 (dE (a0 L) || dE (a1 L) || dE (t2 L) || dE (t3 L)) (t3 L).2.2 w5) := HN.out.step h1 o1 (by simp only [List.foldl_cons, List.foldl_nil, stepG, List.setIfInBounds_toArray, List.set_cons_zero, List.set_cons_succ, Bool.false_or]; rfl)
  clear h0 h1 o1 HN HG H3
  go_wp2_with fail
  have HN : Hid (TS w kr r ar cr L kc ks kl ⟨(((a0 L).2.1 : Nat) : Int), (((a1 L).2.1 : Nat) : Int), (t3 L).2.1, (t2 L).2.1⟩ (.slice none 0 0) 0 (dE (a0 L) || dE (a1 L) || dE (t2 L) || dE (t3 L)) (t3 L).2.2 (w5.alloc (.cells #[.pointer (some ⟨kl, 0, none⟩)] 60))) := H4.out.keep ((Only.refl _ _).alloc _)
  have h0 := PtrsAt.new1 w5 kl 0 60
  have HG : Hid (w5.heap.size ≠ kr ∧ w5.heap.size ≠ r ∧ w5.heap.size ≠ kc ∧ w5.heap.size ≠ kl) := H4.out.fresh
  revert h0 HN HG
  generalize w5.heap.size = g
  generalize World.alloc w5 _ = w5'
  intro HN h0 HG
  refine (getsR_calls kr r ar cr L kl 3 _ 7 g [0] _ w5' HN.out.rl h0 ⟨HG.out.1, HG.out.2.1, HG.out.2.2.2⟩ (by simp) (by simp)).mono ?_
  rintro e w6 ⟨rfl, h1, o1⟩
  have H5 : Hid (TS w kr r ar cr L kc ks kl ⟨(((a0 L).2.1 : Nat) : Int), (((a1 L).2.1 : Nat) : Int), (t3 L).2.1, (t2 L).2.1⟩ (.slice none 0 0) (t4 L).2.1 (tb5 L) (t4 L).2.2 w6) := HN.out.stepl h1 o1 (by simp only [List.foldl_cons, List.foldl_nil, stepG, List.setIfInBounds_toArray, List.set_cons_zero, List.set_cons_succ, Bool.false_or]; rfl)
  clear h0 h1 o1 HN HG H4
  obtain ⟨p, hp⟩ : ∃ p, p = toldP L := ⟨_, rfl⟩
  have HP : Hid (p = toldP L) := hp
  have hlt := (toldN_lt L).1
  obtain ⟨n, hnn⟩ : ∃ n, n = toldN L := ⟨_, rfl⟩
  have HNN : Hid (n = toldN L) := hnn
  have H6 : Hid (TS w kr r ar cr L kc ks kl p (.slice none 0 0) (n : Int) (tb5 L) (t4 L).2.2 w6) := by rw [hp, hnn, ← (toldN_lt L).2]; exact H5.out
  rw [← hnn] at hlt
  clear hp hnn H5
  have cl : w6.cell? ⟨kl, 0, none⟩ = some (.int .i64 ((n : Int))) := by have := H6.out.lg; simp [World.cell?, this]
  go_wp2_with fail
  refine (bytesR_calls kr r ar cr L (tb5 L) (t4 L).2.2 n w6 H6.out.rw_ (by omega)).mono ?_
  rintro e w7 ⟨gb, rfl, hg1, hg2, hg3, og⟩
  obtain ⟨B, bd, q, ht⟩ : ∃ B bd q, bIter L ([], tb5 L, (t4 L).2.2) n = (B, bd, q) := ⟨_, _, _, rfl⟩
  rw [ht] at hg2 hg3
  have hBn : B.length = n := by have := bIter_len L ([], tb5 L, (t4 L).2.2) n; rw [ht] at this; simpa using this
  have HT : Hid (toldI L (toldN L) = (B, bd, q) ∧ toldY L = B ∧ ∀ x ∈ B, x < 256) := by
    have e1 : toldI L (toldN L) = (B, bd, q) := by unfold toldI; rw [← HNN.out]; exact ht
    refine ⟨e1, by unfold toldY; rw [e1], ?_⟩
    have := bIter_small L ([], tb5 L, (t4 L).2.2) n (by simp)
    rw [ht] at this
    exact this
  have cc := (H6.out.tg.only og (by simp; exact ⟨H6.out.d2.1, H6.out.d2.2.1⟩)).cells.2.2.2.2
  have ff := (H6.out.tg.only og (by simp; exact ⟨H6.out.d2.1, H6.out.d2.2.1⟩)).free 4
  have H7 : Hid (TS w kr r ar cr L kc ks kl p (.slice (some ⟨gb, 0, none⟩) n n) (n : Int) bd q (w7.setCell ⟨kc, 4, none⟩ (.slice (some ⟨gb, 0, none⟩) n n)) ∧ ByAt (w7.setCell ⟨kc, 4, none⟩ (.slice (some ⟨gb, 0, none⟩) n n)) (some ⟨gb, 0, none⟩) B ∧ w.heap.size ≤ gb ∧ gb ≠ ks) := by
    have hsz := H6.out.only.size
    have hk : gb ≠ kc := fun e => by have := H6.out.tg.lt; omega
    have hk2 : gb ≠ ks := fun e => by have := H6.out.rs.lt; omega
    exact ⟨H6.out.bytes (gb := gb) (m := n) (B := B) hg3 og _, hg2.by.only ((Only.refl [kc] w7).setCell (p := ⟨kc, 4, none⟩) (Or.inl (by simp)) _) (fun g o e _ => by injection e with e; injection e with e1 _ _; simp; rw [← e1]; exact hk), by omega, hk2⟩
  clear hg1 hg2 hg3 og ht cl H6
  subst hBn
  go_upto_region 8 with fail
  clear cc ff
  generalize World.setCell w7 _ _ = w8 at H7 ⊢
  obtain ⟨c0, c1, c2, c3, c4⟩ := H7.out.1.tg.cells
  go_wp2_with fail
  refine (tell_calls p (some ⟨gb, 0, none⟩) B.length B w8 HT.out.2.2 (by omega) H7.out.2.1).mono ?_
  intro e2 wa ha
  have H9 : Hid (TS w kr r ar cr L kc ks kl p (.slice (some ⟨gb, 0, none⟩) B.length B.length) (B.length : Int) bd q wa ∧ ByAt wa (some ⟨gb, 0, none⟩) B ∧ w.heap.size ≤ gb ∧ gb ≠ ks) := ⟨H7.out.1.keep ha.1, H7.out.2.1.only ha.1 (by simp), H7.out.2.2⟩
  clear c0 c1 c2 c3 c4 H7
  have hsh : ∃ u er, e2 = .returned (.tuple #[u, eN er]) ∧ ((er = 0 ∧ tellOk p B.length ∧ ReadsAs wa u (bytesOf (tellT p B))) ∨ (er ≠ 0 ∧ ¬ tellOk p B.length)) := by
    rcases ha.2 with ⟨n, e⟩ | ⟨k, v, e, hf⟩
    · exact ⟨_, 1, e, Or.inr ⟨by decide, n⟩⟩
    · exact ⟨v, 0, e, Or.inl ⟨rfl, k, hf.reads⟩⟩
  clear ha
  obtain ⟨u, er, rfl, hcase⟩ := hsh
  have HCS : Hid ((er = 0 ∧ tellOk p B.length ∧ ReadsAs wa u (bytesOf (tellT p B))) ∨ (er ≠ 0 ∧ ¬ tellOk p B.length)) := hcase
  clear hcase
  have HGE : Hid (toldGood L = (bd = false ∧ tellOk p B.length ∧ sameB (bytesOf (tellT p B)) L = true)) := by
    show _ = _
    unfold toldGood
    rw [HT.out.1, HT.out.2.1, ← HP.out]
  obtain ⟨e9, he9, hc9⟩ := H9.out.1.err
  by_cases hz9 : e9 = 0
  case neg =>
    have HNG : Hid (¬ toldGood L) := fun q => by
      rw [HGE.out, he9] at q
      simp [hz9] at q
    rw [eN_pos hz9] at hc9
    clear hz9 he9
    obtain ⟨r0, r1, r2, r3, r4⟩ := H9.out.1.rs.cells
    have f0 := H9.out.1.rs.free 0; have f1 := H9.out.1.rs.free 1; have f2 := H9.out.1.rs.free 2; have f3 := H9.out.1.rs.free 3; have f4 := H9.out.1.rs.free 4
    have HR : Hid (PcAt 39 (((((wa.setCell ⟨ks, 0, none⟩ (.int .i64 0)).setCell ⟨ks, 1, none⟩ (.int .i64 0)).setCell ⟨ks, 2, none⟩ (.int .i64 0)).setCell ⟨ks, 3, none⟩ (.int .i64 0)).setCell ⟨ks, 4, none⟩ (.slice none 0 0)) ks ⟨0, 0, 0, 0⟩ (.slice none 0 0) ∧ Only [] w (((((wa.setCell ⟨ks, 0, none⟩ (.int .i64 0)).setCell ⟨ks, 1, none⟩ (.int .i64 0)).setCell ⟨ks, 2, none⟩ (.int .i64 0)).setCell ⟨ks, 3, none⟩ (.int .i64 0)).setCell ⟨ks, 4, none⟩ (.slice none 0 0)) ∧ ByAt (((((wa.setCell ⟨ks, 0, none⟩ (.int .i64 0)).setCell ⟨ks, 1, none⟩ (.int .i64 0)).setCell ⟨ks, 2, none⟩ (.int .i64 0)).setCell ⟨ks, 3, none⟩ (.int .i64 0)).setCell ⟨ks, 4, none⟩ (.slice none 0 0)) (some ⟨gb, 0, none⟩) B) := by
      have h5 := H9.out.1.rs.put5 ⟨0, 0, 0, 0⟩ (.slice none 0 0)
      refine ⟨h5, H9.out.1.res ⟨0, 0, 0, 0⟩ (.slice none 0 0), H9.out.2.1.only (D := [ks]) (only_put (Or.inl (by simp)) (only_put (Or.inl (by simp)) (only_put (Or.inl (by simp)) (only_put (Or.inl (by simp)) (only_put (Or.inl (by simp)) (Only.refl _ _) _ _) _ _) _ _) _ _) _ _) (fun g o e _ => ?_)⟩
      injection e with e; injection e with e1 _ _; simp; rw [← e1]; exact H9.out.2.2.2
    go_wp2_with fail
    clear r0 r1 r2 r3 r4 f0 f1 f2 f3 f4
    revert HR
    generalize World.setCell (World.setCell (World.setCell (World.setCell (World.setCell wa _ _) _ _) _ _) _ _) _ _ = wz
    intro HR
    obtain ⟨r0, r1, r2, r3, r4⟩ := HR.out.1.cells
    simp only at r0 r1 r2 r3 r4
    refine bodyPost_ret (v := .tuple #[.agg #[.int .i64 0, .int .i64 0, .int .i64 0, .int .i64 0, .slice none 0 0], .iface 44 (.int .i64 3)]) (by simp [results, Try.results9, go_sem, r0, r1, r2, r3, r4]) rfl ?_
    exact ⟨HR.out.2.1, Or.inr ⟨HNG.out, rfl⟩⟩
  have HB0 : Hid (bd = false) := by show _ = _; rw [he9, hz9]; rfl
  rw [hz9, eN_zero] at hc9
  clear hz9 he9
  by_cases hze : er = 0
  case neg =>
    have HNG : Hid (¬ toldGood L) := fun q => by
      rw [HGE.out] at q
      rcases HCS.out with q1 | q1
      · exact hze q1.1
      · exact q1.2 q.2.1
    rw [eN_pos hze]
    clear hze
    obtain ⟨r0, r1, r2, r3, r4⟩ := H9.out.1.rs.cells
    have f0 := H9.out.1.rs.free 0; have f1 := H9.out.1.rs.free 1; have f2 := H9.out.1.rs.free 2; have f3 := H9.out.1.rs.free 3; have f4 := H9.out.1.rs.free 4
    have HR : Hid (PcAt 39 (((((wa.setCell ⟨ks, 0, none⟩ (.int .i64 0)).setCell ⟨ks, 1, none⟩ (.int .i64 0)).setCell ⟨ks, 2, none⟩ (.int .i64 0)).setCell ⟨ks, 3, none⟩ (.int .i64 0)).setCell ⟨ks, 4, none⟩ (.slice none 0 0)) ks ⟨0, 0, 0, 0⟩ (.slice none 0 0) ∧ Only [] w (((((wa.setCell ⟨ks, 0, none⟩ (.int .i64 0)).setCell ⟨ks, 1, none⟩ (.int .i64 0)).setCell ⟨ks, 2, none⟩ (.int .i64 0)).setCell ⟨ks, 3, none⟩ (.int .i64 0)).setCell ⟨ks, 4, none⟩ (.slice none 0 0)) ∧ ByAt (((((wa.setCell ⟨ks, 0, none⟩ (.int .i64 0)).setCell ⟨ks, 1, none⟩ (.int .i64 0)).setCell ⟨ks, 2, none⟩ (.int .i64 0)).setCell ⟨ks, 3, none⟩ (.int .i64 0)).setCell ⟨ks, 4, none⟩ (.slice none 0 0)) (some ⟨gb, 0, none⟩) B) := by
      have h5 := H9.out.1.rs.put5 ⟨0, 0, 0, 0⟩ (.slice none 0 0)
      refine ⟨h5, H9.out.1.res ⟨0, 0, 0, 0⟩ (.slice none 0 0), H9.out.2.1.only (D := [ks]) (only_put (Or.inl (by simp)) (only_put (Or.inl (by simp)) (only_put (Or.inl (by simp)) (only_put (Or.inl (by simp)) (only_put (Or.inl (by simp)) (Only.refl _ _) _ _) _ _) _ _) _ _) _ _) (fun g o e _ => ?_)⟩
      injection e with e; injection e with e1 _ _; simp; rw [← e1]; exact H9.out.2.2.2
    go_wp2_with fail
    clear r0 r1 r2 r3 r4 f0 f1 f2 f3 f4
    revert HR
    generalize World.setCell (World.setCell (World.setCell (World.setCell (World.setCell wa _ _) _ _) _ _) _ _) _ _ = wz
    intro HR
    obtain ⟨r0, r1, r2, r3, r4⟩ := HR.out.1.cells
    simp only at r0 r1 r2 r3 r4
    refine bodyPost_ret (v := .tuple #[.agg #[.int .i64 0, .int .i64 0, .int .i64 0, .int .i64 0, .slice none 0 0], .iface 44 (.int .i64 3)]) (by simp [results, Try.results9, go_sem, r0, r1, r2, r3, r4]) rfl ?_
    exact ⟨HR.out.2.1, Or.inr ⟨HNG.out, rfl⟩⟩
  have HY : Hid (tellOk p B.length ∧ ReadsAs wa u (bytesOf (tellT p B))) := by
    rcases HCS.out with q1 | q1
    · exact q1.2
    · exact absurd hze q1.1
  rw [hze, eN_zero]
  clear hze HCS
  go_wp2_with fail
  refine (equalB_calls u _ (bytesOf (tellT p B)) L wa HY.out.2 (HB.out.2.2.2.only H9.out.1.only)).mono ?_
  rintro e wb ⟨rfl, rfl⟩
  have HCC : Hid (toldGood L ↔ sameB (bytesOf (tellT p B)) L = true) := by
    show _ ↔ _
    rw [HGE.out]
    exact ⟨fun q => q.2.2, fun q => ⟨HB0.out, HY.out.1, q⟩⟩
  obtain ⟨sb, hsb⟩ : ∃ sb, sb = sameB (bytesOf (tellT p B)) L := ⟨_, rfl⟩
  rw [← hsb] at HCC ⊢
  clear hsb
  cases sb with
  | false =>
    have HNG : Hid (¬ toldGood L) := fun q => by have := HCC.out.1 q; cases this
    obtain ⟨r0, r1, r2, r3, r4⟩ := H9.out.1.rs.cells
    have f0 := H9.out.1.rs.free 0; have f1 := H9.out.1.rs.free 1; have f2 := H9.out.1.rs.free 2; have f3 := H9.out.1.rs.free 3; have f4 := H9.out.1.rs.free 4
    have HR : Hid (PcAt 39 (((((wb.setCell ⟨ks, 0, none⟩ (.int .i64 0)).setCell ⟨ks, 1, none⟩ (.int .i64 0)).setCell ⟨ks, 2, none⟩ (.int .i64 0)).setCell ⟨ks, 3, none⟩ (.int .i64 0)).setCell ⟨ks, 4, none⟩ (.slice none 0 0)) ks ⟨0, 0, 0, 0⟩ (.slice none 0 0) ∧ Only [] w (((((wb.setCell ⟨ks, 0, none⟩ (.int .i64 0)).setCell ⟨ks, 1, none⟩ (.int .i64 0)).setCell ⟨ks, 2, none⟩ (.int .i64 0)).setCell ⟨ks, 3, none⟩ (.int .i64 0)).setCell ⟨ks, 4, none⟩ (.slice none 0 0)) ∧ ByAt (((((wb.setCell ⟨ks, 0, none⟩ (.int .i64 0)).setCell ⟨ks, 1, none⟩ (.int .i64 0)).setCell ⟨ks, 2, none⟩ (.int .i64 0)).setCell ⟨ks, 3, none⟩ (.int .i64 0)).setCell ⟨ks, 4, none⟩ (.slice none 0 0)) (some ⟨gb, 0, none⟩) B) := by
      have h5 := H9.out.1.rs.put5 ⟨0, 0, 0, 0⟩ (.slice none 0 0)
      refine ⟨h5, H9.out.1.res ⟨0, 0, 0, 0⟩ (.slice none 0 0), H9.out.2.1.only (D := [ks]) (only_put (Or.inl (by simp)) (only_put (Or.inl (by simp)) (only_put (Or.inl (by simp)) (only_put (Or.inl (by simp)) (only_put (Or.inl (by simp)) (Only.refl _ _) _ _) _ _) _ _) _ _) _ _) (fun g o e _ => ?_)⟩
      injection e with e; injection e with e1 _ _; simp; rw [← e1]; exact H9.out.2.2.2
    go_wp2_with fail
    clear r0 r1 r2 r3 r4 f0 f1 f2 f3 f4
    revert HR
    generalize World.setCell (World.setCell (World.setCell (World.setCell (World.setCell wb _ _) _ _) _ _) _ _) _ _ = wz
    intro HR
    obtain ⟨r0, r1, r2, r3, r4⟩ := HR.out.1.cells
    simp only at r0 r1 r2 r3 r4
    refine bodyPost_ret (v := .tuple #[.agg #[.int .i64 0, .int .i64 0, .int .i64 0, .int .i64 0, .slice none 0 0], .iface 44 (.int .i64 3)]) (by simp [results, Try.results9, go_sem, r0, r1, r2, r3, r4]) rfl ?_
    exact ⟨HR.out.2.1, Or.inr ⟨HNG.out, rfl⟩⟩
  | true =>
    have HGD : Hid (toldGood L) := HCC.out.2 rfl
    obtain ⟨c0, c1, c2, c3, c4⟩ := H9.out.1.tg.cells
    obtain ⟨r0, r1, r2, r3, r4⟩ := H9.out.1.rs.cells
    have f0 := H9.out.1.rs.free 0; have f1 := H9.out.1.rs.free 1; have f2 := H9.out.1.rs.free 2; have f3 := H9.out.1.rs.free 3; have f4 := H9.out.1.rs.free 4
    have HR : Hid (PcAt 39 (((((wb.setCell ⟨ks, 0, none⟩ (.int .i64 (p.st))).setCell ⟨ks, 1, none⟩ (.int .i64 (p.ba))).setCell ⟨ks, 2, none⟩ (.int .i64 (p.ix))).setCell ⟨ks, 3, none⟩ (.int .i64 (p.mn))).setCell ⟨ks, 4, none⟩ (.slice (some ⟨gb, 0, none⟩) B.length B.length)) ks ⟨p.st, p.ba, p.ix, p.mn⟩ (.slice (some ⟨gb, 0, none⟩) B.length B.length) ∧ Only [] w (((((wb.setCell ⟨ks, 0, none⟩ (.int .i64 (p.st))).setCell ⟨ks, 1, none⟩ (.int .i64 (p.ba))).setCell ⟨ks, 2, none⟩ (.int .i64 (p.ix))).setCell ⟨ks, 3, none⟩ (.int .i64 (p.mn))).setCell ⟨ks, 4, none⟩ (.slice (some ⟨gb, 0, none⟩) B.length B.length)) ∧ ByAt (((((wb.setCell ⟨ks, 0, none⟩ (.int .i64 (p.st))).setCell ⟨ks, 1, none⟩ (.int .i64 (p.ba))).setCell ⟨ks, 2, none⟩ (.int .i64 (p.ix))).setCell ⟨ks, 3, none⟩ (.int .i64 (p.mn))).setCell ⟨ks, 4, none⟩ (.slice (some ⟨gb, 0, none⟩) B.length B.length)) (some ⟨gb, 0, none⟩) B) := by
      have h5 := H9.out.1.rs.put5 ⟨p.st, p.ba, p.ix, p.mn⟩ (.slice (some ⟨gb, 0, none⟩) B.length B.length)
      refine ⟨h5, H9.out.1.res ⟨p.st, p.ba, p.ix, p.mn⟩ (.slice (some ⟨gb, 0, none⟩) B.length B.length), H9.out.2.1.only (D := [ks]) (only_put (Or.inl (by simp)) (only_put (Or.inl (by simp)) (only_put (Or.inl (by simp)) (only_put (Or.inl (by simp)) (only_put (Or.inl (by simp)) (Only.refl _ _) _ _) _ _) _ _) _ _) _ _) (fun g o e _ => ?_)⟩
      injection e with e; injection e with e1 _ _; simp; rw [← e1]; exact H9.out.2.2.2
    go_wp2_with fail
    clear r0 r1 r2 r3 r4 f0 f1 f2 f3 f4
    revert HR
    generalize World.setCell (World.setCell (World.setCell (World.setCell (World.setCell wb _ _) _ _) _ _) _ _) _ _ = wz
    intro HR
    obtain ⟨r0, r1, r2, r3, r4⟩ := HR.out.1.cells
    simp only at r0 r1 r2 r3 r4
    refine bodyPost_ret (v := .tuple #[.agg #[.int .i64 (p.st), .int .i64 (p.ba), .int .i64 (p.ix), .int .i64 (p.mn), .slice (some ⟨gb, 0, none⟩) B.length B.length], .nilIface]) (by simp [results, Try.results9, go_sem, r0, r1, r2, r3, r4]) rfl ?_
    exact ⟨HR.out.2.1, Or.inl ⟨HGD.out, gb, by rw [HT.out.2.1, ← HP.out]; rfl, H9.out.2.2.1, by rw [HT.out.2.1]; exact HR.out.2.2⟩⟩
end Go.Proofs.Ytbiaajncngldlaa
