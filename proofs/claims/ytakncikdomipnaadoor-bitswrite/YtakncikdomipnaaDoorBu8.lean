/- gyrelaw.BitsWrite: what it works with: marks, a Writer and the reference's bits side by side. -/
import Derived.Test.YtakncikdomipnaaDoorBu7
import Derived.Test.YtakncikdomipnaaDoorAt3
import Derived.Deep.CutBlock
namespace Go.Proofs.YtakncikdomipnaaDoor
open Go.ChangeShapes Go.WideShapes Go.ChangeAt Go.RowKit
set_option linter.unusedVariables false
set_option linter.unusedSimpArgs false

structure Mk where
  wt : Int
  n : Int
  wd : Int
def mk0 : Mk := ⟨0, 0, 0⟩
/-- Marks that came in. -/
def MarksAt (w : World) (a : Option Addr) (len : Nat) (M : Nat → Mk) : Prop :=
  ∀ j, j < len → ∃ b o, a = some ⟨b, o, none⟩ ∧ w.cell? ⟨b, o + j * 3, none⟩ = some (.int .i64 ((M j).wt)) ∧ w.cell? ⟨b, o + j * 3 + 1, none⟩ = some (.int .i64 ((M j).n)) ∧ w.cell? ⟨b, o + j * 3 + 2, none⟩ = some (.int .i64 ((M j).wd))
theorem MarksAt.only {w w' : World} {a : Option Addr} {len : Nat} {M : Nat → Mk} (h : MarksAt w a len M) (o : Only [] w w') : MarksAt w' a len M := fun j hj => by
  obtain ⟨b, p, e, h0, h1, h2⟩ := h j hj
  exact ⟨b, p, e, o.cell h0 (by simp), o.cell h1 (by simp), o.cell h2 (by simp)⟩
theorem EtIs.only {w w' : World} (h : EtIs w) (o : Only [] w w') : EtIs w' := o.cell h (by simp)
def erV (er : Nat) : Value := if (er : Int) = 0 then .nilIface else errV (er : Int)
/-- bare of what a Reader tells. -/
theorem bareSame_calls (er : Nat) (w : World) (hg : EtIs w) : Calls Tryd.prog 11 #[erV er, .int .i64 ((er : Int))] w fun e w' => e = .returned (.bool true) ∧ Only [] w w' := by
  unfold erV
  by_cases h : (er : Int) = 0
  · rw [if_pos h, h]
    refine (bareNil_calls 0 w).mono ?_
    rintro e w' ⟨rfl, k⟩
    exact ⟨rfl, Only.of_kept k⟩
  · rw [if_neg h]
    refine (bareErr_calls (er : Int) (er : Int) w hg).mono ?_
    rintro e w' ⟨rfl, k⟩
    exact ⟨by simp, Only.of_kept k⟩
def MkAt (w : World) (k : Nat) (q : Mk) : Prop := w.heap[k]? = some (.cells #[.int .i64 (q.wt), .int .i64 (q.n), .int .i64 (q.wd)] 33)
theorem MkAt.off {w : World} {k : Nat} {q : Mk} (h : MkAt w k q) (i : Nat) : w.cell? ⟨k, i, none⟩ = #[.int .i64 (q.wt), .int .i64 (q.n), .int .i64 (q.wd)][i]? := by unfold MkAt at h; simp [World.cell?, h]
theorem MkAt.lt {w : World} {k : Nat} {q : Mk} (h : MkAt w k q) : k < w.heap.size := (Array.getElem?_eq_some_iff.1 h).1
theorem MkAt.free {w : World} {k : Nat} {q : Mk} (h : MkAt w k q) (i : Nat) : w.frozen? ⟨k, i, none⟩ = false := by unfold MkAt at h; simp [World.frozen?, h]
theorem MkAt.only {w w' : World} {k : Nat} {q : Mk} (h : MkAt w k q) {D : List Nat} (o : Only D w w') (s : k ∉ D) : MkAt w' k q := (o.block k h.lt s).trans h

/-- A Writer's zero value, as the program's text has it. -/
theorem zero_cells (w : World) : Tryd.zeroCells25 = wcells [] :=
  Value.agg.inj (Result.ok.inj ((Tryd.zeroValue25 w).symm.trans (writer_new w))).1
theorem run_append_none {P : Program} (w : World) (t ty e : TypeId) (i : TypeInfo) (ht : P.underlying t = some (.slice e)) (hi : P.info? e = some i) (a : Option Addr) (n c : Nat) (h : n ≤ c) :
    (Builtin.append_ #[t, t] ty #[.slice a n c, .slice none 0 0]).run P w = .ok (.slice a n c) w := by
  cases a <;> simp [Builtin.append_, run_underlying ht, sizeOf, typeInfo, hi, Builtin.lenOf, h, run_firstCells_none, storeCells]
/-- A Writer and bits that hold the same. -/
structure LD (w : World) (x kb : Nat) (v : Value) (l : List Nat) (wr : World) : Prop where
  wa : WrAt wr x l
  bt : BtAt wr kb v l
  xk : x ≠ kb
  xv : x ∉ ownL v
  xnew : w.heap.size ≤ x
  knew : w.heap.size ≤ kb
  vnew : ∀ b ∈ ownL v, w.heap.size ≤ b
  only : Only [] w wr
/-- .. while one mark more is written: l' is what the Writer has, mr the bits that are to come. -/
structure LF (w : World) (x kb : Nat) (v : Value) (l : List Nat) (kx : Nat) (q : Mk) (km : Nat) (v2 : Value) (mr l' : List Nat) (wr : World) : Prop where
  wa : WrAt wr x l'
  bt : BtAt wr kb v l
  mk_ : MkAt wr kx q
  bt2 : BtAt wr km v2 mr
  xk : x ≠ kb
  xv : x ∉ ownL v
  xnew : w.heap.size ≤ x
  knew : w.heap.size ≤ kb
  vnew : ∀ b ∈ ownL v, w.heap.size ≤ b
  xB : x < km
  kB : kb < km
  vB : ∀ b ∈ ownL v, b < km
  kxB : kx < km
  kxx : kx ≠ x
  kxk : kx ≠ kb
  kxv : kx ∉ ownL v
  v2B : ∀ b ∈ ownL v2, km ≤ b
  only : Only [] w wr
section
variable {w : World} {x kb : Nat} {v : Value} {l : List Nat} {kx : Nat} {q : Mk} {km : Nat} {v2 v3 : Value} {mr mr' l' l2 : List Nat} {wr w1 : World}
theorem LD.keep (h : LD w x kb v l wr) (o : Only [] wr w1) : LD w x kb v l w1 := ⟨h.wa.only o (by simp), h.bt.keep o, h.xk, h.xv, h.xnew, h.knew, h.vnew, h.only.trans o⟩
/-- Both are given the same bits. -/
theorem LD.both (h : LD w x kb v l wr) {w2 : World} {v' : Value} {more : List Nat} (hw : WrAt w1 x (l ++ more)) (o1 : Only [x] wr w1) (hb : BtAt w2 kb v' (l ++ more)) (p2 : PP w1 kb v w2 v') : LD w x kb v' (l ++ more) w2 := by
  have hx : x ∉ kb :: ownL v := by simp only [List.mem_cons, not_or]; exact ⟨h.xk, h.xv⟩
  refine ⟨hw.only p2.only hx, hb, h.xk, fun k => ?_, h.xnew, h.knew, fun b hb => ?_, (h.only.then o1 (fun b hb => by simp only [List.mem_singleton] at hb; rw [hb]; exact Or.inr h.xnew)).then p2.only (fun b hb => ?_)⟩
  · rcases p2.loc x k with e | e
    · exact h.xv e
    · have := hw.lt; omega
  · rcases p2.loc b hb with e | e
    · exact h.vnew b e
    · have := h.only.size; have := o1.size; omega
  · rcases List.mem_cons.1 hb with e | e
    · rw [e]; exact Or.inr h.knew
    · exact Or.inr (h.vnew b e)
theorem LF.wrote (h : LF w x kb v l kx q km v2 mr l' wr) (o : Only [x] wr w1) (hw : WrAt w1 x l2) : LF w x kb v l kx q km v2 mr l2 w1 :=
  ⟨hw, h.bt.only o (by simp only [List.mem_singleton]; exact fun e => h.xk e.symm) (fun b hb => by simp only [List.mem_singleton]; exact fun e => h.xv (e ▸ hb)), h.mk_.only o (by simp only [List.mem_singleton]; exact h.kxx),
   h.bt2.only o (by simp only [List.mem_singleton]; have := h.xB; omega) (fun b hb => by simp only [List.mem_singleton]; have := h.v2B b hb; have := h.xB; omega), h.xk, h.xv, h.xnew, h.knew, h.vnew, h.xB, h.kB, h.vB, h.kxB, h.kxx, h.kxk, h.kxv, h.v2B, h.only.then o (fun b hb => by simp only [List.mem_singleton] at hb; rw [hb]; exact Or.inr h.xnew)⟩
theorem LF.putm (h : LF w x kb v l kx q km v2 mr l' wr) (hb : BtAt w1 km v3 mr') (p : PP wr km v2 w1 v3) : LF w x kb v l kx q km v3 mr' l' w1 := by
  have far : ∀ b, b < km → b ∉ km :: ownL v2 := fun b hb q => by
    rcases List.mem_cons.1 q with e | e
    · omega
    · have := h.v2B b e; omega
  exact ⟨h.wa.only p.only (far _ h.xB), h.bt.only p.only (far _ h.kB) (fun b hb => far _ (h.vB b hb)), h.mk_.only p.only (far _ h.kxB), hb, h.xk, h.xv, h.xnew, h.knew, h.vnew, h.xB, h.kB, h.vB, h.kxB, h.kxx, h.kxk, h.kxv,
    fun b hb => by
      rcases p.loc b hb with e | e
      · exact h.v2B b e
      · have := h.bt2.lt; omega,
    h.only.then p.only (fun b hb => by
      have hkm : w.heap.size ≤ km := by have := h.xB; have := h.xnew; omega
      rcases List.mem_cons.1 hb with e | e
      · rw [e]; exact Or.inr hkm
      · have := h.v2B b e; exact Or.inr (by omega))⟩
theorem LF.keep (h : LF w x kb v l kx q km v2 mr l' wr) (o : Only [] wr w1) : LF w x kb v l kx q km v2 mr l' w1 :=
  ⟨h.wa.only o (by simp), h.bt.keep o, h.mk_.only o (by simp), h.bt2.keep o, h.xk, h.xv, h.xnew, h.knew, h.vnew, h.xB, h.kB, h.vB, h.kxB, h.kxx, h.kxk, h.kxv, h.v2B, h.only.trans o⟩
/-- Back to both alone. -/
theorem LF.back (h : LF w x kb v l kx q km v2 mr l wr) : LD w x kb v l wr := ⟨h.wa, h.bt, h.xk, h.xv, h.xnew, h.knew, h.vnew, h.only⟩
/-- .. the bits are given to the list, too. -/
theorem LF.join (h : LF w x kb v l kx q km v2 mr (l ++ mr) wr) (hb : BtAt w1 kb v3 (l ++ mr)) (p : PP wr kb v w1 v3) : LD w x kb v3 (l ++ mr) w1 := by
  have hx : x ∉ kb :: ownL v := by simp only [List.mem_cons, not_or]; exact ⟨h.xk, h.xv⟩
  refine ⟨h.wa.only p.only hx, hb, h.xk, fun k => ?_, h.xnew, h.knew, fun b hb => ?_, h.only.then p.only (fun b hb => ?_)⟩
  · rcases p.loc x k with e | e
    · exact h.xv e
    · have := h.wa.lt; omega
  · rcases p.loc b hb with e | e
    · exact h.vnew b e
    · have := h.only.size; omega
  · rcases List.mem_cons.1 hb with e | e
    · rw [e]; exact Or.inr h.knew
    · exact Or.inr (h.vnew b e)
end
def encM (x : Mk) : List Nat := if x.wt = 0 then putB x.n.toNat x.wd.toNat else if x.wt = 1 then varB x.n.toNat else varB (codeM x.n)
def badM (x : Mk) : Prop := if x.wt = 0 then badPut x.n x.wd else if x.wt = 1 then badVar x.n else badInt x.n
/-- What comes of a mark: the error, the bits that were to come, what the Writer has then. -/
def Out (l : List Nat) (bd : Bool) (er : Nat) (mr l' : List Nat) : Prop :=
  (bd = true ∧ er = 2 ∧ mr = [] ∧ l' = l) ∨ (bd = false ∧ 32000 < l.length + mr.length ∧ er = 4 ∧ l' = l ∧ mr.length ≤ 100) ∨ (bd = false ∧ l.length + mr.length ≤ 32000 ∧ er = 0 ∧ l' = l ++ mr ∧ mr.length ≤ 100)
end Go.Proofs.YtakncikdomipnaaDoor
