/- The reference reads: a Tape, a mark; whichever bytes. -/
import Derived.Test.YtbiaajncngldlaaDoorWi3
import Derived.Test.YtbiaajncngldlaaDoorWj2
import Derived.Test.YtbiaajncngldlaaDoorSu5
namespace Go.Proofs.YtbiaajncngldlaaDoor
open Go.ChangeShapes Go.WideShapes Go.ChangeAt Go.RowKit
set_option linter.unusedVariables false
set_option linter.unusedSimpArgs false

theorem tget_getM (kt : Nat) (v : Value) (L : List Nat) (p : Nat) (wd : Int) (w : World) (h : TpAt w kt v (bitsOf L) p) :
    Calls Tryd.prog 38 #[.pointer (some ⟨kt, 0, none⟩), .int .i64 wd] w (TpPost kt v (bitsOf L) ((getM L p wd).1 : Nat) (getM L p wd).2.1 (getM L p wd).2.2 w) := by
  refine (tget_calls kt v (bitsOf L) p wd w h).mono ?_
  rintro e w' (⟨h1, h2⟩ | ⟨h1, h2, h3⟩ | ⟨h1, h2, h3⟩)
  · unfold getM; rw [if_pos h1]; exact h2
  · unfold getM; rw [bitsOf_len] at h2; rw [if_neg (by simpa using h1), if_pos h2]; exact h3
  · unfold getM; rw [bitsOf_len] at h2; rw [if_neg (by simpa using h1), if_neg (by omega)]; exact h3
/-- A Tape and a mark that something was wrong; the blocks of K lie apart from them. -/
structure RQ (w : World) (kt : Nat) (v : Value) (L : List Nat) (kx : Nat) (K : List Nat) (b : Bool) (p : Nat) (wr : World) : Prop where
  tp : TpAt wr kt v (bitsOf L) p
  bx : wr.heap[kx]? = some (.cells #[.bool b] 4)
  d : kt ≠ kx
  dv : kx ∉ ownL v
  dk : ∀ k ∈ K, k ≠ kt ∧ k ≠ kx ∧ k ∉ ownL v
  n : w.heap.size ≤ kt ∧ w.heap.size ≤ kx
  only : Only [] w wr
section
variable {w : World} {kt : Nat} {v : Value} {L : List Nat} {kx : Nat} {K : List Nat} {b b' : Bool} {p q : Nat} {wr w' : World}
theorem RQ.lt (h : RQ w kt v L kx K b p wr) : kx < wr.heap.size := (Array.getElem?_eq_some_iff.1 h.bx).1
theorem RQ.cell (h : RQ w kt v L kx K b p wr) : wr.cell? ⟨kx, 0, none⟩ = some (.bool b) := by have := h.bx; simp [World.cell?, this]
theorem RQ.free (h : RQ w kt v L kx K b p wr) : wr.frozen? ⟨kx, 0, none⟩ = false := by have := h.bx; simp [World.frozen?, this]
theorem RQ.keep (h : RQ w kt v L kx K b p wr) (o : Only [] wr w') : RQ w kt v L kx K b p w' :=
  ⟨h.tp.keep o, (o.block kx h.lt (by simp)).trans h.bx, h.d, h.dv, h.dk, h.n, h.only.trans o⟩
theorem RQ.read (h : RQ w kt v L kx K b p wr) (ht : TpAt w' kt v (bitsOf L) q) (o : Only [kt] wr w') : RQ w kt v L kx K b q w' :=
  ⟨ht, (o.block kx h.lt (by simpa using fun e => h.d e.symm)).trans h.bx, h.d, h.dv, h.dk, h.n, h.only.then o (fun x hx => by rw [List.mem_singleton.1 hx]; exact Or.inr h.n.1)⟩
theorem RQ.mark (h : RQ w kt v L kx K b p wr) (hb : w'.heap[kx]? = some (.cells #[.bool b'] 4)) (o : Only [kx] wr w') : RQ w kt v L kx K b' p w' :=
  ⟨h.tp.only o (by simpa using h.d) (fun x hx => by simp; exact fun e => h.dv (e ▸ hx)), hb, h.d, h.dv, h.dk, h.n, h.only.then o (fun x hx => by rw [List.mem_singleton.1 hx]; exact Or.inr h.n.2)⟩
theorem RQ.other {k : Nat} (h : RQ w kt v L kx K b p wr) (hk : k ∈ K) (hw : w.heap.size ≤ k) (o : Only [k] wr w') : RQ w kt v L kx K b p w' := by
  obtain ⟨e1, e2, e3⟩ := h.dk k hk
  exact ⟨h.tp.only o (by simpa using fun e => e1 e.symm) (fun x hx => by simp; exact fun e => e3 (e ▸ hx)), (o.block kx h.lt (by simpa using fun e => e2 e.symm)).trans h.bx, h.d, h.dv, h.dk, h.n, h.only.then o (fun x hx => by rw [List.mem_singleton.1 hx]; exact Or.inr hw)⟩
theorem RQ.add {k : Nat} (h : RQ w kt v L kx K b p wr) (o : Only [] wr w') (hk : wr.heap.size ≤ k) : RQ w kt v L kx (k :: K) b p w' := by
  have h1 := h.tp.lt; have h2 := h.lt
  refine ⟨h.tp.keep o, (o.block kx h.lt (by simp)).trans h.bx, h.d, h.dv, fun x hx => ?_, h.n, h.only.trans o⟩
  rcases List.mem_cons.1 hx with e | e
  · subst e
    exact ⟨by omega, by omega, fun hm => by have := h.tp.sl.lt _ hm; omega⟩
  · exact h.dk x e
theorem CmAt.keepT {T : TypeId} {k : Nat} {c : Cm} (h : CmAt T wr k c) (hq : RQ w kt v L kx K b p wr) (hk : k ∈ K) (o : Only [kt] wr w') : CmAt T w' k c := h.only o (by simpa using (hq.dk k hk).1)
theorem CmAt.keepX {T : TypeId} {k : Nat} {c : Cm} (h : CmAt T wr k c) (hq : RQ w kt v L kx K b p wr) (hk : k ∈ K) (o : Only [kx] wr w') : CmAt T w' k c := h.only o (by simpa using (hq.dk k hk).2.1)
end
theorem numA_calls (n : Int) (er : Nat) (b : Bool) (kx : Nat) (w : World) (h : w.heap[kx]? = some (.cells #[.bool b] 4)) :
    Calls Tryd.prog 36 #[.int .i64 n, .int .i64 ((er : Int)), .pointer (some ⟨kx, 0, none⟩)] w fun e w' => e = .returned (.int .i64 n) ∧ w'.heap[kx]? = some (.cells #[.bool (b || decide (er ≠ 0))] 4) ∧ Only [kx] w w' := by
  have c0 : w.cell? ⟨kx, 0, none⟩ = some (.bool b) := by simp [World.cell?, h]
  have f0 : w.frozen? ⟨kx, 0, none⟩ = false := by simp [World.frozen?, h]
  have HP : Hid (∀ b', (w.setCell ⟨kx, 0, none⟩ (.bool b')).heap[kx]? = some (.cells #[.bool b'] 4) ∧ Only [kx] w (w.setCell ⟨kx, 0, none⟩ (.bool b'))) := fun b' => ⟨by rw [heap_put h]; rfl, (Only.refl _ _).setCell (p := ⟨kx, 0, none⟩) (Or.inl (by simp)) _⟩
  clear h
  cases b with
  | true =>
    go_enter Tryd.func36, Tryd.ntmps36
    go_wp2_with fail
    go_ret
    exact ⟨rfl, (HP.out true).1, (HP.out true).2⟩
  | false =>
    by_cases he : er = 0
    · subst he
      go_enter Tryd.func36, Tryd.ntmps36
      go_wp2_with fail
      go_ret
      exact ⟨rfl, (HP.out false).1, (HP.out false).2⟩
    · have hb : ((er : Int) == 0) = false := by simp; omega
      have HD : Hid ((false || decide (er ≠ 0)) = true) := by show _ = _; simp [he]
      have HNE : Hid (((er : Int) != 0) = true) := by show _ = _; simp; omega
      clear he
      go_enter Tryd.func36, Tryd.ntmps36
      go_wp2_with fail
      go_ret
      refine ⟨rfl, ?_, (HP.out _).2⟩
      have h9 := (HP.out ((er : Int) != 0)).1
      rw [HD.out]
      rw [HNE.out] at h9 ⊢
      exact h9
theorem numT_calls (n : Int) (er : Nat) (b : Bool) (kx : Nat) (w : World) (h : w.heap[kx]? = some (.cells #[.bool b] 4)) :
    Calls Tryd.prog 45 #[.int .i64 n, .int .i64 ((er : Int)), .pointer (some ⟨kx, 0, none⟩)] w fun e w' => e = .returned (.int .i64 n) ∧ w'.heap[kx]? = some (.cells #[.bool (b || decide (er ≠ 0))] 4) ∧ Only [kx] w w' := by
  have c0 : w.cell? ⟨kx, 0, none⟩ = some (.bool b) := by simp [World.cell?, h]
  have f0 : w.frozen? ⟨kx, 0, none⟩ = false := by simp [World.frozen?, h]
  have HP : Hid (∀ b', (w.setCell ⟨kx, 0, none⟩ (.bool b')).heap[kx]? = some (.cells #[.bool b'] 4) ∧ Only [kx] w (w.setCell ⟨kx, 0, none⟩ (.bool b'))) := fun b' => ⟨by rw [heap_put h]; rfl, (Only.refl _ _).setCell (p := ⟨kx, 0, none⟩) (Or.inl (by simp)) _⟩
  clear h
  cases b with
  | true =>
    go_enter Tryd.func45, Tryd.ntmps45
    go_wp2_with fail
    go_ret
    exact ⟨rfl, (HP.out true).1, (HP.out true).2⟩
  | false =>
    by_cases he : er = 0
    · subst he
      go_enter Tryd.func45, Tryd.ntmps45
      go_wp2_with fail
      go_ret
      exact ⟨rfl, (HP.out false).1, (HP.out false).2⟩
    · have hb : ((er : Int) == 0) = false := by simp; omega
      have HD : Hid ((false || decide (er ≠ 0)) = true) := by show _ = _; simp [he]
      have HNE : Hid (((er : Int) != 0) = true) := by show _ = _; simp; omega
      clear he
      go_enter Tryd.func45, Tryd.ntmps45
      go_wp2_with fail
      go_ret
      refine ⟨rfl, ?_, (HP.out _).2⟩
      have h9 := (HP.out ((er : Int) != 0)).1
      rw [HD.out]
      rw [HNE.out] at h9 ⊢
      exact h9
theorem CmAt.put_bd {T : TypeId} {w : World} {k : Nat} {c : Cm} (h : CmAt T w k c) (n : Int) : CmAt T (w.setCell ⟨k, 4, none⟩ (.int .i64 n)) k { c with bd := n } := by
  have h1 := heap_put h 4 (.int .i64 n)
  simp only [List.setIfInBounds_toArray, List.set_cons_zero, List.set_cons_succ] at h1
  exact h1
theorem CmAt.put_x {T : TypeId} {w : World} {k : Nat} {c : Cm} (h : CmAt T w k c) (n : Int) : CmAt T (w.setCell ⟨k, 5, none⟩ (.int .i64 n)) k { c with x := n } := by
  have h1 := heap_put h 5 (.int .i64 n)
  simp only [List.setIfInBounds_toArray, List.set_cons_zero, List.set_cons_succ] at h1
  exact h1
theorem CmAt.put_y {T : TypeId} {w : World} {k : Nat} {c : Cm} (h : CmAt T w k c) (n : Int) : CmAt T (w.setCell ⟨k, 6, none⟩ (.int .i64 n)) k { c with y := n } := by
  have h1 := heap_put h 6 (.int .i64 n)
  simp only [List.setIfInBounds_toArray, List.set_cons_zero, List.set_cons_succ] at h1
  exact h1
theorem CmAt.put_z {T : TypeId} {w : World} {k : Nat} {c : Cm} (h : CmAt T w k c) (n : Int) : CmAt T (w.setCell ⟨k, 7, none⟩ (.int .i64 n)) k { c with z := n } := by
  have h1 := heap_put h 7 (.int .i64 n)
  simp only [List.setIfInBounds_toArray, List.set_cons_zero, List.set_cons_succ] at h1
  exact h1
def RAskedPost (L : List Nat) (w : World) (e : Ending) (w' : World) : Prop :=
  Only [] w w' ∧ ((askedGood L ∧ e = .returned (.tuple #[cmV (askedC L), .int .i64 0])) ∨ (¬ askedGood L ∧ e = .returned (.tuple #[cmV ⟨0, 0, 0, 0, 0, 0, 0, 0⟩, .int .i64 3])))
end Go.Proofs.YtbiaajncngldlaaDoor
