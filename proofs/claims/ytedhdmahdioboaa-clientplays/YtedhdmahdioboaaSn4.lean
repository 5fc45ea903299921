/- snap.writer: what is written, and the first error: whatever is written. -/
import Derived.Test.YtedhdmahdioboaaSn3
import Derived.Test.YtedhdmahdioboaaFin
namespace Go.Proofs.Ytedhdmahdioboaa
open Go.ChangeShapes Go.WideShapes Go.ChangeAt Go.RowKit
set_option linter.unusedVariables false
set_option linter.unusedSimpArgs false

def erW (b : Bool) : Value := if b then errV 4 else .nilIface
/-- What is written, against all that should be: while nothing went wrong it is that; else that is too much. -/
structure Inv (l : List Nat) (bad : Bool) (T : List Nat) : Prop where
  le : l.length ≤ T.length
  good : bad = false → l = T
  much : bad = true → 32000 < T.length
/-- A writer in memory. -/
def SW (w : World) (x : Nat) (T : List Nat) (last : Int) : Prop := ∃ l bad, WrAt #[erW bad, .int .i64 last] 233 w x l ∧ Inv l bad T
/-- Between what is written and its error's being kept. -/
def MidW (w : World) (x : Nat) (T : List Nat) (last : Int) (v : Value) : Prop := ∃ l bad b2, v = erW b2 ∧ WrAt #[erW bad, .int .i64 last] 233 w x l ∧ Inv l (bad || b2) T
theorem SW.lt {w : World} {x : Nat} {T : List Nat} {last : Int} (h : SW w x T last) : x < w.heap.size := by obtain ⟨l, b, h, _⟩ := h; exact h.lt
theorem SW.only {w w' : World} {x : Nat} {T : List Nat} {last : Int} {D : List Nat} (h : SW w x T last) (o : Only D w w') (s : x ∉ D) : SW w' x T last := by obtain ⟨l, b, h, i⟩ := h; exact ⟨l, b, h.only o s, i⟩
theorem SW.last {w : World} {x : Nat} {T : List Nat} {last : Int} (h : SW w x T last) : w.cell? ⟨x, 4002, none⟩ = some (.int .i64 last) := by obtain ⟨l, b, h, i⟩ := h; exact h.tail 1
theorem SW.free {w : World} {x : Nat} {T : List Nat} {last : Int} (h : SW w x T last) (i : Nat) : w.frozen? ⟨x, i, none⟩ = false := by obtain ⟨l, b, h, _⟩ := h; exact h.free i
theorem MidW.last {w : World} {x : Nat} {T : List Nat} {last : Int} {v : Value} (h : MidW w x T last v) : w.cell? ⟨x, 4002, none⟩ = some (.int .i64 last) := by obtain ⟨l, b, b2, _, h, i⟩ := h; exact h.tail 1
theorem tail_put {l : List Nat} {A B : Value} (i : Nat) (v : Value) (hi : i < 2) : (wcells l ++ #[A, B]).setIfInBounds (4001 + i) v = wcells l ++ #[A, B].setIfInBounds i v := by
  apply Array.ext_getElem?
  intro j
  rw [Array.getElem?_setIfInBounds, Array.getElem?_append, Array.getElem?_append, Array.getElem?_setIfInBounds, Array.size_append, wcells_size]
  have hs : (#[A, B] : Array Value).size = 2 := rfl
  by_cases e : 4001 + i = j
  · subst e
    rw [if_pos rfl, hs, if_pos (by omega), if_neg (by omega), show 4001 + i - 4001 = i by omega, if_pos rfl, if_pos hi]
  · rw [if_neg e]
    by_cases q : j < 4001
    · rw [if_pos q, if_pos q]
    · rw [if_neg q, if_neg q, if_neg (by omega)]
theorem SW.put {w : World} {x : Nat} {T : List Nat} {last : Int} (h : SW w x T last) (n : Int) : SW (w.setCell ⟨x, 4002, none⟩ (.int .i64 n)) x T n := by
  obtain ⟨l, b, h, i⟩ := h
  refine ⟨l, b, ⟨?_, h.bits, h.len⟩, i⟩
  rw [heap_put h.at_, show (4002 : Nat) = 4001 + 1 from rfl, tail_put 1 _ (by omega)]; rfl
theorem mid_of {R : Array Value} {x : Nat} {l T more : List Nat} {bad : Bool} {last : Int} {P : Prop} {w w' : World} {e : Ending} (hi : Inv l bad T) (hp : ¬ P) (h : WrPost #[erW bad, .int .i64 last] 233 x l P more w e w') :
    ∃ v, e = .returned v ∧ MidW w' x (T ++ more) last v ∧ Only [x] w w' := by
  obtain ⟨o, h | ⟨_, hl, he, hw⟩ | ⟨_, hl, he, hw⟩⟩ := h
  · exact absurd h.1 hp
  · refine ⟨_, he, ⟨l, bad, true, rfl, hw, ⟨?_, ?_, ?_⟩⟩, o⟩
    · have := hi.le; simp only [List.length_append]; omega
    · simp
    · intro _; have := hi.le; simp only [List.length_append]; omega
  · refine ⟨_, he, ⟨l ++ more, bad, false, rfl, hw, ⟨?_, ?_, ?_⟩⟩, o⟩
    · have := hi.le; simp only [List.length_append]; omega
    · intro hb; rw [Bool.or_false] at hb; rw [hi.good hb]
    · intro hb; rw [Bool.or_false] at hb; have := hi.much hb; simp only [List.length_append]; omega
theorem putS_calls (x : Nat) (T : List Nat) (last n wd : Int) (w : World) (h : SW w x T last) (hp : ¬ badPut n wd) :
    Calls Try.prog 138 #[.pointer (some ⟨x, 0, none⟩), .int .i64 n, .int .i64 wd] w fun e w' => ∃ v, e = .returned v ∧ MidW w' x (T ++ putB n.toNat wd.toNat) last v ∧ Only [x] w w' := by
  obtain ⟨l, b, h, i⟩ := h
  exact (put_calls x l n wd w h).mono fun e w' hq => mid_of (R := #[]) i hp hq
theorem varS_calls (x : Nat) (T : List Nat) (last n : Int) (w : World) (h : SW w x T last) (hp : ¬ badVar n) :
    Calls Try.prog 137 #[.pointer (some ⟨x, 0, none⟩), .int .i64 n] w fun e w' => ∃ v, e = .returned v ∧ MidW w' x (T ++ varB n.toNat) last v ∧ Only [x] w w' := by
  obtain ⟨l, b, h, i⟩ := h
  exact (var_calls x l n w h).mono fun e w' hq => mid_of (R := #[]) i hp hq
theorem intS_calls (x : Nat) (T : List Nat) (last n : Int) (w : World) (h : SW w x T last) (hp : ¬ badInt n) :
    Calls Try.prog 164 #[.pointer (some ⟨x, 0, none⟩), .int .i64 n] w fun e w' => ∃ v, e = .returned v ∧ MidW w' x (T ++ varB (codeM n)) last v ∧ Only [x] w w' := by
  obtain ⟨l, b, h, i⟩ := h
  exact (int_calls x l n w h).mono fun e w' hq => mid_of (R := #[]) i hp hq
theorem keepS_calls (x : Nat) (T : List Nat) (last : Int) (v : Value) (w : World) (h : MidW w x T last v) :
    Calls Try.prog 149 #[.pointer (some ⟨x, 0, none⟩), v] w fun e w' => e = .returned (.tuple #[]) ∧ SW w' x T last ∧ Only [x] w w' := by
  obtain ⟨l, bad, b2, rfl, h, i⟩ := h
  have HW : Hid (WrAt #[erW bad, .int .i64 last] 233 w x l ∧ Inv l (bad || b2) T) := ⟨h, i⟩
  have hc := h.tail 0
  have hf := h.free 4001
  clear h i
  cases bad with
  | true =>
    have hc2 : w.cell? ⟨x, 4001, none⟩ = some (.iface 62 (.int .i64 4)) := hc
    clear hc
    go_enter Try.func149, Try.ntmps149
    go_wp2_with fail
    refine bodyPost_end (results_none rfl _ _ _) rfl ?_
    exact ⟨rfl, ⟨l, true, HW.out⟩, Only.refl _ _⟩
  | false =>
    have hc2 : w.cell? ⟨x, 4001, none⟩ = some .nilIface := hc
    clear hc
    cases b2
    · rw [show erW false = .nilIface from rfl]
      go_enter Try.func149, Try.ntmps149
      go_wp2_with fail
      refine bodyPost_end (results_none rfl _ _ _) rfl ?_
      refine ⟨rfl, ⟨l, false, ⟨?_, HW.out.1.bits, HW.out.1.len⟩, HW.out.2⟩, (Only.refl _ _).setCell (p := ⟨x, 4001, none⟩) (Or.inl (by simp)) _⟩
      rw [heap_put HW.out.1.at_, show (4001 : Nat) = 4001 + 0 from rfl, tail_put 0 _ (by omega)]; rfl
    · rw [show erW true = .iface 62 (.int .i64 4) from rfl]
      go_enter Try.func149, Try.ntmps149
      go_wp2_with fail
      refine bodyPost_end (results_none rfl _ _ _) rfl ?_
      refine ⟨rfl, ⟨l, true, ⟨?_, HW.out.1.bits, HW.out.1.len⟩, HW.out.2⟩, (Only.refl _ _).setCell (p := ⟨x, 4001, none⟩) (Or.inl (by simp)) _⟩
      rw [heap_put HW.out.1.at_, show (4001 : Nat) = 4001 + 0 from rfl, tail_put 0 _ (by omega)]; rfl
end Go.Proofs.Ytedhdmahdioboaa
