/- What a bits.Reader reads: its Get as a plain function; errors by number. -/
import Derived.Test.YtedhdmahdioboaaSg5
namespace Go.Proofs.Ytedhdmahdioboaa
open Go.ChangeShapes Go.WideShapes Go.ChangeAt Go.RowKit
set_option linter.unusedVariables false
set_option linter.unusedSimpArgs false

def getM (L : List Nat) (p : Nat) (wd : Int) : Nat × Int × Nat :=
  if ¬ (0 ≤ wd ∧ wd ≤ 62) then (2, 0, p) else if 8 * L.length < p + wd.toNat then (8, 0, p) else (0, ((valB (((bitsOf L).drop p).take wd.toNat) : Nat) : Int), p + wd.toNat)
theorem get_getM (r : Nat) (a : Option Addr) (c : Nat) (L : List Nat) (p : Nat) (wd : Int) (w : World) (h : RdAt w r a c L p) :
    Calls Try.prog 110 #[.pointer (some ⟨r, 0, none⟩), .int .i64 wd] w (RdPost r a c L ((getM L p wd).1 : Nat) (getM L p wd).2.1 (getM L p wd).2.2 w) := by
  refine (get_calls r a c L p wd w h).mono ?_
  rintro e w' (⟨h1, h2⟩ | ⟨h1, h2, h3⟩ | ⟨h1, h2, h3⟩)
  · unfold getM; rw [if_pos h1]; exact h2
  · unfold getM; rw [if_neg (by simpa using h1), if_pos h2]; exact h3
  · unfold getM; rw [if_neg (by simpa using h1), if_neg (by omega)]; exact h3

def eN (er : Nat) : Value := if ((er : Nat) : Int) = 0 then .nilIface else errV ((er : Nat) : Int)
theorem eN_zero : eN 0 = .nilIface := rfl
theorem eN_pos {er : Nat} (h : er ≠ 0) : eN er = .iface 62 (.int .i64 ((er : Int))) := if_neg (by omega)
theorem iM_at {L a c : List Nat} {n : Int} {p : Nat} (h : bitsOf L = a ++ varB (codeM n) ++ c) (hp : p = a.length) (hn : ¬ badInt n) : intM L p = (0, n, (a ++ varB (codeM n)).length) := by
  subst hp
  rw [intM_back n L a c h hn, List.length_append]
theorem gM_at {L a c : List Nat} {k wd p : Nat} (h : bitsOf L = a ++ putB k wd ++ c) (hp : p = a.length) (hk : k < 2 ^ wd) (hw : wd ≤ 62) : getM L p (wd : Int) = (0, (k : Int), (a ++ putB k wd).length) := by
  subst hp
  have hl := congrArg List.length h
  rw [bitsOf_len, List.length_append, List.length_append, putB_len] at hl
  unfold getM
  rw [if_neg (by simp; omega), if_neg (by simp; omega), Int.toNat_natCast, h, take_mid' a (putB k wd) c a.length wd rfl (putB_len _ _), valB_putB, Nat.mod_eq_of_lt hk, List.length_append, putB_len]
theorem bytes_bits {T : List Nat} (h : Bits T) : ∃ pad, bitsOf (bytesOf T) = T ++ pad := ⟨_, bitsOf_bytesOf h⟩
theorem readB_calls (a : Option Addr) (c : Nat) (L : List Nat) (w : World) (hl : L.length ≤ 100000) (hs : ∀ x ∈ L, x < 256) (h : ByAt w a L) (hn : a = none → L = [] ∧ c = 0) :
    Calls Try.prog 69 #[.slice a L.length c] w fun e w' => ∃ v, e = .returned v ∧ Made w v L w' ∧ Only [] w w' := by
  cases a with
  | none =>
    obtain ⟨rfl, rfl⟩ := hn rfl
    exact read_nil w
  | some ad =>
    cases L with
    | nil => exact readA_calls ad c [] w hl hs (fun j hj => by simp at hj)
    | cons b t =>
      obtain ⟨g, p, e, _⟩ := h 0 (by simp)
      injection e with e
      subst e
      exact read_calls g p c (b :: t) w hl hs h
end Go.Proofs.Ytedhdmahdioboaa
