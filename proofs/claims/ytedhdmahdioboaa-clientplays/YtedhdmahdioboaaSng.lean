/- The reference's bits, beside blocks that stay: what is put into them. -/
import Derived.Test.YtedhdmahdioboaaSnf
namespace Go.Proofs.Ytedhdmahdioboaa
open Go.ChangeShapes Go.WideShapes Go.ChangeAt Go.RowKit
set_option linter.unusedVariables false
set_option linter.unusedSimpArgs false

/-- Bits that were made since w, in a variable of their own; the blocks of K lie apart from them. -/
structure RB (w : World) (kb : Nat) (K : List Nat) (l : List Nat) (wr : World) : Prop where
  ex : ∃ v, BtAt wr kb v l ∧ (∀ b ∈ ownL v, w.heap.size ≤ b) ∧ (∀ k ∈ K, k ≠ kb ∧ k ∉ ownL v ∧ k < wr.heap.size)
  only : Only [] w wr
  new : w.heap.size ≤ kb
theorem RB.keep {w : World} {kb : Nat} {K l : List Nat} {wr w' : World} (h : RB w kb K l wr) (o : Only [] wr w') : RB w kb K l w' := by
  obtain ⟨v, h1, h2, h3⟩ := h.ex
  exact ⟨⟨v, h1.keep o, h2, fun k hk => ⟨(h3 k hk).1, (h3 k hk).2.1, Nat.lt_of_lt_of_le (h3 k hk).2.2 o.size⟩⟩, h.only.trans o, h.new⟩
theorem RB.add {w : World} {kb g : Nat} {K l : List Nat} {wr w' : World} (h : RB w kb K l wr) (o : Only [] wr w') (h1 : wr.heap.size ≤ g) (h2 : g < w'.heap.size) : RB w kb (g :: K) l w' := by
  obtain ⟨v, hb, hw, hk⟩ := (h.keep o).ex
  obtain ⟨v0, hb0, hw0, hk0⟩ := h.ex
  refine ⟨⟨v0, hb0.keep o, hw0, fun k hk => ?_⟩, (h.keep o).only, h.new⟩
  rcases List.mem_cons.1 hk with e | e
  · rw [e]
    refine ⟨fun e => by have := hb0.lt; omega, fun hg => by have := hb0.sl.lt g hg; omega, h2⟩
  · exact ⟨(hk0 k e).1, (hk0 k e).2.1, Nat.lt_of_lt_of_le (hk0 k e).2.2 o.size⟩
theorem RB.less {w : World} {kb : Nat} {K K' l : List Nat} {wr : World} (h : RB w kb K l wr) (s : ∀ k ∈ K', k ∈ K) : RB w kb K' l wr := by
  obtain ⟨v, h1, h2, h3⟩ := h.ex
  exact ⟨⟨v, h1, h2, fun k hk => h3 k (s k hk)⟩, h.only, h.new⟩
/-- What a call that puts bits leaves. -/
def RBPost (w : World) (kb : Nat) (K l : List Nat) (wr : World) (e : Ending) (w' : World) : Prop := e = .returned (.tuple #[]) ∧ RB w kb K l w' ∧ ∀ k ∈ K, w'.heap[k]? = wr.heap[k]?
theorem rb_post {w : World} {kb : Nat} {K l l' : List Nat} {wr w' : World} {v v' : Value} (hw : ∀ b ∈ ownL v, w.heap.size ≤ b) (hk : ∀ k ∈ K, k ≠ kb ∧ k ∉ ownL v ∧ k < wr.heap.size) (ho : Only [] w wr) (hn : w.heap.size ≤ kb) (hb : BtAt w' kb v' l') (hp : PP wr kb v w' v') :
    RB w kb K l' w' ∧ ∀ k ∈ K, w'.heap[k]? = wr.heap[k]? := by
  refine ⟨⟨⟨v', hb, fun b hb => ?_, fun k hq => ⟨(hk k hq).1, fun hm => ?_, Nat.lt_of_lt_of_le (hk k hq).2.2 hp.only.size⟩⟩, ho.then hp.only (fun b hb => ?_), hn⟩, fun k hq => hp.only.block k (hk k hq).2.2 (fun hm => ?_)⟩
  · rcases hp.loc b hb with e | e
    · exact hw b e
    · exact Nat.le_trans ho.size e
  · rcases hp.loc k hm with e | e
    · exact (hk k hq).2.1 e
    · have := (hk k hq).2.2; omega
  · rcases List.mem_cons.1 hb with e | e
    · right; rw [e]; exact hn
    · right; exact hw b e
  · rcases List.mem_cons.1 hm with e | e
    · exact (hk k hq).1 e
    · exact (hk k hq).2.1 e
theorem putR_calls (w : World) (kb : Nat) (K l : List Nat) (n wd : Nat) (wr : World) (h : RB w kb K l wr) (hw : wd ≤ 62) (hn : n < 2 ^ 62) (hl : l.length + wd ≤ 100000) :
    Calls Try.prog 43 #[.pointer (some ⟨kb, 0, none⟩), .int .i64 ((n : Int)), .int .i64 ((wd : Int))] wr (RBPost w kb K (l ++ putB n wd) wr) := by
  obtain ⟨v, h1, h2, h3⟩ := h.ex
  refine (refPut_calls kb v l n wd wr h1 hw hn hl).mono fun e w' ⟨he, v', hb, hp⟩ => ⟨he, rb_post (l := l) h2 h3 h.only h.new hb hp⟩
theorem varR_calls (w : World) (kb : Nat) (K l : List Nat) (n : Nat) (wr : World) (h : RB w kb K l wr) (hn : n < 2 ^ 62) (hl : l.length ≤ 50000) :
    Calls Try.prog 45 #[.pointer (some ⟨kb, 0, none⟩), .int .i64 ((n : Int))] wr (RBPost w kb K (l ++ varB n) wr) := by
  obtain ⟨v, h1, h2, h3⟩ := h.ex
  refine (refVar_calls kb v l n wr h1 hn hl).mono fun e w' ⟨he, v', hb, hp⟩ => ⟨he, rb_post (l := l) h2 h3 h.only h.new hb hp⟩
theorem intR_calls (w : World) (kb : Nat) (K l : List Nat) (n : Int) (wr : World) (h : RB w kb K l wr) (hn : ¬ badInt n) (hl : l.length ≤ 50000) :
    Calls Try.prog 41 #[.pointer (some ⟨kb, 0, none⟩), .int .i64 n] wr (RBPost w kb K (l ++ varB (codeM n)) wr) := by
  obtain ⟨v, h1, h2, h3⟩ := h.ex
  refine (refInt_calls kb v l n wr h1 hn hl).mono fun e w' ⟨he, v', hb, hp⟩ => ⟨he, rb_post (l := l) h2 h3 h.only h.new hb hp⟩
/-- A bit for yes or no. -/
theorem yes_calls (w : World) (kb : Nat) (K l : List Nat) (b : Bool) (wr : World) (h : RB w kb K l wr) (hl : l.length ≤ 50000) :
    Calls Try.prog 42 #[.bool b, .pointer (some ⟨kb, 0, none⟩)] wr (RBPost w kb K (l ++ [if b then 1 else 0]) wr) := by
  have HB : Hid (RB w kb K l wr ∧ l.length ≤ 50000) := ⟨h, hl⟩
  clear h hl
  cases b with
  | true =>
    go_enter Try.func42, Try.ntmps42
    go_wp2_with fail
    refine (putR_calls w kb K l 1 1 wr HB.out.1 (by omega) (by omega) (by have := HB.out.2; omega)).mono ?_
    rintro e w1 ⟨rfl, h1, h2⟩
    go_wp2_with fail
    refine bodyPost_end (results_none rfl _ _ _) rfl ?_
    exact ⟨rfl, h1, h2⟩
  | false =>
    go_enter Try.func42, Try.ntmps42
    go_wp2_with fail
    refine (putR_calls w kb K l 0 1 wr HB.out.1 (by omega) (by omega) (by have := HB.out.2; omega)).mono ?_
    rintro e w1 ⟨rfl, h1, h2⟩
    go_wp2_with fail
    refine bodyPost_end (results_none rfl _ _ _) rfl ?_
    exact ⟨rfl, h1, h2⟩
end Go.Proofs.Ytedhdmahdioboaa
