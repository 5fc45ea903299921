/- Bytes in slices that are cut; wire.Cut: whichever step, base and bytes. -/
import Derived.Test.YtbiaajncngldlaaDoorWi5
import Derived.Test.YtbiaajncngldlaaDoorStr2
import Derived.Deep.MidRow
import Derived.Laws.MakeOwn
namespace Go.Proofs.YtbiaajncngldlaaDoor
open Go.ChangeShapes Go.WideShapes Go.ChangeAt Go.RowKit
set_option linter.unusedVariables false
set_option linter.unusedSimpArgs false

theorem only_setCells {D : List Nat} {b : Nat} (hb : b ∈ D) : ∀ (vs : List Value) (o : Nat) (a w : World), Only D a w → Only D a (w.setCells b o vs)
  | [], o, a, w, h => h
  | v :: vs, o, a, w, h => by
    rw [World.setCells]
    exact only_setCells hb vs (o + 1) a _ (h.setCell (p := ⟨b, o, none⟩) (Or.inl hb) v)
/-- A slice that holds these bytes. -/
def SB (w : World) (v : Value) (L : List Nat) : Prop := ∃ a c, v = .slice a L.length c ∧ L.length ≤ c ∧ ByAt w a L ∧ (a = none → L = [] ∧ c = 0)
/-- .. in a block other than g. -/
def SBn (w : World) (v : Value) (L : List Nat) (g : Nat) : Prop := ∃ a c, v = .slice a L.length c ∧ L.length ≤ c ∧ ByAt w a L ∧ (a = none → L = [] ∧ c = 0) ∧ ∀ b o, a = some ⟨b, o, none⟩ → L ≠ [] → b ≠ g
theorem SB.only {w w' : World} {v : Value} {L : List Nat} (h : SB w v L) (o : Only [] w w') : SB w' v L := by
  obtain ⟨a, c, e, h1, h2, h3⟩ := h
  exact ⟨a, c, e, h1, h2.only o (by simp), h3⟩
theorem SBn.only {w w' : World} {v : Value} {L : List Nat} {g : Nat} (h : SBn w v L g) (o : Only [g] w w') : SBn w' v L g := by
  obtain ⟨a, c, e, h1, h2, h3, h4⟩ := h
  exact ⟨a, c, e, h1, h2.only o (fun b p e hL => by simpa using h4 b p e hL), h3, h4⟩
theorem SBn.keep {w w' : World} {v : Value} {L : List Nat} {g : Nat} (h : SBn w v L g) (o : Only [] w w') : SBn w' v L g := h.only (o.mono (by simp))
theorem SBn.sb {w : World} {v : Value} {L : List Nat} {g : Nat} (h : SBn w v L g) : SB w v L := by
  obtain ⟨a, c, e, h1, h2, h3, _⟩ := h
  exact ⟨a, c, e, h1, h2, h3⟩
theorem SB.reads {w : World} {v : Value} {L : List Nat} (h : SB w v L) : ReadsAs w v L := by
  obtain ⟨a, c, rfl, _, h2, h3⟩ := h
  exact arg_reads h2 h3
theorem byAt_lt {w : World} {a : Option Addr} {L : List Nat} (h : ByAt w a L) {g o : Nat} (e : a = some ⟨g, o, none⟩) (hL : L ≠ []) : g < w.heap.size := by
  obtain ⟨g', o', e', hc⟩ := h 0 (by cases L with | nil => exact absurd rfl hL | cons x t => simp)
  rw [e] at e'; injection e' with e'; injection e' with e1 _ _
  rw [e1]; exact World.block_lt_of_cell? w _ hc
theorem ByAt.take {w : World} {a : Option Addr} {L : List Nat} (h : ByAt w a L) (k : Nat) : ByAt w a (L.take k) := fun j hj => by
  rw [List.length_take] at hj
  obtain ⟨g, o, e, hc⟩ := h j (by omega)
  refine ⟨g, o, e, ?_⟩
  rw [hc, List.getD_eq_getElem?_getD, List.getD_eq_getElem?_getD, List.getElem?_take, if_pos (by omega)]
def fromA (a : Option Addr) (c k : Nat) : Option Addr := if c = k then a else a.map (·.add k)
theorem ByAt.drop {w : World} {a : Option Addr} {L : List Nat} (h : ByAt w a L) {c k : Nat} (hc : L.length ≤ c) : ByAt w (fromA a c k) (L.drop k) := fun j hj => by
  rw [List.length_drop] at hj
  obtain ⟨g, o, rfl, hcell⟩ := h (k + j) (by omega)
  refine ⟨g, o + k, ?_, ?_⟩
  · unfold fromA
    rw [if_neg (by omega), Option.map_some, Addr.add_mid]
  · rw [List.getD_eq_getElem?_getD, List.getElem?_drop, ← List.getD_eq_getElem?_getD, ← hcell, Nat.add_assoc]
theorem add_zero' (a : Addr) : a.add 0 = a := by unfold Addr.add; simp
theorem run_to {ρ : Operand → Value} {o : Oper} {x y : Operand} {a : Option Addr} {n c k : Nat} {w : World} (ho : o.op = .slice 26 x none (some y) none) (hx : ρ x = .slice a n c) (hy : ρ y = .int .i64 (k : Int)) (hk : k ≤ c) :
    (execOp ρ o).run Tryd.prog w = .ok (.value (.slice a k c)) w := by
  have hk' : (k : Int) ≤ (c : Int) := by omega
  have e : (if c = 0 then a else a.map (·.add (0 * 1))) = a := by
    split
    · rfl
    · cases a <;> simp [add_zero']
  unfold execOp
  rw [ho]
  simp only [hx, hy]
  go_simp
  try simp [add_zero']
  try (cases a <;> simp [add_zero'])
theorem run_from {ρ : Operand → Value} {o : Oper} {x y : Operand} {a : Option Addr} {n c k : Nat} {w : World} (ho : o.op = .slice 26 x (some y) none none) (hx : ρ x = .slice a n c) (hy : ρ y = .int .i64 (k : Int)) (hk : k ≤ n) :
    (execOp ρ o).run Tryd.prog w = .ok (.value (.slice (fromA a c k) (n - k) (c - k))) w := by
  have hk' : (k : Int) ≤ (n : Int) := by omega
  unfold execOp
  rw [ho]
  simp only [hx, hy]
  go_simp
  try rfl
theorem wpList_to {ops : Array Oper} {rest : List Oper} {o : Oper} {ac : Act} {w : World} {Q : Exit → Act → World → Prop} (hg : o.guard = none) (x y : Operand) (a : Option Addr) (n c k : Nat) (ho : o.op = .slice 26 x none (some y) none) (hx : ac.eval x = .slice a n c) (hy : ac.eval y = .int .i64 (k : Int)) (hk : k ≤ c)
    (h : wpList Tryd.prog ops Q rest (ac.put o.dst (.slice a k c)) w) : wpList Tryd.prog ops Q (o :: rest) ac w := by
  refine wpList_plain hg fun K hK => ?_
  unfold Oper.wp
  rw [run_to ho hx hy hk, Oper.upon_value]
  exact hK _ _ h
theorem wpList_from {ops : Array Oper} {rest : List Oper} {o : Oper} {ac : Act} {w : World} {Q : Exit → Act → World → Prop} (hg : o.guard = none) (x y : Operand) (a : Option Addr) (n c k : Nat) (ho : o.op = .slice 26 x (some y) none none) (hx : ac.eval x = .slice a n c) (hy : ac.eval y = .int .i64 (k : Int)) (hk : k ≤ n)
    (h : wpList Tryd.prog ops Q rest (ac.put o.dst (.slice (fromA a c k) (n - k) (c - k))) w) : wpList Tryd.prog ops Q (o :: rest) ac w := by
  refine wpList_plain hg fun K hK => ?_
  unfold Oper.wp
  rw [run_from ho hx hy hk, Oper.upon_value]
  exact hK _ _ h
/-- bytes.Clone of whatever slice. -/
theorem cloneS_calls (a : Option Addr) (c : Nat) (L : List Nat) (w : World) (hl : L.length ≤ 100000) (h : ByAt w a L) (hn : a = none → L = [] ∧ c = 0) :
    Calls Tryd.prog 47 #[.slice a L.length c] w fun e w' => ∃ v, e = .returned v ∧ (∀ g, g < w.heap.size → SBn w' v L g) ∧ Only [] w w' := by
  cases a with
  | none =>
    obtain ⟨rfl, rfl⟩ := hn rfl
    refine (clone_nil w).mono ?_
    rintro e w' ⟨rfl, rfl⟩
    exact ⟨_, rfl, fun g _ => ⟨none, 0, rfl, Nat.le_refl _, fun j hj => by simp at hj, fun _ => ⟨rfl, rfl⟩, by simp⟩, Only.refl _ _⟩
  | some ad =>
    have hh : ∀ j, j < L.length → w.cell? (ad.add j) = some (.int .u8 ((L.getD j 0 : Nat) : Int)) := fun j hj => by
      obtain ⟨g, o, e, hc⟩ := h j hj
      injection e with e
      subst e
      rw [Addr.add_mid]; exact hc
    refine (cloneA_calls ad c L w hl hh).mono ?_
    rintro e w' ⟨v, rfl, ⟨g, cc, rfl, h2, h3, h4, h5⟩, o1⟩
    exact ⟨_, rfl, fun g' hg' => ⟨_, _, rfl, h5, h4, fun e => (by cases e), fun b o e _ => by injection e with e; injection e with e1 _ _; omega⟩, o1⟩
def chunk (L : List Nat) (j : Nat) : List Nat := (L.drop (100 * j)).take 100
def manyM (L : List Nat) : Nat := max 1 ((L.length + 99) / 100)
/-- Pieces, as far as they are cut. -/
def PcsAt (w : World) (gl M : Nat) (st ba : Int) (L : List Nat) (i : Nat) : Prop :=
  w.there gl 0 (5 * M) ∧ ∀ j, j < i → ∃ v, w.rangeAt gl (j * 5) [.int .i64 st, .int .i64 ba, .int .i64 ((j : Int)), .int .i64 ((M : Int)), v] ∧ SBn w v (chunk L j) gl
theorem PcsAt.lt {w : World} {gl M : Nat} {st ba : Int} {L : List Nat} {i : Nat} (h : PcsAt w gl M st ba L i) (hM : 0 < M) : gl < w.heap.size := by
  obtain ⟨u, hu⟩ := Option.isSome_iff_exists.1 (h.1 0 (by omega)).1
  exact World.block_lt_of_cell? w _ hu
theorem PcsAt.keep {w w' : World} {gl M : Nat} {st ba : Int} {L : List Nat} {i : Nat} (h : PcsAt w gl M st ba L i) (o : Only [] w w') : PcsAt w' gl M st ba L i := by
  refine ⟨fun j hj => ?_, fun j hj => ?_⟩
  · obtain ⟨h1, h2⟩ := h.1 j hj
    obtain ⟨u, hu⟩ := Option.isSome_iff_exists.1 h1
    refine ⟨by rw [o.cell hu (by simp)]; rfl, ?_⟩
    have hb := o.block gl (World.block_lt_of_cell? w _ hu) (by simp)
    rw [← h2]; simp only [World.frozen?, hb]
  · obtain ⟨v, hr, hs⟩ := h.2 j hj
    exact ⟨v, fun k u hk => o.cell (hr k u hk) (by simp), hs.keep o⟩
theorem PcsAt.put {w : World} {gl M : Nat} {st ba : Int} {L : List Nat} {i : Nat} {v : Value} (h : PcsAt w gl M st ba L i) (hi : i < M) (hv : SBn w v (chunk L i) gl) : PcsAt (w.setCells gl (i * 5) [.int .i64 st, .int .i64 ba, .int .i64 ((i : Int)), .int .i64 ((M : Int)), v]) gl M st ba L (i + 1) := by
  have o : Only [gl] w (w.setCells gl (i * 5) [.int .i64 st, .int .i64 ba, .int .i64 ((i : Int)), .int .i64 ((M : Int)), v]) := only_setCells (by simp) _ _ _ _ (Only.refl _ _)
  have ht : w.there gl (i * 5) 5 := fun j hj => by have := h.1 (i * 5 + j) (by omega); rw [Nat.zero_add] at this; exact this
  refine ⟨World.there_setCells h.1 _ _ _, fun j hj => ?_⟩
  by_cases e : j = i
  · subst e
    exact ⟨v, World.rangeAt_setCells_same w gl (j * 5) _ ht, hv.only o⟩
  · obtain ⟨u, hr, hs⟩ := h.2 j (by omega)
    exact ⟨u, World.rangeAt_setCells_apart hr _ _ _ (Or.inr (Or.inl (by simp; omega))), hs.only o⟩
def CutPost (st ba : Int) (L : List Nat) (w : World) (e : Ending) (w' : World) : Prop :=
  Only [] w w' ∧ ((followM st ba = false ∧ e = .returned (.tuple #[.slice none 0 0, errV 2])) ∨ (followM st ba = true ∧ 4000 < L.length ∧ e = .returned (.tuple #[.slice none 0 0, errV 4])) ∨
    (followM st ba = true ∧ L.length ≤ 4000 ∧ ∃ gl, e = .returned (.tuple #[.slice (some ⟨gl, 0, none⟩) (manyM L) (manyM L), .nilIface]) ∧ w.heap.size ≤ gl ∧ PcsAt w' gl (manyM L) st ba L (manyM L)))
theorem pieceInfo : (Tryd.prog.info? 39).map (fun i => (i.zero, i.size, i.bytes)) = some (some (.agg #[.int .i64 0, .int .i64 0, .int .i64 0, .int .i64 0, .slice none 0 0]), 5, 56) := by kernel_rfl
end Go.Proofs.YtbiaajncngldlaaDoor
