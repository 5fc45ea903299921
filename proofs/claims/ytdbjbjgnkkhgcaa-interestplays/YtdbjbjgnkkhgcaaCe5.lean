/- A grid of package interest in memory: its cells, their rows of spots, its homes: plain facts. -/
import Derived.Test.YtdbjbjgnkkhgcaaCe2
import Derived.Test.YtdbjbjgnkkhgcaaCl2
namespace Go.Proofs.Ytdbjbjgnkkhgcaa
open Go.ChangeShapes Go.WideShapes Go.ChangeAt Go.RowKit
set_option linter.unusedVariables false
set_option linter.unusedSimpArgs false
set_option linter.unusedSectionVars false
variable [DecidableEq Cel]

/-- A cell: its row's block, how much room that has, its spots. -/
structure CE where
  c : Cel
  g : Nat
  cap : Nat
  l : List Spt
def CE.val (e : CE) : Value := .slice (some ⟨e.g, 0, none⟩) e.l.length e.cap
def flatC (L : List CE) : List (Cel × Spt) := L.flatMap fun e => e.l.map fun s => (e.c, s)
def homesC (F : List (Cel × Spt)) : List (Int × Value) := F.map fun p => (p.2.id, celV p.1)
def cellsC (L : List CE) : List (Cel × Value) := L.map fun e => (e.c, e.val)
structure GridIs (w : World) (x mc mh : Nat) (L : List CE) : Prop where
  at_ : w.heap[x]? = some (.cells #[.map (some mc), .map (some mh)] 49)
  cells : MapC w mc (cellsC L)
  homes : MapV w (some mh) (homesC (flatC L))
  rows : ∀ e ∈ L, RowS w e.g e.cap e.l
  full : ∀ e ∈ L, e.l ≠ []
  nd : (x :: mc :: mh :: L.map CE.g).Nodup
  i64 : ∀ p ∈ flatC L, In64V p.2.id
  few : (flatC L).length ≤ 1000
  home : ∀ p ∈ flatC L, Home p.1 p.2
theorem flatC_perm {L M : List CE} (p : L.Perm M) : (flatC L).Perm (flatC M) := p.flatMap_right _
theorem GridIs.perm {w : World} {x mc mh : Nat} {L M : List CE} (h : GridIs w x mc mh L) (p : L.Perm M) : GridIs w x mc mh M :=
  ⟨h.at_, h.cells.perm (p.map _), h.homes.perm ((flatC_perm p).map _), fun e he => h.rows e (p.mem_iff.2 he), fun e he => h.full e (p.mem_iff.2 he),
    (((p.map CE.g).cons _).cons _ |>.cons _).nodup h.nd, fun q hq => h.i64 q ((flatC_perm p).mem_iff.2 hq), by rw [← (flatC_perm p).length_eq]; exact h.few, fun q hq => h.home q ((flatC_perm p).mem_iff.2 hq)⟩
theorem GridIs.ids {w : World} {x mc mh : Nat} {L : List CE} (h : GridIs w x mc mh L) : ((flatC L).map fun p => p.2.id).Nodup := by
  have := h.homes.nodup
  simp only [homesC, List.map_map] at this
  exact this
/-- What may turn: its own blocks. -/
def gridD (x mc mh : Nat) (L : List CE) : List Nat := x :: mc :: mh :: L.map CE.g
theorem GridIs.lt {w : World} {x mc mh : Nat} {L : List CE} (h : GridIs w x mc mh L) : ∀ b ∈ gridD x mc mh L, b < w.heap.size := by
  intro b hb
  simp only [gridD, List.mem_cons, List.mem_map] at hb
  rcases hb with rfl | rfl | rfl | ⟨e, he, rfl⟩
  · exact (Array.getElem?_eq_some_iff.1 h.at_).1
  · exact h.cells.lt
  · exact h.homes.lt
  · exact (h.rows e he).lt
theorem GridIs.only {D : List Nat} {w w' : World} {x mc mh : Nat} {L : List CE} (h : GridIs w x mc mh L) (o : Only D w w') (s : ∀ b ∈ gridD x mc mh L, b ∉ D) : GridIs w' x mc mh L := by
  have hx : x ∉ D := s x (by simp [gridD])
  have h1 : mc ∉ D := s mc (by simp [gridD])
  have h2 : mh ∉ D := s mh (by simp [gridD])
  refine ⟨(o.block x (Array.getElem?_eq_some_iff.1 h.at_).1 hx).trans h.at_, h.cells.only o h1, MapV.only o (by simpa using h2) h.homes, fun e he => (h.rows e he).only o (s e.g ?_), h.full, h.nd, h.i64, h.few, h.home⟩
  simp only [gridD, List.mem_cons, List.mem_map]
  exact Or.inr (Or.inr (Or.inr ⟨e, he, rfl⟩))
/-- A grid with just these spots. -/
def GridOf (w : World) (x : Nat) (D : List Nat) (G : List (Cel × Spt)) : Prop := ∃ mc mh L, GridIs w x mc mh L ∧ D = gridD x mc mh L ∧ (flatC L).Perm G
theorem GridOf.only {E D : List Nat} {w w' : World} {x : Nat} {G : List (Cel × Spt)} (h : GridOf w x D G) (o : Only E w w') (s : ∀ b ∈ D, b ∉ E) : GridOf w' x D G := by
  obtain ⟨mc, mh, L, h1, rfl, h2⟩ := h
  exact ⟨mc, mh, L, h1.only o s, rfl, h2⟩
theorem GridOf.lt {D : List Nat} {w : World} {x : Nat} {G : List (Cel × Spt)} (h : GridOf w x D G) : ∀ b ∈ D, b < w.heap.size := by
  obtain ⟨mc, mh, L, h1, rfl, h2⟩ := h
  exact h1.lt
theorem GridOf.perm {D : List Nat} {w : World} {x : Nat} {G G' : List (Cel × Spt)} (h : GridOf w x D G) (p : G.Perm G') : GridOf w x D G' := by
  obtain ⟨mc, mh, L, h1, h2, h3⟩ := h
  exact ⟨mc, mh, L, h1, h2, h3.trans p⟩
/-- The spot with a number, and where it lies. -/
theorem spot_at {L : List CE} {i : Int} (h : i ∈ (flatC L).map fun p => p.2.id) : ∃ c g cap A s B M, L.Perm (⟨c, g, cap, A ++ s :: B⟩ :: M) ∧ s.id = i := by
  obtain ⟨p, hp, rfl⟩ := List.mem_map.1 h
  simp only [flatC, List.mem_flatMap, List.mem_map] at hp
  obtain ⟨e, he, s, hs, rfl⟩ := hp
  obtain ⟨A, B, hl⟩ := List.append_of_mem hs
  obtain ⟨L1, L2, rfl⟩ := List.append_of_mem he
  refine ⟨e.c, e.g, e.cap, A, s, B, L1 ++ L2, ?_, rfl⟩
  have : e = ⟨e.c, e.g, e.cap, A ++ s :: B⟩ := by cases e; simp only at hl ⊢; rw [hl]
  rw [← this]
  exact List.perm_middle
theorem flatC_cons (c : Cel) (g cap : Nat) (l : List Spt) (M : List CE) : flatC (⟨c, g, cap, l⟩ :: M) = (l.map fun s => (c, s)) ++ flatC M := by simp [flatC]
theorem flatC_out (c : Cel) (g cap : Nat) (A B : List Spt) (s : Spt) (M : List CE) : (flatC (⟨c, g, cap, A ++ s :: B⟩ :: M)).Perm ((c, s) :: flatC (⟨c, g, cap, A ++ B⟩ :: M)) := by
  rw [flatC_cons, flatC_cons]
  simp only [List.map_append, List.map_cons, List.append_assoc, List.cons_append]
  exact List.perm_middle
theorem filter_out {F G : List (Cel × Spt)} {c : Cel} {s : Spt} (h : F.Perm ((c, s) :: G)) (hn : (F.map fun p => p.2.id).Nodup) : (F.filter fun p => p.2.id != s.id).Perm G := by
  have h1 := h.filter (fun p => p.2.id != s.id)
  have hn2 := (h.map fun p => p.2.id).nodup hn
  simp only [List.map_cons, List.nodup_cons] at hn2
  have e : ((c, s) :: G).filter (fun p => p.2.id != s.id) = G := by
    rw [List.filter_cons]
    simp only [bne_self_eq_false, Bool.false_eq_true, if_false]
    exact List.filter_eq_self.2 fun p hp => by
      have : p.2.id ≠ s.id := fun q => hn2.1 (by rw [← q]; exact List.mem_map_of_mem hp)
      simpa using this
  rw [e] at h1
  exact h1
theorem filter_none {F : List (Cel × Spt)} {i : Int} (h : i ∉ F.map fun p => p.2.id) : F.filter (fun p => p.2.id != i) = F :=
  List.filter_eq_self.2 fun p hp => by
    have : p.2.id ≠ i := fun q => h (by rw [← q]; exact List.mem_map_of_mem hp)
    simpa using this
theorem flatC_len {M : List CE} (hf : ∀ e ∈ M, e.l ≠ []) : M.length ≤ (flatC M).length := by
  induction M with
  | nil => simp
  | cons e M ih =>
    have h3 := ih (fun e he => hf e (by simp [he]))
    have h4 : 0 < e.l.length := List.length_pos_iff.2 (hf e (by simp))
    simp only [flatC, List.flatMap_cons, List.length_append, List.length_map, List.length_cons] at h3 ⊢
    omega
theorem zeroCel (u : World) : (zeroValue 54).run Try.prog u = .ok (.agg #[.int .i64 0, .int .i64 0, .int .i64 0]) u := by kernel_rfl
end Go.Proofs.Ytdbjbjgnkkhgcaa
