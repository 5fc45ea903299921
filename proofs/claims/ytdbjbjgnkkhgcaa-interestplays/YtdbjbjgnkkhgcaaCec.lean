/- Which spots an eye sees, cell by cell: plain facts. -/
import Derived.Test.YtdbjbjgnkkhgcaaCeb
import Derived.Test.YtdbjbjgnkkhgcaaSrt
import Derived.Test.YtdbjbjgnkkhgcaaGeo5
namespace Go.Proofs.Ytdbjbjgnkkhgcaa
open Go.ChangeShapes Go.WideShapes Go.ChangeAt Go.RowKit
set_option linter.unusedVariables false
set_option linter.unusedSimpArgs false
set_option linter.unusedSectionVars false
variable [DecidableEq Cel]

def teamB (a b : Int) : Bool := IntKind.i64.wrap ((BitVec.ofInt 64 a &&& BitVec.ofInt 64 b).toNat : Int) != 0
def seenB (q : Bx) (tm : Int) (s : Spt) : Bool := teamB s.tm tm && meetB s.bx.x0 s.bx.x1 s.bx.x2 s.bx.x3 s.bx.x4 s.bx.x5 q.x0 q.x1 q.x2 q.x3 q.x4 q.x5
def spotsAt (L : List CE) (c : Cel) : List Spt := ((L.find? fun e => e.c == c).map CE.l).getD []
def idsAt (L : List CE) (q : Bx) (tm : Int) (c : Cel) : List Int := ((spotsAt L c).filter (seenB q tm)).map Spt.id
def idsP (L : List CE) (q : Bx) (tm : Int) (pre : List Cel) : List Int := pre.flatMap (idsAt L q tm)
def seenG (G : List (Cel × Spt)) (q : Bx) (tm : Int) : List Int := (G.filter fun p => seenB q tm p.2).map fun p => p.2.id
theorem idsP_snoc (L : List CE) (q : Bx) (tm : Int) (pre : List Cel) (c : Cel) : idsP L q tm (pre ++ [c]) = idsP L q tm pre ++ idsAt L q tm c := by simp [idsP]
theorem idsAt_take (L : List CE) (q : Bx) (tm : Int) (c : Cel) : idsAt L q tm c = (((spotsAt L c).take (spotsAt L c).length).filter (seenB q tm)).map Spt.id := by rw [List.take_length]; rfl
theorem filter_two {β : Type} (l : List β) (p q : β → Bool) (h : ∀ x ∈ l, p x = true → q x = false) : (l.filter fun x => p x || q x).Perm (l.filter p ++ l.filter q) := by
  induction l with
  | nil => simp
  | cons x l ih =>
    have ih' := ih (fun y hy => h y (by simp [hy]))
    rw [List.filter_cons, List.filter_cons, List.filter_cons]
    cases hp : p x
    · cases hq : q x
      · simpa using ih'
      · simp only [Bool.or_true, if_true, Bool.false_eq_true, if_false]
        exact (ih'.cons x).trans List.perm_middle.symm
    · rw [h x (by simp) hp]
      simpa using ih'.cons x
theorem spotsAt_flat (L : List CE) (hn : (L.map CE.c).Nodup) (q : Bx) (tm : Int) (c : Cel) : ((flatC L).filter fun p => p.1 == c && seenB q tm p.2).map (fun p => p.2.id) = idsAt L q tm c := by
  induction L with
  | nil => rfl
  | cons e L ih =>
    simp only [List.map_cons, List.nodup_cons] at hn
    have ih' := ih hn.2
    have hfl : flatC (e :: L) = (e.l.map fun s => (e.c, s)) ++ flatC L := by simp [flatC]
    rw [hfl, List.filter_append, List.map_append, ih', List.filter_map, List.map_map]
    unfold idsAt spotsAt
    rw [List.find?_cons]
    by_cases hc : e.c = c
    · have hb : (e.c == c) = true := by simpa using hc
      have h0 : (L.find? fun e => e.c == c) = none := by
        rw [List.find?_eq_none]
        intro e' he' hq
        exact hn.1 (by rw [hc]; have : e'.c = c := by simpa using hq
                       rw [← this]; exact List.mem_map_of_mem he')
      simp only [hb, h0, Option.map_none, Option.getD_none, List.filter_nil, List.map_nil, List.append_nil, Option.map_some, Option.getD_some]
      congr 1
      apply List.filter_congr
      intro s _
      simp [hb]
    · have hb : (e.c == c) = false := by simpa using hc
      simp only [hb]
      have : (e.l.filter ((fun p : Cel × Spt => p.1 == c && seenB q tm p.2) ∘ fun s => (e.c, s))) = [] := by
        rw [List.filter_eq_nil_iff]
        intro s _
        simp [hb]
      rw [this]; rfl
theorem idsP_perm (L : List CE) (hn : (L.map CE.c).Nodup) (q : Bx) (tm : Int) (xs : List Cel) (hx : xs.Nodup) : (idsP L q tm xs).Perm (((flatC L).filter fun p => decide (p.1 ∈ xs) && seenB q tm p.2).map fun p => p.2.id) := by
  induction xs with
  | nil => simp [idsP]
  | cons c xs ih =>
    simp only [List.nodup_cons] at hx
    have h1 : idsP L q tm (c :: xs) = idsAt L q tm c ++ idsP L q tm xs := by simp [idsP]
    rw [h1, ← spotsAt_flat L hn q tm c]
    refine ((List.Perm.refl _).append (ih hx.2)).trans ?_
    rw [← List.map_append]
    refine List.Perm.map _ ?_
    refine (filter_two (flatC L) (fun p => p.1 == c && seenB q tm p.2) (fun p => decide (p.1 ∈ xs) && seenB q tm p.2) (fun p _ h => ?_)).symm.trans (List.Perm.of_eq ?_)
    · simp only [Bool.and_eq_true, beq_iff_eq] at h
      rw [h.1]; simp [hx.1]
    · apply List.filter_congr
      intro p _
      simp only [List.mem_cons, Bool.decide_or, Bool.and_or_distrib_right]
      rfl
theorem seen_perm {L : List CE} (hn : (L.map CE.c).Nodup) (hh : ∀ p ∈ flatC L, Home p.1 p.2) (q : Bx) (tm : Int) {xs : List Cel} (hx : xs.Nodup) (hc : ∀ c ∈ (flatC L).map Prod.fst, btw (loC q) c (hiC q) = true → c ∈ xs) : (idsP L q tm xs).Perm (seenG (flatC L) q tm) := by
  refine (idsP_perm L hn q tm xs hx).trans (List.Perm.of_eq ?_)
  unfold seenG
  congr 1
  apply List.filter_congr
  intro p hp
  cases hs : seenB q tm p.2
  · simp
  · simp only [Bool.and_true, decide_eq_true_eq]
    refine hc p.1 (List.mem_map_of_mem hp) ((hh p hp).lies ?_)
    simp only [seenB, meetB, Bool.and_eq_true, decide_eq_true_eq] at hs
    have := hs.2
    refine ⟨⟨this.1.1.1, this.1.1.2⟩, ⟨this.1.2.1, this.1.2.2⟩, ⟨this.2.1, this.2.2⟩⟩
theorem seenG_perm {G H : List (Cel × Spt)} (p : G.Perm H) (q : Bx) (tm : Int) : (seenG G q tm).Perm (seenG H q tm) := (p.filter _).map _
theorem sortZ_eq {xs ys : List Int} (p : xs.Perm ys) : sortZ xs = sortZ ys := by
  refine List.Perm.eq_of_pairwise (le := fun a b => a ≤ b) (fun a b _ _ h1 h2 => by omega) (sortZ_le xs) (sortZ_le ys) ((sortZ_perm xs).trans (p.trans (sortZ_perm ys).symm))
theorem GridIs.keys {w : World} {x mc mh : Nat} {L : List CE} (h : GridIs w x mc mh L) : (L.map CE.c).Nodup := by
  have := h.cells.nodup
  simp only [cellsC, List.map_map] at this
  exact this
/-- What looking a cell up gives. -/
theorem lookC (L : List CE) (c : Cel) (hfew : (flatC L).length ≤ 1000) :
    ∃ a cap, (∀ w x mc mh, GridIs w x mc mh L → (Instr.lookup 46 (.map (some mc)) (celV c) false).run Try.prog w = .ok (.slice a (spotsAt L c).length cap) w) ∧ (spotsAt L c ≠ [] → ∃ g, a = some ⟨g, 0, none⟩ ∧ ∀ w x mc mh, GridIs w x mc mh L → RowS w g cap (spotsAt L c)) ∧ (spotsAt L c).length ≤ 1000 := by
  unfold spotsAt
  cases hf : L.find? fun e => e.c == c with
  | none =>
    refine ⟨none, 0, fun w x mc mh h => ?_, by simp, by simp⟩
    refine h.cells.at_none ?_
    intro hm
    simp only [cellsC, List.map_map] at hm
    obtain ⟨e, he, hc⟩ := List.mem_map.1 hm
    have := List.find?_eq_none.1 hf e he
    simp only [Function.comp] at hc
    simp [hc] at this
  | some e =>
    have he := List.mem_of_find?_eq_some hf
    have hc : e.c = c := by simpa using List.find?_some hf
    refine ⟨some ⟨e.g, 0, none⟩, e.cap, fun w x mc mh h => ?_, fun _ => ⟨e.g, rfl, fun w x mc mh h => h.rows e he⟩, ?_⟩
    · have := h.cells.at_some (x := (e.c, e.val)) (List.mem_map_of_mem he)
      rw [← hc]
      exact this
    · obtain ⟨L1, L2, rfl⟩ := List.append_of_mem he
      simp only [flatC, List.flatMap_append, List.flatMap_cons, List.length_append, List.length_map] at hfew
      simp only [Option.map_some, Option.getD_some]
      omega
theorem idsP_len (L : List CE) (hfew : (flatC L).length ≤ 1000) (q : Bx) (tm : Int) (pre : List Cel) : (idsP L q tm pre).length ≤ pre.length * 1000 := by
  induction pre with
  | nil => simp [idsP]
  | cons c pre ih =>
    have h1 : idsP L q tm (c :: pre) = idsAt L q tm c ++ idsP L q tm pre := by simp [idsP]
    obtain ⟨_, _, _, _, h2⟩ := lookC L c hfew
    have h3 : (idsAt L q tm c).length ≤ (spotsAt L c).length := by
      unfold idsAt; rw [List.length_map]; exact List.length_filter_le _ _
    rw [h1, List.length_append, List.length_cons]
    omega
theorem take_seen {l : List Spt} {i : Nat} {s : Spt} (h : l[i]? = some s) (f : Spt → Bool) : ((l.take (i + 1)).filter f).map Spt.id = ((l.take i).filter f).map Spt.id ++ (if f s then [s.id] else []) := by
  rw [List.take_add_one, h, List.filter_append, List.map_append]
  congr 1
  cases hf : f s <;> simp [hf]
end Go.Proofs.Ytdbjbjgnkkhgcaa
