/- broad.Tree.Pairs, told by the boxes alone; two trees beside each other: whatever they are. -/
import Derived.Test.YtdhbcgdlmkkdfaaGreatDoorBr22
namespace Go.Proofs.YtdhbcgdlmkkdfaaGreatDoor
open Go.ChangeShapes Go.WideShapes Go.ChangeAt Go.RowKit Go.Sort Go.Shelf Go.Lib
set_option linter.unusedVariables false
set_option linter.unusedSimpArgs false

def pairM (M : List (Int × Bx)) (p : Int × Bx) : List (Int × Int) := above p.1 ((M.filter (fun r => meetX r.2 p.2)).map Prod.fst)
def pairsM (M : List (Int × Bx)) : List (Int × Int) := sort2 (M.flatMap (pairM M))
theorem sort2_le (x y : Int × Int) : (!decide (cmp2 y x < 0)) = !ltOf cmp2 y x := rfl
theorem sort2_perm {P Q : List (Int × Int)} (h : P.Perm Q) : sort2 P = sort2 Q := by
  have tr : ∀ a b c : Int × Int, (!decide (cmp2 b a < 0)) = true → (!decide (cmp2 c b < 0)) = true → (!decide (cmp2 c a < 0)) = true := by
    intro a b c h1 h2
    rw [sort2_le, lt2] at *
    simp at *; omega
  have tot : ∀ a b : Int × Int, ((!decide (cmp2 b a < 0)) || (!decide (cmp2 a b < 0))) = true := by
    intro a b
    rw [sort2_le, sort2_le, lt2, lt2]
    simp; omega
  have s1 := List.pairwise_mergeSort (le := fun x y : Int × Int => !decide (cmp2 y x < 0)) tr tot P
  have s2 := List.pairwise_mergeSort (le := fun x y : Int × Int => !decide (cmp2 y x < 0)) tr tot Q
  have p : (sort2 P).Perm (sort2 Q) := (List.mergeSort_perm _ _).trans (h.trans (List.mergeSort_perm _ _).symm)
  refine p.eq_of_pairwise (fun a b _ _ h1 h2 => ?_) s1 s2
  rw [sort2_le] at h1 h2
  exact tot2 a b (by simpa using h2) (by simpa using h1)
theorem above_perm {i : Int} {ys zs : List Int} (h : ys.Perm zs) : (above i ys).Perm (above i zs) := (h.filter _).map _
theorem pairM_perm {M N : List (Int × Bx)} (h : M.Perm N) (p : Int × Bx) : (pairM M p).Perm (pairM N p) := above_perm ((h.filter _).map _)
theorem flatMap_perm {α β : Type} {f g : α → List β} (h : ∀ x, (f x).Perm (g x)) : ∀ l : List α, (l.flatMap f).Perm (l.flatMap g)
  | [] => List.Perm.refl _
  | x :: l => by simp only [List.flatMap_cons]; exact (h x).append (flatMap_perm h l)
theorem pairsM_perm {M N : List (Int × Bx)} (h : M.Perm N) : pairsM M = pairsM N :=
  sort2_perm ((h.flatMap_right _).trans (flatMap_perm (fun x => pairM_perm h x) N))
theorem pairM_boxes (L : List Lf) (x : Lf) : pairsAt L x = pairM (boxesOf L) (x.id, x.box) := by
  unfold pairsAt pairM idsOf boxesOf
  rw [List.filter_map, List.map_map]
  rfl
theorem pairs_calls (t : Nat) (fat : Int) (D : List Nat) (M : List (Int × Bx)) (w : World) (h : TreeIs w t fat D M) :
    Calls Tryz.prog 15 #[.pointer (some ⟨t, 0, none⟩)] w fun e w' => ∃ v, e = .returned v ∧ SlPairs w' v (pairsM M) ∧ Only [] w w' ∧ (∀ b ∈ ownL v, w.heap.size ≤ b) := by
  obtain ⟨T, lv, hw, hD, hM⟩ := h.ex
  cases lv with
  | none =>
    have hb := hw.book
    simp only [MapIs] at hb
    rw [hb] at hM
    obtain rfl : M = [] := List.perm_nil.1 hM
    have e0 : pairsM [] = [] := by simp [pairsM, sort2]
    rw [e0]
    exact pairs_none sorts t fat T w hw.tree
  | some m =>
    refine (pairs_some sorts t fat T m w hw (by have := hM.length_eq; have := h.small; simp only [boxesOf, List.length_map] at *; omega)).mono ?_
    rintro e w' ⟨v, dn, rfl, hp, hs, o, hn⟩
    refine ⟨v, rfl, ?_, o, hn⟩
    have e1 : sort2 (dn.flatMap (pairsAt (leavesO T))) = pairsM M := by
      rw [pairsM_perm hM]
      refine sort2_perm ?_
      refine (hp.symm.flatMap_right _).trans ?_
      have : (boxesOf (leavesO T)).flatMap (pairM (boxesOf (leavesO T))) = (leavesO T).flatMap (pairsAt (leavesO T)) := by
        show ((leavesO T).map _).flatMap _ = _
        rw [List.flatMap_map]
        exact congrArg (fun f => (leavesO T).flatMap f) (funext fun x => (pairM_boxes _ x).symm)
      rw [this]
    rw [← e1]; exact hs

/-- Which boxes there are: by number and box. -/
theorem mem_del {M : List (Int × Bx)} {i : Int} {p : Int × Bx} : p ∈ del M i ↔ p ∈ M ∧ p.1 ≠ i := by unfold del; simp
theorem mem_put {M : List (Int × Bx)} {i : Int} {q : Bx} {p : Int × Bx} : p ∈ put M i q ↔ p = (i, q) ∨ (p ∈ M ∧ p.1 ≠ i) := by unfold put; rw [List.mem_cons, mem_del]
theorem nodup_len {α : Type} : ∀ (M L : List α), M.Nodup → (∀ x ∈ M, x ∈ L) → M.length ≤ L.length
  | [], L, _, _ => by simp
  | x :: M, L, nd, h => by
    obtain ⟨s, t, rfl⟩ := List.append_of_mem (h x (by simp))
    have nd' := List.nodup_cons.1 nd
    have := nodup_len M (s ++ t) nd'.2 (fun y hy => by
      have := h y (List.mem_cons_of_mem _ hy)
      simp only [List.mem_append, List.mem_cons] at this ⊢
      rcases this with q | q | q
      · exact Or.inl q
      · exact absurd (q ▸ hy) nd'.1
      · exact Or.inr q)
    simp only [List.length_append, List.length_cons] at *
    omega
theorem nodup_of_keys {M : List (Int × Bx)} (h : (M.map Prod.fst).Nodup) : M.Nodup := List.Pairwise.of_map Prod.fst (fun a b hab e => hab (by rw [e])) h

/-- Two trees, apart from each other and from all that was there. -/
structure Two (w wr : World) (ta : Nat) (fa : Int) (tb : Nat) (fb : Int) (Ma Mb : List (Int × Bx)) : Prop where
  ex : ∃ Da Db, TreeIs wr ta fa Da Ma ∧ TreeIs wr tb fb Db Mb ∧ (∀ x ∈ Da, x ∉ Db) ∧ (∀ x ∈ Da, w.heap.size ≤ x) ∧ (∀ x ∈ Db, w.heap.size ≤ x)
  only : Only [] w wr
theorem Two.swap {w wr : World} {ta : Nat} {fa : Int} {tb : Nat} {fb : Int} {Ma Mb : List (Int × Bx)} (h : Two w wr ta fa tb fb Ma Mb) : Two w wr tb fb ta fa Mb Ma := by
  obtain ⟨Da, Db, h1, h2, h3, h4, h5⟩ := h.ex
  exact ⟨⟨Db, Da, h2, h1, fun x hx hy => h3 x hy hx, h5, h4⟩, h.only⟩
theorem Two.turn {w wr w' : World} {ta : Nat} {fa : Int} {tb : Nat} {fb : Int} {Ma Mb N : List (Int × Bx)} {Da Db D' : List Nat} (h1 : TreeIs wr ta fa Da Ma) (h2 : TreeIs wr tb fb Db Mb) (h3 : ∀ x ∈ Da, x ∉ Db) (h4 : ∀ x ∈ Da, w.heap.size ≤ x) (h5 : ∀ x ∈ Db, w.heap.size ≤ x) (o : Only [] w wr)
    (k1 : TreeIs w' ta fa D' N) (k2 : ∀ b ∈ D', b ∈ Da ∨ wr.heap.size ≤ b) (k3 : Only Da wr w') : Two w w' ta fa tb fb N Mb := by
  refine ⟨⟨D', Db, k1, h2.only k3 (fun b hb ha => h3 b ha hb), fun x hx hy => ?_, fun x hx => ?_, h5⟩, o.then k3 (fun x hx => Or.inr (h4 x hx))⟩
  · rcases k2 x hx with q | q
    · exact h3 x q hy
    · have := h2.lt x hy; omega
  · rcases k2 x hx with q | q
    · exact h4 x q
    · exact Nat.le_trans o.size q
theorem two_put {w wr : World} {ta : Nat} {fa : Int} {tb : Nat} {fb : Int} {Ma Mb : List (Int × Bx)} (h : Two w wr ta fa tb fb Ma Mb) (i : Int) (q : Bx) (hi : In64 i) :
    Calls Tryz.prog 8 #[.pointer (some ⟨ta, 0, none⟩), .int .i64 i, .agg #[.int .i64 (q.x0), .int .i64 (q.x1), .int .i64 (q.x2), .int .i64 (q.x3), .int .i64 (q.x4), .int .i64 (q.x5)]] wr fun e w' => e = .returned (errV (putC Ma i q)) ∧ Two w w' ta fa tb fb (putM Ma i q) Mb := by
  obtain ⟨Da, Db, h1, h2, h3, h4, h5⟩ := h.ex
  refine (put_calls ta fa Da Ma i q wr h1 hi).mono ?_
  rintro e w' ⟨rfl, D', k1, k2, k3⟩
  exact ⟨rfl, Two.turn h1 h2 h3 h4 h5 h.only k1 k2 k3⟩
theorem two_del {w wr : World} {ta : Nat} {fa : Int} {tb : Nat} {fb : Int} {Ma Mb : List (Int × Bx)} (h : Two w wr ta fa tb fb Ma Mb) (i : Int) (hi : In64 i) :
    Calls Tryz.prog 9 #[.pointer (some ⟨ta, 0, none⟩), .int .i64 i] wr fun e w' => e = .returned (errV (delC Ma i)) ∧ Two w w' ta fa tb fb (del Ma i) Mb := by
  obtain ⟨Da, Db, h1, h2, h3, h4, h5⟩ := h.ex
  refine (remove_calls ta fa Da Ma i wr h1 hi).mono ?_
  rintro e w' ⟨rfl, D', k1, k2, k3⟩
  exact ⟨rfl, Two.turn h1 h2 h3 h4 h5 h.only k1 k2 k3⟩
theorem two_pairs {w wr : World} {ta : Nat} {fa : Int} {tb : Nat} {fb : Int} {Ma Mb : List (Int × Bx)} (h : Two w wr ta fa tb fb Ma Mb) :
    Calls Tryz.prog 15 #[.pointer (some ⟨ta, 0, none⟩)] wr fun e w' => ∃ v, e = .returned v ∧ SlPairs w' v (pairsM Ma) ∧ Two w w' ta fa tb fb Ma Mb ∧ Only [] wr w' ∧ (∀ b ∈ ownL v, wr.heap.size ≤ b) := by
  obtain ⟨Da, Db, h1, h2, h3, h4, h5⟩ := h.ex
  refine (pairs_calls ta fa Da Ma wr h1).mono ?_
  rintro e w' ⟨v, rfl, hs, o, hn⟩
  exact ⟨v, rfl, hs, ⟨⟨Da, Db, h1.only o (by simp), h2.only o (by simp), h3, h4, h5⟩, h.only.trans o⟩, o, hn⟩
theorem two_keys {w wr : World} {ta : Nat} {fa : Int} {tb : Nat} {fb : Int} {Ma Mb : List (Int × Bx)} (h : Two w wr ta fa tb fb Ma Mb) : Ma.Nodup ∧ (Ma.map Prod.fst).Nodup := by
  obtain ⟨Da, Db, h1, h2, h3, h4, h5⟩ := h.ex
  exact ⟨nodup_of_keys h1.keys, h1.keys⟩
end Go.Proofs.YtdhbcgdlmkkdfaaGreatDoor
