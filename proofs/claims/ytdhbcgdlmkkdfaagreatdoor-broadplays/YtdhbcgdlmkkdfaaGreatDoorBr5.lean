/- broad.Tree.level over whole trees: what hangs below a joint stays, in one order or another: whatever lies around it. -/
import Derived.Test.YtdhbcgdlmkkdfaaGreatDoorBr4
namespace Go.Proofs.YtdhbcgdlmkkdfaaGreatDoor
open Go.ChangeShapes Go.WideShapes Go.ChangeAt Go.RowKit
set_option linter.unusedSimpArgs false
set_option linter.unusedVariables false

theorem nd_node (b : Nat) (l r : Tr) (u : Option Nat) : (Tr.node b l r).nd u = ⟨0, bx0, bothX l.room r.room, 1 + greater l.high r.high, u, some l.root, some r.root⟩ := rfl
theorem room_node (b : Nat) (l r : Tr) : (Tr.node b l r).room = bothX l.room r.room := rfl
theorem high_node (b : Nat) (l r : Tr) : (Tr.node b l r).high = 1 + greater l.high r.high := rfl
theorem root_node (b : Nat) (l r : Tr) : (Tr.node b l r).root = b := rfl
def rot (n : Nat) (s : Tr) : Tr → Tr
  | ⟨tb, .inr (kl, kr)⟩ => if kl.high < kr.high then .node tb (.node n s kl) kr else .node tb (.node n s kr) kl
  | T => T
def levelT (n : Nat) (l r : Tr) : Tr :=
  if l.high < r.high then (if r.high ≤ l.high + 1 then .node n l r else rot n l r) else (if l.high ≤ r.high + 1 then .node n l r else rot n r l)

theorem nodup_parts {n tb t : Nat} {k g s c : List Nat} (nd : (n :: tb :: (k ++ (g ++ (s ++ (t :: c))))).Nodup) :
    n ≠ tb ∧ (∀ x ∈ k, x ≠ n ∧ x ≠ tb ∧ (∀ y ∈ g, x ≠ y) ∧ (∀ y ∈ s, x ≠ y) ∧ (∀ y ∈ t :: c, x ≠ y)) ∧ (∀ x ∈ g, x ≠ n ∧ x ≠ tb ∧ (∀ y ∈ s, x ≠ y) ∧ (∀ y ∈ t :: c, x ≠ y)) ∧ (∀ x ∈ s, x ≠ n ∧ x ≠ tb ∧ (∀ y ∈ t :: c, x ≠ y)) ∧ (∀ y ∈ t :: c, n ≠ y ∧ tb ≠ y) ∧ k.Nodup ∧ g.Nodup ∧ s.Nodup ∧ (t :: c).Nodup := by
  rw [List.nodup_cons, List.nodup_cons, List.nodup_append, List.nodup_append, List.nodup_append] at nd
  obtain ⟨h1, h2, hk, ⟨hg, ⟨hs, hc, d3⟩, d2⟩, d1⟩ := nd
  simp only [List.mem_cons, List.mem_append, not_or] at h1 h2 d1 d2
  refine ⟨h1.1, fun x hx => ⟨fun e => h1.2.1 (e ▸ hx), fun e => h2.1 (e ▸ hx), fun y hy => d1 x hx y (Or.inl hy), fun y hy => d1 x hx y (Or.inr (Or.inl hy)), fun y hy => d1 x hx y (Or.inr (Or.inr (by simpa using hy)))⟩,
    fun x hx => ⟨fun e => h1.2.2.1 (e ▸ hx), fun e => h2.2.1 (e ▸ hx), fun y hy => d2 x hx y (Or.inl hy), fun y hy => d2 x hx y (Or.inr (by simpa using hy))⟩,
    fun x hx => ⟨fun e => h1.2.2.2.1 (e ▸ hx), fun e => h2.2.2.1 (e ▸ hx), fun y hy => d3 x hx y hy⟩, fun y hy => ?_, hk, hg, hs, hc⟩
  simp only [List.mem_cons] at hy
  rcases hy with rfl | hy
  · exact ⟨h1.2.2.2.2.1, h2.2.2.2.1⟩
  · exact ⟨fun e => h1.2.2.2.2.2 (e ▸ hy), fun e => h2.2.2.2.2 (e ▸ hy)⟩

theorem turn_in {w w' : World} {n tb t : Nat} {k g s : Tr} {c : List Fr} {u1 u2 u3 : Option Nat} (nd : (n :: tb :: (k.blocks ++ (g.blocks ++ (s.blocks ++ (t :: cblocks c))))).Nodup)
    (hs : In w u1 s) (hk : In w u2 k) (hg : In w u3 g) (ps : NodeAt w' s.root (s.nd (some n))) (pg : NodeAt w' g.root (g.nd (some n))) (pk : NodeAt w' k.root (k.nd (some tb)))
    (pn : NodeAt w' n ((Tr.node n s g).nd (some tb))) (pt : NodeAt w' tb ((Tr.node tb (.node n s g) k).nd (upOf c))) (o : Only [tb, headOf t c, n, s.root, g.root, k.root] w w') :
    In w' (upOf c) (.node tb (.node n s g) k) := by
  obtain ⟨_, dk, dg, ds, _, nk, ng, ns, _⟩ := nodup_parts nd
  have hd := headOf_mem t c
  refine ⟨pt, ⟨pn, hs.reroot o (fun b hb hr => ?_) ns ps, hg.reroot o (fun b hb hr => ?_) ng pg⟩, hk.reroot o (fun b hb hr => ?_) nk pk⟩
  · have q := ds b hb
    simp only [List.mem_cons, List.not_mem_nil, or_false, not_or]
    exact ⟨q.2.1, q.2.2 _ hd, q.1, hr, fun e => (dg _ (root_mem g)).2.2.1 b hb e.symm, fun e => (dk _ (root_mem k)).2.2.2.1 b hb e.symm⟩
  · have q := dg b hb
    simp only [List.mem_cons, List.not_mem_nil, or_false, not_or]
    exact ⟨q.2.1, q.2.2.2 _ hd, q.1, q.2.2.1 _ (root_mem s), hr, fun e => (dk _ (root_mem k)).2.2.1 b hb e.symm⟩
  · have q := dk b hb
    simp only [List.mem_cons, List.not_mem_nil, or_false, not_or]
    exact ⟨q.2.1, q.2.2.2.2 _ hd, q.1, q.2.2.2.1 _ (root_mem s), q.2.2.1 _ (root_mem g), hr⟩

/-- What 'level' asks of the blocks, out of one list. -/
theorem turn_apart {n tb t : Nat} {k g s : Tr} {c : List Fr} (nd : (n :: tb :: (k.blocks ++ (g.blocks ++ (s.blocks ++ (t :: cblocks c))))).Nodup) : (n :: tb :: s.root :: k.root :: g.root :: t :: cblocks c).Nodup := by
  obtain ⟨h0, dk, dg, ds, dc, _, _, _, nc⟩ := nodup_parts nd
  have a1 := ds _ (root_mem s); have a2 := dk _ (root_mem k); have a3 := dg _ (root_mem g)
  have m : ∀ {x : Nat}, (∀ y ∈ t :: cblocks c, x ≠ y) → x ∉ t :: cblocks c := fun h hx => h _ hx rfl
  refine List.nodup_cons.2 ⟨?_, List.nodup_cons.2 ⟨?_, List.nodup_cons.2 ⟨?_, List.nodup_cons.2 ⟨?_, List.nodup_cons.2 ⟨?_, nc⟩⟩⟩⟩⟩
  · simp only [List.mem_cons, not_or]
    have q := m (x := n) (fun y hy => (dc y hy).1); simp only [List.mem_cons, not_or] at q
    exact ⟨h0, Ne.symm a1.1, Ne.symm a2.1, Ne.symm a3.1, q⟩
  · simp only [List.mem_cons, not_or]
    have q := m (x := tb) (fun y hy => (dc y hy).2); simp only [List.mem_cons, not_or] at q
    exact ⟨Ne.symm a1.2.1, Ne.symm a2.2.1, Ne.symm a3.2.1, q⟩
  · simp only [List.mem_cons, not_or]
    have q := m a1.2.2; simp only [List.mem_cons, not_or] at q
    exact ⟨fun e => a2.2.2.2.1 _ (root_mem s) e.symm, fun e => a3.2.2.1 _ (root_mem s) e.symm, q⟩
  · simp only [List.mem_cons, not_or]
    have q := m a2.2.2.2.2; simp only [List.mem_cons, not_or] at q
    exact ⟨a2.2.2.1 _ (root_mem g), q⟩
  · exact m a3.2.2.2

def LevelPost (w : World) (t : Nat) (fat : Int) (lv : Option Nat) (c : List Fr) (D : List Nat) (T : Tr) (e : Ending) (w' : World) : Prop :=
  e = .returned (.pointer (some ⟨T.root, 0, none⟩)) ∧ In w' (upOf c) T ∧ Arnd w' t fat lv c T.root ∧ Only D w w'

theorem turn_post {w : World} {n tb t : Nat} {k g s kl kr : Tr} {c : List Fr} {u1 u2 u3 : Option Nat} {fat : Int} {lv : Option Nat} {D : List Nat} (nd : (n :: tb :: (k.blocks ++ (g.blocks ++ (s.blocks ++ (t :: cblocks c))))).Nodup)
    {x : Nd} (xi : x.id = 0) (xb : x.box = bx0)
    (hs : In w u1 s) (hk : In w u2 k) (hg : In w u3 g) (hD : ∀ b ∈ n :: tb :: (k.blocks ++ (g.blocks ++ (s.blocks ++ (t :: cblocks c)))), b ∈ D) (e : Ending) (w' : World)
    (h : e = .returned (.pointer (some ⟨tb, 0, none⟩)) ∧
      NodeAt w' tb { (Tr.node tb kl kr).nd (some n) with up := upOf c, l := some n, r := some k.root, room := bothX (rnX (s.nd u1) (g.nd u3)) (k.nd u2).room, high := 1 + greater (hnX (s.nd u1) (g.nd u3)) (k.nd u2).high } ∧
      NodeAt w' n { x with up := some tb, l := some s.root, r := some g.root, room := rnX (s.nd u1) (g.nd u3), high := hnX (s.nd u1) (g.nd u3) } ∧
      NodeAt w' s.root { s.nd u1 with up := some n } ∧ NodeAt w' g.root { g.nd u3 with up := some n } ∧ NodeAt w' k.root { k.nd u2 with up := some tb } ∧ Arnd w' t fat lv c tb ∧ Only [tb, headOf t c, n, s.root, g.root, k.root] w w') :
    LevelPost w t fat lv c D (.node tb (.node n s g) k) e w' := by
  obtain ⟨he, pt, pn, ps, pg, pk, ha, o⟩ := h
  rw [nd_up] at ps pg pk
  refine ⟨he, turn_in nd hs hk hg ps pg pk ?_ ?_ o, ha, o.mono (fun b hb => Or.inl (hD b ?_))⟩
  · have : { x with up := some tb, l := some s.root, r := some g.root, room := rnX (s.nd u1) (g.nd u3), high := hnX (s.nd u1) (g.nd u3) } = (Tr.node n s g).nd (some tb) := by
      simp only [nd_node, rnX, hnX, nd_room, nd_high, xi, xb]
    rw [← this]; exact pn
  · have : { (Tr.node tb kl kr).nd (some n) with up := upOf c, l := some n, r := some k.root, room := bothX (rnX (s.nd u1) (g.nd u3)) (k.nd u2).room, high := 1 + greater (hnX (s.nd u1) (g.nd u3)) (k.nd u2).high } = (Tr.node tb (.node n s g) k).nd (upOf c) := by
      simp only [nd_node, room_node, high_node, root_node, rnX, hnX, nd_room, nd_high]
    rw [← this]; exact pt
  · simp only [List.mem_cons, List.not_mem_nil, or_false] at hb
    simp only [List.mem_cons, List.mem_append]
    have hd := headOf_mem t c
    simp only [List.mem_cons] at hd
    rcases hb with rfl | rfl | rfl | rfl | rfl | rfl
    · simp
    · simp [hd]
    · simp
    · simp [root_mem s]
    · simp [root_mem g]
    · simp [root_mem k]

theorem level_tree (t n : Nat) (l r : Tr) (fat : Int) (lv : Option Nat) (c : List Fr) (w : World) (nd : ((Tr.node n l r).blocks ++ (t :: cblocks c)).Nodup) (hi : In w (upOf c) (.node n l r)) (ha : Arnd w t fat lv c n) (bl : l.high ≤ 900) (br : r.high ≤ 900) :
    Calls Tryz.prog 46 #[.pointer (some ⟨t, 0, none⟩), .pointer (some ⟨n, 0, none⟩)] w (LevelPost w t fat lv c ((Tr.node n l r).blocks ++ (t :: cblocks c)) (levelT n l r)) := by
  obtain ⟨hn, hl, hr⟩ := hi
  have pl := high_nonneg l; have pr := high_nonneg r
  have el : ((Tr.node n l r).nd (upOf c)).l = some l.root := rfl
  have er : ((Tr.node n l r).nd (upOf c)).r = some r.root := rfl
  have nl := nd_high (some n) l; have nr := nd_high (some n) r
  unfold levelT
  by_cases h1 : l.high < r.high
  · rw [if_pos h1]
    by_cases h2 : r.high ≤ l.high + 1
    · rw [if_pos h2]
      refine (level_stay_r t n l.root r.root _ _ _ w el er hn hl.node hr.node (by omega) (by omega) (by omega) (by omega) (by omega) (by omega)).mono ?_
      rintro e w' ⟨rfl, o⟩
      exact ⟨rfl, ⟨o.node (by simp) hn, hl.only o (by simp), hr.only o (by simp)⟩, ha.only o (by simp), o.mono (by simp)⟩
    · rw [if_neg h2]
      cases r using Tr.cs with
      | leaf => simp only [Tr.high] at h1 h2; omega
      | node tb kl kr =>
        obtain ⟨ht, hkl, hkr⟩ := hr
        have hh : (Tr.node tb kl kr).high = 1 + greater kl.high kr.high := rfl
        have gg : kl.high ≤ greater kl.high kr.high ∧ kr.high ≤ greater kl.high kr.high := by unfold greater; split <;> omega
        have p1 := high_nonneg kl; have p2 := high_nonneg kr
        have q1 := nd_high (some tb) kl; have q2 := nd_high (some tb) kr
        simp only [rot]
        by_cases h3 : kl.high < kr.high
        · rw [if_pos h3]
          have pm : (n :: tb :: (kr.blocks ++ (kl.blocks ++ (l.blocks ++ (t :: cblocks c))))).Perm ((Tr.node n l (.node tb kl kr)).blocks ++ (t :: cblocks c)) := by
            simp only [Tr.blocks, List.cons_append, List.append_assoc]; grind
          have nd' := pm.symm.nodup nd
          refine (level_turn_rr t n tb l.root kr.root kl.root _ _ _ _ _ fat lv c w el er rfl rfl rfl (turn_apart nd') hn ht hl.node hkr.node hkl.node ha (by omega) (by omega) (by omega) (by omega) (by omega) (by omega) (by omega) (by omega)).mono ?_
          intro e w' h
          exact turn_post nd' rfl rfl hl hkr hkl (fun b hb => pm.mem_iff.1 hb) e w' h
        · rw [if_neg h3]
          have pm : (n :: tb :: (kl.blocks ++ (kr.blocks ++ (l.blocks ++ (t :: cblocks c))))).Perm ((Tr.node n l (.node tb kl kr)).blocks ++ (t :: cblocks c)) := by
            simp only [Tr.blocks, List.cons_append, List.append_assoc]; grind
          have nd' := pm.symm.nodup nd
          refine (level_turn_rl t n tb l.root kl.root kr.root _ _ _ _ _ fat lv c w el er rfl rfl rfl (turn_apart nd') hn ht hl.node hkl.node hkr.node ha (by omega) (by omega) (by omega) (by omega) (by omega) (by omega) (by omega) (by omega)).mono ?_
          intro e w' h
          exact turn_post nd' rfl rfl hl hkl hkr (fun b hb => pm.mem_iff.1 hb) e w' h
  · rw [if_neg h1]
    by_cases h2 : l.high ≤ r.high + 1
    · rw [if_pos h2]
      refine (level_stay_l t n l.root r.root _ _ _ w el er hn hl.node hr.node (by omega) (by omega) (by omega) (by omega) (by omega) (by omega)).mono ?_
      rintro e w' ⟨rfl, o⟩
      exact ⟨rfl, ⟨o.node (by simp) hn, hl.only o (by simp), hr.only o (by simp)⟩, ha.only o (by simp), o.mono (by simp)⟩
    · rw [if_neg h2]
      cases l using Tr.cs with
      | leaf => simp only [Tr.high] at h1 h2; omega
      | node tb kl kr =>
        obtain ⟨ht, hkl, hkr⟩ := hl
        have hh : (Tr.node tb kl kr).high = 1 + greater kl.high kr.high := rfl
        have gg : kl.high ≤ greater kl.high kr.high ∧ kr.high ≤ greater kl.high kr.high := by unfold greater; split <;> omega
        have p1 := high_nonneg kl; have p2 := high_nonneg kr
        have q1 := nd_high (some tb) kl; have q2 := nd_high (some tb) kr
        simp only [rot]
        by_cases h3 : kl.high < kr.high
        · rw [if_pos h3]
          have pm : (n :: tb :: (kr.blocks ++ (kl.blocks ++ (r.blocks ++ (t :: cblocks c))))).Perm ((Tr.node n (.node tb kl kr) r).blocks ++ (t :: cblocks c)) := by
            simp only [Tr.blocks, List.cons_append, List.append_assoc]; grind
          have nd' := pm.symm.nodup nd
          refine (level_turn_lr t n tb r.root kr.root kl.root _ _ _ _ _ fat lv c w el er rfl rfl rfl (turn_apart nd') hn ht hr.node hkr.node hkl.node ha (by omega) (by omega) (by omega) (by omega) (by omega) (by omega) (by omega) (by omega)).mono ?_
          intro e w' h
          exact turn_post nd' rfl rfl hr hkr hkl (fun b hb => pm.mem_iff.1 hb) e w' h
        · rw [if_neg h3]
          have pm : (n :: tb :: (kl.blocks ++ (kr.blocks ++ (r.blocks ++ (t :: cblocks c))))).Perm ((Tr.node n (.node tb kl kr) r).blocks ++ (t :: cblocks c)) := by
            simp only [Tr.blocks, List.cons_append, List.append_assoc]; grind
          have nd' := pm.symm.nodup nd
          refine (level_turn_ll t n tb r.root kl.root kr.root _ _ _ _ _ fat lv c w el er rfl rfl rfl (turn_apart nd') hn ht hr.node hkl.node hkr.node ha (by omega) (by omega) (by omega) (by omega) (by omega) (by omega) (by omega) (by omega)).mono ?_
          intro e w' h
          exact turn_post nd' rfl rfl hr hkl hkr (fun b hb => pm.mem_iff.1 hb) e w' h
end Go.Proofs.YtdhbcgdlmkkdfaaGreatDoor
