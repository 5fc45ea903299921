/- broad.Tree.level over whole trees: what hangs below a joint stays, in one order or another: whatever lies around it. · broad.Tree.mend: from a change below on up to the root all is measured and levelled: whatever the tree. · broad.girth, growth and Tree.mate: from the root a leaf is found; nothing has turned: whatever the tree. · broad.Tree.hang and unhang: a leaf more, a leaf less; all else stays: whatever the tree. · broad.Tree.unhang: a leaf less, and the joint above it; all else stays: whatever the tree. · What hangs in a tree, in whatever order; how high a levelled tree is; which boxes meet: plain facts on trees, no Go text. -/
import Derived.Test.YtbfkloclmlnahabGreatM2
import Derived.Deep.LoopGhost
open List renaming getElem_toArray → zqa, getElem_cons_succ → zqb, getElem_cons_zero → zqc, setIfInBounds_toArray → zqd, set_cons_zero → zqe, set_cons_succ → zqf, getElem?_toArray → zqg, getElem?_cons_succ → zqh, getElem?_cons_zero → zqi
namespace Go.Proofs.YtbfkloclmlnahabGreat
open Go.ChangeShapes Go.WideShapes Go.ChangeAt Go.RowKit
set_option linter.unusedSimpArgs false
set_option linter.unusedVariables false

theorem nd_node (b : Nat) (l r : Tr) (u : Option Nat) : (Tr.node b l r).nd u = ⟨0, bx0, bothX l.room r.room, 1 + greater l.high r.high, u, some l.root, some r.root⟩ := rfl
theorem room_node (b : Nat) (l r : Tr) : (Tr.node b l r).room = bothX l.room r.room := rfl
theorem high_node (b : Nat) (l r : Tr) : (Tr.node b l r).high = 1 + greater l.high r.high := rfl
theorem root_node (b : Nat) (l r : Tr) : (Tr.node b l r).root = b := rfl
def rot (n : Nat) (s : Tr) : Tr → Tr
  | ⟨tb,.inr (kl,kr)⟩ => if kl.high < kr.high then .node tb (.node n s kl) kr else .node tb (.node n s kr) kl
  | T => T
def levelT (n : Nat) (l r : Tr) : Tr :=
  if l.high < r.high then (if r.high ≤ l.high + 1 then .node n l r else rot n l r) else (if l.high ≤ r.high + 1 then .node n l r else rot n r l)

theorem nodup_parts {n tb t : Nat} {k g s c : List Nat} (nd : (n :: tb :: (k ++ (g ++ (s ++ (t :: c))))).Nodup) :
    n ≠ tb ∧ (∀ x ∈ k, x ≠ n ∧ x ≠ tb ∧ (∀ y ∈ g, x ≠ y) ∧ (∀ y ∈ s, x ≠ y) ∧ (∀ y ∈ t :: c, x ≠ y)) ∧ (∀ x ∈ g, x ≠ n ∧ x ≠ tb ∧ (∀ y ∈ s, x ≠ y) ∧ (∀ y ∈ t :: c, x ≠ y)) ∧ (∀ x ∈ s, x ≠ n ∧ x ≠ tb ∧ (∀ y ∈ t :: c, x ≠ y)) ∧ (∀ y ∈ t :: c, n ≠ y ∧ tb ≠ y) ∧ k.Nodup ∧ g.Nodup ∧ s.Nodup ∧ (t :: c).Nodup := by
  rw [List.nodup_cons, List.nodup_cons, List.nodup_append, List.nodup_append, List.nodup_append] at nd
  obtain ⟨h1, h2, hk, ⟨hg, ⟨hs, hc, d3⟩, d2⟩, d1⟩ := nd
  simp only [List.mem_cons, List.mem_append, not_or] at h1 h2 d1 d2
  refine ⟨h1.1, fun x hx => ⟨fun e => h1.2.1 (e ▸ hx), fun e => h2.1 (e ▸ hx), fun y hy => d1 x hx y (Or.inl hy), fun y hy => d1 x hx y (Or.inr (Or.inl hy)), fun y hy => d1 x hx y (Or.inr (Or.inr (by simpa using hy)))⟩,
    fun x hx => ⟨fun e => h1.2.2.1 (e ▸ hx), fun e => h2.2.1 (e ▸ hx), fun y hy => d2 x hx y (Or.inl hy), fun y hy => d2 x hx y (Or.inr (by simpa using hy))⟩,
    fun x hx => ⟨fun e => h1.2.2.2.1 (e ▸ hx), fun e => h2.2.2.1 (e ▸ hx), fun y hy => d3 x hx y hy⟩, fun y hy => ?_, hk, hg, hs, hc⟩
  simp only [List.mem_cons] at hy
  rcases hy with rfl | hy
  · exact ⟨h1.2.2.2.2.1, h2.2.2.2.1⟩
  · exact ⟨fun e => h1.2.2.2.2.2 (e ▸ hy), fun e => h2.2.2.2.2 (e ▸ hy)⟩

theorem turn_in {w w' : World} {n tb t : Nat} {k g s : Tr} {c : List Fr} {u1 u2 u3 : Option Nat} (nd : (n :: tb :: (k.blocks ++ (g.blocks ++ (s.blocks ++ (t :: cblocks c))))).Nodup)
    (hs : In w u1 s) (hk : In w u2 k) (hg : In w u3 g) (ps : NodeAt w' s.root (s.nd (some n))) (pg : NodeAt w' g.root (g.nd (some n))) (pk : NodeAt w' k.root (k.nd (some tb)))
    (pn : NodeAt w' n ((Tr.node n s g).nd (some tb))) (pt : NodeAt w' tb ((Tr.node tb (.node n s g) k).nd (upOf c))) (o : Only [tb, headOf t c, n, s.root, g.root, k.root] w w') :
    In w' (upOf c) (.node tb (.node n s g) k) := by
  obtain ⟨_, dk, dg, ds, _, nk, ng, ns, _⟩ := nodup_parts nd
  have hd := headOf_mem t c
  refine ⟨pt, ⟨pn, hs.reroot o (fun b hb hr => ?_) ns ps, hg.reroot o (fun b hb hr => ?_) ng pg⟩, hk.reroot o (fun b hb hr => ?_) nk pk⟩
  · have q := ds b hb
    simp only [List.mem_cons, List.not_mem_nil, or_false, not_or]
    exact ⟨q.2.1, q.2.2 _ hd, q.1, hr, fun e => (dg _ (root_mem g)).2.2.1 b hb e.symm, fun e => (dk _ (root_mem k)).2.2.2.1 b hb e.symm⟩
  · have q := dg b hb
    simp only [List.mem_cons, List.not_mem_nil, or_false, not_or]
    exact ⟨q.2.1, q.2.2.2 _ hd, q.1, q.2.2.1 _ (root_mem s), hr, fun e => (dk _ (root_mem k)).2.2.1 b hb e.symm⟩
  · have q := dk b hb
    simp only [List.mem_cons, List.not_mem_nil, or_false, not_or]
    exact ⟨q.2.1, q.2.2.2.2 _ hd, q.1, q.2.2.2.1 _ (root_mem s), q.2.2.1 _ (root_mem g), hr⟩

/-- What 'level' asks of the blocks, out of one list. -/
theorem turn_apart {n tb t : Nat} {k g s : Tr} {c : List Fr} (nd : (n :: tb :: (k.blocks ++ (g.blocks ++ (s.blocks ++ (t :: cblocks c))))).Nodup) : (n :: tb :: s.root :: k.root :: g.root :: t :: cblocks c).Nodup := by
  obtain ⟨h0, dk, dg, ds, dc, _, _, _, nc⟩ := nodup_parts nd
  have a1 := ds _ (root_mem s); have a2 := dk _ (root_mem k); have a3 := dg _ (root_mem g)
  have m : ∀ {x : Nat}, (∀ y ∈ t :: cblocks c, x ≠ y) → x ∉ t :: cblocks c := fun h hx => h _ hx rfl
  refine List.nodup_cons.2 ⟨?_, List.nodup_cons.2 ⟨?_, List.nodup_cons.2 ⟨?_, List.nodup_cons.2 ⟨?_, List.nodup_cons.2 ⟨?_, nc⟩⟩⟩⟩⟩
  · simp only [List.mem_cons, not_or]
    have q := m (x := n) (fun y hy => (dc y hy).1); simp only [List.mem_cons, not_or] at q
    exact ⟨h0, Ne.symm a1.1, Ne.symm a2.1, Ne.symm a3.1, q⟩
  · simp only [List.mem_cons, not_or]
    have q := m (x := tb) (fun y hy => (dc y hy).2); simp only [List.mem_cons, not_or] at q
    exact ⟨Ne.symm a1.2.1, Ne.symm a2.2.1, Ne.symm a3.2.1, q⟩
  · simp only [List.mem_cons, not_or]
    have q := m a1.2.2; simp only [List.mem_cons, not_or] at q
    exact ⟨fun e => a2.2.2.2.1 _ (root_mem s) e.symm, fun e => a3.2.2.1 _ (root_mem s) e.symm, q⟩
  · simp only [List.mem_cons, not_or]
    have q := m a2.2.2.2.2; simp only [List.mem_cons, not_or] at q
    exact ⟨a2.2.2.1 _ (root_mem g), q⟩
  · exact m a3.2.2.2

def LevelPost (w : World) (t : Nat) (fat : Int) (lv : Option Nat) (c : List Fr) (D : List Nat) (T : Tr) (e : Ending) (w' : World) : Prop :=
  e = .returned (.pointer (some ⟨T.root, 0, none⟩)) ∧ In w' (upOf c) T ∧ Arnd w' t fat lv c T.root ∧ Only D w w'

theorem turn_post {w : World} {n tb t : Nat} {k g s kl kr : Tr} {c : List Fr} {u1 u2 u3 : Option Nat} {fat : Int} {lv : Option Nat} {D : List Nat} (nd : (n :: tb :: (k.blocks ++ (g.blocks ++ (s.blocks ++ (t :: cblocks c))))).Nodup)
    {x : Nd} (xi : x.id = 0) (xb : x.box = bx0)
    (hs : In w u1 s) (hk : In w u2 k) (hg : In w u3 g) (hD : ∀ b ∈ n :: tb :: (k.blocks ++ (g.blocks ++ (s.blocks ++ (t :: cblocks c)))), b ∈ D) (e : Ending) (w' : World)
    (h : e = .returned (.pointer (some ⟨tb, 0, none⟩)) ∧
      NodeAt w' tb { (Tr.node tb kl kr).nd (some n) with up := upOf c, l := some n, r := some k.root, room := bothX (rnX (s.nd u1) (g.nd u3)) (k.nd u2).room, high := 1 + greater (hnX (s.nd u1) (g.nd u3)) (k.nd u2).high } ∧
      NodeAt w' n { x with up := some tb, l := some s.root, r := some g.root, room := rnX (s.nd u1) (g.nd u3), high := hnX (s.nd u1) (g.nd u3) } ∧
      NodeAt w' s.root { s.nd u1 with up := some n } ∧ NodeAt w' g.root { g.nd u3 with up := some n } ∧ NodeAt w' k.root { k.nd u2 with up := some tb } ∧ Arnd w' t fat lv c tb ∧ Only [tb, headOf t c, n, s.root, g.root, k.root] w w') :
    LevelPost w t fat lv c D (.node tb (.node n s g) k) e w' := by
  obtain ⟨he, pt, pn, ps, pg, pk, ha, o⟩ := h
  rw [nd_up] at ps pg pk
  refine ⟨he, turn_in nd hs hk hg ps pg pk ?_ ?_ o, ha, o.mono (fun b hb => Or.inl (hD b ?_))⟩
  · have : { x with up := some tb, l := some s.root, r := some g.root, room := rnX (s.nd u1) (g.nd u3), high := hnX (s.nd u1) (g.nd u3) } = (Tr.node n s g).nd (some tb) := by
      simp only [nd_node, rnX, hnX, nd_room, nd_high, xi, xb]
    rw [← this]; exact pn
  · have : { (Tr.node tb kl kr).nd (some n) with up := upOf c, l := some n, r := some k.root, room := bothX (rnX (s.nd u1) (g.nd u3)) (k.nd u2).room, high := 1 + greater (hnX (s.nd u1) (g.nd u3)) (k.nd u2).high } = (Tr.node tb (.node n s g) k).nd (upOf c) := by
      simp only [nd_node, room_node, high_node, root_node, rnX, hnX, nd_room, nd_high]
    rw [← this]; exact pt
  · simp only [List.mem_cons, List.not_mem_nil, or_false] at hb
    simp only [List.mem_cons, List.mem_append]
    have hd := headOf_mem t c
    simp only [List.mem_cons] at hd
    rcases hb with rfl | rfl | rfl | rfl | rfl | rfl
    · simp
    · simp [hd]
    · simp
    · simp [root_mem s]
    · simp [root_mem g]
    · simp [root_mem k]

theorem level_tree (t n : Nat) (l r : Tr) (fat : Int) (lv : Option Nat) (c : List Fr) (w : World) (nd : ((Tr.node n l r).blocks ++ (t :: cblocks c)).Nodup) (hi : In w (upOf c) (.node n l r)) (ha : Arnd w t fat lv c n) (bl : l.high ≤ 900) (br : r.high ≤ 900) :
    Calls Tryz.prog 116 #[.pointer (some ⟨t, 0, none⟩), .pointer (some ⟨n, 0, none⟩)] w (LevelPost w t fat lv c ((Tr.node n l r).blocks ++ (t :: cblocks c)) (levelT n l r)) := by
  obtain ⟨hn, hl, hr⟩ := hi
  have pl := high_nonneg l; have pr := high_nonneg r
  have el : ((Tr.node n l r).nd (upOf c)).l = some l.root := rfl
  have er : ((Tr.node n l r).nd (upOf c)).r = some r.root := rfl
  have nl := nd_high (some n) l; have nr := nd_high (some n) r
  unfold levelT
  by_cases h1 : l.high < r.high
  · rw [if_pos h1]
    by_cases h2 : r.high ≤ l.high + 1
    · rw [if_pos h2]
      refine (level_stay_r t n l.root r.root _ _ _ w el er hn hl.node hr.node (by omega) (by omega) (by omega) (by omega) (by omega) (by omega)).mono ?_
      rintro e w' ⟨rfl, o⟩
      exact ⟨rfl, ⟨o.node (by simp) hn, hl.only o (by simp), hr.only o (by simp)⟩, ha.only o (by simp), o.mono (by simp)⟩
    · rw [if_neg h2]
      cases r using Tr.cs with
      | leaf => simp only [Tr.high] at h1 h2; omega
      | node tb kl kr =>
        obtain ⟨ht, hkl, hkr⟩ := hr
        have hh : (Tr.node tb kl kr).high = 1 + greater kl.high kr.high := rfl
        have gg : kl.high ≤ greater kl.high kr.high ∧ kr.high ≤ greater kl.high kr.high := by unfold greater; split <;> omega
        have p1 := high_nonneg kl; have p2 := high_nonneg kr
        have q1 := nd_high (some tb) kl; have q2 := nd_high (some tb) kr
        simp only [rot]
        by_cases h3 : kl.high < kr.high
        · rw [if_pos h3]
          have pm : (n :: tb :: (kr.blocks ++ (kl.blocks ++ (l.blocks ++ (t :: cblocks c))))).Perm ((Tr.node n l (.node tb kl kr)).blocks ++ (t :: cblocks c)) := by
            simp only [Tr.blocks, List.cons_append, List.append_assoc]; grind
          have nd' := pm.symm.nodup nd
          refine (level_turn_rr t n tb l.root kr.root kl.root _ _ _ _ _ fat lv c w el er rfl rfl rfl (turn_apart nd') hn ht hl.node hkr.node hkl.node ha (by omega) (by omega) (by omega) (by omega) (by omega) (by omega) (by omega) (by omega)).mono ?_
          intro e w' h
          exact turn_post nd' rfl rfl hl hkr hkl (fun b hb => pm.mem_iff.1 hb) e w' h
        · rw [if_neg h3]
          have pm : (n :: tb :: (kl.blocks ++ (kr.blocks ++ (l.blocks ++ (t :: cblocks c))))).Perm ((Tr.node n l (.node tb kl kr)).blocks ++ (t :: cblocks c)) := by
            simp only [Tr.blocks, List.cons_append, List.append_assoc]; grind
          have nd' := pm.symm.nodup nd
          refine (level_turn_rl t n tb l.root kl.root kr.root _ _ _ _ _ fat lv c w el er rfl rfl rfl (turn_apart nd') hn ht hl.node hkl.node hkr.node ha (by omega) (by omega) (by omega) (by omega) (by omega) (by omega) (by omega) (by omega)).mono ?_
          intro e w' h
          exact turn_post nd' rfl rfl hl hkl hkr (fun b hb => pm.mem_iff.1 hb) e w' h
  · rw [if_neg h1]
    by_cases h2 : l.high ≤ r.high + 1
    · rw [if_pos h2]
      refine (level_stay_l t n l.root r.root _ _ _ w el er hn hl.node hr.node (by omega) (by omega) (by omega) (by omega) (by omega) (by omega)).mono ?_
      rintro e w' ⟨rfl, o⟩
      exact ⟨rfl, ⟨o.node (by simp) hn, hl.only o (by simp), hr.only o (by simp)⟩, ha.only o (by simp), o.mono (by simp)⟩
    · rw [if_neg h2]
      cases l using Tr.cs with
      | leaf => simp only [Tr.high] at h1 h2; omega
      | node tb kl kr =>
        obtain ⟨ht, hkl, hkr⟩ := hl
        have hh : (Tr.node tb kl kr).high = 1 + greater kl.high kr.high := rfl
        have gg : kl.high ≤ greater kl.high kr.high ∧ kr.high ≤ greater kl.high kr.high := by unfold greater; split <;> omega
        have p1 := high_nonneg kl; have p2 := high_nonneg kr
        have q1 := nd_high (some tb) kl; have q2 := nd_high (some tb) kr
        simp only [rot]
        by_cases h3 : kl.high < kr.high
        · rw [if_pos h3]
          have pm : (n :: tb :: (kr.blocks ++ (kl.blocks ++ (r.blocks ++ (t :: cblocks c))))).Perm ((Tr.node n (.node tb kl kr) r).blocks ++ (t :: cblocks c)) := by
            simp only [Tr.blocks, List.cons_append, List.append_assoc]; grind
          have nd' := pm.symm.nodup nd
          refine (level_turn_lr t n tb r.root kr.root kl.root _ _ _ _ _ fat lv c w el er rfl rfl rfl (turn_apart nd') hn ht hr.node hkr.node hkl.node ha (by omega) (by omega) (by omega) (by omega) (by omega) (by omega) (by omega) (by omega)).mono ?_
          intro e w' h
          exact turn_post nd' rfl rfl hr hkr hkl (fun b hb => pm.mem_iff.1 hb) e w' h
        · rw [if_neg h3]
          have pm : (n :: tb :: (kl.blocks ++ (kr.blocks ++ (r.blocks ++ (t :: cblocks c))))).Perm ((Tr.node n (.node tb kl kr) r).blocks ++ (t :: cblocks c)) := by
            simp only [Tr.blocks, List.cons_append, List.append_assoc]; grind
          have nd' := pm.symm.nodup nd
          refine (level_turn_ll t n tb r.root kl.root kr.root _ _ _ _ _ fat lv c w el er rfl rfl rfl (turn_apart nd') hn ht hr.node hkl.node hkr.node ha (by omega) (by omega) (by omega) (by omega) (by omega) (by omega) (by omega) (by omega)).mono ?_
          intro e w' h
          exact turn_post nd' rfl rfl hr hkl hkr (fun b hb => pm.mem_iff.1 hb) e w' h
end Go.Proofs.YtbfkloclmlnahabGreat

namespace Go.Proofs.YtbfkloclmlnahabGreat
open Go.ChangeShapes Go.WideShapes Go.ChangeAt Go.RowKit
set_option linter.unusedSimpArgs false
set_option linter.unusedVariables false

def Fr.fill (f : Fr) (T : Tr) : Tr := if f.left then .node f.b T f.sib else .node f.b f.sib T
def Fr.lev (f : Fr) (T : Tr) : Tr := if f.left then levelT f.b T f.sib else levelT f.b f.sib T
def mendT : List Fr → Tr → Tr
  | [], T => T
  | f :: c, T => mendT c (f.lev T)
theorem rot_blocks (n : Nat) (s : Tr) (tb : Nat) (kl kr : Tr) : (rot n s (.node tb kl kr)).blocks.Perm (n :: (s.blocks ++ (Tr.node tb kl kr).blocks)) := by
  unfold rot; simp only; split <;> (simp only [Tr.blocks, List.cons_append, List.append_assoc]; grind)
theorem levelT_blocks (n : Nat) (l r : Tr) : (levelT n l r).blocks.Perm (n :: (l.blocks ++ r.blocks)) := by
  have pl := high_nonneg l; have pr := high_nonneg r
  unfold levelT
  split
  · split
    · exact List.Perm.refl _
    · cases r using Tr.cs with
      | leaf => simp only [Tr.high] at *; omega
      | node tb kl kr => exact rot_blocks ..
  · split
    · exact List.Perm.refl _
    · cases l using Tr.cs with
      | leaf => simp only [Tr.high] at *; omega
      | node tb kl kr => exact (rot_blocks ..).trans (List.Perm.cons _ List.perm_append_comm)
theorem lev_blocks (f : Fr) (T : Tr) : (f.lev T).blocks.Perm (f.b :: (T.blocks ++ f.sib.blocks)) := by
  unfold Fr.lev; split
  · exact levelT_blocks ..
  · exact (levelT_blocks ..).trans (List.Perm.cons _ List.perm_append_comm)
theorem high_lt : ∀ T : Tr, T.high < T.blocks.length
  | ⟨_,.inl (_,_,_)⟩ => by simp [Tr.high, Tr.blocks]
  | ⟨_,.inr (l,r)⟩ => by
    have := high_lt l; have := high_lt r
    simp only [Tr.high, Tr.blocks, List.length_cons, List.length_append]
    unfold greater; split <;> omega

/-- The focus and all around it, as the loop goes up. -/
structure Mid (w0 : World) (t : Nat) (fat : Int) (lv : Option Nat) (M : Tr) (D : List Nat) (c : List Fr) (T : Tr) (w : World) : Prop where
  inn : In w (upOf c) T
  arnd : Arnd w t fat lv c T.root
  perm : (T.blocks ++ (t :: cblocks c)).Perm D
  only : Only D w0 w
  goal : mendT c T = M

theorem Mid.step {w0 w w2 : World} {t : Nat} {fat : Int} {lv : Option Nat} {M : Tr} {D : List Nat} {f : Fr} {c : List Fr} {T : Tr} (h : Mid w0 t fat lv M D (f :: c) T w) (hi : In w2 (upOf c) (f.lev T)) (ha : Arnd w2 t fat lv c (f.lev T).root) (o : Only D w w2) : Mid w0 t fat lv M D c (f.lev T) w2 := by
  refine ⟨hi, ha, ?_, h.only.trans o, h.goal⟩
  refine List.Perm.trans ?_ h.perm
  refine (List.Perm.append_right _ (lev_blocks f T)).trans ?_
  simp only [cblocks, List.cons_append, List.append_assoc]; grind

theorem Mid.facts {w0 w : World} {t : Nat} {fat : Int} {lv : Option Nat} {M : Tr} {D : List Nat} {f : Fr} {c : List Fr} {T : Tr} (h : Mid w0 t fat lv M D (f :: c) T w) (nd : D.Nodup) (hb : D.length ≤ 800) :
    (f.b :: ((T.blocks ++ f.sib.blocks) ++ (t :: cblocks c))).Nodup ∧ (∀ x ∈ f.b :: ((T.blocks ++ f.sib.blocks) ++ (t :: cblocks c)), x ∈ D) ∧ T.high ≤ 900 ∧ f.sib.high ≤ 900 := by
  have pm : (f.b :: ((T.blocks ++ f.sib.blocks) ++ (t :: cblocks c))).Perm D := by
    refine List.Perm.trans ?_ h.perm
    simp only [cblocks, List.cons_append, List.append_assoc]; grind
  have h1 := high_lt T; have h2 := high_lt f.sib
  have h3 := pm.length_eq
  simp only [List.length_cons, List.length_append] at h3
  exact ⟨pm.symm.nodup nd, fun x hx => pm.mem_iff.1 hx, by omega, by omega⟩
theorem measure_frame {w0 w : World} {t : Nat} {fat : Int} {lv : Option Nat} {M : Tr} {D : List Nat} {f : Fr} {c : List Fr} {T : Tr} (h : Mid w0 t fat lv M D (f :: c) T w) (nd : D.Nodup) (hb : D.length ≤ 800) :
    Calls Tryz.prog 115 #[.pointer (some ⟨f.b, 0, none⟩)] w fun e w' => e = .returned (.tuple #[]) ∧ In w' (upOf c) (f.fill T) ∧ Arnd w' t fat lv c f.b ∧ Only D w w' := by
  obtain ⟨n1, mem, b1, b2⟩ := h.facts nd hb
  obtain ⟨hz, hs, hc⟩ := h.arnd
  have hT := h.inn
  simp only [upOf] at hT
  have p1 := high_nonneg T; have p2 := high_nonneg f.sib
  have q1 := nd_high (some f.b) T; have q2 := nd_high (some f.b) f.sib
  rw [List.nodup_cons] at n1
  have far : ∀ b, b ∈ T.blocks ∨ b ∈ f.sib.blocks ∨ b ∈ t :: cblocks c → b ∉ [f.b] := fun b hb e => n1.1 (by
    rw [List.mem_singleton] at e; rw [← e]; simp only [List.mem_append]; rcases hb with q | q | q
    · exact Or.inl (Or.inl q)
    · exact Or.inl (Or.inr q)
    · exact Or.inr q)
  have r1 : T.root ≠ f.b := fun e => far _ (Or.inl (root_mem T)) (by simp [e])
  have r2 : f.sib.root ≠ f.b := fun e => far _ (Or.inr (Or.inl (root_mem f.sib))) (by simp [e])
  cases hl : f.left with
  | true =>
    refine (measure_calls f.b T.root f.sib.root _ _ _ w (by simp [Fr.nd, hl]) (by simp [Fr.nd, hl]) r1 r2 hz hT.node hs.node (by omega) (by omega) (by omega) (by omega)).mono ?_
    rintro e w' ⟨rfl, m, o⟩
    refine ⟨rfl, ?_, hc.only o (fun b hb => far b (Or.inr (Or.inr hb))), o.mono (fun b hb => Or.inl (mem b (by rw [List.mem_singleton] at hb; simp [hb])))⟩
    simp only [Fr.fill, hl, if_true]
    refine ⟨?_, hT.only o (fun b hb => far b (Or.inl hb)), hs.only o (fun b hb => far b (Or.inr (Or.inl hb)))⟩
    rw [nd_room, nd_room, nd_high, nd_high] at m
    simpa [Fr.nd, nd_node, hl] using m
  | false =>
    refine (measure_calls f.b f.sib.root T.root _ _ _ w (by simp [Fr.nd, hl]) (by simp [Fr.nd, hl]) r2 r1 hz hs.node hT.node (by omega) (by omega) (by omega) (by omega)).mono ?_
    rintro e w' ⟨rfl, m, o⟩
    refine ⟨rfl, ?_, hc.only o (fun b hb => far b (Or.inr (Or.inr hb))), o.mono (fun b hb => Or.inl (mem b (by rw [List.mem_singleton] at hb; simp [hb])))⟩
    simp only [Fr.fill, hl, Bool.false_eq_true, if_false]
    refine ⟨?_, hs.only o (fun b hb => far b (Or.inr (Or.inl hb))), hT.only o (fun b hb => far b (Or.inl hb))⟩
    rw [nd_room, nd_room, nd_high, nd_high] at m
    simpa [Fr.nd, nd_node, hl] using m
theorem level_frame {w0 w w1 : World} {t : Nat} {fat : Int} {lv : Option Nat} {M : Tr} {D : List Nat} {f : Fr} {c : List Fr} {T : Tr} (h : Mid w0 t fat lv M D (f :: c) T w) (nd : D.Nodup) (hb : D.length ≤ 800) (hi : In w1 (upOf c) (f.fill T)) (ha : Arnd w1 t fat lv c f.b) :
    Calls Tryz.prog 116 #[.pointer (some ⟨t, 0, none⟩), .pointer (some ⟨f.b, 0, none⟩)] w1 (LevelPost w1 t fat lv c D (f.lev T)) := by
  obtain ⟨n1, mem, b1, b2⟩ := h.facts nd hb
  unfold Fr.fill at hi
  unfold Fr.lev
  cases hl : f.left with
  | true =>
    simp only [hl, if_true] at hi ⊢
    exact (level_tree t f.b T f.sib fat lv c w1 n1 hi ha b1 b2).mono (fun e w' q => ⟨q.1, q.2.1, q.2.2.1, q.2.2.2.mono (fun b hb => Or.inl (mem b hb))⟩)
  | false =>
    simp only [hl, Bool.false_eq_true, if_false] at hi ⊢
    have pm : (f.b :: ((T.blocks ++ f.sib.blocks) ++ (t :: cblocks c))).Perm ((Tr.node f.b f.sib T).blocks ++ (t :: cblocks c)) := by
      simp only [Tr.blocks, List.cons_append, List.append_assoc]; grind
    exact (level_tree t f.b f.sib T fat lv c w1 (pm.nodup n1) hi ha b2 b1).mono (fun e w' q => ⟨q.1, q.2.1, q.2.2.1, q.2.2.2.mono (fun b hb => Or.inl (mem b (pm.mem_iff.2 hb)))⟩)

set_option maxHeartbeats 1000000 in
theorem mend_calls (t : Nat) (fat : Int) (lv : Option Nat) (c : List Fr) (T : Tr) (w : World) (nd : (T.blocks ++ (t :: cblocks c)).Nodup) (hi : In w (upOf c) T) (ha : Arnd w t fat lv c T.root) (hb : (T.blocks ++ (t :: cblocks c)).length ≤ 800) :
    Calls Tryz.prog 95 #[.pointer (some ⟨t, 0, none⟩), ptr (upOf c)] w fun e w' => e = .returned (.tuple #[]) ∧ In w' none (mendT c T) ∧ TreeAt w' t fat (some (mendT c T).root) lv ∧ Only (T.blocks ++ (t :: cblocks c)) w w' := by
  have H0 : Hid (∃ c' T', c'.length = c.length ∧ ptr (upOf c) = ptr (upOf c') ∧ Mid w t fat lv (mendT c T) (T.blocks ++ (t :: cblocks c)) c' T' w) := ⟨c, T, rfl, rfl, hi, ha, List.Perm.refl _, Only.refl _ _, rfl⟩
  have ND : Hid ((T.blocks ++ (t :: cblocks c)).Nodup ∧ (T.blocks ++ (t :: cblocks c)).length ≤ 800) := ⟨nd, hb⟩
  clear hi ha nd hb
  generalize hM : mendT c T = M at H0 ⊢
  generalize hD : T.blocks ++ (t :: cblocks c) = D at H0 ND ⊢
  clear hM hD
  generalize ptr (upOf c) = p0 at H0 ⊢
  generalize c.length = k0 at H0
  clear T c
  go_enter Tryz.func95, Tryz.ntmps95
  go_wp2_with fail
  go_loopg [1] k0 (fun k p wr => ∃ c' T', c'.length = k ∧ p = ptr (upOf c') ∧ Mid w t fat lv M D c' T' wr)
  case atStart => exact H0.out
  case round =>
    obtain ⟨c, T, hk, rfl, hm⟩ := hrel
    have HM : Hid (Mid w t fat lv M D c T wr ∧ c.length = gk) := ⟨hm, hk⟩
    clear hm hk H0
    cases c with
    | nil =>
      simp only [upOf, ptr_none]
      go_wp2_with fail
      go_end0
      obtain ⟨hm, _⟩ := HM.out
      have hg := hm.goal; simp only [mendT] at hg; subst hg
      exact ⟨rfl, hm.inn, hm.arnd, hm.only⟩
    | cons f c =>
      simp only [upOf, ptr_some]
      go_wp2_with fail
      refine (measure_frame HM.out.1 ND.out.1 ND.out.2).mono ?_
      rintro e w1 ⟨rfl, hi1, ha1, o1⟩
      have H1 : Hid (In w1 (upOf c) (f.fill T) ∧ Arnd w1 t fat lv c f.b ∧ Only D wr w1) := ⟨hi1, ha1, o1⟩
      clear hi1 ha1 o1
      go_wp2_with fail
      refine (level_frame HM.out.1 ND.out.1 ND.out.2 H1.out.1 H1.out.2.1).mono ?_
      rintro e w2 ⟨rfl, hi2, ha2, o2⟩
      have c14 := hi2.node.c14
      rw [nd_up'] at c14
      have H2 : Hid (Mid w t fat lv M D c (f.lev T) w2) := HM.out.1.step hi2 ha2 (H1.out.2.2.trans o2)
      clear hi2 ha2 o2 H1
      go_wp2_with fail
      go_roundg c.length
      case measure => have := HM.out.2; simp only [List.length_cons] at this; omega
      case rel => exact ⟨c, f.lev T, rfl, rfl, H2.out⟩
end Go.Proofs.YtbfkloclmlnahabGreat

namespace Go.Proofs.YtbfkloclmlnahabGreat
open Go.ChangeShapes Go.WideShapes Go.ChangeAt Go.RowKit
set_option linter.unusedVariables false
set_option linter.unusedSimpArgs false

theorem girth_calls (a0 a1 a2 a3 a4 a5 : Int) (w : World) : Calls Tryz.prog 127 #[.agg #[.int .i64 a0, .int .i64 a1, .int .i64 a2, .int .i64 a3, .int .i64 a4, .int .i64 a5]] w fun e w' => (∃ v, e = .returned (.int .i64 v)) ∧ Kept w w' := by
  go_enter Tryz.func127, Tryz.ntmps127
  go_wp2_with fail
  go_ret
  exact ⟨⟨_, rfl⟩, (Kept.refl _).alloc _ _⟩
theorem growth_calls (a0 a1 a2 a3 a4 a5 b0 b1 b2 b3 b4 b5 : Int) (w : World) : Calls Tryz.prog 117 #[.agg #[.int .i64 a0, .int .i64 a1, .int .i64 a2, .int .i64 a3, .int .i64 a4, .int .i64 a5], .agg #[.int .i64 b0, .int .i64 b1, .int .i64 b2, .int .i64 b3, .int .i64 b4, .int .i64 b5]] w fun e w' => (∃ v, e = .returned (.int .i64 v)) ∧ Kept w w' := by
  go_enter Tryz.func117, Tryz.ntmps117
  go_wp2_with fail
  refine wp_region_held_drew (S := (fun w' => Kept w w' ∧ w'.cell? ⟨w.heap.size, 0, none⟩ = some (.int .i64 a0) ∧ w'.cell? ⟨w.heap.size, 1, none⟩ = some (.int .i64 a1) ∧ w'.cell? ⟨w.heap.size, 2, none⟩ = some (.int .i64 a2) ∧ w'.cell? ⟨w.heap.size, 3, none⟩ = some (.int .i64 a3) ∧ w'.cell? ⟨w.heap.size, 4, none⟩ = some (.int .i64 a4) ∧ w'.cell? ⟨w.heap.size, 5, none⟩ = some (.int .i64 a5) ∧ w'.cell? ⟨w.heap.size + 1, 0, none⟩ = some (.int .i64 b0) ∧ w'.cell? ⟨w.heap.size + 1, 1, none⟩ = some (.int .i64 b1) ∧ w'.cell? ⟨w.heap.size + 1, 2, none⟩ = some (.int .i64 b2) ∧ w'.cell? ⟨w.heap.size + 1, 3, none⟩ = some (.int .i64 b3) ∧ w'.cell? ⟨w.heap.size + 1, 4, none⟩ = some (.int .i64 b4) ∧ w'.cell? ⟨w.heap.size + 1, 5, none⟩ = some (.int .i64 b5))) (by kernel_rfl) ?_ (fun hHeld1 => ?_)
  · (try dsimp only); exact G66.drew (by refine ⟨((Kept.refl w).alloc _ _).alloc _ _, ?_, ?_, ?_, ?_, ?_, ?_, ?_, ?_, ?_, ?_, ?_, ?_⟩ <;> go_simp)
  refine wpAnyH_take (i := 0) (v := ?_) rfl (by kernel_rfl) (by kernel_rfl) (by kernel_rfl) (fun _ _ _ h => h) (Or.inl ⟨by kernel_rfl, ?_⟩) (by assumption) ?_
  rotate_left
  · intro w'' hSw; (try dsimp only at hSw); simp only [zqa, zqb, zqc]; (go_simp <;> with_reducible rfl)
  try simp only [Act.put, zqd, zqe, zqf, zqa, zqb, zqc]
  refine wpAnyH_take (i := 1) (v := ?_) rfl (by kernel_rfl) (by kernel_rfl) (by kernel_rfl) (fun _ _ _ h => h) (Or.inl ⟨by kernel_rfl, ?_⟩) (by assumption) ?_
  rotate_left
  · intro w'' hSw; (try dsimp only at hSw); simp only [zqa, zqb, zqc]; (go_simp <;> with_reducible rfl)
  try simp only [Act.put, zqd, zqe, zqf, zqa, zqb, zqc]
  refine wpAnyH_take (i := 4) (v := ?_) rfl (by kernel_rfl) (by kernel_rfl) (by kernel_rfl) (fun _ _ _ h => h) (Or.inl ⟨by kernel_rfl, ?_⟩) (by assumption) ?_
  rotate_left
  · intro w'' hSw; (try dsimp only at hSw); simp only [zqa, zqb, zqc]; (go_simp <;> with_reducible rfl)
  try simp only [Act.put, zqd, zqe, zqf, zqa, zqb, zqc]
  refine wpAnyH_ready (rs := [2]) (by kernel_rfl) (by simp) ?_
  refine AllReadyH.cons rfl (fun K hK => ?_) AllReadyH.nil
  first | (with_reducible refine iteYes ?hcx ?htx; case hcx => kernel_rfl) | rw [if_pos (by rfl)]
  simp only [zqa, zqb, zqc]
  go_simp
  (go_at_call 126; refine (gboth_calls _ _ _ _ _ _ _ _ _ _ _ _ _).mono ?_; rintro e w1 ⟨rfl, k1⟩)
  try go_wp2_with fail
  refine hK.out _ _ ?_ (fun hHeld2 => ?_)
  · (try dsimp only); exact G66.step k1 hHeld1
  clear hK K hHeld1
  try simp only [Act.put, zqd, zqe, zqf, zqa, zqb, zqc]
  refine wpAnyH_ready (rs := [3]) (by kernel_rfl) (by simp) ?_
  refine AllReadyH.cons rfl (fun K hK => ?_) AllReadyH.nil
  first | (with_reducible refine iteYes ?hcx ?htx; case hcx => kernel_rfl) | rw [if_pos (by rfl)]
  simp only [zqa, zqb, zqc]
  go_simp
  (go_at_call 127; refine (girth_calls _ _ _ _ _ _ _).mono ?_; rintro e w2 ⟨⟨v2, rfl⟩, k2⟩)
  try go_wp2_with fail
  refine hK.out _ _ ?_ (fun hHeld3 => ?_)
  · (try dsimp only); exact G66.step k2 hHeld2
  clear hK K hHeld2
  try simp only [Act.put, zqd, zqe, zqf, zqa, zqb, zqc]
  refine wpAnyH_ready (rs := [5]) (by kernel_rfl) (by simp) ?_
  refine AllReadyH.cons rfl (fun K hK => ?_) AllReadyH.nil
  first | (with_reducible refine iteYes ?hcx ?htx; case hcx => kernel_rfl) | rw [if_pos (by rfl)]
  simp only [zqa, zqb, zqc]
  go_simp
  (go_at_call 127; refine (girth_calls _ _ _ _ _ _ _).mono ?_; rintro e w3 ⟨⟨v3, rfl⟩, k3⟩)
  try go_wp2_with fail
  refine hK.out _ _ ?_ (fun hHeld4 => ?_)
  · (try dsimp only); exact G66.step k3 hHeld3
  clear hK K hHeld3
  try simp only [Act.put, zqd, zqe, zqf, zqa, zqb, zqc]
  refine wpAnyH_take (i := 6) (v := ?_) rfl (by kernel_rfl) (by kernel_rfl) (by kernel_rfl) (fun _ _ _ h => h) (Or.inl ⟨by kernel_rfl, ?_⟩) (by assumption) ?_
  rotate_left
  · intro w'' hSw; (try dsimp only at hSw); simp only [zqa, zqb, zqc]; (go_simp <;> with_reducible rfl)
  try simp only [Act.put, zqd, zqe, zqf, zqa, zqb, zqc]
  refine wpAnyH_take (i := 7) (v := ?_) rfl (by kernel_rfl) (by kernel_rfl) (by kernel_rfl) (fun _ _ _ h => h) (Or.inl ⟨by kernel_rfl, ?_⟩) (by assumption) ?_
  rotate_left
  · intro w'' hSw; (try dsimp only at hSw); simp only [zqa, zqb, zqc]; (go_simp <;> with_reducible rfl)
  try simp only [Act.put, zqd, zqe, zqf, zqa, zqb, zqc]
  refine wpAnyH_done (by kernel_rfl) ?_ _
  go_wp2_with fail
  go_ret
  exact ⟨⟨_, rfl⟩, hHeld4.1⟩
/-! mate -/
theorem root_leaf (b : Nat) (id : Int) (box room : Bx) : (Tr.leaf b id box room).root = b := rfl
theorem high_leaf (b : Nat) (id : Int) (box room : Bx) : (Tr.leaf b id box room).high = 0 := rfl
def plug : List Fr → Tr → Tr
  | [], T => T
  | f :: c, T => plug c (f.fill T)
theorem fill_blocks (f : Fr) (T : Tr) : (f.fill T).blocks.Perm (f.b :: (T.blocks ++ f.sib.blocks)) := by
  unfold Fr.fill; split
  · exact List.Perm.refl _
  · exact List.Perm.cons _ List.perm_append_comm
theorem plug_blocks : ∀ (c : List Fr) (T : Tr), (plug c T).blocks.Perm (T.blocks ++ cblocks c)
  | [], T => by simp [plug, cblocks]
  | f :: c, T => by
    refine (plug_blocks c (f.fill T)).trans ((List.Perm.append_right _ (fill_blocks f T)).trans ?_)
    simp only [cblocks, List.cons_append, List.append_assoc]; grind
def frL (b : Nat) (l r : Tr) : Fr := ⟨b, bothX l.room r.room, 1 + greater l.high r.high, true, r⟩
def frR (b : Nat) (l r : Tr) : Fr := ⟨b, bothX l.room r.room, 1 + greater l.high r.high, false, l⟩
theorem go_left {w : World} {t : Nat} {fat : Int} {lv : Option Nat} {c : List Fr} {b : Nat} {l r : Tr} (hi : In w (upOf c) (.node b l r)) (ha : Arnd w t fat lv c b) : In w (upOf (frL b l r :: c)) l ∧ Arnd w t fat lv (frL b l r :: c) l.root :=
  ⟨hi.2.1, hi.1, hi.2.2, ha⟩
theorem go_right {w : World} {t : Nat} {fat : Int} {lv : Option Nat} {c : List Fr} {b : Nat} {l r : Tr} (hi : In w (upOf c) (.node b l r)) (ha : Arnd w t fat lv c b) : In w (upOf (frR b l r :: c)) r ∧ Arnd w t fat lv (frR b l r :: c) r.root :=
  ⟨hi.2.2, hi.1, hi.2.1, ha⟩
def M3 (a : Nat) (ra : Bx) (f : Nat) (rf : Bx) (b : Nat) (rb : Bx) (w w' : World) : Prop := Kept w w' ∧ w'.cell? ⟨a, 7, none⟩ = some (.int .i64 ra.x0) ∧ w'.cell? ⟨a, 8, none⟩ = some (.int .i64 ra.x1) ∧ w'.cell? ⟨a, 9, none⟩ = some (.int .i64 ra.x2) ∧ w'.cell? ⟨a, 10, none⟩ = some (.int .i64 ra.x3) ∧ w'.cell? ⟨a, 11, none⟩ = some (.int .i64 ra.x4) ∧ w'.cell? ⟨a, 12, none⟩ = some (.int .i64 ra.x5) ∧ w'.cell? ⟨f, 7, none⟩ = some (.int .i64 rf.x0) ∧ w'.cell? ⟨f, 8, none⟩ = some (.int .i64 rf.x1) ∧ w'.cell? ⟨f, 9, none⟩ = some (.int .i64 rf.x2) ∧ w'.cell? ⟨f, 10, none⟩ = some (.int .i64 rf.x3) ∧ w'.cell? ⟨f, 11, none⟩ = some (.int .i64 rf.x4) ∧ w'.cell? ⟨f, 12, none⟩ = some (.int .i64 rf.x5) ∧ w'.cell? ⟨b, 7, none⟩ = some (.int .i64 rb.x0) ∧ w'.cell? ⟨b, 8, none⟩ = some (.int .i64 rb.x1) ∧ w'.cell? ⟨b, 9, none⟩ = some (.int .i64 rb.x2) ∧ w'.cell? ⟨b, 10, none⟩ = some (.int .i64 rb.x3) ∧ w'.cell? ⟨b, 11, none⟩ = some (.int .i64 rb.x4) ∧ w'.cell? ⟨b, 12, none⟩ = some (.int .i64 rb.x5)
theorem M3.step {a : Nat} {ra : Bx} {f : Nat} {rf : Bx} {b : Nat} {rb : Bx} {w w1 w2 : World} (k : Kept w1 w2) (h : M3 a ra f rf b rb w w1) : M3 a ra f rf b rb w w2 := by
  obtain ⟨h0, h1, h2, h3, h4, h5, h6, h7, h8, h9, h10, h11, h12, h13, h14, h15, h16, h17, h18⟩ := h
  exact ⟨h0.trans k, kept_cell k h1, kept_cell k h2, kept_cell k h3, kept_cell k h4, kept_cell k h5, kept_cell k h6, kept_cell k h7, kept_cell k h8, kept_cell k h9, kept_cell k h10, kept_cell k h11, kept_cell k h12, kept_cell k h13, kept_cell k h14, kept_cell k h15, kept_cell k h16, kept_cell k h17, kept_cell k h18⟩

theorem M3.of {w : World} {u v : Option Nat} {l r : Tr} {lf : Nat} {y : Nd} (hl : In w u l) (hr : In w v r) (hy : NodeAt w lf y) : M3 l.root l.room lf y.room r.root r.room w w.drew := by
  have a := hl.node; have b := hr.node
  have a7 := a.c7; have a8 := a.c8; have a9 := a.c9; have a10 := a.c10; have a11 := a.c11; have a12 := a.c12
  have b7 := b.c7; have b8 := b.c8; have b9 := b.c9; have b10 := b.c10; have b11 := b.c11; have b12 := b.c12
  rw [nd_room] at a7 a8 a9 a10 a11 a12 b7 b8 b9 b10 b11 b12
  exact ⟨(Kept.refl _).drew, a7, a8, a9, a10, a11, a12, hy.c7, hy.c8, hy.c9, hy.c10, hy.c11, hy.c12, b7, b8, b9, b10, b11, b12⟩

/-- What the way down knows of the focus. -/
structure Down (w0 : World) (t : Nat) (fat : Int) (lv : Option Nat) (T0 : Tr) (lf : Nat) (y : Nd) (c : List Fr) (T : Tr) (w : World) : Prop where
  inn : In w (upOf c) T
  arnd : Arnd w t fat lv c T.root
  whole : plug c T = T0
  leaf : NodeAt w lf y
  only : Only [] w0 w
theorem Down.go {w0 w w' : World} {t : Nat} {fat : Int} {lv : Option Nat} {T0 : Tr} {lf : Nat} {y : Nd} {c : List Fr} {T : Tr} (h : Down w0 t fat lv T0 lf y c T w) (o : Only [] w w') : Down w0 t fat lv T0 lf y c T w' :=
  ⟨h.inn.only o (by simp), h.arnd.only o (by simp), h.whole, o.node (by simp) h.leaf, h.only.trans o⟩
theorem Down.left {w0 w : World} {t : Nat} {fat : Int} {lv : Option Nat} {T0 : Tr} {lf : Nat} {y : Nd} {c : List Fr} {b : Nat} {l r : Tr} (h : Down w0 t fat lv T0 lf y c (.node b l r) w) : Down w0 t fat lv T0 lf y (frL b l r :: c) l w :=
  ⟨(go_left h.inn h.arnd).1, (go_left h.inn h.arnd).2, h.whole, h.leaf, h.only⟩
theorem Down.right {w0 w : World} {t : Nat} {fat : Int} {lv : Option Nat} {T0 : Tr} {lf : Nat} {y : Nd} {c : List Fr} {b : Nat} {l r : Tr} (h : Down w0 t fat lv T0 lf y c (.node b l r) w) : Down w0 t fat lv T0 lf y (frR b l r :: c) r w :=
  ⟨(go_right h.inn h.arnd).1, (go_right h.inn h.arnd).2, h.whole, h.leaf, h.only⟩
theorem len_l (b : Nat) (l r : Tr) : l.blocks.length < (Tr.node b l r).blocks.length ∧ r.blocks.length < (Tr.node b l r).blocks.length := by
  simp only [Tr.blocks, List.length_cons, List.length_append]; omega

set_option maxHeartbeats 4000000 in
theorem mate_calls (t : Nat) (fat : Int) (lv : Option Nat) (T0 : Tr) (lf : Nat) (y : Nd) (w : World) (hi : In w none T0) (ht : TreeAt w t fat (some T0.root) lv) (hy : NodeAt w lf y) (hb : T0.blocks.length ≤ 800) :
    Calls Tryz.prog 96 #[.pointer (some ⟨t, 0, none⟩), .pointer (some ⟨lf, 0, none⟩)] w fun e w' => ∃ c b id box room, e = .returned (.pointer (some ⟨b, 0, none⟩)) ∧ Down w t fat lv T0 lf y c (.leaf b id box room) w' := by
  have c1 := ht.c1; simp only [ptr_some] at c1
  have H0 : Hid (Down w t fat lv T0 lf y [] T0 w) := ⟨hi, ht, rfl, hy, Only.refl _ _⟩
  have HB : Hid (T0.blocks.length ≤ 800) := hb
  clear hi ht hy hb
  obtain ⟨rt, hrt⟩ : ∃ rt, rt = T0.root := ⟨_, rfl⟩
  rw [← hrt] at c1
  have HR : Hid (rt = T0.root) := hrt
  clear hrt
  go_enter Tryz.func96, Tryz.ntmps96
  go_wp2_with fail
  go_loopg [5] T0.blocks.length (fun k p wr => ∃ c T, T.blocks.length = k ∧ p = .pointer (some ⟨T.root, 0, none⟩) ∧ Down w t fat lv T0 lf y c T wr)
  case atStart => exact ⟨[], T0, rfl, by rw [HR.out], H0.out⟩
  case round =>
    obtain ⟨c, T, hk, rfl, hd⟩ := hrel
    have HD : Hid (Down w t fat lv T0 lf y c T wr ∧ T.blocks.length = gk) := ⟨hd, hk⟩
    clear c1 H0 hk HR
    have c13 := hd.inn.node.c13
    rw [nd_high] at c13
    cases T using Tr.cs with
    | leaf b id box room =>
      clear hd
      simp only [root_leaf, high_leaf] at c13 ⊢
      go_wp2_with fail
      go_ret
      exact ⟨c, b, id, box, room, rfl, HD.out.1⟩
    | node b l r =>
      have hh : 0 < (Tr.node b l r).high := by have := high_nonneg l; have := high_nonneg r; simp only [Tr.high]; unfold greater; split <;> omega
      have p1 := high_nonneg l; have p2 := high_nonneg r
      have t0 : decide (0 < (Tr.node b l r).high) = true := by simp [hh]
      generalize (Tr.node b l r).high = H at c13 hh t0
      have c15 : wr.cell? ⟨b, 15, none⟩ = some (.pointer (some ⟨l.root, 0, none⟩)) := hd.inn.1.c15
      have c16 : wr.cell? ⟨b, 16, none⟩ = some (.pointer (some ⟨r.root, 0, none⟩)) := hd.inn.1.c16
      clear hd
      simp only [root_node] at c13 ⊢
      go_wp2_with fail
      go_quiet (fail)
      have HE : Hid (Down w t fat lv T0 lf y c (.node b l r) (wr.drewN nq) ∧ (Tr.node b l r).blocks.length = gk) := ⟨HD.out.1.go (Only.drewN _ _), HD.out.2⟩
      clear c13 c15 c16 HD
      generalize wr.drewN nq = w0 at HE ⊢
      go_wp2_with fail
      refine wp_region_held_drew (S := (fun w' => Kept w0 w' ∧ w'.cell? ⟨l.root, 7, none⟩ = some (.int .i64 l.room.x0) ∧ w'.cell? ⟨l.root, 8, none⟩ = some (.int .i64 l.room.x1) ∧ w'.cell? ⟨l.root, 9, none⟩ = some (.int .i64 l.room.x2) ∧ w'.cell? ⟨l.root, 10, none⟩ = some (.int .i64 l.room.x3) ∧ w'.cell? ⟨l.root, 11, none⟩ = some (.int .i64 l.room.x4) ∧ w'.cell? ⟨l.root, 12, none⟩ = some (.int .i64 l.room.x5) ∧ w'.cell? ⟨lf, 7, none⟩ = some (.int .i64 y.room.x0) ∧ w'.cell? ⟨lf, 8, none⟩ = some (.int .i64 y.room.x1) ∧ w'.cell? ⟨lf, 9, none⟩ = some (.int .i64 y.room.x2) ∧ w'.cell? ⟨lf, 10, none⟩ = some (.int .i64 y.room.x3) ∧ w'.cell? ⟨lf, 11, none⟩ = some (.int .i64 y.room.x4) ∧ w'.cell? ⟨lf, 12, none⟩ = some (.int .i64 y.room.x5) ∧ w'.cell? ⟨r.root, 7, none⟩ = some (.int .i64 r.room.x0) ∧ w'.cell? ⟨r.root, 8, none⟩ = some (.int .i64 r.room.x1) ∧ w'.cell? ⟨r.root, 9, none⟩ = some (.int .i64 r.room.x2) ∧ w'.cell? ⟨r.root, 10, none⟩ = some (.int .i64 r.room.x3) ∧ w'.cell? ⟨r.root, 11, none⟩ = some (.int .i64 r.room.x4) ∧ w'.cell? ⟨r.root, 12, none⟩ = some (.int .i64 r.room.x5))) (by kernel_rfl) ?_ (fun hHeld1 => ?_)
      · (try dsimp only); exact M3.of HE.out.1.inn.2.1 HE.out.1.inn.2.2 HE.out.1.leaf
      refine wpAnyH_take (i := 0) (v := ?_) rfl (by kernel_rfl) (by kernel_rfl) (by kernel_rfl) (fun _ _ _ h => h) (Or.inl ⟨by kernel_rfl, ?_⟩) (by assumption) ?_
      rotate_left
      · intro w'' hSw; (try dsimp only at hSw); simp only [zqa, zqb, zqc]; (go_simp <;> with_reducible rfl)
      try simp only [Act.put, zqd, zqe, zqf, zqa, zqb, zqc]
      refine wpAnyH_take (i := 1) (v := ?_) rfl (by kernel_rfl) (by kernel_rfl) (by kernel_rfl) (fun _ _ _ h => h) (Or.inl ⟨by kernel_rfl, ?_⟩) (by assumption) ?_
      rotate_left
      · intro w'' hSw; (try dsimp only at hSw); simp only [zqa, zqb, zqc]; (go_simp <;> with_reducible rfl)
      try simp only [Act.put, zqd, zqe, zqf, zqa, zqb, zqc]
      refine wpAnyH_take (i := 2) (v := ?_) rfl (by kernel_rfl) (by kernel_rfl) (by kernel_rfl) (fun _ _ _ h => h) (Or.inl ⟨by kernel_rfl, ?_⟩) (by assumption) ?_
      rotate_left
      · intro w'' hSw; (try dsimp only at hSw); simp only [zqa, zqb, zqc]; (go_simp <;> with_reducible rfl)
      try simp only [Act.put, zqd, zqe, zqf, zqa, zqb, zqc]
      refine wpAnyH_take (i := 3) (v := ?_) rfl (by kernel_rfl) (by kernel_rfl) (by kernel_rfl) (fun _ _ _ h => h) (Or.inl ⟨by kernel_rfl, ?_⟩) (by assumption) ?_
      rotate_left
      · intro w'' hSw; (try dsimp only at hSw); simp only [zqa, zqb, zqc]; (go_simp <;> with_reducible rfl)
      try simp only [Act.put, zqd, zqe, zqf, zqa, zqb, zqc]
      refine wpAnyH_take (i := 4) (v := ?_) rfl (by kernel_rfl) (by kernel_rfl) (by kernel_rfl) (fun _ _ _ h => h) (Or.inl ⟨by kernel_rfl, ?_⟩) (by assumption) ?_
      rotate_left
      · intro w'' hSw; (try dsimp only at hSw); simp only [zqa, zqb, zqc]; (go_simp <;> with_reducible rfl)
      try simp only [Act.put, zqd, zqe, zqf, zqa, zqb, zqc]
      refine wpAnyH_take (i := 5) (v := ?_) rfl (by kernel_rfl) (by kernel_rfl) (by kernel_rfl) (fun _ _ _ h => h) (Or.inl ⟨by kernel_rfl, ?_⟩) (by assumption) ?_
      rotate_left
      · intro w'' hSw; (try dsimp only at hSw); simp only [zqa, zqb, zqc]; (go_simp <;> with_reducible rfl)
      try simp only [Act.put, zqd, zqe, zqf, zqa, zqb, zqc]
      refine wpAnyH_take (i := 6) (v := ?_) rfl (by kernel_rfl) (by kernel_rfl) (by kernel_rfl) (fun _ _ _ h => h) (Or.inl ⟨by kernel_rfl, ?_⟩) (by assumption) ?_
      rotate_left
      · intro w'' hSw; (try dsimp only at hSw); simp only [zqa, zqb, zqc]; (go_simp <;> with_reducible rfl)
      try simp only [Act.put, zqd, zqe, zqf, zqa, zqb, zqc]
      refine wpAnyH_take (i := 7) (v := ?_) rfl (by kernel_rfl) (by kernel_rfl) (by kernel_rfl) (fun _ _ _ h => h) (Or.inl ⟨by kernel_rfl, ?_⟩) (by assumption) ?_
      rotate_left
      · intro w'' hSw; (try dsimp only at hSw); simp only [zqa, zqb, zqc]; (go_simp <;> with_reducible rfl)
      try simp only [Act.put, zqd, zqe, zqf, zqa, zqb, zqc]
      refine wpAnyH_take (i := 9) (v := ?_) rfl (by kernel_rfl) (by kernel_rfl) (by kernel_rfl) (fun _ _ _ h => h) (Or.inl ⟨by kernel_rfl, ?_⟩) (by assumption) ?_
      rotate_left
      · intro w'' hSw; (try dsimp only at hSw); simp only [zqa, zqb, zqc]; (go_simp <;> with_reducible rfl)
      try simp only [Act.put, zqd, zqe, zqf, zqa, zqb, zqc]
      refine wpAnyH_take (i := 10) (v := ?_) rfl (by kernel_rfl) (by kernel_rfl) (by kernel_rfl) (fun _ _ _ h => h) (Or.inl ⟨by kernel_rfl, ?_⟩) (by assumption) ?_
      rotate_left
      · intro w'' hSw; (try dsimp only at hSw); simp only [zqa, zqb, zqc]; (go_simp <;> with_reducible rfl)
      try simp only [Act.put, zqd, zqe, zqf, zqa, zqb, zqc]
      refine wpAnyH_take (i := 11) (v := ?_) rfl (by kernel_rfl) (by kernel_rfl) (by kernel_rfl) (fun _ _ _ h => h) (Or.inl ⟨by kernel_rfl, ?_⟩) (by assumption) ?_
      rotate_left
      · intro w'' hSw; (try dsimp only at hSw); simp only [zqa, zqb, zqc]; (go_simp <;> with_reducible rfl)
      try simp only [Act.put, zqd, zqe, zqf, zqa, zqb, zqc]
      refine wpAnyH_take (i := 12) (v := ?_) rfl (by kernel_rfl) (by kernel_rfl) (by kernel_rfl) (fun _ _ _ h => h) (Or.inl ⟨by kernel_rfl, ?_⟩) (by assumption) ?_
      rotate_left
      · intro w'' hSw; (try dsimp only at hSw); simp only [zqa, zqb, zqc]; (go_simp <;> with_reducible rfl)
      try simp only [Act.put, zqd, zqe, zqf, zqa, zqb, zqc]
      refine wpAnyH_take (i := 13) (v := ?_) rfl (by kernel_rfl) (by kernel_rfl) (by kernel_rfl) (fun _ _ _ h => h) (Or.inl ⟨by kernel_rfl, ?_⟩) (by assumption) ?_
      rotate_left
      · intro w'' hSw; (try dsimp only at hSw); simp only [zqa, zqb, zqc]; (go_simp <;> with_reducible rfl)
      try simp only [Act.put, zqd, zqe, zqf, zqa, zqb, zqc]
      refine wpAnyH_take (i := 14) (v := ?_) rfl (by kernel_rfl) (by kernel_rfl) (by kernel_rfl) (fun _ _ _ h => h) (Or.inl ⟨by kernel_rfl, ?_⟩) (by assumption) ?_
      rotate_left
      · intro w'' hSw; (try dsimp only at hSw); simp only [zqa, zqb, zqc]; (go_simp <;> with_reducible rfl)
      try simp only [Act.put, zqd, zqe, zqf, zqa, zqb, zqc]
      refine wpAnyH_take (i := 15) (v := ?_) rfl (by kernel_rfl) (by kernel_rfl) (by kernel_rfl) (fun _ _ _ h => h) (Or.inl ⟨by kernel_rfl, ?_⟩) (by assumption) ?_
      rotate_left
      · intro w'' hSw; (try dsimp only at hSw); simp only [zqa, zqb, zqc]; (go_simp <;> with_reducible rfl)
      try simp only [Act.put, zqd, zqe, zqf, zqa, zqb, zqc]
      refine wpAnyH_take (i := 16) (v := ?_) rfl (by kernel_rfl) (by kernel_rfl) (by kernel_rfl) (fun _ _ _ h => h) (Or.inl ⟨by kernel_rfl, ?_⟩) (by assumption) ?_
      rotate_left
      · intro w'' hSw; (try dsimp only at hSw); simp only [zqa, zqb, zqc]; (go_simp <;> with_reducible rfl)
      try simp only [Act.put, zqd, zqe, zqf, zqa, zqb, zqc]
      refine wpAnyH_ready (rs := [8]) (by kernel_rfl) (by simp) ?_
      refine AllReadyH.cons rfl (fun K hK => ?_) AllReadyH.nil
      first | (with_reducible refine iteYes ?hcx ?htx; case hcx => kernel_rfl) | rw [if_pos (by rfl)]
      simp only [zqa, zqb, zqc]
      go_simp
      (go_at_call 117; refine (growth_calls _ _ _ _ _ _ _ _ _ _ _ _ _).mono ?_; rintro e w1 ⟨⟨v1, rfl⟩, k1⟩)
      try go_wp2_with fail
      refine hK.out _ _ ?_ (fun hHeld2 => ?_)
      · (try dsimp only); exact M3.step k1 hHeld1
      clear hK K hHeld1
      try simp only [Act.put, zqd, zqe, zqf, zqa, zqb, zqc]
      refine wpAnyH_ready (rs := [17]) (by kernel_rfl) (by simp) ?_
      refine AllReadyH.cons rfl (fun K hK => ?_) AllReadyH.nil
      first | (with_reducible refine iteYes ?hcx ?htx; case hcx => kernel_rfl) | rw [if_pos (by rfl)]
      simp only [zqa, zqb, zqc]
      go_simp
      (go_at_call 117; refine (growth_calls _ _ _ _ _ _ _ _ _ _ _ _ _).mono ?_; rintro e w2 ⟨⟨v2, rfl⟩, k2⟩)
      try go_wp2_with fail
      refine hK.out _ _ ?_ (fun hHeld3 => ?_)
      · (try dsimp only); exact M3.step k2 hHeld2
      clear hK K hHeld2
      try simp only [Act.put, zqd, zqe, zqf, zqa, zqb, zqc]
      refine wpAnyH_take (i := 18) (v := ?_) rfl (by kernel_rfl) (by kernel_rfl) (by kernel_rfl) (fun _ _ _ h => h) (Or.inl ⟨by kernel_rfl, ?_⟩) (by assumption) ?_
      rotate_left
      · intro w'' hSw; (try dsimp only at hSw); simp only [zqa, zqb, zqc]; (go_simp <;> with_reducible rfl)
      try simp only [Act.put, zqd, zqe, zqf, zqa, zqb, zqc]
      refine wpAnyH_take (i := 19) (v := ?_) rfl (by kernel_rfl) (by kernel_rfl) (by kernel_rfl) (fun _ _ _ h => h) (Or.inl ⟨by kernel_rfl, ?_⟩) (by assumption) ?_
      rotate_left
      · intro w'' hSw; (try dsimp only at hSw); simp only [zqa, zqb, zqc]; (go_simp <;> with_reducible rfl)
      try simp only [Act.put, zqd, zqe, zqf, zqa, zqb, zqc]
      refine wpAnyH_done (by kernel_rfl) ?_ _
      have HF : Hid (Down w t fat lv T0 lf y c (.node b l r) w2 ∧ (Tr.node b l r).blocks.length = gk) := ⟨HE.out.1.go (.of_kept hHeld3.1), HE.out.2⟩
      clear hHeld3 HE
      have d1 := HF.out.1.inn.2.1.node.c13; rw [nd_high] at d1
      have d2 := HF.out.1.inn.2.2.node.c13; rw [nd_high] at d2
      by_cases h1 : v2 < v1
      · have t1 : decide (v2 < v1) = true := by simp [h1]
        go_wp2_with fail
        go_quiet (fail)
        go_wp2_with fail
        go_roundg r.blocks.length
        case measure => have := HF.out.2; have := (len_l b l r).2; omega
        case rel => exact ⟨_, r, rfl, rfl, (HF.out.1.go (Only.drewN _ _)).right⟩
      · have t1 : decide (v2 < v1) = false := by simpa using h1
        by_cases h2 : v1 = v2
        · have t2 : (v1 == v2) = true := by simp [h2]
          clear h2
          by_cases h3 : r.high < l.high
          · have t3 : decide (r.high < l.high) = true := by simp [h3]
            go_wp2_with fail
            go_quiet (fail)
            go_wp2_with fail
            go_roundg r.blocks.length
            case measure => have := HF.out.2; have := (len_l b l r).2; omega
            case rel => exact ⟨_, r, rfl, rfl, (HF.out.1.go (Only.drewN _ _)).right⟩
          · have t3 : decide (r.high < l.high) = false := by simpa using h3
            go_wp2_with fail
            go_quiet (fail)
            go_wp2_with fail
            go_roundg l.blocks.length
            case measure => have := HF.out.2; have := (len_l b l r).1; omega
            case rel => exact ⟨_, l, rfl, rfl, (HF.out.1.go (Only.drewN _ _)).left⟩
        · have t2 : (v1 == v2) = false := by simp [h2]
          go_wp2_with fail
          go_quiet (fail)
          go_wp2_with fail
          go_roundg l.blocks.length
          case measure => have := HF.out.2; have := (len_l b l r).1; omega
          case rel => exact ⟨_, l, rfl, rfl, (HF.out.1.go (Only.drewN _ _)).left⟩
end Go.Proofs.YtbfkloclmlnahabGreat

namespace Go.Proofs.YtbfkloclmlnahabGreat
open Go.ChangeShapes Go.WideShapes Go.ChangeAt Go.RowKit
set_option linter.unusedVariables false
set_option linter.unusedSimpArgs false

theorem hang_nil (t lf : Nat) (fat : Int) (lv : Option Nat) (w : World) (ht : TreeAt w t fat none lv) :
    Calls Tryz.prog 75 #[.pointer (some ⟨t, 0, none⟩), .pointer (some ⟨lf, 0, none⟩)] w fun e w' => e = .returned (.tuple #[]) ∧ TreeAt w' t fat (some lf) lv ∧ Only [t] w w' := by
  have c1 := ht.c1; have f1 := ht.free; simp only [ptr_none] at c1
  have HT : Hid (TreeAt w t fat none lv) := ht
  clear ht
  go_enter Tryz.func75, Tryz.ntmps75
  go_wp2_with fail
  refine bodyPost_ret (results_none rfl _ _ _) rfl ?_
  exact ⟨rfl, HT.out.putRoot (some lf), (Only.refl [t] w).setCell (p := ⟨t, 1, none⟩) (by simp) _⟩

theorem Arnd.alloc {w : World} {t : Nat} {fat : Int} {lv : Option Nat} {c : List Fr} {h : Nat} (k : Arnd w t fat lv c h) (o : Obj) : Arnd (w.alloc o) t fat lv c h := k.only ((Only.refl [] w).alloc o) (by simp)
theorem NodeAt.alloc {w : World} {b : Nat} {n : Nd} (k : NodeAt w b n) (o : Obj) : NodeAt (w.alloc o) b n := ((Only.refl [] w).alloc o).node (by simp) k
theorem In.lt {w : World} : ∀ {T : Tr} {u : Option Nat}, In w u T → ∀ b ∈ T.blocks, b < w.heap.size
  | ⟨_,.inl (_,_,_)⟩, _, h, b, hb => by simp only [Tr.blocks, List.mem_singleton] at hb; rw [hb]; exact NodeAt.lt h
  | ⟨_,.inr (l,r)⟩, _, h, b, hb => by
    simp only [Tr.blocks, List.mem_cons, List.mem_append] at hb
    rcases hb with rfl | hb | hb
    · exact h.1.lt
    · exact In.lt h.2.1 b hb
    · exact In.lt h.2.2 b hb
theorem Arnd.lt {w : World} {t : Nat} {fat : Int} {lv : Option Nat} : ∀ {c : List Fr} {h : Nat}, Arnd w t fat lv c h → ∀ b ∈ t :: cblocks c, b < w.heap.size
  | [], _, k, b, hb => by simp only [cblocks, List.mem_singleton] at hb; rw [hb]; exact TreeAt.lt k
  | f :: c, _, k, b, hb => by
    simp only [List.mem_cons, cblocks, List.mem_append] at hb
    rcases hb with rfl | rfl | hb | hb
    · exact Arnd.lt k.2.2 b (by simp)
    · exact k.1.lt
    · exact k.2.1.lt b hb
    · exact Arnd.lt k.2.2 b (by simp [hb])

theorem hang_some (t lf : Nat) (id : Int) (box room : Bx) (fat : Int) (lv : Option Nat) (T0 : Tr) (w : World) (nd : (lf :: t :: T0.blocks).Nodup) (hb : T0.blocks.length ≤ 700) (hi : In w none T0) (ht : TreeAt w t fat (some T0.root) lv) (hy : NodeAt w lf ((Tr.leaf lf id box room).nd none)) :
    Calls Tryz.prog 75 #[.pointer (some ⟨t, 0, none⟩), .pointer (some ⟨lf, 0, none⟩)] w fun e w' => e = .returned (.tuple #[]) ∧ ∃ c b id' box' room' j, plug c (.leaf b id' box' room') = T0 ∧ w.heap.size ≤ j ∧
      In w' none (mendT c (.node j (.leaf b id' box' room') (.leaf lf id box room))) ∧ TreeAt w' t fat (some (mendT c (.node j (.leaf b id' box' room') (.leaf lf id box room))).root) lv ∧ Only (lf :: t :: T0.blocks) w w' := by
  have c1 := ht.c1; simp only [ptr_some] at c1
  have H0 : Hid ((lf :: t :: T0.blocks).Nodup ∧ T0.blocks.length ≤ 700 ∧ In w none T0 ∧ TreeAt w t fat (some T0.root) lv ∧ NodeAt w lf ((Tr.leaf lf id box room).nd none)) := ⟨nd, hb, hi, ht, hy⟩
  clear nd hb hi ht hy
  obtain ⟨rt, hrt⟩ : ∃ rt, rt = T0.root := ⟨_, rfl⟩
  rw [← hrt] at c1
  clear hrt
  go_enter Tryz.func75, Tryz.ntmps75
  go_wp2_with fail
  refine (mate_calls t fat lv T0 lf _ w H0.out.2.2.1 H0.out.2.2.2.1 H0.out.2.2.2.2 (by have := H0.out.2.1; omega)).mono ?_
  rintro e w1 ⟨c, b, id', box', room', rfl, hd⟩
  have HD : Hid (Down w t fat lv T0 lf ((Tr.leaf lf id box room).nd none) c (.leaf b id' box' room') w1) := hd
  clear hd c1
  go_wp2_with fail
  have j0 : NodeAt (w1.alloc (.cells (Nd.cells ⟨0, bx0, bx0, 0, none, none, none⟩) 99)) w1.heap.size ⟨0, bx0, bx0, 0, none, none, none⟩ := (MapKept.heap_alloc w1 _).1
  have hD := HD.out
  obtain ⟨nd, hb, _, _, _⟩ := H0.out
  have pm := plug_blocks c (.leaf b id' box' room')
  rw [hD.whole] at pm
  have pm2 : (lf :: t :: T0.blocks).Perm (lf :: b :: (t :: cblocks c)) := by
    refine (List.Perm.cons _ ((List.Perm.cons _ pm).trans ?_))
    simp only [Tr.blocks, List.cons_append, List.nil_append]; exact List.Perm.swap _ _ _
  have nd2 := pm2.nodup nd
  have hlt := hD.arnd.lt
  have hw1 := hD.only.size
  simp only [List.nodup_cons, List.mem_cons, not_or] at nd2
  obtain ⟨⟨n1, n2, n3⟩, ⟨n4, n5⟩, n6, n7⟩ := nd2
  have l1 := hD.leaf.lt
  have l2 := NodeAt.lt hD.inn
  have fresh : ∀ x, x < w1.heap.size → w1.heap.size ≠ x := fun x h => by omega
  refine (replace_calls t b w1.heap.size _ _ fat lv c _ (fresh b l2) (fun h => fresh _ (hlt _ h) rfl) (by simp [n4, n5]) (by simp [n6, n7]) (NodeAt.alloc hD.inn _) rfl j0 (hD.arnd.alloc _)).mono ?_
  rintro e w2 ⟨rfl, hj2, ha2, o2⟩
  have hdm := headOf_mem t c
  have hb2 := o2.node (b := b) (by
    simp only [List.mem_cons, List.not_mem_nil, or_false, not_or]
    exact ⟨Ne.symm (fresh b l2), fun e => by rw [← e] at hdm; simp only [List.mem_cons] at hdm; rcases hdm with q | q; exact n4 q; exact n5 q⟩) (NodeAt.alloc hD.inn _)
  have hl2 := o2.node (b := lf) (by
    simp only [List.mem_cons, List.not_mem_nil, or_false, not_or]
    exact ⟨Ne.symm (fresh lf l1), fun e => by rw [← e] at hdm; simp only [List.mem_cons] at hdm; rcases hdm with q | q; exact n2 q; exact n3 q⟩) (NodeAt.alloc hD.leaf _)
  have o2' : Only (lf :: t :: T0.blocks) w w2 := by
    refine ((hD.only.mono (by simp)).alloc _).then o2 (fun x hx => ?_)
    simp only [List.mem_cons, List.not_mem_nil, or_false] at hx
    rcases hx with rfl | rfl
    · exact Or.inr hw1
    · exact Or.inl (pm2.mem_iff.2 (by simp only [List.mem_cons] at hdm ⊢; rcases hdm with q | q <;> simp [q]))
  have H2 : Hid (NodeAt w2 w1.heap.size ⟨0, bx0, bx0, 0, upOf c, none, none⟩ ∧ Arnd w2 t fat lv c w1.heap.size ∧ NodeAt w2 b ((Tr.leaf b id' box' room').nd (upOf c)) ∧ NodeAt w2 lf ((Tr.leaf lf id box room).nd none) ∧ Only (lf :: t :: T0.blocks) w w2) := ⟨hj2, ha2, hb2, hl2, o2'⟩
  have HW : Hid (w.heap.size ≤ w1.heap.size ∧ b ≠ w1.heap.size ∧ lf ≠ w1.heap.size ∧ (∀ x ∈ t :: cblocks c, x ≠ w1.heap.size) ∧ plug c (.leaf b id' box' room') = T0) := ⟨hw1, Ne.symm (fresh b l2), Ne.symm (fresh lf l1), fun x hx => Ne.symm (fresh x (hlt x hx)), hD.whole⟩
  have HP : Hid ((lf :: t :: T0.blocks).Perm (lf :: b :: (t :: cblocks c))) := pm2
  clear hj2 ha2 hb2 hl2 o2' o2 hw1 hD pm pm2 hlt l1 l2 fresh j0 hdm
  generalize w1.heap.size = j at H2 HW ⊢
  clear HD
  go_wp2_with fail
  obtain ⟨hj2, ha2, hb2, hl2, o2⟩ := H2.out
  obtain ⟨w_1, w_2, w_3, w_4, w_5⟩ := HW.out
  refine (join_calls j b lf _ _ _ w2 w_2 w_3 (Ne.symm n1) hj2 hb2 hl2 (by simp [Tr.nd]) (by simp [Tr.nd]) (by simp [Tr.nd]) (by simp [Tr.nd])).mono ?_
  rintro e w3 ⟨rfl, hj3, hb3, hl3, o3⟩
  have hi3 : In w3 (upOf c) (.node j (.leaf b id' box' room') (.leaf lf id box room)) := ⟨hj3, hb3, hl3⟩
  have ha3 : Arnd w3 t fat lv c j := ha2.only o3 (fun x hx => by
    simp only [List.mem_cons, List.not_mem_nil, or_false, not_or]
    refine ⟨w_4 x hx, fun e => ?_, fun e => ?_⟩
    · rw [e] at hx; simp only [List.mem_cons] at hx; rcases hx with q | q; exact n4 q; exact n5 q
    · rw [e] at hx; simp only [List.mem_cons] at hx; rcases hx with q | q; exact n2 q; exact n3 q)
  have nd3 : ((Tr.node j (.leaf b id' box' room') (.leaf lf id box room)).blocks ++ (t :: cblocks c)).Nodup := by
    simp only [Tr.blocks, List.cons_append, List.nil_append, List.nodup_cons, List.mem_cons, not_or]
    have w4t := w_4 t (by simp)
    have w4c : j ∉ cblocks c := fun h => w_4 j (by simp [h]) rfl
    exact ⟨⟨Ne.symm w_2, Ne.symm w_3, Ne.symm w4t, w4c⟩, ⟨Ne.symm n1, n4, n5⟩, ⟨n2, n3⟩, n6, n7⟩
  have ln3 : ((Tr.node j (.leaf b id' box' room') (.leaf lf id box room)).blocks ++ (t :: cblocks c)).length ≤ 800 := by
    have := HP.out.length_eq
    simp only [Tr.blocks, List.length_cons, List.length_append, List.length_nil] at this ⊢
    omega
  have c14 := hj3.c14
  have H3 : Hid (In w3 (upOf c) (.node j (.leaf b id' box' room') (.leaf lf id box room)) ∧ Arnd w3 t fat lv c j ∧ Only (lf :: t :: T0.blocks) w w3) := ⟨hi3, ha3, o2.then o3 (fun x hx => by
    simp only [List.mem_cons, List.not_mem_nil, or_false] at hx
    rcases hx with rfl | rfl | rfl
    · exact Or.inr w_1
    · exact Or.inl (HP.out.mem_iff.2 (by simp))
    · exact Or.inl (by simp))⟩
  have HL : Hid (_ ∧ _) := ⟨nd3, ln3⟩
  clear hj2 ha2 hb2 hl2 o2 hj3 hb3 hl3 o3 hi3 ha3 nd3 ln3 H2
  simp only at c14
  go_wp2_with fail
  refine (mend_calls t fat lv c _ w3 HL.out.1 H3.out.1 H3.out.2.1 HL.out.2).mono ?_
  rintro e w4 ⟨rfl, hi4, ht4, o4⟩
  have H4 : Hid (In w4 none _ ∧ TreeAt w4 t fat _ lv ∧ Only _ w3 w4) := ⟨hi4, ht4, o4⟩
  clear hi4 ht4 o4
  go_wp2_with fail
  go_end0
  obtain ⟨hi4, ht4, o4⟩ := H4.out
  refine ⟨rfl, c, b, id', box', room', j, w_5, w_1, hi4, ht4, H3.out.2.2.then o4 (fun x hx => ?_)⟩
  simp only [Tr.blocks, List.cons_append, List.nil_append, List.mem_cons] at hx
  rcases hx with rfl | hx
  · exact Or.inr w_1
  · refine Or.inl (HP.out.mem_iff.2 ?_)
    simp only [List.mem_cons]
    rcases hx with q | q | q | q <;> simp [q]
end Go.Proofs.YtbfkloclmlnahabGreat

namespace Go.Proofs.YtbfkloclmlnahabGreat
open Go.ChangeShapes Go.WideShapes Go.ChangeAt Go.RowKit
set_option linter.unusedVariables false
set_option linter.unusedSimpArgs false

theorem unhang_top (t lf : Nat) (y : Nd) (fat : Int) (r lv : Option Nat) (w : World) (hu : y.up = none) (hy : NodeAt w lf y) (ht : TreeAt w t fat r lv) :
    Calls Tryz.prog 73 #[.pointer (some ⟨t, 0, none⟩), .pointer (some ⟨lf, 0, none⟩)] w fun e w' => e = .returned (.tuple #[]) ∧ TreeAt w' t fat none lv ∧ Only [t] w w' := by
  have c1 := ht.c1; have f1 := ht.free
  have c2 := hy.c14; rw [hu] at c2; simp only [ptr_none] at c2
  have HT : Hid (TreeAt w t fat r lv) := ht
  clear ht hy hu
  go_enter Tryz.func73, Tryz.ntmps73
  go_wp2_with fail
  refine bodyPost_ret (results_none rfl _ _ _) rfl ?_
  exact ⟨rfl, HT.out.putRoot none, (Only.refl [t] w).setCell (p := ⟨t, 1, none⟩) (by simp) _⟩

/-- The joint's place is the other one's: what is left behind 'replace'. -/
theorem unhang_mid {w w1 : World} {t lf : Nat} {f : Fr} {c : List Fr} (nd : (lf :: f.b :: (f.sib.blocks ++ (t :: cblocks c))).Nodup) (hs : In w (some f.b) f.sib) (hn : NodeAt w1 f.sib.root { f.sib.nd (some f.b) with up := upOf c }) (o : Only [f.sib.root, headOf t c] w w1) : In w1 (upOf c) f.sib := by
  rw [nd_up] at hn
  simp only [List.nodup_cons, List.nodup_append, List.mem_cons, List.mem_append, not_or] at nd
  obtain ⟨_, _, ns, _, d⟩ := nd
  refine hs.reroot o (fun b hb hr => ?_) ns hn
  simp only [List.mem_cons, List.not_mem_nil, or_false, not_or]
  refine ⟨hr, fun e => ?_⟩
  have hd := headOf_mem t c
  rw [← e] at hd
  exact d b hb b (by simpa using hd) rfl

theorem unhang_some (t lf : Nat) (id : Int) (box room : Bx) (fat : Int) (lv : Option Nat) (f : Fr) (c : List Fr) (w : World) (nd : (lf :: f.b :: (f.sib.blocks ++ (t :: cblocks c))).Nodup) (hb : (f.sib.blocks ++ (t :: cblocks c)).length ≤ 700)
    (hi : In w (some f.b) (.leaf lf id box room)) (ha : Arnd w t fat lv (f :: c) lf) :
    Calls Tryz.prog 73 #[.pointer (some ⟨t, 0, none⟩), .pointer (some ⟨lf, 0, none⟩)] w fun e w' => e = .returned (.tuple #[]) ∧ In w' none (mendT c f.sib) ∧ TreeAt w' t fat (some (mendT c f.sib).root) lv ∧ Only (f.b :: (f.sib.blocks ++ (t :: cblocks c))) w w' := by
  obtain ⟨hz, hs, hc⟩ := ha
  have nd' := nd
  simp only [List.nodup_cons, List.nodup_append, List.mem_cons, List.mem_append, not_or] at nd'
  obtain ⟨⟨n1, n2, n3, n4⟩, ⟨n5, n6, n7⟩, n8, ⟨n9, n10⟩, n11⟩ := nd'
  have rl : f.sib.root ≠ lf := fun e => n2 (e ▸ root_mem _)
  have rb : f.sib.root ≠ f.b := fun e => n5 (e ▸ root_mem _)
  have rc : f.sib.root ∉ t :: cblocks c := fun h => n11 _ (root_mem _) _ (by simpa using h) rfl
  have bc : f.b ∉ t :: cblocks c := by simp [n6, n7]
  have c1 : w.cell? ⟨lf, 14, none⟩ = some (.pointer (some ⟨f.b, 0, none⟩)) := NodeAt.c14 hi
  have c2 := hz.c15; have c3 := hz.c16
  have H0 : Hid (In w (some f.b) f.sib ∧ Arnd w t fat lv c f.b ∧ NodeAt w f.b (f.nd (upOf c) lf) ∧ (lf :: f.b :: (f.sib.blocks ++ (t :: cblocks c))).Nodup ∧ (f.sib.blocks ++ (t :: cblocks c)).length ≤ 700) := ⟨hs, hc, hz, nd, hb⟩
  have q0 : (binOp .eql 91 (.pointer (some ⟨f.sib.root, 0, none⟩)) (.pointer (some ⟨lf, 0, none⟩))).run Tryz.prog w = .ok (.bool false) w := eql_other rl hs.node hi
  have q1 := eql_same
  clear hz hs hc hi nd hb n2 n3 n4 n5 n6 n7 n8 n9 n10 n11
  cases hl : f.left with
  | true =>
    simp only [Fr.nd, hl, if_true, ptr_some] at c2 c3
    clear q0
    generalize hr : f.sib.root = rt at c2 c3 rl rb rc ⊢
    have HR : Hid (f.sib.root = rt) := hr
    clear hr
    go_enter Tryz.func73, Tryz.ntmps73
    go_wp2_with fail
    have hr := HR.out
    subst hr
    obtain ⟨hs, hc, hz, nd, hb⟩ := H0.out
    have nd2 : (f.sib.blocks ++ (t :: cblocks c)).Nodup := (List.nodup_cons.1 (List.nodup_cons.1 nd).2).2
    have nd3 : (t :: cblocks c).Nodup := (List.nodup_append.1 nd2).2.1
    refine (replace_calls t f.b f.sib.root _ _ fat lv c w rb rc bc nd3 hz rfl hs.node hc).mono ?_
    rintro e w1 ⟨rfl, h1, a1, o1⟩
    have i1 := unhang_mid nd hs h1 o1
    have o1' : Only (f.b :: (f.sib.blocks ++ (t :: cblocks c))) w w1 := o1.mono (fun x hx => Or.inl (by
      simp only [List.mem_cons, List.not_mem_nil, or_false] at hx
      have hd := headOf_mem t c
      simp only [List.mem_cons] at hd
      simp only [List.mem_cons, List.mem_append]
      rcases hx with rfl | rfl
      · exact Or.inr (Or.inl (root_mem _))
      · exact Or.inr (Or.inr hd)))
    have c14 := i1.node.c14
    rw [nd_up'] at c14
    have H1 : Hid (In w1 (upOf c) f.sib ∧ Arnd w1 t fat lv c f.sib.root ∧ Only (f.b :: (f.sib.blocks ++ (t :: cblocks c))) w w1 ∧ (f.sib.blocks ++ (t :: cblocks c)).Nodup ∧ (f.sib.blocks ++ (t :: cblocks c)).length ≤ 800) := ⟨i1, a1, o1', nd2, by omega⟩
    clear i1 a1 o1' o1 h1 nd2 nd3 hs hc hz nd hb c1 c2 c3 H0 q1
    go_wp2_with fail
    refine (mend_calls t fat lv c f.sib w1 H1.out.2.2.2.1 H1.out.1 H1.out.2.1 H1.out.2.2.2.2).mono ?_
    rintro e w2 ⟨rfl, i2, t2, o2⟩
    have H2 : Hid (In w2 none _ ∧ TreeAt w2 t fat _ lv ∧ Only _ w1 w2) := ⟨i2, t2, o2⟩
    clear i2 t2 o2
    go_wp2_with fail
    go_end0
    obtain ⟨i2, t2, o2⟩ := H2.out
    exact ⟨rfl, i2, t2, H1.out.2.2.1.trans (o2.mono (fun x hx => Or.inl (List.mem_cons_of_mem _ hx)))⟩
  | false =>
    simp only [Fr.nd, hl, Bool.false_eq_true, if_false, ptr_some] at c2 c3
    generalize hr : f.sib.root = rt at c2 c3 rl rb rc q0 ⊢
    have HR : Hid (f.sib.root = rt) := hr
    clear hr
    go_enter Tryz.func73, Tryz.ntmps73
    go_wp2_with fail
    clear q0
    have hr := HR.out
    subst hr
    obtain ⟨hs, hc, hz, nd, hb⟩ := H0.out
    have nd2 : (f.sib.blocks ++ (t :: cblocks c)).Nodup := (List.nodup_cons.1 (List.nodup_cons.1 nd).2).2
    have nd3 : (t :: cblocks c).Nodup := (List.nodup_append.1 nd2).2.1
    refine (replace_calls t f.b f.sib.root _ _ fat lv c w rb rc bc nd3 hz rfl hs.node hc).mono ?_
    rintro e w1 ⟨rfl, h1, a1, o1⟩
    have i1 := unhang_mid nd hs h1 o1
    have o1' : Only (f.b :: (f.sib.blocks ++ (t :: cblocks c))) w w1 := o1.mono (fun x hx => Or.inl (by
      simp only [List.mem_cons, List.not_mem_nil, or_false] at hx
      have hd := headOf_mem t c
      simp only [List.mem_cons] at hd
      simp only [List.mem_cons, List.mem_append]
      rcases hx with rfl | rfl
      · exact Or.inr (Or.inl (root_mem _))
      · exact Or.inr (Or.inr hd)))
    have c14 := i1.node.c14
    rw [nd_up'] at c14
    have H1 : Hid (In w1 (upOf c) f.sib ∧ Arnd w1 t fat lv c f.sib.root ∧ Only (f.b :: (f.sib.blocks ++ (t :: cblocks c))) w w1 ∧ (f.sib.blocks ++ (t :: cblocks c)).Nodup ∧ (f.sib.blocks ++ (t :: cblocks c)).length ≤ 800) := ⟨i1, a1, o1', nd2, by omega⟩
    clear i1 a1 o1' o1 h1 nd2 nd3 hs hc hz nd hb c1 c2 c3 H0 q1
    go_wp2_with fail
    refine (mend_calls t fat lv c f.sib w1 H1.out.2.2.2.1 H1.out.1 H1.out.2.1 H1.out.2.2.2.2).mono ?_
    rintro e w2 ⟨rfl, i2, t2, o2⟩
    have H2 : Hid (In w2 none _ ∧ TreeAt w2 t fat _ lv ∧ Only _ w1 w2) := ⟨i2, t2, o2⟩
    clear i2 t2 o2
    go_wp2_with fail
    go_end0
    obtain ⟨i2, t2, o2⟩ := H2.out
    exact ⟨rfl, i2, t2, H1.out.2.2.1.trans (o2.mono (fun x hx => Or.inl (List.mem_cons_of_mem _ hx)))⟩
end Go.Proofs.YtbfkloclmlnahabGreat

namespace Go.Proofs.YtbfkloclmlnahabGreat
set_option linter.unusedVariables false
set_option linter.unusedSimpArgs false

structure Lf where
  b : Nat
  id : Int
  box : Bx
  room : Bx
def Tr.leaves : Tr → List Lf
  | ⟨b,.inl (id,box,room)⟩ => [⟨b, id, box, room⟩]
  | ⟨_,.inr (l,r)⟩ => l.leaves ++ r.leaves
theorem rot_leaves (n : Nat) (s : Tr) (tb : Nat) (kl kr : Tr) : (rot n s (.node tb kl kr)).leaves.Perm (s.leaves ++ (Tr.node tb kl kr).leaves) := by
  unfold rot; simp only; split
  · simp only [Tr.leaves, List.append_assoc]; exact List.Perm.refl _
  · simp only [Tr.leaves, List.append_assoc]; exact List.Perm.append_left _ List.perm_append_comm
theorem levelT_leaves (n : Nat) (l r : Tr) : (levelT n l r).leaves.Perm (l.leaves ++ r.leaves) := by
  have pl := high_nonneg l; have pr := high_nonneg r
  unfold levelT
  split
  · split
    · exact List.Perm.refl _
    · cases r using Tr.cs with
      | leaf => simp only [Tr.high] at *; omega
      | node tb kl kr => exact rot_leaves ..
  · split
    · exact List.Perm.refl _
    · cases l using Tr.cs with
      | leaf => simp only [Tr.high] at *; omega
      | node tb kl kr => exact (rot_leaves ..).trans List.perm_append_comm
theorem lev_leaves (f : Fr) (T : Tr) : (f.lev T).leaves.Perm (T.leaves ++ f.sib.leaves) := by
  unfold Fr.lev; split
  · exact levelT_leaves ..
  · exact (levelT_leaves ..).trans List.perm_append_comm
theorem fill_leaves (f : Fr) (T : Tr) : (f.fill T).leaves.Perm (T.leaves ++ f.sib.leaves) := by
  unfold Fr.fill; split
  · exact List.Perm.refl _
  · exact List.perm_append_comm
def cleaves : List Fr → List Lf
  | [] => []
  | f :: c => f.sib.leaves ++ cleaves c
theorem plug_leaves : ∀ (c : List Fr) (T : Tr), (plug c T).leaves.Perm (T.leaves ++ cleaves c)
  | [], T => by simp [plug, cleaves]
  | f :: c, T => by
    refine (plug_leaves c (f.fill T)).trans ((List.Perm.append_right _ (fill_leaves f T)).trans ?_)
    simp only [cleaves, List.append_assoc]; exact List.Perm.refl _
theorem mendT_leaves : ∀ (c : List Fr) (T : Tr), (mendT c T).leaves.Perm (T.leaves ++ cleaves c)
  | [], T => by simp [mendT, cleaves]
  | f :: c, T => by
    refine (mendT_leaves c (f.lev T)).trans ((List.Perm.append_right _ (lev_leaves f T)).trans ?_)
    simp only [cleaves, List.append_assoc]; exact List.Perm.refl _
theorem mendT_blocks : ∀ (c : List Fr) (T : Tr), (mendT c T).blocks.Perm (T.blocks ++ cblocks c)
  | [], T => by simp [mendT, cblocks]
  | f :: c, T => by
    refine (mendT_blocks c (f.lev T)).trans ((List.Perm.append_right _ (lev_blocks f T)).trans ?_)
    simp only [cblocks, List.cons_append, List.append_assoc]; grind

/-- Levelled: at each joint the two differ by at most 1. -/
def Bal : Tr → Prop
  | ⟨_,.inl (_,_,_)⟩ => True
  | ⟨_,.inr (l,r)⟩ => Bal l ∧ Bal r ∧ l.high ≤ r.high + 1 ∧ r.high ≤ l.high + 1
theorem greater_cases (a b : Int) : (greater a b = a ∧ b ≤ a) ∨ (greater a b = b ∧ a ≤ b) := by unfold greater; split <;> omega
theorem bal_plug : ∀ (c : List Fr) (T : Tr), Bal (plug c T) → Bal T
  | [], T, h => h
  | f :: c, T, h => by
    have := bal_plug c (f.fill T) h
    unfold Fr.fill at this; split at this
    · exact this.1
    · exact this.2.1
theorem rot_bal (n : Nat) (s : Tr) (tb : Nat) (kl kr : Tr) (hs : Bal s) (ht : Bal (.node tb kl kr)) (h : (Tr.node tb kl kr).high = s.high + 2) :
    Bal (rot n s (.node tb kl kr)) ∧ s.high + 2 ≤ (rot n s (.node tb kl kr)).high ∧ (rot n s (.node tb kl kr)).high ≤ s.high + 3 := by
  obtain ⟨hk, hr, d1, d2⟩ := ht
  simp only [Tr.high] at h
  unfold rot; simp only
  have g1 := greater_cases kl.high kr.high
  split
  · have g2 := greater_cases s.high kl.high
    have g3 := greater_cases (1 + greater s.high kl.high) kr.high
    simp only [Bal, Tr.high]
    refine ⟨⟨⟨hs, hk, ?_, ?_⟩, hr, ?_, ?_⟩, ?_, ?_⟩ <;> omega
  · have g2 := greater_cases s.high kr.high
    have g3 := greater_cases (1 + greater s.high kr.high) kl.high
    simp only [Bal, Tr.high]
    refine ⟨⟨⟨hs, hr, ?_, ?_⟩, hk, ?_, ?_⟩, ?_, ?_⟩ <;> omega
theorem levelT_bal (n : Nat) (l r : Tr) (hl : Bal l) (hr : Bal r) (h1 : l.high ≤ r.high + 2) (h2 : r.high ≤ l.high + 2) :
    Bal (levelT n l r) ∧ ((levelT n l r).high = 1 + greater l.high r.high ∨ ((levelT n l r).high = greater l.high r.high ∧ (l.high = r.high + 2 ∨ r.high = l.high + 2))) := by
  have pl := high_nonneg l; have pr := high_nonneg r
  have g := greater_cases l.high r.high
  unfold levelT
  split
  · split
    · exact ⟨⟨hl, hr, by omega, by omega⟩, Or.inl rfl⟩
    · cases r using Tr.cs with
      | leaf => simp only [Tr.high] at *; omega
      | node tb kl kr =>
        have := rot_bal n l tb kl kr hl hr (by omega)
        exact ⟨this.1, by omega⟩
  · split
    · exact ⟨⟨hl, hr, by omega, by omega⟩, Or.inl rfl⟩
    · cases l using Tr.cs with
      | leaf => simp only [Tr.high] at *; omega
      | node tb kl kr =>
        have := rot_bal n r tb kl kr hr hl (by omega)
        exact ⟨this.1, by omega⟩
theorem mendT_bal : ∀ (c : List Fr) (T T' : Tr), Bal (plug c T) → Bal T' → T'.high ≤ T.high + 1 → T.high ≤ T'.high + 1 → Bal (mendT c T')
  | [], T, T', h, h', _, _ => h'
  | f :: c, T, T', h, h', d1, d2 => by
    have hb := bal_plug c (f.fill T) h
    have key : Bal (f.lev T') ∧ (f.lev T').high ≤ (f.fill T).high + 1 ∧ (f.fill T).high ≤ (f.lev T').high + 1 := by
      unfold Fr.fill at hb ⊢
      unfold Fr.lev
      cases hl : f.left with
      | true =>
        simp only [hl, if_true] at hb ⊢
        have := hb.2.2
        have q := levelT_bal f.b T' f.sib h' hb.2.1 (by omega) (by omega)
        have g1 := greater_cases T.high f.sib.high; have g2 := greater_cases T'.high f.sib.high
        have := hb.2.2
        refine ⟨q.1, ?_, ?_⟩ <;> simp only [Tr.high] <;> omega
      | false =>
        simp only [hl, Bool.false_eq_true, if_false] at hb ⊢
        have := hb.2.2
        have q := levelT_bal f.b f.sib T' hb.1 h' (by omega) (by omega)
        have g1 := greater_cases f.sib.high T.high; have g2 := greater_cases f.sib.high T'.high
        have := hb.2.2
        refine ⟨q.1, ?_, ?_⟩ <;> simp only [Tr.high] <;> omega
    exact mendT_bal c (f.fill T) (f.lev T') h key.1 key.2.1 key.2.2

theorem leaves_pos : ∀ T : Tr, 0 < T.leaves.length
  | ⟨_,.inl (_,_,_)⟩ => by simp [Tr.leaves]
  | ⟨_,.inr (l,r)⟩ => by have := leaves_pos l; simp [Tr.leaves]; omega
theorem blocks_leaves : ∀ T : Tr, T.blocks.length + 1 = 2 * T.leaves.length
  | ⟨_,.inl (_,_,_)⟩ => by simp [Tr.blocks, Tr.leaves]
  | ⟨_,.inr (l,r)⟩ => by have := blocks_leaves l; have := blocks_leaves r; simp only [Tr.blocks, Tr.leaves, List.length_cons, List.length_append]; omega
def meetX (a b : Bx) : Bool := meetB a.x0 a.x1 a.x2 a.x3 a.x4 a.x5 b.x0 b.x1 b.x2 b.x3 b.x4 b.x5
def withinX (a b : Bx) : Bool := withinB a.x0 a.x1 a.x2 a.x3 a.x4 a.x5 b.x0 b.x1 b.x2 b.x3 b.x4 b.x5
theorem meetX_iff (a b : Bx) : meetX a b = true ↔ (a.x0 ≤ b.x3 ∧ b.x0 ≤ a.x3) ∧ (a.x1 ≤ b.x4 ∧ b.x1 ≤ a.x4) ∧ (a.x2 ≤ b.x5 ∧ b.x2 ≤ a.x5) := by
  unfold meetX meetB; simp only [Bool.and_eq_true, decide_eq_true_eq, and_assoc]
theorem withinX_iff (a b : Bx) : withinX a b = true ↔ (b.x0 ≤ a.x0 ∧ a.x3 ≤ b.x3) ∧ (b.x1 ≤ a.x1 ∧ a.x4 ≤ b.x4) ∧ (b.x2 ≤ a.x2 ∧ a.x5 ≤ b.x5) := by
  unfold withinX withinB; simp only [Bool.and_eq_true, decide_eq_true_eq, and_assoc]
theorem meet_within {a b q : Bx} (h : withinX a b = true) (m : meetX a q = true) : meetX b q = true := by
  rw [withinX_iff] at h; rw [meetX_iff] at m ⊢; omega
theorem within_trans {a b c : Bx} (h : withinX a b = true) (k : withinX b c = true) : withinX a c = true := by
  rw [withinX_iff] at *; omega
theorem lesser_le (a b : Int) : lesser a b ≤ a ∧ lesser a b ≤ b := by unfold lesser; split <;> omega
theorem greater_ge' (a b : Int) : a ≤ greater a b ∧ b ≤ greater a b := by unfold greater; split <;> omega
theorem within_both (a b : Bx) : withinX a (bothX a b) = true ∧ withinX b (bothX a b) = true := by
  have l0 := lesser_le a.x0 b.x0; have l1 := lesser_le a.x1 b.x1; have l2 := lesser_le a.x2 b.x2
  have g3 := greater_ge' a.x3 b.x3; have g4 := greater_ge' a.x4 b.x4; have g5 := greater_ge' a.x5 b.x5
  rw [withinX_iff, withinX_iff]
  simp only [bothX]
  omega
/-- Each leaf's box lies in its room. -/
def Fits (T : Tr) : Prop := ∀ x ∈ T.leaves, withinX x.box x.room = true
theorem fits_room : ∀ (T : Tr), Fits T → ∀ x ∈ T.leaves, withinX x.box T.room = true
  | ⟨_,.inl (_,_,_)⟩, h, x, hx => by have := h x hx; simp only [Tr.leaves, List.mem_singleton] at hx; subst hx; exact this
  | ⟨_,.inr (l,r)⟩, h, x, hx => by
    simp only [Tr.leaves, List.mem_append] at hx
    rcases hx with hx | hx
    · exact within_trans (fits_room l (fun y hy => h y (by simp [Tr.leaves, hy])) x hx) (within_both _ _).1
    · exact within_trans (fits_room r (fun y hy => h y (by simp [Tr.leaves, hy])) x hx) (within_both _ _).2
/-- What 'meeting' tells. -/
def meetIds (q : Bx) : Tr → List Int
  | ⟨_,.inl (id,box,room)⟩ => if meetX room q then (if meetX box q then [id] else []) else []
  | ⟨_,.inr (l,r)⟩ => if meetX (bothX l.room r.room) q then meetIds q l ++ meetIds q r else []
def idsOf (q : Bx) (L : List Lf) : List Int := (L.filter (fun x => meetX x.box q)).map Lf.id
theorem meetIds_eq (q : Bx) : ∀ T : Tr, Fits T → meetIds q T = idsOf q T.leaves
  | ⟨b,.inl (id,box,room)⟩, h => by
    have hw : withinX box room = true := h ⟨b, id, box, room⟩ (by simp [Tr.leaves])
    simp only [meetIds, Tr.leaves, idsOf, List.filter_cons, List.filter_nil]
    by_cases hm : meetX box q = true
    · rw [if_pos (meet_within hw hm), if_pos hm, if_pos hm]; rfl
    · rw [if_neg hm, if_neg hm]; split <;> rfl
  | ⟨b,.inr (l,r)⟩, h => by
    have el := meetIds_eq q l (fun y hy => h y (by simp [Tr.leaves, hy]))
    have er := meetIds_eq q r (fun y hy => h y (by simp [Tr.leaves, hy]))
    simp only [meetIds, Tr.leaves]
    split
    · rw [el, er]; simp [idsOf]
    · rename_i hm
      have hnone : idsOf q (l.leaves ++ r.leaves) = [] := by
        simp only [idsOf, List.map_eq_nil_iff, List.filter_eq_nil_iff]
        intro x hx hmx
        exact hm (meet_within (fits_room (.node b l r) h x hx) hmx)
      rw [hnone]
theorem meetIds_le (q : Bx) (T : Tr) : (meetIds q T).length ≤ T.leaves.length := by
  induction T using Tr.ind with
  | leaf => simp only [meetIds, Tr.leaves]; split <;> (try split) <;> simp
  | node b l r hl hr => simp only [meetIds, Tr.leaves]; split <;> simp; omega
end Go.Proofs.YtbfkloclmlnahabGreat
