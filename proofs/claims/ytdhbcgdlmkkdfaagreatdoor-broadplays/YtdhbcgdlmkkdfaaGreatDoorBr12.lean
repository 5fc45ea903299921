/- broad.Tree.hang and unhang, told by what hangs in the tree: a leaf more, a leaf less; the tree stays levelled: whatever it is. -/
import Derived.Test.YtdhbcgdlmkkdfaaGreatDoorBr11
namespace Go.Proofs.YtdhbcgdlmkkdfaaGreatDoor
open Go.ChangeShapes Go.WideShapes Go.ChangeAt Go.RowKit
set_option linter.unusedVariables false
set_option linter.unusedSimpArgs false

def Lf.tree (x : Lf) : Tr := .leaf x.b x.id x.box x.room
/-- The way to a leaf. -/
theorem way_to {w : World} {t : Nat} {fat : Int} {lv : Option Nat} (x : Lf) : ∀ (T : Tr) (c : List Fr), In w (upOf c) T → Arnd w t fat lv c T.root → x ∈ T.leaves → ∃ c', plug c' x.tree = plug c T ∧ In w (upOf c') x.tree ∧ Arnd w t fat lv c' x.b
  | ⟨b, .inl (id, box, room)⟩, c, hi, ha, hx => by
    simp only [Tr.leaves, List.mem_singleton] at hx
    subst hx
    exact ⟨c, rfl, hi, ha⟩
  | ⟨b, .inr (l, r)⟩, c, hi, ha, hx => by
    simp only [Tr.leaves, List.mem_append] at hx
    rcases hx with hx | hx
    · exact way_to x l (frL b l r :: c) (go_left hi ha).1 (go_left hi ha).2 hx
    · exact way_to x r (frR b l r :: c) (go_right hi ha).1 (go_right hi ha).2 hx

/-- A tree, or none. -/
def rootO (T : Option Tr) : Option Nat := T.map Tr.root
def InO (w : World) : Option Tr → Prop
  | none => True
  | some T => In w none T ∧ Bal T
def blocksO : Option Tr → List Nat
  | none => []
  | some T => T.blocks
def leavesO : Option Tr → List Lf
  | none => []
  | some T => T.leaves
theorem InO.only {D : List Nat} {w w' : World} (o : Only D w w') {T : Option Tr} (s : ∀ b ∈ blocksO T, b ∉ D) (h : InO w T) : InO w' T := by
  cases T with
  | none => trivial
  | some T => exact ⟨h.1.only o s, h.2⟩

theorem hang_calls (t : Nat) (fat : Int) (lv : Option Nat) (T : Option Tr) (x : Lf) (w : World) (nd : (x.b :: t :: blocksO T).Nodup) (hb : (leavesO T).length ≤ 300) (hi : InO w T) (ht : TreeAt w t fat (rootO T) lv) (hy : In w none x.tree) :
    Calls Tryz.prog 21 #[.pointer (some ⟨t, 0, none⟩), .pointer (some ⟨x.b, 0, none⟩)] w fun e w' => e = .returned (.tuple #[]) ∧ ∃ T', InO w' (some T') ∧ TreeAt w' t fat (some T'.root) lv ∧ T'.leaves.Perm (x :: leavesO T) ∧ (t :: T'.blocks).Nodup ∧ (∀ b ∈ T'.blocks, b ∈ x.b :: blocksO T ∨ w.heap.size ≤ b) ∧ Only (x.b :: t :: blocksO T) w w' := by
  cases T with
  | none =>
    simp only [blocksO, List.nodup_cons, List.mem_singleton, List.not_mem_nil, not_false_eq_true, List.nodup_nil, and_true] at nd
    refine (hang_nil t x.b fat lv w ht).mono ?_
    rintro e w' ⟨rfl, ht', o⟩
    refine ⟨rfl, x.tree, ⟨hy.only o (by simp [Lf.tree, Tr.blocks, nd]), trivial⟩, ht', List.Perm.refl _, ?_, by simp [Lf.tree, Tr.blocks, blocksO], o.mono (by simp)⟩
    simp [Lf.tree, Tr.blocks, Ne.symm nd]
  | some T =>
    have hl := blocks_leaves T
    simp only [leavesO] at hb
    refine (hang_some t x.b x.id x.box x.room fat lv T w nd (by omega) hi.1 ht hy).mono ?_
    rintro e w' ⟨rfl, c, b, id', box', room', j, hp, hj, hi', ht', o⟩
    have bal := hi.2
    have p1 := mendT_leaves c (.node j (.leaf b id' box' room') x.tree)
    have p2 := plug_leaves c (.leaf b id' box' room')
    have p3 := mendT_blocks c (.node j (.leaf b id' box' room') x.tree)
    have p4 := plug_blocks c (.leaf b id' box' room')
    rw [hp] at p2 p4
    have p5 : (mendT c (.node j (.leaf b id' box' room') x.tree)).blocks.Perm (j :: x.b :: T.blocks) := by
      refine p3.trans (List.Perm.trans ?_ (List.Perm.cons _ (List.Perm.cons _ p4.symm)))
      simp only [Tr.blocks, Lf.tree, List.cons_append, List.nil_append, List.append_assoc]; grind
    have hlt : ∀ b ∈ x.b :: t :: T.blocks, b < w.heap.size := by
      intro b hb
      simp only [List.mem_cons] at hb
      rcases hb with rfl | rfl | hb
      · exact NodeAt.lt hy
      · exact ht.lt
      · exact hi.1.lt b hb
    refine ⟨rfl, mendT c (.node j (.leaf b id' box' room') x.tree), ⟨hi', ?_⟩, ht', ?_, ?_, ?_, o⟩
    · refine mendT_bal c (.leaf b id' box' room') _ (by rw [hp]; exact bal) ⟨trivial, trivial, ?_, ?_⟩ ?_ ?_ <;> simp only [Lf.tree, Tr.high] <;> (try unfold greater) <;> (try split) <;> omega
    · refine p1.trans (List.Perm.trans ?_ (List.Perm.cons _ p2.symm))
      simp only [Tr.leaves, Lf.tree, List.cons_append, List.nil_append]
      exact List.Perm.swap _ _ _
    · refine (List.Perm.cons t p5).symm.nodup ?_
      have hjn : j ∉ x.b :: t :: T.blocks := fun h => by have := hlt j h; omega
      simp only [blocksO, List.nodup_cons, List.mem_cons, not_or] at nd hjn ⊢
      exact ⟨⟨Ne.symm hjn.2.1, Ne.symm nd.1.1, nd.2.1⟩, ⟨hjn.1, hjn.2.2⟩, nd.1.2, nd.2.2⟩
    · intro b hb
      have := p5.mem_iff.1 hb
      simp only [List.mem_cons, blocksO] at this ⊢
      rcases this with rfl | h
      · exact Or.inr hj
      · exact Or.inl h

theorem leaf_block {T : Tr} {x : Lf} (h : x ∈ T.leaves) : x.b ∈ T.blocks := by
  induction T using Tr.ind with
  | leaf => simp only [Tr.leaves, List.mem_singleton] at h; subst h; simp [Tr.blocks]
  | node b l r hl hr => simp only [Tr.leaves, List.mem_append] at h; simp only [Tr.blocks, List.mem_cons, List.mem_append]; rcases h with h | h; exact Or.inr (Or.inl (hl h)); exact Or.inr (Or.inr (hr h))

theorem unhang_calls (t : Nat) (fat : Int) (lv : Option Nat) (T : Tr) (x : Lf) (w : World) (nd : (t :: T.blocks).Nodup) (hb : T.leaves.length ≤ 300) (hi : InO w (some T)) (ht : TreeAt w t fat (some T.root) lv) (hx : x ∈ T.leaves) :
    Calls Tryz.prog 19 #[.pointer (some ⟨t, 0, none⟩), .pointer (some ⟨x.b, 0, none⟩)] w fun e w' => e = .returned (.tuple #[]) ∧ ∃ T' : Option Tr, InO w' T' ∧ TreeAt w' t fat (rootO T') lv ∧ T.leaves.Perm (x :: leavesO T') ∧ (t :: blocksO T').Nodup ∧ (∀ b ∈ blocksO T', b ∈ T.blocks) ∧ x.b ∉ blocksO T' ∧ Only (t :: T.blocks) w w' := by
  obtain ⟨c, hp, hx', ha⟩ := way_to x T [] hi.1 ht hx
  have bal := hi.2
  simp only [plug] at hp
  have p2 := plug_leaves c x.tree
  have p4 := plug_blocks c x.tree
  rw [hp] at p2 p4
  cases c with
  | nil =>
    simp only [plug] at hp
    refine (unhang_top t x.b _ fat _ lv w rfl hx' ht).mono ?_
    rintro e w' ⟨rfl, ht', o⟩
    refine ⟨rfl, none, trivial, ht', ?_, by simp [blocksO], by simp [blocksO], by simp [blocksO], o.mono (by simp)⟩
    rw [← hp]; exact List.Perm.refl _
  | cons f c =>
    have p6 : (t :: T.blocks).Perm (x.b :: f.b :: (f.sib.blocks ++ (t :: cblocks c))) := by
      refine (List.Perm.cons _ p4).trans ?_
      simp only [Tr.blocks, Lf.tree, cblocks, List.cons_append, List.nil_append]; grind
    have nd2 := p6.nodup nd
    have hl := blocks_leaves T
    have hlen := p6.length_eq
    simp only [List.length_cons, List.length_append] at hlen
    refine (unhang_some t x.b x.id x.box x.room fat lv f c w nd2 (by simp only [List.length_append, List.length_cons]; omega) hx' ha).mono ?_
    rintro e w' ⟨rfl, hi', ht', o⟩
    have p1 := mendT_leaves c f.sib
    have p3 := mendT_blocks c f.sib
    have p7 : (t :: (mendT c f.sib).blocks).Perm (f.sib.blocks ++ (t :: cblocks c)) := by
      refine (List.Perm.cons _ p3).trans ?_
      exact List.perm_middle.symm
    have nd3 : (f.sib.blocks ++ (t :: cblocks c)).Nodup := (List.nodup_cons.1 (List.nodup_cons.1 nd2).2).2
    refine ⟨rfl, some (mendT c f.sib), ⟨hi', ?_⟩, ht', ?_, p7.symm.nodup nd3, ?_, ?_, o.mono (fun b hb => Or.inl (p6.mem_iff.2 (List.mem_cons_of_mem _ hb)))⟩
    · have hb2 : Bal (plug c (f.fill x.tree)) := by rw [show plug c (f.fill x.tree) = T from hp]; exact bal
      have hb3 := bal_plug c _ hb2
      have hs := high_nonneg f.sib
      have hsb : Bal f.sib := by unfold Fr.fill at hb3; split at hb3; exact hb3.2.1; exact hb3.1
      have hh : (f.fill x.tree).high = 1 + f.sib.high := by
        unfold Fr.fill; split <;> simp only [Tr.high, Lf.tree]
        · have := greater_cases 0 f.sib.high; omega
        · have := greater_cases f.sib.high 0; omega
      exact mendT_bal c (f.fill x.tree) f.sib hb2 hsb (by omega) (by omega)
    · refine p2.trans ?_
      simp only [Tr.leaves, Lf.tree, cleaves, List.cons_append, List.nil_append]
      exact List.Perm.cons _ p1.symm
    · intro b hb
      have h1 : b ∈ t :: (mendT c f.sib).blocks := List.mem_cons_of_mem _ hb
      have h2 := p6.mem_iff.2 (List.mem_cons_of_mem x.b (List.mem_cons_of_mem f.b (p7.mem_iff.1 h1)))
      rcases List.mem_cons.1 h2 with e | h2
      · have h3 := p7.symm.nodup nd3
        rw [List.nodup_cons] at h3
        exact absurd (e ▸ hb) h3.1
      · exact h2
    · intro hb
      have h1 : x.b ∈ t :: (mendT c f.sib).blocks := List.mem_cons_of_mem _ hb
      exact (List.nodup_cons.1 nd2).1 (List.mem_cons_of_mem _ (p7.mem_iff.1 h1))
end Go.Proofs.YtdhbcgdlmkkdfaaGreatDoor
