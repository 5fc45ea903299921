/- Trees as they lie in memory, a hole in one with all around it, and broad.Tree.replace: whatever the tree. -/
import Derived.Test.YtdhbcgdlmkkdfaaGreatDoorBr2
import Derived.LaidEql
namespace Go.Proofs.YtdhbcgdlmkkdfaaGreatDoor
open Go.ChangeShapes Go.WideShapes Go.ChangeAt Go.RowKit
set_option linter.unusedVariables false
set_option linter.unusedSimpArgs false

structure Tr where
  b : Nat
  d : (Int × Bx × Bx) ⊕ (Tr × Tr)
abbrev Tr.leaf (b : Nat) (id : Int) (box room : Bx) : Tr := ⟨b, .inl (id, box, room)⟩
abbrev Tr.node (b : Nat) (l r : Tr) : Tr := ⟨b, .inr (l, r)⟩
theorem Tr.ind {P : Tr → Prop} (leaf : ∀ b id box room, P (.leaf b id box room)) (node : ∀ b l r, P l → P r → P (.node b l r)) : ∀ T, P T
  | ⟨b, .inl (id, box, room)⟩ => leaf b id box room
  | ⟨b, .inr (l, r)⟩ => node b l r (Tr.ind leaf node l) (Tr.ind leaf node r)
theorem Tr.cs {P : Tr → Prop} (leaf : ∀ b id box room, P (.leaf b id box room)) (node : ∀ b l r, P (.node b l r)) (T : Tr) : P T := Tr.ind leaf (fun b l r _ _ => node b l r) T
def Tr.root : Tr → Nat
  | ⟨b, .inl (_, _, _)⟩ => b
  | ⟨b, .inr (_, _)⟩ => b
def Tr.high : Tr → Int
  | ⟨_, .inl (_, _, _)⟩ => 0
  | ⟨_, .inr (l, r)⟩ => 1 + greater l.high r.high
def Tr.room : Tr → Bx
  | ⟨_, .inl (_, _, r)⟩ => r
  | ⟨_, .inr (l, r)⟩ => bothX l.room r.room
def Tr.blocks : Tr → List Nat
  | ⟨b, .inl (_, _, _)⟩ => [b]
  | ⟨b, .inr (l, r)⟩ => b :: (l.blocks ++ r.blocks)
/-- What the root's cells hold. -/
def Tr.nd (up : Option Nat) : Tr → Nd
  | ⟨_, .inl (id, box, room)⟩ => ⟨id, box, room, 0, up, none, none⟩
  | ⟨_, .inr (l, r)⟩ => ⟨0, bx0, bothX l.room r.room, 1 + greater l.high r.high, up, some l.root, some r.root⟩
def In (w : World) (up : Option Nat) : Tr → Prop
  | ⟨b, .inl (id, box, room)⟩ => NodeAt w b ((Tr.leaf b id box room).nd up)
  | ⟨b, .inr (l, r)⟩ => NodeAt w b ((Tr.node b l r).nd up) ∧ In w (some b) l ∧ In w (some b) r

theorem nd_room (up : Option Nat) (T : Tr) : (T.nd up).room = T.room := by cases T using Tr.cs <;> rfl
theorem nd_high (up : Option Nat) (T : Tr) : (T.nd up).high = T.high := by cases T using Tr.cs <;> rfl
theorem nd_up (up u : Option Nat) (T : Tr) : { T.nd up with up := u } = T.nd u := by cases T using Tr.cs <;> rfl
theorem nd_up' (up : Option Nat) (T : Tr) : (T.nd up).up = up := by cases T using Tr.cs <;> rfl
theorem root_mem (T : Tr) : T.root ∈ T.blocks := by cases T using Tr.cs <;> simp [Tr.root, Tr.blocks]
theorem high_nonneg : ∀ T : Tr, 0 ≤ T.high
  | ⟨_, .inl (_, _, _)⟩ => Int.le_refl _
  | ⟨_, .inr (l, r)⟩ => by have := high_nonneg l; have := high_nonneg r; unfold Tr.high greater; split <;> omega
theorem In.node {w : World} {up : Option Nat} {T : Tr} (h : In w up T) : NodeAt w T.root (T.nd up) := by
  cases T using Tr.cs with
  | leaf => exact h
  | node => exact h.1
theorem In.only {D : List Nat} {w w' : World} (o : Only D w w') : ∀ {T : Tr} {up : Option Nat}, (∀ b ∈ T.blocks, b ∉ D) → In w up T → In w' up T
  | ⟨b, .inl (_, _, _)⟩, _, s, h => o.node (s b (by simp [Tr.blocks])) h
  | ⟨b, .inr (l, r)⟩, _, s, h => ⟨o.node (s b (by simp [Tr.blocks])) h.1, In.only o (fun x hx => s x (by simp [Tr.blocks, hx])) h.2.1, In.only o (fun x hx => s x (by simp [Tr.blocks, hx])) h.2.2⟩
theorem In.drewN {w : World} {up : Option Nat} {T : Tr} (h : In w up T) (k : Nat) : In (w.drewN k) up T := h.only (Only.drewN (D := []) w k) (by simp)
/-- The root's cells have been written anew; below it nothing has turned. -/
theorem In.reroot {D : List Nat} {w w' : World} (o : Only D w w') {T : Tr} {up u : Option Nat} (h : In w up T) (s : ∀ b ∈ T.blocks, b ≠ T.root → b ∉ D) (nd : T.blocks.Nodup) (k : NodeAt w' T.root (T.nd u)) : In w' u T := by
  cases T using Tr.cs with
  | leaf => exact k
  | node b l r =>
    simp only [Tr.blocks, List.nodup_cons, List.mem_append, not_or] at nd
    refine ⟨k, In.only o (fun x hx => s x (by simp [Tr.blocks, hx]) ?_) h.2.1, In.only o (fun x hx => s x (by simp [Tr.blocks, hx]) ?_) h.2.2⟩
    · exact fun e => nd.1.1 (by rw [show x = b from e] at hx; exact hx)
    · exact fun e => nd.1.2 (by rw [show x = b from e] at hx; exact hx)

/-- A joint with a hole below it: at the left, or at the right. -/
structure Fr where
  b : Nat
  room : Bx
  high : Int
  left : Bool
  sib : Tr
def upOf : List Fr → Option Nat
  | [] => none
  | f :: _ => some f.b
def Fr.nd (f : Fr) (up : Option Nat) (h : Nat) : Nd := ⟨0, bx0, f.room, f.high, up, some (if f.left then h else f.sib.root), some (if f.left then f.sib.root else h)⟩
def Arnd (w : World) (t : Nat) (fat : Int) (lv : Option Nat) : List Fr → Nat → Prop
  | [], h => TreeAt w t fat (some h) lv
  | f :: c, h => NodeAt w f.b (f.nd (upOf c) h) ∧ In w (some f.b) f.sib ∧ Arnd w t fat lv c f.b
def cblocks : List Fr → List Nat
  | [] => []
  | f :: c => f.b :: (f.sib.blocks ++ cblocks c)
theorem Arnd.only {D : List Nat} {w w' : World} (o : Only D w w') {t : Nat} {fat : Int} {lv : Option Nat} : ∀ {c : List Fr} {h : Nat}, (∀ b ∈ t :: cblocks c, b ∉ D) → Arnd w t fat lv c h → Arnd w' t fat lv c h
  | [], _, s, k => o.tree (s t (by simp)) k
  | f :: c, _, s, k => ⟨o.node (s f.b (by simp [cblocks])) k.1, k.2.1.only o (fun x hx => s x (by simp [cblocks, hx])), Arnd.only o (fun x hx => s x (by simp only [List.mem_cons, cblocks, List.mem_append] at hx ⊢; rcases hx with hx | hx <;> simp [hx])) k.2.2⟩
/-- The block that leads to the hole. -/
def headOf (t : Nat) : List Fr → Nat
  | [] => t
  | f :: _ => f.b
theorem headOf_mem (t : Nat) (c : List Fr) : headOf t c ∈ t :: cblocks c := by cases c <;> simp [headOf, cblocks]

section
variable {P : Program} (w : World)
theorem equalIn_same (d : Nat) {tp te : TypeId} {j : TypeInfo} (a : Addr) (hp : P.underlying tp = some (.pointer te)) (hte : P.info? te = some j) : (Op.equalIn (d + 1) tp (.pointer (some a)) (.pointer (some a))).run P w = .ok true w := by
  simp [Op.equalIn, run_underlying hp, sizeOf, typeInfo, run_sameAddr_same, hte]
theorem equalIn_other (d : Nat) {tp te : TypeId} {j : TypeInfo} {a b : Addr} {ca cb : Array Value} {ta tb : TypeId} (hp : P.underlying tp = some (.pointer te)) (hte : P.info? te = some j) (hsz : j.size ≠ 0)
    (hne : a ≠ b) (ha : w.heap[a.block]? = some (.cells ca ta (0, 0))) (hb : w.heap[b.block]? = some (.cells cb tb (0, 0))) : (Op.equalIn (d + 1) tp (.pointer (some a)) (.pointer (some b))).run P w = .ok false w := by
  simp [Op.equalIn, run_underlying hp, sizeOf, typeInfo, hte, hsz, run_sameAddr_other w hne ha hb]
theorem eql_ptr_same {tp te : TypeId} {j : TypeInfo} (a : Addr) (hp : P.underlying tp = some (.pointer te)) (hte : P.info? te = some j) : (binOp .eql tp (.pointer (some a)) (.pointer (some a))).run P w = .ok (.bool true) w := by
  simp only [binOp]
  simp [Op.equal, Op.maxDepth, equalIn_same w 9999 a hp hte]
theorem eql_ptr_other {tp te : TypeId} {j : TypeInfo} {a b : Addr} {ca cb : Array Value} {ta tb : TypeId} (hp : P.underlying tp = some (.pointer te)) (hte : P.info? te = some j) (hsz : j.size ≠ 0)
    (hne : a ≠ b) (ha : w.heap[a.block]? = some (.cells ca ta (0, 0))) (hb : w.heap[b.block]? = some (.cells cb tb (0, 0))) : (binOp .eql tp (.pointer (some a)) (.pointer (some b))).run P w = .ok (.bool false) w := by
  simp only [binOp]
  simp [Op.equal, Op.maxDepth, equalIn_other w 9999 hp hte hsz hne ha hb]
end
theorem nodeInfo : (Tryz.prog.info? 63).map (fun i => i.size) = some 17 := by kernel_rfl
theorem node_info : ∃ j, Tryz.prog.info? 63 = some j ∧ j.size ≠ 0 := by
  have h := nodeInfo
  cases e : Tryz.prog.info? 63 with
  | none => rw [e] at h; cases h
  | some j => rw [e] at h; simp only [Option.map_some, Option.some.injEq] at h; exact ⟨j, rfl, by omega⟩
theorem eql_same (w : World) (a : Nat) : (binOp .eql 52 (.pointer (some ⟨a, 0, none⟩)) (.pointer (some ⟨a, 0, none⟩))).run Tryz.prog w = .ok (.bool true) w := by
  obtain ⟨j, hj, _⟩ := node_info
  exact eql_ptr_same w _ Tryz.underlying52 hj
theorem eql_other {w : World} {a b : Nat} {x y : Nd} (h : a ≠ b) (ha : NodeAt w a x) (hb : NodeAt w b y) : (binOp .eql 52 (.pointer (some ⟨a, 0, none⟩)) (.pointer (some ⟨b, 0, none⟩))).run Tryz.prog w = .ok (.bool false) w := by
  obtain ⟨j, hj, hs⟩ := node_info
  exact eql_ptr_other w Tryz.underlying52 hj hs (fun e => h (by injection e)) ha hb

theorem replace_top (t old by_ : Nat) (x y : Nd) (fat : Int) (r lv : Option Nat) (w : World) (e1 : by_ ≠ old) (e2 : t ≠ by_) (e3 : t ≠ old) (hx : NodeAt w old x) (hu : x.up = none) (hy : NodeAt w by_ y) (ht : TreeAt w t fat r lv) :
    Calls Tryz.prog 31 #[.pointer (some ⟨t, 0, none⟩), .pointer (some ⟨old, 0, none⟩), .pointer (some ⟨by_, 0, none⟩)] w fun e w' => e = .returned (.tuple #[]) ∧ NodeAt w' by_ { y with up := none } ∧ TreeAt w' t fat (some by_) lv ∧ Only [by_, t] w w' := by
  have c1 := hx.c14; rw [hu] at c1; simp only [ptr_none] at c1
  have c2 := hy.c14; have f2 := hy.free; have c3 := ht.c1; have f3 := ht.free
  have HN : Hid (NodeAt w by_ y ∧ TreeAt w t fat r lv) := ⟨hy, ht⟩
  clear hx hy ht hu
  go_enter Tryz.func31, Tryz.ntmps31
  go_wp2_with fail
  go_end0
  obtain ⟨hy, ht⟩ := HN.out
  exact ⟨rfl, (hy.putUp none).far (p := ⟨t, 1, none⟩) (Ne.symm e2) _, (ht.far (p := ⟨by_, 14, none⟩) e2 _).putRoot (some by_), ((Only.refl [by_, t] w).setCell (p := ⟨by_, 14, none⟩) (by simp) _).setCell (p := ⟨t, 1, none⟩) (by simp) _⟩
set_option maxRecDepth 100000 in
theorem replace_left (t old by_ p : Nat) (x y z : Nd) (w : World) (e1 : by_ ≠ old) (e2 : p ≠ by_) (e3 : p ≠ old) (hx : NodeAt w old x) (hu : x.up = some p) (hy : NodeAt w by_ y) (hz : NodeAt w p z) (hl : z.l = some old) :
    Calls Tryz.prog 31 #[.pointer (some ⟨t, 0, none⟩), .pointer (some ⟨old, 0, none⟩), .pointer (some ⟨by_, 0, none⟩)] w fun e w' => e = .returned (.tuple #[]) ∧ NodeAt w' by_ { y with up := some p } ∧ NodeAt w' p { z with l := some by_ } ∧ Only [by_, p] w w' := by
  have c1 := hx.c14; rw [hu] at c1; simp only [ptr_some] at c1
  have c2 := hy.c14; have f2 := hy.free; have c3 := hz.c15; have f3 := hz.free; rw [hl] at c3; simp only [ptr_some] at c3
  have HN : Hid (NodeAt w by_ y ∧ NodeAt w p z) := ⟨hy, hz⟩
  have q1 := eql_same
  clear hx hy hz hu hl
  go_enter Tryz.func31, Tryz.ntmps31
  go_wp2_with fail
  go_end0
  obtain ⟨hy, hz⟩ := HN.out
  exact ⟨rfl, (hy.putUp (some p)).far (p := ⟨p, 15, none⟩) (Ne.symm e2) _, (hz.far (p := ⟨by_, 14, none⟩) e2 _).putL (some by_), ((Only.refl [by_, p] w).setCell (p := ⟨by_, 14, none⟩) (by simp) _).setCell (p := ⟨p, 15, none⟩) (by simp) _⟩
set_option maxRecDepth 100000 in
theorem replace_right (t old by_ p q : Nat) (x y z : Nd) (w : World) (e1 : by_ ≠ old) (e2 : p ≠ by_) (e3 : p ≠ old) (e4 : q ≠ old) (hx : NodeAt w old x) (hu : x.up = some p) (hy : NodeAt w by_ y) (hz : NodeAt w p z) {u : Nd} (hq : NodeAt w q u) (e5 : q ≠ by_) (hl : z.l = some q) :
    Calls Tryz.prog 31 #[.pointer (some ⟨t, 0, none⟩), .pointer (some ⟨old, 0, none⟩), .pointer (some ⟨by_, 0, none⟩)] w fun e w' => e = .returned (.tuple #[]) ∧ NodeAt w' by_ { y with up := some p } ∧ NodeAt w' p { z with r := some by_ } ∧ Only [by_, p] w w' := by
  have c1 := hx.c14; rw [hu] at c1; simp only [ptr_some] at c1
  have c2 := hy.c14; have f2 := hy.free; have c3 := hz.c15; have c4 := hz.c16; have f3 := hz.free; rw [hl] at c3; simp only [ptr_some] at c3
  have HN : Hid (NodeAt w by_ y ∧ NodeAt w p z) := ⟨hy, hz⟩
  have q1 : ∀ v, (binOp .eql 52 (.pointer (some ⟨q, 0, none⟩)) (.pointer (some ⟨old, 0, none⟩))).run Tryz.prog (w.setCell ⟨by_, 14, none⟩ v) = .ok (.bool false) (w.setCell ⟨by_, 14, none⟩ v) := fun v => eql_other e4 (hq.far e5 v) (hx.far (Ne.symm e1) v)
  clear hx hy hz hu hl hq
  go_enter Tryz.func31, Tryz.ntmps31
  go_wp2_with fail
  go_end0
  obtain ⟨hy, hz⟩ := HN.out
  exact ⟨rfl, (hy.putUp (some p)).far (p := ⟨p, 16, none⟩) (Ne.symm e2) _, (hz.far (p := ⟨by_, 14, none⟩) e2 _).putR (some by_), ((Only.refl [by_, p] w).setCell (p := ⟨by_, 14, none⟩) (by simp) _).setCell (p := ⟨p, 16, none⟩) (by simp) _⟩
/-- A node comes into the place of another one: whatever lies around. -/
theorem replace_calls (t old by_ : Nat) (x y : Nd) (fat : Int) (lv : Option Nat) (c : List Fr) (w : World) (e1 : by_ ≠ old) (e2 : by_ ∉ t :: cblocks c) (e3 : old ∉ t :: cblocks c) (e4 : (t :: cblocks c).Nodup)
    (hx : NodeAt w old x) (hu : x.up = upOf c) (hy : NodeAt w by_ y) (ha : Arnd w t fat lv c old) :
    Calls Tryz.prog 31 #[.pointer (some ⟨t, 0, none⟩), .pointer (some ⟨old, 0, none⟩), .pointer (some ⟨by_, 0, none⟩)] w fun e w' => e = .returned (.tuple #[]) ∧ NodeAt w' by_ { y with up := upOf c } ∧ Arnd w' t fat lv c by_ ∧ Only [by_, headOf t c] w w' := by
  cases c with
  | nil =>
    simp only [cblocks, List.mem_singleton] at e2 e3
    exact replace_top t old by_ x y fat _ lv w e1 (Ne.symm e2) (Ne.symm e3) hx hu hy ha
  | cons f c =>
    obtain ⟨hz, hs, hc⟩ := ha
    simp only [cblocks, List.mem_cons, List.mem_append, not_or] at e2 e3
    simp only [cblocks, List.nodup_cons, List.mem_cons, List.mem_append, not_or] at e4
    have far : ∀ w', Only [by_, f.b] w w' → In w' (some f.b) f.sib ∧ Arnd w' t fat lv c f.b := fun w' o =>
      ⟨hs.only o (fun b hb => by simp only [List.mem_cons, List.not_mem_nil, or_false, not_or]; exact ⟨fun e => e2.2.2.1 (e ▸ hb), fun e => e4.2.1.1 (e ▸ hb)⟩),
       hc.only o (fun b hb => by
        simp only [List.mem_cons] at hb
        simp only [List.mem_cons, List.not_mem_nil, or_false, not_or]
        rcases hb with rfl | hb
        · exact ⟨fun e => e2.1 e.symm, e4.1.1⟩
        · exact ⟨fun e => e2.2.2.2 (e ▸ hb), fun e => e4.2.1.2 (e ▸ hb)⟩)⟩
    cases hl : f.left with
    | true =>
      refine (replace_left t old by_ f.b x y _ w e1 (Ne.symm e2.2.1) (Ne.symm e3.2.1) hx hu hy hz (by simp [Fr.nd, hl])).mono ?_
      rintro e w' ⟨rfl, h1, h2, o⟩
      refine ⟨rfl, h1, ⟨?_, far w' o⟩, o⟩
      have : { f.nd (upOf c) old with l := some by_ } = f.nd (upOf c) by_ := by simp [Fr.nd, hl]
      rw [← this]; exact h2
    | false =>
      refine (replace_right t old by_ f.b f.sib.root x y _ w e1 (Ne.symm e2.2.1) (Ne.symm e3.2.1) (fun e => e3.2.2.1 (e ▸ root_mem _)) hx hu hy hz hs.node (fun e => e2.2.2.1 (e ▸ root_mem _)) (by simp [Fr.nd, hl])).mono ?_
      rintro e w' ⟨rfl, h1, h2, o⟩
      refine ⟨rfl, h1, ⟨?_, far w' o⟩, o⟩
      have : { f.nd (upOf c) old with r := some by_ } = f.nd (upOf c) by_ := by simp [Fr.nd, hl]
      rw [← this]; exact h2
end Go.Proofs.YtdhbcgdlmkkdfaaGreatDoor
