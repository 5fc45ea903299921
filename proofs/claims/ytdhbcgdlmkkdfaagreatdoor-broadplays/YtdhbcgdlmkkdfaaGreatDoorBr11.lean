/- broad.node.meeting: to a list come the numbers of the leaves below a node whose boxes meet a box: whatever the tree, the list, the box. -/
import Derived.Test.YtdhbcgdlmkkdfaaGreatDoorBr10
import Derived.Test.YtdhbcgdlmkkdfaaGreatDoorSli
import Derived.Maps.AppendAt
import Derived.OwnWalk
namespace Go.Proofs.YtdhbcgdlmkkdfaaGreatDoor
open Go.ChangeShapes Go.WideShapes Go.ChangeAt Go.RowKit
set_option linter.unusedVariables false
set_option linter.unusedSimpArgs false

theorem SlInts.apart {w : World} {v : Value} {xs : List Int} (h : SlInts w v xs) {b : Nat} {n : Nd} (k : NodeAt w b n) : b ∉ ownL v := by
  intro hb
  obtain ⟨_, ⟨rfl, _⟩ | ⟨g, cap, cur, rfl, _, hg, _⟩⟩ := h
  · simp [ownL, Value.ownBlock] at hb
  · simp only [ownL, Value.ownBlock, Option.toList_some, List.mem_singleton] at hb
    subst hb
    unfold NodeAt at k
    rw [hg] at k
    injection k with k
    injection k with _ k _
    exact absurd k (by decide)
def MeetPost (w : World) (v : Value) (xs ys : List Int) (e : Ending) (w' : World) : Prop :=
  ∃ v', e = .returned v' ∧ SlInts w' v' (xs ++ ys) ∧ Only (ownL v) w w' ∧ (∀ b ∈ ownL v', b ∈ ownL v ∨ w.heap.size ≤ b)

def BoxAt (w : World) (k : Nat) (q : Bx) : Prop := w.heap[k]? = some (.cells #[.int .i64 (q.x0), .int .i64 (q.x1), .int .i64 (q.x2), .int .i64 (q.x3), .int .i64 (q.x4), .int .i64 (q.x5)] 34)
theorem BoxAt.off {w : World} {b : Nat} {q : Bx} (h : BoxAt w b q) (i : Nat) : w.cell? ⟨b, i, none⟩ = (#[.int .i64 (q.x0), .int .i64 (q.x1), .int .i64 (q.x2), .int .i64 (q.x3), .int .i64 (q.x4), .int .i64 (q.x5)] : Array Value)[i]? := by
  unfold BoxAt at h; simp [World.cell?, h]
theorem BoxAt.lt {w : World} {b : Nat} {q : Bx} (h : BoxAt w b q) : b < w.heap.size := (Array.getElem?_eq_some_iff.1 h).1
theorem Only.box {D : List Nat} {w w' : World} (h : Only D w w') {b : Nat} (s : b ∉ D) {q : Bx} (k : BoxAt w b q) : BoxAt w' b q := (h.block b k.lt s).trans k
def MK (b : Nat) (o : Nat) (r : Bx) (k : Nat) (q : Bx) (w w' : World) : Prop := Kept w w' ∧ w'.cell? ⟨b, o, none⟩ = some (.int .i64 r.x0) ∧ w'.cell? ⟨b, o + 1, none⟩ = some (.int .i64 r.x1) ∧ w'.cell? ⟨b, o + 2, none⟩ = some (.int .i64 r.x2) ∧ w'.cell? ⟨b, o + 3, none⟩ = some (.int .i64 r.x3) ∧ w'.cell? ⟨b, o + 4, none⟩ = some (.int .i64 r.x4) ∧ w'.cell? ⟨b, o + 5, none⟩ = some (.int .i64 r.x5) ∧ w'.cell? ⟨k, 0, none⟩ = some (.int .i64 q.x0) ∧ w'.cell? ⟨k, 1, none⟩ = some (.int .i64 q.x1) ∧ w'.cell? ⟨k, 2, none⟩ = some (.int .i64 q.x2) ∧ w'.cell? ⟨k, 3, none⟩ = some (.int .i64 q.x3) ∧ w'.cell? ⟨k, 4, none⟩ = some (.int .i64 q.x4) ∧ w'.cell? ⟨k, 5, none⟩ = some (.int .i64 q.x5)
theorem MK.step {b o : Nat} {r : Bx} {k : Nat} {q : Bx} {w w1 w2 : World} (kk : Kept w1 w2) (h : MK b o r k q w w1) : MK b o r k q w w2 := by
  obtain ⟨h0, h1, h2, h3, h4, h5, h6, h7, h8, h9, h10, h11, h12⟩ := h
  exact ⟨h0.trans kk, kept_cell kk h1, kept_cell kk h2, kept_cell kk h3, kept_cell kk h4, kept_cell kk h5, kept_cell kk h6, kept_cell kk h7, kept_cell kk h8, kept_cell kk h9, kept_cell kk h10, kept_cell kk h11, kept_cell kk h12⟩
theorem MK.room {w : World} {b : Nat} {n : Nd} {k : Nat} {q : Bx} (h : NodeAt w b n) (hq : BoxAt w k q) : MK b 7 n.room k q w w.drew :=
  ⟨(Kept.refl _).drew, h.c7, h.c8, h.c9, h.c10, h.c11, h.c12, hq.off 0, hq.off 1, hq.off 2, hq.off 3, hq.off 4, hq.off 5⟩
theorem MK.box {w : World} {b : Nat} {n : Nd} {k : Nat} {q : Bx} (h : NodeAt w b n) (hq : BoxAt w k q) : MK b 1 n.box k q w w.drew :=
  ⟨(Kept.refl _).drew, h.c1, h.c2, h.c3, h.c4, h.c5, h.c6, hq.off 0, hq.off 1, hq.off 2, hq.off 3, hq.off 4, hq.off 5⟩
theorem In.apart {w : World} {v : Value} {xs : List Int} (h : SlInts w v xs) : ∀ {T : Tr} {u : Option Nat}, In w u T → ∀ b ∈ T.blocks, b ∉ ownL v
  | ⟨_, .inl (_, _, _)⟩, _, k, b, hb => by simp only [Tr.blocks, List.mem_singleton] at hb; rw [hb]; exact h.apart k
  | ⟨_, .inr (l, r)⟩, _, k, b, hb => by
    simp only [Tr.blocks, List.mem_cons, List.mem_append] at hb
    rcases hb with rfl | hb | hb
    · exact h.apart k.1
    · exact In.apart h k.2.1 b hb
    · exact In.apart h k.2.2 b hb

theorem meeting_nil (q : Bx) (v : Value) (w : World) : Calls Tryz.prog 22 #[.pointer none, .agg #[.int .i64 (q.x0), .int .i64 (q.x1), .int .i64 (q.x2), .int .i64 (q.x3), .int .i64 (q.x4), .int .i64 (q.x5)], v] w fun e w' => e = .returned v ∧ Only [] w w' := by
  go_enter Tryz.func22, Tryz.ntmps22
  go_wp2_with fail
  have o0 : Hid (Only [] w _) := (Only.refl [] w).alloc (.cells #[.int .i64 (q.x0), .int .i64 (q.x1), .int .i64 (q.x2), .int .i64 (q.x3), .int .i64 (q.x4), .int .i64 (q.x5)] 34)
  revert o0
  generalize World.alloc w _ = w0
  intro o0
  refine wp_region_held_drew (S := (fun w' => Kept w0 w')) (by kernel_rfl) ?_ (fun hHeld1 => ?_)
  · (try dsimp only); exact (Kept.refl _).drew
  refine tkW 0 rfl ?_; refine tkW 1 rfl ?_; refine tkW 2 rfl ?_
  try simp only [Act.put, List.setIfInBounds_toArray, List.set_cons_zero, List.set_cons_succ, List.getElem_toArray, List.getElem_cons_succ, List.getElem_cons_zero]
  refine skW 3 rfl ?_; refine skW 4 rfl ?_; refine skW 5 rfl ?_; refine skW 6 rfl ?_
  try simp only [Act.put, List.setIfInBounds_toArray, List.set_cons_zero, List.set_cons_succ, List.getElem_toArray, List.getElem_cons_succ, List.getElem_cons_zero]
  refine skW 7 rfl ?_; refine skW 8 rfl ?_; refine skW 9 rfl ?_
  try simp only [Act.put, List.setIfInBounds_toArray, List.set_cons_zero, List.set_cons_succ, List.getElem_toArray, List.getElem_cons_succ, List.getElem_cons_zero]
  refine tkW 10 rfl ?_
  try simp only [Act.put, List.setIfInBounds_toArray, List.set_cons_zero, List.set_cons_succ, List.getElem_toArray, List.getElem_cons_succ, List.getElem_cons_zero]
  refine wpAnyH_done (by kernel_rfl) ?_ _
  go_wp2_with fail
  go_ret
  exact ⟨rfl, o0.out.trans (.of_kept (Kept.refl _).drew)⟩

theorem meet_miss {q : Bx} {T : Tr} (h : meetX T.room q = false) : meetIds q T = [] := by
  cases T using Tr.cs with
  | leaf => simp only [meetIds, Tr.room] at *; simp [h]
  | node => simp only [meetIds, Tr.room] at *; simp [h]
/-- A node whose room does not meet the box: nothing comes to the list. -/
theorem meeting_miss (T : Tr) (up : Option Nat) (q : Bx) (v : Value) (w : World) (hi : In w up T) (hm : meetX T.room q = false) : Calls Tryz.prog 22 #[.pointer (some ⟨T.root, 0, none⟩), .agg #[.int .i64 (q.x0), .int .i64 (q.x1), .int .i64 (q.x2), .int .i64 (q.x3), .int .i64 (q.x4), .int .i64 (q.x5)], v] w fun e w' => e = .returned v ∧ Only [] w w' := by
  have HI : Hid (In w up T) := hi
  clear hi
  unfold meetX at hm
  obtain ⟨R, hR⟩ : ∃ R, R = T.room := ⟨_, rfl⟩
  rw [← hR] at hm
  have HR : Hid (R = T.room) := hR
  clear hR
  obtain ⟨B, hB⟩ : ∃ B, B = T.root := ⟨_, rfl⟩
  rw [← hB]
  have HB : Hid (B = T.root) := hB
  clear hB
  go_enter Tryz.func22, Tryz.ntmps22
  go_wp2_with fail
  have o0 : Hid (Only [] w _ ∧ BoxAt _ w.heap.size q) := ⟨(Only.refl [] w).alloc (.cells #[.int .i64 (q.x0), .int .i64 (q.x1), .int .i64 (q.x2), .int .i64 (q.x3), .int .i64 (q.x4), .int .i64 (q.x5)] 34), (MapKept.heap_alloc w _).1⟩
  revert o0
  generalize World.alloc w _ = w0
  generalize hkk : w.heap.size = k
  have HW : Hid (w.heap.size = k) := hkk
  clear hkk
  intro o0
  have HI0 : Hid (In w0 up (T)) := HI.out.only o0.out.1 (by simp)
  refine wp_region_held_drew (S := (fun w' => Kept w0 w' ∧ w'.cell? ⟨B, 7, none⟩ = some (.int .i64 R.x0) ∧ w'.cell? ⟨B, 8, none⟩ = some (.int .i64 R.x1) ∧ w'.cell? ⟨B, 9, none⟩ = some (.int .i64 R.x2) ∧ w'.cell? ⟨B, 10, none⟩ = some (.int .i64 R.x3) ∧ w'.cell? ⟨B, 11, none⟩ = some (.int .i64 R.x4) ∧ w'.cell? ⟨B, 12, none⟩ = some (.int .i64 R.x5) ∧ w'.cell? ⟨k, 0, none⟩ = some (.int .i64 q.x0) ∧ w'.cell? ⟨k, 1, none⟩ = some (.int .i64 q.x1) ∧ w'.cell? ⟨k, 2, none⟩ = some (.int .i64 q.x2) ∧ w'.cell? ⟨k, 3, none⟩ = some (.int .i64 q.x3) ∧ w'.cell? ⟨k, 4, none⟩ = some (.int .i64 q.x4) ∧ w'.cell? ⟨k, 5, none⟩ = some (.int .i64 q.x5))) (by kernel_rfl) ?_ (fun hHeld1 => ?_)
  · (try dsimp only); exact (by have := MK.room HI0.out.node o0.out.2; rw [nd_room, ← HR.out, ← HB.out] at this; exact this)
  refine tkW 0 rfl ?_; refine tkW 1 rfl ?_; refine tkW 2 rfl ?_; refine tkW 3 rfl ?_
  try simp only [Act.put, List.setIfInBounds_toArray, List.set_cons_zero, List.set_cons_succ, List.getElem_toArray, List.getElem_cons_succ, List.getElem_cons_zero]
  refine tkW 4 rfl ?_; refine tkW 5 rfl ?_; refine tkW 6 rfl ?_; refine tkW 7 rfl ?_
  try simp only [Act.put, List.setIfInBounds_toArray, List.set_cons_zero, List.set_cons_succ, List.getElem_toArray, List.getElem_cons_succ, List.getElem_cons_zero]
  refine wpAnyH_ready (rs := [8]) (by kernel_rfl) (by simp) ?_
  refine AllReadyH.cons rfl (fun K hK => ?_) AllReadyH.nil
  first | (with_reducible refine iteYes ?hcx ?htx; case hcx => kernel_rfl) | rw [if_pos (by rfl)]
  simp only [List.getElem_toArray, List.getElem_cons_succ, List.getElem_cons_zero]
  go_simp
  (go_at_call 29; refine (gmeet_calls _ _ _ _ _ _ _ _ _ _ _ _ _).mono ?_; rintro e w1 ⟨rfl, k1⟩)
  try go_wp2_with fail
  refine hK.out _ _ ?_ (fun hHeld2 => ?_)
  · (try dsimp only); exact MK.step k1 hHeld1
  clear hK K hHeld1
  try simp only [Act.put, List.setIfInBounds_toArray, List.set_cons_zero, List.set_cons_succ, List.getElem_toArray, List.getElem_cons_succ, List.getElem_cons_zero]
  refine tkW 9 rfl ?_; refine tkW 10 rfl ?_
  try simp only [Act.put, List.setIfInBounds_toArray, List.set_cons_zero, List.set_cons_succ, List.getElem_toArray, List.getElem_cons_succ, List.getElem_cons_zero]
  refine wpAnyH_done (by kernel_rfl) ?_ _
  have HK : Hid (Kept w0 w1) := hHeld2.1
  clear hHeld2
  go_wp2_with fail
  go_ret
  exact ⟨rfl, o0.out.1.trans (.of_kept HK.out)⟩

theorem append_post {w w2 w3 : World} {v v' : Value} {xs : List Int} {id : Int} {T : TypeId} (o : Only [] w w2) (hown : w3.ownsRow 0 3 1 v' (xs.length + 1) (xs.map (Value.int .i64) ++ [.int .i64 id])) (hgrow : (w2.alloc (.cells #[.int .i64 id] T)).grownBy w3 v.ownBlock)
    (hloc : v'.ownBlock = v.ownBlock ∨ v'.ownBlock = some (w2.alloc (.cells #[.int .i64 id] T)).heap.size) : Hid (MeetPost w v xs [id] (.returned v') w3) := by
  refine ⟨v', rfl, ?_, ?_, ?_⟩
  · unfold SlInts; rw [List.map_append, List.length_append]; exact hown
  · refine ((o.mono (by simp)).alloc _).grown hgrow (fun k hk => Or.inl ?_)
    simp [ownL, hk]
  · intro x hx
    rcases hloc with e | e
    · left; simpa [ownL, e] using hx
    · right
      simp only [ownL, e, Option.toList_some, List.mem_singleton] at hx
      have := o.size
      simp at hx; omega
theorem meeting_out (b : Nat) (id : Int) (box room : Bx) (up : Option Nat) (q : Bx) (v : Value) (xs : List Int) (w : World) (hi : In w up (.leaf b id box room)) (hv : SlInts w v xs) (hl : xs.length ≤ 1000) (hm : meetX room q = true) (hb : meetX box q = false) :
    Calls Tryz.prog 22 #[.pointer (some ⟨(Tr.leaf b id box room).root, 0, none⟩), .agg #[.int .i64 (q.x0), .int .i64 (q.x1), .int .i64 (q.x2), .int .i64 (q.x3), .int .i64 (q.x4), .int .i64 (q.x5)], v] w fun e w' => e = .returned v ∧ Only [] w w' := by

  have HI : Hid (In w up (.leaf b id box room) ∧ SlInts w v xs ∧ xs.length ≤ 1000) := ⟨hi, hv, hl⟩
  clear hi hv hl
  unfold meetX at hm hb
  simp only [root_leaf]
  go_enter Tryz.func22, Tryz.ntmps22
  go_wp2_with fail
  have o0 : Hid (Only [] w _ ∧ BoxAt _ w.heap.size q) := ⟨(Only.refl [] w).alloc (.cells #[.int .i64 (q.x0), .int .i64 (q.x1), .int .i64 (q.x2), .int .i64 (q.x3), .int .i64 (q.x4), .int .i64 (q.x5)] 34), (MapKept.heap_alloc w _).1⟩
  revert o0
  generalize World.alloc w _ = w0
  generalize hkk : w.heap.size = k
  have HW : Hid (w.heap.size = k) := hkk
  clear hkk
  intro o0
  have HI0 : Hid (In w0 up (.leaf b id box room)) := HI.out.1.only o0.out.1 (by simp)
  refine wp_region_held_drew (S := (fun w' => Kept w0 w' ∧ w'.cell? ⟨b, 7, none⟩ = some (.int .i64 room.x0) ∧ w'.cell? ⟨b, 8, none⟩ = some (.int .i64 room.x1) ∧ w'.cell? ⟨b, 9, none⟩ = some (.int .i64 room.x2) ∧ w'.cell? ⟨b, 10, none⟩ = some (.int .i64 room.x3) ∧ w'.cell? ⟨b, 11, none⟩ = some (.int .i64 room.x4) ∧ w'.cell? ⟨b, 12, none⟩ = some (.int .i64 room.x5) ∧ w'.cell? ⟨k, 0, none⟩ = some (.int .i64 q.x0) ∧ w'.cell? ⟨k, 1, none⟩ = some (.int .i64 q.x1) ∧ w'.cell? ⟨k, 2, none⟩ = some (.int .i64 q.x2) ∧ w'.cell? ⟨k, 3, none⟩ = some (.int .i64 q.x3) ∧ w'.cell? ⟨k, 4, none⟩ = some (.int .i64 q.x4) ∧ w'.cell? ⟨k, 5, none⟩ = some (.int .i64 q.x5))) (by kernel_rfl) ?_ (fun hHeld1 => ?_)
  · (try dsimp only); exact MK.room HI0.out.node o0.out.2
  refine tkW 0 rfl ?_; refine tkW 1 rfl ?_; refine tkW 2 rfl ?_; refine tkW 3 rfl ?_
  try simp only [Act.put, List.setIfInBounds_toArray, List.set_cons_zero, List.set_cons_succ, List.getElem_toArray, List.getElem_cons_succ, List.getElem_cons_zero]
  refine tkW 4 rfl ?_; refine tkW 5 rfl ?_; refine tkW 6 rfl ?_; refine tkW 7 rfl ?_
  try simp only [Act.put, List.setIfInBounds_toArray, List.set_cons_zero, List.set_cons_succ, List.getElem_toArray, List.getElem_cons_succ, List.getElem_cons_zero]
  refine wpAnyH_ready (rs := [8]) (by kernel_rfl) (by simp) ?_
  refine AllReadyH.cons rfl (fun K hK => ?_) AllReadyH.nil
  first | (with_reducible refine iteYes ?hcx ?htx; case hcx => kernel_rfl) | rw [if_pos (by rfl)]
  simp only [List.getElem_toArray, List.getElem_cons_succ, List.getElem_cons_zero]
  go_simp
  (go_at_call 29; refine (gmeet_calls _ _ _ _ _ _ _ _ _ _ _ _ _).mono ?_; rintro e w1 ⟨rfl, k1⟩)
  try go_wp2_with fail
  refine hK.out _ _ ?_ (fun hHeld2 => ?_)
  · (try dsimp only); exact MK.step k1 hHeld1
  clear hK K hHeld1
  try simp only [Act.put, List.setIfInBounds_toArray, List.set_cons_zero, List.set_cons_succ, List.getElem_toArray, List.getElem_cons_succ, List.getElem_cons_zero]
  refine tkW 9 rfl ?_; refine tkW 10 rfl ?_
  try simp only [Act.put, List.setIfInBounds_toArray, List.set_cons_zero, List.set_cons_succ, List.getElem_toArray, List.getElem_cons_succ, List.getElem_cons_zero]
  refine wpAnyH_done (by kernel_rfl) ?_ _
  have HK : Hid (Kept w0 w1) := hHeld2.1
  clear hHeld2
  have c13 : w1.cell? ⟨b, 13, none⟩ = some (.int .i64 0) := (HI0.out.node.kept HK.out).c13
  have HB1 : Hid (BoxAt w1 k q) := (Only.of_kept (D := []) HK.out).box (by simp) o0.out.2
  have HN1 : Hid (NodeAt w1 b ((Tr.leaf b id box room).nd up)) := HI0.out.node.kept HK.out
  go_wp2_with fail
  clear c13
  refine wp_region_held_drew (S := (fun w' => Kept w1 w' ∧ w'.cell? ⟨b, 1, none⟩ = some (.int .i64 box.x0) ∧ w'.cell? ⟨b, 2, none⟩ = some (.int .i64 box.x1) ∧ w'.cell? ⟨b, 3, none⟩ = some (.int .i64 box.x2) ∧ w'.cell? ⟨b, 4, none⟩ = some (.int .i64 box.x3) ∧ w'.cell? ⟨b, 5, none⟩ = some (.int .i64 box.x4) ∧ w'.cell? ⟨b, 6, none⟩ = some (.int .i64 box.x5) ∧ w'.cell? ⟨k, 0, none⟩ = some (.int .i64 q.x0) ∧ w'.cell? ⟨k, 1, none⟩ = some (.int .i64 q.x1) ∧ w'.cell? ⟨k, 2, none⟩ = some (.int .i64 q.x2) ∧ w'.cell? ⟨k, 3, none⟩ = some (.int .i64 q.x3) ∧ w'.cell? ⟨k, 4, none⟩ = some (.int .i64 q.x4) ∧ w'.cell? ⟨k, 5, none⟩ = some (.int .i64 q.x5))) (by kernel_rfl) ?_ (fun hHeld1 => ?_)
  · (try dsimp only); exact MK.box HN1.out HB1.out
  refine tkW 0 rfl ?_; refine tkW 1 rfl ?_; refine tkW 2 rfl ?_; refine tkW 3 rfl ?_
  try simp only [Act.put, List.setIfInBounds_toArray, List.set_cons_zero, List.set_cons_succ, List.getElem_toArray, List.getElem_cons_succ, List.getElem_cons_zero]
  refine tkW 4 rfl ?_
  try simp only [Act.put, List.setIfInBounds_toArray, List.set_cons_zero, List.set_cons_succ, List.getElem_toArray, List.getElem_cons_succ, List.getElem_cons_zero]
  refine wpAnyH_ready (rs := [5]) (by kernel_rfl) (by simp) ?_
  refine AllReadyH.cons rfl (fun K hK => ?_) AllReadyH.nil
  first | (with_reducible refine iteYes ?hcx ?htx; case hcx => kernel_rfl) | rw [if_pos (by rfl)]
  simp only [List.getElem_toArray, List.getElem_cons_succ, List.getElem_cons_zero]
  go_simp
  (go_at_call 29; refine (gmeet_calls _ _ _ _ _ _ _ _ _ _ _ _ _).mono ?_; rintro e w2 ⟨rfl, k2⟩)
  try go_wp2_with fail
  refine hK.out _ _ ?_ (fun hHeld2 => ?_)
  · (try dsimp only); exact MK.step k2 hHeld1
  clear hK K hHeld1
  try simp only [Act.put, List.setIfInBounds_toArray, List.set_cons_zero, List.set_cons_succ, List.getElem_toArray, List.getElem_cons_succ, List.getElem_cons_zero]
  refine wpAnyH_done (by kernel_rfl) ?_ _
  have HK2 : Hid (Only [] w w2 ∧ NodeAt w2 b ((Tr.leaf b id box room).nd up)) := ⟨(o0.out.1.trans (.of_kept HK.out)).trans (.of_kept hHeld2.1), HN1.out.kept hHeld2.1⟩
  clear hHeld2

  go_wp2_with fail
  go_ret
  exact ⟨rfl, HK2.out.1⟩
set_option maxRecDepth 100000 in
theorem meeting_in (b : Nat) (id : Int) (box room : Bx) (up : Option Nat) (q : Bx) (v : Value) (xs : List Int) (w : World) (hi : In w up (.leaf b id box room)) (hv : SlInts w v xs) (hl : xs.length ≤ 1000) (hm : meetX room q = true) (hb : meetX box q = true) :
    Calls Tryz.prog 22 #[.pointer (some ⟨(Tr.leaf b id box room).root, 0, none⟩), .agg #[.int .i64 (q.x0), .int .i64 (q.x1), .int .i64 (q.x2), .int .i64 (q.x3), .int .i64 (q.x4), .int .i64 (q.x5)], v] w (MeetPost w v xs [id]) := by
  obtain ⟨i0, hi0, hz0, hz1, hz2⟩ := info_parts intInfo

  have HI : Hid (In w up (.leaf b id box room) ∧ SlInts w v xs ∧ xs.length ≤ 1000) := ⟨hi, hv, hl⟩
  clear hi hv hl
  unfold meetX at hm hb
  simp only [root_leaf]
  go_enter Tryz.func22, Tryz.ntmps22
  go_wp2_with fail
  have o0 : Hid (Only [] w _ ∧ BoxAt _ w.heap.size q) := ⟨(Only.refl [] w).alloc (.cells #[.int .i64 (q.x0), .int .i64 (q.x1), .int .i64 (q.x2), .int .i64 (q.x3), .int .i64 (q.x4), .int .i64 (q.x5)] 34), (MapKept.heap_alloc w _).1⟩
  revert o0
  generalize World.alloc w _ = w0
  generalize hkk : w.heap.size = k
  have HW : Hid (w.heap.size = k) := hkk
  clear hkk
  intro o0
  have HI0 : Hid (In w0 up (.leaf b id box room)) := HI.out.1.only o0.out.1 (by simp)
  refine wp_region_held_drew (S := (fun w' => Kept w0 w' ∧ w'.cell? ⟨b, 7, none⟩ = some (.int .i64 room.x0) ∧ w'.cell? ⟨b, 8, none⟩ = some (.int .i64 room.x1) ∧ w'.cell? ⟨b, 9, none⟩ = some (.int .i64 room.x2) ∧ w'.cell? ⟨b, 10, none⟩ = some (.int .i64 room.x3) ∧ w'.cell? ⟨b, 11, none⟩ = some (.int .i64 room.x4) ∧ w'.cell? ⟨b, 12, none⟩ = some (.int .i64 room.x5) ∧ w'.cell? ⟨k, 0, none⟩ = some (.int .i64 q.x0) ∧ w'.cell? ⟨k, 1, none⟩ = some (.int .i64 q.x1) ∧ w'.cell? ⟨k, 2, none⟩ = some (.int .i64 q.x2) ∧ w'.cell? ⟨k, 3, none⟩ = some (.int .i64 q.x3) ∧ w'.cell? ⟨k, 4, none⟩ = some (.int .i64 q.x4) ∧ w'.cell? ⟨k, 5, none⟩ = some (.int .i64 q.x5))) (by kernel_rfl) ?_ (fun hHeld1 => ?_)
  · (try dsimp only); exact MK.room HI0.out.node o0.out.2
  refine tkW 0 rfl ?_; refine tkW 1 rfl ?_; refine tkW 2 rfl ?_; refine tkW 3 rfl ?_
  try simp only [Act.put, List.setIfInBounds_toArray, List.set_cons_zero, List.set_cons_succ, List.getElem_toArray, List.getElem_cons_succ, List.getElem_cons_zero]
  refine tkW 4 rfl ?_; refine tkW 5 rfl ?_; refine tkW 6 rfl ?_; refine tkW 7 rfl ?_
  try simp only [Act.put, List.setIfInBounds_toArray, List.set_cons_zero, List.set_cons_succ, List.getElem_toArray, List.getElem_cons_succ, List.getElem_cons_zero]
  refine wpAnyH_ready (rs := [8]) (by kernel_rfl) (by simp) ?_
  refine AllReadyH.cons rfl (fun K hK => ?_) AllReadyH.nil
  first | (with_reducible refine iteYes ?hcx ?htx; case hcx => kernel_rfl) | rw [if_pos (by rfl)]
  simp only [List.getElem_toArray, List.getElem_cons_succ, List.getElem_cons_zero]
  go_simp
  (go_at_call 29; refine (gmeet_calls _ _ _ _ _ _ _ _ _ _ _ _ _).mono ?_; rintro e w1 ⟨rfl, k1⟩)
  try go_wp2_with fail
  refine hK.out _ _ ?_ (fun hHeld2 => ?_)
  · (try dsimp only); exact MK.step k1 hHeld1
  clear hK K hHeld1
  try simp only [Act.put, List.setIfInBounds_toArray, List.set_cons_zero, List.set_cons_succ, List.getElem_toArray, List.getElem_cons_succ, List.getElem_cons_zero]
  refine tkW 9 rfl ?_; refine tkW 10 rfl ?_
  try simp only [Act.put, List.setIfInBounds_toArray, List.set_cons_zero, List.set_cons_succ, List.getElem_toArray, List.getElem_cons_succ, List.getElem_cons_zero]
  refine wpAnyH_done (by kernel_rfl) ?_ _
  have HK : Hid (Kept w0 w1) := hHeld2.1
  clear hHeld2
  have c13 : w1.cell? ⟨b, 13, none⟩ = some (.int .i64 0) := (HI0.out.node.kept HK.out).c13
  have HB1 : Hid (BoxAt w1 k q) := (Only.of_kept (D := []) HK.out).box (by simp) o0.out.2
  have HN1 : Hid (NodeAt w1 b ((Tr.leaf b id box room).nd up)) := HI0.out.node.kept HK.out
  go_wp2_with fail
  clear c13
  refine wp_region_held_drew (S := (fun w' => Kept w1 w' ∧ w'.cell? ⟨b, 1, none⟩ = some (.int .i64 box.x0) ∧ w'.cell? ⟨b, 2, none⟩ = some (.int .i64 box.x1) ∧ w'.cell? ⟨b, 3, none⟩ = some (.int .i64 box.x2) ∧ w'.cell? ⟨b, 4, none⟩ = some (.int .i64 box.x3) ∧ w'.cell? ⟨b, 5, none⟩ = some (.int .i64 box.x4) ∧ w'.cell? ⟨b, 6, none⟩ = some (.int .i64 box.x5) ∧ w'.cell? ⟨k, 0, none⟩ = some (.int .i64 q.x0) ∧ w'.cell? ⟨k, 1, none⟩ = some (.int .i64 q.x1) ∧ w'.cell? ⟨k, 2, none⟩ = some (.int .i64 q.x2) ∧ w'.cell? ⟨k, 3, none⟩ = some (.int .i64 q.x3) ∧ w'.cell? ⟨k, 4, none⟩ = some (.int .i64 q.x4) ∧ w'.cell? ⟨k, 5, none⟩ = some (.int .i64 q.x5))) (by kernel_rfl) ?_ (fun hHeld1 => ?_)
  · (try dsimp only); exact MK.box HN1.out HB1.out
  refine tkW 0 rfl ?_; refine tkW 1 rfl ?_; refine tkW 2 rfl ?_; refine tkW 3 rfl ?_
  try simp only [Act.put, List.setIfInBounds_toArray, List.set_cons_zero, List.set_cons_succ, List.getElem_toArray, List.getElem_cons_succ, List.getElem_cons_zero]
  refine tkW 4 rfl ?_
  try simp only [Act.put, List.setIfInBounds_toArray, List.set_cons_zero, List.set_cons_succ, List.getElem_toArray, List.getElem_cons_succ, List.getElem_cons_zero]
  refine wpAnyH_ready (rs := [5]) (by kernel_rfl) (by simp) ?_
  refine AllReadyH.cons rfl (fun K hK => ?_) AllReadyH.nil
  first | (with_reducible refine iteYes ?hcx ?htx; case hcx => kernel_rfl) | rw [if_pos (by rfl)]
  simp only [List.getElem_toArray, List.getElem_cons_succ, List.getElem_cons_zero]
  go_simp
  (go_at_call 29; refine (gmeet_calls _ _ _ _ _ _ _ _ _ _ _ _ _).mono ?_; rintro e w2 ⟨rfl, k2⟩)
  try go_wp2_with fail
  refine hK.out _ _ ?_ (fun hHeld2 => ?_)
  · (try dsimp only); exact MK.step k2 hHeld1
  clear hK K hHeld1
  try simp only [Act.put, List.setIfInBounds_toArray, List.set_cons_zero, List.set_cons_succ, List.getElem_toArray, List.getElem_cons_succ, List.getElem_cons_zero]
  refine wpAnyH_done (by kernel_rfl) ?_ _
  have HK2 : Hid (Only [] w w2 ∧ NodeAt w2 b ((Tr.leaf b id box room).nd up)) := ⟨(o0.out.1.trans (.of_kept HK.out)).trans (.of_kept hHeld2.1), HN1.out.kept hHeld2.1⟩
  clear hHeld2

  have c0 : w2.cell? ⟨b, 0, none⟩ = some (.int .i64 id) := HK2.out.2.c0
  have hs := HI.out.2.1.kept HK2.out.1 (by simp)
  have hx := HI.out.2.2
  go_wp2_with (first | (at_builtin; refine wpList_append_own_at _ rfl _ _ 39 rfl 0 3 i0 (.int .i64 0) 1 8 Tryz.underlying39 hi0 hz0 hz1 hz2 rfl (by decide) v xs.length (xs.map (Value.int .i64)) rfl (World.ownsRow.alloc hs _) ⟨w2.heap.size, 0, none⟩ 1 1 [.int .i64 id] rfl rfl (cell_one_new _ _ _) (by simp [Value.oneCell']) (by unfold maxLen; omega) (by omega) (by simp) ?_; intro v' w3 hown hgrow hnil hloc; have H3 := append_post HK2.out.1 hown hgrow hloc; clear hown hgrow hnil hloc c0))
  go_ret
  exact H3.out

def S4 (b lr rr : Nat) (k : Nat) (q : Bx) (v : Value) (w w' : World) : Prop := Only (ownL v) w w' ∧ w'.cell? ⟨b, 15, none⟩ = some (.pointer (some ⟨lr, 0, none⟩)) ∧ w'.cell? ⟨b, 16, none⟩ = some (.pointer (some ⟨rr, 0, none⟩)) ∧ w'.cell? ⟨k, 0, none⟩ = some (.int .i64 q.x0) ∧ w'.cell? ⟨k, 1, none⟩ = some (.int .i64 q.x1) ∧ w'.cell? ⟨k, 2, none⟩ = some (.int .i64 q.x2) ∧ w'.cell? ⟨k, 3, none⟩ = some (.int .i64 q.x3) ∧ w'.cell? ⟨k, 4, none⟩ = some (.int .i64 q.x4) ∧ w'.cell? ⟨k, 5, none⟩ = some (.int .i64 q.x5)
theorem S4.of {b k : Nat} {n : Nd} {q : Bx} {v : Value} {lr rr : Nat} {w w' : World} (o : Only (ownL v) w w') (hb : b ∉ ownL v) (hk : k ∉ ownL v) (hn : NodeAt w b n) (el : n.l = some lr) (er : n.r = some rr) (hq : BoxAt w k q) : S4 b lr rr k q v w w' := by
  have hn' := o.node hb hn
  have hq' := o.box hk hq
  have c15 := hn'.c15; have c16 := hn'.c16
  rw [el] at c15; rw [er] at c16
  exact ⟨o, c15, c16, hq'.off 0, hq'.off 1, hq'.off 2, hq'.off 3, hq'.off 4, hq'.off 5⟩
def Tells (q : Bx) (T : Tr) : Prop := ∀ (w : World) (u : Option Nat) (v : Value) (xs : List Int), In w u T → SlInts w v xs → xs.length + T.leaves.length ≤ 1000 → Calls Tryz.prog 22 #[.pointer (some ⟨T.root, 0, none⟩), .agg #[.int .i64 (q.x0), .int .i64 (q.x1), .int .i64 (q.x2), .int .i64 (q.x3), .int .i64 (q.x4), .int .i64 (q.x5)], v] w (MeetPost w v xs (meetIds q T))
set_option maxRecDepth 100000 in
theorem meeting_node (b : Nat) (l r : Tr) (q : Bx) (hl : Tells q l) (hr : Tells q r) (w : World) (up : Option Nat) (v : Value) (xs : List Int) (hi : In w up (.node b l r)) (hv : SlInts w v xs) (hx : xs.length + (Tr.node b l r).leaves.length ≤ 1000) (hm : meetX (Tr.node b l r).room q = true) :
    Calls Tryz.prog 22 #[.pointer (some ⟨(Tr.node b l r).root, 0, none⟩), .agg #[.int .i64 (q.x0), .int .i64 (q.x1), .int .i64 (q.x2), .int .i64 (q.x3), .int .i64 (q.x4), .int .i64 (q.x5)], v] w (MeetPost w v xs (meetIds q (.node b l r))) := by
  have HI : Hid (In w up (.node b l r) ∧ SlInts w v xs ∧ xs.length + (l.leaves.length + r.leaves.length) ≤ 1000) := ⟨hi, hv, by simpa [Tr.leaves] using hx⟩
  have HM : Hid (meetIds q (.node b l r) = meetIds q l ++ meetIds q r) := by
    show meetIds q (.node b l r) = _
    simp only [room_node] at hm
    simp only [meetIds, hm, if_true]
  have HL : Hid (Tells q l) := hl
  have HR2 : Hid (Tells q r) := hr
  clear hi hv hl hr hx
  unfold meetX at hm
  simp only [root_node]
  obtain ⟨R, hR⟩ : ∃ R, R = (Tr.node b l r).room := ⟨_, rfl⟩
  rw [← hR] at hm
  have HR : Hid (R = (Tr.node b l r).room) := hR
  clear hR
  generalize hlr : l.root = lr
  generalize hrr : r.root = rr
  have HLR : Hid (l.root = lr ∧ r.root = rr) := ⟨hlr, hrr⟩
  clear hlr hrr
  rw [HM.out]
  go_enter Tryz.func22, Tryz.ntmps22
  go_wp2_with fail
  have o0 : Hid (Only [] w _ ∧ BoxAt _ w.heap.size q) := ⟨(Only.refl [] w).alloc (.cells #[.int .i64 (q.x0), .int .i64 (q.x1), .int .i64 (q.x2), .int .i64 (q.x3), .int .i64 (q.x4), .int .i64 (q.x5)] 34), (MapKept.heap_alloc w _).1⟩
  revert o0
  generalize World.alloc w _ = w0
  generalize hkk : w.heap.size = k
  have HW : Hid (w.heap.size = k) := hkk
  clear hkk
  intro o0
  have HI0 : Hid (In w0 up (.node b l r)) := HI.out.1.only o0.out.1 (by simp)
  refine wp_region_held_drew (S := (fun w' => Kept w0 w' ∧ w'.cell? ⟨b, 7, none⟩ = some (.int .i64 R.x0) ∧ w'.cell? ⟨b, 8, none⟩ = some (.int .i64 R.x1) ∧ w'.cell? ⟨b, 9, none⟩ = some (.int .i64 R.x2) ∧ w'.cell? ⟨b, 10, none⟩ = some (.int .i64 R.x3) ∧ w'.cell? ⟨b, 11, none⟩ = some (.int .i64 R.x4) ∧ w'.cell? ⟨b, 12, none⟩ = some (.int .i64 R.x5) ∧ w'.cell? ⟨k, 0, none⟩ = some (.int .i64 q.x0) ∧ w'.cell? ⟨k, 1, none⟩ = some (.int .i64 q.x1) ∧ w'.cell? ⟨k, 2, none⟩ = some (.int .i64 q.x2) ∧ w'.cell? ⟨k, 3, none⟩ = some (.int .i64 q.x3) ∧ w'.cell? ⟨k, 4, none⟩ = some (.int .i64 q.x4) ∧ w'.cell? ⟨k, 5, none⟩ = some (.int .i64 q.x5))) (by kernel_rfl) ?_ (fun hHeld1 => ?_)
  · (try dsimp only); exact (by have := MK.room HI0.out.node o0.out.2; rw [nd_room, ← HR.out] at this; exact this)
  refine tkW 0 rfl ?_; refine tkW 1 rfl ?_; refine tkW 2 rfl ?_; refine tkW 3 rfl ?_
  try simp only [Act.put, List.setIfInBounds_toArray, List.set_cons_zero, List.set_cons_succ, List.getElem_toArray, List.getElem_cons_succ, List.getElem_cons_zero]
  refine tkW 4 rfl ?_; refine tkW 5 rfl ?_; refine tkW 6 rfl ?_; refine tkW 7 rfl ?_
  try simp only [Act.put, List.setIfInBounds_toArray, List.set_cons_zero, List.set_cons_succ, List.getElem_toArray, List.getElem_cons_succ, List.getElem_cons_zero]
  refine wpAnyH_ready (rs := [8]) (by kernel_rfl) (by simp) ?_
  refine AllReadyH.cons rfl (fun K hK => ?_) AllReadyH.nil
  first | (with_reducible refine iteYes ?hcx ?htx; case hcx => kernel_rfl) | rw [if_pos (by rfl)]
  simp only [List.getElem_toArray, List.getElem_cons_succ, List.getElem_cons_zero]
  go_simp
  (go_at_call 29; refine (gmeet_calls _ _ _ _ _ _ _ _ _ _ _ _ _).mono ?_; rintro e w1 ⟨rfl, k1⟩)
  try go_wp2_with fail
  refine hK.out _ _ ?_ (fun hHeld2 => ?_)
  · (try dsimp only); exact MK.step k1 hHeld1
  clear hK K hHeld1
  try simp only [Act.put, List.setIfInBounds_toArray, List.set_cons_zero, List.set_cons_succ, List.getElem_toArray, List.getElem_cons_succ, List.getElem_cons_zero]
  refine tkW 9 rfl ?_; refine tkW 10 rfl ?_
  try simp only [Act.put, List.setIfInBounds_toArray, List.set_cons_zero, List.set_cons_succ, List.getElem_toArray, List.getElem_cons_succ, List.getElem_cons_zero]
  refine wpAnyH_done (by kernel_rfl) ?_ _
  have HK : Hid (Kept w0 w1) := hHeld2.1
  clear hHeld2
  have HW' : Hid (k ∉ ownL v) := fun h => by have h1 := HI.out.2.1.lt k h; have h2 := HW.out; omega
  have HI1 : Hid (In w1 up (.node b l r) ∧ BoxAt w1 k q ∧ SlInts w1 v xs ∧ Only [] w w1) := ⟨HI0.out.only (.of_kept (D := []) HK.out) (by simp), (Only.of_kept (D := []) HK.out).box (by simp) o0.out.2, HI.out.2.1.kept (o0.out.1.trans (.of_kept HK.out)) (by simp), o0.out.1.trans (.of_kept HK.out)⟩
  have c13 := HI1.out.1.1.c13; rw [nd_high] at c13
  have hh : 0 < (Tr.node b l r).high := by have := high_nonneg l; have := high_nonneg r; have := greater_cases l.high r.high; simp only [Tr.high]; omega
  have t0 : decide (0 < (Tr.node b l r).high) = true := by simp [hh]
  generalize (Tr.node b l r).high = hgt at c13 hh t0
  clear HK HI0 o0 HW HR HM
  have HAP : Hid (∀ x ∈ (Tr.node b l r).blocks, x ∉ ownL v) := In.apart HI1.out.2.2.1 HI1.out.1
  go_wp2_with fail
  clear c13 t0 hh
  refine wp_region_held_drew (S := (fun w' => Only (ownL v) w1 w' ∧ w'.cell? ⟨b, 15, none⟩ = some (.pointer (some ⟨lr, 0, none⟩)) ∧ w'.cell? ⟨b, 16, none⟩ = some (.pointer (some ⟨rr, 0, none⟩)) ∧ w'.cell? ⟨k, 0, none⟩ = some (.int .i64 q.x0) ∧ w'.cell? ⟨k, 1, none⟩ = some (.int .i64 q.x1) ∧ w'.cell? ⟨k, 2, none⟩ = some (.int .i64 q.x2) ∧ w'.cell? ⟨k, 3, none⟩ = some (.int .i64 q.x3) ∧ w'.cell? ⟨k, 4, none⟩ = some (.int .i64 q.x4) ∧ w'.cell? ⟨k, 5, none⟩ = some (.int .i64 q.x5))) (by kernel_rfl) ?_ (fun hHeld1 => ?_)
  · (try dsimp only); exact S4.of (Only.refl _ _).drew (HAP.out b (by simp [Tr.blocks])) HW'.out HI1.out.1.1 (congrArg some HLR.out.1) (congrArg some HLR.out.2) HI1.out.2.1
  refine tkW 0 rfl ?_; refine tkW 1 rfl ?_; refine tkW 2 rfl ?_; refine tkW 3 rfl ?_
  try simp only [Act.put, List.setIfInBounds_toArray, List.set_cons_zero, List.set_cons_succ, List.getElem_toArray, List.getElem_cons_succ, List.getElem_cons_zero]
  refine tkW 4 rfl ?_; refine tkW 5 rfl ?_; refine tkW 6 rfl ?_; refine tkW 7 rfl ?_
  try simp only [Act.put, List.setIfInBounds_toArray, List.set_cons_zero, List.set_cons_succ, List.getElem_toArray, List.getElem_cons_succ, List.getElem_cons_zero]
  refine tkW 8 rfl ?_; refine tkW 9 rfl ?_; refine tkW 10 rfl ?_; refine tkW 11 rfl ?_
  try simp only [Act.put, List.setIfInBounds_toArray, List.set_cons_zero, List.set_cons_succ, List.getElem_toArray, List.getElem_cons_succ, List.getElem_cons_zero]
  refine tkW 12 rfl ?_
  try simp only [Act.put, List.setIfInBounds_toArray, List.set_cons_zero, List.set_cons_succ, List.getElem_toArray, List.getElem_cons_succ, List.getElem_cons_zero]
  refine wpAnyH_ready (rs := [13]) (by kernel_rfl) (by simp) ?_
  refine AllReadyH.cons rfl (fun K hK => ?_) AllReadyH.nil
  first | (with_reducible refine iteYes ?hcx ?htx; case hcx => kernel_rfl) | rw [if_pos (by rfl)]
  simp only [List.getElem_toArray, List.getElem_cons_succ, List.getElem_cons_zero]
  go_simp
  (go_at_call 22; rw [← HLR.out.1]; refine (HL.out _ (some b) v xs (by exact HI1.out.1.2.1.only (Only.refl [] w1).drew (by simp)) (by exact HI1.out.2.2.1) (by have := HI.out.2.2; omega)).mono ?_; rintro e w2 ⟨v2, rfl, hs2, o2, hb2⟩)
  try go_wp2_with fail
  refine hK.out _ _ ?_ (fun hHeld2 => ?_)
  · (try dsimp only); exact S4.of (((Only.refl (ownL v) w1).drew).trans o2) (HAP.out b (by simp [Tr.blocks])) HW'.out HI1.out.1.1 (congrArg some HLR.out.1) (congrArg some HLR.out.2) HI1.out.2.1
  clear hK K hHeld1
  try simp only [Act.put, List.setIfInBounds_toArray, List.set_cons_zero, List.set_cons_succ, List.getElem_toArray, List.getElem_cons_succ, List.getElem_cons_zero]
  refine wpAnyH_ready (rs := [14]) (by kernel_rfl) (by simp) ?_
  refine AllReadyH.cons rfl (fun K hK => ?_) AllReadyH.nil
  first | (with_reducible refine iteYes ?hcx ?htx; case hcx => kernel_rfl) | rw [if_pos (by rfl)]
  simp only [List.getElem_toArray, List.getElem_cons_succ, List.getElem_cons_zero]
  go_simp
  (go_at_call 22; rw [← HLR.out.2]; refine (HR2.out _ (some b) v2 (xs ++ meetIds q l) (by exact HI1.out.1.2.2.only (((Only.refl (ownL v) w1).drew).trans o2) (fun x hx => HAP.out x (by simp [Tr.blocks, hx]))) (by exact hs2) (by have := HI.out.2.2; have := meetIds_le q l; simp only [List.length_append]; omega)).mono ?_; rintro e w3 ⟨v3, rfl, hs3, o3, hb3⟩; have O3 := (((Only.refl (ownL v) w1).drew).trans o2).then o3 (fun x hx => hb2 x hx))
  try go_wp2_with fail
  refine hK.out _ _ ?_ (fun hHeld3 => ?_)
  · (try dsimp only); exact S4.of O3 (HAP.out b (by simp [Tr.blocks])) HW'.out HI1.out.1.1 (congrArg some HLR.out.1) (congrArg some HLR.out.2) HI1.out.2.1
  clear hK K hHeld2
  try simp only [Act.put, List.setIfInBounds_toArray, List.set_cons_zero, List.set_cons_succ, List.getElem_toArray, List.getElem_cons_succ, List.getElem_cons_zero]
  refine tkW 15 rfl ?_
  try simp only [Act.put, List.setIfInBounds_toArray, List.set_cons_zero, List.set_cons_succ, List.getElem_toArray, List.getElem_cons_succ, List.getElem_cons_zero]
  refine wpAnyH_done (by kernel_rfl) ?_ _
  have sz := HI1.out.2.2.2.size
  have sz2 := (((Only.refl (ownL v) w1).drew).trans o2).size
  have H3 : Hid (MeetPost w v xs (meetIds q l ++ meetIds q r) (.returned v3) w3) := by
    refine ⟨v3, rfl, by rw [← List.append_assoc]; exact hs3, (HI1.out.2.2.2.mono (by simp)).trans O3, fun x hx => ?_⟩
    rcases hb3 x hx with h | h
    · rcases hb2 x h with h | h
      · exact Or.inl h
      · exact Or.inr (Nat.le_trans sz h)
    · exact Or.inr (by omega)
  clear hHeld3 hs2 o2 hb2 hs3 o3 hb3 O3 sz sz2
  go_wp2_with fail
  go_ret
  exact H3.out
theorem meeting_tells (q : Bx) : ∀ T : Tr, Tells q T
  | ⟨b, .inl (id, box, room)⟩ => by
    intro w u v xs hi hv hx
    cases hm : meetX room q with
    | false =>
      refine (meeting_miss _ u q v w hi hm).mono ?_
      rintro e w' ⟨rfl, o⟩
      exact ⟨v, rfl, by simp only [meetIds, hm, Bool.false_eq_true, if_false, List.append_nil]; exact hv.kept o (by simp), o.mono (by simp), fun b hb => Or.inl hb⟩
    | true =>
      cases hb : meetX box q with
      | false =>
        refine (meeting_out b id box room u q v xs w hi hv (by omega) hm hb).mono ?_
        rintro e w' ⟨rfl, o⟩
        exact ⟨v, rfl, by simp only [meetIds, hm, hb, Bool.false_eq_true, if_false, if_true, List.append_nil]; exact hv.kept o (by simp), o.mono (by simp), fun b hb => Or.inl hb⟩
      | true =>
        have := meeting_in b id box room u q v xs w hi hv (by omega) hm hb
        simp only [meetIds, hm, hb, if_true]
        exact this
  | ⟨b, .inr (l, r)⟩ => by
    intro w u v xs hi hv hx
    cases hm : meetX (Tr.node b l r).room q with
    | false =>
      refine (meeting_miss _ u q v w hi hm).mono ?_
      rintro e w' ⟨rfl, o⟩
      exact ⟨v, rfl, by rw [meet_miss hm, List.append_nil]; exact hv.kept o (by simp), o.mono (by simp), fun b hb => Or.inl hb⟩
    | true => exact meeting_node b l r q (meeting_tells q l) (meeting_tells q r) w u v xs hi hv hx hm
end Go.Proofs.YtdhbcgdlmkkdfaaGreatDoor
