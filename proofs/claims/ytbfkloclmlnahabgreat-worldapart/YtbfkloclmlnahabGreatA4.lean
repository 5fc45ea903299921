/- broad.node.meeting: to a list come the numbers of the leaves below a node whose boxes meet a box: whatever the tree, the list, the box. · broad.Tree.hang and unhang, told by what hangs in the tree: a leaf more, a leaf less; the tree stays levelled: whatever it is. · broad.right and Tree.roomy: what is wrong with a box; whether a leaf may stay where it hangs: whatever the box. · world.right: what is wrong with a body: whatever the body. -/
import Derived.Test.YtbfkloclmlnahabGreatA3
import Derived.Maps.AppendAt
import Derived.OwnWalk
import Derived.Test.YtbfkloclmlnahabGreatA0
import Derived.Test.YtbfkloclmlnahabGreatA2
open List renaming getElem_toArray → zqa, getElem_cons_succ → zqb, getElem_cons_zero → zqc, setIfInBounds_toArray → zqd, set_cons_zero → zqe, set_cons_succ → zqf, getElem?_toArray → zqg, getElem?_cons_succ → zqh, getElem?_cons_zero → zqi
namespace Go.Proofs.YtbfkloclmlnahabGreat
open Go.ChangeShapes Go.WideShapes Go.ChangeAt Go.RowKit
set_option linter.unusedVariables false
set_option linter.unusedSimpArgs false

/-- A list of numbers that the call owns. -/
def SlInts (w : World) (v : Value) (xs : List Int) : Prop := w.ownsRow 0 3 1 v xs.length (xs.map (Value.int .i64))
def ownL (v : Value) : List Nat := v.ownBlock.toList
theorem SlInts.apart {w : World} {v : Value} {xs : List Int} (h : SlInts w v xs) {b : Nat} {n : Nd} (k : NodeAt w b n) : b ∉ ownL v := by
  intro hb
  obtain ⟨_, ⟨rfl, _⟩ | ⟨g, cap, cur, rfl, _, hg, _⟩⟩ := h
  · simp [ownL, Value.ownBlock] at hb
  · simp only [ownL, Value.ownBlock, Option.toList_some, List.mem_singleton] at hb
    subst hb
    unfold NodeAt at k
    rw [hg] at k
    injection k with k
    injection k with _ k _
    exact absurd k (by decide)
theorem SlInts.kept {w w' : World} {v : Value} {xs : List Int} (h : SlInts w v xs) {D : List Nat} (o : Only D w w') (s : ∀ b ∈ ownL v, b ∉ D) : SlInts w' v xs := by
  obtain ⟨h1, h2⟩ := h
  refine ⟨h1, ?_⟩
  rcases h2 with h2 | ⟨g, cap, cur, rfl, hb, hg, r⟩
  · exact Or.inl h2
  · exact Or.inr ⟨g, cap, cur, rfl, hb, (o.block g (Array.getElem?_eq_some_iff.1 hg).1 (s g (by simp [ownL, Value.ownBlock]))).trans hg, r⟩
theorem SlInts.lt {w : World} {v : Value} {xs : List Int} (h : SlInts w v xs) : ∀ b ∈ ownL v, b < w.heap.size := by
  intro b hb
  obtain ⟨_, ⟨rfl, _⟩ | ⟨g, cap, cur, rfl, _, hg, _⟩⟩ := h
  · simp [ownL, Value.ownBlock] at hb
  · simp only [ownL, Value.ownBlock, Option.toList_some, List.mem_singleton] at hb
    subst hb
    exact (Array.getElem?_eq_some_iff.1 hg).1
def MeetPost (w : World) (v : Value) (xs ys : List Int) (e : Ending) (w' : World) : Prop :=
  ∃ v', e = .returned v' ∧ SlInts w' v' (xs ++ ys) ∧ Only (ownL v) w w' ∧ (∀ b ∈ ownL v', b ∈ ownL v ∨ w.heap.size ≤ b)

def BoxAt (w : World) (k : Nat) (q : Bx) : Prop := w.heap[k]? = some (.cells #[.int .i64 (q.x0), .int .i64 (q.x1), .int .i64 (q.x2), .int .i64 (q.x3), .int .i64 (q.x4), .int .i64 (q.x5)] 89)
theorem BoxAt.off {w : World} {b : Nat} {q : Bx} (h : BoxAt w b q) (i : Nat) : w.cell? ⟨b, i, none⟩ = (#[.int .i64 (q.x0), .int .i64 (q.x1), .int .i64 (q.x2), .int .i64 (q.x3), .int .i64 (q.x4), .int .i64 (q.x5)] : Array Value)[i]? := by
  unfold BoxAt at h; simp [World.cell?, h]
theorem BoxAt.lt {w : World} {b : Nat} {q : Bx} (h : BoxAt w b q) : b < w.heap.size := (Array.getElem?_eq_some_iff.1 h).1
theorem Only.box {D : List Nat} {w w' : World} (h : Only D w w') {b : Nat} (s : b ∉ D) {q : Bx} (k : BoxAt w b q) : BoxAt w' b q := (h.block b k.lt s).trans k
def MK (b : Nat) (o : Nat) (r : Bx) (k : Nat) (q : Bx) (w w' : World) : Prop := Kept w w' ∧ w'.cell? ⟨b, o, none⟩ = some (.int .i64 r.x0) ∧ w'.cell? ⟨b, o + 1, none⟩ = some (.int .i64 r.x1) ∧ w'.cell? ⟨b, o + 2, none⟩ = some (.int .i64 r.x2) ∧ w'.cell? ⟨b, o + 3, none⟩ = some (.int .i64 r.x3) ∧ w'.cell? ⟨b, o + 4, none⟩ = some (.int .i64 r.x4) ∧ w'.cell? ⟨b, o + 5, none⟩ = some (.int .i64 r.x5) ∧ w'.cell? ⟨k, 0, none⟩ = some (.int .i64 q.x0) ∧ w'.cell? ⟨k, 1, none⟩ = some (.int .i64 q.x1) ∧ w'.cell? ⟨k, 2, none⟩ = some (.int .i64 q.x2) ∧ w'.cell? ⟨k, 3, none⟩ = some (.int .i64 q.x3) ∧ w'.cell? ⟨k, 4, none⟩ = some (.int .i64 q.x4) ∧ w'.cell? ⟨k, 5, none⟩ = some (.int .i64 q.x5)
theorem MK.step {b o : Nat} {r : Bx} {k : Nat} {q : Bx} {w w1 w2 : World} (kk : Kept w1 w2) (h : MK b o r k q w w1) : MK b o r k q w w2 := by
  obtain ⟨h0, h1, h2, h3, h4, h5, h6, h7, h8, h9, h10, h11, h12⟩ := h
  exact ⟨h0.trans kk, kept_cell kk h1, kept_cell kk h2, kept_cell kk h3, kept_cell kk h4, kept_cell kk h5, kept_cell kk h6, kept_cell kk h7, kept_cell kk h8, kept_cell kk h9, kept_cell kk h10, kept_cell kk h11, kept_cell kk h12⟩
theorem MK.room {w : World} {b : Nat} {n : Nd} {k : Nat} {q : Bx} (h : NodeAt w b n) (hq : BoxAt w k q) : MK b 7 n.room k q w w.drew :=
  ⟨(Kept.refl _).drew, h.c7, h.c8, h.c9, h.c10, h.c11, h.c12, hq.off 0, hq.off 1, hq.off 2, hq.off 3, hq.off 4, hq.off 5⟩
theorem MK.box {w : World} {b : Nat} {n : Nd} {k : Nat} {q : Bx} (h : NodeAt w b n) (hq : BoxAt w k q) : MK b 1 n.box k q w w.drew :=
  ⟨(Kept.refl _).drew, h.c1, h.c2, h.c3, h.c4, h.c5, h.c6, hq.off 0, hq.off 1, hq.off 2, hq.off 3, hq.off 4, hq.off 5⟩
theorem In.apart {w : World} {v : Value} {xs : List Int} (h : SlInts w v xs) : ∀ {T : Tr} {u : Option Nat}, In w u T → ∀ b ∈ T.blocks, b ∉ ownL v
  | ⟨_,.inl (_,_,_)⟩, _, k, b, hb => by simp only [Tr.blocks, List.mem_singleton] at hb; rw [hb]; exact h.apart k
  | ⟨_,.inr (l,r)⟩, _, k, b, hb => by
    simp only [Tr.blocks, List.mem_cons, List.mem_append] at hb
    rcases hb with rfl | hb | hb
    · exact h.apart k.1
    · exact In.apart h k.2.1 b hb
    · exact In.apart h k.2.2 b hb

theorem meet_miss {q : Bx} {T : Tr} (h : meetX T.room q = false) : meetIds q T = [] := by
  cases T using Tr.cs with
  | leaf => simp only [meetIds, Tr.room] at *; simp [h]
  | node => simp only [meetIds, Tr.room] at *; simp [h]
/-- A node whose room does not meet the box: nothing comes to the list. -/
theorem meeting_miss (T : Tr) (up : Option Nat) (q : Bx) (v : Value) (w : World) (hi : In w up T) (hm : meetX T.room q = false) : Calls Tryz.prog 46 #[.pointer (some ⟨T.root, 0, none⟩), .agg #[.int .i64 (q.x0), .int .i64 (q.x1), .int .i64 (q.x2), .int .i64 (q.x3), .int .i64 (q.x4), .int .i64 (q.x5)], v] w fun e w' => e = .returned v ∧ Only [] w w' := by
  have HI : Hid (In w up T) := hi
  clear hi
  unfold meetX at hm
  obtain ⟨R, hR⟩ : ∃ R, R = T.room := ⟨_, rfl⟩
  rw [← hR] at hm
  have HR : Hid (R = T.room) := hR
  clear hR
  obtain ⟨B, hB⟩ : ∃ B, B = T.root := ⟨_, rfl⟩
  rw [← hB]
  have HB : Hid (B = T.root) := hB
  clear hB
  go_enter Tryz.func46, Tryz.ntmps46
  go_wp2_with fail
  have o0 : Hid (Only [] w _ ∧ BoxAt _ w.heap.size q) := ⟨(Only.refl [] w).alloc (.cells #[.int .i64 (q.x0), .int .i64 (q.x1), .int .i64 (q.x2), .int .i64 (q.x3), .int .i64 (q.x4), .int .i64 (q.x5)] 89), (MapKept.heap_alloc w _).1⟩
  revert o0
  generalize World.alloc w _ = w0
  generalize hkk : w.heap.size = k
  have HW : Hid (w.heap.size = k) := hkk
  clear hkk
  intro o0
  have HI0 : Hid (In w0 up (T)) := HI.out.only o0.out.1 (by simp)
  refine wp_region_held_drew (S := (fun w' => Kept w0 w' ∧ w'.cell? ⟨B, 7, none⟩ = some (.int .i64 R.x0) ∧ w'.cell? ⟨B, 8, none⟩ = some (.int .i64 R.x1) ∧ w'.cell? ⟨B, 9, none⟩ = some (.int .i64 R.x2) ∧ w'.cell? ⟨B, 10, none⟩ = some (.int .i64 R.x3) ∧ w'.cell? ⟨B, 11, none⟩ = some (.int .i64 R.x4) ∧ w'.cell? ⟨B, 12, none⟩ = some (.int .i64 R.x5) ∧ w'.cell? ⟨k, 0, none⟩ = some (.int .i64 q.x0) ∧ w'.cell? ⟨k, 1, none⟩ = some (.int .i64 q.x1) ∧ w'.cell? ⟨k, 2, none⟩ = some (.int .i64 q.x2) ∧ w'.cell? ⟨k, 3, none⟩ = some (.int .i64 q.x3) ∧ w'.cell? ⟨k, 4, none⟩ = some (.int .i64 q.x4) ∧ w'.cell? ⟨k, 5, none⟩ = some (.int .i64 q.x5))) (by kernel_rfl) ?_ (fun hHeld1 => ?_)
  · (try dsimp only); exact (by have := MK.room HI0.out.node o0.out.2; rw [nd_room, ← HR.out, ← HB.out] at this; exact this)
  refine wpAnyH_take (i := 0) (v := ?_) rfl (by kernel_rfl) (by kernel_rfl) (by kernel_rfl) (fun _ _ _ h => h) (Or.inl ⟨by kernel_rfl, ?_⟩) (by assumption) ?_
  rotate_left
  · intro w'' hSw; (try dsimp only at hSw); simp only [zqa, zqb, zqc]; (go_simp <;> with_reducible rfl)
  try simp only [Act.put, zqd, zqe, zqf, zqa, zqb, zqc]
  refine wpAnyH_take (i := 1) (v := ?_) rfl (by kernel_rfl) (by kernel_rfl) (by kernel_rfl) (fun _ _ _ h => h) (Or.inl ⟨by kernel_rfl, ?_⟩) (by assumption) ?_
  rotate_left
  · intro w'' hSw; (try dsimp only at hSw); simp only [zqa, zqb, zqc]; (go_simp <;> with_reducible rfl)
  try simp only [Act.put, zqd, zqe, zqf, zqa, zqb, zqc]
  refine wpAnyH_take (i := 2) (v := ?_) rfl (by kernel_rfl) (by kernel_rfl) (by kernel_rfl) (fun _ _ _ h => h) (Or.inl ⟨by kernel_rfl, ?_⟩) (by assumption) ?_
  rotate_left
  · intro w'' hSw; (try dsimp only at hSw); simp only [zqa, zqb, zqc]; (go_simp <;> with_reducible rfl)
  try simp only [Act.put, zqd, zqe, zqf, zqa, zqb, zqc]
  refine wpAnyH_take (i := 3) (v := ?_) rfl (by kernel_rfl) (by kernel_rfl) (by kernel_rfl) (fun _ _ _ h => h) (Or.inl ⟨by kernel_rfl, ?_⟩) (by assumption) ?_
  rotate_left
  · intro w'' hSw; (try dsimp only at hSw); simp only [zqa, zqb, zqc]; (go_simp <;> with_reducible rfl)
  try simp only [Act.put, zqd, zqe, zqf, zqa, zqb, zqc]
  refine wpAnyH_take (i := 4) (v := ?_) rfl (by kernel_rfl) (by kernel_rfl) (by kernel_rfl) (fun _ _ _ h => h) (Or.inl ⟨by kernel_rfl, ?_⟩) (by assumption) ?_
  rotate_left
  · intro w'' hSw; (try dsimp only at hSw); simp only [zqa, zqb, zqc]; (go_simp <;> with_reducible rfl)
  try simp only [Act.put, zqd, zqe, zqf, zqa, zqb, zqc]
  refine wpAnyH_take (i := 5) (v := ?_) rfl (by kernel_rfl) (by kernel_rfl) (by kernel_rfl) (fun _ _ _ h => h) (Or.inl ⟨by kernel_rfl, ?_⟩) (by assumption) ?_
  rotate_left
  · intro w'' hSw; (try dsimp only at hSw); simp only [zqa, zqb, zqc]; (go_simp <;> with_reducible rfl)
  try simp only [Act.put, zqd, zqe, zqf, zqa, zqb, zqc]
  refine wpAnyH_take (i := 6) (v := ?_) rfl (by kernel_rfl) (by kernel_rfl) (by kernel_rfl) (fun _ _ _ h => h) (Or.inl ⟨by kernel_rfl, ?_⟩) (by assumption) ?_
  rotate_left
  · intro w'' hSw; (try dsimp only at hSw); simp only [zqa, zqb, zqc]; (go_simp <;> with_reducible rfl)
  try simp only [Act.put, zqd, zqe, zqf, zqa, zqb, zqc]
  refine wpAnyH_take (i := 7) (v := ?_) rfl (by kernel_rfl) (by kernel_rfl) (by kernel_rfl) (fun _ _ _ h => h) (Or.inl ⟨by kernel_rfl, ?_⟩) (by assumption) ?_
  rotate_left
  · intro w'' hSw; (try dsimp only at hSw); simp only [zqa, zqb, zqc]; (go_simp <;> with_reducible rfl)
  try simp only [Act.put, zqd, zqe, zqf, zqa, zqb, zqc]
  refine wpAnyH_ready (rs := [8]) (by kernel_rfl) (by simp) ?_
  refine AllReadyH.cons rfl (fun K hK => ?_) AllReadyH.nil
  first | (with_reducible refine iteYes ?hcx ?htx; case hcx => kernel_rfl) | rw [if_pos (by rfl)]
  simp only [zqa, zqb, zqc]
  go_simp
  (go_at_call 77; refine (gmeet_calls _ _ _ _ _ _ _ _ _ _ _ _ _).mono ?_; rintro e w1 ⟨rfl, k1⟩)
  try go_wp2_with fail
  refine hK.out _ _ ?_ (fun hHeld2 => ?_)
  · (try dsimp only); exact MK.step k1 hHeld1
  clear hK K hHeld1
  try simp only [Act.put, zqd, zqe, zqf, zqa, zqb, zqc]
  refine wpAnyH_take (i := 9) (v := ?_) rfl (by kernel_rfl) (by kernel_rfl) (by kernel_rfl) (fun _ _ _ h => h) (Or.inl ⟨by kernel_rfl, ?_⟩) (by assumption) ?_
  rotate_left
  · intro w'' hSw; (try dsimp only at hSw); simp only [zqa, zqb, zqc]; (go_simp <;> with_reducible rfl)
  try simp only [Act.put, zqd, zqe, zqf, zqa, zqb, zqc]
  refine wpAnyH_take (i := 10) (v := ?_) rfl (by kernel_rfl) (by kernel_rfl) (by kernel_rfl) (fun _ _ _ h => h) (Or.inl ⟨by kernel_rfl, ?_⟩) (by assumption) ?_
  rotate_left
  · intro w'' hSw; (try dsimp only at hSw); simp only [zqa, zqb, zqc]; (go_simp <;> with_reducible rfl)
  try simp only [Act.put, zqd, zqe, zqf, zqa, zqb, zqc]
  refine wpAnyH_done (by kernel_rfl) ?_ _
  have HK : Hid (Kept w0 w1) := hHeld2.1
  clear hHeld2
  go_wp2_with fail
  go_ret
  exact ⟨rfl, o0.out.1.trans (.of_kept HK.out)⟩

theorem intInfo : (Tryz.prog.info? 3).map (fun i => (i.zero, i.size, i.bytes)) = some (some (.int .i64 0), 1, 8) := by kernel_rfl
theorem append_post {w w2 w3 : World} {v v' : Value} {xs : List Int} {id : Int} {T : TypeId} (o : Only [] w w2) (hown : w3.ownsRow 0 3 1 v' (xs.length + 1) (xs.map (Value.int .i64) ++ [.int .i64 id])) (hgrow : (w2.alloc (.cells #[.int .i64 id] T)).grownBy w3 v.ownBlock)
    (hloc : v'.ownBlock = v.ownBlock ∨ v'.ownBlock = some (w2.alloc (.cells #[.int .i64 id] T)).heap.size) : Hid (MeetPost w v xs [id] (.returned v') w3) := by
  refine ⟨v', rfl, ?_, ?_, ?_⟩
  · unfold SlInts; rw [List.map_append, List.length_append]; exact hown
  · refine ((o.mono (by simp)).alloc _).grown hgrow (fun k hk => Or.inl ?_)
    simp [ownL, hk]
  · intro x hx
    rcases hloc with e | e
    · left; simpa [ownL, e] using hx
    · right
      simp only [ownL, e, Option.toList_some, List.mem_singleton] at hx
      have := o.size
      simp at hx; omega
theorem meeting_out (b : Nat) (id : Int) (box room : Bx) (up : Option Nat) (q : Bx) (v : Value) (xs : List Int) (w : World) (hi : In w up (.leaf b id box room)) (hv : SlInts w v xs) (hl : xs.length ≤ 1000) (hm : meetX room q = true) (hb : meetX box q = false) :
    Calls Tryz.prog 46 #[.pointer (some ⟨(Tr.leaf b id box room).root, 0, none⟩), .agg #[.int .i64 (q.x0), .int .i64 (q.x1), .int .i64 (q.x2), .int .i64 (q.x3), .int .i64 (q.x4), .int .i64 (q.x5)], v] w fun e w' => e = .returned v ∧ Only [] w w' := by

  have HI : Hid (In w up (.leaf b id box room) ∧ SlInts w v xs ∧ xs.length ≤ 1000) := ⟨hi, hv, hl⟩
  clear hi hv hl
  unfold meetX at hm hb
  simp only [root_leaf]
  go_enter Tryz.func46, Tryz.ntmps46
  go_wp2_with fail
  have o0 : Hid (Only [] w _ ∧ BoxAt _ w.heap.size q) := ⟨(Only.refl [] w).alloc (.cells #[.int .i64 (q.x0), .int .i64 (q.x1), .int .i64 (q.x2), .int .i64 (q.x3), .int .i64 (q.x4), .int .i64 (q.x5)] 89), (MapKept.heap_alloc w _).1⟩
  revert o0
  generalize World.alloc w _ = w0
  generalize hkk : w.heap.size = k
  have HW : Hid (w.heap.size = k) := hkk
  clear hkk
  intro o0
  have HI0 : Hid (In w0 up (.leaf b id box room)) := HI.out.1.only o0.out.1 (by simp)
  refine wp_region_held_drew (S := (fun w' => Kept w0 w' ∧ w'.cell? ⟨b, 7, none⟩ = some (.int .i64 room.x0) ∧ w'.cell? ⟨b, 8, none⟩ = some (.int .i64 room.x1) ∧ w'.cell? ⟨b, 9, none⟩ = some (.int .i64 room.x2) ∧ w'.cell? ⟨b, 10, none⟩ = some (.int .i64 room.x3) ∧ w'.cell? ⟨b, 11, none⟩ = some (.int .i64 room.x4) ∧ w'.cell? ⟨b, 12, none⟩ = some (.int .i64 room.x5) ∧ w'.cell? ⟨k, 0, none⟩ = some (.int .i64 q.x0) ∧ w'.cell? ⟨k, 1, none⟩ = some (.int .i64 q.x1) ∧ w'.cell? ⟨k, 2, none⟩ = some (.int .i64 q.x2) ∧ w'.cell? ⟨k, 3, none⟩ = some (.int .i64 q.x3) ∧ w'.cell? ⟨k, 4, none⟩ = some (.int .i64 q.x4) ∧ w'.cell? ⟨k, 5, none⟩ = some (.int .i64 q.x5))) (by kernel_rfl) ?_ (fun hHeld1 => ?_)
  · (try dsimp only); exact MK.room HI0.out.node o0.out.2
  refine wpAnyH_take (i := 0) (v := ?_) rfl (by kernel_rfl) (by kernel_rfl) (by kernel_rfl) (fun _ _ _ h => h) (Or.inl ⟨by kernel_rfl, ?_⟩) (by assumption) ?_
  rotate_left
  · intro w'' hSw; (try dsimp only at hSw); simp only [zqa, zqb, zqc]; (go_simp <;> with_reducible rfl)
  try simp only [Act.put, zqd, zqe, zqf, zqa, zqb, zqc]
  refine wpAnyH_take (i := 1) (v := ?_) rfl (by kernel_rfl) (by kernel_rfl) (by kernel_rfl) (fun _ _ _ h => h) (Or.inl ⟨by kernel_rfl, ?_⟩) (by assumption) ?_
  rotate_left
  · intro w'' hSw; (try dsimp only at hSw); simp only [zqa, zqb, zqc]; (go_simp <;> with_reducible rfl)
  try simp only [Act.put, zqd, zqe, zqf, zqa, zqb, zqc]
  refine wpAnyH_take (i := 2) (v := ?_) rfl (by kernel_rfl) (by kernel_rfl) (by kernel_rfl) (fun _ _ _ h => h) (Or.inl ⟨by kernel_rfl, ?_⟩) (by assumption) ?_
  rotate_left
  · intro w'' hSw; (try dsimp only at hSw); simp only [zqa, zqb, zqc]; (go_simp <;> with_reducible rfl)
  try simp only [Act.put, zqd, zqe, zqf, zqa, zqb, zqc]
  refine wpAnyH_take (i := 3) (v := ?_) rfl (by kernel_rfl) (by kernel_rfl) (by kernel_rfl) (fun _ _ _ h => h) (Or.inl ⟨by kernel_rfl, ?_⟩) (by assumption) ?_
  rotate_left
  · intro w'' hSw; (try dsimp only at hSw); simp only [zqa, zqb, zqc]; (go_simp <;> with_reducible rfl)
  try simp only [Act.put, zqd, zqe, zqf, zqa, zqb, zqc]
  refine wpAnyH_take (i := 4) (v := ?_) rfl (by kernel_rfl) (by kernel_rfl) (by kernel_rfl) (fun _ _ _ h => h) (Or.inl ⟨by kernel_rfl, ?_⟩) (by assumption) ?_
  rotate_left
  · intro w'' hSw; (try dsimp only at hSw); simp only [zqa, zqb, zqc]; (go_simp <;> with_reducible rfl)
  try simp only [Act.put, zqd, zqe, zqf, zqa, zqb, zqc]
  refine wpAnyH_take (i := 5) (v := ?_) rfl (by kernel_rfl) (by kernel_rfl) (by kernel_rfl) (fun _ _ _ h => h) (Or.inl ⟨by kernel_rfl, ?_⟩) (by assumption) ?_
  rotate_left
  · intro w'' hSw; (try dsimp only at hSw); simp only [zqa, zqb, zqc]; (go_simp <;> with_reducible rfl)
  try simp only [Act.put, zqd, zqe, zqf, zqa, zqb, zqc]
  refine wpAnyH_take (i := 6) (v := ?_) rfl (by kernel_rfl) (by kernel_rfl) (by kernel_rfl) (fun _ _ _ h => h) (Or.inl ⟨by kernel_rfl, ?_⟩) (by assumption) ?_
  rotate_left
  · intro w'' hSw; (try dsimp only at hSw); simp only [zqa, zqb, zqc]; (go_simp <;> with_reducible rfl)
  try simp only [Act.put, zqd, zqe, zqf, zqa, zqb, zqc]
  refine wpAnyH_take (i := 7) (v := ?_) rfl (by kernel_rfl) (by kernel_rfl) (by kernel_rfl) (fun _ _ _ h => h) (Or.inl ⟨by kernel_rfl, ?_⟩) (by assumption) ?_
  rotate_left
  · intro w'' hSw; (try dsimp only at hSw); simp only [zqa, zqb, zqc]; (go_simp <;> with_reducible rfl)
  try simp only [Act.put, zqd, zqe, zqf, zqa, zqb, zqc]
  refine wpAnyH_ready (rs := [8]) (by kernel_rfl) (by simp) ?_
  refine AllReadyH.cons rfl (fun K hK => ?_) AllReadyH.nil
  first | (with_reducible refine iteYes ?hcx ?htx; case hcx => kernel_rfl) | rw [if_pos (by rfl)]
  simp only [zqa, zqb, zqc]
  go_simp
  (go_at_call 77; refine (gmeet_calls _ _ _ _ _ _ _ _ _ _ _ _ _).mono ?_; rintro e w1 ⟨rfl, k1⟩)
  try go_wp2_with fail
  refine hK.out _ _ ?_ (fun hHeld2 => ?_)
  · (try dsimp only); exact MK.step k1 hHeld1
  clear hK K hHeld1
  try simp only [Act.put, zqd, zqe, zqf, zqa, zqb, zqc]
  refine wpAnyH_take (i := 9) (v := ?_) rfl (by kernel_rfl) (by kernel_rfl) (by kernel_rfl) (fun _ _ _ h => h) (Or.inl ⟨by kernel_rfl, ?_⟩) (by assumption) ?_
  rotate_left
  · intro w'' hSw; (try dsimp only at hSw); simp only [zqa, zqb, zqc]; (go_simp <;> with_reducible rfl)
  try simp only [Act.put, zqd, zqe, zqf, zqa, zqb, zqc]
  refine wpAnyH_take (i := 10) (v := ?_) rfl (by kernel_rfl) (by kernel_rfl) (by kernel_rfl) (fun _ _ _ h => h) (Or.inl ⟨by kernel_rfl, ?_⟩) (by assumption) ?_
  rotate_left
  · intro w'' hSw; (try dsimp only at hSw); simp only [zqa, zqb, zqc]; (go_simp <;> with_reducible rfl)
  try simp only [Act.put, zqd, zqe, zqf, zqa, zqb, zqc]
  refine wpAnyH_done (by kernel_rfl) ?_ _
  have HK : Hid (Kept w0 w1) := hHeld2.1
  clear hHeld2
  have c13 : w1.cell? ⟨b, 13, none⟩ = some (.int .i64 0) := (HI0.out.node.kept HK.out).c13
  have HB1 : Hid (BoxAt w1 k q) := (Only.of_kept (D := []) HK.out).box (by simp) o0.out.2
  have HN1 : Hid (NodeAt w1 b ((Tr.leaf b id box room).nd up)) := HI0.out.node.kept HK.out
  go_wp2_with fail
  clear c13
  refine wp_region_held_drew (S := (fun w' => Kept w1 w' ∧ w'.cell? ⟨b, 1, none⟩ = some (.int .i64 box.x0) ∧ w'.cell? ⟨b, 2, none⟩ = some (.int .i64 box.x1) ∧ w'.cell? ⟨b, 3, none⟩ = some (.int .i64 box.x2) ∧ w'.cell? ⟨b, 4, none⟩ = some (.int .i64 box.x3) ∧ w'.cell? ⟨b, 5, none⟩ = some (.int .i64 box.x4) ∧ w'.cell? ⟨b, 6, none⟩ = some (.int .i64 box.x5) ∧ w'.cell? ⟨k, 0, none⟩ = some (.int .i64 q.x0) ∧ w'.cell? ⟨k, 1, none⟩ = some (.int .i64 q.x1) ∧ w'.cell? ⟨k, 2, none⟩ = some (.int .i64 q.x2) ∧ w'.cell? ⟨k, 3, none⟩ = some (.int .i64 q.x3) ∧ w'.cell? ⟨k, 4, none⟩ = some (.int .i64 q.x4) ∧ w'.cell? ⟨k, 5, none⟩ = some (.int .i64 q.x5))) (by kernel_rfl) ?_ (fun hHeld1 => ?_)
  · (try dsimp only); exact MK.box HN1.out HB1.out
  refine wpAnyH_take (i := 0) (v := ?_) rfl (by kernel_rfl) (by kernel_rfl) (by kernel_rfl) (fun _ _ _ h => h) (Or.inl ⟨by kernel_rfl, ?_⟩) (by assumption) ?_
  rotate_left
  · intro w'' hSw; (try dsimp only at hSw); simp only [zqa, zqb, zqc]; (go_simp <;> with_reducible rfl)
  try simp only [Act.put, zqd, zqe, zqf, zqa, zqb, zqc]
  refine wpAnyH_take (i := 1) (v := ?_) rfl (by kernel_rfl) (by kernel_rfl) (by kernel_rfl) (fun _ _ _ h => h) (Or.inl ⟨by kernel_rfl, ?_⟩) (by assumption) ?_
  rotate_left
  · intro w'' hSw; (try dsimp only at hSw); simp only [zqa, zqb, zqc]; (go_simp <;> with_reducible rfl)
  try simp only [Act.put, zqd, zqe, zqf, zqa, zqb, zqc]
  refine wpAnyH_take (i := 2) (v := ?_) rfl (by kernel_rfl) (by kernel_rfl) (by kernel_rfl) (fun _ _ _ h => h) (Or.inl ⟨by kernel_rfl, ?_⟩) (by assumption) ?_
  rotate_left
  · intro w'' hSw; (try dsimp only at hSw); simp only [zqa, zqb, zqc]; (go_simp <;> with_reducible rfl)
  try simp only [Act.put, zqd, zqe, zqf, zqa, zqb, zqc]
  refine wpAnyH_take (i := 3) (v := ?_) rfl (by kernel_rfl) (by kernel_rfl) (by kernel_rfl) (fun _ _ _ h => h) (Or.inl ⟨by kernel_rfl, ?_⟩) (by assumption) ?_
  rotate_left
  · intro w'' hSw; (try dsimp only at hSw); simp only [zqa, zqb, zqc]; (go_simp <;> with_reducible rfl)
  try simp only [Act.put, zqd, zqe, zqf, zqa, zqb, zqc]
  refine wpAnyH_take (i := 4) (v := ?_) rfl (by kernel_rfl) (by kernel_rfl) (by kernel_rfl) (fun _ _ _ h => h) (Or.inl ⟨by kernel_rfl, ?_⟩) (by assumption) ?_
  rotate_left
  · intro w'' hSw; (try dsimp only at hSw); simp only [zqa, zqb, zqc]; (go_simp <;> with_reducible rfl)
  try simp only [Act.put, zqd, zqe, zqf, zqa, zqb, zqc]
  refine wpAnyH_ready (rs := [5]) (by kernel_rfl) (by simp) ?_
  refine AllReadyH.cons rfl (fun K hK => ?_) AllReadyH.nil
  first | (with_reducible refine iteYes ?hcx ?htx; case hcx => kernel_rfl) | rw [if_pos (by rfl)]
  simp only [zqa, zqb, zqc]
  go_simp
  (go_at_call 77; refine (gmeet_calls _ _ _ _ _ _ _ _ _ _ _ _ _).mono ?_; rintro e w2 ⟨rfl, k2⟩)
  try go_wp2_with fail
  refine hK.out _ _ ?_ (fun hHeld2 => ?_)
  · (try dsimp only); exact MK.step k2 hHeld1
  clear hK K hHeld1
  try simp only [Act.put, zqd, zqe, zqf, zqa, zqb, zqc]
  refine wpAnyH_done (by kernel_rfl) ?_ _
  have HK2 : Hid (Only [] w w2 ∧ NodeAt w2 b ((Tr.leaf b id box room).nd up)) := ⟨(o0.out.1.trans (.of_kept HK.out)).trans (.of_kept hHeld2.1), HN1.out.kept hHeld2.1⟩
  clear hHeld2

  go_wp2_with fail
  go_ret
  exact ⟨rfl, HK2.out.1⟩
set_option maxRecDepth 100000 in
theorem meeting_in (b : Nat) (id : Int) (box room : Bx) (up : Option Nat) (q : Bx) (v : Value) (xs : List Int) (w : World) (hi : In w up (.leaf b id box room)) (hv : SlInts w v xs) (hl : xs.length ≤ 1000) (hm : meetX room q = true) (hb : meetX box q = true) :
    Calls Tryz.prog 46 #[.pointer (some ⟨(Tr.leaf b id box room).root, 0, none⟩), .agg #[.int .i64 (q.x0), .int .i64 (q.x1), .int .i64 (q.x2), .int .i64 (q.x3), .int .i64 (q.x4), .int .i64 (q.x5)], v] w (MeetPost w v xs [id]) := by
  obtain ⟨i0, hi0, hz0, hz1, hz2⟩ := info_parts intInfo

  have HI : Hid (In w up (.leaf b id box room) ∧ SlInts w v xs ∧ xs.length ≤ 1000) := ⟨hi, hv, hl⟩
  clear hi hv hl
  unfold meetX at hm hb
  simp only [root_leaf]
  go_enter Tryz.func46, Tryz.ntmps46
  go_wp2_with fail
  have o0 : Hid (Only [] w _ ∧ BoxAt _ w.heap.size q) := ⟨(Only.refl [] w).alloc (.cells #[.int .i64 (q.x0), .int .i64 (q.x1), .int .i64 (q.x2), .int .i64 (q.x3), .int .i64 (q.x4), .int .i64 (q.x5)] 89), (MapKept.heap_alloc w _).1⟩
  revert o0
  generalize World.alloc w _ = w0
  generalize hkk : w.heap.size = k
  have HW : Hid (w.heap.size = k) := hkk
  clear hkk
  intro o0
  have HI0 : Hid (In w0 up (.leaf b id box room)) := HI.out.1.only o0.out.1 (by simp)
  refine wp_region_held_drew (S := (fun w' => Kept w0 w' ∧ w'.cell? ⟨b, 7, none⟩ = some (.int .i64 room.x0) ∧ w'.cell? ⟨b, 8, none⟩ = some (.int .i64 room.x1) ∧ w'.cell? ⟨b, 9, none⟩ = some (.int .i64 room.x2) ∧ w'.cell? ⟨b, 10, none⟩ = some (.int .i64 room.x3) ∧ w'.cell? ⟨b, 11, none⟩ = some (.int .i64 room.x4) ∧ w'.cell? ⟨b, 12, none⟩ = some (.int .i64 room.x5) ∧ w'.cell? ⟨k, 0, none⟩ = some (.int .i64 q.x0) ∧ w'.cell? ⟨k, 1, none⟩ = some (.int .i64 q.x1) ∧ w'.cell? ⟨k, 2, none⟩ = some (.int .i64 q.x2) ∧ w'.cell? ⟨k, 3, none⟩ = some (.int .i64 q.x3) ∧ w'.cell? ⟨k, 4, none⟩ = some (.int .i64 q.x4) ∧ w'.cell? ⟨k, 5, none⟩ = some (.int .i64 q.x5))) (by kernel_rfl) ?_ (fun hHeld1 => ?_)
  · (try dsimp only); exact MK.room HI0.out.node o0.out.2
  refine wpAnyH_take (i := 0) (v := ?_) rfl (by kernel_rfl) (by kernel_rfl) (by kernel_rfl) (fun _ _ _ h => h) (Or.inl ⟨by kernel_rfl, ?_⟩) (by assumption) ?_
  rotate_left
  · intro w'' hSw; (try dsimp only at hSw); simp only [zqa, zqb, zqc]; (go_simp <;> with_reducible rfl)
  try simp only [Act.put, zqd, zqe, zqf, zqa, zqb, zqc]
  refine wpAnyH_take (i := 1) (v := ?_) rfl (by kernel_rfl) (by kernel_rfl) (by kernel_rfl) (fun _ _ _ h => h) (Or.inl ⟨by kernel_rfl, ?_⟩) (by assumption) ?_
  rotate_left
  · intro w'' hSw; (try dsimp only at hSw); simp only [zqa, zqb, zqc]; (go_simp <;> with_reducible rfl)
  try simp only [Act.put, zqd, zqe, zqf, zqa, zqb, zqc]
  refine wpAnyH_take (i := 2) (v := ?_) rfl (by kernel_rfl) (by kernel_rfl) (by kernel_rfl) (fun _ _ _ h => h) (Or.inl ⟨by kernel_rfl, ?_⟩) (by assumption) ?_
  rotate_left
  · intro w'' hSw; (try dsimp only at hSw); simp only [zqa, zqb, zqc]; (go_simp <;> with_reducible rfl)
  try simp only [Act.put, zqd, zqe, zqf, zqa, zqb, zqc]
  refine wpAnyH_take (i := 3) (v := ?_) rfl (by kernel_rfl) (by kernel_rfl) (by kernel_rfl) (fun _ _ _ h => h) (Or.inl ⟨by kernel_rfl, ?_⟩) (by assumption) ?_
  rotate_left
  · intro w'' hSw; (try dsimp only at hSw); simp only [zqa, zqb, zqc]; (go_simp <;> with_reducible rfl)
  try simp only [Act.put, zqd, zqe, zqf, zqa, zqb, zqc]
  refine wpAnyH_take (i := 4) (v := ?_) rfl (by kernel_rfl) (by kernel_rfl) (by kernel_rfl) (fun _ _ _ h => h) (Or.inl ⟨by kernel_rfl, ?_⟩) (by assumption) ?_
  rotate_left
  · intro w'' hSw; (try dsimp only at hSw); simp only [zqa, zqb, zqc]; (go_simp <;> with_reducible rfl)
  try simp only [Act.put, zqd, zqe, zqf, zqa, zqb, zqc]
  refine wpAnyH_take (i := 5) (v := ?_) rfl (by kernel_rfl) (by kernel_rfl) (by kernel_rfl) (fun _ _ _ h => h) (Or.inl ⟨by kernel_rfl, ?_⟩) (by assumption) ?_
  rotate_left
  · intro w'' hSw; (try dsimp only at hSw); simp only [zqa, zqb, zqc]; (go_simp <;> with_reducible rfl)
  try simp only [Act.put, zqd, zqe, zqf, zqa, zqb, zqc]
  refine wpAnyH_take (i := 6) (v := ?_) rfl (by kernel_rfl) (by kernel_rfl) (by kernel_rfl) (fun _ _ _ h => h) (Or.inl ⟨by kernel_rfl, ?_⟩) (by assumption) ?_
  rotate_left
  · intro w'' hSw; (try dsimp only at hSw); simp only [zqa, zqb, zqc]; (go_simp <;> with_reducible rfl)
  try simp only [Act.put, zqd, zqe, zqf, zqa, zqb, zqc]
  refine wpAnyH_take (i := 7) (v := ?_) rfl (by kernel_rfl) (by kernel_rfl) (by kernel_rfl) (fun _ _ _ h => h) (Or.inl ⟨by kernel_rfl, ?_⟩) (by assumption) ?_
  rotate_left
  · intro w'' hSw; (try dsimp only at hSw); simp only [zqa, zqb, zqc]; (go_simp <;> with_reducible rfl)
  try simp only [Act.put, zqd, zqe, zqf, zqa, zqb, zqc]
  refine wpAnyH_ready (rs := [8]) (by kernel_rfl) (by simp) ?_
  refine AllReadyH.cons rfl (fun K hK => ?_) AllReadyH.nil
  first | (with_reducible refine iteYes ?hcx ?htx; case hcx => kernel_rfl) | rw [if_pos (by rfl)]
  simp only [zqa, zqb, zqc]
  go_simp
  (go_at_call 77; refine (gmeet_calls _ _ _ _ _ _ _ _ _ _ _ _ _).mono ?_; rintro e w1 ⟨rfl, k1⟩)
  try go_wp2_with fail
  refine hK.out _ _ ?_ (fun hHeld2 => ?_)
  · (try dsimp only); exact MK.step k1 hHeld1
  clear hK K hHeld1
  try simp only [Act.put, zqd, zqe, zqf, zqa, zqb, zqc]
  refine wpAnyH_take (i := 9) (v := ?_) rfl (by kernel_rfl) (by kernel_rfl) (by kernel_rfl) (fun _ _ _ h => h) (Or.inl ⟨by kernel_rfl, ?_⟩) (by assumption) ?_
  rotate_left
  · intro w'' hSw; (try dsimp only at hSw); simp only [zqa, zqb, zqc]; (go_simp <;> with_reducible rfl)
  try simp only [Act.put, zqd, zqe, zqf, zqa, zqb, zqc]
  refine wpAnyH_take (i := 10) (v := ?_) rfl (by kernel_rfl) (by kernel_rfl) (by kernel_rfl) (fun _ _ _ h => h) (Or.inl ⟨by kernel_rfl, ?_⟩) (by assumption) ?_
  rotate_left
  · intro w'' hSw; (try dsimp only at hSw); simp only [zqa, zqb, zqc]; (go_simp <;> with_reducible rfl)
  try simp only [Act.put, zqd, zqe, zqf, zqa, zqb, zqc]
  refine wpAnyH_done (by kernel_rfl) ?_ _
  have HK : Hid (Kept w0 w1) := hHeld2.1
  clear hHeld2
  have c13 : w1.cell? ⟨b, 13, none⟩ = some (.int .i64 0) := (HI0.out.node.kept HK.out).c13
  have HB1 : Hid (BoxAt w1 k q) := (Only.of_kept (D := []) HK.out).box (by simp) o0.out.2
  have HN1 : Hid (NodeAt w1 b ((Tr.leaf b id box room).nd up)) := HI0.out.node.kept HK.out
  go_wp2_with fail
  clear c13
  refine wp_region_held_drew (S := (fun w' => Kept w1 w' ∧ w'.cell? ⟨b, 1, none⟩ = some (.int .i64 box.x0) ∧ w'.cell? ⟨b, 2, none⟩ = some (.int .i64 box.x1) ∧ w'.cell? ⟨b, 3, none⟩ = some (.int .i64 box.x2) ∧ w'.cell? ⟨b, 4, none⟩ = some (.int .i64 box.x3) ∧ w'.cell? ⟨b, 5, none⟩ = some (.int .i64 box.x4) ∧ w'.cell? ⟨b, 6, none⟩ = some (.int .i64 box.x5) ∧ w'.cell? ⟨k, 0, none⟩ = some (.int .i64 q.x0) ∧ w'.cell? ⟨k, 1, none⟩ = some (.int .i64 q.x1) ∧ w'.cell? ⟨k, 2, none⟩ = some (.int .i64 q.x2) ∧ w'.cell? ⟨k, 3, none⟩ = some (.int .i64 q.x3) ∧ w'.cell? ⟨k, 4, none⟩ = some (.int .i64 q.x4) ∧ w'.cell? ⟨k, 5, none⟩ = some (.int .i64 q.x5))) (by kernel_rfl) ?_ (fun hHeld1 => ?_)
  · (try dsimp only); exact MK.box HN1.out HB1.out
  refine wpAnyH_take (i := 0) (v := ?_) rfl (by kernel_rfl) (by kernel_rfl) (by kernel_rfl) (fun _ _ _ h => h) (Or.inl ⟨by kernel_rfl, ?_⟩) (by assumption) ?_
  rotate_left
  · intro w'' hSw; (try dsimp only at hSw); simp only [zqa, zqb, zqc]; (go_simp <;> with_reducible rfl)
  try simp only [Act.put, zqd, zqe, zqf, zqa, zqb, zqc]
  refine wpAnyH_take (i := 1) (v := ?_) rfl (by kernel_rfl) (by kernel_rfl) (by kernel_rfl) (fun _ _ _ h => h) (Or.inl ⟨by kernel_rfl, ?_⟩) (by assumption) ?_
  rotate_left
  · intro w'' hSw; (try dsimp only at hSw); simp only [zqa, zqb, zqc]; (go_simp <;> with_reducible rfl)
  try simp only [Act.put, zqd, zqe, zqf, zqa, zqb, zqc]
  refine wpAnyH_take (i := 2) (v := ?_) rfl (by kernel_rfl) (by kernel_rfl) (by kernel_rfl) (fun _ _ _ h => h) (Or.inl ⟨by kernel_rfl, ?_⟩) (by assumption) ?_
  rotate_left
  · intro w'' hSw; (try dsimp only at hSw); simp only [zqa, zqb, zqc]; (go_simp <;> with_reducible rfl)
  try simp only [Act.put, zqd, zqe, zqf, zqa, zqb, zqc]
  refine wpAnyH_take (i := 3) (v := ?_) rfl (by kernel_rfl) (by kernel_rfl) (by kernel_rfl) (fun _ _ _ h => h) (Or.inl ⟨by kernel_rfl, ?_⟩) (by assumption) ?_
  rotate_left
  · intro w'' hSw; (try dsimp only at hSw); simp only [zqa, zqb, zqc]; (go_simp <;> with_reducible rfl)
  try simp only [Act.put, zqd, zqe, zqf, zqa, zqb, zqc]
  refine wpAnyH_take (i := 4) (v := ?_) rfl (by kernel_rfl) (by kernel_rfl) (by kernel_rfl) (fun _ _ _ h => h) (Or.inl ⟨by kernel_rfl, ?_⟩) (by assumption) ?_
  rotate_left
  · intro w'' hSw; (try dsimp only at hSw); simp only [zqa, zqb, zqc]; (go_simp <;> with_reducible rfl)
  try simp only [Act.put, zqd, zqe, zqf, zqa, zqb, zqc]
  refine wpAnyH_ready (rs := [5]) (by kernel_rfl) (by simp) ?_
  refine AllReadyH.cons rfl (fun K hK => ?_) AllReadyH.nil
  first | (with_reducible refine iteYes ?hcx ?htx; case hcx => kernel_rfl) | rw [if_pos (by rfl)]
  simp only [zqa, zqb, zqc]
  go_simp
  (go_at_call 77; refine (gmeet_calls _ _ _ _ _ _ _ _ _ _ _ _ _).mono ?_; rintro e w2 ⟨rfl, k2⟩)
  try go_wp2_with fail
  refine hK.out _ _ ?_ (fun hHeld2 => ?_)
  · (try dsimp only); exact MK.step k2 hHeld1
  clear hK K hHeld1
  try simp only [Act.put, zqd, zqe, zqf, zqa, zqb, zqc]
  refine wpAnyH_done (by kernel_rfl) ?_ _
  have HK2 : Hid (Only [] w w2 ∧ NodeAt w2 b ((Tr.leaf b id box room).nd up)) := ⟨(o0.out.1.trans (.of_kept HK.out)).trans (.of_kept hHeld2.1), HN1.out.kept hHeld2.1⟩
  clear hHeld2

  have c0 : w2.cell? ⟨b, 0, none⟩ = some (.int .i64 id) := HK2.out.2.c0
  have hs := HI.out.2.1.kept HK2.out.1 (by simp)
  have hx := HI.out.2.2
  go_wp2_with (first | (at_builtin; refine wpList_append_own_at _ rfl _ _ 95 rfl 0 3 i0 (.int .i64 0) 1 8 Tryz.underlying95 hi0 hz0 hz1 hz2 rfl (by decide) v xs.length (xs.map (Value.int .i64)) rfl (World.ownsRow.alloc hs _) ⟨w2.heap.size, 0, none⟩ 1 1 [.int .i64 id] rfl rfl (cell_one_new _ _ _) (by simp [Value.oneCell']) (by unfold maxLen; omega) (by omega) (by simp) ?_; intro v' w3 hown hgrow hnil hloc; have H3 := append_post HK2.out.1 hown hgrow hloc; clear hown hgrow hnil hloc c0))
  go_ret
  exact H3.out

def S4 (b lr rr : Nat) (k : Nat) (q : Bx) (v : Value) (w w' : World) : Prop := Only (ownL v) w w' ∧ w'.cell? ⟨b, 15, none⟩ = some (.pointer (some ⟨lr, 0, none⟩)) ∧ w'.cell? ⟨b, 16, none⟩ = some (.pointer (some ⟨rr, 0, none⟩)) ∧ w'.cell? ⟨k, 0, none⟩ = some (.int .i64 q.x0) ∧ w'.cell? ⟨k, 1, none⟩ = some (.int .i64 q.x1) ∧ w'.cell? ⟨k, 2, none⟩ = some (.int .i64 q.x2) ∧ w'.cell? ⟨k, 3, none⟩ = some (.int .i64 q.x3) ∧ w'.cell? ⟨k, 4, none⟩ = some (.int .i64 q.x4) ∧ w'.cell? ⟨k, 5, none⟩ = some (.int .i64 q.x5)
theorem S4.of {b k : Nat} {n : Nd} {q : Bx} {v : Value} {lr rr : Nat} {w w' : World} (o : Only (ownL v) w w') (hb : b ∉ ownL v) (hk : k ∉ ownL v) (hn : NodeAt w b n) (el : n.l = some lr) (er : n.r = some rr) (hq : BoxAt w k q) : S4 b lr rr k q v w w' := by
  have hn' := o.node hb hn
  have hq' := o.box hk hq
  have c15 := hn'.c15; have c16 := hn'.c16
  rw [el] at c15; rw [er] at c16
  exact ⟨o, c15, c16, hq'.off 0, hq'.off 1, hq'.off 2, hq'.off 3, hq'.off 4, hq'.off 5⟩
def Tells (q : Bx) (T : Tr) : Prop := ∀ (w : World) (u : Option Nat) (v : Value) (xs : List Int), In w u T → SlInts w v xs → xs.length + T.leaves.length ≤ 1000 → Calls Tryz.prog 46 #[.pointer (some ⟨T.root, 0, none⟩), .agg #[.int .i64 (q.x0), .int .i64 (q.x1), .int .i64 (q.x2), .int .i64 (q.x3), .int .i64 (q.x4), .int .i64 (q.x5)], v] w (MeetPost w v xs (meetIds q T))
set_option maxRecDepth 100000 in
theorem meeting_node (b : Nat) (l r : Tr) (q : Bx) (hl : Tells q l) (hr : Tells q r) (w : World) (up : Option Nat) (v : Value) (xs : List Int) (hi : In w up (.node b l r)) (hv : SlInts w v xs) (hx : xs.length + (Tr.node b l r).leaves.length ≤ 1000) (hm : meetX (Tr.node b l r).room q = true) :
    Calls Tryz.prog 46 #[.pointer (some ⟨(Tr.node b l r).root, 0, none⟩), .agg #[.int .i64 (q.x0), .int .i64 (q.x1), .int .i64 (q.x2), .int .i64 (q.x3), .int .i64 (q.x4), .int .i64 (q.x5)], v] w (MeetPost w v xs (meetIds q (.node b l r))) := by
  have HI : Hid (In w up (.node b l r) ∧ SlInts w v xs ∧ xs.length + (l.leaves.length + r.leaves.length) ≤ 1000) := ⟨hi, hv, by simpa [Tr.leaves] using hx⟩
  have HM : Hid (meetIds q (.node b l r) = meetIds q l ++ meetIds q r) := by
    show meetIds q (.node b l r) = _
    simp only [room_node] at hm
    simp only [meetIds, hm, if_true]
  have HL : Hid (Tells q l) := hl
  have HR2 : Hid (Tells q r) := hr
  clear hi hv hl hr hx
  unfold meetX at hm
  simp only [root_node]
  obtain ⟨R, hR⟩ : ∃ R, R = (Tr.node b l r).room := ⟨_, rfl⟩
  rw [← hR] at hm
  have HR : Hid (R = (Tr.node b l r).room) := hR
  clear hR
  generalize hlr : l.root = lr
  generalize hrr : r.root = rr
  have HLR : Hid (l.root = lr ∧ r.root = rr) := ⟨hlr, hrr⟩
  clear hlr hrr
  rw [HM.out]
  go_enter Tryz.func46, Tryz.ntmps46
  go_wp2_with fail
  have o0 : Hid (Only [] w _ ∧ BoxAt _ w.heap.size q) := ⟨(Only.refl [] w).alloc (.cells #[.int .i64 (q.x0), .int .i64 (q.x1), .int .i64 (q.x2), .int .i64 (q.x3), .int .i64 (q.x4), .int .i64 (q.x5)] 89), (MapKept.heap_alloc w _).1⟩
  revert o0
  generalize World.alloc w _ = w0
  generalize hkk : w.heap.size = k
  have HW : Hid (w.heap.size = k) := hkk
  clear hkk
  intro o0
  have HI0 : Hid (In w0 up (.node b l r)) := HI.out.1.only o0.out.1 (by simp)
  refine wp_region_held_drew (S := (fun w' => Kept w0 w' ∧ w'.cell? ⟨b, 7, none⟩ = some (.int .i64 R.x0) ∧ w'.cell? ⟨b, 8, none⟩ = some (.int .i64 R.x1) ∧ w'.cell? ⟨b, 9, none⟩ = some (.int .i64 R.x2) ∧ w'.cell? ⟨b, 10, none⟩ = some (.int .i64 R.x3) ∧ w'.cell? ⟨b, 11, none⟩ = some (.int .i64 R.x4) ∧ w'.cell? ⟨b, 12, none⟩ = some (.int .i64 R.x5) ∧ w'.cell? ⟨k, 0, none⟩ = some (.int .i64 q.x0) ∧ w'.cell? ⟨k, 1, none⟩ = some (.int .i64 q.x1) ∧ w'.cell? ⟨k, 2, none⟩ = some (.int .i64 q.x2) ∧ w'.cell? ⟨k, 3, none⟩ = some (.int .i64 q.x3) ∧ w'.cell? ⟨k, 4, none⟩ = some (.int .i64 q.x4) ∧ w'.cell? ⟨k, 5, none⟩ = some (.int .i64 q.x5))) (by kernel_rfl) ?_ (fun hHeld1 => ?_)
  · (try dsimp only); exact (by have := MK.room HI0.out.node o0.out.2; rw [nd_room, ← HR.out] at this; exact this)
  refine wpAnyH_take (i := 0) (v := ?_) rfl (by kernel_rfl) (by kernel_rfl) (by kernel_rfl) (fun _ _ _ h => h) (Or.inl ⟨by kernel_rfl, ?_⟩) (by assumption) ?_
  rotate_left
  · intro w'' hSw; (try dsimp only at hSw); simp only [zqa, zqb, zqc]; (go_simp <;> with_reducible rfl)
  try simp only [Act.put, zqd, zqe, zqf, zqa, zqb, zqc]
  refine wpAnyH_take (i := 1) (v := ?_) rfl (by kernel_rfl) (by kernel_rfl) (by kernel_rfl) (fun _ _ _ h => h) (Or.inl ⟨by kernel_rfl, ?_⟩) (by assumption) ?_
  rotate_left
  · intro w'' hSw; (try dsimp only at hSw); simp only [zqa, zqb, zqc]; (go_simp <;> with_reducible rfl)
  try simp only [Act.put, zqd, zqe, zqf, zqa, zqb, zqc]
  refine wpAnyH_take (i := 2) (v := ?_) rfl (by kernel_rfl) (by kernel_rfl) (by kernel_rfl) (fun _ _ _ h => h) (Or.inl ⟨by kernel_rfl, ?_⟩) (by assumption) ?_
  rotate_left
  · intro w'' hSw; (try dsimp only at hSw); simp only [zqa, zqb, zqc]; (go_simp <;> with_reducible rfl)
  try simp only [Act.put, zqd, zqe, zqf, zqa, zqb, zqc]
  refine wpAnyH_take (i := 3) (v := ?_) rfl (by kernel_rfl) (by kernel_rfl) (by kernel_rfl) (fun _ _ _ h => h) (Or.inl ⟨by kernel_rfl, ?_⟩) (by assumption) ?_
  rotate_left
  · intro w'' hSw; (try dsimp only at hSw); simp only [zqa, zqb, zqc]; (go_simp <;> with_reducible rfl)
  try simp only [Act.put, zqd, zqe, zqf, zqa, zqb, zqc]
  refine wpAnyH_take (i := 4) (v := ?_) rfl (by kernel_rfl) (by kernel_rfl) (by kernel_rfl) (fun _ _ _ h => h) (Or.inl ⟨by kernel_rfl, ?_⟩) (by assumption) ?_
  rotate_left
  · intro w'' hSw; (try dsimp only at hSw); simp only [zqa, zqb, zqc]; (go_simp <;> with_reducible rfl)
  try simp only [Act.put, zqd, zqe, zqf, zqa, zqb, zqc]
  refine wpAnyH_take (i := 5) (v := ?_) rfl (by kernel_rfl) (by kernel_rfl) (by kernel_rfl) (fun _ _ _ h => h) (Or.inl ⟨by kernel_rfl, ?_⟩) (by assumption) ?_
  rotate_left
  · intro w'' hSw; (try dsimp only at hSw); simp only [zqa, zqb, zqc]; (go_simp <;> with_reducible rfl)
  try simp only [Act.put, zqd, zqe, zqf, zqa, zqb, zqc]
  refine wpAnyH_take (i := 6) (v := ?_) rfl (by kernel_rfl) (by kernel_rfl) (by kernel_rfl) (fun _ _ _ h => h) (Or.inl ⟨by kernel_rfl, ?_⟩) (by assumption) ?_
  rotate_left
  · intro w'' hSw; (try dsimp only at hSw); simp only [zqa, zqb, zqc]; (go_simp <;> with_reducible rfl)
  try simp only [Act.put, zqd, zqe, zqf, zqa, zqb, zqc]
  refine wpAnyH_take (i := 7) (v := ?_) rfl (by kernel_rfl) (by kernel_rfl) (by kernel_rfl) (fun _ _ _ h => h) (Or.inl ⟨by kernel_rfl, ?_⟩) (by assumption) ?_
  rotate_left
  · intro w'' hSw; (try dsimp only at hSw); simp only [zqa, zqb, zqc]; (go_simp <;> with_reducible rfl)
  try simp only [Act.put, zqd, zqe, zqf, zqa, zqb, zqc]
  refine wpAnyH_ready (rs := [8]) (by kernel_rfl) (by simp) ?_
  refine AllReadyH.cons rfl (fun K hK => ?_) AllReadyH.nil
  first | (with_reducible refine iteYes ?hcx ?htx; case hcx => kernel_rfl) | rw [if_pos (by rfl)]
  simp only [zqa, zqb, zqc]
  go_simp
  (go_at_call 77; refine (gmeet_calls _ _ _ _ _ _ _ _ _ _ _ _ _).mono ?_; rintro e w1 ⟨rfl, k1⟩)
  try go_wp2_with fail
  refine hK.out _ _ ?_ (fun hHeld2 => ?_)
  · (try dsimp only); exact MK.step k1 hHeld1
  clear hK K hHeld1
  try simp only [Act.put, zqd, zqe, zqf, zqa, zqb, zqc]
  refine wpAnyH_take (i := 9) (v := ?_) rfl (by kernel_rfl) (by kernel_rfl) (by kernel_rfl) (fun _ _ _ h => h) (Or.inl ⟨by kernel_rfl, ?_⟩) (by assumption) ?_
  rotate_left
  · intro w'' hSw; (try dsimp only at hSw); simp only [zqa, zqb, zqc]; (go_simp <;> with_reducible rfl)
  try simp only [Act.put, zqd, zqe, zqf, zqa, zqb, zqc]
  refine wpAnyH_take (i := 10) (v := ?_) rfl (by kernel_rfl) (by kernel_rfl) (by kernel_rfl) (fun _ _ _ h => h) (Or.inl ⟨by kernel_rfl, ?_⟩) (by assumption) ?_
  rotate_left
  · intro w'' hSw; (try dsimp only at hSw); simp only [zqa, zqb, zqc]; (go_simp <;> with_reducible rfl)
  try simp only [Act.put, zqd, zqe, zqf, zqa, zqb, zqc]
  refine wpAnyH_done (by kernel_rfl) ?_ _
  have HK : Hid (Kept w0 w1) := hHeld2.1
  clear hHeld2
  have HW' : Hid (k ∉ ownL v) := fun h => by have h1 := HI.out.2.1.lt k h; have h2 := HW.out; omega
  have HI1 : Hid (In w1 up (.node b l r) ∧ BoxAt w1 k q ∧ SlInts w1 v xs ∧ Only [] w w1) := ⟨HI0.out.only (.of_kept (D := []) HK.out) (by simp), (Only.of_kept (D := []) HK.out).box (by simp) o0.out.2, HI.out.2.1.kept (o0.out.1.trans (.of_kept HK.out)) (by simp), o0.out.1.trans (.of_kept HK.out)⟩
  have c13 := HI1.out.1.1.c13; rw [nd_high] at c13
  have hh : 0 < (Tr.node b l r).high := by have := high_nonneg l; have := high_nonneg r; have := greater_cases l.high r.high; simp only [Tr.high]; omega
  have t0 : decide (0 < (Tr.node b l r).high) = true := by simp [hh]
  generalize (Tr.node b l r).high = hgt at c13 hh t0
  clear HK HI0 o0 HW HR HM
  have HAP : Hid (∀ x ∈ (Tr.node b l r).blocks, x ∉ ownL v) := In.apart HI1.out.2.2.1 HI1.out.1
  go_wp2_with fail
  clear c13 t0 hh
  refine wp_region_held_drew (S := (fun w' => Only (ownL v) w1 w' ∧ w'.cell? ⟨b, 15, none⟩ = some (.pointer (some ⟨lr, 0, none⟩)) ∧ w'.cell? ⟨b, 16, none⟩ = some (.pointer (some ⟨rr, 0, none⟩)) ∧ w'.cell? ⟨k, 0, none⟩ = some (.int .i64 q.x0) ∧ w'.cell? ⟨k, 1, none⟩ = some (.int .i64 q.x1) ∧ w'.cell? ⟨k, 2, none⟩ = some (.int .i64 q.x2) ∧ w'.cell? ⟨k, 3, none⟩ = some (.int .i64 q.x3) ∧ w'.cell? ⟨k, 4, none⟩ = some (.int .i64 q.x4) ∧ w'.cell? ⟨k, 5, none⟩ = some (.int .i64 q.x5))) (by kernel_rfl) ?_ (fun hHeld1 => ?_)
  · (try dsimp only); exact S4.of (Only.refl _ _).drew (HAP.out b (by simp [Tr.blocks])) HW'.out HI1.out.1.1 (congrArg some HLR.out.1) (congrArg some HLR.out.2) HI1.out.2.1
  refine wpAnyH_take (i := 0) (v := ?_) rfl (by kernel_rfl) (by kernel_rfl) (by kernel_rfl) (fun _ _ _ h => h) (Or.inl ⟨by kernel_rfl, ?_⟩) (by assumption) ?_
  rotate_left
  · intro w'' hSw; (try dsimp only at hSw); simp only [zqa, zqb, zqc]; (go_simp <;> with_reducible rfl)
  try simp only [Act.put, zqd, zqe, zqf, zqa, zqb, zqc]
  refine wpAnyH_take (i := 1) (v := ?_) rfl (by kernel_rfl) (by kernel_rfl) (by kernel_rfl) (fun _ _ _ h => h) (Or.inl ⟨by kernel_rfl, ?_⟩) (by assumption) ?_
  rotate_left
  · intro w'' hSw; (try dsimp only at hSw); simp only [zqa, zqb, zqc]; (go_simp <;> with_reducible rfl)
  try simp only [Act.put, zqd, zqe, zqf, zqa, zqb, zqc]
  refine wpAnyH_take (i := 2) (v := ?_) rfl (by kernel_rfl) (by kernel_rfl) (by kernel_rfl) (fun _ _ _ h => h) (Or.inl ⟨by kernel_rfl, ?_⟩) (by assumption) ?_
  rotate_left
  · intro w'' hSw; (try dsimp only at hSw); simp only [zqa, zqb, zqc]; (go_simp <;> with_reducible rfl)
  try simp only [Act.put, zqd, zqe, zqf, zqa, zqb, zqc]
  refine wpAnyH_take (i := 3) (v := ?_) rfl (by kernel_rfl) (by kernel_rfl) (by kernel_rfl) (fun _ _ _ h => h) (Or.inl ⟨by kernel_rfl, ?_⟩) (by assumption) ?_
  rotate_left
  · intro w'' hSw; (try dsimp only at hSw); simp only [zqa, zqb, zqc]; (go_simp <;> with_reducible rfl)
  try simp only [Act.put, zqd, zqe, zqf, zqa, zqb, zqc]
  refine wpAnyH_take (i := 4) (v := ?_) rfl (by kernel_rfl) (by kernel_rfl) (by kernel_rfl) (fun _ _ _ h => h) (Or.inl ⟨by kernel_rfl, ?_⟩) (by assumption) ?_
  rotate_left
  · intro w'' hSw; (try dsimp only at hSw); simp only [zqa, zqb, zqc]; (go_simp <;> with_reducible rfl)
  try simp only [Act.put, zqd, zqe, zqf, zqa, zqb, zqc]
  refine wpAnyH_take (i := 5) (v := ?_) rfl (by kernel_rfl) (by kernel_rfl) (by kernel_rfl) (fun _ _ _ h => h) (Or.inl ⟨by kernel_rfl, ?_⟩) (by assumption) ?_
  rotate_left
  · intro w'' hSw; (try dsimp only at hSw); simp only [zqa, zqb, zqc]; (go_simp <;> with_reducible rfl)
  try simp only [Act.put, zqd, zqe, zqf, zqa, zqb, zqc]
  refine wpAnyH_take (i := 6) (v := ?_) rfl (by kernel_rfl) (by kernel_rfl) (by kernel_rfl) (fun _ _ _ h => h) (Or.inl ⟨by kernel_rfl, ?_⟩) (by assumption) ?_
  rotate_left
  · intro w'' hSw; (try dsimp only at hSw); simp only [zqa, zqb, zqc]; (go_simp <;> with_reducible rfl)
  try simp only [Act.put, zqd, zqe, zqf, zqa, zqb, zqc]
  refine wpAnyH_take (i := 7) (v := ?_) rfl (by kernel_rfl) (by kernel_rfl) (by kernel_rfl) (fun _ _ _ h => h) (Or.inl ⟨by kernel_rfl, ?_⟩) (by assumption) ?_
  rotate_left
  · intro w'' hSw; (try dsimp only at hSw); simp only [zqa, zqb, zqc]; (go_simp <;> with_reducible rfl)
  try simp only [Act.put, zqd, zqe, zqf, zqa, zqb, zqc]
  refine wpAnyH_take (i := 8) (v := ?_) rfl (by kernel_rfl) (by kernel_rfl) (by kernel_rfl) (fun _ _ _ h => h) (Or.inl ⟨by kernel_rfl, ?_⟩) (by assumption) ?_
  rotate_left
  · intro w'' hSw; (try dsimp only at hSw); simp only [zqa, zqb, zqc]; (go_simp <;> with_reducible rfl)
  try simp only [Act.put, zqd, zqe, zqf, zqa, zqb, zqc]
  refine wpAnyH_take (i := 9) (v := ?_) rfl (by kernel_rfl) (by kernel_rfl) (by kernel_rfl) (fun _ _ _ h => h) (Or.inl ⟨by kernel_rfl, ?_⟩) (by assumption) ?_
  rotate_left
  · intro w'' hSw; (try dsimp only at hSw); simp only [zqa, zqb, zqc]; (go_simp <;> with_reducible rfl)
  try simp only [Act.put, zqd, zqe, zqf, zqa, zqb, zqc]
  refine wpAnyH_take (i := 10) (v := ?_) rfl (by kernel_rfl) (by kernel_rfl) (by kernel_rfl) (fun _ _ _ h => h) (Or.inl ⟨by kernel_rfl, ?_⟩) (by assumption) ?_
  rotate_left
  · intro w'' hSw; (try dsimp only at hSw); simp only [zqa, zqb, zqc]; (go_simp <;> with_reducible rfl)
  try simp only [Act.put, zqd, zqe, zqf, zqa, zqb, zqc]
  refine wpAnyH_take (i := 11) (v := ?_) rfl (by kernel_rfl) (by kernel_rfl) (by kernel_rfl) (fun _ _ _ h => h) (Or.inl ⟨by kernel_rfl, ?_⟩) (by assumption) ?_
  rotate_left
  · intro w'' hSw; (try dsimp only at hSw); simp only [zqa, zqb, zqc]; (go_simp <;> with_reducible rfl)
  try simp only [Act.put, zqd, zqe, zqf, zqa, zqb, zqc]
  refine wpAnyH_take (i := 12) (v := ?_) rfl (by kernel_rfl) (by kernel_rfl) (by kernel_rfl) (fun _ _ _ h => h) (Or.inl ⟨by kernel_rfl, ?_⟩) (by assumption) ?_
  rotate_left
  · intro w'' hSw; (try dsimp only at hSw); simp only [zqa, zqb, zqc]; (go_simp <;> with_reducible rfl)
  try simp only [Act.put, zqd, zqe, zqf, zqa, zqb, zqc]
  refine wpAnyH_ready (rs := [13]) (by kernel_rfl) (by simp) ?_
  refine AllReadyH.cons rfl (fun K hK => ?_) AllReadyH.nil
  first | (with_reducible refine iteYes ?hcx ?htx; case hcx => kernel_rfl) | rw [if_pos (by rfl)]
  simp only [zqa, zqb, zqc]
  go_simp
  (go_at_call 46; rw [← HLR.out.1]; refine (HL.out _ (some b) v xs (by exact HI1.out.1.2.1.only (Only.refl [] w1).drew (by simp)) (by exact HI1.out.2.2.1) (by have := HI.out.2.2; omega)).mono ?_; rintro e w2 ⟨v2, rfl, hs2, o2, hb2⟩)
  try go_wp2_with fail
  refine hK.out _ _ ?_ (fun hHeld2 => ?_)
  · (try dsimp only); exact S4.of (((Only.refl (ownL v) w1).drew).trans o2) (HAP.out b (by simp [Tr.blocks])) HW'.out HI1.out.1.1 (congrArg some HLR.out.1) (congrArg some HLR.out.2) HI1.out.2.1
  clear hK K hHeld1
  try simp only [Act.put, zqd, zqe, zqf, zqa, zqb, zqc]
  refine wpAnyH_ready (rs := [14]) (by kernel_rfl) (by simp) ?_
  refine AllReadyH.cons rfl (fun K hK => ?_) AllReadyH.nil
  first | (with_reducible refine iteYes ?hcx ?htx; case hcx => kernel_rfl) | rw [if_pos (by rfl)]
  simp only [zqa, zqb, zqc]
  go_simp
  (go_at_call 46; rw [← HLR.out.2]; refine (HR2.out _ (some b) v2 (xs ++ meetIds q l) (by exact HI1.out.1.2.2.only (((Only.refl (ownL v) w1).drew).trans o2) (fun x hx => HAP.out x (by simp [Tr.blocks, hx]))) (by exact hs2) (by have := HI.out.2.2; have := meetIds_le q l; simp only [List.length_append]; omega)).mono ?_; rintro e w3 ⟨v3, rfl, hs3, o3, hb3⟩; have O3 := (((Only.refl (ownL v) w1).drew).trans o2).then o3 (fun x hx => hb2 x hx))
  try go_wp2_with fail
  refine hK.out _ _ ?_ (fun hHeld3 => ?_)
  · (try dsimp only); exact S4.of O3 (HAP.out b (by simp [Tr.blocks])) HW'.out HI1.out.1.1 (congrArg some HLR.out.1) (congrArg some HLR.out.2) HI1.out.2.1
  clear hK K hHeld2
  try simp only [Act.put, zqd, zqe, zqf, zqa, zqb, zqc]
  refine wpAnyH_take (i := 15) (v := ?_) rfl (by kernel_rfl) (by kernel_rfl) (by kernel_rfl) (fun _ _ _ h => h) (Or.inl ⟨by kernel_rfl, ?_⟩) (by assumption) ?_
  rotate_left
  · intro w'' hSw; (try dsimp only at hSw); simp only [zqa, zqb, zqc]; (go_simp <;> with_reducible rfl)
  try simp only [Act.put, zqd, zqe, zqf, zqa, zqb, zqc]
  refine wpAnyH_done (by kernel_rfl) ?_ _
  have sz := HI1.out.2.2.2.size
  have sz2 := (((Only.refl (ownL v) w1).drew).trans o2).size
  have H3 : Hid (MeetPost w v xs (meetIds q l ++ meetIds q r) (.returned v3) w3) := by
    refine ⟨v3, rfl, by rw [← List.append_assoc]; exact hs3, (HI1.out.2.2.2.mono (by simp)).trans O3, fun x hx => ?_⟩
    rcases hb3 x hx with h | h
    · rcases hb2 x h with h | h
      · exact Or.inl h
      · exact Or.inr (Nat.le_trans sz h)
    · exact Or.inr (by omega)
  clear hHeld3 hs2 o2 hb2 hs3 o3 hb3 O3 sz sz2
  go_wp2_with fail
  go_ret
  exact H3.out
theorem meeting_tells (q : Bx) : ∀ T : Tr, Tells q T
  | ⟨b,.inl (id,box,room)⟩ => by
    intro w u v xs hi hv hx
    cases hm : meetX room q with
    | false =>
      refine (meeting_miss _ u q v w hi hm).mono ?_
      rintro e w' ⟨rfl, o⟩
      exact ⟨v, rfl, by simp only [meetIds, hm, Bool.false_eq_true, if_false, List.append_nil]; exact hv.kept o (by simp), o.mono (by simp), fun b hb => Or.inl hb⟩
    | true =>
      cases hb : meetX box q with
      | false =>
        refine (meeting_out b id box room u q v xs w hi hv (by omega) hm hb).mono ?_
        rintro e w' ⟨rfl, o⟩
        exact ⟨v, rfl, by simp only [meetIds, hm, hb, Bool.false_eq_true, if_false, if_true, List.append_nil]; exact hv.kept o (by simp), o.mono (by simp), fun b hb => Or.inl hb⟩
      | true =>
        have := meeting_in b id box room u q v xs w hi hv (by omega) hm hb
        simp only [meetIds, hm, hb, if_true]
        exact this
  | ⟨b,.inr (l,r)⟩ => by
    intro w u v xs hi hv hx
    cases hm : meetX (Tr.node b l r).room q with
    | false =>
      refine (meeting_miss _ u q v w hi hm).mono ?_
      rintro e w' ⟨rfl, o⟩
      exact ⟨v, rfl, by rw [meet_miss hm, List.append_nil]; exact hv.kept o (by simp), o.mono (by simp), fun b hb => Or.inl hb⟩
    | true => exact meeting_node b l r q (meeting_tells q l) (meeting_tells q r) w u v xs hi hv hx hm
end Go.Proofs.YtbfkloclmlnahabGreat

namespace Go.Proofs.YtbfkloclmlnahabGreat
open Go.ChangeShapes Go.WideShapes Go.ChangeAt Go.RowKit
set_option linter.unusedVariables false
set_option linter.unusedSimpArgs false

def Lf.tree (x : Lf) : Tr := .leaf x.b x.id x.box x.room
/-- The way to a leaf. -/
theorem way_to {w : World} {t : Nat} {fat : Int} {lv : Option Nat} (x : Lf) : ∀ (T : Tr) (c : List Fr), In w (upOf c) T → Arnd w t fat lv c T.root → x ∈ T.leaves → ∃ c', plug c' x.tree = plug c T ∧ In w (upOf c') x.tree ∧ Arnd w t fat lv c' x.b
  | ⟨b,.inl (id,box,room)⟩, c, hi, ha, hx => by
    simp only [Tr.leaves, List.mem_singleton] at hx
    subst hx
    exact ⟨c, rfl, hi, ha⟩
  | ⟨b,.inr (l,r)⟩, c, hi, ha, hx => by
    simp only [Tr.leaves, List.mem_append] at hx
    rcases hx with hx | hx
    · exact way_to x l (frL b l r :: c) (go_left hi ha).1 (go_left hi ha).2 hx
    · exact way_to x r (frR b l r :: c) (go_right hi ha).1 (go_right hi ha).2 hx

/-- A tree, or none. -/
def rootO (T : Option Tr) : Option Nat := T.map Tr.root
def InO (w : World) : Option Tr → Prop
  | none => True
  | some T => In w none T ∧ Bal T
def blocksO : Option Tr → List Nat
  | none => []
  | some T => T.blocks
def leavesO : Option Tr → List Lf
  | none => []
  | some T => T.leaves
theorem InO.only {D : List Nat} {w w' : World} (o : Only D w w') {T : Option Tr} (s : ∀ b ∈ blocksO T, b ∉ D) (h : InO w T) : InO w' T := by
  cases T with
  | none => trivial
  | some T => exact ⟨h.1.only o s, h.2⟩

theorem hang_calls (t : Nat) (fat : Int) (lv : Option Nat) (T : Option Tr) (x : Lf) (w : World) (nd : (x.b :: t :: blocksO T).Nodup) (hb : (leavesO T).length ≤ 300) (hi : InO w T) (ht : TreeAt w t fat (rootO T) lv) (hy : In w none x.tree) :
    Calls Tryz.prog 75 #[.pointer (some ⟨t, 0, none⟩), .pointer (some ⟨x.b, 0, none⟩)] w fun e w' => e = .returned (.tuple #[]) ∧ ∃ T', InO w' (some T') ∧ TreeAt w' t fat (some T'.root) lv ∧ T'.leaves.Perm (x :: leavesO T) ∧ (t :: T'.blocks).Nodup ∧ (∀ b ∈ T'.blocks, b ∈ x.b :: blocksO T ∨ w.heap.size ≤ b) ∧ Only (x.b :: t :: blocksO T) w w' := by
  cases T with
  | none =>
    simp only [blocksO, List.nodup_cons, List.mem_singleton, List.not_mem_nil, not_false_eq_true, List.nodup_nil, and_true] at nd
    refine (hang_nil t x.b fat lv w ht).mono ?_
    rintro e w' ⟨rfl, ht', o⟩
    refine ⟨rfl, x.tree, ⟨hy.only o (by simp [Lf.tree, Tr.blocks, nd]), trivial⟩, ht', List.Perm.refl _, ?_, by simp [Lf.tree, Tr.blocks, blocksO], o.mono (by simp)⟩
    simp [Lf.tree, Tr.blocks, Ne.symm nd]
  | some T =>
    have hl := blocks_leaves T
    simp only [leavesO] at hb
    refine (hang_some t x.b x.id x.box x.room fat lv T w nd (by omega) hi.1 ht hy).mono ?_
    rintro e w' ⟨rfl, c, b, id', box', room', j, hp, hj, hi', ht', o⟩
    have bal := hi.2
    have p1 := mendT_leaves c (.node j (.leaf b id' box' room') x.tree)
    have p2 := plug_leaves c (.leaf b id' box' room')
    have p3 := mendT_blocks c (.node j (.leaf b id' box' room') x.tree)
    have p4 := plug_blocks c (.leaf b id' box' room')
    rw [hp] at p2 p4
    have p5 : (mendT c (.node j (.leaf b id' box' room') x.tree)).blocks.Perm (j :: x.b :: T.blocks) := by
      refine p3.trans (List.Perm.trans ?_ (List.Perm.cons _ (List.Perm.cons _ p4.symm)))
      simp only [Tr.blocks, Lf.tree, List.cons_append, List.nil_append, List.append_assoc]; grind
    have hlt : ∀ b ∈ x.b :: t :: T.blocks, b < w.heap.size := by
      intro b hb
      simp only [List.mem_cons] at hb
      rcases hb with rfl | rfl | hb
      · exact NodeAt.lt hy
      · exact ht.lt
      · exact hi.1.lt b hb
    refine ⟨rfl, mendT c (.node j (.leaf b id' box' room') x.tree), ⟨hi', ?_⟩, ht', ?_, ?_, ?_, o⟩
    · refine mendT_bal c (.leaf b id' box' room') _ (by rw [hp]; exact bal) ⟨trivial, trivial, ?_, ?_⟩ ?_ ?_ <;> simp only [Lf.tree, Tr.high] <;> (try unfold greater) <;> (try split) <;> omega
    · refine p1.trans (List.Perm.trans ?_ (List.Perm.cons _ p2.symm))
      simp only [Tr.leaves, Lf.tree, List.cons_append, List.nil_append]
      exact List.Perm.swap _ _ _
    · refine (List.Perm.cons t p5).symm.nodup ?_
      have hjn : j ∉ x.b :: t :: T.blocks := fun h => by have := hlt j h; omega
      simp only [blocksO, List.nodup_cons, List.mem_cons, not_or] at nd hjn ⊢
      exact ⟨⟨Ne.symm hjn.2.1, Ne.symm nd.1.1, nd.2.1⟩, ⟨hjn.1, hjn.2.2⟩, nd.1.2, nd.2.2⟩
    · intro b hb
      have := p5.mem_iff.1 hb
      simp only [List.mem_cons, blocksO] at this ⊢
      rcases this with rfl | h
      · exact Or.inr hj
      · exact Or.inl h

theorem leaf_block {T : Tr} {x : Lf} (h : x ∈ T.leaves) : x.b ∈ T.blocks := by
  induction T using Tr.ind with
  | leaf => simp only [Tr.leaves, List.mem_singleton] at h; subst h; simp [Tr.blocks]
  | node b l r hl hr => simp only [Tr.leaves, List.mem_append] at h; simp only [Tr.blocks, List.mem_cons, List.mem_append]; rcases h with h | h; exact Or.inr (Or.inl (hl h)); exact Or.inr (Or.inr (hr h))

theorem unhang_calls (t : Nat) (fat : Int) (lv : Option Nat) (T : Tr) (x : Lf) (w : World) (nd : (t :: T.blocks).Nodup) (hb : T.leaves.length ≤ 300) (hi : InO w (some T)) (ht : TreeAt w t fat (some T.root) lv) (hx : x ∈ T.leaves) :
    Calls Tryz.prog 73 #[.pointer (some ⟨t, 0, none⟩), .pointer (some ⟨x.b, 0, none⟩)] w fun e w' => e = .returned (.tuple #[]) ∧ ∃ T' : Option Tr, InO w' T' ∧ TreeAt w' t fat (rootO T') lv ∧ T.leaves.Perm (x :: leavesO T') ∧ (t :: blocksO T').Nodup ∧ (∀ b ∈ blocksO T', b ∈ T.blocks) ∧ x.b ∉ blocksO T' ∧ Only (t :: T.blocks) w w' := by
  obtain ⟨c, hp, hx', ha⟩ := way_to x T [] hi.1 ht hx
  have bal := hi.2
  simp only [plug] at hp
  have p2 := plug_leaves c x.tree
  have p4 := plug_blocks c x.tree
  rw [hp] at p2 p4
  cases c with
  | nil =>
    simp only [plug] at hp
    refine (unhang_top t x.b _ fat _ lv w rfl hx' ht).mono ?_
    rintro e w' ⟨rfl, ht', o⟩
    refine ⟨rfl, none, trivial, ht', ?_, by simp [blocksO], by simp [blocksO], by simp [blocksO], o.mono (by simp)⟩
    rw [← hp]; exact List.Perm.refl _
  | cons f c =>
    have p6 : (t :: T.blocks).Perm (x.b :: f.b :: (f.sib.blocks ++ (t :: cblocks c))) := by
      refine (List.Perm.cons _ p4).trans ?_
      simp only [Tr.blocks, Lf.tree, cblocks, List.cons_append, List.nil_append]; grind
    have nd2 := p6.nodup nd
    have hl := blocks_leaves T
    have hlen := p6.length_eq
    simp only [List.length_cons, List.length_append] at hlen
    refine (unhang_some t x.b x.id x.box x.room fat lv f c w nd2 (by simp only [List.length_append, List.length_cons]; omega) hx' ha).mono ?_
    rintro e w' ⟨rfl, hi', ht', o⟩
    have p1 := mendT_leaves c f.sib
    have p3 := mendT_blocks c f.sib
    have p7 : (t :: (mendT c f.sib).blocks).Perm (f.sib.blocks ++ (t :: cblocks c)) := by
      refine (List.Perm.cons _ p3).trans ?_
      exact List.perm_middle.symm
    have nd3 : (f.sib.blocks ++ (t :: cblocks c)).Nodup := (List.nodup_cons.1 (List.nodup_cons.1 nd2).2).2
    refine ⟨rfl, some (mendT c f.sib), ⟨hi', ?_⟩, ht', ?_, p7.symm.nodup nd3, ?_, ?_, o.mono (fun b hb => Or.inl (p6.mem_iff.2 (List.mem_cons_of_mem _ hb)))⟩
    · have hb2 : Bal (plug c (f.fill x.tree)) := by rw [show plug c (f.fill x.tree) = T from hp]; exact bal
      have hb3 := bal_plug c _ hb2
      have hs := high_nonneg f.sib
      have hsb : Bal f.sib := by unfold Fr.fill at hb3; split at hb3; exact hb3.2.1; exact hb3.1
      have hh : (f.fill x.tree).high = 1 + f.sib.high := by
        unfold Fr.fill; split <;> simp only [Tr.high, Lf.tree]
        · have := greater_cases 0 f.sib.high; omega
        · have := greater_cases f.sib.high 0; omega
      exact mendT_bal c (f.fill x.tree) f.sib hb2 hsb (by omega) (by omega)
    · refine p2.trans ?_
      simp only [Tr.leaves, Lf.tree, cleaves, List.cons_append, List.nil_append]
      exact List.Perm.cons _ p1.symm
    · intro b hb
      have h1 : b ∈ t :: (mendT c f.sib).blocks := List.mem_cons_of_mem _ hb
      have h2 := p6.mem_iff.2 (List.mem_cons_of_mem x.b (List.mem_cons_of_mem f.b (p7.mem_iff.1 h1)))
      rcases List.mem_cons.1 h2 with e | h2
      · have h3 := p7.symm.nodup nd3
        rw [List.nodup_cons] at h3
        exact absurd (e ▸ hb) h3.1
      · exact h2
    · intro hb
      have h1 : x.b ∈ t :: (mendT c f.sib).blocks := List.mem_cons_of_mem _ hb
      exact (List.nodup_cons.1 nd2).1 (List.mem_cons_of_mem _ (p7.mem_iff.1 h1))
end Go.Proofs.YtbfkloclmlnahabGreat

namespace Go.Proofs.YtbfkloclmlnahabGreat
open Go.ChangeShapes Go.WideShapes Go.ChangeAt Go.RowKit
set_option linter.unusedVariables false
set_option linter.unusedSimpArgs false

def fatX (q : Bx) (n : Int) : Bx := ⟨Go.Proofs.YtbfkloclmlnahabGreat.sub q.x0 n, Go.Proofs.YtbfkloclmlnahabGreat.sub q.x1 n, Go.Proofs.YtbfkloclmlnahabGreat.sub q.x2 n, Go.Proofs.YtbfkloclmlnahabGreat.add q.x3 n, Go.Proofs.YtbfkloclmlnahabGreat.add q.x4 n, Go.Proofs.YtbfkloclmlnahabGreat.add q.x5 n⟩
def topX : Bx := ⟨-70368744177664, -70368744177664, -70368744177664, 70368744177664, 70368744177664, 70368744177664⟩
theorem fat_top : fatX bx0 70368744177664 = topX := by
  have h1 : Go.Proofs.YtbfkloclmlnahabGreat.sub 0 70368744177664 = -70368744177664 := by unfold Go.Proofs.YtbfkloclmlnahabGreat.sub; rw [cut_T, cut_in (n := 0) (by omega) (by omega), cut_in (by omega) (by omega)]; rfl
  have h2 : Go.Proofs.YtbfkloclmlnahabGreat.add 0 70368744177664 = 70368744177664 := by unfold Go.Proofs.YtbfkloclmlnahabGreat.add; rw [cut_T, cut_in (n := 0) (by omega) (by omega), cut_in (by omega) (by omega)]; rfl
  simp only [fatX, bx0, topX, h1, h2]
def rightC (q : Bx) : Int := if meetX q q then (if withinX q topX then 0 else 2) else 1
def errV (n : Int) : Value := if n = 0 then .nilIface else .iface 75 (.int .i64 n)
theorem rightC_ok {q : Bx} (h : rightC q = 0) : meetX q q = true ∧ withinX q topX = true := by
  unfold rightC at h; split at h
  · split at h
    · exact ⟨‹_›, ‹_›⟩
    · cases h
  · cases h
theorem sub_le {a n : Int} (h1 : -70368744177664 ≤ a) (h2 : a ≤ 70368744177664) (h3 : 0 ≤ n) (h4 : n ≤ 70368744177664) : Go.Proofs.YtbfkloclmlnahabGreat.sub a n ≤ a := by
  unfold Go.Proofs.YtbfkloclmlnahabGreat.sub; rw [cut_in h1 h2, cut_in (n := n) (by omega) h4]; unfold cut; split
  · omega
  · split <;> omega
theorem le_add {a n : Int} (h1 : -70368744177664 ≤ a) (h2 : a ≤ 70368744177664) (h3 : 0 ≤ n) (h4 : n ≤ 70368744177664) : a ≤ Go.Proofs.YtbfkloclmlnahabGreat.add a n := by
  unfold Go.Proofs.YtbfkloclmlnahabGreat.add; rw [cut_in h1 h2, cut_in (n := n) (by omega) h4]; unfold cut; split
  · omega
  · split <;> omega
theorem fat_within {q : Bx} {n : Int} (h : rightC q = 0) (h3 : 0 ≤ n) (h4 : n ≤ 3276800) : withinX q (fatX q n) = true := by
  obtain ⟨m, k⟩ := rightC_ok h
  rw [meetX_iff] at m
  rw [withinX_iff] at k ⊢
  simp only [topX] at k
  simp only [fatX]
  have a0 := sub_le (a := q.x0) (n := n) (by omega) (by omega) h3 (by omega)
  have a1 := sub_le (a := q.x1) (n := n) (by omega) (by omega) h3 (by omega)
  have a2 := sub_le (a := q.x2) (n := n) (by omega) (by omega) h3 (by omega)
  have a3 := le_add (a := q.x3) (n := n) (by omega) (by omega) h3 (by omega)
  have a4 := le_add (a := q.x4) (n := n) (by omega) (by omega) h3 (by omega)
  have a5 := le_add (a := q.x5) (n := n) (by omega) (by omega) h3 (by omega)
  omega
def BK (k : Nat) (q : Bx) (w w' : World) : Prop := Kept w w' ∧ w'.cell? ⟨k, 0, none⟩ = some (.int .i64 q.x0) ∧ w'.cell? ⟨k, 1, none⟩ = some (.int .i64 q.x1) ∧ w'.cell? ⟨k, 2, none⟩ = some (.int .i64 q.x2) ∧ w'.cell? ⟨k, 3, none⟩ = some (.int .i64 q.x3) ∧ w'.cell? ⟨k, 4, none⟩ = some (.int .i64 q.x4) ∧ w'.cell? ⟨k, 5, none⟩ = some (.int .i64 q.x5)
theorem BK.of {k : Nat} {q : Bx} {w w' : World} (kk : Kept w w') (hq : BoxAt w k q) : BK k q w w' := by
  have h := (Only.of_kept (D := []) kk).box (by simp) hq
  exact ⟨kk, h.off 0, h.off 1, h.off 2, h.off 3, h.off 4, h.off 5⟩
theorem right_bad (q : Bx) (w : World) (hm : meetX q q = false) : Calls Tryz.prog 71 #[.agg #[.int .i64 (q.x0), .int .i64 (q.x1), .int .i64 (q.x2), .int .i64 (q.x3), .int .i64 (q.x4), .int .i64 (q.x5)]] w fun e w' => e = .returned (.iface 75 (.int .i64 1)) ∧ Kept w w' := by
  unfold meetX at hm
  go_enter Tryz.func71, Tryz.ntmps71
  go_wp2_with fail
  refine (gmeet_calls _ _ _ _ _ _ _ _ _ _ _ _ _).mono ?_
  rintro e w1 ⟨rfl, k1⟩
  have H : Hid (Kept w w1) := ((Kept.refl w).alloc _ _).trans k1
  clear k1
  go_wp2_with fail
  go_ret
  exact ⟨rfl, H.out⟩
theorem right_good (q : Bx) (w : World) (hm : meetX q q = true) : Calls Tryz.prog 71 #[.agg #[.int .i64 (q.x0), .int .i64 (q.x1), .int .i64 (q.x2), .int .i64 (q.x3), .int .i64 (q.x4), .int .i64 (q.x5)]] w fun e w' => e = .returned (errV (if withinX q topX then 0 else 2)) ∧ Kept w w' := by
  unfold meetX at hm
  obtain ⟨v, hv⟩ : ∃ v, withinX q topX = v := ⟨_, rfl⟩
  rw [hv]
  rw [← fat_top] at hv
  simp only [withinX, fatX, bx0] at hv
  go_enter Tryz.func71, Tryz.ntmps71
  go_wp2_with fail
  refine (gmeet_calls _ _ _ _ _ _ _ _ _ _ _ _ _).mono ?_
  rintro e w1 ⟨rfl, k1⟩
  have o0 : Hid (Kept w w1 ∧ BoxAt w1 w.heap.size q) := ⟨((Kept.refl w).alloc _ _).trans k1, (Only.of_kept (D := []) k1).box (by simp) (MapKept.heap_alloc w _).1⟩
  clear k1
  generalize w.heap.size = k at o0 ⊢
  go_wp2_with fail
  refine wp_region_held_drew (S := (fun w' => Kept w1 w' ∧ w'.cell? ⟨k, 0, none⟩ = some (.int .i64 q.x0) ∧ w'.cell? ⟨k, 1, none⟩ = some (.int .i64 q.x1) ∧ w'.cell? ⟨k, 2, none⟩ = some (.int .i64 q.x2) ∧ w'.cell? ⟨k, 3, none⟩ = some (.int .i64 q.x3) ∧ w'.cell? ⟨k, 4, none⟩ = some (.int .i64 q.x4) ∧ w'.cell? ⟨k, 5, none⟩ = some (.int .i64 q.x5))) (by kernel_rfl) ?_ (fun hHeld1 => ?_)
  · (try dsimp only); exact BK.of (Kept.refl _).drew o0.out.2
  refine wpAnyH_take (i := 0) (v := ?_) rfl (by kernel_rfl) (by kernel_rfl) (by kernel_rfl) (fun _ _ _ h => h) (Or.inl ⟨by kernel_rfl, ?_⟩) (by assumption) ?_
  rotate_left
  · intro w'' hSw; (try dsimp only at hSw); simp only [zqa, zqb, zqc]; (go_simp <;> with_reducible rfl)
  try simp only [Act.put, zqd, zqe, zqf, zqa, zqb, zqc]
  refine wpAnyH_take (i := 1) (v := ?_) rfl (by kernel_rfl) (by kernel_rfl) (by kernel_rfl) (fun _ _ _ h => h) (Or.inl ⟨by kernel_rfl, ?_⟩) (by assumption) ?_
  rotate_left
  · intro w'' hSw; (try dsimp only at hSw); simp only [zqa, zqb, zqc]; (go_simp <;> with_reducible rfl)
  try simp only [Act.put, zqd, zqe, zqf, zqa, zqb, zqc]
  refine wpAnyH_ready (rs := [2]) (by kernel_rfl) (by simp) ?_
  refine AllReadyH.cons rfl (fun K hK => ?_) AllReadyH.nil
  first | (with_reducible refine iteYes ?hcx ?htx; case hcx => kernel_rfl) | rw [if_pos (by rfl)]
  simp only [zqa, zqb, zqc]
  go_simp
  (go_at_call 74; refine (gfat_calls _ _ _ _ _ _ _ _).mono ?_; rintro e w2 ⟨rfl, k2⟩)
  try go_wp2_with fail
  refine hK.out _ _ ?_ (fun hHeld2 => ?_)
  · (try dsimp only); exact BK.of (hHeld1.1.trans k2) o0.out.2
  clear hK K hHeld1
  try simp only [Act.put, zqd, zqe, zqf, zqa, zqb, zqc]
  refine wpAnyH_ready (rs := [3]) (by kernel_rfl) (by simp) ?_
  refine AllReadyH.cons rfl (fun K hK => ?_) AllReadyH.nil
  first | (with_reducible refine iteYes ?hcx ?htx; case hcx => kernel_rfl) | rw [if_pos (by rfl)]
  simp only [zqa, zqb, zqc]
  go_simp
  (go_at_call 93; refine (gwithin_calls _ _ _ _ _ _ _ _ _ _ _ _ _).mono ?_; rintro e w3 ⟨rfl, k3⟩)
  try go_wp2_with fail
  refine hK.out _ _ ?_ (fun hHeld3 => ?_)
  · (try dsimp only); exact BK.of (hHeld2.1.trans k3) o0.out.2
  clear hK K hHeld2
  try simp only [Act.put, zqd, zqe, zqf, zqa, zqb, zqc]
  refine wpAnyH_take (i := 4) (v := ?_) rfl (by kernel_rfl) (by kernel_rfl) (by kernel_rfl) (fun _ _ _ h => h) (Or.inl ⟨by kernel_rfl, ?_⟩) (by assumption) ?_
  rotate_left
  · intro w'' hSw; (try dsimp only at hSw); simp only [zqa, zqb, zqc]; (go_simp <;> with_reducible rfl)
  try simp only [Act.put, zqd, zqe, zqf, zqa, zqb, zqc]
  refine wpAnyH_done (by kernel_rfl) ?_ _
  have H : Hid (Kept w w3) := o0.out.1.trans hHeld3.1
  clear hHeld3 o0 hm
  cases v
  · go_wp2_with fail
    go_ret
    exact ⟨rfl, H.out⟩
  · go_wp2_with fail
    go_ret
    exact ⟨rfl, H.out⟩
theorem right_calls (q : Bx) (w : World) : Calls Tryz.prog 71 #[.agg #[.int .i64 (q.x0), .int .i64 (q.x1), .int .i64 (q.x2), .int .i64 (q.x3), .int .i64 (q.x4), .int .i64 (q.x5)]] w fun e w' => e = .returned (errV (rightC q)) ∧ Kept w w' := by
  unfold rightC
  cases hm : meetX q q with
  | true => simp only [if_true]; exact right_good q w hm
  | false => simp only [Bool.false_eq_true, if_false]; exact right_bad q w hm

def RK (k : Nat) (q : Bx) (b : Nat) (R : Bx) (t : Nat) (fat : Int) (w w' : World) : Prop := Kept w w' ∧ w'.cell? ⟨k, 0, none⟩ = some (.int .i64 q.x0) ∧ w'.cell? ⟨k, 1, none⟩ = some (.int .i64 q.x1) ∧ w'.cell? ⟨k, 2, none⟩ = some (.int .i64 q.x2) ∧ w'.cell? ⟨k, 3, none⟩ = some (.int .i64 q.x3) ∧ w'.cell? ⟨k, 4, none⟩ = some (.int .i64 q.x4) ∧ w'.cell? ⟨k, 5, none⟩ = some (.int .i64 q.x5) ∧ w'.cell? ⟨b, 7, none⟩ = some (.int .i64 R.x0) ∧ w'.cell? ⟨b, 8, none⟩ = some (.int .i64 R.x1) ∧ w'.cell? ⟨b, 9, none⟩ = some (.int .i64 R.x2) ∧ w'.cell? ⟨b, 10, none⟩ = some (.int .i64 R.x3) ∧ w'.cell? ⟨b, 11, none⟩ = some (.int .i64 R.x4) ∧ w'.cell? ⟨b, 12, none⟩ = some (.int .i64 R.x5) ∧ w'.cell? ⟨t, 0, none⟩ = some (.int .i64 fat)
theorem RK.of {k : Nat} {q : Bx} {b : Nat} {n : Nd} {t : Nat} {fat : Int} {r lv : Option Nat} {w w' : World} (kk : Kept w w') (hq : BoxAt w k q) (hn : NodeAt w b n) (ht : TreeAt w t fat r lv) : RK k q b n.room t fat w w' := by
  have h := (Only.of_kept (D := []) kk).box (by simp) hq
  have h2 := hn.kept kk
  have h3 := (Only.of_kept (D := []) kk).tree (by simp) ht
  exact ⟨kk, h.off 0, h.off 1, h.off 2, h.off 3, h.off 4, h.off 5, h2.c7, h2.c8, h2.c9, h2.c10, h2.c11, h2.c12, h3.c0⟩
theorem roomy_calls (t b : Nat) (n : Nd) (fat : Int) (r lv : Option Nat) (q : Bx) (w : World) (hn : NodeAt w b n) (ht : TreeAt w t fat r lv) (h0 : 0 ≤ fat) (h1 : fat ≤ 3276800) :
    Calls Tryz.prog 72 #[.pointer (some ⟨t, 0, none⟩), .pointer (some ⟨b, 0, none⟩), .agg #[.int .i64 (q.x0), .int .i64 (q.x1), .int .i64 (q.x2), .int .i64 (q.x3), .int .i64 (q.x4), .int .i64 (q.x5)]] w fun e w' => (∃ v, e = .returned (.bool v) ∧ (v = true → withinX q n.room = true)) ∧ Kept w w' := by
  have HN : Hid (NodeAt w b n ∧ TreeAt w t fat r lv) := ⟨hn, ht⟩
  clear hn ht
  obtain ⟨R, hR⟩ : ∃ R, R = n.room := ⟨_, rfl⟩
  rw [← hR]
  cases hv : withinX q R with
  | true =>
    unfold withinX at hv
    go_enter Tryz.func72, Tryz.ntmps72
    go_wp2_with fail
    have o0 : Hid (Kept w _ ∧ BoxAt _ w.heap.size q) := ⟨(Kept.refl w).alloc #[.int .i64 (q.x0), .int .i64 (q.x1), .int .i64 (q.x2), .int .i64 (q.x3), .int .i64 (q.x4), .int .i64 (q.x5)] 89, (MapKept.heap_alloc w _).1⟩
    revert o0
    generalize World.alloc w _ = w0
    generalize w.heap.size = k
    intro o0
    have hn0 := HN.out.1.kept o0.out.1
    have ht0 := (Only.of_kept (D := []) o0.out.1).tree (by simp) HN.out.2
    have HB : Hid (∀ w', Kept w0 w' → RK k q b R t fat w0 w') := fun w' kk => by rw [hR]; exact RK.of kk o0.out.2 hn0 ht0
    clear hn0 ht0 hR
    refine wp_region_held_drew (S := (fun w' => Kept w0 w' ∧ w'.cell? ⟨k, 0, none⟩ = some (.int .i64 q.x0) ∧ w'.cell? ⟨k, 1, none⟩ = some (.int .i64 q.x1) ∧ w'.cell? ⟨k, 2, none⟩ = some (.int .i64 q.x2) ∧ w'.cell? ⟨k, 3, none⟩ = some (.int .i64 q.x3) ∧ w'.cell? ⟨k, 4, none⟩ = some (.int .i64 q.x4) ∧ w'.cell? ⟨k, 5, none⟩ = some (.int .i64 q.x5) ∧ w'.cell? ⟨b, 7, none⟩ = some (.int .i64 R.x0) ∧ w'.cell? ⟨b, 8, none⟩ = some (.int .i64 R.x1) ∧ w'.cell? ⟨b, 9, none⟩ = some (.int .i64 R.x2) ∧ w'.cell? ⟨b, 10, none⟩ = some (.int .i64 R.x3) ∧ w'.cell? ⟨b, 11, none⟩ = some (.int .i64 R.x4) ∧ w'.cell? ⟨b, 12, none⟩ = some (.int .i64 R.x5) ∧ w'.cell? ⟨t, 0, none⟩ = some (.int .i64 fat))) (by kernel_rfl) ?_ (fun hHeld1 => ?_)
    · (try dsimp only); exact HB.out _ (Kept.refl _).drew
    refine wpAnyH_take (i := 0) (v := ?_) rfl (by kernel_rfl) (by kernel_rfl) (by kernel_rfl) (fun _ _ _ h => h) (Or.inl ⟨by kernel_rfl, ?_⟩) (by assumption) ?_
    rotate_left
    · intro w'' hSw; (try dsimp only at hSw); simp only [zqa, zqb, zqc]; (go_simp <;> with_reducible rfl)
    try simp only [Act.put, zqd, zqe, zqf, zqa, zqb, zqc]
    refine wpAnyH_take (i := 1) (v := ?_) rfl (by kernel_rfl) (by kernel_rfl) (by kernel_rfl) (fun _ _ _ h => h) (Or.inl ⟨by kernel_rfl, ?_⟩) (by assumption) ?_
    rotate_left
    · intro w'' hSw; (try dsimp only at hSw); simp only [zqa, zqb, zqc]; (go_simp <;> with_reducible rfl)
    try simp only [Act.put, zqd, zqe, zqf, zqa, zqb, zqc]
    refine wpAnyH_take (i := 2) (v := ?_) rfl (by kernel_rfl) (by kernel_rfl) (by kernel_rfl) (fun _ _ _ h => h) (Or.inl ⟨by kernel_rfl, ?_⟩) (by assumption) ?_
    rotate_left
    · intro w'' hSw; (try dsimp only at hSw); simp only [zqa, zqb, zqc]; (go_simp <;> with_reducible rfl)
    try simp only [Act.put, zqd, zqe, zqf, zqa, zqb, zqc]
    refine wpAnyH_take (i := 3) (v := ?_) rfl (by kernel_rfl) (by kernel_rfl) (by kernel_rfl) (fun _ _ _ h => h) (Or.inl ⟨by kernel_rfl, ?_⟩) (by assumption) ?_
    rotate_left
    · intro w'' hSw; (try dsimp only at hSw); simp only [zqa, zqb, zqc]; (go_simp <;> with_reducible rfl)
    try simp only [Act.put, zqd, zqe, zqf, zqa, zqb, zqc]
    refine wpAnyH_take (i := 4) (v := ?_) rfl (by kernel_rfl) (by kernel_rfl) (by kernel_rfl) (fun _ _ _ h => h) (Or.inl ⟨by kernel_rfl, ?_⟩) (by assumption) ?_
    rotate_left
    · intro w'' hSw; (try dsimp only at hSw); simp only [zqa, zqb, zqc]; (go_simp <;> with_reducible rfl)
    try simp only [Act.put, zqd, zqe, zqf, zqa, zqb, zqc]
    refine wpAnyH_ready (rs := [5]) (by kernel_rfl) (by simp) ?_
    refine AllReadyH.cons rfl (fun K hK => ?_) AllReadyH.nil
    first | (with_reducible refine iteYes ?hcx ?htx; case hcx => kernel_rfl) | rw [if_pos (by rfl)]
    simp only [zqa, zqb, zqc]
    go_simp
    (go_at_call 93; refine (gwithin_calls _ _ _ _ _ _ _ _ _ _ _ _ _).mono ?_; rintro e w1 ⟨rfl, k1⟩)
    try go_wp2_with fail
    refine hK.out _ _ ?_ (fun hHeld2 => ?_)
    · (try dsimp only); exact HB.out _ (hHeld1.1.trans k1)
    clear hK K hHeld1
    try simp only [Act.put, zqd, zqe, zqf, zqa, zqb, zqc]
    refine wpAnyH_take (i := 6) (v := ?_) rfl (by kernel_rfl) (by kernel_rfl) (by kernel_rfl) (fun _ _ _ h => h) (Or.inl ⟨by kernel_rfl, ?_⟩) (by assumption) ?_
    rotate_left
    · intro w'' hSw; (try dsimp only at hSw); simp only [zqa, zqb, zqc]; (go_simp <;> with_reducible rfl)
    try simp only [Act.put, zqd, zqe, zqf, zqa, zqb, zqc]
    refine wpAnyH_take (i := 7) (v := ?_) rfl (by kernel_rfl) (by kernel_rfl) (by kernel_rfl) (fun _ _ _ h => h) (Or.inl ⟨by kernel_rfl, ?_⟩) (by assumption) ?_
    rotate_left
    · intro w'' hSw; (try dsimp only at hSw); simp only [zqa, zqb, zqc]; (go_simp <;> with_reducible rfl)
    try simp only [Act.put, zqd, zqe, zqf, zqa, zqb, zqc]
    refine wpAnyH_take (i := 8) (v := ?_) rfl (by kernel_rfl) (by kernel_rfl) (by kernel_rfl) (fun _ _ _ h => h) (Or.inl ⟨by kernel_rfl, ?_⟩) (by assumption) ?_
    rotate_left
    · intro w'' hSw; (try dsimp only at hSw); simp only [zqa, zqb, zqc]; (go_simp <;> with_reducible rfl)
    try simp only [Act.put, zqd, zqe, zqf, zqa, zqb, zqc]
    refine wpAnyH_take (i := 9) (v := ?_) rfl (by kernel_rfl) (by kernel_rfl) (by kernel_rfl) (fun _ _ _ h => h) (Or.inl ⟨by kernel_rfl, ?_⟩) (by assumption) ?_
    rotate_left
    · intro w'' hSw; (try dsimp only at hSw); simp only [zqa, zqb, zqc]; (go_simp <;> with_reducible rfl)
    try simp only [Act.put, zqd, zqe, zqf, zqa, zqb, zqc]
    refine wpAnyH_take (i := 10) (v := ?_) rfl (by kernel_rfl) (by kernel_rfl) (by kernel_rfl) (fun _ _ _ h => h) (Or.inl ⟨by kernel_rfl, ?_⟩) (by assumption) ?_
    rotate_left
    · intro w'' hSw; (try dsimp only at hSw); simp only [zqa, zqb, zqc]; (go_simp <;> with_reducible rfl)
    try simp only [Act.put, zqd, zqe, zqf, zqa, zqb, zqc]
    refine wpAnyH_take (i := 11) (v := ?_) rfl (by kernel_rfl) (by kernel_rfl) (by kernel_rfl) (fun _ _ _ h => h) (Or.inl ⟨by kernel_rfl, ?_⟩) (by assumption) ?_
    rotate_left
    · intro w'' hSw; (try dsimp only at hSw); simp only [zqa, zqb, zqc]; (go_simp <;> with_reducible rfl)
    try simp only [Act.put, zqd, zqe, zqf, zqa, zqb, zqc]
    refine wpAnyH_take (i := 12) (v := ?_) rfl (by kernel_rfl) (by kernel_rfl) (by kernel_rfl) (fun _ _ _ h => h) (Or.inl ⟨by kernel_rfl, ?_⟩) (by assumption) ?_
    rotate_left
    · intro w'' hSw; (try dsimp only at hSw); simp only [zqa, zqb, zqc]; (go_simp <;> with_reducible rfl)
    try simp only [Act.put, zqd, zqe, zqf, zqa, zqb, zqc]
    refine wpAnyH_take (i := 13) (v := ?_) rfl (by kernel_rfl) (by kernel_rfl) (by kernel_rfl) (fun _ _ _ h => h) (Or.inl ⟨by kernel_rfl, ?_⟩) (by assumption) ?_
    rotate_left
    · intro w'' hSw; (try dsimp only at hSw); simp only [zqa, zqb, zqc]; (go_simp <;> with_reducible rfl)
    try simp only [Act.put, zqd, zqe, zqf, zqa, zqb, zqc]
    refine wpAnyH_take (i := 14) (v := ?_) rfl (by kernel_rfl) (by kernel_rfl) (by kernel_rfl) (fun _ _ _ h => h) (Or.inl ⟨by kernel_rfl, ?_⟩) (by assumption) ?_
    rotate_left
    · intro w'' hSw; (try dsimp only at hSw); simp only [zqa, zqb, zqc]; (go_simp <;> with_reducible rfl)
    try simp only [Act.put, zqd, zqe, zqf, zqa, zqb, zqc]
    refine wpAnyH_take (i := 15) (v := ?_) rfl (by kernel_rfl) (by kernel_rfl) (by kernel_rfl) (fun _ _ _ h => h) (Or.inl ⟨by kernel_rfl, ?_⟩) (by assumption) ?_
    rotate_left
    · intro w'' hSw; (try dsimp only at hSw); simp only [zqa, zqb, zqc]; (go_simp <;> with_reducible rfl)
    try simp only [Act.put, zqd, zqe, zqf, zqa, zqb, zqc]
    refine wpAnyH_take (i := 16) (v := ?_) rfl (by kernel_rfl) (by kernel_rfl) (by kernel_rfl) (fun _ _ _ h => h) (Or.inl ⟨by kernel_rfl, ?_⟩) (by assumption) ?_
    rotate_left
    · intro w'' hSw; (try dsimp only at hSw); simp only [zqa, zqb, zqc]; (go_simp <;> with_reducible rfl)
    try simp only [Act.put, zqd, zqe, zqf, zqa, zqb, zqc]
    refine wpAnyH_ready (rs := [17]) (by kernel_rfl) (by simp) ?_
    refine AllReadyH.cons rfl (fun K hK => ?_) AllReadyH.nil
    first | (with_reducible refine iteYes ?hcx ?htx; case hcx => kernel_rfl) | rw [if_pos (by rfl)]
    simp only [zqa, zqb, zqc]
    go_simp
    (go_at_call 74; refine (gfat_calls _ _ _ _ _ _ _ _).mono ?_; rintro e w2 ⟨rfl, k2⟩)
    try go_wp2_with fail
    refine hK.out _ _ ?_ (fun hHeld3 => ?_)
    · (try dsimp only); exact HB.out _ (hHeld2.1.trans k2)
    clear hK K hHeld2
    try simp only [Act.put, zqd, zqe, zqf, zqa, zqb, zqc]
    refine wpAnyH_ready (rs := [18]) (by kernel_rfl) (by simp) ?_
    refine AllReadyH.cons rfl (fun K hK => ?_) AllReadyH.nil
    first | (with_reducible refine iteYes ?hcx ?htx; case hcx => kernel_rfl) | rw [if_pos (by rfl)]
    simp only [zqa, zqb, zqc]
    go_simp
    (go_at_call 93; refine (gwithin_calls _ _ _ _ _ _ _ _ _ _ _ _ _).mono ?_; rintro e w3 ⟨rfl, k3⟩)
    try go_wp2_with fail
    refine hK.out _ _ ?_ (fun hHeld4 => ?_)
    · (try dsimp only); exact HB.out _ (hHeld3.1.trans k3)
    clear hK K hHeld3
    try simp only [Act.put, zqd, zqe, zqf, zqa, zqb, zqc]
    refine wpAnyH_take (i := 19) (v := ?_) rfl (by kernel_rfl) (by kernel_rfl) (by kernel_rfl) (fun _ _ _ h => h) (Or.inl ⟨by kernel_rfl, ?_⟩) (by assumption) ?_
    rotate_left
    · intro w'' hSw; (try dsimp only at hSw); simp only [zqa, zqb, zqc]; (go_simp <;> with_reducible rfl)
    try simp only [Act.put, zqd, zqe, zqf, zqa, zqb, zqc]
    refine wpAnyH_take (i := 20) (v := ?_) rfl (by kernel_rfl) (by kernel_rfl) (by kernel_rfl) (fun _ _ _ h => h) (Or.inl ⟨by kernel_rfl, ?_⟩) (by assumption) ?_
    rotate_left
    · intro w'' hSw; (try dsimp only at hSw); simp only [zqa, zqb, zqc]; (go_simp <;> with_reducible rfl)
    try simp only [Act.put, zqd, zqe, zqf, zqa, zqb, zqc]
    refine wpAnyH_done (by kernel_rfl) ?_ _
    have H : Hid (Kept w w3) := o0.out.1.trans hHeld4.1
    clear hHeld4
    go_wp2_with fail
    go_ret
    exact ⟨⟨_, rfl, fun _ => by first | trivial | rfl⟩, H.out⟩
  | false =>
    unfold withinX at hv
    go_enter Tryz.func72, Tryz.ntmps72
    go_wp2_with fail
    have o0 : Hid (Kept w _ ∧ BoxAt _ w.heap.size q) := ⟨(Kept.refl w).alloc #[.int .i64 (q.x0), .int .i64 (q.x1), .int .i64 (q.x2), .int .i64 (q.x3), .int .i64 (q.x4), .int .i64 (q.x5)] 89, (MapKept.heap_alloc w _).1⟩
    revert o0
    generalize World.alloc w _ = w0
    generalize w.heap.size = k
    intro o0
    have hn0 := HN.out.1.kept o0.out.1
    have ht0 := (Only.of_kept (D := []) o0.out.1).tree (by simp) HN.out.2
    have HB : Hid (∀ w', Kept w0 w' → RK k q b R t fat w0 w') := fun w' kk => by rw [hR]; exact RK.of kk o0.out.2 hn0 ht0
    clear hn0 ht0 hR
    refine wp_region_held_drew (S := (fun w' => Kept w0 w' ∧ w'.cell? ⟨k, 0, none⟩ = some (.int .i64 q.x0) ∧ w'.cell? ⟨k, 1, none⟩ = some (.int .i64 q.x1) ∧ w'.cell? ⟨k, 2, none⟩ = some (.int .i64 q.x2) ∧ w'.cell? ⟨k, 3, none⟩ = some (.int .i64 q.x3) ∧ w'.cell? ⟨k, 4, none⟩ = some (.int .i64 q.x4) ∧ w'.cell? ⟨k, 5, none⟩ = some (.int .i64 q.x5) ∧ w'.cell? ⟨b, 7, none⟩ = some (.int .i64 R.x0) ∧ w'.cell? ⟨b, 8, none⟩ = some (.int .i64 R.x1) ∧ w'.cell? ⟨b, 9, none⟩ = some (.int .i64 R.x2) ∧ w'.cell? ⟨b, 10, none⟩ = some (.int .i64 R.x3) ∧ w'.cell? ⟨b, 11, none⟩ = some (.int .i64 R.x4) ∧ w'.cell? ⟨b, 12, none⟩ = some (.int .i64 R.x5) ∧ w'.cell? ⟨t, 0, none⟩ = some (.int .i64 fat))) (by kernel_rfl) ?_ (fun hHeld1 => ?_)
    · (try dsimp only); exact HB.out _ (Kept.refl _).drew
    refine wpAnyH_take (i := 0) (v := ?_) rfl (by kernel_rfl) (by kernel_rfl) (by kernel_rfl) (fun _ _ _ h => h) (Or.inl ⟨by kernel_rfl, ?_⟩) (by assumption) ?_
    rotate_left
    · intro w'' hSw; (try dsimp only at hSw); simp only [zqa, zqb, zqc]; (go_simp <;> with_reducible rfl)
    try simp only [Act.put, zqd, zqe, zqf, zqa, zqb, zqc]
    refine wpAnyH_take (i := 1) (v := ?_) rfl (by kernel_rfl) (by kernel_rfl) (by kernel_rfl) (fun _ _ _ h => h) (Or.inl ⟨by kernel_rfl, ?_⟩) (by assumption) ?_
    rotate_left
    · intro w'' hSw; (try dsimp only at hSw); simp only [zqa, zqb, zqc]; (go_simp <;> with_reducible rfl)
    try simp only [Act.put, zqd, zqe, zqf, zqa, zqb, zqc]
    refine wpAnyH_take (i := 2) (v := ?_) rfl (by kernel_rfl) (by kernel_rfl) (by kernel_rfl) (fun _ _ _ h => h) (Or.inl ⟨by kernel_rfl, ?_⟩) (by assumption) ?_
    rotate_left
    · intro w'' hSw; (try dsimp only at hSw); simp only [zqa, zqb, zqc]; (go_simp <;> with_reducible rfl)
    try simp only [Act.put, zqd, zqe, zqf, zqa, zqb, zqc]
    refine wpAnyH_take (i := 3) (v := ?_) rfl (by kernel_rfl) (by kernel_rfl) (by kernel_rfl) (fun _ _ _ h => h) (Or.inl ⟨by kernel_rfl, ?_⟩) (by assumption) ?_
    rotate_left
    · intro w'' hSw; (try dsimp only at hSw); simp only [zqa, zqb, zqc]; (go_simp <;> with_reducible rfl)
    try simp only [Act.put, zqd, zqe, zqf, zqa, zqb, zqc]
    refine wpAnyH_take (i := 4) (v := ?_) rfl (by kernel_rfl) (by kernel_rfl) (by kernel_rfl) (fun _ _ _ h => h) (Or.inl ⟨by kernel_rfl, ?_⟩) (by assumption) ?_
    rotate_left
    · intro w'' hSw; (try dsimp only at hSw); simp only [zqa, zqb, zqc]; (go_simp <;> with_reducible rfl)
    try simp only [Act.put, zqd, zqe, zqf, zqa, zqb, zqc]
    refine wpAnyH_ready (rs := [5]) (by kernel_rfl) (by simp) ?_
    refine AllReadyH.cons rfl (fun K hK => ?_) AllReadyH.nil
    first | (with_reducible refine iteYes ?hcx ?htx; case hcx => kernel_rfl) | rw [if_pos (by rfl)]
    simp only [zqa, zqb, zqc]
    go_simp
    (go_at_call 93; refine (gwithin_calls _ _ _ _ _ _ _ _ _ _ _ _ _).mono ?_; rintro e w1 ⟨rfl, k1⟩)
    try go_wp2_with fail
    refine hK.out _ _ ?_ (fun hHeld2 => ?_)
    · (try dsimp only); exact HB.out _ (hHeld1.1.trans k1)
    clear hK K hHeld1
    try simp only [Act.put, zqd, zqe, zqf, zqa, zqb, zqc]
    refine wpAnyH_take (i := 6) (v := ?_) rfl (by kernel_rfl) (by kernel_rfl) (by kernel_rfl) (fun _ _ _ h => h) (Or.inl ⟨by kernel_rfl, ?_⟩) (by assumption) ?_
    rotate_left
    · intro w'' hSw; (try dsimp only at hSw); simp only [zqa, zqb, zqc]; (go_simp <;> with_reducible rfl)
    try simp only [Act.put, zqd, zqe, zqf, zqa, zqb, zqc]
    refine wpAnyH_take (i := 7) (v := undef) rfl (by kernel_rfl) (by kernel_rfl) (by kernel_rfl) (fun _ _ _ h => h) (Or.inr ⟨by kernel_rfl, rfl⟩) (by assumption) ?_
    try simp only [Act.put, zqd, zqe, zqf, zqa, zqb, zqc]
    refine wpAnyH_take (i := 8) (v := undef) rfl (by kernel_rfl) (by kernel_rfl) (by kernel_rfl) (fun _ _ _ h => h) (Or.inr ⟨by kernel_rfl, rfl⟩) (by assumption) ?_
    try simp only [Act.put, zqd, zqe, zqf, zqa, zqb, zqc]
    refine wpAnyH_take (i := 9) (v := undef) rfl (by kernel_rfl) (by kernel_rfl) (by kernel_rfl) (fun _ _ _ h => h) (Or.inr ⟨by kernel_rfl, rfl⟩) (by assumption) ?_
    try simp only [Act.put, zqd, zqe, zqf, zqa, zqb, zqc]
    refine wpAnyH_take (i := 10) (v := undef) rfl (by kernel_rfl) (by kernel_rfl) (by kernel_rfl) (fun _ _ _ h => h) (Or.inr ⟨by kernel_rfl, rfl⟩) (by assumption) ?_
    try simp only [Act.put, zqd, zqe, zqf, zqa, zqb, zqc]
    refine wpAnyH_take (i := 11) (v := undef) rfl (by kernel_rfl) (by kernel_rfl) (by kernel_rfl) (fun _ _ _ h => h) (Or.inr ⟨by kernel_rfl, rfl⟩) (by assumption) ?_
    try simp only [Act.put, zqd, zqe, zqf, zqa, zqb, zqc]
    refine wpAnyH_take (i := 12) (v := undef) rfl (by kernel_rfl) (by kernel_rfl) (by kernel_rfl) (fun _ _ _ h => h) (Or.inr ⟨by kernel_rfl, rfl⟩) (by assumption) ?_
    try simp only [Act.put, zqd, zqe, zqf, zqa, zqb, zqc]
    refine wpAnyH_take (i := 13) (v := undef) rfl (by kernel_rfl) (by kernel_rfl) (by kernel_rfl) (fun _ _ _ h => h) (Or.inr ⟨by kernel_rfl, rfl⟩) (by assumption) ?_
    try simp only [Act.put, zqd, zqe, zqf, zqa, zqb, zqc]
    refine wpAnyH_take (i := 14) (v := undef) rfl (by kernel_rfl) (by kernel_rfl) (by kernel_rfl) (fun _ _ _ h => h) (Or.inr ⟨by kernel_rfl, rfl⟩) (by assumption) ?_
    try simp only [Act.put, zqd, zqe, zqf, zqa, zqb, zqc]
    refine wpAnyH_take (i := 15) (v := undef) rfl (by kernel_rfl) (by kernel_rfl) (by kernel_rfl) (fun _ _ _ h => h) (Or.inr ⟨by kernel_rfl, rfl⟩) (by assumption) ?_
    try simp only [Act.put, zqd, zqe, zqf, zqa, zqb, zqc]
    refine wpAnyH_take (i := 16) (v := undef) rfl (by kernel_rfl) (by kernel_rfl) (by kernel_rfl) (fun _ _ _ h => h) (Or.inr ⟨by kernel_rfl, rfl⟩) (by assumption) ?_
    try simp only [Act.put, zqd, zqe, zqf, zqa, zqb, zqc]
    refine wpAnyH_take (i := 17) (v := undef) rfl (by kernel_rfl) (by kernel_rfl) (by kernel_rfl) (fun _ _ _ h => h) (Or.inr ⟨by kernel_rfl, rfl⟩) (by assumption) ?_
    try simp only [Act.put, zqd, zqe, zqf, zqa, zqb, zqc]
    refine wpAnyH_take (i := 18) (v := undef) rfl (by kernel_rfl) (by kernel_rfl) (by kernel_rfl) (fun _ _ _ h => h) (Or.inr ⟨by kernel_rfl, rfl⟩) (by assumption) ?_
    try simp only [Act.put, zqd, zqe, zqf, zqa, zqb, zqc]
    refine wpAnyH_take (i := 19) (v := ?_) rfl (by kernel_rfl) (by kernel_rfl) (by kernel_rfl) (fun _ _ _ h => h) (Or.inl ⟨by kernel_rfl, ?_⟩) (by assumption) ?_
    rotate_left
    · intro w'' hSw; (try dsimp only at hSw); simp only [zqa, zqb, zqc]; (go_simp <;> with_reducible rfl)
    try simp only [Act.put, zqd, zqe, zqf, zqa, zqb, zqc]
    refine wpAnyH_take (i := 20) (v := ?_) rfl (by kernel_rfl) (by kernel_rfl) (by kernel_rfl) (fun _ _ _ h => h) (Or.inl ⟨by kernel_rfl, ?_⟩) (by assumption) ?_
    rotate_left
    · intro w'' hSw; (try dsimp only at hSw); simp only [zqa, zqb, zqc]; (go_simp <;> with_reducible rfl)
    try simp only [Act.put, zqd, zqe, zqf, zqa, zqb, zqc]
    refine wpAnyH_done (by kernel_rfl) ?_ _
    have H : Hid (Kept w w1) := o0.out.1.trans hHeld2.1
    clear hHeld2
    go_wp2_with fail
    go_ret
    exact ⟨⟨_, rfl, fun h => by cases h⟩, H.out⟩
end Go.Proofs.YtbfkloclmlnahabGreat

namespace Go.Proofs.YtbfkloclmlnahabGreat
open Go.ChangeShapes Go.WideShapes Go.ChangeAt Go.RowKit
set_option linter.unusedVariables false
set_option linter.unusedSimpArgs false

/-- What is wrong with a body: 1 its shape, 2 a number beyond its bounds. -/
def rightW (q : Bd) : Int := if rightB q.kd q.sx q.sy q.sz = true then (if upX q.ow 8 = true ∧ upX q.ms 65536000 = true ∧ beyX 65536000 q.ax q.ay q.az = false ∧ beyX 6553600 q.vx q.vy q.vz = false ∧ beyX 6553600 q.px q.py q.pz = false then 0 else 2) else 1
theorem BodyAt.kept {w w' : World} {kb : Nat} {q : Bd} (h : BodyAt w kb q) (k : Kept w w') : BodyAt w' kb q := h.only (Only.of_kept k)
set_option maxRecDepth 100000 in
set_option maxHeartbeats 4000000 in
theorem wright_calls (q : Bd) (w : World) : Calls Tryz.prog 35 #[.agg #[.int .i64 (q.id), .int .i64 (q.ow), .int .i64 (q.kd), .int .i64 (q.sx), .int .i64 (q.sy), .int .i64 (q.sz), .int .i64 (q.ax), .int .i64 (q.ay), .int .i64 (q.az), .int .i64 (q.vx), .int .i64 (q.vy), .int .i64 (q.vz), .int .i64 (q.px), .int .i64 (q.py), .int .i64 (q.pz), .int .i64 (q.ms), .int .i64 (q.tm)]] w fun e w' => e = .returned (errV (rightW q)) ∧ Kept w w' := by
  go_enter Tryz.func35, Tryz.ntmps35
  go_upto_region 1 with fail
  have H1 : Hid (BodyAt (w.alloc (.cells #[.int .i64 (q.id), .int .i64 (q.ow), .int .i64 (q.kd), .int .i64 (q.sx), .int .i64 (q.sy), .int .i64 (q.sz), .int .i64 (q.ax), .int .i64 (q.ay), .int .i64 (q.az), .int .i64 (q.vx), .int .i64 (q.vy), .int .i64 (q.vz), .int .i64 (q.px), .int .i64 (q.py), .int .i64 (q.pz), .int .i64 (q.ms), .int .i64 (q.tm)] 37)) w.heap.size q ∧ Kept w (w.alloc (.cells #[.int .i64 (q.id), .int .i64 (q.ow), .int .i64 (q.kd), .int .i64 (q.sx), .int .i64 (q.sy), .int .i64 (q.sz), .int .i64 (q.ax), .int .i64 (q.ay), .int .i64 (q.az), .int .i64 (q.vx), .int .i64 (q.vy), .int .i64 (q.vz), .int .i64 (q.px), .int .i64 (q.py), .int .i64 (q.pz), .int .i64 (q.ms), .int .i64 (q.tm)] 37))) := ⟨(MapKept.heap_alloc w _).1, (Kept.refl w).alloc _ _⟩
  revert H1
  generalize w.heap.size = kb
  generalize World.alloc w _ = w1
  intro H1
  have e2 := H1.out.1.off 2; have e3 := H1.out.1.off 3; have e4 := H1.out.1.off 4; have e5 := H1.out.1.off 5
  simp only [zqg, zqh, zqi] at e2 e3 e4 e5
  go_wp2_with fail
  refine (gRight_calls _ _ _ _ _).mono ?_
  rintro e w2 ⟨rfl, k2⟩
  have H2 : Hid (BodyAt w2 kb q ∧ Kept w w2) := ⟨H1.out.1.kept k2, H1.out.2.trans k2⟩
  clear e2 e3 e4 e5 k2 H1
  cases h0 : rightB q.kd q.sx q.sy q.sz with
  | false =>
    have HE : Hid (rightW q = 1) := by show rightW q = 1; unfold rightW; simp [h0]
    clear h0
    go_wp2_with fail
    go_ret
    exact ⟨by rw [HE.out]; rfl, H2.out.2⟩
  | true =>
    have G0 : Hid (rightB q.kd q.sx q.sy q.sz = true) := h0
    clear h0
    have e1 := H2.out.1.off 1
    simp only [zqg, zqh, zqi] at e1
    go_wp2_with fail
    refine (upTo_calls _ _ _).mono ?_
    rintro e w3 ⟨rfl, hw3⟩
    have H3 : Hid (BodyAt w3 kb q ∧ Kept w w3) := by rw [hw3]; exact ⟨H2.out.1, H2.out.2⟩
    clear hw3 H2 e1
    cases h0 : upX q.ow 8 with
    | false =>
      have HE : Hid (rightW q = 2) := by show rightW q = 2; unfold rightW; simp [G0.out, h0]
      clear h0
      go_wp2_with fail
      go_ret
      exact ⟨by rw [HE.out]; rfl, H3.out.2⟩
    | true =>
      have G1 : Hid (upX q.ow 8 = true) := h0
      clear h0
      have e15 := H3.out.1.off 15
      simp only [zqg, zqh, zqi] at e15
      go_wp2_with fail
      refine (upTo_calls _ _ _).mono ?_
      rintro e w4 ⟨rfl, hw4⟩
      have H4 : Hid (BodyAt w4 kb q ∧ Kept w w4) := by rw [hw4]; exact ⟨H3.out.1, H3.out.2⟩
      clear hw4 H3 e15
      cases h0 : upX q.ms 65536000 with
      | false =>
        have HE : Hid (rightW q = 2) := by show rightW q = 2; unfold rightW; simp [G0.out, G1.out, h0]
        clear h0
        go_wp2_with fail
        go_ret
        exact ⟨by rw [HE.out]; rfl, H4.out.2⟩
      | true =>
        have G2 : Hid (upX q.ms 65536000 = true) := h0
        clear h0
        have e6 := H4.out.1.off 6
        have e7 := H4.out.1.off 7
        have e8 := H4.out.1.off 8
        simp only [zqg, zqh, zqi] at e6 e7 e8
        go_wp2_with fail
        refine (beyond_calls _ _ _ _ _ (by decide) (by decide)).mono ?_
        rintro e w5 ⟨rfl, k5⟩
        have H5 : Hid (BodyAt w5 kb q ∧ Kept w w5) := ⟨H4.out.1.kept k5, H4.out.2.trans k5⟩
        clear k5 H4 e6 e7 e8
        cases h0 : beyX 65536000 q.ax q.ay q.az with
        | true =>
          have HE : Hid (rightW q = 2) := by show rightW q = 2; unfold rightW; simp [G0.out, G1.out, G2.out, h0]
          clear h0
          go_wp2_with fail
          go_ret
          exact ⟨by rw [HE.out]; rfl, H5.out.2⟩
        | false =>
          have G3 : Hid (beyX 65536000 q.ax q.ay q.az = false) := h0
          clear h0
          have e9 := H5.out.1.off 9
          have e10 := H5.out.1.off 10
          have e11 := H5.out.1.off 11
          simp only [zqg, zqh, zqi] at e9 e10 e11
          go_wp2_with fail
          refine (beyond_calls _ _ _ _ _ (by decide) (by decide)).mono ?_
          rintro e w6 ⟨rfl, k6⟩
          have H6 : Hid (BodyAt w6 kb q ∧ Kept w w6) := ⟨H5.out.1.kept k6, H5.out.2.trans k6⟩
          clear k6 H5 e9 e10 e11
          cases h0 : beyX 6553600 q.vx q.vy q.vz with
          | true =>
            have HE : Hid (rightW q = 2) := by show rightW q = 2; unfold rightW; simp [G0.out, G1.out, G2.out, G3.out, h0]
            clear h0
            go_wp2_with fail
            go_ret
            exact ⟨by rw [HE.out]; rfl, H6.out.2⟩
          | false =>
            have G4 : Hid (beyX 6553600 q.vx q.vy q.vz = false) := h0
            clear h0
            have e12 := H6.out.1.off 12
            have e13 := H6.out.1.off 13
            have e14 := H6.out.1.off 14
            simp only [zqg, zqh, zqi] at e12 e13 e14
            go_wp2_with fail
            refine (beyond_calls _ _ _ _ _ (by decide) (by decide)).mono ?_
            rintro e w7 ⟨rfl, k7⟩
            have H7 : Hid (BodyAt w7 kb q ∧ Kept w w7) := ⟨H6.out.1.kept k7, H6.out.2.trans k7⟩
            clear k7 H6 e12 e13 e14
            cases h0 : beyX 6553600 q.px q.py q.pz with
            | true =>
              have HE : Hid (rightW q = 2) := by show rightW q = 2; unfold rightW; simp [G0.out, G1.out, G2.out, G3.out, G4.out, h0]
              clear h0
              go_wp2_with fail
              go_ret
              exact ⟨by rw [HE.out]; rfl, H7.out.2⟩
            | false =>
              have G5 : Hid (beyX 6553600 q.px q.py q.pz = false) := h0
              clear h0
              have HE : Hid (rightW q = 0) := by show rightW q = 0; unfold rightW; simp [G0.out, G1.out, G2.out, G3.out, G4.out, G5.out]
              go_wp2_with fail
              go_ret
              exact ⟨by rw [HE.out]; rfl, H7.out.2⟩
end Go.Proofs.YtbfkloclmlnahabGreat
