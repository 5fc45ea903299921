/- broad.Tree.Put: the box of that number is the new one, or an error tells what is wrong: whatever the tree, the number and the box. -/
import Derived.Test.YtdhbcgdlmkkdfaaGreatDoorBr15
namespace Go.Proofs.YtdhbcgdlmkkdfaaGreatDoor
open Go.ChangeShapes Go.WideShapes Go.ChangeAt Go.RowKit
open Go.Maps (Keyed)
set_option linter.unusedVariables false
set_option linter.unusedSimpArgs false

section
variable {P : Program} (w : World)
theorem equalIn_map (d : Nat) {t k e : TypeId} (m : Option Nat) (ht : P.underlying t = some (.map k e)) : (Op.equalIn (d + 1) t (.map m) (.map none)).run P w = .ok m.isNone w := by
  cases m <;> simp [Op.equalIn, run_underlying ht]
theorem eql_map {t k e : TypeId} (m : Option Nat) (ht : P.underlying t = some (.map k e)) : (binOp .eql t (.map m) (.map none)).run P w = .ok (.bool m.isNone) w := by
  simp only [binOp]
  simp [Op.equal, Op.maxDepth, equalIn_map w 9999 m ht]
end
theorem eqlBook (m : Option Nat) (w : World) : (binOp .eql 53 (.map m) (.map none)).run Tryz.prog w = .ok (.bool m.isNone) w := eql_map w m Tryz.underlying53
def FK (k : Nat) (q : Bx) (t : Nat) (fat : Int) (w w' : World) : Prop := Kept w w' ∧ w'.cell? ⟨k, 0, none⟩ = some (.int .i64 q.x0) ∧ w'.cell? ⟨k, 1, none⟩ = some (.int .i64 q.x1) ∧ w'.cell? ⟨k, 2, none⟩ = some (.int .i64 q.x2) ∧ w'.cell? ⟨k, 3, none⟩ = some (.int .i64 q.x3) ∧ w'.cell? ⟨k, 4, none⟩ = some (.int .i64 q.x4) ∧ w'.cell? ⟨k, 5, none⟩ = some (.int .i64 q.x5) ∧ w'.cell? ⟨t, 0, none⟩ = some (.int .i64 fat)
theorem FK.of {k : Nat} {q : Bx} {t : Nat} {fat : Int} {r lv : Option Nat} {w w' : World} (kk : Kept w w') (hq : BoxAt w k q) (ht : TreeAt w t fat r lv) : FK k q t fat w w' := by
  have h := (Only.of_kept (D := []) kk).box (by simp) hq
  have h3 := (Only.of_kept (D := []) kk).tree (by simp) ht
  exact ⟨kk, h.off 0, h.off 1, h.off 2, h.off 3, h.off 4, h.off 5, h3.c0⟩
/-- What holds ahead of the new leaf: the tree without the number; the book takes it. -/
structure Tail (i : Int) (q : Bx) (t : Nat) (fat : Int) (m : Nat) (T : Option Tr) (MD : DataW Unit) (w : World) : Prop where
  tree : TreeAt w t fat (rootO T) (some m)
  inn : InO w T
  own : w.ownsMap Tryz.prog 3 nodeElem m 70 MD
  book : ∀ b room, Book (MD.put (key i) (.lit (.int .i64 (b : Nat)))) (⟨b, i, q, room⟩ :: leavesO T)
  nodup : (t :: m :: blocksO T).Nodup
  fits : ∀ x ∈ leavesO T, withinX x.box x.room = true
  len : (leavesO T).length < 60
theorem Tail.only {i : Int} {q : Bx} {t : Nat} {fat : Int} {m : Nat} {T : Option Tr} {MD : DataW Unit} {D : List Nat} {w w' : World} (h : Tail i q t fat m T MD w) (o : Only D w w') (s : ∀ b ∈ t :: m :: blocksO T, b ∉ D) : Tail i q t fat m T MD w' := by
  have hlt := h.own.lt
  obtain ⟨es, clock, hb, r⟩ := h.own
  exact ⟨o.tree (s t (by simp)) h.tree, h.inn.only o (fun b hb => s b (by simp [hb])), ⟨es, clock, (o.block m hlt (s m (by simp))).trans hb, r⟩, h.book, h.nodup, h.fits, h.len⟩
/-- What Put leaves. -/
def PutPost (w : World) (t : Nat) (fat : Int) (m : Nat) (T : Option Tr) (x : Lf) (w' : World) : Prop :=
  ∃ T', Whole w' t fat (some T') (some m) ∧ T'.leaves.Perm (x :: leavesO T) ∧ (∀ b ∈ T'.blocks, b ∈ x.b :: blocksO T ∨ w.heap.size ≤ b) ∧ Only (x.b :: t :: m :: blocksO T) w w'
theorem hang_tail {i : Int} {q : Bx} {t : Nat} {fat : Int} {m lf : Nat} {T : Option Tr} {MD : DataW Unit} {w6 w7 : World} (h : Tail i q t fat m T MD w6) (n6 : NodeAt w6 lf ((Tr.leaf lf i q (fatX q fat)).nd none)) (hown : w7.ownsMap Tryz.prog 3 nodeElem m (70 + 1) (MD.put (key i) (.lit (.int .i64 (lf : Nat)))))
    (o7 : Only [m] w6 w7) (hlf : lf ∉ t :: m :: blocksO T) (hw : withinX q (fatX q fat) = true) :
    Calls Tryz.prog 21 #[.pointer (some ⟨t, 0, none⟩), .pointer (some ⟨lf, 0, none⟩)] w7 fun e w' => e = .returned (.tuple #[]) ∧ PutPost w6 t fat m T ⟨lf, i, q, fatX q fat⟩ w' := by
  have nd := h.nodup
  simp only [List.nodup_cons, List.mem_cons, not_or] at nd hlf
  have hbm : ∀ b ∈ blocksO T, b ∉ [m] := fun b hb => by simp; exact fun e => nd.2.1 (e ▸ hb)
  refine (hang_calls t fat (some m) T ⟨lf, i, q, fatX q fat⟩ w7 (by simp only [List.nodup_cons, List.mem_cons, not_or]; exact ⟨⟨hlf.1, hlf.2.2⟩, nd.1.2, nd.2.2⟩) (by have := h.len; omega) (h.inn.only o7 hbm) (o7.tree (by simp [nd.1.1]) h.tree) (o7.node (by simp [hlf.2.1]) n6)).mono ?_
  rintro e w' ⟨rfl, T', hi, ht, hp, hn, hsub, o⟩
  have hm : m ∉ lf :: t :: blocksO T := by simp only [List.mem_cons, not_or]; exact ⟨fun e => hlf.2.1 e.symm, fun e => nd.1.1 e.symm, nd.2.1⟩
  have hmlt := hown.lt
  have hbk := (h.book lf (fatX q fat)).perm hp.symm
  have hown' : w'.ownsMap Tryz.prog 3 nodeElem m (70 + 1) (MD.put (key i) (.lit (.int .i64 (lf : Nat)))) := by
    obtain ⟨es, clock, hb, r⟩ := hown
    exact ⟨es, clock, (o.block m hmlt hm).trans hb, r⟩
  refine ⟨rfl, T', ⟨ht, hi, ?_, ⟨_, ownsMap_fit hown' hbk, hbk⟩, ?_⟩, hp, fun b hb => (hsub b hb).imp id (fun q => Nat.le_trans o7.size q), ?_⟩
  · intro x hx
    rcases List.mem_cons.1 (hp.mem_iff.1 hx) with rfl | hx
    · exact hw
    · exact h.fits x hx
  · simp only [Option.toList_some, List.cons_append, List.nil_append, blocksO, List.nodup_cons, List.mem_cons, not_or]
    simp only [List.nodup_cons] at hn
    refine ⟨⟨nd.1.1, hn.1⟩, fun hb => ?_, hn.2⟩
    rcases hsub m hb with q | q
    · exact hm (by simp only [List.mem_cons] at q ⊢; rcases q with e | e <;> simp [e])
    · omega
  · refine (o7.mono (by simp)).trans (o.mono (fun b hb => Or.inl ?_))
    simp only [List.mem_cons] at hb ⊢
    rcases hb with e | e | e <;> simp [e]

theorem put_bad (t : Nat) (i : Int) (q : Bx) (w : World) (h : rightC q ≠ 0) : Calls Tryz.prog 8 #[.pointer (some ⟨t, 0, none⟩), .int .i64 i, .agg #[.int .i64 (q.x0), .int .i64 (q.x1), .int .i64 (q.x2), .int .i64 (q.x3), .int .i64 (q.x4), .int .i64 (q.x5)]] w fun e w' => e = .returned (errV (rightC q)) ∧ Only [] w w' := by
  have HE : errV (rightC q) = .iface 29 (.int .i64 (rightC q)) := by unfold errV; rw [if_neg h]
  have HE2 : Hid (errV (rightC q) = .iface 29 (.int .i64 (rightC q))) := HE
  rw [HE2.out]
  go_enter Tryz.func8, Tryz.ntmps8
  go_wp2_with fail
  refine (right_calls q _).mono ?_
  rw [HE]
  rintro e w1 ⟨rfl, k1⟩
  have o0 : Hid (Kept w w1 ∧ BoxAt w1 w.heap.size q) := ⟨((Kept.refl w).alloc _ _).trans k1, (Only.of_kept (D := []) k1).box (by simp) (MapKept.heap_alloc w _).1⟩
  clear k1 HE

  go_wp2_with fail
  go_ret
  exact ⟨rfl, .of_kept o0.out.1⟩


theorem errV0 {q : Bx} (h : rightC q = 0) : errV (rightC q) = .nilIface := by rw [h]; rfl
/-- No room for one more. -/
theorem put_full (t : Nat) (fat : Int) (D : List Nat) (M : List (Int × Bx)) (i : Int) (q : Bx) (w : World) (h : TreeIs w t fat D M) (hi : In64 i) (hn : i ∉ M.map Prod.fst) (hr : rightC q = 0) (hl : 60 ≤ M.length) :
    Calls Tryz.prog 8 #[.pointer (some ⟨t, 0, none⟩), .int .i64 i, .agg #[.int .i64 (q.x0), .int .i64 (q.x1), .int .i64 (q.x2), .int .i64 (q.x3), .int .i64 (q.x4), .int .i64 (q.x5)]] w fun e w' => e = .returned (.iface 29 (.int .i64 4)) ∧ Only [] w w' := by
  obtain ⟨T, lv, hw, hD, hM, hni⟩ := h.miss hn
  have HE := errV0 hr
  have H0 : Hid (Whole w t fat T lv ∧ i ∉ (leavesO T).map Lf.id ∧ (leavesO T).length = 60) := ⟨hw, hni, by have := hM.length_eq; have := h.small; simp only [boxesOf, List.length_map] at *; omega⟩
  clear hw hD hM hni hn h hl hr
  go_enter Tryz.func8, Tryz.ntmps8
  go_wp2_with fail
  refine (right_calls q _).mono ?_
  rw [HE]
  rintro e w1 ⟨rfl, k1⟩
  have o0 : Hid (Kept w w1 ∧ BoxAt w1 w.heap.size q) := ⟨((Kept.refl w).alloc _ _).trans k1, (Only.of_kept (D := []) k1).box (by simp) (MapKept.heap_alloc w _).1⟩
  clear k1 HE

  have hw1 : Whole w1 t fat T lv := H0.out.1.only (.of_kept (D := []) o0.out.1) (by simp)
  have c2 := hw1.tree.c2
  have hl := hw1.book.look_none hi H0.out.2.1
  have hlen := fun ty => hw1.book.len ty
  rw [H0.out.2.2] at hlen
  clear hw1
  go_wp2_with fail
  go_ret
  exact ⟨rfl, .of_kept o0.out.1⟩

/-- The end: what hangs there is the new book. -/
theorem put_done {w w6 w8 : World} {t : Nat} {fat : Int} {D : List Nat} {M : List (Int × Bx)} {i : Int} {q : Bx} {m : Nat} {T : Option Tr} {x : Lf} (hM : TreeIs w t fat D M) (hi : In64 i) (xi : x.id = i) (xq : x.box = q) (hlen : (leavesO T).length < 60)
    (hdel : (del M i).Perm (boxesOf (leavesO T))) (hD : ∀ b ∈ t :: m :: blocksO T, b ∈ D ∨ w.heap.size ≤ b) (hx : w.heap.size ≤ x.b) (o6 : Only D w w6) (h : PutPost w6 t fat m T x w8) :
    ∃ D', TreeIs w8 t fat D' (put M i q) ∧ (∀ b ∈ D', b ∈ D ∨ w.heap.size ≤ b) ∧ Only D w w8 := by
  obtain ⟨T', hw, hp, hsub, o⟩ := h
  have hpm : (put M i q).Perm (boxesOf T'.leaves) := by
    refine List.Perm.trans ?_ (hp.map _).symm
    unfold put
    simp only [List.map_cons, xi, xq]
    exact List.Perm.cons _ hdel
  have hin : ∀ b ∈ t :: m :: T'.blocks, b ∈ D ∨ w.heap.size ≤ b := by
    intro b hb
    simp only [List.mem_cons] at hb
    rcases hb with rfl | rfl | hb
    · exact hD _ (by simp)
    · exact hD _ (by simp)
    · rcases hsub b hb with q | q
      · rcases List.mem_cons.1 q with rfl | q
        · exact Or.inr hx
        · exact hD b (by simp [q])
      · exact Or.inr (Nat.le_trans o6.size q)
  refine ⟨t :: m :: T'.blocks, ⟨⟨some T', some m, hw, rfl, hpm⟩, hM.fat0, ?_, ?_, ?_⟩, hin, o6.then o (fun b hb => ?_)⟩
  · have := hdel.length_eq; simp only [put, List.length_cons, boxesOf, List.length_map] at *; omega
  · simp only [put, List.map_cons, List.nodup_cons]
    refine ⟨fun hb => ?_, hM.keys.sublist (List.filter_sublist.map _)⟩
    obtain ⟨p, hp, rfl⟩ := List.mem_map.1 hb
    have := (List.mem_filter.1 hp).2
    simp at this
  · intro p hp
    rcases List.mem_cons.1 hp with rfl | hp
    · exact hi
    · exact hM.ids p (List.mem_filter.1 hp).1
  · rcases List.mem_cons.1 hb with rfl | hb
    · exact Or.inr hx
    · exact hD b hb
theorem first_tail {w1 : World} {t : Nat} {fat : Int} {i : Int} {q : Bx} (h : Whole w1 t fat none none) : Tail i q t fat w1.heap.size none (.map []) ((w1.alloc (.map #[] 0)).setCell ⟨t, 2, none⟩ (.map (some w1.heap.size))) := by
  have hlt := h.tree.lt
  have ne : w1.heap.size ≠ t := by omega
  refine ⟨?_, trivial, ?_, fun b room => Book.empty.put (x := ⟨b, i, q, room⟩) (by simp), ?_, by simp [leavesO], by simp [leavesO]⟩
  · exact (((Only.refl [] w1).alloc _).tree (by simp) h.tree).putMap (some w1.heap.size)
  · exact ((World.ownsMap_made w1 Tryz.prog 3 nodeElem).mono (by omega)).setCell ne _
  · simp [blocksO, Ne.symm ne]
set_option maxRecDepth 100000 in
theorem put_first (t : Nat) (fat : Int) (D : List Nat) (M : List (Int × Bx)) (i : Int) (q : Bx) (w : World) (h : TreeIs w t fat D M) (hi : In64 i) (hr : rightC q = 0) (T : Option Tr) (hw : Whole w t fat T none) (hD : D = t :: ((none : Option Nat).toList ++ blocksO T)) (hM : M.Perm (boxesOf (leavesO T))) (hni : i ∉ (leavesO T).map Lf.id) :
    Calls Tryz.prog 8 #[.pointer (some ⟨t, 0, none⟩), .int .i64 i, .agg #[.int .i64 (q.x0), .int .i64 (q.x1), .int .i64 (q.x2), .int .i64 (q.x3), .int .i64 (q.x4), .int .i64 (q.x5)]] w fun e w' => e = .returned .nilIface ∧ ∃ D', TreeIs w' t fat D' (put M i q) ∧ (∀ b ∈ D', b ∈ D ∨ w.heap.size ≤ b) ∧ Only D w w' := by
  have HE := errV0 hr
  have HF : Hid (withinX q (fatX q fat) = true) := fat_within hr h.fat0.1 h.fat0.2
  obtain rfl : T = none := by
    cases T with
    | none => rfl
    | some T => have h1 := hw.book; have h2 := leaves_pos T; simp only [MapIs, leavesO] at h1; rw [h1] at h2; simp at h2
  have H0 : Hid (TreeIs w t fat D M ∧ Whole w t fat none none ∧ D = [t] ∧ M.Perm []) := ⟨h, hw, by simpa [blocksO] using hD, by simpa [leavesO, boxesOf] using hM⟩
  clear hw hD hM hni h hr
  go_enter Tryz.func8, Tryz.ntmps8
  go_wp2_with fail
  refine (right_calls q _).mono ?_
  rw [HE]
  rintro e w1 ⟨rfl, k1⟩
  have o0 : Hid (Kept w w1 ∧ BoxAt w1 w.heap.size q) := ⟨((Kept.refl w).alloc _ _).trans k1, (Only.of_kept (D := []) k1).box (by simp) (MapKept.heap_alloc w _).1⟩
  clear k1 HE

  have hw1 : Whole w1 t fat none none := H0.out.2.1.only (.of_kept (D := []) o0.out.1) (by simp)
  have c2 := hw1.tree.c2
  have f2 := hw1.tree.free
  have hl := hw1.book.look_none hi (by simp [leavesO])
  have hlen := fun ty => hw1.book.len ty
  simp only [leavesO, List.length_nil] at hlen
  have hmm := @run_makeMap Tryz.prog
  have heq := eqlBook none
  simp only [Option.isNone_none] at heq
  have c2' : ∀ o, (w1.alloc o).cell? ⟨t, 2, none⟩ = some (.map none) := later c2
  have f2' : ∀ o, (w1.alloc o).frozen? ⟨t, 2, none⟩ = false := fun o => by rw [World.frozen?_alloc_old w1 o _ (Nat.ne_of_lt hw1.tree.lt)]; exact f2 2
  have HW1 : Hid (Whole w1 t fat none none) := hw1
  clear hw1
  go_wp2_with fail
  have HT : Hid (Tail i q t fat w1.heap.size none (.map []) ((w1.alloc (.map #[] 0)).setCell ⟨t, 2, none⟩ (.map (some w1.heap.size)))) := first_tail HW1.out
  have oT : Only [t] w1 ((w1.alloc (.map #[] 0)).setCell ⟨t, 2, none⟩ (.map (some w1.heap.size))) := ((Only.refl [t] w1).alloc _).setCell (by simp) _
  have HB : Hid (BoxAt ((w1.alloc (.map #[] 0)).setCell ⟨t, 2, none⟩ (.map (some w1.heap.size))) w.heap.size q) := oT.box (by have := H0.out.2.1.tree.lt; simp; omega) o0.out.2
  have HO : Hid (Only D w ((w1.alloc (.map #[] 0)).setCell ⟨t, 2, none⟩ (.map (some w1.heap.size))) ∧ w.heap.size ≤ w1.heap.size) := ⟨(Only.of_kept o0.out.1).trans (oT.mono (by rw [H0.out.2.2.1]; simp)), o0.out.1.below.size⟩
  have HL : Hid (∀ b ∈ t :: w1.heap.size :: blocksO none, b < ((w1.alloc (.map #[] 0)).setCell ⟨t, 2, none⟩ (.map (some w1.heap.size))).heap.size) := fun b hb => by
    have h1 := HW1.out.tree.lt
    simp only [blocksO, List.mem_cons, List.not_mem_nil, or_false] at hb
    simp [World.setCell]
    rcases hb with rfl | rfl <;> omega
  clear c2 f2 hl hlen hmm c2' f2' oT heq HW1
  generalize ((w1.alloc (.map #[] 0)).setCell ⟨t, 2, none⟩ (.map (some w1.heap.size))) = wT at HT HB HO HL ⊢
  generalize w1.heap.size = m at HT HO HL ⊢
  generalize hk : w.heap.size = k at HB ⊢
  clear hk o0 w1
  generalize hMD : (.map [] : DataW Unit) = MD at HT
  generalize hTT : (none : Option Tr) = T at HT HL
  have HTT : Hid (none = T) := hTT
  clear hMD hTT

  refine wp_region_held_drew (S := (fun w' => Kept wT w' ∧ w'.cell? ⟨k, 0, none⟩ = some (.int .i64 q.x0) ∧ w'.cell? ⟨k, 1, none⟩ = some (.int .i64 q.x1) ∧ w'.cell? ⟨k, 2, none⟩ = some (.int .i64 q.x2) ∧ w'.cell? ⟨k, 3, none⟩ = some (.int .i64 q.x3) ∧ w'.cell? ⟨k, 4, none⟩ = some (.int .i64 q.x4) ∧ w'.cell? ⟨k, 5, none⟩ = some (.int .i64 q.x5) ∧ w'.cell? ⟨t, 0, none⟩ = some (.int .i64 fat))) (by kernel_rfl) ?_ (fun hHeld1 => ?_)
  · (try dsimp only); exact FK.of (Kept.refl _).drew HB.out HT.out.tree
  refine tkW 0 rfl ?_; refine tkW 1 rfl ?_; refine tkW 2 rfl ?_; refine tkW 3 rfl ?_
  try simp only [Act.put, List.setIfInBounds_toArray, List.set_cons_zero, List.set_cons_succ, List.getElem_toArray, List.getElem_cons_succ, List.getElem_cons_zero]
  refine tkW 4 rfl ?_; refine tkW 5 rfl ?_; refine tkW 6 rfl ?_
  try simp only [Act.put, List.setIfInBounds_toArray, List.set_cons_zero, List.set_cons_succ, List.getElem_toArray, List.getElem_cons_succ, List.getElem_cons_zero]
  refine wpAnyH_ready (rs := [7]) (by kernel_rfl) (by simp) ?_
  refine AllReadyH.cons rfl (fun K hK => ?_) AllReadyH.nil
  first | (with_reducible refine iteYes ?hcx ?htx; case hcx => kernel_rfl) | rw [if_pos (by rfl)]
  simp only [List.getElem_toArray, List.getElem_cons_succ, List.getElem_cons_zero]
  go_simp
  (go_at_call 20; refine (gfat_calls _ _ _ _ _ _ _ _).mono ?_; rintro e w5 ⟨rfl, k5⟩)
  try go_wp2_with fail
  refine hK.out _ _ ?_ (fun hHeld2 => ?_)
  · (try dsimp only); exact FK.of (hHeld1.1.trans k5) HB.out HT.out.tree
  clear hK K hHeld1
  try simp only [Act.put, List.setIfInBounds_toArray, List.set_cons_zero, List.set_cons_succ, List.getElem_toArray, List.getElem_cons_succ, List.getElem_cons_zero]
  refine tkW 8 rfl ?_
  try simp only [Act.put, List.setIfInBounds_toArray, List.set_cons_zero, List.set_cons_succ, List.getElem_toArray, List.getElem_cons_succ, List.getElem_cons_zero]
  refine wpAnyH_ready (rs := [9]) (by kernel_rfl) (by simp) ?_
  refine AllReadyH.cons rfl (fun K hK => ?_) AllReadyH.nil
  first | (with_reducible refine iteYes ?hcx ?htx; case hcx => kernel_rfl) | rw [if_pos (by rfl)]
  simp only [List.getElem_toArray, List.getElem_cons_succ, List.getElem_cons_zero]
  go_simp
  refine hK.out _ _ ?_ (fun hHeld3 => ?_)
  · (try dsimp only); exact FK.of (hHeld2.1.alloc _ _) HB.out HT.out.tree
  clear hK K
  try simp only [Act.put, List.setIfInBounds_toArray, List.set_cons_zero, List.set_cons_succ, List.getElem_toArray, List.getElem_cons_succ, List.getElem_cons_zero]
  refine tkW 10 rfl ?_
  try simp only [Act.put, List.setIfInBounds_toArray, List.set_cons_zero, List.set_cons_succ, List.getElem_toArray, List.getElem_cons_succ, List.getElem_cons_zero]
  refine wpAnyH_done (by kernel_rfl) ?_ _
  have H5 : Hid (Kept wT w5) := hHeld2.1
  clear hHeld2 hHeld3
  generalize hw6 : World.alloc w5 _ = w6
  have n6 : NodeAt w6 w5.heap.size ((Tr.leaf w5.heap.size i q (fatX q fat)).nd none) := by rw [← hw6]; exact (MapKept.heap_alloc w5 _).1
  have o6 : Only [] wT w6 := by rw [← hw6]; exact ((Only.refl [] wT).trans (.of_kept H5.out)).alloc _
  have H6 : Hid (Tail i q t fat m T MD w6 ∧ Only [] wT w6 ∧ NodeAt w6 w5.heap.size ((Tr.leaf w5.heap.size i q (fatX q fat)).nd none) ∧ wT.heap.size ≤ w5.heap.size) := ⟨HT.out.only o6 (by simp), o6, n6, H5.out.below.size⟩
  clear hw6 n6 o6 H5
  generalize w5.heap.size = lf at H6 ⊢
  have hown := H6.out.1.own
  have d2 := H6.out.1.tree.c2
  have hln := H6.out.1.len
  go_wp2_with (first | (at_mapUpdate; refine wpList_mapUpdate_in _ rfl _ _ _ 53 rfl 3 52 intKey Tryz.underlying53 _ m _ MD rfl hown (by unfold maxLen; omega) _ _ _ rfl rfl (keyIs hi) (.lit (.int .i64 (lf : Int))) [] rfl ?_; intro w7 hown7 hturn7; have H7 : Hid (_ ∧ _) := ⟨hown7, hturn7⟩; clear hown7 hturn7 hown d2))
  obtain ⟨hown7, hturn7⟩ := H7.out
  have o7 : Only [m] w6 w7 := (Only.refl [m] w6).grown hturn7.grown (fun k hk => by injection hk with hk; exact Or.inl (by simp [hk]))
  refine (hang_tail (lf := lf) H6.out.1 H6.out.2.2.1 hown7 o7 (fun hb => by have h1 := H6.out.2.2.2; have h2 := HL.out _ hb; omega) (HF.out)).mono ?_
  rintro e w8 ⟨rfl, q8⟩
  have H8 : Hid _ := q8
  clear q8 hown7 hturn7 H7 o7
  go_wp2_with fail
  go_ret

  refine ⟨rfl, put_done H0.out.1 hi rfl rfl H6.out.1.len ?_ ?_ ?_ (HO.out.1.trans (H6.out.2.1.mono (by simp))) H8.out⟩
  · rw [← HTT.out]; simp only [leavesO, boxesOf, List.map_nil]; have := List.perm_nil.1 H0.out.2.2.2; rw [this]; exact List.Perm.refl _
  · intro b hb
    rw [← HTT.out] at hb
    simp only [blocksO, List.mem_cons, List.not_mem_nil, or_false] at hb
    rcases hb with rfl | rfl
    · rw [H0.out.2.2.1]; simp
    · exact Or.inr HO.out.2
  · exact Nat.le_trans HO.out.1.size H6.out.2.2.2
end Go.Proofs.YtdhbcgdlmkkdfaaGreatDoor
