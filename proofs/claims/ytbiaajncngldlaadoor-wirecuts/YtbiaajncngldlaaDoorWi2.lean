/- wire's commands in memory; bare; Ask: whichever command. -/
import Derived.Test.YtbiaajncngldlaaDoorWi1
namespace Go.Proofs.YtbiaajncngldlaaDoor
open Go.ChangeShapes Go.WideShapes Go.ChangeAt Go.RowKit
set_option linter.unusedVariables false
set_option linter.unusedSimpArgs false

structure Cm where
  tk : Int
  nm : Int
  sn : Int
  kd : Int
  bd : Int
  x : Int
  y : Int
  z : Int
def CmAt (T : TypeId) (w : World) (k : Nat) (c : Cm) : Prop := w.heap[k]? = some (.cells #[.int .i64 (c.tk), .int .i64 (c.nm), .int .i64 (c.sn), .int .i64 (c.kd), .int .i64 (c.bd), .int .i64 (c.x), .int .i64 (c.y), .int .i64 (c.z)] T)
theorem CmAt.lt {T : TypeId} {w : World} {k : Nat} {c : Cm} (h : CmAt T w k c) : k < w.heap.size := (Array.getElem?_eq_some_iff.1 h).1
theorem CmAt.cells {T : TypeId} {w : World} {k : Nat} {c : Cm} (h : CmAt T w k c) : w.cell? ⟨k, 0, none⟩ = some (.int .i64 (c.tk)) ∧ w.cell? ⟨k, 1, none⟩ = some (.int .i64 (c.nm)) ∧ w.cell? ⟨k, 2, none⟩ = some (.int .i64 (c.sn)) ∧ w.cell? ⟨k, 3, none⟩ = some (.int .i64 (c.kd)) ∧ w.cell? ⟨k, 4, none⟩ = some (.int .i64 (c.bd)) ∧ w.cell? ⟨k, 5, none⟩ = some (.int .i64 (c.x)) ∧ w.cell? ⟨k, 6, none⟩ = some (.int .i64 (c.y)) ∧ w.cell? ⟨k, 7, none⟩ = some (.int .i64 (c.z)) := by
  unfold CmAt at h
  simp [World.cell?, h]
theorem CmAt.free {T : TypeId} {w : World} {k : Nat} {c : Cm} (h : CmAt T w k c) (i : Nat) : w.frozen? ⟨k, i, none⟩ = false := by unfold CmAt at h; simp [World.frozen?, h]
theorem CmAt.only {T : TypeId} {w w' : World} {k : Nat} {c : Cm} (h : CmAt T w k c) {D : List Nat} (o : Only D w w') (s : k ∉ D) : CmAt T w' k c := (o.block k h.lt s).trans h
theorem CmAt.put8 {T : TypeId} {w : World} {k : Nat} {c : Cm} (h : CmAt T w k c) (d : Cm) : CmAt T ((((((((w.setCell ⟨k, 0, none⟩ (.int .i64 (d.tk))).setCell ⟨k, 1, none⟩ (.int .i64 (d.nm))).setCell ⟨k, 2, none⟩ (.int .i64 (d.sn))).setCell ⟨k, 3, none⟩ (.int .i64 (d.kd))).setCell ⟨k, 4, none⟩ (.int .i64 (d.bd))).setCell ⟨k, 5, none⟩ (.int .i64 (d.x))).setCell ⟨k, 6, none⟩ (.int .i64 (d.y))).setCell ⟨k, 7, none⟩ (.int .i64 (d.z))) k d :=
  by
  unfold CmAt at h ⊢
  have h0 := heap_put h 0 (.int .i64 (d.tk))
  simp only [List.setIfInBounds_toArray, List.set_cons_zero, List.set_cons_succ] at h0
  have h1 := heap_put h0 1 (.int .i64 (d.nm))
  simp only [List.setIfInBounds_toArray, List.set_cons_zero, List.set_cons_succ] at h1
  have h2 := heap_put h1 2 (.int .i64 (d.sn))
  simp only [List.setIfInBounds_toArray, List.set_cons_zero, List.set_cons_succ] at h2
  have h3 := heap_put h2 3 (.int .i64 (d.kd))
  simp only [List.setIfInBounds_toArray, List.set_cons_zero, List.set_cons_succ] at h3
  have h4 := heap_put h3 4 (.int .i64 (d.bd))
  simp only [List.setIfInBounds_toArray, List.set_cons_zero, List.set_cons_succ] at h4
  have h5 := heap_put h4 5 (.int .i64 (d.x))
  simp only [List.setIfInBounds_toArray, List.set_cons_zero, List.set_cons_succ] at h5
  have h6 := heap_put h5 6 (.int .i64 (d.y))
  simp only [List.setIfInBounds_toArray, List.set_cons_zero, List.set_cons_succ] at h6
  have h7 := heap_put h6 7 (.int .i64 (d.z))
  simp only [List.setIfInBounds_toArray, List.set_cons_zero, List.set_cons_succ] at h7
  exact h7
theorem only_put {D : List Nat} {a w : World} {k : Nat} (hk : k ∈ D ∨ a.heap.size ≤ k) (h : Only D a w) (i : Nat) (v : Value) : Only D a (w.setCell ⟨k, i, none⟩ v) := h.setCell (p := ⟨k, i, none⟩) hk v
/-- Without what its kind has not. -/
def bareM (c : Cm) : Cm := ⟨c.tk, c.nm, c.sn, c.kd, if c.kd = 1 ∨ c.kd = 2 then c.bd else 0, if c.kd = 1 then c.x else 0, if c.kd = 1 then c.y else 0, if c.kd = 1 then c.z else 0⟩
set_option maxRecDepth 100000 in
set_option maxHeartbeats 2000000 in
theorem bareC_calls (c : Cm) (w : World) : Calls Tryd.prog 26 #[.agg #[.int .i64 (c.tk), .int .i64 (c.nm), .int .i64 (c.sn), .int .i64 (c.kd), .int .i64 (c.bd), .int .i64 (c.x), .int .i64 (c.y), .int .i64 (c.z)]] w fun e w' => e = .returned (.agg #[.int .i64 ((bareM c).tk), .int .i64 ((bareM c).nm), .int .i64 ((bareM c).sn), .int .i64 ((bareM c).kd), .int .i64 ((bareM c).bd), .int .i64 ((bareM c).x), .int .i64 ((bareM c).y), .int .i64 ((bareM c).z)]) ∧ Kept w w' := by
  obtain ⟨tk, nm, sn, kd, bd, x, y, z⟩ := c
  by_cases h1 : kd = 1
  · subst h1
    rw [show bareM ⟨tk, nm, sn, 1, bd, x, y, z⟩ = ⟨tk, nm, sn, 1, bd, x, y, z⟩ from rfl]
    go_enter Tryd.func26, Tryd.ntmps26
    go_wp2_with fail
    refine (hasBody_calls _ _).mono ?_
    rintro e w1 ⟨rfl, rfl⟩
    go_wp2_with fail
    refine (hasWay_calls _ _).mono ?_
    rintro e w1 ⟨rfl, rfl⟩
    go_wp2_with fail
    exact bodyPost_ret (v := .agg #[.int .i64 tk, .int .i64 nm, .int .i64 sn, .int .i64 1, .int .i64 bd, .int .i64 x, .int .i64 y, .int .i64 z]) (by simp [results, Tryd.results26, go_sem]) rfl ⟨rfl, ((Kept.refl _).alloc _ _).alloc _ _⟩
  by_cases h2 : kd = 2
  · subst h2
    clear h1
    rw [show bareM ⟨tk, nm, sn, 2, bd, x, y, z⟩ = ⟨tk, nm, sn, 2, bd, 0, 0, 0⟩ from rfl]
    go_enter Tryd.func26, Tryd.ntmps26
    go_wp2_with fail
    refine (hasBody_calls _ _).mono ?_
    rintro e w1 ⟨rfl, rfl⟩
    go_wp2_with fail
    refine (hasWay_calls _ _).mono ?_
    rintro e w1 ⟨rfl, rfl⟩
    go_wp2_with fail
    exact bodyPost_ret (v := .agg #[.int .i64 tk, .int .i64 nm, .int .i64 sn, .int .i64 2, .int .i64 bd, .int .i64 0, .int .i64 0, .int .i64 0]) (by simp [results, Tryd.results26, go_sem]) rfl ⟨rfl, ((Kept.refl _).alloc _ _).alloc _ _⟩
  · have e1 : decide (kd = 1 ∨ kd = 2) = false := by simp [h1, h2]
    have e2 : decide (kd = 1) = false := by simp [h1]
    rw [show bareM ⟨tk, nm, sn, kd, bd, x, y, z⟩ = ⟨tk, nm, sn, kd, 0, 0, 0, 0⟩ by unfold bareM; simp [h1, h2]]
    clear h1 h2
    go_enter Tryd.func26, Tryd.ntmps26
    go_wp2_with fail
    refine (hasBody_calls _ _).mono ?_
    rintro e w1 ⟨rfl, rfl⟩
    rw [e1]
    go_wp2_with fail
    refine (hasWay_calls _ _).mono ?_
    rintro e w1 ⟨rfl, rfl⟩
    rw [e2]
    go_wp2_with fail
    exact bodyPost_ret (v := .agg #[.int .i64 tk, .int .i64 nm, .int .i64 sn, .int .i64 kd, .int .i64 0, .int .i64 0, .int .i64 0, .int .i64 0]) (by simp [results, Tryd.results26, go_sem]) rfl ⟨rfl, ((Kept.refl _).alloc _ _).alloc _ _⟩
/-- Which commands may be asked; their bits. -/
def askOk (c : Cm) : Prop := inM 0 70368744177664 [c.tk, c.nm, c.sn, (bareM c).bd] = true ∧ inM (-6553600) 6553600 [(bareM c).x, (bareM c).y, (bareM c).z] = true
def askT (c : Cm) : List Nat := varsB [c.tk, c.nm, c.sn] ++ putsB 2 [c.kd] ++ (if c.kd = 1 ∨ c.kd = 2 then varsB [c.bd] else []) ++ (if c.kd = 1 then intsB [c.x, c.y, c.z] else [])
def AskPost (c : Cm) (w : World) (e : Ending) (w' : World) : Prop :=
  Only [] w w' ∧ ((¬ (0 ≤ c.kd ∧ c.kd ≤ 2) ∧ e = .returned (.tuple #[.slice none 0 0, errV 1])) ∨ ((0 ≤ c.kd ∧ c.kd ≤ 2) ∧ ¬ askOk c ∧ e = .returned (.tuple #[.slice none 0 0, errV 2])) ∨ ((0 ≤ c.kd ∧ c.kd ≤ 2) ∧ askOk c ∧ ∃ v, e = .returned (.tuple #[v, .nilIface]) ∧ Fresh w v (bytesOf (askT c)) w'))
theorem fresh_base {w w1 w2 : World} {v : Value} {L : List Nat} (h : Fresh w1 v L w2) (hs : w.heap.size ≤ w1.heap.size) : Fresh w v L w2 := by
  obtain ⟨g, c, h1, h2, h3⟩ := h
  exact ⟨g, c, h1, by omega, h3⟩
theorem wwriter_zero : Tryd.t74.zero = some (.agg (wcells [] ++ #[.nilIface])) := by
  rw [wcells_nil]
  kernel_rfl
theorem wwriter_new (w : World) : Sem.run Tryd.prog (zeroValue 74) w = .ok (.agg (wcells [] ++ #[.nilIface])) w := by
  have := Tryd.typeInfo74 w
  simp [zeroValue, this, wwriter_zero]
theorem WA.new (w : World) : WA (w.alloc (.cells ((wcells []).push .nilIface) 74)) w.heap.size [] := ⟨(MapKept.heap_alloc w _).1.trans (by simp), Bits.nil, by simp⟩
theorem inM_all {lo hi : Int} {xs : List Int} (h : inM lo hi xs = true) : ∀ n ∈ xs, lo ≤ n ∧ n ≤ hi := fun n hn => by
  have := List.all_eq_true.1 h n hn
  simpa using this
/-- While it is written. -/
structure AW (w : World) (k x : Nat) (c : Cm) (l : List Nat) (wr : World) : Prop where
  cm : CmAt 25 wr k c
  wa : WA wr x l
  hkx : k ≠ x
  hx : w.heap.size ≤ x
  only : Only [] w wr
theorem AW.nums {w : World} {k x : Nat} {c : Cm} {l : List Nat} {wr : World} (h : AW w k x c l wr) (o : Obj) : AW w k x c l (wr.alloc o) :=
  ⟨h.cm.only (D := []) ((Only.refl _ _).alloc _) (by simp), h.wa.only (D := []) ((Only.refl _ _).alloc _) (by simp), h.hkx, h.hx, h.only.alloc _⟩
theorem AW.put {w : World} {k x : Nat} {c : Cm} {l l' : List Nat} {wr w' : World} (h : AW w k x c l wr) (hw : WA w' x l') (o : Only [x] wr w') : AW w k x c l' w' :=
  ⟨h.cm.only o (by simpa using h.hkx), hw, h.hkx, h.hx, h.only.then o (fun b hb => by rw [List.mem_singleton.1 hb]; exact Or.inr h.hx)⟩
theorem varsB_len (xs : List Int) (h : ∀ n ∈ xs, ¬ badVar n) : (varsB xs).length ≤ 78 * xs.length := flat_len _ 78 _ (fun n hn => varB_78 (by have := h n hn; unfold badVar at this; omega))
theorem top_var {xs : List Int} (h : inM 0 70368744177664 xs = true) : ∀ n ∈ xs, ¬ badVar n := fun n hn => by have := inM_all h n hn; unfold badVar; omega
set_option maxRecDepth 100000 in
theorem ask_kind (c : Cm) (w : World) (h : ¬ (0 ≤ c.kd ∧ c.kd ≤ 2)) : Calls Tryd.prog 9 #[.agg #[.int .i64 (c.tk), .int .i64 (c.nm), .int .i64 (c.sn), .int .i64 (c.kd), .int .i64 (c.bd), .int .i64 (c.x), .int .i64 (c.y), .int .i64 (c.z)]] w (AskPost c w) := by
  have HN : Hid (¬ (0 ≤ c.kd ∧ c.kd ≤ 2)) := h
  have e0 : inM 0 2 [c.kd] = false := by simp [inM]; omega
  clear h
  go_enter Tryd.func9, Tryd.ntmps9
  go_wp2_with fail
  have H0 : Hid (Only [] w ((w.alloc (.cells #[.int .i64 (c.tk), .int .i64 (c.nm), .int .i64 (c.sn), .int .i64 (c.kd), .int .i64 (c.bd), .int .i64 (c.x), .int .i64 (c.y), .int .i64 (c.z)] 25)).alloc (.cells #[.int .i64 (c.kd)] 3))) := ((Only.refl _ _).alloc _).alloc _
  have h0 := NumsAt.new1 (w.alloc (.cells #[.int .i64 (c.tk), .int .i64 (c.nm), .int .i64 (c.sn), .int .i64 (c.kd), .int .i64 (c.bd), .int .i64 (c.x), .int .i64 (c.y), .int .i64 (c.z)] 25)) c.kd 3
  simp only [World.size_alloc] at h0
  revert h0 H0
  generalize w.heap.size + 1 = g
  generalize World.alloc (World.alloc w _) _ = w1
  intro H0 h0
  refine (within_calls 0 2 g [c.kd] _ w1 h0 (by simp)).mono ?_
  rintro e w2 ⟨rfl, rfl⟩
  rw [e0]
  clear h0
  go_wp2_with fail
  go_ret2
  exact ⟨H0.out, Or.inl ⟨HN.out, rfl⟩⟩
set_option maxRecDepth 100000 in
set_option maxHeartbeats 4000000 in
theorem ask_0 (tk nm sn bd x y z : Int) (w : World) : Calls Tryd.prog 9 #[.agg #[.int .i64 tk, .int .i64 nm, .int .i64 sn, .int .i64 0, .int .i64 bd, .int .i64 x, .int .i64 y, .int .i64 z]] w (AskPost ⟨tk, nm, sn, 0, bd, x, y, z⟩ w) := by
  have hz := wwriter_new
  have e0 : inM 0 2 [0] = true := by decide
  have HB : Hid (∀ u, Calls Tryd.prog 26 #[.agg #[.int .i64 tk, .int .i64 nm, .int .i64 sn, .int .i64 0, .int .i64 bd, .int .i64 x, .int .i64 y, .int .i64 z]] u fun e w' => e = .returned (.agg #[.int .i64 tk, .int .i64 nm, .int .i64 sn, .int .i64 0, .int .i64 0, .int .i64 0, .int .i64 0, .int .i64 0]) ∧ Kept u w') := fun u => bareC_calls ⟨tk, nm, sn, 0, bd, x, y, z⟩ u
  have HOK : Hid (askOk ⟨tk, nm, sn, 0, bd, x, y, z⟩ = (inM 0 70368744177664 [tk, nm, sn, 0] = true ∧ inM (-6553600) 6553600 [0, 0, 0] = true)) := rfl
  go_enter Tryd.func9, Tryd.ntmps9
  go_upto_region 1 with fail
  have H0 : Hid (CmAt 25 (w.alloc (.cells #[.int .i64 tk, .int .i64 nm, .int .i64 sn, .int .i64 0, .int .i64 bd, .int .i64 x, .int .i64 y, .int .i64 z] 25)) w.heap.size ⟨tk, nm, sn, 0, bd, x, y, z⟩ ∧ Only [] w (w.alloc (.cells #[.int .i64 tk, .int .i64 nm, .int .i64 sn, .int .i64 0, .int .i64 bd, .int .i64 x, .int .i64 y, .int .i64 z] 25))) := ⟨(MapKept.heap_alloc w _).1, (Only.refl _ _).alloc _⟩
  revert H0
  generalize hk : w.heap.size = k
  have HK : Hid (w.heap.size = k) := hk
  clear hk
  generalize World.alloc w _ = w1
  intro H0
  obtain ⟨c0, c1, c2, c3, c4, c5, c6, c7⟩ := H0.out.1.cells
  simp only at c0 c1 c2 c3 c4 c5 c6 c7
  go_wp2_with fail
  have H1 : Hid (CmAt 25 (w1.alloc (.cells #[.int .i64 0] 3)) k ⟨tk, nm, sn, 0, bd, x, y, z⟩ ∧ Only [] w (w1.alloc (.cells #[.int .i64 0] 3))) := ⟨H0.out.1.only (D := []) ((Only.refl _ _).alloc _) (by simp), H0.out.2.alloc _⟩
  have h0 := NumsAt.new1 w1 0 3
  revert h0 H1
  generalize w1.heap.size = g
  generalize World.alloc w1 _ = w2
  intro H1 h0
  refine (within_calls 0 2 g [0] _ w2 h0 (by simp)).mono ?_
  rintro e w2 ⟨rfl, rfl⟩
  rw [e0]
  clear h0 c0 c1 c2 c3 c4 c5 c6 c7 H0
  obtain ⟨c0, c1, c2, c3, c4, c5, c6, c7⟩ := H1.out.1.cells
  simp only at c0 c1 c2 c3 c4 c5 c6 c7
  go_wp2_with fail
  refine (HB.out w2).mono ?_
  rintro e w3 ⟨rfl, k3⟩
  have H2 : Hid (CmAt 25 w3 k ⟨tk, nm, sn, 0, bd, x, y, z⟩ ∧ Only [] w w3) := ⟨H1.out.1.only (D := []) (Only.of_kept k3) (by simp), H1.out.2.trans (Only.of_kept k3)⟩
  clear k3 c0 c1 c2 c3 c4 c5 c6 c7 H1
  obtain ⟨c0, c1, c2, c3, c4, c5, c6, c7⟩ := H2.out.1.cells
  simp only at c0 c1 c2 c3 c4 c5 c6 c7
  have f0 := H2.out.1.free 0; have f1 := H2.out.1.free 1; have f2 := H2.out.1.free 2; have f3 := H2.out.1.free 3
  have f4 := H2.out.1.free 4; have f5 := H2.out.1.free 5; have f6 := H2.out.1.free 6; have f7 := H2.out.1.free 7
  have H3 : Hid (CmAt 25 ((((((((w3.setCell ⟨k, 0, none⟩ (.int .i64 tk)).setCell ⟨k, 1, none⟩ (.int .i64 nm)).setCell ⟨k, 2, none⟩ (.int .i64 sn)).setCell ⟨k, 3, none⟩ (.int .i64 0)).setCell ⟨k, 4, none⟩ (.int .i64 0)).setCell ⟨k, 5, none⟩ (.int .i64 0)).setCell ⟨k, 6, none⟩ (.int .i64 0)).setCell ⟨k, 7, none⟩ (.int .i64 0)) k ⟨tk, nm, sn, 0, 0, 0, 0, 0⟩ ∧ Only [] w ((((((((w3.setCell ⟨k, 0, none⟩ (.int .i64 tk)).setCell ⟨k, 1, none⟩ (.int .i64 nm)).setCell ⟨k, 2, none⟩ (.int .i64 sn)).setCell ⟨k, 3, none⟩ (.int .i64 0)).setCell ⟨k, 4, none⟩ (.int .i64 0)).setCell ⟨k, 5, none⟩ (.int .i64 0)).setCell ⟨k, 6, none⟩ (.int .i64 0)).setCell ⟨k, 7, none⟩ (.int .i64 0))) :=
    ⟨H2.out.1.put8 ⟨tk, nm, sn, 0, 0, 0, 0, 0⟩, have hk := Or.inr (Nat.le_of_eq HK.out); only_put hk (only_put hk (only_put hk (only_put hk (only_put hk (only_put hk (only_put hk (only_put hk H2.out.2 _ _) _ _) _ _) _ _) _ _) _ _) _ _) _ _⟩
  clear H2
  go_upto_region 4 with fail
  clear c0 c1 c2 c3 c4 c5 c6 c7 f0 f1 f2 f3 f4 f5 f6 f7
  revert H3
  generalize World.setCell (World.setCell (World.setCell (World.setCell (World.setCell (World.setCell (World.setCell (World.setCell w3 _ _) _ _) _ _) _ _) _ _) _ _) _ _) _ _ = w4
  intro H3
  obtain ⟨c0, c1, c2, c3, c4, c5, c6, c7⟩ := H3.out.1.cells
  simp only at c0 c1 c2 c3 c4 c5 c6 c7
  go_wp2_with fail
  have H4 : Hid (CmAt 25 (w4.alloc (.cells #[.int .i64 tk, .int .i64 nm, .int .i64 sn, .int .i64 0] 3)) k ⟨tk, nm, sn, 0, 0, 0, 0, 0⟩ ∧ Only [] w (w4.alloc (.cells #[.int .i64 tk, .int .i64 nm, .int .i64 sn, .int .i64 0] 3))) := ⟨H3.out.1.only (D := []) ((Only.refl _ _).alloc _) (by simp), H3.out.2.alloc _⟩
  have h0 := NumsAt.new4 w4 tk nm sn (0) 3
  revert h0 H4
  generalize w4.heap.size = g
  generalize World.alloc w4 _ = w5
  intro H4 h0
  refine (within_calls 0 70368744177664 g [tk, nm, sn, 0] _ w5 h0 (by simp)).mono ?_
  rintro e w5 ⟨rfl, rfl⟩
  clear h0 c0 c1 c2 c3 c4 c5 c6 c7 H3
  by_cases hA : inM 0 70368744177664 [tk, nm, sn, 0] = true
  case neg =>
    have hA' : inM 0 70368744177664 [tk, nm, sn, 0] = false := by simpa using hA
    have HNO : Hid (¬ askOk ⟨tk, nm, sn, 0, bd, x, y, z⟩) := by rw [HOK.out]; exact fun q => hA q.1
    rw [hA']
    clear hA hA'
    go_wp2_with fail
    go_ret2
    exact ⟨H4.out.2, Or.inr (Or.inl ⟨⟨by simp, by simp⟩, HNO.out, rfl⟩)⟩
  have HA : Hid (inM 0 70368744177664 [tk, nm, sn, 0] = true) := hA
  rw [hA]
  clear hA
  obtain ⟨c0, c1, c2, c3, c4, c5, c6, c7⟩ := H4.out.1.cells
  simp only at c0 c1 c2 c3 c4 c5 c6 c7
  go_wp2_with fail
  have H5 : Hid (CmAt 25 (w5.alloc (.cells #[.int .i64 0, .int .i64 0, .int .i64 0] 3)) k ⟨tk, nm, sn, 0, 0, 0, 0, 0⟩ ∧ Only [] w (w5.alloc (.cells #[.int .i64 0, .int .i64 0, .int .i64 0] 3))) := ⟨H4.out.1.only (D := []) ((Only.refl _ _).alloc _) (by simp), H4.out.2.alloc _⟩
  have h0 := NumsAt.new3 w5 (0) (0) (0) 3
  revert h0 H5
  generalize w5.heap.size = g
  generalize World.alloc w5 _ = w6
  intro H5 h0
  refine (within_calls (-6553600) 6553600 g [0, 0, 0] _ w6 h0 (by simp)).mono ?_
  rintro e w6 ⟨rfl, rfl⟩
  clear h0 c0 c1 c2 c3 c4 c5 c6 c7 H4
  by_cases hB : inM (-6553600) 6553600 [0, 0, 0] = true
  case neg =>
    have hB' : inM (-6553600) 6553600 [0, 0, 0] = false := by simpa using hB
    have HNO : Hid (¬ askOk ⟨tk, nm, sn, 0, bd, x, y, z⟩) := by rw [HOK.out]; exact fun q => hB q.2
    rw [hB']
    clear hB hB'
    go_wp2_with fail
    go_ret2
    exact ⟨H5.out.2, Or.inr (Or.inl ⟨⟨by simp, by simp⟩, HNO.out, rfl⟩)⟩
  have HYES : Hid (askOk ⟨tk, nm, sn, 0, bd, x, y, z⟩) := by rw [HOK.out]; exact ⟨HA.out, hB⟩
  have HV : Hid (inM (-6553600) 6553600 [0, 0, 0] = true) := hB
  rw [hB]
  clear hB
  go_upto_region 7 with fail
  have H6 : Hid (AW w k w6.heap.size ⟨tk, nm, sn, 0, 0, 0, 0, 0⟩ [] (w6.alloc (.cells ((wcells []).push .nilIface) 74))) :=
    ⟨H5.out.1.only (D := []) ((Only.refl _ _).alloc _) (by simp), WA.new w6, by have := H5.out.1.lt; omega, H5.out.2.size, H5.out.2.alloc _⟩
  clear H5
  revert H6
  generalize w6.heap.size = xw
  generalize World.alloc w6 _ = w7
  intro H6
  obtain ⟨c0, c1, c2, c3, c4, c5, c6, c7⟩ := H6.out.cm.cells
  simp only at c0 c1 c2 c3 c4 c5 c6 c7
  go_wp2_with fail
  have HN : Hid (AW w k xw ⟨tk, nm, sn, 0, 0, 0, 0, 0⟩ ([]) (w7.alloc (.cells #[.int .i64 tk, .int .i64 nm, .int .i64 sn] 3))) := H6.out.nums _
  have h0 := NumsAt.new3 w7 (tk) (nm) (sn) 3
  have HG : Hid (w7.heap.size ≠ xw) := fun e => by have := H6.out.wa.lt; omega
  revert h0 HN HG
  generalize w7.heap.size = g
  generalize World.alloc w7 _ = w8
  intro HN h0 HG
  refine (varsW_calls xw _ g [tk, nm, sn] _ w8 HN.out.wa h0 HG.out (fun n hn => top_var HA.out n (by simp at hn ⊢; omega)) (by simp) (by simp)).mono ?_
  rintro e w9 ⟨rfl, h1, o1⟩
  have H7 : Hid (AW w k xw ⟨tk, nm, sn, 0, 0, 0, 0, 0⟩ ([] ++ varsB [tk, nm, sn]) w9) := HN.out.put h1 o1
  clear h0 h1 o1 HN HG c0 c1 c2 c3 c4 c5 c6 c7 H6
  have HL1 : Hid (([] ++ varsB [tk, nm, sn]).length ≤ 234) := by
    show _ ≤ _
    rw [List.nil_append]
    exact varsB_len _ (fun n hn => top_var HA.out n (by simp at hn ⊢; omega))
  obtain ⟨c0, c1, c2, c3, c4, c5, c6, c7⟩ := H7.out.cm.cells
  simp only at c0 c1 c2 c3 c4 c5 c6 c7
  go_wp2_with fail
  have HN : Hid (AW w k xw ⟨tk, nm, sn, 0, 0, 0, 0, 0⟩ ([] ++ varsB [tk, nm, sn]) (w9.alloc (.cells #[.int .i64 0] 3))) := H7.out.nums _
  have h0 := NumsAt.new1 w9 (0) 3
  have HG : Hid (w9.heap.size ≠ xw) := fun e => by have := H7.out.wa.lt; omega
  revert h0 HN HG
  generalize w9.heap.size = g
  generalize World.alloc w9 _ = w10
  intro HN h0 HG
  refine (putsW_calls xw _ 2 g [0] _ w10 HN.out.wa h0 HG.out (fun n hn => by rw [List.mem_singleton.1 hn]; unfold badPut; decide) (by have := HL1.out; simp at this ⊢; omega) (by simp)).mono ?_
  rintro e w11 ⟨rfl, h1, o1⟩
  have H8 : Hid (AW w k xw ⟨tk, nm, sn, 0, 0, 0, 0, 0⟩ ([] ++ varsB [tk, nm, sn] ++ putsB 2 [0]) w11) := HN.out.put h1 o1
  clear h0 h1 o1 HN HG c0 c1 c2 c3 c4 c5 c6 c7 H7
  have HL2 : Hid (([] ++ varsB [tk, nm, sn] ++ putsB 2 [0]).length ≤ 236) := by
    show _ ≤ _
    have := HL1.out
    rw [List.length_append, show (putsB 2 [0]).length = 2 from rfl]; omega
  obtain ⟨c0, c1, c2, c3, c4, c5, c6, c7⟩ := H8.out.cm.cells
  simp only at c0 c1 c2 c3 c4 c5 c6 c7
  go_wp2_with fail
  refine (hasBody_calls _ _).mono ?_
  rintro e w12 ⟨rfl, rfl⟩
  rw [show decide ((0 : Int) = 1 ∨ (0 : Int) = 2) = false by decide]
  go_wp2_with fail
  refine (hasWay_calls _ _).mono ?_
  rintro e w13 ⟨rfl, rfl⟩
  rw [show decide ((0 : Int) = 1) = false by decide]
  clear c0 c1 c2 c3 c4 c5 c6 c7
  go_wp2_with fail
  refine (allW_calls xw _ w13 H8.out.wa).mono ?_
  rintro e wz ⟨v, rfl, hf, oz⟩
  have HE : Hid (askT ⟨tk, nm, sn, 0, bd, x, y, z⟩ = [] ++ varsB [tk, nm, sn] ++ putsB 2 [0]) := by show _ = _; simp [askT]
  have HZ : Hid (Fresh w v (bytesOf (askT ⟨tk, nm, sn, 0, bd, x, y, z⟩)) wz ∧ Only [] w wz) := ⟨by rw [HE.out]; exact fresh_base hf H8.out.only.size, H8.out.only.trans oz⟩
  clear hf oz
  go_wp2_with fail
  go_ret2
  exact ⟨HZ.out.2, Or.inr (Or.inr ⟨⟨by simp, by simp⟩, HYES.out, v, rfl, HZ.out.1⟩)⟩
set_option maxRecDepth 100000 in
set_option maxHeartbeats 4000000 in
theorem ask_1 (tk nm sn bd x y z : Int) (w : World) : Calls Tryd.prog 9 #[.agg #[.int .i64 tk, .int .i64 nm, .int .i64 sn, .int .i64 1, .int .i64 bd, .int .i64 x, .int .i64 y, .int .i64 z]] w (AskPost ⟨tk, nm, sn, 1, bd, x, y, z⟩ w) := by
  have hz := wwriter_new
  have e0 : inM 0 2 [1] = true := by decide
  have HB : Hid (∀ u, Calls Tryd.prog 26 #[.agg #[.int .i64 tk, .int .i64 nm, .int .i64 sn, .int .i64 1, .int .i64 bd, .int .i64 x, .int .i64 y, .int .i64 z]] u fun e w' => e = .returned (.agg #[.int .i64 tk, .int .i64 nm, .int .i64 sn, .int .i64 1, .int .i64 bd, .int .i64 x, .int .i64 y, .int .i64 z]) ∧ Kept u w') := fun u => bareC_calls ⟨tk, nm, sn, 1, bd, x, y, z⟩ u
  have HOK : Hid (askOk ⟨tk, nm, sn, 1, bd, x, y, z⟩ = (inM 0 70368744177664 [tk, nm, sn, bd] = true ∧ inM (-6553600) 6553600 [x, y, z] = true)) := rfl
  go_enter Tryd.func9, Tryd.ntmps9
  go_upto_region 1 with fail
  have H0 : Hid (CmAt 25 (w.alloc (.cells #[.int .i64 tk, .int .i64 nm, .int .i64 sn, .int .i64 1, .int .i64 bd, .int .i64 x, .int .i64 y, .int .i64 z] 25)) w.heap.size ⟨tk, nm, sn, 1, bd, x, y, z⟩ ∧ Only [] w (w.alloc (.cells #[.int .i64 tk, .int .i64 nm, .int .i64 sn, .int .i64 1, .int .i64 bd, .int .i64 x, .int .i64 y, .int .i64 z] 25))) := ⟨(MapKept.heap_alloc w _).1, (Only.refl _ _).alloc _⟩
  revert H0
  generalize hk : w.heap.size = k
  have HK : Hid (w.heap.size = k) := hk
  clear hk
  generalize World.alloc w _ = w1
  intro H0
  obtain ⟨c0, c1, c2, c3, c4, c5, c6, c7⟩ := H0.out.1.cells
  simp only at c0 c1 c2 c3 c4 c5 c6 c7
  go_wp2_with fail
  have H1 : Hid (CmAt 25 (w1.alloc (.cells #[.int .i64 1] 3)) k ⟨tk, nm, sn, 1, bd, x, y, z⟩ ∧ Only [] w (w1.alloc (.cells #[.int .i64 1] 3))) := ⟨H0.out.1.only (D := []) ((Only.refl _ _).alloc _) (by simp), H0.out.2.alloc _⟩
  have h0 := NumsAt.new1 w1 1 3
  revert h0 H1
  generalize w1.heap.size = g
  generalize World.alloc w1 _ = w2
  intro H1 h0
  refine (within_calls 0 2 g [1] _ w2 h0 (by simp)).mono ?_
  rintro e w2 ⟨rfl, rfl⟩
  rw [e0]
  clear h0 c0 c1 c2 c3 c4 c5 c6 c7 H0
  obtain ⟨c0, c1, c2, c3, c4, c5, c6, c7⟩ := H1.out.1.cells
  simp only at c0 c1 c2 c3 c4 c5 c6 c7
  go_wp2_with fail
  refine (HB.out w2).mono ?_
  rintro e w3 ⟨rfl, k3⟩
  have H2 : Hid (CmAt 25 w3 k ⟨tk, nm, sn, 1, bd, x, y, z⟩ ∧ Only [] w w3) := ⟨H1.out.1.only (D := []) (Only.of_kept k3) (by simp), H1.out.2.trans (Only.of_kept k3)⟩
  clear k3 c0 c1 c2 c3 c4 c5 c6 c7 H1
  obtain ⟨c0, c1, c2, c3, c4, c5, c6, c7⟩ := H2.out.1.cells
  simp only at c0 c1 c2 c3 c4 c5 c6 c7
  have f0 := H2.out.1.free 0; have f1 := H2.out.1.free 1; have f2 := H2.out.1.free 2; have f3 := H2.out.1.free 3
  have f4 := H2.out.1.free 4; have f5 := H2.out.1.free 5; have f6 := H2.out.1.free 6; have f7 := H2.out.1.free 7
  have H3 : Hid (CmAt 25 ((((((((w3.setCell ⟨k, 0, none⟩ (.int .i64 tk)).setCell ⟨k, 1, none⟩ (.int .i64 nm)).setCell ⟨k, 2, none⟩ (.int .i64 sn)).setCell ⟨k, 3, none⟩ (.int .i64 1)).setCell ⟨k, 4, none⟩ (.int .i64 bd)).setCell ⟨k, 5, none⟩ (.int .i64 x)).setCell ⟨k, 6, none⟩ (.int .i64 y)).setCell ⟨k, 7, none⟩ (.int .i64 z)) k ⟨tk, nm, sn, 1, bd, x, y, z⟩ ∧ Only [] w ((((((((w3.setCell ⟨k, 0, none⟩ (.int .i64 tk)).setCell ⟨k, 1, none⟩ (.int .i64 nm)).setCell ⟨k, 2, none⟩ (.int .i64 sn)).setCell ⟨k, 3, none⟩ (.int .i64 1)).setCell ⟨k, 4, none⟩ (.int .i64 bd)).setCell ⟨k, 5, none⟩ (.int .i64 x)).setCell ⟨k, 6, none⟩ (.int .i64 y)).setCell ⟨k, 7, none⟩ (.int .i64 z))) :=
    ⟨H2.out.1.put8 ⟨tk, nm, sn, 1, bd, x, y, z⟩, have hk := Or.inr (Nat.le_of_eq HK.out); only_put hk (only_put hk (only_put hk (only_put hk (only_put hk (only_put hk (only_put hk (only_put hk H2.out.2 _ _) _ _) _ _) _ _) _ _) _ _) _ _) _ _⟩
  clear H2
  go_upto_region 4 with fail
  clear c0 c1 c2 c3 c4 c5 c6 c7 f0 f1 f2 f3 f4 f5 f6 f7
  revert H3
  generalize World.setCell (World.setCell (World.setCell (World.setCell (World.setCell (World.setCell (World.setCell (World.setCell w3 _ _) _ _) _ _) _ _) _ _) _ _) _ _) _ _ = w4
  intro H3
  obtain ⟨c0, c1, c2, c3, c4, c5, c6, c7⟩ := H3.out.1.cells
  simp only at c0 c1 c2 c3 c4 c5 c6 c7
  go_wp2_with fail
  have H4 : Hid (CmAt 25 (w4.alloc (.cells #[.int .i64 tk, .int .i64 nm, .int .i64 sn, .int .i64 bd] 3)) k ⟨tk, nm, sn, 1, bd, x, y, z⟩ ∧ Only [] w (w4.alloc (.cells #[.int .i64 tk, .int .i64 nm, .int .i64 sn, .int .i64 bd] 3))) := ⟨H3.out.1.only (D := []) ((Only.refl _ _).alloc _) (by simp), H3.out.2.alloc _⟩
  have h0 := NumsAt.new4 w4 tk nm sn (bd) 3
  revert h0 H4
  generalize w4.heap.size = g
  generalize World.alloc w4 _ = w5
  intro H4 h0
  refine (within_calls 0 70368744177664 g [tk, nm, sn, bd] _ w5 h0 (by simp)).mono ?_
  rintro e w5 ⟨rfl, rfl⟩
  clear h0 c0 c1 c2 c3 c4 c5 c6 c7 H3
  by_cases hA : inM 0 70368744177664 [tk, nm, sn, bd] = true
  case neg =>
    have hA' : inM 0 70368744177664 [tk, nm, sn, bd] = false := by simpa using hA
    have HNO : Hid (¬ askOk ⟨tk, nm, sn, 1, bd, x, y, z⟩) := by rw [HOK.out]; exact fun q => hA q.1
    rw [hA']
    clear hA hA'
    go_wp2_with fail
    go_ret2
    exact ⟨H4.out.2, Or.inr (Or.inl ⟨⟨by simp, by simp⟩, HNO.out, rfl⟩)⟩
  have HA : Hid (inM 0 70368744177664 [tk, nm, sn, bd] = true) := hA
  rw [hA]
  clear hA
  obtain ⟨c0, c1, c2, c3, c4, c5, c6, c7⟩ := H4.out.1.cells
  simp only at c0 c1 c2 c3 c4 c5 c6 c7
  go_wp2_with fail
  have H5 : Hid (CmAt 25 (w5.alloc (.cells #[.int .i64 x, .int .i64 y, .int .i64 z] 3)) k ⟨tk, nm, sn, 1, bd, x, y, z⟩ ∧ Only [] w (w5.alloc (.cells #[.int .i64 x, .int .i64 y, .int .i64 z] 3))) := ⟨H4.out.1.only (D := []) ((Only.refl _ _).alloc _) (by simp), H4.out.2.alloc _⟩
  have h0 := NumsAt.new3 w5 (x) (y) (z) 3
  revert h0 H5
  generalize w5.heap.size = g
  generalize World.alloc w5 _ = w6
  intro H5 h0
  refine (within_calls (-6553600) 6553600 g [x, y, z] _ w6 h0 (by simp)).mono ?_
  rintro e w6 ⟨rfl, rfl⟩
  clear h0 c0 c1 c2 c3 c4 c5 c6 c7 H4
  by_cases hB : inM (-6553600) 6553600 [x, y, z] = true
  case neg =>
    have hB' : inM (-6553600) 6553600 [x, y, z] = false := by simpa using hB
    have HNO : Hid (¬ askOk ⟨tk, nm, sn, 1, bd, x, y, z⟩) := by rw [HOK.out]; exact fun q => hB q.2
    rw [hB']
    clear hB hB'
    go_wp2_with fail
    go_ret2
    exact ⟨H5.out.2, Or.inr (Or.inl ⟨⟨by simp, by simp⟩, HNO.out, rfl⟩)⟩
  have HYES : Hid (askOk ⟨tk, nm, sn, 1, bd, x, y, z⟩) := by rw [HOK.out]; exact ⟨HA.out, hB⟩
  have HV : Hid (inM (-6553600) 6553600 [x, y, z] = true) := hB
  rw [hB]
  clear hB
  go_upto_region 7 with fail
  have H6 : Hid (AW w k w6.heap.size ⟨tk, nm, sn, 1, bd, x, y, z⟩ [] (w6.alloc (.cells ((wcells []).push .nilIface) 74))) :=
    ⟨H5.out.1.only (D := []) ((Only.refl _ _).alloc _) (by simp), WA.new w6, by have := H5.out.1.lt; omega, H5.out.2.size, H5.out.2.alloc _⟩
  clear H5
  revert H6
  generalize w6.heap.size = xw
  generalize World.alloc w6 _ = w7
  intro H6
  obtain ⟨c0, c1, c2, c3, c4, c5, c6, c7⟩ := H6.out.cm.cells
  simp only at c0 c1 c2 c3 c4 c5 c6 c7
  go_wp2_with fail
  have HN : Hid (AW w k xw ⟨tk, nm, sn, 1, bd, x, y, z⟩ ([]) (w7.alloc (.cells #[.int .i64 tk, .int .i64 nm, .int .i64 sn] 3))) := H6.out.nums _
  have h0 := NumsAt.new3 w7 (tk) (nm) (sn) 3
  have HG : Hid (w7.heap.size ≠ xw) := fun e => by have := H6.out.wa.lt; omega
  revert h0 HN HG
  generalize w7.heap.size = g
  generalize World.alloc w7 _ = w8
  intro HN h0 HG
  refine (varsW_calls xw _ g [tk, nm, sn] _ w8 HN.out.wa h0 HG.out (fun n hn => top_var HA.out n (by simp at hn ⊢; omega)) (by simp) (by simp)).mono ?_
  rintro e w9 ⟨rfl, h1, o1⟩
  have H7 : Hid (AW w k xw ⟨tk, nm, sn, 1, bd, x, y, z⟩ ([] ++ varsB [tk, nm, sn]) w9) := HN.out.put h1 o1
  clear h0 h1 o1 HN HG c0 c1 c2 c3 c4 c5 c6 c7 H6
  have HL1 : Hid (([] ++ varsB [tk, nm, sn]).length ≤ 234) := by
    show _ ≤ _
    rw [List.nil_append]
    exact varsB_len _ (fun n hn => top_var HA.out n (by simp at hn ⊢; omega))
  obtain ⟨c0, c1, c2, c3, c4, c5, c6, c7⟩ := H7.out.cm.cells
  simp only at c0 c1 c2 c3 c4 c5 c6 c7
  go_wp2_with fail
  have HN : Hid (AW w k xw ⟨tk, nm, sn, 1, bd, x, y, z⟩ ([] ++ varsB [tk, nm, sn]) (w9.alloc (.cells #[.int .i64 1] 3))) := H7.out.nums _
  have h0 := NumsAt.new1 w9 (1) 3
  have HG : Hid (w9.heap.size ≠ xw) := fun e => by have := H7.out.wa.lt; omega
  revert h0 HN HG
  generalize w9.heap.size = g
  generalize World.alloc w9 _ = w10
  intro HN h0 HG
  refine (putsW_calls xw _ 2 g [1] _ w10 HN.out.wa h0 HG.out (fun n hn => by rw [List.mem_singleton.1 hn]; unfold badPut; decide) (by have := HL1.out; simp at this ⊢; omega) (by simp)).mono ?_
  rintro e w11 ⟨rfl, h1, o1⟩
  have H8 : Hid (AW w k xw ⟨tk, nm, sn, 1, bd, x, y, z⟩ ([] ++ varsB [tk, nm, sn] ++ putsB 2 [1]) w11) := HN.out.put h1 o1
  clear h0 h1 o1 HN HG c0 c1 c2 c3 c4 c5 c6 c7 H7
  have HL2 : Hid (([] ++ varsB [tk, nm, sn] ++ putsB 2 [1]).length ≤ 236) := by
    show _ ≤ _
    have := HL1.out
    rw [List.length_append, show (putsB 2 [1]).length = 2 from rfl]; omega
  obtain ⟨c0, c1, c2, c3, c4, c5, c6, c7⟩ := H8.out.cm.cells
  simp only at c0 c1 c2 c3 c4 c5 c6 c7
  go_wp2_with fail
  refine (hasBody_calls _ _).mono ?_
  rintro e w12 ⟨rfl, rfl⟩
  rw [show decide ((1 : Int) = 1 ∨ (1 : Int) = 2) = true by decide]
  clear c0 c1 c2 c3 c4 c5 c6 c7
  obtain ⟨c0, c1, c2, c3, c4, c5, c6, c7⟩ := H8.out.cm.cells
  simp only at c0 c1 c2 c3 c4 c5 c6 c7
  go_wp2_with fail
  have HN : Hid (AW w k xw ⟨tk, nm, sn, 1, bd, x, y, z⟩ ([] ++ varsB [tk, nm, sn] ++ putsB 2 [1]) (w12.alloc (.cells #[.int .i64 bd] 3))) := H8.out.nums _
  have h0 := NumsAt.new1 w12 (bd) 3
  have HG : Hid (w12.heap.size ≠ xw) := fun e => by have := H8.out.wa.lt; omega
  revert h0 HN HG
  generalize w12.heap.size = g
  generalize World.alloc w12 _ = w13
  intro HN h0 HG
  refine (varsW_calls xw _ g [bd] _ w13 HN.out.wa h0 HG.out (fun n hn => top_var HA.out n (by rw [List.mem_singleton.1 hn]; simp)) (by have := HL2.out; simp at this ⊢; omega) (by simp)).mono ?_
  rintro e w14 ⟨rfl, h1, o1⟩
  have H9 : Hid (AW w k xw ⟨tk, nm, sn, 1, bd, x, y, z⟩ ([] ++ varsB [tk, nm, sn] ++ putsB 2 [1] ++ varsB [bd]) w14) := HN.out.put h1 o1
  clear h0 h1 o1 HN HG c0 c1 c2 c3 c4 c5 c6 c7 H8
  have HL3 : Hid (([] ++ varsB [tk, nm, sn] ++ putsB 2 [1] ++ varsB [bd]).length ≤ 314) := by
    show _ ≤ _
    have := HL2.out
    have h2 : (varsB [bd]).length ≤ 78 := varsB_len [bd] (fun n hn => top_var HA.out n (by rw [List.mem_singleton.1 hn]; simp))
    rw [List.length_append]; omega
  obtain ⟨c0, c1, c2, c3, c4, c5, c6, c7⟩ := H9.out.cm.cells
  simp only at c0 c1 c2 c3 c4 c5 c6 c7
  go_wp2_with fail
  refine (hasWay_calls _ _).mono ?_
  rintro e w15 ⟨rfl, rfl⟩
  rw [show decide ((1 : Int) = 1) = true by decide]
  clear c0 c1 c2 c3 c4 c5 c6 c7
  obtain ⟨c0, c1, c2, c3, c4, c5, c6, c7⟩ := H9.out.cm.cells
  simp only at c0 c1 c2 c3 c4 c5 c6 c7
  go_wp2_with fail
  have HN : Hid (AW w k xw ⟨tk, nm, sn, 1, bd, x, y, z⟩ ([] ++ varsB [tk, nm, sn] ++ putsB 2 [1] ++ varsB [bd]) (w15.alloc (.cells #[.int .i64 x, .int .i64 y, .int .i64 z] 3))) := H9.out.nums _
  have h0 := NumsAt.new3 w15 (x) (y) (z) 3
  have HG : Hid (w15.heap.size ≠ xw) := fun e => by have := H9.out.wa.lt; omega
  revert h0 HN HG
  generalize w15.heap.size = g
  generalize World.alloc w15 _ = w16
  intro HN h0 HG
  refine (intsW_calls xw _ g [x, y, z] _ w16 HN.out.wa h0 HG.out (fun n hn => by have := inM_all HV.out n hn; unfold badInt; omega) (by have := HL3.out; simp at this ⊢; omega) (by simp)).mono ?_
  rintro e w17 ⟨rfl, h1, o1⟩
  have H10 : Hid (AW w k xw ⟨tk, nm, sn, 1, bd, x, y, z⟩ ([] ++ varsB [tk, nm, sn] ++ putsB 2 [1] ++ varsB [bd] ++ intsB [x, y, z]) w17) := HN.out.put h1 o1
  clear h0 h1 o1 HN HG c0 c1 c2 c3 c4 c5 c6 c7 H9
  go_wp2_with fail
  refine (allW_calls xw _ w17 H10.out.wa).mono ?_
  rintro e wz ⟨v, rfl, hf, oz⟩
  have HE : Hid (askT ⟨tk, nm, sn, 1, bd, x, y, z⟩ = [] ++ varsB [tk, nm, sn] ++ putsB 2 [1] ++ varsB [bd] ++ intsB [x, y, z]) := by show _ = _; simp [askT]
  have HZ : Hid (Fresh w v (bytesOf (askT ⟨tk, nm, sn, 1, bd, x, y, z⟩)) wz ∧ Only [] w wz) := ⟨by rw [HE.out]; exact fresh_base hf H10.out.only.size, H10.out.only.trans oz⟩
  clear hf oz
  go_wp2_with fail
  go_ret2
  exact ⟨HZ.out.2, Or.inr (Or.inr ⟨⟨by simp, by simp⟩, HYES.out, v, rfl, HZ.out.1⟩)⟩
set_option maxRecDepth 100000 in
set_option maxHeartbeats 4000000 in
theorem ask_2 (tk nm sn bd x y z : Int) (w : World) : Calls Tryd.prog 9 #[.agg #[.int .i64 tk, .int .i64 nm, .int .i64 sn, .int .i64 2, .int .i64 bd, .int .i64 x, .int .i64 y, .int .i64 z]] w (AskPost ⟨tk, nm, sn, 2, bd, x, y, z⟩ w) := by
  have hz := wwriter_new
  have e0 : inM 0 2 [2] = true := by decide
  have HB : Hid (∀ u, Calls Tryd.prog 26 #[.agg #[.int .i64 tk, .int .i64 nm, .int .i64 sn, .int .i64 2, .int .i64 bd, .int .i64 x, .int .i64 y, .int .i64 z]] u fun e w' => e = .returned (.agg #[.int .i64 tk, .int .i64 nm, .int .i64 sn, .int .i64 2, .int .i64 bd, .int .i64 0, .int .i64 0, .int .i64 0]) ∧ Kept u w') := fun u => bareC_calls ⟨tk, nm, sn, 2, bd, x, y, z⟩ u
  have HOK : Hid (askOk ⟨tk, nm, sn, 2, bd, x, y, z⟩ = (inM 0 70368744177664 [tk, nm, sn, bd] = true ∧ inM (-6553600) 6553600 [0, 0, 0] = true)) := rfl
  go_enter Tryd.func9, Tryd.ntmps9
  go_upto_region 1 with fail
  have H0 : Hid (CmAt 25 (w.alloc (.cells #[.int .i64 tk, .int .i64 nm, .int .i64 sn, .int .i64 2, .int .i64 bd, .int .i64 x, .int .i64 y, .int .i64 z] 25)) w.heap.size ⟨tk, nm, sn, 2, bd, x, y, z⟩ ∧ Only [] w (w.alloc (.cells #[.int .i64 tk, .int .i64 nm, .int .i64 sn, .int .i64 2, .int .i64 bd, .int .i64 x, .int .i64 y, .int .i64 z] 25))) := ⟨(MapKept.heap_alloc w _).1, (Only.refl _ _).alloc _⟩
  revert H0
  generalize hk : w.heap.size = k
  have HK : Hid (w.heap.size = k) := hk
  clear hk
  generalize World.alloc w _ = w1
  intro H0
  obtain ⟨c0, c1, c2, c3, c4, c5, c6, c7⟩ := H0.out.1.cells
  simp only at c0 c1 c2 c3 c4 c5 c6 c7
  go_wp2_with fail
  have H1 : Hid (CmAt 25 (w1.alloc (.cells #[.int .i64 2] 3)) k ⟨tk, nm, sn, 2, bd, x, y, z⟩ ∧ Only [] w (w1.alloc (.cells #[.int .i64 2] 3))) := ⟨H0.out.1.only (D := []) ((Only.refl _ _).alloc _) (by simp), H0.out.2.alloc _⟩
  have h0 := NumsAt.new1 w1 2 3
  revert h0 H1
  generalize w1.heap.size = g
  generalize World.alloc w1 _ = w2
  intro H1 h0
  refine (within_calls 0 2 g [2] _ w2 h0 (by simp)).mono ?_
  rintro e w2 ⟨rfl, rfl⟩
  rw [e0]
  clear h0 c0 c1 c2 c3 c4 c5 c6 c7 H0
  obtain ⟨c0, c1, c2, c3, c4, c5, c6, c7⟩ := H1.out.1.cells
  simp only at c0 c1 c2 c3 c4 c5 c6 c7
  go_wp2_with fail
  refine (HB.out w2).mono ?_
  rintro e w3 ⟨rfl, k3⟩
  have H2 : Hid (CmAt 25 w3 k ⟨tk, nm, sn, 2, bd, x, y, z⟩ ∧ Only [] w w3) := ⟨H1.out.1.only (D := []) (Only.of_kept k3) (by simp), H1.out.2.trans (Only.of_kept k3)⟩
  clear k3 c0 c1 c2 c3 c4 c5 c6 c7 H1
  obtain ⟨c0, c1, c2, c3, c4, c5, c6, c7⟩ := H2.out.1.cells
  simp only at c0 c1 c2 c3 c4 c5 c6 c7
  have f0 := H2.out.1.free 0; have f1 := H2.out.1.free 1; have f2 := H2.out.1.free 2; have f3 := H2.out.1.free 3
  have f4 := H2.out.1.free 4; have f5 := H2.out.1.free 5; have f6 := H2.out.1.free 6; have f7 := H2.out.1.free 7
  have H3 : Hid (CmAt 25 ((((((((w3.setCell ⟨k, 0, none⟩ (.int .i64 tk)).setCell ⟨k, 1, none⟩ (.int .i64 nm)).setCell ⟨k, 2, none⟩ (.int .i64 sn)).setCell ⟨k, 3, none⟩ (.int .i64 2)).setCell ⟨k, 4, none⟩ (.int .i64 bd)).setCell ⟨k, 5, none⟩ (.int .i64 0)).setCell ⟨k, 6, none⟩ (.int .i64 0)).setCell ⟨k, 7, none⟩ (.int .i64 0)) k ⟨tk, nm, sn, 2, bd, 0, 0, 0⟩ ∧ Only [] w ((((((((w3.setCell ⟨k, 0, none⟩ (.int .i64 tk)).setCell ⟨k, 1, none⟩ (.int .i64 nm)).setCell ⟨k, 2, none⟩ (.int .i64 sn)).setCell ⟨k, 3, none⟩ (.int .i64 2)).setCell ⟨k, 4, none⟩ (.int .i64 bd)).setCell ⟨k, 5, none⟩ (.int .i64 0)).setCell ⟨k, 6, none⟩ (.int .i64 0)).setCell ⟨k, 7, none⟩ (.int .i64 0))) :=
    ⟨H2.out.1.put8 ⟨tk, nm, sn, 2, bd, 0, 0, 0⟩, have hk := Or.inr (Nat.le_of_eq HK.out); only_put hk (only_put hk (only_put hk (only_put hk (only_put hk (only_put hk (only_put hk (only_put hk H2.out.2 _ _) _ _) _ _) _ _) _ _) _ _) _ _) _ _⟩
  clear H2
  go_upto_region 4 with fail
  clear c0 c1 c2 c3 c4 c5 c6 c7 f0 f1 f2 f3 f4 f5 f6 f7
  revert H3
  generalize World.setCell (World.setCell (World.setCell (World.setCell (World.setCell (World.setCell (World.setCell (World.setCell w3 _ _) _ _) _ _) _ _) _ _) _ _) _ _) _ _ = w4
  intro H3
  obtain ⟨c0, c1, c2, c3, c4, c5, c6, c7⟩ := H3.out.1.cells
  simp only at c0 c1 c2 c3 c4 c5 c6 c7
  go_wp2_with fail
  have H4 : Hid (CmAt 25 (w4.alloc (.cells #[.int .i64 tk, .int .i64 nm, .int .i64 sn, .int .i64 bd] 3)) k ⟨tk, nm, sn, 2, bd, 0, 0, 0⟩ ∧ Only [] w (w4.alloc (.cells #[.int .i64 tk, .int .i64 nm, .int .i64 sn, .int .i64 bd] 3))) := ⟨H3.out.1.only (D := []) ((Only.refl _ _).alloc _) (by simp), H3.out.2.alloc _⟩
  have h0 := NumsAt.new4 w4 tk nm sn (bd) 3
  revert h0 H4
  generalize w4.heap.size = g
  generalize World.alloc w4 _ = w5
  intro H4 h0
  refine (within_calls 0 70368744177664 g [tk, nm, sn, bd] _ w5 h0 (by simp)).mono ?_
  rintro e w5 ⟨rfl, rfl⟩
  clear h0 c0 c1 c2 c3 c4 c5 c6 c7 H3
  by_cases hA : inM 0 70368744177664 [tk, nm, sn, bd] = true
  case neg =>
    have hA' : inM 0 70368744177664 [tk, nm, sn, bd] = false := by simpa using hA
    have HNO : Hid (¬ askOk ⟨tk, nm, sn, 2, bd, x, y, z⟩) := by rw [HOK.out]; exact fun q => hA q.1
    rw [hA']
    clear hA hA'
    go_wp2_with fail
    go_ret2
    exact ⟨H4.out.2, Or.inr (Or.inl ⟨⟨by simp, by simp⟩, HNO.out, rfl⟩)⟩
  have HA : Hid (inM 0 70368744177664 [tk, nm, sn, bd] = true) := hA
  rw [hA]
  clear hA
  obtain ⟨c0, c1, c2, c3, c4, c5, c6, c7⟩ := H4.out.1.cells
  simp only at c0 c1 c2 c3 c4 c5 c6 c7
  go_wp2_with fail
  have H5 : Hid (CmAt 25 (w5.alloc (.cells #[.int .i64 0, .int .i64 0, .int .i64 0] 3)) k ⟨tk, nm, sn, 2, bd, 0, 0, 0⟩ ∧ Only [] w (w5.alloc (.cells #[.int .i64 0, .int .i64 0, .int .i64 0] 3))) := ⟨H4.out.1.only (D := []) ((Only.refl _ _).alloc _) (by simp), H4.out.2.alloc _⟩
  have h0 := NumsAt.new3 w5 (0) (0) (0) 3
  revert h0 H5
  generalize w5.heap.size = g
  generalize World.alloc w5 _ = w6
  intro H5 h0
  refine (within_calls (-6553600) 6553600 g [0, 0, 0] _ w6 h0 (by simp)).mono ?_
  rintro e w6 ⟨rfl, rfl⟩
  clear h0 c0 c1 c2 c3 c4 c5 c6 c7 H4
  by_cases hB : inM (-6553600) 6553600 [0, 0, 0] = true
  case neg =>
    have hB' : inM (-6553600) 6553600 [0, 0, 0] = false := by simpa using hB
    have HNO : Hid (¬ askOk ⟨tk, nm, sn, 2, bd, x, y, z⟩) := by rw [HOK.out]; exact fun q => hB q.2
    rw [hB']
    clear hB hB'
    go_wp2_with fail
    go_ret2
    exact ⟨H5.out.2, Or.inr (Or.inl ⟨⟨by simp, by simp⟩, HNO.out, rfl⟩)⟩
  have HYES : Hid (askOk ⟨tk, nm, sn, 2, bd, x, y, z⟩) := by rw [HOK.out]; exact ⟨HA.out, hB⟩
  have HV : Hid (inM (-6553600) 6553600 [0, 0, 0] = true) := hB
  rw [hB]
  clear hB
  go_upto_region 7 with fail
  have H6 : Hid (AW w k w6.heap.size ⟨tk, nm, sn, 2, bd, 0, 0, 0⟩ [] (w6.alloc (.cells ((wcells []).push .nilIface) 74))) :=
    ⟨H5.out.1.only (D := []) ((Only.refl _ _).alloc _) (by simp), WA.new w6, by have := H5.out.1.lt; omega, H5.out.2.size, H5.out.2.alloc _⟩
  clear H5
  revert H6
  generalize w6.heap.size = xw
  generalize World.alloc w6 _ = w7
  intro H6
  obtain ⟨c0, c1, c2, c3, c4, c5, c6, c7⟩ := H6.out.cm.cells
  simp only at c0 c1 c2 c3 c4 c5 c6 c7
  go_wp2_with fail
  have HN : Hid (AW w k xw ⟨tk, nm, sn, 2, bd, 0, 0, 0⟩ ([]) (w7.alloc (.cells #[.int .i64 tk, .int .i64 nm, .int .i64 sn] 3))) := H6.out.nums _
  have h0 := NumsAt.new3 w7 (tk) (nm) (sn) 3
  have HG : Hid (w7.heap.size ≠ xw) := fun e => by have := H6.out.wa.lt; omega
  revert h0 HN HG
  generalize w7.heap.size = g
  generalize World.alloc w7 _ = w8
  intro HN h0 HG
  refine (varsW_calls xw _ g [tk, nm, sn] _ w8 HN.out.wa h0 HG.out (fun n hn => top_var HA.out n (by simp at hn ⊢; omega)) (by simp) (by simp)).mono ?_
  rintro e w9 ⟨rfl, h1, o1⟩
  have H7 : Hid (AW w k xw ⟨tk, nm, sn, 2, bd, 0, 0, 0⟩ ([] ++ varsB [tk, nm, sn]) w9) := HN.out.put h1 o1
  clear h0 h1 o1 HN HG c0 c1 c2 c3 c4 c5 c6 c7 H6
  have HL1 : Hid (([] ++ varsB [tk, nm, sn]).length ≤ 234) := by
    show _ ≤ _
    rw [List.nil_append]
    exact varsB_len _ (fun n hn => top_var HA.out n (by simp at hn ⊢; omega))
  obtain ⟨c0, c1, c2, c3, c4, c5, c6, c7⟩ := H7.out.cm.cells
  simp only at c0 c1 c2 c3 c4 c5 c6 c7
  go_wp2_with fail
  have HN : Hid (AW w k xw ⟨tk, nm, sn, 2, bd, 0, 0, 0⟩ ([] ++ varsB [tk, nm, sn]) (w9.alloc (.cells #[.int .i64 2] 3))) := H7.out.nums _
  have h0 := NumsAt.new1 w9 (2) 3
  have HG : Hid (w9.heap.size ≠ xw) := fun e => by have := H7.out.wa.lt; omega
  revert h0 HN HG
  generalize w9.heap.size = g
  generalize World.alloc w9 _ = w10
  intro HN h0 HG
  refine (putsW_calls xw _ 2 g [2] _ w10 HN.out.wa h0 HG.out (fun n hn => by rw [List.mem_singleton.1 hn]; unfold badPut; decide) (by have := HL1.out; simp at this ⊢; omega) (by simp)).mono ?_
  rintro e w11 ⟨rfl, h1, o1⟩
  have H8 : Hid (AW w k xw ⟨tk, nm, sn, 2, bd, 0, 0, 0⟩ ([] ++ varsB [tk, nm, sn] ++ putsB 2 [2]) w11) := HN.out.put h1 o1
  clear h0 h1 o1 HN HG c0 c1 c2 c3 c4 c5 c6 c7 H7
  have HL2 : Hid (([] ++ varsB [tk, nm, sn] ++ putsB 2 [2]).length ≤ 236) := by
    show _ ≤ _
    have := HL1.out
    rw [List.length_append, show (putsB 2 [2]).length = 2 from rfl]; omega
  obtain ⟨c0, c1, c2, c3, c4, c5, c6, c7⟩ := H8.out.cm.cells
  simp only at c0 c1 c2 c3 c4 c5 c6 c7
  go_wp2_with fail
  refine (hasBody_calls _ _).mono ?_
  rintro e w12 ⟨rfl, rfl⟩
  rw [show decide ((2 : Int) = 1 ∨ (2 : Int) = 2) = true by decide]
  clear c0 c1 c2 c3 c4 c5 c6 c7
  obtain ⟨c0, c1, c2, c3, c4, c5, c6, c7⟩ := H8.out.cm.cells
  simp only at c0 c1 c2 c3 c4 c5 c6 c7
  go_wp2_with fail
  have HN : Hid (AW w k xw ⟨tk, nm, sn, 2, bd, 0, 0, 0⟩ ([] ++ varsB [tk, nm, sn] ++ putsB 2 [2]) (w12.alloc (.cells #[.int .i64 bd] 3))) := H8.out.nums _
  have h0 := NumsAt.new1 w12 (bd) 3
  have HG : Hid (w12.heap.size ≠ xw) := fun e => by have := H8.out.wa.lt; omega
  revert h0 HN HG
  generalize w12.heap.size = g
  generalize World.alloc w12 _ = w13
  intro HN h0 HG
  refine (varsW_calls xw _ g [bd] _ w13 HN.out.wa h0 HG.out (fun n hn => top_var HA.out n (by rw [List.mem_singleton.1 hn]; simp)) (by have := HL2.out; simp at this ⊢; omega) (by simp)).mono ?_
  rintro e w14 ⟨rfl, h1, o1⟩
  have H9 : Hid (AW w k xw ⟨tk, nm, sn, 2, bd, 0, 0, 0⟩ ([] ++ varsB [tk, nm, sn] ++ putsB 2 [2] ++ varsB [bd]) w14) := HN.out.put h1 o1
  clear h0 h1 o1 HN HG c0 c1 c2 c3 c4 c5 c6 c7 H8
  have HL3 : Hid (([] ++ varsB [tk, nm, sn] ++ putsB 2 [2] ++ varsB [bd]).length ≤ 314) := by
    show _ ≤ _
    have := HL2.out
    have h2 : (varsB [bd]).length ≤ 78 := varsB_len [bd] (fun n hn => top_var HA.out n (by rw [List.mem_singleton.1 hn]; simp))
    rw [List.length_append]; omega
  obtain ⟨c0, c1, c2, c3, c4, c5, c6, c7⟩ := H9.out.cm.cells
  simp only at c0 c1 c2 c3 c4 c5 c6 c7
  go_wp2_with fail
  refine (hasWay_calls _ _).mono ?_
  rintro e w15 ⟨rfl, rfl⟩
  rw [show decide ((2 : Int) = 1) = false by decide]
  clear c0 c1 c2 c3 c4 c5 c6 c7
  go_wp2_with fail
  refine (allW_calls xw _ w15 H9.out.wa).mono ?_
  rintro e wz ⟨v, rfl, hf, oz⟩
  have HE : Hid (askT ⟨tk, nm, sn, 2, bd, x, y, z⟩ = [] ++ varsB [tk, nm, sn] ++ putsB 2 [2] ++ varsB [bd]) := by show _ = _; simp [askT]
  have HZ : Hid (Fresh w v (bytesOf (askT ⟨tk, nm, sn, 2, bd, x, y, z⟩)) wz ∧ Only [] w wz) := ⟨by rw [HE.out]; exact fresh_base hf H9.out.only.size, H9.out.only.trans oz⟩
  clear hf oz
  go_wp2_with fail
  go_ret2
  exact ⟨HZ.out.2, Or.inr (Or.inr ⟨⟨by simp, by simp⟩, HYES.out, v, rfl, HZ.out.1⟩)⟩
theorem ask_calls (c : Cm) (w : World) : Calls Tryd.prog 9 #[.agg #[.int .i64 (c.tk), .int .i64 (c.nm), .int .i64 (c.sn), .int .i64 (c.kd), .int .i64 (c.bd), .int .i64 (c.x), .int .i64 (c.y), .int .i64 (c.z)]] w (AskPost c w) := by
  by_cases h : 0 ≤ c.kd ∧ c.kd ≤ 2
  · obtain ⟨tk, nm, sn, kd, bd, x, y, z⟩ := c
    simp only at h
    rcases (show kd = 0 ∨ kd = 1 ∨ kd = 2 by omega) with rfl | rfl | rfl
    · exact ask_0 tk nm sn bd x y z w
    · exact ask_1 tk nm sn bd x y z w
    · exact ask_2 tk nm sn bd x y z w
  · exact ask_kind c w h
end Go.Proofs.YtbiaajncngldlaaDoor
