/- (solve.meeting).part: two taken apart: whatever the meeting. -/
import Derived.Test.YtpegjobehdihbaaSv6
namespace Go.Proofs.Ytpegjobehdihbaa
open Go.ChangeShapes Go.WideShapes Go.ChangeAt Go.RowKit
set_option linter.unusedVariables false
set_option linter.unusedSimpArgs false

def MtAt (w : World) (kx g i k : Nat) (x y al : Int) (v : V3) (dp : Int) : Prop := w.heap[kx]? = some (.cells #[.pointer (some ⟨g, i * 17, none⟩), .pointer (some ⟨g, k * 17, none⟩), .int .i64 x, .int .i64 y, .int .i64 al, .int .i64 (v.x), .int .i64 (v.y), .int .i64 (v.z), .int .i64 dp] 49)
theorem MtAt.off {w : World} {kx g i k : Nat} {x y al : Int} {v : V3} {dp : Int} (h : MtAt w kx g i k x y al v dp) (j : Nat) : w.cell? ⟨kx, j, none⟩ = (#[.pointer (some ⟨g, i * 17, none⟩), .pointer (some ⟨g, k * 17, none⟩), .int .i64 x, .int .i64 y, .int .i64 al, .int .i64 (v.x), .int .i64 (v.y), .int .i64 (v.z), .int .i64 dp] : Array Value)[j]? := by
  unfold MtAt at h; simp [World.cell?, h]
theorem MtAt.only {D : List Nat} {w w' : World} {kx g i k : Nat} {x y al : Int} {v : V3} {dp : Int} (h : MtAt w kx g i k x y al v dp) (o : Only D w w') (s : kx ∉ D) : MtAt w' kx g i k x y al v dp := (o.block kx (Array.getElem?_eq_some_iff.1 h).1 s).trans h
def VecAt (w : World) (b : Nat) (x y z : Int) : Prop := w.heap[b]? = some (.cells #[.int .i64 x, .int .i64 y, .int .i64 z] 26)
theorem VecAt.off {w : World} {b : Nat} {x y z : Int} (h : VecAt w b x y z) (j : Nat) : w.cell? ⟨b, j, none⟩ = (#[.int .i64 x, .int .i64 y, .int .i64 z] : Array Value)[j]? := by
  unfold VecAt at h; simp [World.cell?, h]
theorem VecAt.only {D : List Nat} {w w' : World} {b : Nat} {x y z : Int} (h : VecAt w b x y z) (o : Only D w w') (s : b ∉ D) : VecAt w' b x y z := (o.block b (Array.getElem?_eq_some_iff.1 h).1 s).trans h
theorem bc_upd (B : Nat → Bd) (i : Nat) (b : Bd) (j k : Nat) : bc (upd B i b j) k = if j = i then bc b k else bc (B j) k := by
  unfold upd; split <;> rfl
def RowF (w : World) (g n : Nat) (F : Nat → Nat → Value) : Prop := ∃ cur : Array Value, w.heap[g]? = some (.cells cur 30 (0, 0)) ∧ ∀ j, j < n → ∀ k, k < 17 → cur[j * 17 + k]? = some (F j k)
theorem RowF.set {w : World} {g n : Nat} {F : Nat → Nat → Value} (h : RowF w g n F) {i k0 : Nat} (hi : i < n) (hk : k0 < 17) (v : Value) : RowF (w.setCell ⟨g, i * 17 + k0, none⟩ v) g n (fun j k => if j = i ∧ k = k0 then v else F j k) := by
  obtain ⟨cur, hb, hc⟩ := h
  refine ⟨cur.setIfInBounds (i * 17 + k0) v, ?_, fun j hj k hk' => ?_⟩
  · simp [World.setCell, Array.getElem?_modify, hb]
  · have h0 := hc j hj k hk'
    have hl := (Array.getElem?_eq_some_iff.1 h0).1
    rw [Array.getElem?_setIfInBounds]
    by_cases e : j = i ∧ k = k0
    · obtain ⟨rfl, rfl⟩ := e
      simp [hl]
    · have : ¬ i * 17 + k0 = j * 17 + k := fun q => e ⟨by omega, by omega⟩
      rw [if_neg this]; simp only [if_neg e]; exact h0
theorem RowF.congr {w : World} {g n : Nat} {F G : Nat → Nat → Value} (h : RowF w g n F) (e : ∀ j k, j < n → k < 17 → F j k = G j k) : RowF w g n G := by
  obtain ⟨cur, hb, hc⟩ := h
  exact ⟨cur, hb, fun j hj k hk => by rw [← e j k hj hk]; exact hc j hj k hk⟩
/-- A place stored into a body of a slice. -/
theorem OwnB.putAt {w : World} {g n : Nat} {B : Nat → Bd} (h : OwnB w g n B) {i : Nat} (hi : i < n) (x y z : Int) :
    OwnB (((w.setCell ⟨g, i * 17 + 6, none⟩ (.int .i64 x)).setCell ⟨g, i * 17 + 6 + 1, none⟩ (.int .i64 y)).setCell ⟨g, i * 17 + 6 + 2, none⟩ (.int .i64 z)) g n (upd B i (atX (B i) x y z)) := by
  have h1 := ((RowF.set (F := fun j k => bc (B j) k) h hi (show 6 < 17 by omega) (.int .i64 x)).set hi (show 7 < 17 by omega) (.int .i64 y)).set hi (show 8 < 17 by omega) (.int .i64 z)
  refine RowF.congr h1 (fun j k hj hk => ?_)
  by_cases e : j = i
  · subst e
    rw [bc_upd, if_pos rfl]
    match k, hk with
    | 0, _ => simp [bc, atX]
    | 1, _ => simp [bc, atX]
    | 2, _ => simp [bc, atX]
    | 3, _ => simp [bc, atX]
    | 4, _ => simp [bc, atX]
    | 5, _ => simp [bc, atX]
    | 6, _ => simp [bc, atX]
    | 7, _ => simp [bc, atX]
    | 8, _ => simp [bc, atX]
    | 9, _ => simp [bc, atX]
    | 10, _ => simp [bc, atX]
    | 11, _ => simp [bc, atX]
    | 12, _ => simp [bc, atX]
    | 13, _ => simp [bc, atX]
    | 14, _ => simp [bc, atX]
    | 15, _ => simp [bc, atX]
    | 16, _ => simp [bc, atX]
    | k + 17, h => exact absurd h (by omega)
  · rw [bc_upd]; simp [e]
/-- A speed stored into a body of a slice. -/
theorem OwnB.putSp {w : World} {g n : Nat} {B : Nat → Bd} (h : OwnB w g n B) {i : Nat} (hi : i < n) (x y z : Int) :
    OwnB (((w.setCell ⟨g, i * 17 + 9, none⟩ (.int .i64 x)).setCell ⟨g, i * 17 + 9 + 1, none⟩ (.int .i64 y)).setCell ⟨g, i * 17 + 9 + 2, none⟩ (.int .i64 z)) g n (upd B i (spX (B i) x y z)) := by
  have h1 := ((RowF.set (F := fun j k => bc (B j) k) h hi (show 9 < 17 by omega) (.int .i64 x)).set hi (show 10 < 17 by omega) (.int .i64 y)).set hi (show 11 < 17 by omega) (.int .i64 z)
  refine RowF.congr h1 (fun j k hj hk => ?_)
  by_cases e : j = i
  · subst e
    rw [bc_upd, if_pos rfl]
    match k, hk with
    | 0, _ => simp [bc, spX]
    | 1, _ => simp [bc, spX]
    | 2, _ => simp [bc, spX]
    | 3, _ => simp [bc, spX]
    | 4, _ => simp [bc, spX]
    | 5, _ => simp [bc, spX]
    | 6, _ => simp [bc, spX]
    | 7, _ => simp [bc, spX]
    | 8, _ => simp [bc, spX]
    | 9, _ => simp [bc, spX]
    | 10, _ => simp [bc, spX]
    | 11, _ => simp [bc, spX]
    | 12, _ => simp [bc, spX]
    | 13, _ => simp [bc, spX]
    | 14, _ => simp [bc, spX]
    | 15, _ => simp [bc, spX]
    | 16, _ => simp [bc, spX]
    | k + 17, h => exact absurd h (by omega)
  · rw [bc_upd]; simp [e]
theorem quo5 (z : Int) (h : -70368744177664 ≤ z) (h' : z ≤ 70368744177664) : IntKind.i64.wrap (z.tdiv 5) = z.tdiv 5 := by
  have hb : -70368744177664 ≤ z.tdiv 5 ∧ z.tdiv 5 ≤ 70368744177664 := by
    rcases Int.le_total 0 z with q | q
    · rw [Int.tdiv_eq_ediv_of_nonneg q]; omega
    · obtain ⟨y, rfl⟩ : ∃ y, z = -y := ⟨-z, by omega⟩
      rw [Int.neg_tdiv, Int.tdiv_eq_ediv_of_nonneg (by omega)]; omega
  rw [IntKind.wrap_i64]; omega
theorem bound_place : bound 65536000 = 65536000 := by decide
set_option maxRecDepth 100000 in
set_option maxHeartbeats 4000000 in
theorem part_calls (g n i k : Nat) (x y al : Int) (v : V3) (dp : Int) (B : Nat → Bd) (w : World) (h : OwnB w g n B) (hi : i < n) (hk : k < n) :
    Calls Try.prog 16 #[.agg #[.pointer (some ⟨g, i * 17, none⟩), .pointer (some ⟨g, k * 17, none⟩), .int .i64 x, .int .i64 y, .int .i64 al, .int .i64 (v.x), .int .i64 (v.y), .int .i64 (v.z), .int .i64 dp]] w fun e w' => e = .returned (.tuple #[]) ∧ OwnB w' g n (partX B i k x y al v dp) ∧ Only [g] w w' ∧ (∀ s, SizeAt w g s → SizeAt w' g s) := by
  have HO : Hid (OwnB w g n B ∧ i < n ∧ k < n) := ⟨h, hi, hk⟩
  clear h hi hk
  go_enter Try.func16, Try.ntmps16
  go_upto_region 1 with fail
  have H0 : Hid (Only [] w (w.alloc (.cells #[.pointer (some ⟨g, i * 17, none⟩), .pointer (some ⟨g, k * 17, none⟩), .int .i64 x, .int .i64 y, .int .i64 al, .int .i64 (v.x), .int .i64 (v.y), .int .i64 (v.z), .int .i64 dp] 49)) ∧ MtAt (w.alloc (.cells #[.pointer (some ⟨g, i * 17, none⟩), .pointer (some ⟨g, k * 17, none⟩), .int .i64 x, .int .i64 y, .int .i64 al, .int .i64 (v.x), .int .i64 (v.y), .int .i64 (v.z), .int .i64 dp] 49)) w.heap.size g i k x y al v dp) := ⟨(Only.refl [] w).alloc _, (MapKept.heap_alloc w _).1⟩
  revert H0
  generalize hkx : w.heap.size = kx
  generalize World.alloc w _ = w1
  intro H0
  have HX : Hid (w.heap.size = kx) := hkx
  clear hkx
  have HK : Hid (∀ w', Kept w1 w' → Kept w1 w' ∧ w'.cell? ⟨kx, 4, none⟩ = some (.int .i64 al) ∧ w'.cell? ⟨kx, 8, none⟩ = some (.int .i64 dp)) := fun w' o => ⟨o, kept_cell o (H0.out.2.off 4), kept_cell o (H0.out.2.off 8)⟩
  refine wp_region_held_drew (S := (fun w' => Kept w1 w' ∧ w'.cell? ⟨kx, 4, none⟩ = some (.int .i64 al) ∧ w'.cell? ⟨kx, 8, none⟩ = some (.int .i64 dp))) (by kernel_rfl) ?_ (fun hHeld1 => ?_)
  · (try dsimp only); exact HK.out _ (Kept.refl _).drew
  refine tkW 0 rfl ?_; refine tkW 1 rfl ?_; refine tkW 4 rfl ?_; refine tkW 5 rfl ?_
  try simp only [Act.put, List.setIfInBounds_toArray, List.set_cons_zero, List.set_cons_succ, List.getElem_toArray, List.getElem_cons_succ, List.getElem_cons_zero]
  refine wpAnyH_ready (rs := [2]) (by kernel_rfl) (by simp) ?_
  refine AllReadyH.cons rfl (fun K hK => ?_) AllReadyH.nil
  first | (with_reducible refine iteYes ?hcx ?htx; case hcx => kernel_rfl) | rw [if_pos (by rfl)]
  simp only [List.getElem_toArray, List.getElem_cons_succ, List.getElem_cons_zero]
  go_simp
  (go_at_call 31; refine (sub_calls _ _ _).mono ?_; rintro e w2 ⟨rfl, k2⟩)
  try go_wp2_with fail
  refine hK.out _ _ ?_ (fun hHeld2 => ?_)
  · (try dsimp only); exact HK.out _ ((Kept.refl w1).drew.trans k2)
  clear hK K hHeld1
  try simp only [Act.put, List.setIfInBounds_toArray, List.set_cons_zero, List.set_cons_succ, List.getElem_toArray, List.getElem_cons_succ, List.getElem_cons_zero]
  have hq5 := quo5 (sub dp 655) (cut_ge _) (cut_le _)
  refine tkW (v := .int .i64 ((sub dp 655).tdiv 5)) 3 rfl ?_ (by intro w'' hSw; (try dsimp only at hSw); simp only [List.getElem_toArray, List.getElem_cons_succ, List.getElem_cons_zero]; (go_simp <;> rfl))
  try simp only [Act.put, List.setIfInBounds_toArray, List.set_cons_zero, List.set_cons_succ, List.getElem_toArray, List.getElem_cons_succ, List.getElem_cons_zero]
  refine wpAnyH_ready (rs := [6]) (by kernel_rfl) (by simp) ?_
  refine AllReadyH.cons rfl (fun K hK => ?_) AllReadyH.nil
  first | (with_reducible refine iteYes ?hcx ?htx; case hcx => kernel_rfl) | rw [if_pos (by rfl)]
  simp only [List.getElem_toArray, List.getElem_cons_succ, List.getElem_cons_zero]
  go_simp
  (go_at_call 24; refine (div_calls _ _ _).mono ?_; rintro e w3 ⟨rfl, k3⟩)
  try go_wp2_with fail
  refine hK.out _ _ ?_ (fun hHeld3 => ?_)
  · (try dsimp only); exact HK.out _ (((Kept.refl w1).drew.trans k2).trans k3)
  clear hK K hHeld2
  try simp only [Act.put, List.setIfInBounds_toArray, List.set_cons_zero, List.set_cons_succ, List.getElem_toArray, List.getElem_cons_succ, List.getElem_cons_zero]
  refine tkW 7 rfl ?_
  try simp only [Act.put, List.setIfInBounds_toArray, List.set_cons_zero, List.set_cons_succ, List.getElem_toArray, List.getElem_cons_succ, List.getElem_cons_zero]
  refine wpAnyH_done (by kernel_rfl) ?_ _
  have K3 : Hid (Kept w1 w3) := ((Kept.refl w1).drew.trans k2).trans k3
  clear hHeld3 HK k2 k3 hq5
  have HD : Hid (div ((sub dp 655).tdiv 5) al = deepX dp al) := rfl
  generalize hdd : div ((sub dp 655).tdiv 5) al = dd at HD ⊢
  clear hdd
  have q0 := kept_cell K3.out (H0.out.2.off 0); have q1 := kept_cell K3.out (H0.out.2.off 1); have q2 := kept_cell K3.out (H0.out.2.off 2); have q3 := kept_cell K3.out (H0.out.2.off 3); have q4 := kept_cell K3.out (H0.out.2.off 4); have q5 := kept_cell K3.out (H0.out.2.off 5); have q6 := kept_cell K3.out (H0.out.2.off 6); have q7 := kept_cell K3.out (H0.out.2.off 7); have q8 := kept_cell K3.out (H0.out.2.off 8)
  go_wp2_with fail
  refine (split_calls _ _ _ _ _ _ _ _ _ _ _ _ _ _).mono ?_
  rintro e w4 ⟨rfl, k4⟩
  have K4 : Hid (Kept w1 w4) := K3.out.trans k4
  clear k4 q0 q1 q2 q3 q4 q5 q6 q7 q8 K3
  go_upto_region 3 with fail
  have H5 : Hid (Only [] w1 ((w4.alloc (.cells #[.int .i64 (mul v.x (mul dd x)), .int .i64 (mul v.y (mul dd x)), .int .i64 (mul v.z (mul dd x))] 26)).alloc (.cells #[.int .i64 (mul v.x (mul dd y)), .int .i64 (mul v.y (mul dd y)), .int .i64 (mul v.z (mul dd y))] 26)) ∧ VecAt ((w4.alloc (.cells #[.int .i64 (mul v.x (mul dd x)), .int .i64 (mul v.y (mul dd x)), .int .i64 (mul v.z (mul dd x))] 26)).alloc (.cells #[.int .i64 (mul v.x (mul dd y)), .int .i64 (mul v.y (mul dd y)), .int .i64 (mul v.z (mul dd y))] 26)) w4.heap.size (mul v.x (mul dd x)) (mul v.y (mul dd x)) (mul v.z (mul dd x)) ∧ VecAt ((w4.alloc (.cells #[.int .i64 (mul v.x (mul dd x)), .int .i64 (mul v.y (mul dd x)), .int .i64 (mul v.z (mul dd x))] 26)).alloc (.cells #[.int .i64 (mul v.x (mul dd y)), .int .i64 (mul v.y (mul dd y)), .int .i64 (mul v.z (mul dd y))] 26)) (w4.heap.size + 1) (mul v.x (mul dd y)) (mul v.y (mul dd y)) (mul v.z (mul dd y)) ∧ w1.heap.size ≤ w4.heap.size ∧ w1.heap.size ≤ w4.heap.size + 1) := by
    have h1 : Only [] w1 w4 := Only.of_kept K4.out
    have hs : (w4.alloc (.cells #[.int .i64 (mul v.x (mul dd x)), .int .i64 (mul v.y (mul dd x)), .int .i64 (mul v.z (mul dd x))] 26)).heap.size = w4.heap.size + 1 := by simp
    have hb := (MapKept.heap_alloc (w4.alloc (.cells #[.int .i64 (mul v.x (mul dd x)), .int .i64 (mul v.y (mul dd x)), .int .i64 (mul v.z (mul dd x))] 26)) (.cells #[.int .i64 (mul v.x (mul dd y)), .int .i64 (mul v.y (mul dd y)), .int .i64 (mul v.z (mul dd y))] 26)).1
    rw [hs] at hb
    exact ⟨(h1.alloc _).alloc _, VecAt.only (MapKept.heap_alloc w4 _).1 ((Only.refl [] _).alloc _) (by simp), hb, h1.size, Nat.le_trans h1.size (Nat.le_succ _)⟩
  clear K4
  revert H5
  generalize w4.heap.size + 1 = rb
  generalize w4.heap.size = ra
  generalize World.alloc (World.alloc w4 _) _ = w5
  intro H5
  have HB5 : Hid (OwnB w5 g n B ∧ MtAt w5 kx g i k x y al v dp ∧ g ≠ kx ∧ g ≠ ra ∧ g ≠ rb) := by
    have hg := HO.out.1.lt
    have hx := HX.out
    have h1 := H0.out.1.size
    have h2 := H5.out.2.2.2
    exact ⟨HO.out.1.only (H0.out.1.trans H5.out.1) (by simp), H0.out.2.only H5.out.1 (by simp), by omega, by omega, by omega⟩
  have HNE : Hid (ra ≠ g ∧ rb ≠ g ∧ VecAt w5 rb (mul v.x (mul dd y)) (mul v.y (mul dd y)) (mul v.z (mul dd y))) := ⟨fun e => HB5.out.2.2.2.1 e.symm, fun e => HB5.out.2.2.2.2 e.symm, H5.out.2.2.1⟩
  have HB6 : Hid (OwnB w5 g n B ∧ MtAt w5 kx g i k x y al v dp ∧ kx ≠ g ∧ VecAt w5 ra (mul v.x (mul dd x)) (mul v.y (mul dd x)) (mul v.z (mul dd x))) := ⟨HB5.out.1, HB5.out.2.1, fun e => HB5.out.2.2.1 e.symm, H5.out.2.1⟩
  obtain ⟨bi, hbi⟩ : ∃ bi, bi = B i := ⟨_, rfl⟩
  have HBI : Hid (bi = B i) := hbi
  clear hbi
  have HK : Hid (∀ w', Only [g] w5 w' → Only [g] w5 w' ∧ w'.cell? ⟨kx, 0, none⟩ = some (.pointer (some ⟨g, i * 17, none⟩)) ∧ w'.cell? ⟨ra, 0, none⟩ = some (.int .i64 (mul v.x (mul dd x))) ∧ w'.cell? ⟨ra, 1, none⟩ = some (.int .i64 (mul v.y (mul dd x))) ∧ w'.cell? ⟨ra, 2, none⟩ = some (.int .i64 (mul v.z (mul dd x)))) := fun w' o =>
    ⟨o, cell_only o (HB6.out.2.1.off 0) (by simp only [List.mem_singleton]; exact HB6.out.2.2.1), cell_only o (HB6.out.2.2.2.off 0) (by simp only [List.mem_singleton]; exact HNE.out.1), cell_only o (HB6.out.2.2.2.off 1) (by simp only [List.mem_singleton]; exact HNE.out.1), cell_only o (HB6.out.2.2.2.off 2) (by simp only [List.mem_singleton]; exact HNE.out.1)⟩
  have c6 := HB6.out.1.cell HO.out.2.1 (show 6 < 17 by omega); have c7 := HB6.out.1.cell HO.out.2.1 (show 7 < 17 by omega); have c8 := HB6.out.1.cell HO.out.2.1 (show 8 < 17 by omega)
  rw [← HBI.out] at c6 c7 c8
  simp only [bc] at c6 c7 c8
  refine wp_region_held_drew (S := (fun w' => Only [g] w5 w' ∧ w'.cell? ⟨kx, 0, none⟩ = some (.pointer (some ⟨g, i * 17, none⟩)) ∧ w'.cell? ⟨ra, 0, none⟩ = some (.int .i64 (mul v.x (mul dd x))) ∧ w'.cell? ⟨ra, 1, none⟩ = some (.int .i64 (mul v.y (mul dd x))) ∧ w'.cell? ⟨ra, 2, none⟩ = some (.int .i64 (mul v.z (mul dd x))))) (by kernel_rfl) ?_ (fun hHeld1 => ?_)
  · (try dsimp only); exact HK.out _ (Only.refl _ _).drew
  refine tkW 0 rfl ?_; refine tkW 1 rfl ?_; refine tkW 2 rfl ?_; refine tkW 3 rfl ?_
  try simp only [Act.put, List.setIfInBounds_toArray, List.set_cons_zero, List.set_cons_succ, List.getElem_toArray, List.getElem_cons_succ, List.getElem_cons_zero]
  refine tkW 4 rfl ?_; refine tkW 5 rfl ?_; refine tkW 7 rfl ?_
  try simp only [Act.put, List.setIfInBounds_toArray, List.set_cons_zero, List.set_cons_succ, List.getElem_toArray, List.getElem_cons_succ, List.getElem_cons_zero]
  refine wpAnyH_ready (rs := [6]) (by kernel_rfl) (by simp) ?_
  refine AllReadyH.cons rfl (fun K hK => ?_) AllReadyH.nil
  first | (with_reducible refine iteYes ?hcx ?htx; case hcx => kernel_rfl) | rw [if_pos (by rfl)]
  simp only [List.getElem_toArray, List.getElem_cons_succ, List.getElem_cons_zero]
  go_simp
  skip
  try go_wp2_with fail
  refine hK.out _ _ ?_ (fun hHeld2 => ?_)
  · (try dsimp only); exact HK.out _ (Only.refl _ _).drew
  clear hK K hHeld1
  try simp only [Act.put, List.setIfInBounds_toArray, List.set_cons_zero, List.set_cons_succ, List.getElem_toArray, List.getElem_cons_succ, List.getElem_cons_zero]
  refine wpAnyH_ready (rs := [8]) (by kernel_rfl) (by simp) ?_
  refine AllReadyH.cons rfl (fun K hK => ?_) AllReadyH.nil
  first | (with_reducible refine iteYes ?hcx ?htx; case hcx => kernel_rfl) | rw [if_pos (by rfl)]
  simp only [List.getElem_toArray, List.getElem_cons_succ, List.getElem_cons_zero]
  go_simp
  (go_at_call 27; refine (minus_calls _ _ _ _ _ _ _).mono ?_; rintro e w6 ⟨rfl, k6⟩)
  try go_wp2_with fail
  refine hK.out _ _ ?_ (fun hHeld3 => ?_)
  · (try dsimp only); exact HK.out _ (Only.of_kept ((Kept.refl w5).drew.trans k6))
  clear hK K hHeld2
  try simp only [Act.put, List.setIfInBounds_toArray, List.set_cons_zero, List.set_cons_succ, List.getElem_toArray, List.getElem_cons_succ, List.getElem_cons_zero]
  refine wpAnyH_ready (rs := [9]) (by kernel_rfl) (by simp) ?_
  refine AllReadyH.cons rfl (fun K hK => ?_) AllReadyH.nil
  first | (with_reducible refine iteYes ?hcx ?htx; case hcx => kernel_rfl) | rw [if_pos (by rfl)]
  simp only [List.getElem_toArray, List.getElem_cons_succ, List.getElem_cons_zero]
  go_simp
  (go_at_call 5; refine (clamp_calls _ _ _ _ _ (by decide)).mono ?_; rintro e w7 ⟨rfl, k7⟩)
  try go_wp2_with fail
  refine hK.out _ _ ?_ (fun hHeld4 => ?_)
  · (try dsimp only); exact HK.out _ (Only.of_kept (((Kept.refl w5).drew.trans k6).trans k7))
  clear hK K hHeld3
  try simp only [Act.put, List.setIfInBounds_toArray, List.set_cons_zero, List.set_cons_succ, List.getElem_toArray, List.getElem_cons_succ, List.getElem_cons_zero]
  simp only [bound_place]
  have K7 : Hid (Kept w5 w7) := ((Kept.refl w5).drew.trans k6).trans k7
  have e6 := kept_cell K7.out c6; have e7 := kept_cell K7.out c7; have e8 := kept_cell K7.out c8
  have f6 := kept_frozen K7.out (HB6.out.1.free (i * 17 + 6)); have f7 := kept_frozen K7.out (HB6.out.1.free (i * 17 + 7)); have f8 := kept_frozen K7.out (HB6.out.1.free (i * 17 + 8))
  clear k6 k7 c6 c7 c8
  refine tkW 10 rfl ?_; refine tkW 11 rfl ?_
  try simp only [Act.put, List.setIfInBounds_toArray, List.set_cons_zero, List.set_cons_succ, List.getElem_toArray, List.getElem_cons_succ, List.getElem_cons_zero]
  refine wpAnyH_ready (rs := [12]) (by kernel_rfl) (by simp) ?_
  refine AllReadyH.cons rfl (fun K hK => ?_) AllReadyH.nil
  first | (with_reducible refine iteYes ?hcx ?htx; case hcx => kernel_rfl) | rw [if_pos (by rfl)]
  simp only [List.getElem_toArray, List.getElem_cons_succ, List.getElem_cons_zero]
  go_simp
  refine hK.out _ _ ?_ (fun hHeld5 => ?_)
  · (try dsimp only); exact HK.out _ ((((Only.of_kept K7.out).setCell (p := ⟨g, i * 17 + 6, none⟩) (Or.inl (by simp)) _).setCell (p := ⟨g, i * 17 + 7, none⟩) (Or.inl (by simp)) _).setCell (p := ⟨g, i * 17 + 8, none⟩) (Or.inl (by simp)) _)
  clear hK K
  try simp only [Act.put, List.setIfInBounds_toArray, List.set_cons_zero, List.set_cons_succ, List.getElem_toArray, List.getElem_cons_succ, List.getElem_cons_zero]
  refine wpAnyH_done (by kernel_rfl) ?_ _
  have HB8 : Hid (OwnB (((w7.setCell ⟨g, i * 17 + 6, none⟩ (.int .i64 (cl 65536000 (sub bi.ax (mul v.x (mul dd x)))))).setCell ⟨g, i * 17 + 7, none⟩ (.int .i64 (cl 65536000 (sub bi.ay (mul v.y (mul dd x)))))).setCell ⟨g, i * 17 + 8, none⟩ (.int .i64 (cl 65536000 (sub bi.az (mul v.z (mul dd x)))))) g n (upd (B) i (backX (B i) v (mul dd x))) ∧ Only [g] w5 (((w7.setCell ⟨g, i * 17 + 6, none⟩ (.int .i64 (cl 65536000 (sub bi.ax (mul v.x (mul dd x)))))).setCell ⟨g, i * 17 + 7, none⟩ (.int .i64 (cl 65536000 (sub bi.ay (mul v.y (mul dd x)))))).setCell ⟨g, i * 17 + 8, none⟩ (.int .i64 (cl 65536000 (sub bi.az (mul v.z (mul dd x)))))) ∧ (∀ s, SizeAt w5 g s → SizeAt (((w7.setCell ⟨g, i * 17 + 6, none⟩ (.int .i64 (cl 65536000 (sub bi.ax (mul v.x (mul dd x)))))).setCell ⟨g, i * 17 + 7, none⟩ (.int .i64 (cl 65536000 (sub bi.ay (mul v.y (mul dd x)))))).setCell ⟨g, i * 17 + 8, none⟩ (.int .i64 (cl 65536000 (sub bi.az (mul v.z (mul dd x)))))) g s)) := by
    refine ⟨?_, (((Only.of_kept K7.out).setCell (p := ⟨g, i * 17 + 6, none⟩) (Or.inl (by simp)) _).setCell (p := ⟨g, i * 17 + 7, none⟩) (Or.inl (by simp)) _).setCell (p := ⟨g, i * 17 + 8, none⟩) (Or.inl (by simp)) _, fun s hs => (((hs.only (Only.of_kept (D := []) K7.out) (by simp)).put _ _ _).put _ _ _).put _ _ _⟩
    have h1 := (HB6.out.1.only (Only.of_kept (D := []) K7.out) (by simp)).putAt HO.out.2.1 (cl 65536000 (sub bi.ax (mul v.x (mul dd x)))) (cl 65536000 (sub bi.ay (mul v.y (mul dd x)))) (cl 65536000 (sub bi.az (mul v.z (mul dd x))))
    rw [HBI.out] at h1 ⊢
    exact h1
  clear hHeld5 HK e6 e7 e8 f6 f7 f8 K7
  revert HB8
  generalize World.setCell (World.setCell (World.setCell w7 _ _) _ _) _ _ = w8
  intro HB8
  obtain ⟨B1, hB1⟩ : ∃ B1, B1 = upd B i (backX (B i) v (mul dd x)) := ⟨_, rfl⟩
  rw [← hB1] at HB8
  have HB1 : Hid (B1 = upd B i (backX (B i) v (mul dd x))) := hB1
  clear hB1
  have HC8 : Hid (OwnB w8 g n B1 ∧ MtAt w8 kx g i k x y al v dp ∧ kx ≠ g ∧ VecAt w8 rb (mul v.x (mul dd y)) (mul v.y (mul dd y)) (mul v.z (mul dd y))) := ⟨HB8.out.1, HB6.out.2.1.only HB8.out.2.1 (by simp only [List.mem_singleton]; exact HB6.out.2.2.1), HB6.out.2.2.1, HNE.out.2.2.only HB8.out.2.1 (by simp only [List.mem_singleton]; exact HNE.out.2.1)⟩
  go_upto_region 4 with fail
  obtain ⟨bk, hbk⟩ : ∃ bk, bk = B1 k := ⟨_, rfl⟩
  have HBK : Hid (bk = B1 k) := hbk
  clear hbk
  have HK : Hid (∀ w', Only [g] w8 w' → Only [g] w8 w' ∧ w'.cell? ⟨kx, 1, none⟩ = some (.pointer (some ⟨g, k * 17, none⟩)) ∧ w'.cell? ⟨rb, 0, none⟩ = some (.int .i64 (mul v.x (mul dd y))) ∧ w'.cell? ⟨rb, 1, none⟩ = some (.int .i64 (mul v.y (mul dd y))) ∧ w'.cell? ⟨rb, 2, none⟩ = some (.int .i64 (mul v.z (mul dd y)))) := fun w' o =>
    ⟨o, cell_only o (HC8.out.2.1.off 1) (by simp only [List.mem_singleton]; exact HC8.out.2.2.1), cell_only o (HC8.out.2.2.2.off 0) (by simp only [List.mem_singleton]; exact HNE.out.2.1), cell_only o (HC8.out.2.2.2.off 1) (by simp only [List.mem_singleton]; exact HNE.out.2.1), cell_only o (HC8.out.2.2.2.off 2) (by simp only [List.mem_singleton]; exact HNE.out.2.1)⟩
  have c6 := HC8.out.1.cell HO.out.2.2 (show 6 < 17 by omega); have c7 := HC8.out.1.cell HO.out.2.2 (show 7 < 17 by omega); have c8 := HC8.out.1.cell HO.out.2.2 (show 8 < 17 by omega)
  rw [← HBK.out] at c6 c7 c8
  simp only [bc] at c6 c7 c8
  refine wp_region_held_drew (S := (fun w' => Only [g] w8 w' ∧ w'.cell? ⟨kx, 1, none⟩ = some (.pointer (some ⟨g, k * 17, none⟩)) ∧ w'.cell? ⟨rb, 0, none⟩ = some (.int .i64 (mul v.x (mul dd y))) ∧ w'.cell? ⟨rb, 1, none⟩ = some (.int .i64 (mul v.y (mul dd y))) ∧ w'.cell? ⟨rb, 2, none⟩ = some (.int .i64 (mul v.z (mul dd y))))) (by kernel_rfl) ?_ (fun hHeld1 => ?_)
  · (try dsimp only); exact HK.out _ (Only.refl _ _).drew
  refine tkW 0 rfl ?_; refine tkW 1 rfl ?_; refine tkW 2 rfl ?_; refine tkW 3 rfl ?_
  try simp only [Act.put, List.setIfInBounds_toArray, List.set_cons_zero, List.set_cons_succ, List.getElem_toArray, List.getElem_cons_succ, List.getElem_cons_zero]
  refine tkW 4 rfl ?_; refine tkW 5 rfl ?_; refine tkW 7 rfl ?_
  try simp only [Act.put, List.setIfInBounds_toArray, List.set_cons_zero, List.set_cons_succ, List.getElem_toArray, List.getElem_cons_succ, List.getElem_cons_zero]
  refine wpAnyH_ready (rs := [6]) (by kernel_rfl) (by simp) ?_
  refine AllReadyH.cons rfl (fun K hK => ?_) AllReadyH.nil
  first | (with_reducible refine iteYes ?hcx ?htx; case hcx => kernel_rfl) | rw [if_pos (by rfl)]
  simp only [List.getElem_toArray, List.getElem_cons_succ, List.getElem_cons_zero]
  go_simp
  skip
  try go_wp2_with fail
  refine hK.out _ _ ?_ (fun hHeld2 => ?_)
  · (try dsimp only); exact HK.out _ (Only.refl _ _).drew
  clear hK K hHeld1
  try simp only [Act.put, List.setIfInBounds_toArray, List.set_cons_zero, List.set_cons_succ, List.getElem_toArray, List.getElem_cons_succ, List.getElem_cons_zero]
  refine wpAnyH_ready (rs := [8]) (by kernel_rfl) (by simp) ?_
  refine AllReadyH.cons rfl (fun K hK => ?_) AllReadyH.nil
  first | (with_reducible refine iteYes ?hcx ?htx; case hcx => kernel_rfl) | rw [if_pos (by rfl)]
  simp only [List.getElem_toArray, List.getElem_cons_succ, List.getElem_cons_zero]
  go_simp
  (go_at_call 33; refine (plus_calls _ _ _ _ _ _ _).mono ?_; rintro e w9 ⟨rfl, k6⟩)
  try go_wp2_with fail
  refine hK.out _ _ ?_ (fun hHeld3 => ?_)
  · (try dsimp only); exact HK.out _ (Only.of_kept ((Kept.refl w8).drew.trans k6))
  clear hK K hHeld2
  try simp only [Act.put, List.setIfInBounds_toArray, List.set_cons_zero, List.set_cons_succ, List.getElem_toArray, List.getElem_cons_succ, List.getElem_cons_zero]
  refine wpAnyH_ready (rs := [9]) (by kernel_rfl) (by simp) ?_
  refine AllReadyH.cons rfl (fun K hK => ?_) AllReadyH.nil
  first | (with_reducible refine iteYes ?hcx ?htx; case hcx => kernel_rfl) | rw [if_pos (by rfl)]
  simp only [List.getElem_toArray, List.getElem_cons_succ, List.getElem_cons_zero]
  go_simp
  (go_at_call 5; refine (clamp_calls _ _ _ _ _ (by decide)).mono ?_; rintro e w10 ⟨rfl, k7⟩)
  try go_wp2_with fail
  refine hK.out _ _ ?_ (fun hHeld4 => ?_)
  · (try dsimp only); exact HK.out _ (Only.of_kept (((Kept.refl w8).drew.trans k6).trans k7))
  clear hK K hHeld3
  try simp only [Act.put, List.setIfInBounds_toArray, List.set_cons_zero, List.set_cons_succ, List.getElem_toArray, List.getElem_cons_succ, List.getElem_cons_zero]
  simp only [bound_place]
  have K7 : Hid (Kept w8 w10) := ((Kept.refl w8).drew.trans k6).trans k7
  have e6 := kept_cell K7.out c6; have e7 := kept_cell K7.out c7; have e8 := kept_cell K7.out c8
  have f6 := kept_frozen K7.out (HC8.out.1.free (k * 17 + 6)); have f7 := kept_frozen K7.out (HC8.out.1.free (k * 17 + 7)); have f8 := kept_frozen K7.out (HC8.out.1.free (k * 17 + 8))
  clear k6 k7 c6 c7 c8
  refine tkW 10 rfl ?_; refine tkW 11 rfl ?_
  try simp only [Act.put, List.setIfInBounds_toArray, List.set_cons_zero, List.set_cons_succ, List.getElem_toArray, List.getElem_cons_succ, List.getElem_cons_zero]
  refine wpAnyH_ready (rs := [12]) (by kernel_rfl) (by simp) ?_
  refine AllReadyH.cons rfl (fun K hK => ?_) AllReadyH.nil
  first | (with_reducible refine iteYes ?hcx ?htx; case hcx => kernel_rfl) | rw [if_pos (by rfl)]
  simp only [List.getElem_toArray, List.getElem_cons_succ, List.getElem_cons_zero]
  go_simp
  refine hK.out _ _ ?_ (fun hHeld5 => ?_)
  · (try dsimp only); exact HK.out _ ((((Only.of_kept K7.out).setCell (p := ⟨g, k * 17 + 6, none⟩) (Or.inl (by simp)) _).setCell (p := ⟨g, k * 17 + 7, none⟩) (Or.inl (by simp)) _).setCell (p := ⟨g, k * 17 + 8, none⟩) (Or.inl (by simp)) _)
  clear hK K
  try simp only [Act.put, List.setIfInBounds_toArray, List.set_cons_zero, List.set_cons_succ, List.getElem_toArray, List.getElem_cons_succ, List.getElem_cons_zero]
  refine wpAnyH_done (by kernel_rfl) ?_ _
  have HB9 : Hid (OwnB (((w10.setCell ⟨g, k * 17 + 6, none⟩ (.int .i64 (cl 65536000 (add bk.ax (mul v.x (mul dd y)))))).setCell ⟨g, k * 17 + 7, none⟩ (.int .i64 (cl 65536000 (add bk.ay (mul v.y (mul dd y)))))).setCell ⟨g, k * 17 + 8, none⟩ (.int .i64 (cl 65536000 (add bk.az (mul v.z (mul dd y)))))) g n (upd (B1) k (forthX (B1 k) v (mul dd y))) ∧ Only [g] w8 (((w10.setCell ⟨g, k * 17 + 6, none⟩ (.int .i64 (cl 65536000 (add bk.ax (mul v.x (mul dd y)))))).setCell ⟨g, k * 17 + 7, none⟩ (.int .i64 (cl 65536000 (add bk.ay (mul v.y (mul dd y)))))).setCell ⟨g, k * 17 + 8, none⟩ (.int .i64 (cl 65536000 (add bk.az (mul v.z (mul dd y)))))) ∧ (∀ s, SizeAt w8 g s → SizeAt (((w10.setCell ⟨g, k * 17 + 6, none⟩ (.int .i64 (cl 65536000 (add bk.ax (mul v.x (mul dd y)))))).setCell ⟨g, k * 17 + 7, none⟩ (.int .i64 (cl 65536000 (add bk.ay (mul v.y (mul dd y)))))).setCell ⟨g, k * 17 + 8, none⟩ (.int .i64 (cl 65536000 (add bk.az (mul v.z (mul dd y)))))) g s)) := by
    refine ⟨?_, (((Only.of_kept K7.out).setCell (p := ⟨g, k * 17 + 6, none⟩) (Or.inl (by simp)) _).setCell (p := ⟨g, k * 17 + 7, none⟩) (Or.inl (by simp)) _).setCell (p := ⟨g, k * 17 + 8, none⟩) (Or.inl (by simp)) _, fun s hs => (((hs.only (Only.of_kept (D := []) K7.out) (by simp)).put _ _ _).put _ _ _).put _ _ _⟩
    have h1 := (HC8.out.1.only (Only.of_kept (D := []) K7.out) (by simp)).putAt HO.out.2.2 (cl 65536000 (add bk.ax (mul v.x (mul dd y)))) (cl 65536000 (add bk.ay (mul v.y (mul dd y)))) (cl 65536000 (add bk.az (mul v.z (mul dd y))))
    rw [HBK.out] at h1 ⊢
    exact h1
  clear hHeld5 HK e6 e7 e8 f6 f7 f8 K7
  go_wp2_with fail
  refine bodyPost_end (results_none rfl _ _ _) rfl ?_
  refine ⟨rfl, ?_, ?_, fun s hs => HB9.out.2.2 s (HB8.out.2.2 s ((hs.only H0.out.1 (by simp)).only H5.out.1 (by simp)))⟩
  · have e1 : partX B i k x y al v dp = upd B1 k (forthX (B1 k) v (mul dd y)) := by rw [HB1.out, HD.out]; rfl
    rw [e1]; exact HB9.out.1
  · exact ((((Only.refl [g] w).trans (H0.out.1.mono (by simp))).trans (H5.out.1.mono (by simp))).trans HB8.out.2.1).trans HB9.out.2.1
end Go.Proofs.Ytpegjobehdihbaa
