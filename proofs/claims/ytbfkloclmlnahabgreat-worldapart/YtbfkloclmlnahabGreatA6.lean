/- (solve.meeting).part: two taken apart: whatever the meeting. · solve.Places: whatever the bodies, no two of one number, and the touches. · gyreref.Places: whatever the bodies and the touches. · (solve.meeting).speed and give, (solve.Law).Right: whatever they are. -/
import Derived.Test.YtbfkloclmlnahabGreatA5
open List renaming getElem_toArray → zqa, getElem_cons_succ → zqb, getElem_cons_zero → zqc, setIfInBounds_toArray → zqd, set_cons_zero → zqe, set_cons_succ → zqf, getElem?_toArray → zqg, getElem?_cons_succ → zqh, getElem?_cons_zero → zqi
namespace Go.Proofs.YtbfkloclmlnahabGreat
open Go.ChangeShapes Go.WideShapes Go.ChangeAt Go.RowKit
set_option linter.unusedVariables false
set_option linter.unusedSimpArgs false

def MtAt (w : World) (kx g i k : Nat) (x y al : Int) (v : V3) (dp : Int) : Prop := w.heap[kx]? = some (.cells #[.pointer (some ⟨g, i * 17, none⟩), .pointer (some ⟨g, k * 17, none⟩), .int .i64 x, .int .i64 y, .int .i64 al, .int .i64 (v.x), .int .i64 (v.y), .int .i64 (v.z), .int .i64 dp] 85)
theorem MtAt.off {w : World} {kx g i k : Nat} {x y al : Int} {v : V3} {dp : Int} (h : MtAt w kx g i k x y al v dp) (j : Nat) : w.cell? ⟨kx, j, none⟩ = (#[.pointer (some ⟨g, i * 17, none⟩), .pointer (some ⟨g, k * 17, none⟩), .int .i64 x, .int .i64 y, .int .i64 al, .int .i64 (v.x), .int .i64 (v.y), .int .i64 (v.z), .int .i64 dp] : Array Value)[j]? := by
  unfold MtAt at h; simp [World.cell?, h]
theorem MtAt.only {D : List Nat} {w w' : World} {kx g i k : Nat} {x y al : Int} {v : V3} {dp : Int} (h : MtAt w kx g i k x y al v dp) (o : Only D w w') (s : kx ∉ D) : MtAt w' kx g i k x y al v dp := (o.block kx (Array.getElem?_eq_some_iff.1 h).1 s).trans h
def VecAt (w : World) (b : Nat) (x y z : Int) : Prop := w.heap[b]? = some (.cells #[.int .i64 x, .int .i64 y, .int .i64 z] 24)
theorem VecAt.off {w : World} {b : Nat} {x y z : Int} (h : VecAt w b x y z) (j : Nat) : w.cell? ⟨b, j, none⟩ = (#[.int .i64 x, .int .i64 y, .int .i64 z] : Array Value)[j]? := by
  unfold VecAt at h; simp [World.cell?, h]
theorem VecAt.only {D : List Nat} {w w' : World} {b : Nat} {x y z : Int} (h : VecAt w b x y z) (o : Only D w w') (s : b ∉ D) : VecAt w' b x y z := (o.block b (Array.getElem?_eq_some_iff.1 h).1 s).trans h
theorem bc_upd (B : Nat → Bd) (i : Nat) (b : Bd) (j k : Nat) : bc (upd B i b j) k = if j = i then bc b k else bc (B j) k := by
  unfold upd; split <;> rfl
def RowF (w : World) (g n : Nat) (F : Nat → Nat → Value) : Prop := ∃ cur : Array Value, w.heap[g]? = some (.cells cur 37 (0, 0)) ∧ ∀ j, j < n → ∀ k, k < 17 → cur[j * 17 + k]? = some (F j k)
theorem RowF.set {w : World} {g n : Nat} {F : Nat → Nat → Value} (h : RowF w g n F) {i k0 : Nat} (hi : i < n) (hk : k0 < 17) (v : Value) : RowF (w.setCell ⟨g, i * 17 + k0, none⟩ v) g n (fun j k => if j = i ∧ k = k0 then v else F j k) := by
  obtain ⟨cur, hb, hc⟩ := h
  refine ⟨cur.setIfInBounds (i * 17 + k0) v, ?_, fun j hj k hk' => ?_⟩
  · simp [World.setCell, Array.getElem?_modify, hb]
  · have h0 := hc j hj k hk'
    have hl := (Array.getElem?_eq_some_iff.1 h0).1
    rw [Array.getElem?_setIfInBounds]
    by_cases e : j = i ∧ k = k0
    · obtain ⟨rfl, rfl⟩ := e
      simp [hl]
    · have : ¬ i * 17 + k0 = j * 17 + k := fun q => e ⟨by omega, by omega⟩
      rw [if_neg this]; simp only [if_neg e]; exact h0
theorem RowF.congr {w : World} {g n : Nat} {F G : Nat → Nat → Value} (h : RowF w g n F) (e : ∀ j k, j < n → k < 17 → F j k = G j k) : RowF w g n G := by
  obtain ⟨cur, hb, hc⟩ := h
  exact ⟨cur, hb, fun j hj k hk => by rw [← e j k hj hk]; exact hc j hj k hk⟩
/-- A place stored into a body of a slice. -/
theorem OwnB.putAt {w : World} {g n : Nat} {B : Nat → Bd} (h : OwnB w g n B) {i : Nat} (hi : i < n) (x y z : Int) :
    OwnB (((w.setCell ⟨g, i * 17 + 6, none⟩ (.int .i64 x)).setCell ⟨g, i * 17 + 6 + 1, none⟩ (.int .i64 y)).setCell ⟨g, i * 17 + 6 + 2, none⟩ (.int .i64 z)) g n (upd B i (atX (B i) x y z)) := by
  have h1 := ((RowF.set (F := fun j k => bc (B j) k) h hi (show 6 < 17 by omega) (.int .i64 x)).set hi (show 7 < 17 by omega) (.int .i64 y)).set hi (show 8 < 17 by omega) (.int .i64 z)
  refine RowF.congr h1 (fun j k hj hk => ?_)
  by_cases e : j = i
  · subst e
    rw [bc_upd, if_pos rfl]
    match k, hk with
    | 0, _ => simp [bc, atX]
    | 1, _ => simp [bc, atX]
    | 2, _ => simp [bc, atX]
    | 3, _ => simp [bc, atX]
    | 4, _ => simp [bc, atX]
    | 5, _ => simp [bc, atX]
    | 6, _ => simp [bc, atX]
    | 7, _ => simp [bc, atX]
    | 8, _ => simp [bc, atX]
    | 9, _ => simp [bc, atX]
    | 10, _ => simp [bc, atX]
    | 11, _ => simp [bc, atX]
    | 12, _ => simp [bc, atX]
    | 13, _ => simp [bc, atX]
    | 14, _ => simp [bc, atX]
    | 15, _ => simp [bc, atX]
    | 16, _ => simp [bc, atX]
    | k + 17, h => exact absurd h (by omega)
  · rw [bc_upd]; simp [e]
/-- A speed stored into a body of a slice. -/
theorem OwnB.putSp {w : World} {g n : Nat} {B : Nat → Bd} (h : OwnB w g n B) {i : Nat} (hi : i < n) (x y z : Int) :
    OwnB (((w.setCell ⟨g, i * 17 + 9, none⟩ (.int .i64 x)).setCell ⟨g, i * 17 + 9 + 1, none⟩ (.int .i64 y)).setCell ⟨g, i * 17 + 9 + 2, none⟩ (.int .i64 z)) g n (upd B i (spX (B i) x y z)) := by
  have h1 := ((RowF.set (F := fun j k => bc (B j) k) h hi (show 9 < 17 by omega) (.int .i64 x)).set hi (show 10 < 17 by omega) (.int .i64 y)).set hi (show 11 < 17 by omega) (.int .i64 z)
  refine RowF.congr h1 (fun j k hj hk => ?_)
  by_cases e : j = i
  · subst e
    rw [bc_upd, if_pos rfl]
    match k, hk with
    | 0, _ => simp [bc, spX]
    | 1, _ => simp [bc, spX]
    | 2, _ => simp [bc, spX]
    | 3, _ => simp [bc, spX]
    | 4, _ => simp [bc, spX]
    | 5, _ => simp [bc, spX]
    | 6, _ => simp [bc, spX]
    | 7, _ => simp [bc, spX]
    | 8, _ => simp [bc, spX]
    | 9, _ => simp [bc, spX]
    | 10, _ => simp [bc, spX]
    | 11, _ => simp [bc, spX]
    | 12, _ => simp [bc, spX]
    | 13, _ => simp [bc, spX]
    | 14, _ => simp [bc, spX]
    | 15, _ => simp [bc, spX]
    | 16, _ => simp [bc, spX]
    | k + 17, h => exact absurd h (by omega)
  · rw [bc_upd]; simp [e]
theorem quo5 (z : Int) (h : -70368744177664 ≤ z) (h' : z ≤ 70368744177664) : IntKind.i64.wrap (z.tdiv 5) = z.tdiv 5 := by
  have hb : -70368744177664 ≤ z.tdiv 5 ∧ z.tdiv 5 ≤ 70368744177664 := by
    rcases Int.le_total 0 z with q | q
    · rw [Int.tdiv_eq_ediv_of_nonneg q]; omega
    · obtain ⟨y, rfl⟩ : ∃ y, z = -y := ⟨-z, by omega⟩
      rw [Int.neg_tdiv, Int.tdiv_eq_ediv_of_nonneg (by omega)]; omega
  rw [IntKind.wrap_i64]; omega
theorem bound_place : bound 65536000 = 65536000 := by decide
set_option maxRecDepth 100000 in
set_option maxHeartbeats 4000000 in
theorem part_calls (g n i k : Nat) (x y al : Int) (v : V3) (dp : Int) (B : Nat → Bd) (w : World) (h : OwnB w g n B) (hi : i < n) (hk : k < n) :
    Calls Tryz.prog 41 #[.agg #[.pointer (some ⟨g, i * 17, none⟩), .pointer (some ⟨g, k * 17, none⟩), .int .i64 x, .int .i64 y, .int .i64 al, .int .i64 (v.x), .int .i64 (v.y), .int .i64 (v.z), .int .i64 dp]] w fun e w' => e = .returned (.tuple #[]) ∧ OwnB w' g n (partX B i k x y al v dp) ∧ Only [g] w w' := by
  have HO : Hid (OwnB w g n B ∧ i < n ∧ k < n) := ⟨h, hi, hk⟩
  clear h hi hk
  go_enter Tryz.func41, Tryz.ntmps41
  go_upto_region 1 with fail
  have H0 : Hid (Only [] w (w.alloc (.cells #[.pointer (some ⟨g, i * 17, none⟩), .pointer (some ⟨g, k * 17, none⟩), .int .i64 x, .int .i64 y, .int .i64 al, .int .i64 (v.x), .int .i64 (v.y), .int .i64 (v.z), .int .i64 dp] 85)) ∧ MtAt (w.alloc (.cells #[.pointer (some ⟨g, i * 17, none⟩), .pointer (some ⟨g, k * 17, none⟩), .int .i64 x, .int .i64 y, .int .i64 al, .int .i64 (v.x), .int .i64 (v.y), .int .i64 (v.z), .int .i64 dp] 85)) w.heap.size g i k x y al v dp) := ⟨(Only.refl [] w).alloc _, (MapKept.heap_alloc w _).1⟩
  revert H0
  generalize hkx : w.heap.size = kx
  generalize World.alloc w _ = w1
  intro H0
  have HX : Hid (w.heap.size = kx) := hkx
  clear hkx
  have HK : Hid (∀ w', Kept w1 w' → Kept w1 w' ∧ w'.cell? ⟨kx, 4, none⟩ = some (.int .i64 al) ∧ w'.cell? ⟨kx, 8, none⟩ = some (.int .i64 dp)) := fun w' o => ⟨o, kept_cell o (H0.out.2.off 4), kept_cell o (H0.out.2.off 8)⟩
  refine wp_region_held_drew (S := (fun w' => Kept w1 w' ∧ w'.cell? ⟨kx, 4, none⟩ = some (.int .i64 al) ∧ w'.cell? ⟨kx, 8, none⟩ = some (.int .i64 dp))) (by kernel_rfl) ?_ (fun hHeld1 => ?_)
  · (try dsimp only); exact HK.out _ (Kept.refl _).drew
  refine wpAnyH_take (i := 0) (v := ?_) rfl (by kernel_rfl) (by kernel_rfl) (by kernel_rfl) (fun _ _ _ h => h) (Or.inl ⟨by kernel_rfl, ?_⟩) (by assumption) ?_
  rotate_left
  · intro w'' hSw; (try dsimp only at hSw); simp only [zqa, zqb, zqc]; (go_simp <;> with_reducible rfl)
  try simp only [Act.put, zqd, zqe, zqf, zqa, zqb, zqc]
  refine wpAnyH_take (i := 1) (v := ?_) rfl (by kernel_rfl) (by kernel_rfl) (by kernel_rfl) (fun _ _ _ h => h) (Or.inl ⟨by kernel_rfl, ?_⟩) (by assumption) ?_
  rotate_left
  · intro w'' hSw; (try dsimp only at hSw); simp only [zqa, zqb, zqc]; (go_simp <;> with_reducible rfl)
  try simp only [Act.put, zqd, zqe, zqf, zqa, zqb, zqc]
  refine wpAnyH_take (i := 4) (v := ?_) rfl (by kernel_rfl) (by kernel_rfl) (by kernel_rfl) (fun _ _ _ h => h) (Or.inl ⟨by kernel_rfl, ?_⟩) (by assumption) ?_
  rotate_left
  · intro w'' hSw; (try dsimp only at hSw); simp only [zqa, zqb, zqc]; (go_simp <;> with_reducible rfl)
  try simp only [Act.put, zqd, zqe, zqf, zqa, zqb, zqc]
  refine wpAnyH_take (i := 5) (v := ?_) rfl (by kernel_rfl) (by kernel_rfl) (by kernel_rfl) (fun _ _ _ h => h) (Or.inl ⟨by kernel_rfl, ?_⟩) (by assumption) ?_
  rotate_left
  · intro w'' hSw; (try dsimp only at hSw); simp only [zqa, zqb, zqc]; (go_simp <;> with_reducible rfl)
  try simp only [Act.put, zqd, zqe, zqf, zqa, zqb, zqc]
  refine wpAnyH_ready (rs := [2]) (by kernel_rfl) (by simp) ?_
  refine AllReadyH.cons rfl (fun K hK => ?_) AllReadyH.nil
  first | (with_reducible refine iteYes ?hcx ?htx; case hcx => kernel_rfl) | rw [if_pos (by rfl)]
  simp only [zqa, zqb, zqc]
  go_simp
  (go_at_call 69; refine (sub_calls _ _ _).mono ?_; rintro e w2 ⟨rfl, k2⟩)
  try go_wp2_with fail
  refine hK.out _ _ ?_ (fun hHeld2 => ?_)
  · (try dsimp only); exact HK.out _ ((Kept.refl w1).drew.trans k2)
  clear hK K hHeld1
  try simp only [Act.put, zqd, zqe, zqf, zqa, zqb, zqc]
  have hq5 := quo5 (sub dp 655) (cut_ge _) (cut_le _)
  refine wpAnyH_take (i := 3) (v := .int .i64 ((sub dp 655).tdiv 5)) rfl (by kernel_rfl) (by kernel_rfl) (by kernel_rfl) (fun _ _ _ h => h) (Or.inl ⟨by kernel_rfl, ?_⟩) (by assumption) ?_
  · intro w'' hSw; (try dsimp only at hSw); simp only [zqa, zqb, zqc]; (go_simp <;> rfl)
  try simp only [Act.put, zqd, zqe, zqf, zqa, zqb, zqc]
  refine wpAnyH_ready (rs := [6]) (by kernel_rfl) (by simp) ?_
  refine AllReadyH.cons rfl (fun K hK => ?_) AllReadyH.nil
  first | (with_reducible refine iteYes ?hcx ?htx; case hcx => kernel_rfl) | rw [if_pos (by rfl)]
  simp only [zqa, zqb, zqc]
  go_simp
  (go_at_call 63; refine (div_calls _ _ _).mono ?_; rintro e w3 ⟨rfl, k3⟩)
  try go_wp2_with fail
  refine hK.out _ _ ?_ (fun hHeld3 => ?_)
  · (try dsimp only); exact HK.out _ (((Kept.refl w1).drew.trans k2).trans k3)
  clear hK K hHeld2
  try simp only [Act.put, zqd, zqe, zqf, zqa, zqb, zqc]
  refine wpAnyH_take (i := 7) (v := ?_) rfl (by kernel_rfl) (by kernel_rfl) (by kernel_rfl) (fun _ _ _ h => h) (Or.inl ⟨by kernel_rfl, ?_⟩) (by assumption) ?_
  rotate_left
  · intro w'' hSw; (try dsimp only at hSw); simp only [zqa, zqb, zqc]; (go_simp <;> with_reducible rfl)
  try simp only [Act.put, zqd, zqe, zqf, zqa, zqb, zqc]
  refine wpAnyH_done (by kernel_rfl) ?_ _
  have K3 : Hid (Kept w1 w3) := ((Kept.refl w1).drew.trans k2).trans k3
  clear hHeld3 HK k2 k3 hq5
  have HD : Hid (div ((sub dp 655).tdiv 5) al = deepX dp al) := rfl
  generalize hdd : div ((sub dp 655).tdiv 5) al = dd at HD ⊢
  clear hdd
  have q0 := kept_cell K3.out (H0.out.2.off 0); have q1 := kept_cell K3.out (H0.out.2.off 1); have q2 := kept_cell K3.out (H0.out.2.off 2); have q3 := kept_cell K3.out (H0.out.2.off 3); have q4 := kept_cell K3.out (H0.out.2.off 4); have q5 := kept_cell K3.out (H0.out.2.off 5); have q6 := kept_cell K3.out (H0.out.2.off 6); have q7 := kept_cell K3.out (H0.out.2.off 7); have q8 := kept_cell K3.out (H0.out.2.off 8)
  go_wp2_with fail
  refine (split_calls _ _ _ _ _ _ _ _ _ _ _ _ _ _).mono ?_
  rintro e w4 ⟨rfl, k4⟩
  have K4 : Hid (Kept w1 w4) := K3.out.trans k4
  clear k4 q0 q1 q2 q3 q4 q5 q6 q7 q8 K3
  go_upto_region 3 with fail
  have H5 : Hid (Only [] w1 ((w4.alloc (.cells #[.int .i64 (mul v.x (mul dd x)), .int .i64 (mul v.y (mul dd x)), .int .i64 (mul v.z (mul dd x))] 24)).alloc (.cells #[.int .i64 (mul v.x (mul dd y)), .int .i64 (mul v.y (mul dd y)), .int .i64 (mul v.z (mul dd y))] 24)) ∧ VecAt ((w4.alloc (.cells #[.int .i64 (mul v.x (mul dd x)), .int .i64 (mul v.y (mul dd x)), .int .i64 (mul v.z (mul dd x))] 24)).alloc (.cells #[.int .i64 (mul v.x (mul dd y)), .int .i64 (mul v.y (mul dd y)), .int .i64 (mul v.z (mul dd y))] 24)) w4.heap.size (mul v.x (mul dd x)) (mul v.y (mul dd x)) (mul v.z (mul dd x)) ∧ VecAt ((w4.alloc (.cells #[.int .i64 (mul v.x (mul dd x)), .int .i64 (mul v.y (mul dd x)), .int .i64 (mul v.z (mul dd x))] 24)).alloc (.cells #[.int .i64 (mul v.x (mul dd y)), .int .i64 (mul v.y (mul dd y)), .int .i64 (mul v.z (mul dd y))] 24)) (w4.heap.size + 1) (mul v.x (mul dd y)) (mul v.y (mul dd y)) (mul v.z (mul dd y)) ∧ w1.heap.size ≤ w4.heap.size ∧ w1.heap.size ≤ w4.heap.size + 1) := by
    have h1 : Only [] w1 w4 := Only.of_kept K4.out
    have hs : (w4.alloc (.cells #[.int .i64 (mul v.x (mul dd x)), .int .i64 (mul v.y (mul dd x)), .int .i64 (mul v.z (mul dd x))] 24)).heap.size = w4.heap.size + 1 := by simp
    have hb := (MapKept.heap_alloc (w4.alloc (.cells #[.int .i64 (mul v.x (mul dd x)), .int .i64 (mul v.y (mul dd x)), .int .i64 (mul v.z (mul dd x))] 24)) (.cells #[.int .i64 (mul v.x (mul dd y)), .int .i64 (mul v.y (mul dd y)), .int .i64 (mul v.z (mul dd y))] 24)).1
    rw [hs] at hb
    exact ⟨(h1.alloc _).alloc _, VecAt.only (MapKept.heap_alloc w4 _).1 ((Only.refl [] _).alloc _) (by simp), hb, h1.size, Nat.le_trans h1.size (Nat.le_succ _)⟩
  clear K4
  revert H5
  generalize w4.heap.size + 1 = rb
  generalize w4.heap.size = ra
  generalize World.alloc (World.alloc w4 _) _ = w5
  intro H5
  have HB5 : Hid (OwnB w5 g n B ∧ MtAt w5 kx g i k x y al v dp ∧ g ≠ kx ∧ g ≠ ra ∧ g ≠ rb) := by
    have hg := HO.out.1.lt
    have hx := HX.out
    have h1 := H0.out.1.size
    have h2 := H5.out.2.2.2
    exact ⟨HO.out.1.only (H0.out.1.trans H5.out.1) (by simp), H0.out.2.only H5.out.1 (by simp), by omega, by omega, by omega⟩
  have HNE : Hid (ra ≠ g ∧ rb ≠ g ∧ VecAt w5 rb (mul v.x (mul dd y)) (mul v.y (mul dd y)) (mul v.z (mul dd y))) := ⟨fun e => HB5.out.2.2.2.1 e.symm, fun e => HB5.out.2.2.2.2 e.symm, H5.out.2.2.1⟩
  have HB6 : Hid (OwnB w5 g n B ∧ MtAt w5 kx g i k x y al v dp ∧ kx ≠ g ∧ VecAt w5 ra (mul v.x (mul dd x)) (mul v.y (mul dd x)) (mul v.z (mul dd x))) := ⟨HB5.out.1, HB5.out.2.1, fun e => HB5.out.2.2.1 e.symm, H5.out.2.1⟩
  obtain ⟨bi, hbi⟩ : ∃ bi, bi = B i := ⟨_, rfl⟩
  have HBI : Hid (bi = B i) := hbi
  clear hbi
  have HK : Hid (∀ w', Only [g] w5 w' → Only [g] w5 w' ∧ w'.cell? ⟨kx, 0, none⟩ = some (.pointer (some ⟨g, i * 17, none⟩)) ∧ w'.cell? ⟨ra, 0, none⟩ = some (.int .i64 (mul v.x (mul dd x))) ∧ w'.cell? ⟨ra, 1, none⟩ = some (.int .i64 (mul v.y (mul dd x))) ∧ w'.cell? ⟨ra, 2, none⟩ = some (.int .i64 (mul v.z (mul dd x)))) := fun w' o =>
    ⟨o, cell_only o (HB6.out.2.1.off 0) (by simp only [List.mem_singleton]; exact HB6.out.2.2.1), cell_only o (HB6.out.2.2.2.off 0) (by simp only [List.mem_singleton]; exact HNE.out.1), cell_only o (HB6.out.2.2.2.off 1) (by simp only [List.mem_singleton]; exact HNE.out.1), cell_only o (HB6.out.2.2.2.off 2) (by simp only [List.mem_singleton]; exact HNE.out.1)⟩
  have c6 := HB6.out.1.cell HO.out.2.1 (show 6 < 17 by omega); have c7 := HB6.out.1.cell HO.out.2.1 (show 7 < 17 by omega); have c8 := HB6.out.1.cell HO.out.2.1 (show 8 < 17 by omega)
  rw [← HBI.out] at c6 c7 c8
  simp only [bc] at c6 c7 c8
  refine wp_region_held_drew (S := (fun w' => Only [g] w5 w' ∧ w'.cell? ⟨kx, 0, none⟩ = some (.pointer (some ⟨g, i * 17, none⟩)) ∧ w'.cell? ⟨ra, 0, none⟩ = some (.int .i64 (mul v.x (mul dd x))) ∧ w'.cell? ⟨ra, 1, none⟩ = some (.int .i64 (mul v.y (mul dd x))) ∧ w'.cell? ⟨ra, 2, none⟩ = some (.int .i64 (mul v.z (mul dd x))))) (by kernel_rfl) ?_ (fun hHeld1 => ?_)
  · (try dsimp only); exact HK.out _ (Only.refl _ _).drew
  refine wpAnyH_take (i := 0) (v := ?_) rfl (by kernel_rfl) (by kernel_rfl) (by kernel_rfl) (fun _ _ _ h => h) (Or.inl ⟨by kernel_rfl, ?_⟩) (by assumption) ?_
  rotate_left
  · intro w'' hSw; (try dsimp only at hSw); simp only [zqa, zqb, zqc]; (go_simp <;> with_reducible rfl)
  try simp only [Act.put, zqd, zqe, zqf, zqa, zqb, zqc]
  refine wpAnyH_take (i := 1) (v := ?_) rfl (by kernel_rfl) (by kernel_rfl) (by kernel_rfl) (fun _ _ _ h => h) (Or.inl ⟨by kernel_rfl, ?_⟩) (by assumption) ?_
  rotate_left
  · intro w'' hSw; (try dsimp only at hSw); simp only [zqa, zqb, zqc]; (go_simp <;> with_reducible rfl)
  try simp only [Act.put, zqd, zqe, zqf, zqa, zqb, zqc]
  refine wpAnyH_take (i := 2) (v := ?_) rfl (by kernel_rfl) (by kernel_rfl) (by kernel_rfl) (fun _ _ _ h => h) (Or.inl ⟨by kernel_rfl, ?_⟩) (by assumption) ?_
  rotate_left
  · intro w'' hSw; (try dsimp only at hSw); simp only [zqa, zqb, zqc]; (go_simp <;> with_reducible rfl)
  try simp only [Act.put, zqd, zqe, zqf, zqa, zqb, zqc]
  refine wpAnyH_take (i := 3) (v := ?_) rfl (by kernel_rfl) (by kernel_rfl) (by kernel_rfl) (fun _ _ _ h => h) (Or.inl ⟨by kernel_rfl, ?_⟩) (by assumption) ?_
  rotate_left
  · intro w'' hSw; (try dsimp only at hSw); simp only [zqa, zqb, zqc]; (go_simp <;> with_reducible rfl)
  try simp only [Act.put, zqd, zqe, zqf, zqa, zqb, zqc]
  refine wpAnyH_take (i := 4) (v := ?_) rfl (by kernel_rfl) (by kernel_rfl) (by kernel_rfl) (fun _ _ _ h => h) (Or.inl ⟨by kernel_rfl, ?_⟩) (by assumption) ?_
  rotate_left
  · intro w'' hSw; (try dsimp only at hSw); simp only [zqa, zqb, zqc]; (go_simp <;> with_reducible rfl)
  try simp only [Act.put, zqd, zqe, zqf, zqa, zqb, zqc]
  refine wpAnyH_take (i := 5) (v := ?_) rfl (by kernel_rfl) (by kernel_rfl) (by kernel_rfl) (fun _ _ _ h => h) (Or.inl ⟨by kernel_rfl, ?_⟩) (by assumption) ?_
  rotate_left
  · intro w'' hSw; (try dsimp only at hSw); simp only [zqa, zqb, zqc]; (go_simp <;> with_reducible rfl)
  try simp only [Act.put, zqd, zqe, zqf, zqa, zqb, zqc]
  refine wpAnyH_take (i := 7) (v := ?_) rfl (by kernel_rfl) (by kernel_rfl) (by kernel_rfl) (fun _ _ _ h => h) (Or.inl ⟨by kernel_rfl, ?_⟩) (by assumption) ?_
  rotate_left
  · intro w'' hSw; (try dsimp only at hSw); simp only [zqa, zqb, zqc]; (go_simp <;> with_reducible rfl)
  try simp only [Act.put, zqd, zqe, zqf, zqa, zqb, zqc]
  refine wpAnyH_ready (rs := [6]) (by kernel_rfl) (by simp) ?_
  refine AllReadyH.cons rfl (fun K hK => ?_) AllReadyH.nil
  first | (with_reducible refine iteYes ?hcx ?htx; case hcx => kernel_rfl) | rw [if_pos (by rfl)]
  simp only [zqa, zqb, zqc]
  go_simp
  skip
  try go_wp2_with fail
  refine hK.out _ _ ?_ (fun hHeld2 => ?_)
  · (try dsimp only); exact HK.out _ (Only.refl _ _).drew
  clear hK K hHeld1
  try simp only [Act.put, zqd, zqe, zqf, zqa, zqb, zqc]
  refine wpAnyH_ready (rs := [8]) (by kernel_rfl) (by simp) ?_
  refine AllReadyH.cons rfl (fun K hK => ?_) AllReadyH.nil
  first | (with_reducible refine iteYes ?hcx ?htx; case hcx => kernel_rfl) | rw [if_pos (by rfl)]
  simp only [zqa, zqb, zqc]
  go_simp
  (go_at_call 52; refine (minus_calls _ _ _ _ _ _ _).mono ?_; rintro e w6 ⟨rfl, k6⟩)
  try go_wp2_with fail
  refine hK.out _ _ ?_ (fun hHeld3 => ?_)
  · (try dsimp only); exact HK.out _ (Only.of_kept ((Kept.refl w5).drew.trans k6))
  clear hK K hHeld2
  try simp only [Act.put, zqd, zqe, zqf, zqa, zqb, zqc]
  refine wpAnyH_ready (rs := [9]) (by kernel_rfl) (by simp) ?_
  refine AllReadyH.cons rfl (fun K hK => ?_) AllReadyH.nil
  first | (with_reducible refine iteYes ?hcx ?htx; case hcx => kernel_rfl) | rw [if_pos (by rfl)]
  simp only [zqa, zqb, zqc]
  go_simp
  (go_at_call 12; refine (clamp_calls _ _ _ _ _ (by decide)).mono ?_; rintro e w7 ⟨rfl, k7⟩)
  try go_wp2_with fail
  refine hK.out _ _ ?_ (fun hHeld4 => ?_)
  · (try dsimp only); exact HK.out _ (Only.of_kept (((Kept.refl w5).drew.trans k6).trans k7))
  clear hK K hHeld3
  try simp only [Act.put, zqd, zqe, zqf, zqa, zqb, zqc]
  simp only [bound_place]
  have K7 : Hid (Kept w5 w7) := ((Kept.refl w5).drew.trans k6).trans k7
  have e6 := kept_cell K7.out c6; have e7 := kept_cell K7.out c7; have e8 := kept_cell K7.out c8
  have f6 := kept_frozen K7.out (HB6.out.1.free (i * 17 + 6)); have f7 := kept_frozen K7.out (HB6.out.1.free (i * 17 + 7)); have f8 := kept_frozen K7.out (HB6.out.1.free (i * 17 + 8))
  clear k6 k7 c6 c7 c8
  refine wpAnyH_take (i := 10) (v := ?_) rfl (by kernel_rfl) (by kernel_rfl) (by kernel_rfl) (fun _ _ _ h => h) (Or.inl ⟨by kernel_rfl, ?_⟩) (by assumption) ?_
  rotate_left
  · intro w'' hSw; (try dsimp only at hSw); simp only [zqa, zqb, zqc]; (go_simp <;> with_reducible rfl)
  try simp only [Act.put, zqd, zqe, zqf, zqa, zqb, zqc]
  refine wpAnyH_take (i := 11) (v := ?_) rfl (by kernel_rfl) (by kernel_rfl) (by kernel_rfl) (fun _ _ _ h => h) (Or.inl ⟨by kernel_rfl, ?_⟩) (by assumption) ?_
  rotate_left
  · intro w'' hSw; (try dsimp only at hSw); simp only [zqa, zqb, zqc]; (go_simp <;> with_reducible rfl)
  try simp only [Act.put, zqd, zqe, zqf, zqa, zqb, zqc]
  refine wpAnyH_ready (rs := [12]) (by kernel_rfl) (by simp) ?_
  refine AllReadyH.cons rfl (fun K hK => ?_) AllReadyH.nil
  first | (with_reducible refine iteYes ?hcx ?htx; case hcx => kernel_rfl) | rw [if_pos (by rfl)]
  simp only [zqa, zqb, zqc]
  go_simp
  refine hK.out _ _ ?_ (fun hHeld5 => ?_)
  · (try dsimp only); exact HK.out _ ((((Only.of_kept K7.out).setCell (p := ⟨g, i * 17 + 6, none⟩) (Or.inl (by simp)) _).setCell (p := ⟨g, i * 17 + 7, none⟩) (Or.inl (by simp)) _).setCell (p := ⟨g, i * 17 + 8, none⟩) (Or.inl (by simp)) _)
  clear hK K
  try simp only [Act.put, zqd, zqe, zqf, zqa, zqb, zqc]
  refine wpAnyH_done (by kernel_rfl) ?_ _
  have HB8 : Hid (OwnB (((w7.setCell ⟨g, i * 17 + 6, none⟩ (.int .i64 (cl 65536000 (sub bi.ax (mul v.x (mul dd x)))))).setCell ⟨g, i * 17 + 7, none⟩ (.int .i64 (cl 65536000 (sub bi.ay (mul v.y (mul dd x)))))).setCell ⟨g, i * 17 + 8, none⟩ (.int .i64 (cl 65536000 (sub bi.az (mul v.z (mul dd x)))))) g n (upd (B) i (backX (B i) v (mul dd x))) ∧ Only [g] w5 (((w7.setCell ⟨g, i * 17 + 6, none⟩ (.int .i64 (cl 65536000 (sub bi.ax (mul v.x (mul dd x)))))).setCell ⟨g, i * 17 + 7, none⟩ (.int .i64 (cl 65536000 (sub bi.ay (mul v.y (mul dd x)))))).setCell ⟨g, i * 17 + 8, none⟩ (.int .i64 (cl 65536000 (sub bi.az (mul v.z (mul dd x))))))) := by
    refine ⟨?_, (((Only.of_kept K7.out).setCell (p := ⟨g, i * 17 + 6, none⟩) (Or.inl (by simp)) _).setCell (p := ⟨g, i * 17 + 7, none⟩) (Or.inl (by simp)) _).setCell (p := ⟨g, i * 17 + 8, none⟩) (Or.inl (by simp)) _⟩
    have h1 := (HB6.out.1.only (Only.of_kept (D := []) K7.out) (by simp)).putAt HO.out.2.1 (cl 65536000 (sub bi.ax (mul v.x (mul dd x)))) (cl 65536000 (sub bi.ay (mul v.y (mul dd x)))) (cl 65536000 (sub bi.az (mul v.z (mul dd x))))
    rw [HBI.out] at h1 ⊢
    exact h1
  clear hHeld5 HK e6 e7 e8 f6 f7 f8 K7
  revert HB8
  generalize World.setCell (World.setCell (World.setCell w7 _ _) _ _) _ _ = w8
  intro HB8
  obtain ⟨B1, hB1⟩ : ∃ B1, B1 = upd B i (backX (B i) v (mul dd x)) := ⟨_, rfl⟩
  rw [← hB1] at HB8
  have HB1 : Hid (B1 = upd B i (backX (B i) v (mul dd x))) := hB1
  clear hB1
  have HC8 : Hid (OwnB w8 g n B1 ∧ MtAt w8 kx g i k x y al v dp ∧ kx ≠ g ∧ VecAt w8 rb (mul v.x (mul dd y)) (mul v.y (mul dd y)) (mul v.z (mul dd y))) := ⟨HB8.out.1, HB6.out.2.1.only HB8.out.2 (by simp only [List.mem_singleton]; exact HB6.out.2.2.1), HB6.out.2.2.1, HNE.out.2.2.only HB8.out.2 (by simp only [List.mem_singleton]; exact HNE.out.2.1)⟩
  go_upto_region 4 with fail
  obtain ⟨bk, hbk⟩ : ∃ bk, bk = B1 k := ⟨_, rfl⟩
  have HBK : Hid (bk = B1 k) := hbk
  clear hbk
  have HK : Hid (∀ w', Only [g] w8 w' → Only [g] w8 w' ∧ w'.cell? ⟨kx, 1, none⟩ = some (.pointer (some ⟨g, k * 17, none⟩)) ∧ w'.cell? ⟨rb, 0, none⟩ = some (.int .i64 (mul v.x (mul dd y))) ∧ w'.cell? ⟨rb, 1, none⟩ = some (.int .i64 (mul v.y (mul dd y))) ∧ w'.cell? ⟨rb, 2, none⟩ = some (.int .i64 (mul v.z (mul dd y)))) := fun w' o =>
    ⟨o, cell_only o (HC8.out.2.1.off 1) (by simp only [List.mem_singleton]; exact HC8.out.2.2.1), cell_only o (HC8.out.2.2.2.off 0) (by simp only [List.mem_singleton]; exact HNE.out.2.1), cell_only o (HC8.out.2.2.2.off 1) (by simp only [List.mem_singleton]; exact HNE.out.2.1), cell_only o (HC8.out.2.2.2.off 2) (by simp only [List.mem_singleton]; exact HNE.out.2.1)⟩
  have c6 := HC8.out.1.cell HO.out.2.2 (show 6 < 17 by omega); have c7 := HC8.out.1.cell HO.out.2.2 (show 7 < 17 by omega); have c8 := HC8.out.1.cell HO.out.2.2 (show 8 < 17 by omega)
  rw [← HBK.out] at c6 c7 c8
  simp only [bc] at c6 c7 c8
  refine wp_region_held_drew (S := (fun w' => Only [g] w8 w' ∧ w'.cell? ⟨kx, 1, none⟩ = some (.pointer (some ⟨g, k * 17, none⟩)) ∧ w'.cell? ⟨rb, 0, none⟩ = some (.int .i64 (mul v.x (mul dd y))) ∧ w'.cell? ⟨rb, 1, none⟩ = some (.int .i64 (mul v.y (mul dd y))) ∧ w'.cell? ⟨rb, 2, none⟩ = some (.int .i64 (mul v.z (mul dd y))))) (by kernel_rfl) ?_ (fun hHeld1 => ?_)
  · (try dsimp only); exact HK.out _ (Only.refl _ _).drew
  refine wpAnyH_take (i := 0) (v := ?_) rfl (by kernel_rfl) (by kernel_rfl) (by kernel_rfl) (fun _ _ _ h => h) (Or.inl ⟨by kernel_rfl, ?_⟩) (by assumption) ?_
  rotate_left
  · intro w'' hSw; (try dsimp only at hSw); simp only [zqa, zqb, zqc]; (go_simp <;> with_reducible rfl)
  try simp only [Act.put, zqd, zqe, zqf, zqa, zqb, zqc]
  refine wpAnyH_take (i := 1) (v := ?_) rfl (by kernel_rfl) (by kernel_rfl) (by kernel_rfl) (fun _ _ _ h => h) (Or.inl ⟨by kernel_rfl, ?_⟩) (by assumption) ?_
  rotate_left
  · intro w'' hSw; (try dsimp only at hSw); simp only [zqa, zqb, zqc]; (go_simp <;> with_reducible rfl)
  try simp only [Act.put, zqd, zqe, zqf, zqa, zqb, zqc]
  refine wpAnyH_take (i := 2) (v := ?_) rfl (by kernel_rfl) (by kernel_rfl) (by kernel_rfl) (fun _ _ _ h => h) (Or.inl ⟨by kernel_rfl, ?_⟩) (by assumption) ?_
  rotate_left
  · intro w'' hSw; (try dsimp only at hSw); simp only [zqa, zqb, zqc]; (go_simp <;> with_reducible rfl)
  try simp only [Act.put, zqd, zqe, zqf, zqa, zqb, zqc]
  refine wpAnyH_take (i := 3) (v := ?_) rfl (by kernel_rfl) (by kernel_rfl) (by kernel_rfl) (fun _ _ _ h => h) (Or.inl ⟨by kernel_rfl, ?_⟩) (by assumption) ?_
  rotate_left
  · intro w'' hSw; (try dsimp only at hSw); simp only [zqa, zqb, zqc]; (go_simp <;> with_reducible rfl)
  try simp only [Act.put, zqd, zqe, zqf, zqa, zqb, zqc]
  refine wpAnyH_take (i := 4) (v := ?_) rfl (by kernel_rfl) (by kernel_rfl) (by kernel_rfl) (fun _ _ _ h => h) (Or.inl ⟨by kernel_rfl, ?_⟩) (by assumption) ?_
  rotate_left
  · intro w'' hSw; (try dsimp only at hSw); simp only [zqa, zqb, zqc]; (go_simp <;> with_reducible rfl)
  try simp only [Act.put, zqd, zqe, zqf, zqa, zqb, zqc]
  refine wpAnyH_take (i := 5) (v := ?_) rfl (by kernel_rfl) (by kernel_rfl) (by kernel_rfl) (fun _ _ _ h => h) (Or.inl ⟨by kernel_rfl, ?_⟩) (by assumption) ?_
  rotate_left
  · intro w'' hSw; (try dsimp only at hSw); simp only [zqa, zqb, zqc]; (go_simp <;> with_reducible rfl)
  try simp only [Act.put, zqd, zqe, zqf, zqa, zqb, zqc]
  refine wpAnyH_take (i := 7) (v := ?_) rfl (by kernel_rfl) (by kernel_rfl) (by kernel_rfl) (fun _ _ _ h => h) (Or.inl ⟨by kernel_rfl, ?_⟩) (by assumption) ?_
  rotate_left
  · intro w'' hSw; (try dsimp only at hSw); simp only [zqa, zqb, zqc]; (go_simp <;> with_reducible rfl)
  try simp only [Act.put, zqd, zqe, zqf, zqa, zqb, zqc]
  refine wpAnyH_ready (rs := [6]) (by kernel_rfl) (by simp) ?_
  refine AllReadyH.cons rfl (fun K hK => ?_) AllReadyH.nil
  first | (with_reducible refine iteYes ?hcx ?htx; case hcx => kernel_rfl) | rw [if_pos (by rfl)]
  simp only [zqa, zqb, zqc]
  go_simp
  skip
  try go_wp2_with fail
  refine hK.out _ _ ?_ (fun hHeld2 => ?_)
  · (try dsimp only); exact HK.out _ (Only.refl _ _).drew
  clear hK K hHeld1
  try simp only [Act.put, zqd, zqe, zqf, zqa, zqb, zqc]
  refine wpAnyH_ready (rs := [8]) (by kernel_rfl) (by simp) ?_
  refine AllReadyH.cons rfl (fun K hK => ?_) AllReadyH.nil
  first | (with_reducible refine iteYes ?hcx ?htx; case hcx => kernel_rfl) | rw [if_pos (by rfl)]
  simp only [zqa, zqb, zqc]
  go_simp
  (go_at_call 13; refine (plus_calls _ _ _ _ _ _ _).mono ?_; rintro e w9 ⟨rfl, k6⟩)
  try go_wp2_with fail
  refine hK.out _ _ ?_ (fun hHeld3 => ?_)
  · (try dsimp only); exact HK.out _ (Only.of_kept ((Kept.refl w8).drew.trans k6))
  clear hK K hHeld2
  try simp only [Act.put, zqd, zqe, zqf, zqa, zqb, zqc]
  refine wpAnyH_ready (rs := [9]) (by kernel_rfl) (by simp) ?_
  refine AllReadyH.cons rfl (fun K hK => ?_) AllReadyH.nil
  first | (with_reducible refine iteYes ?hcx ?htx; case hcx => kernel_rfl) | rw [if_pos (by rfl)]
  simp only [zqa, zqb, zqc]
  go_simp
  (go_at_call 12; refine (clamp_calls _ _ _ _ _ (by decide)).mono ?_; rintro e w10 ⟨rfl, k7⟩)
  try go_wp2_with fail
  refine hK.out _ _ ?_ (fun hHeld4 => ?_)
  · (try dsimp only); exact HK.out _ (Only.of_kept (((Kept.refl w8).drew.trans k6).trans k7))
  clear hK K hHeld3
  try simp only [Act.put, zqd, zqe, zqf, zqa, zqb, zqc]
  simp only [bound_place]
  have K7 : Hid (Kept w8 w10) := ((Kept.refl w8).drew.trans k6).trans k7
  have e6 := kept_cell K7.out c6; have e7 := kept_cell K7.out c7; have e8 := kept_cell K7.out c8
  have f6 := kept_frozen K7.out (HC8.out.1.free (k * 17 + 6)); have f7 := kept_frozen K7.out (HC8.out.1.free (k * 17 + 7)); have f8 := kept_frozen K7.out (HC8.out.1.free (k * 17 + 8))
  clear k6 k7 c6 c7 c8
  refine wpAnyH_take (i := 10) (v := ?_) rfl (by kernel_rfl) (by kernel_rfl) (by kernel_rfl) (fun _ _ _ h => h) (Or.inl ⟨by kernel_rfl, ?_⟩) (by assumption) ?_
  rotate_left
  · intro w'' hSw; (try dsimp only at hSw); simp only [zqa, zqb, zqc]; (go_simp <;> with_reducible rfl)
  try simp only [Act.put, zqd, zqe, zqf, zqa, zqb, zqc]
  refine wpAnyH_take (i := 11) (v := ?_) rfl (by kernel_rfl) (by kernel_rfl) (by kernel_rfl) (fun _ _ _ h => h) (Or.inl ⟨by kernel_rfl, ?_⟩) (by assumption) ?_
  rotate_left
  · intro w'' hSw; (try dsimp only at hSw); simp only [zqa, zqb, zqc]; (go_simp <;> with_reducible rfl)
  try simp only [Act.put, zqd, zqe, zqf, zqa, zqb, zqc]
  refine wpAnyH_ready (rs := [12]) (by kernel_rfl) (by simp) ?_
  refine AllReadyH.cons rfl (fun K hK => ?_) AllReadyH.nil
  first | (with_reducible refine iteYes ?hcx ?htx; case hcx => kernel_rfl) | rw [if_pos (by rfl)]
  simp only [zqa, zqb, zqc]
  go_simp
  refine hK.out _ _ ?_ (fun hHeld5 => ?_)
  · (try dsimp only); exact HK.out _ ((((Only.of_kept K7.out).setCell (p := ⟨g, k * 17 + 6, none⟩) (Or.inl (by simp)) _).setCell (p := ⟨g, k * 17 + 7, none⟩) (Or.inl (by simp)) _).setCell (p := ⟨g, k * 17 + 8, none⟩) (Or.inl (by simp)) _)
  clear hK K
  try simp only [Act.put, zqd, zqe, zqf, zqa, zqb, zqc]
  refine wpAnyH_done (by kernel_rfl) ?_ _
  have HB9 : Hid (OwnB (((w10.setCell ⟨g, k * 17 + 6, none⟩ (.int .i64 (cl 65536000 (add bk.ax (mul v.x (mul dd y)))))).setCell ⟨g, k * 17 + 7, none⟩ (.int .i64 (cl 65536000 (add bk.ay (mul v.y (mul dd y)))))).setCell ⟨g, k * 17 + 8, none⟩ (.int .i64 (cl 65536000 (add bk.az (mul v.z (mul dd y)))))) g n (upd (B1) k (forthX (B1 k) v (mul dd y))) ∧ Only [g] w8 (((w10.setCell ⟨g, k * 17 + 6, none⟩ (.int .i64 (cl 65536000 (add bk.ax (mul v.x (mul dd y)))))).setCell ⟨g, k * 17 + 7, none⟩ (.int .i64 (cl 65536000 (add bk.ay (mul v.y (mul dd y)))))).setCell ⟨g, k * 17 + 8, none⟩ (.int .i64 (cl 65536000 (add bk.az (mul v.z (mul dd y))))))) := by
    refine ⟨?_, (((Only.of_kept K7.out).setCell (p := ⟨g, k * 17 + 6, none⟩) (Or.inl (by simp)) _).setCell (p := ⟨g, k * 17 + 7, none⟩) (Or.inl (by simp)) _).setCell (p := ⟨g, k * 17 + 8, none⟩) (Or.inl (by simp)) _⟩
    have h1 := (HC8.out.1.only (Only.of_kept (D := []) K7.out) (by simp)).putAt HO.out.2.2 (cl 65536000 (add bk.ax (mul v.x (mul dd y)))) (cl 65536000 (add bk.ay (mul v.y (mul dd y)))) (cl 65536000 (add bk.az (mul v.z (mul dd y))))
    rw [HBK.out] at h1 ⊢
    exact h1
  clear hHeld5 HK e6 e7 e8 f6 f7 f8 K7
  go_wp2_with fail
  refine bodyPost_end (results_none rfl _ _ _) rfl ?_
  refine ⟨rfl, ?_, ?_⟩
  · have e1 : partX B i k x y al v dp = upd B1 k (forthX (B1 k) v (mul dd y)) := by rw [HB1.out, HD.out]; rfl
    rw [e1]; exact HB9.out.1
  · exact ((((Only.refl [g] w).trans (H0.out.1.mono (by simp))).trans (H5.out.1.mono (by simp))).trans HB8.out.2).trans HB9.out.2
end Go.Proofs.YtbfkloclmlnahabGreat

namespace Go.Proofs.YtbfkloclmlnahabGreat
open Go.ChangeShapes Go.WideShapes Go.ChangeAt Go.RowKit
set_option linter.unusedVariables false
set_option linter.unusedSimpArgs false

theorem flat_at (g : Nat) : ∀ (ms : List Mt) (j q : Nat) (hj : j < ms.length), q < 9 → (ms.flatMap (mtL g))[j * 9 + q]? = (mtL g ms[j])[q]?
  | [], j, q, hj, _ => by simp at hj
  | t :: ms, 0, q, hj, hq => by
    rw [List.flatMap_cons, List.getElem?_append_left (by simp [mtL]; omega)]
    simp
  | t :: ms, j + 1, q, hj, hq => by
    have hj' : j < ms.length := by simpa using hj
    rw [List.flatMap_cons, List.getElem?_append_right (by simp [mtL]; omega)]
    have : (j + 1) * 9 + q - (mtL g t).length = j * 9 + q := by simp [mtL]; omega
    rw [this, flat_at g ms j q hj' hq]
    simp
theorem SlMt.shape {w : World} {v : Value} {g : Nat} {ms : List Mt} (h : SlMt w v g ms) : ∃ a c, v = .slice a ms.length c ∧ ∀ j (hj : j < ms.length), ∃ b, a = some ⟨b, 0, none⟩ ∧ b ∈ ownM v ∧ ∀ q, q < 9 → w.cell? ⟨b, j * 9 + q, none⟩ = (mtL g ms[j])[q]? := by
  obtain ⟨hl, ⟨rfl, hn⟩ | ⟨b, cap, cur, rfl, hb, hh, h1, h2, h3, h4⟩⟩ := h
  · exact ⟨none, 0, by rw [hn], fun j hj => by omega⟩
  · refine ⟨_, cap, rfl, fun j hj => ⟨b, rfl, by simp [ownM, Value.ownBlock], fun q hq => ?_⟩⟩
    have hf := flat_at g ms j q hj hq
    rw [← h4, List.getElem?_take_of_lt (by omega), Array.getElem?_toList] at hf
    simp [World.cell?, hh, hf]
def applyM (B : Nat → Bd) (t : Mt) : Nat → Bd := if 655 < t.deep then partX B t.i t.k t.x t.y t.all t.way t.deep else B
theorem meetX1_congr {n : Nat} {B C : Nat → Bd} (h1 : ∀ i, (B i).id = (C i).id) (h2 : ∀ i, (B i).ms = (C i).ms) (t : Tc) : meetX1 n B t = meetX1 n C t := by
  unfold meetX1
  rw [findX_congr h1 n, findX_congr h1 n]
  simp only [h2]
theorem fold_step (n : Nat) (P : Nat → Bd) (t : Tc) : (meetX1 n P t).foldl applyM P = stepX n P t := by
  unfold meetX1 stepX
  cases findX P t.a n with
  | none => rfl
  | some i =>
    cases findX P t.b n with
    | none => rfl
    | some k =>
      simp only
      by_cases e : i = k
      · simp [e]
      · by_cases ha : 0 < add (lightX (P i).ms) (lightX (P k).ms)
        · by_cases hd : t.deep ≤ 655
          · have hd' : ¬ 655 < t.deep := by omega
            simp [e, ha, hd, hd', applyM]
          · have hd' : 655 < t.deep := by omega
            simp [e, ha, hd, hd', applyM]
        · simp [e, ha]
theorem fold_places (n : Nat) (B : Nat → Bd) (T : Nat → Tc) : ∀ m, (meetsX n B T m).foldl applyM B = placesX n B T m
  | 0 => rfl
  | m + 1 => by
    simp only [meetsX, placesX, List.foldl_append, fold_places n B T m]
    rw [meetX1_congr (fun i => ((placesX_id n B T m i).1).symm) (fun i => ((placesX_id n B T m i).2).symm) (T m)]
    exact fold_step n _ (T m)
def SlArg (a : Option Addr) (n c : Nat) : Prop := a = none → n = 0 ∧ c = 0
/-- Likewise, and the slice is one's own. -/
def OwnPost (n : Nat) (C : Nat → Bd) (w : World) (e : Ending) (w' : World) : Prop := ∃ a g c, e = .returned (.slice a n c) ∧ OwnS w' a g n C ∧ Only [] w w' ∧ w.heap.size ≤ g ∧ SlArg a n c
structure PW (w w1 : World) (a : Option Addr) (g n : Nat) (C : Nat → Bd) (v : Value) (ms : List Mt) (wr : World) : Prop where
  own : OwnS wr a g n C
  sl : SlMt wr v g ms
  only : Only [] w wr
  new : w.heap.size ≤ g
  apart : n ≠ 0 → ∀ b ∈ ownM v, b ≠ g
theorem PW.keep {w w1 : World} {a : Option Addr} {g n : Nat} {C : Nat → Bd} {v : Value} {ms : List Mt} {wr w' : World} (h : PW w w1 a g n C v ms wr) (o : Only [] wr w') : PW w w1 a g n C v ms w' :=
  ⟨h.own.only o (by simp), h.sl.only o (by simp), h.only.trans o, h.new, h.apart⟩
theorem PW.turn {w w1 : World} {a : Option Addr} {g n : Nat} {C D : Nat → Bd} {v : Value} {ms : List Mt} {wr w' : World} (h : PW w w1 a g n C v ms wr) (h0 : n ≠ 0) (ha : a = some ⟨g, 0, none⟩) (hO : OwnB w' g n D) (o : Only [g] wr w') : PW w w1 a g n D v ms w' :=
  ⟨Or.inr ⟨ha, hO⟩, h.sl.only o (fun b hb => by simp only [List.mem_singleton]; exact h.apart h0 b hb), h.only.then o (fun b hb => by simp only [List.mem_singleton] at hb; subst hb; exact Or.inr h.new), h.new, h.apart⟩
set_option maxRecDepth 100000 in
set_option maxHeartbeats 4000000 in
theorem placesOwn_calls (a b : Option Addr) (n c m d : Nat) (B : Nat → Bd) (T : Nat → Tc) (w : World) (hn : n ≤ 60) (hm : m ≤ 3600) (h : BodiesAt w a n B) (hs : SlArg a n c) (ht : TouchesAt w b m T) (hal : Alone n B) (hid : ∀ j, j < n → In64S (B j).id) :
    Calls Tryz.prog 24 #[.slice a n c, .slice b m d] w (OwnPost n (placesX n B T m) w) := by
  have HB : Hid (BodiesAt w a n B ∧ SlArg a n c ∧ TouchesAt w b m T ∧ Alone n B ∧ (∀ j, j < n → In64S (B j).id) ∧ n ≤ 60 ∧ m ≤ 3600) := ⟨h, hs, ht, hal, hid, hn, hm⟩
  clear h hs ht hal hid hn hm
  go_enter Tryz.func24, Tryz.ntmps24
  go_wp2_with fail
  refine (fresh_calls a n c B w (by have := HB.out.2.2.2.2.2.1; omega) HB.out.1 HB.out.2.1).mono ?_
  rintro e w1 ⟨a1, g, c1, rfl, hO, o1, hg, hsl0⟩
  have HSL0 : Hid (SlArg a1 n c1) := hsl0
  clear hsl0
  have H1 : Hid (OwnS w1 a1 g n B ∧ Only [] w w1 ∧ w.heap.size ≤ g) := ⟨hO, o1, hg⟩
  clear hO o1 hg
  go_wp2_with fail
  refine (meetings_calls a1 b g n c1 m d B T w1 HB.out.2.2.2.2.2.1 HB.out.2.2.2.2.2.2 H1.out.1 (HB.out.2.2.1.only H1.out.2.1) HB.out.2.2.2.1 HB.out.2.2.2.2.1).mono ?_
  rintro e w2 ⟨v, rfl, hsl, o2, hv⟩
  have HF : Hid ((meetsX n B T m).foldl applyM B = placesX n B T m) := fold_places n B T m
  have HL : Hid ((∀ t ∈ meetsX n B T m, t.i < n ∧ t.k < n ∧ t.i ≠ t.k) ∧ (meetsX n B T m).length ≤ 3600) := ⟨fun t ht => meetsX_lt ht, Nat.le_trans (meetsX_len n B T m) HB.out.2.2.2.2.2.2⟩
  generalize meetsX n B T m = ms at HF HL hsl
  obtain ⟨av, cv, rfl, hsh⟩ := hsl.shape
  have H2 : Hid (PW w w1 a1 g n B (.slice av ms.length cv) ms w2) := by
    refine ⟨H1.out.1.only o2 (by simp), hsl, H1.out.2.1.trans o2, H1.out.2.2, fun h0 x hx => ?_⟩
    rcases H1.out.1 with q | q
    · exact absurd q h0
    · have h1 := hv x hx
      have h2 := q.2.lt
      omega
  clear hsl hsh o2 hv H1
  go_wp2_with fail
  go_loopg [14] ms.length (fun k idx wr => ∃ j : Nat, idx = .int .i64 (j : Int) ∧ Hid (j ≤ ms.length ∧ k = ms.length - j) ∧ Hid (PW w w1 a1 g n ((ms.take j).foldl applyM B) (.slice av ms.length cv) ms wr))
  case atStart => exact ⟨0, rfl, ⟨by omega, rfl⟩, H2⟩
  case round =>
    obtain ⟨j, rfl, H4, HP⟩ := hrel
    have hl60 := HL.out.2
    by_cases hj : j < ms.length
    · have hjl : (j : Int) < (ms.length : Int) := by omega
      obtain ⟨a', c', ev, hsh⟩ := HP.out.sl.shape
      obtain ⟨bm, ha', hbm, hc⟩ := hsh j hj
      injection ev with ev1 ev2 ev3
      rw [← ev1] at ha'
      subst ha'
      have htk : (ms.take (j + 1)).foldl applyM B = applyM ((ms.take j).foldl applyM B) ms[j] := by
        rw [List.take_add_one, List.getElem?_eq_getElem hj, Option.toList_some, List.foldl_append]; rfl
      have HJ := HL.out.1 ms[j] (List.getElem_mem hj)
      generalize ms[j] = t at hc htk HJ
      have HE : Hid ((ms.take (j + 1)).foldl applyM B = applyM ((ms.take j).foldl applyM B) t ∧ t.i < n ∧ t.k < n) := ⟨htk, HJ.1, HJ.2.1⟩
      have q0 := hc 0 (by omega); have q1 := hc 1 (by omega); have q2 := hc 2 (by omega); have q3 := hc 3 (by omega); have q4 := hc 4 (by omega); have q5 := hc 5 (by omega); have q6 := hc 6 (by omega); have q7 := hc 7 (by omega); have q8 := hc 8 (by omega)
      simp only [mtL, zqh, zqi, Nat.add_zero] at q0 q1 q2 q3 q4 q5 q6 q7 q8
      clear hc htk HJ hsh ev1 ev2 ev3 hbm
      generalize hC : (ms.take j).foldl applyM B = C at HP HE
      clear hC
      by_cases hd : 655 < t.deep
      · have HA : Hid (applyM C t = partX C t.i t.k t.x t.y t.all t.way t.deep) := if_pos hd
        go_wp2_with fail
        refine (show Calls Tryz.prog 41 #[.agg #[.pointer (some ⟨g, t.i * 17, none⟩), .pointer (some ⟨g, t.k * 17, none⟩), .int .i64 (t.x), .int .i64 (t.y), .int .i64 (t.all), .int .i64 (t.way.x), .int .i64 (t.way.y), .int .i64 (t.way.z), .int .i64 (t.deep)]] _ _ from part_calls g n t.i t.k t.x t.y t.all t.way t.deep C _ (by
          rcases HP.out.own with q | q
          · have := HE.out.2.1; omega
          · exact q.2.only ((Only.refl [] wr).alloc _) (by simp)) HE.out.2.1 HE.out.2.2).mono ?_
        rintro e w5 ⟨rfl, hO5, o5⟩
        have H5 : Hid (PW w w1 a1 g n (partX C t.i t.k t.x t.y t.all t.way t.deep) (.slice (some ⟨bm, 0, none⟩) ms.length cv) ms w5) := by
          have h0 : n ≠ 0 := by have := HE.out.2.1; omega
          have ha : a1 = some ⟨g, 0, none⟩ := by
            rcases HP.out.own with q | q
            · exact absurd q h0
            · exact q.1
          exact (HP.out.keep ((Only.refl [] wr).alloc _)).turn h0 ha hO5 o5
        clear hO5 o5 q0 q1 q2 q3 q4 q5 q6 q7 q8
        go_wp2_with fail
        go_roundg (ms.length - (j + 1))
        case measure => have := H4.out.2; omega
        case rel => exact ⟨j + 1, by go_num, ⟨by omega, rfl⟩, by rw [HE.out.1, HA.out]; exact H5⟩
      · have HA : Hid (applyM C t = C) := if_neg hd
        go_wp2_with fail
        go_roundg (ms.length - (j + 1))
        case measure => have := H4.out.2; omega
        case rel => exact ⟨j + 1, by go_num, ⟨by omega, rfl⟩, by rw [HE.out.1, HA.out]; exact (HP.out.keep ((Only.refl [] wr).alloc _) : PW ..)⟩
    · have hjl : ¬ (j : Int) < (ms.length : Int) := by omega
      have HE : Hid ((ms.take j).foldl applyM B = placesX n B T m) := by
        show (ms.take j).foldl applyM B = placesX n B T m
        rw [List.take_of_length_le (by omega)]; exact HF.out
      go_wp2_with fail
      go_ret
      refine ⟨a1, g, c1, rfl, ?_, HP.out.only, HP.out.new, HSL0.out⟩
      rw [← HE.out]; exact HP.out.own
end Go.Proofs.YtbfkloclmlnahabGreat

namespace Go.Proofs.YtbfkloclmlnahabGreat
open Go.ChangeShapes Go.WideShapes Go.ChangeAt Go.RowKit
set_option linter.unusedVariables false
set_option linter.unusedSimpArgs false

end Go.Proofs.YtbfkloclmlnahabGreat

namespace Go.Proofs.YtbfkloclmlnahabGreat
open Go.ChangeShapes Go.WideShapes Go.ChangeAt Go.RowKit
set_option linter.unusedVariables false
set_option linter.unusedSimpArgs false

def lessV (q : Bd) (a b c m : Int) : Bd := spX q (sub q.vx (mul a m)) (sub q.vy (mul b m)) (sub q.vz (mul c m))
def moreV (q : Bd) (a b c m : Int) : Bd := spX q (add q.vx (mul a m)) (add q.vy (mul b m)) (add q.vz (mul c m))
/-- Two give each other j by a way. -/
def giveX (B : Nat → Bd) (i k : Nat) (x y a b c j : Int) : Nat → Bd :=
  let B1 := upd B i (lessV (B i) a b c (mul j x))
  upd B1 k (moreV (B1 k) a b c (mul j y))
def SpAt (w' : World) (g i k : Nat) (p q : Bd) : Prop := w'.cell? ⟨g, i * 17 + 9, none⟩ = some (.int .i64 (p.vx)) ∧ w'.cell? ⟨g, i * 17 + 10, none⟩ = some (.int .i64 (p.vy)) ∧ w'.cell? ⟨g, i * 17 + 11, none⟩ = some (.int .i64 (p.vz)) ∧ w'.cell? ⟨g, k * 17 + 9, none⟩ = some (.int .i64 (q.vx)) ∧ w'.cell? ⟨g, k * 17 + 10, none⟩ = some (.int .i64 (q.vy)) ∧ w'.cell? ⟨g, k * 17 + 11, none⟩ = some (.int .i64 (q.vz))
theorem VecAt.free {w : World} {b : Nat} {x y z : Int} (h : VecAt w b x y z) (j : Nat) : w.frozen? ⟨b, j, none⟩ = false := by
  unfold VecAt at h; simp [World.frozen?, h]
def shareX (b : Int) : Bool := decide (0 ≤ b ∧ b ≤ 65536)
theorem share_calls (b : Int) (w : World) : Calls Tryz.prog 55 #[.int .i64 b] w fun e w' => e = .returned (.bool (shareX b)) ∧ w' = w := by
  by_cases h1 : 0 ≤ b
  · by_cases h2 : b ≤ 65536
    · have HR : Hid (shareX b = true) := by show shareX b = true; simp [shareX, h1, h2]
      go_enter Tryz.func55, Tryz.ntmps55
      go_wp2_with fail
      go_ret
      exact ⟨by rw [HR.out]; rfl, rfl⟩
    · have HR : Hid (shareX b = false) := by show shareX b = false; simp [shareX, h1]; omega
      go_enter Tryz.func55, Tryz.ntmps55
      go_wp2_with fail
      go_ret
      exact ⟨by rw [HR.out]; rfl, rfl⟩
  · have HR : Hid (shareX b = false) := by show shareX b = false; simp [shareX]; omega
    go_enter Tryz.func55, Tryz.ntmps55
    go_wp2_with fail
    go_ret
    exact ⟨by rw [HR.out]; rfl, rfl⟩
def rightX (b r k : Int) : Bool := shareX b && shareX r && decide (1 ≤ k) && decide (k ≤ 20)
theorem lawRight_calls (b r k : Int) (w : World) : Calls Tryz.prog 33 #[.agg #[.int .i64 b, .int .i64 r, .int .i64 k]] w fun e w' => e = .returned (.bool (rightX b r k)) ∧ Kept w w' := by
  have HR : Hid (rightX b r k = (shareX b && shareX r && decide (1 ≤ k) && decide (k ≤ 20))) := rfl
  go_enter Tryz.func33, Tryz.ntmps33
  go_wp2_with fail
  refine (share_calls b _).mono ?_
  rintro e w1 ⟨rfl, hw⟩
  subst hw
  generalize shareX b = sb at HR
  cases sb with
  | false =>
    go_wp2_with fail
    go_ret
    exact ⟨by rw [HR.out]; rfl, (Kept.refl _).alloc _ _⟩
  | true =>
    go_wp2_with fail
    refine (share_calls r _).mono ?_
    rintro e w1 ⟨rfl, hw⟩
    subst hw
    generalize shareX r = sr at HR
    cases sr with
    | false =>
      go_wp2_with fail
      go_ret
      exact ⟨by rw [HR.out]; rfl, (Kept.refl _).alloc _ _⟩
    | true =>
      by_cases h1 : 1 ≤ k
      · by_cases h2 : k ≤ 20
        · have HQ : Hid (rightX b r k = true) := by show _ = _; rw [HR.out]; simp [h1, h2]
          go_wp2_with fail
          go_ret
          exact ⟨by rw [HQ.out]; first | rfl | simp [h2] | simp [h1], (Kept.refl _).alloc _ _⟩
        · have HQ : Hid (rightX b r k = false) := by show _ = _; rw [HR.out]; simp [h1, h2]
          go_wp2_with fail
          go_ret
          exact ⟨by rw [HQ.out]; first | rfl | simp [h2] | simp [h1], (Kept.refl _).alloc _ _⟩
      · have HQ : Hid (rightX b r k = false) := by show _ = _; rw [HR.out]; simp [h1]
        go_wp2_with fail
        go_ret
        exact ⟨by rw [HQ.out]; first | rfl | simp [h1], (Kept.refl _).alloc _ _⟩
set_option maxRecDepth 100000 in
set_option maxHeartbeats 4000000 in
theorem give_calls (g n i k : Nat) (x y al : Int) (v : V3) (dp a b c j : Int) (B : Nat → Bd) (w : World) (h : OwnB w g n B) (hi : i < n) (hk : k < n) :
    Calls Tryz.prog 65 #[.agg #[.pointer (some ⟨g, i * 17, none⟩), .pointer (some ⟨g, k * 17, none⟩), .int .i64 x, .int .i64 y, .int .i64 al, .int .i64 (v.x), .int .i64 (v.y), .int .i64 (v.z), .int .i64 dp], .agg #[.int .i64 a, .int .i64 b, .int .i64 c], .int .i64 j] w fun e w' => e = .returned (.tuple #[]) ∧ OwnB w' g n (giveX B i k x y a b c j) ∧ Only [g] w w' := by
  have HO : Hid (OwnB w g n B ∧ i < n ∧ k < n) := ⟨h, hi, hk⟩
  clear h hi hk
  go_enter Tryz.func65, Tryz.ntmps65
  go_wp2_with fail
  have H0 : Hid (Only [] w ((w.alloc (.cells #[.pointer (some ⟨g, i * 17, none⟩), .pointer (some ⟨g, k * 17, none⟩), .int .i64 x, .int .i64 y, .int .i64 al, .int .i64 (v.x), .int .i64 (v.y), .int .i64 (v.z), .int .i64 dp] 85)).alloc (.cells #[.int .i64 a, .int .i64 b, .int .i64 c] 24)) ∧ MtAt ((w.alloc (.cells #[.pointer (some ⟨g, i * 17, none⟩), .pointer (some ⟨g, k * 17, none⟩), .int .i64 x, .int .i64 y, .int .i64 al, .int .i64 (v.x), .int .i64 (v.y), .int .i64 (v.z), .int .i64 dp] 85)).alloc (.cells #[.int .i64 a, .int .i64 b, .int .i64 c] 24)) w.heap.size g i k x y al v dp) := ⟨((Only.refl [] w).alloc _).alloc _, MtAt.only (MapKept.heap_alloc w _).1 ((Only.refl [] _).alloc _) (by simp)⟩
  refine (split_calls _ _ _ _ _ _ _ _ _ a b c j _).mono ?_
  rintro e w4 ⟨rfl, k4⟩
  have H1 : Hid (Only [] w w4 ∧ MtAt w4 w.heap.size g i k x y al v dp) := ⟨H0.out.1.trans (Only.of_kept k4), H0.out.2.only (Only.of_kept (D := []) k4) (by simp)⟩
  clear k4 H0
  revert H1
  generalize hkx : w.heap.size = kx
  intro H1
  have HX : Hid (w.heap.size = kx) := hkx
  clear hkx
  go_upto_region 2 with fail
  have H5 : Hid (Only [] w ((w4.alloc (.cells #[.int .i64 (mul a (mul j x)), .int .i64 (mul b (mul j x)), .int .i64 (mul c (mul j x))] 24)).alloc (.cells #[.int .i64 (mul a (mul j y)), .int .i64 (mul b (mul j y)), .int .i64 (mul c (mul j y))] 24)) ∧ MtAt ((w4.alloc (.cells #[.int .i64 (mul a (mul j x)), .int .i64 (mul b (mul j x)), .int .i64 (mul c (mul j x))] 24)).alloc (.cells #[.int .i64 (mul a (mul j y)), .int .i64 (mul b (mul j y)), .int .i64 (mul c (mul j y))] 24)) kx g i k x y al v dp ∧ VecAt ((w4.alloc (.cells #[.int .i64 (mul a (mul j x)), .int .i64 (mul b (mul j x)), .int .i64 (mul c (mul j x))] 24)).alloc (.cells #[.int .i64 (mul a (mul j y)), .int .i64 (mul b (mul j y)), .int .i64 (mul c (mul j y))] 24)) w4.heap.size (mul a (mul j x)) (mul b (mul j x)) (mul c (mul j x)) ∧ VecAt ((w4.alloc (.cells #[.int .i64 (mul a (mul j x)), .int .i64 (mul b (mul j x)), .int .i64 (mul c (mul j x))] 24)).alloc (.cells #[.int .i64 (mul a (mul j y)), .int .i64 (mul b (mul j y)), .int .i64 (mul c (mul j y))] 24)) (w4.heap.size + 1) (mul a (mul j y)) (mul b (mul j y)) (mul c (mul j y)) ∧ w.heap.size ≤ w4.heap.size ∧ w.heap.size ≤ w4.heap.size + 1) := by
    have hs : (w4.alloc (.cells #[.int .i64 (mul a (mul j x)), .int .i64 (mul b (mul j x)), .int .i64 (mul c (mul j x))] 24)).heap.size = w4.heap.size + 1 := by simp
    have hb := (MapKept.heap_alloc (w4.alloc (.cells #[.int .i64 (mul a (mul j x)), .int .i64 (mul b (mul j x)), .int .i64 (mul c (mul j x))] 24)) (.cells #[.int .i64 (mul a (mul j y)), .int .i64 (mul b (mul j y)), .int .i64 (mul c (mul j y))] 24)).1
    rw [hs] at hb
    exact ⟨(H1.out.1.alloc _).alloc _, H1.out.2.only (((Only.refl [] w4).alloc _).alloc _) (by simp), VecAt.only (MapKept.heap_alloc w4 _).1 ((Only.refl [] _).alloc _) (by simp), hb, H1.out.1.size, Nat.le_trans H1.out.1.size (Nat.le_succ _)⟩
  clear H1
  revert H5
  generalize w4.heap.size + 1 = rb
  generalize w4.heap.size = ra
  generalize World.alloc (World.alloc w4 _) _ = w5
  intro H5
  have HNE : Hid (ra ≠ g ∧ rb ≠ g ∧ VecAt w5 rb (mul a (mul j y)) (mul b (mul j y)) (mul c (mul j y))) := by
    have hg := HO.out.1.lt
    have h2 := H5.out.2.2.2.2
    exact ⟨by omega, by omega, H5.out.2.2.2.1⟩
  have HB6 : Hid (OwnB w5 g n B ∧ MtAt w5 kx g i k x y al v dp ∧ kx ≠ g ∧ VecAt w5 ra (mul a (mul j x)) (mul b (mul j x)) (mul c (mul j x))) := by
    have hg := HO.out.1.lt
    have hx := HX.out
    exact ⟨HO.out.1.only H5.out.1 (by simp), H5.out.2.1, by omega, H5.out.2.2.1⟩
  obtain ⟨bi, hxi⟩ : ∃ bi, bi = B i := ⟨_, rfl⟩
  have HXI : Hid (bi = B i) := hxi
  clear hxi
  have HK : Hid (∀ w', Only [g] w5 w' → Only [g] w5 w' ∧ w'.cell? ⟨kx, 0, none⟩ = some (.pointer (some ⟨g, i * 17, none⟩)) ∧ w'.cell? ⟨ra, 0, none⟩ = some (.int .i64 (mul a (mul j x))) ∧ w'.cell? ⟨ra, 1, none⟩ = some (.int .i64 (mul b (mul j x))) ∧ w'.cell? ⟨ra, 2, none⟩ = some (.int .i64 (mul c (mul j x)))) := fun w' o =>
    ⟨o, cell_only o (HB6.out.2.1.off 0) (by simp only [List.mem_singleton]; exact HB6.out.2.2.1), cell_only o (HB6.out.2.2.2.off 0) (by simp only [List.mem_singleton]; exact HNE.out.1), cell_only o (HB6.out.2.2.2.off 1) (by simp only [List.mem_singleton]; exact HNE.out.1), cell_only o (HB6.out.2.2.2.off 2) (by simp only [List.mem_singleton]; exact HNE.out.1)⟩
  have c6 := HB6.out.1.cell HO.out.2.1 (show 9 < 17 by omega); have c7 := HB6.out.1.cell HO.out.2.1 (show 10 < 17 by omega); have c8 := HB6.out.1.cell HO.out.2.1 (show 11 < 17 by omega)
  rw [← HXI.out] at c6 c7 c8
  simp only [bc] at c6 c7 c8
  refine wp_region_held_drew (S := (fun w' => Only [g] w5 w' ∧ w'.cell? ⟨kx, 0, none⟩ = some (.pointer (some ⟨g, i * 17, none⟩)) ∧ w'.cell? ⟨ra, 0, none⟩ = some (.int .i64 (mul a (mul j x))) ∧ w'.cell? ⟨ra, 1, none⟩ = some (.int .i64 (mul b (mul j x))) ∧ w'.cell? ⟨ra, 2, none⟩ = some (.int .i64 (mul c (mul j x))))) (by kernel_rfl) ?_ (fun hHeld1 => ?_)
  · (try dsimp only); exact HK.out _ (Only.refl _ _).drew
  refine wpAnyH_take (i := 0) (v := ?_) rfl (by kernel_rfl) (by kernel_rfl) (by kernel_rfl) (fun _ _ _ h => h) (Or.inl ⟨by kernel_rfl, ?_⟩) (by assumption) ?_
  rotate_left
  · intro w'' hSw; (try dsimp only at hSw); simp only [zqa, zqb, zqc]; (go_simp <;> with_reducible rfl)
  try simp only [Act.put, zqd, zqe, zqf, zqa, zqb, zqc]
  refine wpAnyH_take (i := 1) (v := ?_) rfl (by kernel_rfl) (by kernel_rfl) (by kernel_rfl) (fun _ _ _ h => h) (Or.inl ⟨by kernel_rfl, ?_⟩) (by assumption) ?_
  rotate_left
  · intro w'' hSw; (try dsimp only at hSw); simp only [zqa, zqb, zqc]; (go_simp <;> with_reducible rfl)
  try simp only [Act.put, zqd, zqe, zqf, zqa, zqb, zqc]
  refine wpAnyH_take (i := 2) (v := ?_) rfl (by kernel_rfl) (by kernel_rfl) (by kernel_rfl) (fun _ _ _ h => h) (Or.inl ⟨by kernel_rfl, ?_⟩) (by assumption) ?_
  rotate_left
  · intro w'' hSw; (try dsimp only at hSw); simp only [zqa, zqb, zqc]; (go_simp <;> with_reducible rfl)
  try simp only [Act.put, zqd, zqe, zqf, zqa, zqb, zqc]
  refine wpAnyH_take (i := 3) (v := ?_) rfl (by kernel_rfl) (by kernel_rfl) (by kernel_rfl) (fun _ _ _ h => h) (Or.inl ⟨by kernel_rfl, ?_⟩) (by assumption) ?_
  rotate_left
  · intro w'' hSw; (try dsimp only at hSw); simp only [zqa, zqb, zqc]; (go_simp <;> with_reducible rfl)
  try simp only [Act.put, zqd, zqe, zqf, zqa, zqb, zqc]
  refine wpAnyH_take (i := 4) (v := ?_) rfl (by kernel_rfl) (by kernel_rfl) (by kernel_rfl) (fun _ _ _ h => h) (Or.inl ⟨by kernel_rfl, ?_⟩) (by assumption) ?_
  rotate_left
  · intro w'' hSw; (try dsimp only at hSw); simp only [zqa, zqb, zqc]; (go_simp <;> with_reducible rfl)
  try simp only [Act.put, zqd, zqe, zqf, zqa, zqb, zqc]
  refine wpAnyH_take (i := 5) (v := ?_) rfl (by kernel_rfl) (by kernel_rfl) (by kernel_rfl) (fun _ _ _ h => h) (Or.inl ⟨by kernel_rfl, ?_⟩) (by assumption) ?_
  rotate_left
  · intro w'' hSw; (try dsimp only at hSw); simp only [zqa, zqb, zqc]; (go_simp <;> with_reducible rfl)
  try simp only [Act.put, zqd, zqe, zqf, zqa, zqb, zqc]
  refine wpAnyH_take (i := 7) (v := ?_) rfl (by kernel_rfl) (by kernel_rfl) (by kernel_rfl) (fun _ _ _ h => h) (Or.inl ⟨by kernel_rfl, ?_⟩) (by assumption) ?_
  rotate_left
  · intro w'' hSw; (try dsimp only at hSw); simp only [zqa, zqb, zqc]; (go_simp <;> with_reducible rfl)
  try simp only [Act.put, zqd, zqe, zqf, zqa, zqb, zqc]
  refine wpAnyH_ready (rs := [6]) (by kernel_rfl) (by simp) ?_
  refine AllReadyH.cons rfl (fun K hK => ?_) AllReadyH.nil
  first | (with_reducible refine iteYes ?hcx ?htx; case hcx => kernel_rfl) | rw [if_pos (by rfl)]
  simp only [zqa, zqb, zqc]
  go_simp
  skip
  try go_wp2_with fail
  refine hK.out _ _ ?_ (fun hHeld2 => ?_)
  · (try dsimp only); exact HK.out _ (Only.refl _ _).drew
  clear hK K hHeld1
  try simp only [Act.put, zqd, zqe, zqf, zqa, zqb, zqc]
  refine wpAnyH_ready (rs := [8]) (by kernel_rfl) (by simp) ?_
  refine AllReadyH.cons rfl (fun K hK => ?_) AllReadyH.nil
  first | (with_reducible refine iteYes ?hcx ?htx; case hcx => kernel_rfl) | rw [if_pos (by rfl)]
  simp only [zqa, zqb, zqc]
  go_simp
  (go_at_call 52; refine (minus_calls _ _ _ _ _ _ _).mono ?_; rintro e w7 ⟨rfl, k6⟩)
  try go_wp2_with fail
  refine hK.out _ _ ?_ (fun hHeld3 => ?_)
  · (try dsimp only); exact HK.out _ (Only.of_kept ((Kept.refl w5).drew.trans k6))
  clear hK K hHeld2
  try simp only [Act.put, zqd, zqe, zqf, zqa, zqb, zqc]
  have K7 : Hid (Kept w5 w7) := (Kept.refl w5).drew.trans k6
  have e6 := kept_cell K7.out c6; have e7 := kept_cell K7.out c7; have e8 := kept_cell K7.out c8
  have f6 := kept_frozen K7.out (HB6.out.1.free (i * 17 + 9)); have f7 := kept_frozen K7.out (HB6.out.1.free (i * 17 + 10)); have f8 := kept_frozen K7.out (HB6.out.1.free (i * 17 + 11))
  clear k6 c6 c7 c8
  refine wpAnyH_take (i := 9) (v := ?_) rfl (by kernel_rfl) (by kernel_rfl) (by kernel_rfl) (fun _ _ _ h => h) (Or.inl ⟨by kernel_rfl, ?_⟩) (by assumption) ?_
  rotate_left
  · intro w'' hSw; (try dsimp only at hSw); simp only [zqa, zqb, zqc]; (go_simp <;> with_reducible rfl)
  try simp only [Act.put, zqd, zqe, zqf, zqa, zqb, zqc]
  refine wpAnyH_take (i := 10) (v := ?_) rfl (by kernel_rfl) (by kernel_rfl) (by kernel_rfl) (fun _ _ _ h => h) (Or.inl ⟨by kernel_rfl, ?_⟩) (by assumption) ?_
  rotate_left
  · intro w'' hSw; (try dsimp only at hSw); simp only [zqa, zqb, zqc]; (go_simp <;> with_reducible rfl)
  try simp only [Act.put, zqd, zqe, zqf, zqa, zqb, zqc]
  refine wpAnyH_ready (rs := [11]) (by kernel_rfl) (by simp) ?_
  refine AllReadyH.cons rfl (fun K hK => ?_) AllReadyH.nil
  first | (with_reducible refine iteYes ?hcx ?htx; case hcx => kernel_rfl) | rw [if_pos (by rfl)]
  simp only [zqa, zqb, zqc]
  go_simp
  refine hK.out _ _ ?_ (fun hHeld4 => ?_)
  · (try dsimp only); exact HK.out _ ((((Only.of_kept K7.out).setCell (p := ⟨g, i * 17 + 9, none⟩) (Or.inl (by simp)) _).setCell (p := ⟨g, i * 17 + 10, none⟩) (Or.inl (by simp)) _).setCell (p := ⟨g, i * 17 + 11, none⟩) (Or.inl (by simp)) _)
  clear hK K
  try simp only [Act.put, zqd, zqe, zqf, zqa, zqb, zqc]
  refine wpAnyH_done (by kernel_rfl) ?_ _
  have HB8 : Hid (OwnB (((w7.setCell ⟨g, i * 17 + 9, none⟩ (.int .i64 (sub bi.vx (mul a (mul j x))))).setCell ⟨g, i * 17 + 10, none⟩ (.int .i64 (sub bi.vy (mul b (mul j x))))).setCell ⟨g, i * 17 + 11, none⟩ (.int .i64 (sub bi.vz (mul c (mul j x))))) g n (upd (B) i (lessV (B i) a b c (mul j x))) ∧ Only [g] w5 (((w7.setCell ⟨g, i * 17 + 9, none⟩ (.int .i64 (sub bi.vx (mul a (mul j x))))).setCell ⟨g, i * 17 + 10, none⟩ (.int .i64 (sub bi.vy (mul b (mul j x))))).setCell ⟨g, i * 17 + 11, none⟩ (.int .i64 (sub bi.vz (mul c (mul j x)))))) := by
    refine ⟨?_, (((Only.of_kept K7.out).setCell (p := ⟨g, i * 17 + 9, none⟩) (Or.inl (by simp)) _).setCell (p := ⟨g, i * 17 + 10, none⟩) (Or.inl (by simp)) _).setCell (p := ⟨g, i * 17 + 11, none⟩) (Or.inl (by simp)) _⟩
    have h1 := (HB6.out.1.only (Only.of_kept (D := []) K7.out) (by simp)).putSp HO.out.2.1 (sub bi.vx (mul a (mul j x))) (sub bi.vy (mul b (mul j x))) (sub bi.vz (mul c (mul j x)))
    rw [HXI.out] at h1 ⊢
    exact h1
  clear hHeld4 HK e6 e7 e8 f6 f7 f8 K7
  revert HB8
  generalize World.setCell (World.setCell (World.setCell w7 _ _) _ _) _ _ = w8
  intro HB8
  obtain ⟨B1, hB1⟩ : ∃ B1, B1 = upd B i (lessV (B i) a b c (mul j x)) := ⟨_, rfl⟩
  rw [← hB1] at HB8
  have HB1 : Hid (B1 = upd B i (lessV (B i) a b c (mul j x))) := hB1
  clear hB1
  have HC8 : Hid (OwnB w8 g n B1 ∧ MtAt w8 kx g i k x y al v dp ∧ kx ≠ g ∧ VecAt w8 rb (mul a (mul j y)) (mul b (mul j y)) (mul c (mul j y))) := ⟨HB8.out.1, HB6.out.2.1.only HB8.out.2 (by simp only [List.mem_singleton]; exact HB6.out.2.2.1), HB6.out.2.2.1, HNE.out.2.2.only HB8.out.2 (by simp only [List.mem_singleton]; exact HNE.out.2.1)⟩
  go_upto_region 3 with fail
  obtain ⟨bk, hxk⟩ : ∃ bk, bk = B1 k := ⟨_, rfl⟩
  have HXK : Hid (bk = B1 k) := hxk
  clear hxk
  have HK : Hid (∀ w', Only [g] w8 w' → Only [g] w8 w' ∧ w'.cell? ⟨kx, 1, none⟩ = some (.pointer (some ⟨g, k * 17, none⟩)) ∧ w'.cell? ⟨rb, 0, none⟩ = some (.int .i64 (mul a (mul j y))) ∧ w'.cell? ⟨rb, 1, none⟩ = some (.int .i64 (mul b (mul j y))) ∧ w'.cell? ⟨rb, 2, none⟩ = some (.int .i64 (mul c (mul j y)))) := fun w' o =>
    ⟨o, cell_only o (HC8.out.2.1.off 1) (by simp only [List.mem_singleton]; exact HC8.out.2.2.1), cell_only o (HC8.out.2.2.2.off 0) (by simp only [List.mem_singleton]; exact HNE.out.2.1), cell_only o (HC8.out.2.2.2.off 1) (by simp only [List.mem_singleton]; exact HNE.out.2.1), cell_only o (HC8.out.2.2.2.off 2) (by simp only [List.mem_singleton]; exact HNE.out.2.1)⟩
  have c6 := HC8.out.1.cell HO.out.2.2 (show 9 < 17 by omega); have c7 := HC8.out.1.cell HO.out.2.2 (show 10 < 17 by omega); have c8 := HC8.out.1.cell HO.out.2.2 (show 11 < 17 by omega)
  rw [← HXK.out] at c6 c7 c8
  simp only [bc] at c6 c7 c8
  refine wp_region_held_drew (S := (fun w' => Only [g] w8 w' ∧ w'.cell? ⟨kx, 1, none⟩ = some (.pointer (some ⟨g, k * 17, none⟩)) ∧ w'.cell? ⟨rb, 0, none⟩ = some (.int .i64 (mul a (mul j y))) ∧ w'.cell? ⟨rb, 1, none⟩ = some (.int .i64 (mul b (mul j y))) ∧ w'.cell? ⟨rb, 2, none⟩ = some (.int .i64 (mul c (mul j y))))) (by kernel_rfl) ?_ (fun hHeld1 => ?_)
  · (try dsimp only); exact HK.out _ (Only.refl _ _).drew
  refine wpAnyH_take (i := 0) (v := ?_) rfl (by kernel_rfl) (by kernel_rfl) (by kernel_rfl) (fun _ _ _ h => h) (Or.inl ⟨by kernel_rfl, ?_⟩) (by assumption) ?_
  rotate_left
  · intro w'' hSw; (try dsimp only at hSw); simp only [zqa, zqb, zqc]; (go_simp <;> with_reducible rfl)
  try simp only [Act.put, zqd, zqe, zqf, zqa, zqb, zqc]
  refine wpAnyH_take (i := 1) (v := ?_) rfl (by kernel_rfl) (by kernel_rfl) (by kernel_rfl) (fun _ _ _ h => h) (Or.inl ⟨by kernel_rfl, ?_⟩) (by assumption) ?_
  rotate_left
  · intro w'' hSw; (try dsimp only at hSw); simp only [zqa, zqb, zqc]; (go_simp <;> with_reducible rfl)
  try simp only [Act.put, zqd, zqe, zqf, zqa, zqb, zqc]
  refine wpAnyH_take (i := 2) (v := ?_) rfl (by kernel_rfl) (by kernel_rfl) (by kernel_rfl) (fun _ _ _ h => h) (Or.inl ⟨by kernel_rfl, ?_⟩) (by assumption) ?_
  rotate_left
  · intro w'' hSw; (try dsimp only at hSw); simp only [zqa, zqb, zqc]; (go_simp <;> with_reducible rfl)
  try simp only [Act.put, zqd, zqe, zqf, zqa, zqb, zqc]
  refine wpAnyH_take (i := 3) (v := ?_) rfl (by kernel_rfl) (by kernel_rfl) (by kernel_rfl) (fun _ _ _ h => h) (Or.inl ⟨by kernel_rfl, ?_⟩) (by assumption) ?_
  rotate_left
  · intro w'' hSw; (try dsimp only at hSw); simp only [zqa, zqb, zqc]; (go_simp <;> with_reducible rfl)
  try simp only [Act.put, zqd, zqe, zqf, zqa, zqb, zqc]
  refine wpAnyH_take (i := 4) (v := ?_) rfl (by kernel_rfl) (by kernel_rfl) (by kernel_rfl) (fun _ _ _ h => h) (Or.inl ⟨by kernel_rfl, ?_⟩) (by assumption) ?_
  rotate_left
  · intro w'' hSw; (try dsimp only at hSw); simp only [zqa, zqb, zqc]; (go_simp <;> with_reducible rfl)
  try simp only [Act.put, zqd, zqe, zqf, zqa, zqb, zqc]
  refine wpAnyH_take (i := 5) (v := ?_) rfl (by kernel_rfl) (by kernel_rfl) (by kernel_rfl) (fun _ _ _ h => h) (Or.inl ⟨by kernel_rfl, ?_⟩) (by assumption) ?_
  rotate_left
  · intro w'' hSw; (try dsimp only at hSw); simp only [zqa, zqb, zqc]; (go_simp <;> with_reducible rfl)
  try simp only [Act.put, zqd, zqe, zqf, zqa, zqb, zqc]
  refine wpAnyH_take (i := 7) (v := ?_) rfl (by kernel_rfl) (by kernel_rfl) (by kernel_rfl) (fun _ _ _ h => h) (Or.inl ⟨by kernel_rfl, ?_⟩) (by assumption) ?_
  rotate_left
  · intro w'' hSw; (try dsimp only at hSw); simp only [zqa, zqb, zqc]; (go_simp <;> with_reducible rfl)
  try simp only [Act.put, zqd, zqe, zqf, zqa, zqb, zqc]
  refine wpAnyH_ready (rs := [6]) (by kernel_rfl) (by simp) ?_
  refine AllReadyH.cons rfl (fun K hK => ?_) AllReadyH.nil
  first | (with_reducible refine iteYes ?hcx ?htx; case hcx => kernel_rfl) | rw [if_pos (by rfl)]
  simp only [zqa, zqb, zqc]
  go_simp
  skip
  try go_wp2_with fail
  refine hK.out _ _ ?_ (fun hHeld2 => ?_)
  · (try dsimp only); exact HK.out _ (Only.refl _ _).drew
  clear hK K hHeld1
  try simp only [Act.put, zqd, zqe, zqf, zqa, zqb, zqc]
  refine wpAnyH_ready (rs := [8]) (by kernel_rfl) (by simp) ?_
  refine AllReadyH.cons rfl (fun K hK => ?_) AllReadyH.nil
  first | (with_reducible refine iteYes ?hcx ?htx; case hcx => kernel_rfl) | rw [if_pos (by rfl)]
  simp only [zqa, zqb, zqc]
  go_simp
  (go_at_call 13; refine (plus_calls _ _ _ _ _ _ _).mono ?_; rintro e w10 ⟨rfl, k6⟩)
  try go_wp2_with fail
  refine hK.out _ _ ?_ (fun hHeld3 => ?_)
  · (try dsimp only); exact HK.out _ (Only.of_kept ((Kept.refl w8).drew.trans k6))
  clear hK K hHeld2
  try simp only [Act.put, zqd, zqe, zqf, zqa, zqb, zqc]
  have K7 : Hid (Kept w8 w10) := (Kept.refl w8).drew.trans k6
  have e6 := kept_cell K7.out c6; have e7 := kept_cell K7.out c7; have e8 := kept_cell K7.out c8
  have f6 := kept_frozen K7.out (HC8.out.1.free (k * 17 + 9)); have f7 := kept_frozen K7.out (HC8.out.1.free (k * 17 + 10)); have f8 := kept_frozen K7.out (HC8.out.1.free (k * 17 + 11))
  clear k6 c6 c7 c8
  refine wpAnyH_take (i := 9) (v := ?_) rfl (by kernel_rfl) (by kernel_rfl) (by kernel_rfl) (fun _ _ _ h => h) (Or.inl ⟨by kernel_rfl, ?_⟩) (by assumption) ?_
  rotate_left
  · intro w'' hSw; (try dsimp only at hSw); simp only [zqa, zqb, zqc]; (go_simp <;> with_reducible rfl)
  try simp only [Act.put, zqd, zqe, zqf, zqa, zqb, zqc]
  refine wpAnyH_take (i := 10) (v := ?_) rfl (by kernel_rfl) (by kernel_rfl) (by kernel_rfl) (fun _ _ _ h => h) (Or.inl ⟨by kernel_rfl, ?_⟩) (by assumption) ?_
  rotate_left
  · intro w'' hSw; (try dsimp only at hSw); simp only [zqa, zqb, zqc]; (go_simp <;> with_reducible rfl)
  try simp only [Act.put, zqd, zqe, zqf, zqa, zqb, zqc]
  refine wpAnyH_ready (rs := [11]) (by kernel_rfl) (by simp) ?_
  refine AllReadyH.cons rfl (fun K hK => ?_) AllReadyH.nil
  first | (with_reducible refine iteYes ?hcx ?htx; case hcx => kernel_rfl) | rw [if_pos (by rfl)]
  simp only [zqa, zqb, zqc]
  go_simp
  refine hK.out _ _ ?_ (fun hHeld4 => ?_)
  · (try dsimp only); exact HK.out _ ((((Only.of_kept K7.out).setCell (p := ⟨g, k * 17 + 9, none⟩) (Or.inl (by simp)) _).setCell (p := ⟨g, k * 17 + 10, none⟩) (Or.inl (by simp)) _).setCell (p := ⟨g, k * 17 + 11, none⟩) (Or.inl (by simp)) _)
  clear hK K
  try simp only [Act.put, zqd, zqe, zqf, zqa, zqb, zqc]
  refine wpAnyH_done (by kernel_rfl) ?_ _
  have HB9 : Hid (OwnB (((w10.setCell ⟨g, k * 17 + 9, none⟩ (.int .i64 (add bk.vx (mul a (mul j y))))).setCell ⟨g, k * 17 + 10, none⟩ (.int .i64 (add bk.vy (mul b (mul j y))))).setCell ⟨g, k * 17 + 11, none⟩ (.int .i64 (add bk.vz (mul c (mul j y))))) g n (upd (B1) k (moreV (B1 k) a b c (mul j y))) ∧ Only [g] w8 (((w10.setCell ⟨g, k * 17 + 9, none⟩ (.int .i64 (add bk.vx (mul a (mul j y))))).setCell ⟨g, k * 17 + 10, none⟩ (.int .i64 (add bk.vy (mul b (mul j y))))).setCell ⟨g, k * 17 + 11, none⟩ (.int .i64 (add bk.vz (mul c (mul j y)))))) := by
    refine ⟨?_, (((Only.of_kept K7.out).setCell (p := ⟨g, k * 17 + 9, none⟩) (Or.inl (by simp)) _).setCell (p := ⟨g, k * 17 + 10, none⟩) (Or.inl (by simp)) _).setCell (p := ⟨g, k * 17 + 11, none⟩) (Or.inl (by simp)) _⟩
    have h1 := (HC8.out.1.only (Only.of_kept (D := []) K7.out) (by simp)).putSp HO.out.2.2 (add bk.vx (mul a (mul j y))) (add bk.vy (mul b (mul j y))) (add bk.vz (mul c (mul j y)))
    rw [HXK.out] at h1 ⊢
    exact h1
  clear hHeld4 HK e6 e7 e8 f6 f7 f8 K7
  go_wp2_with fail
  refine bodyPost_end (results_none rfl _ _ _) rfl ?_
  refine ⟨rfl, ?_, ?_⟩
  · have e1 : giveX B i k x y a b c j = upd B1 k (moreV (B1 k) a b c (mul j y)) := by rw [HB1.out]; rfl
    rw [e1]; exact HB9.out.1
  · exact (((Only.refl [g] w).trans (H5.out.1.mono (by simp))).trans HB8.out.2).trans HB9.out.2
set_option maxRecDepth 100000 in
set_option maxHeartbeats 4000000 in
theorem speed_calls (g n i k : Nat) (x y al : Int) (v : V3) (dp : Int) (B : Nat → Bd) (p q : Bd) (w : World) (h : OwnB w g n B) (hi : i < n) (hk : k < n) (hp : p = B i) (hq : q = B k) :
    Calls Tryz.prog 62 #[.agg #[.pointer (some ⟨g, i * 17, none⟩), .pointer (some ⟨g, k * 17, none⟩), .int .i64 x, .int .i64 y, .int .i64 al, .int .i64 (v.x), .int .i64 (v.y), .int .i64 (v.z), .int .i64 dp]] w fun e w' => e = .returned (.agg #[.int .i64 (sub q.vx p.vx), .int .i64 (sub q.vy p.vy), .int .i64 (sub q.vz p.vz)]) ∧ Kept w w' := by
  have c0 := h.cell hi (show 9 < 17 by omega); have c1 := h.cell hi (show 10 < 17 by omega); have c2 := h.cell hi (show 11 < 17 by omega)
  have d0 := h.cell hk (show 9 < 17 by omega); have d1 := h.cell hk (show 10 < 17 by omega); have d2 := h.cell hk (show 11 < 17 by omega)
  rw [← hp] at c0 c1 c2
  rw [← hq] at d0 d1 d2
  have HC : Hid (SpAt w g i k p q) := ⟨c0, c1, c2, d0, d1, d2⟩
  have HG : Hid (g < w.heap.size) := h.lt
  clear h hi hk hp hq c0 c1 c2 d0 d1 d2
  go_enter Tryz.func62, Tryz.ntmps62
  go_upto_region 1 with fail
  have H0 : Hid (Kept w ((w.alloc (.cells #[.pointer (some ⟨g, i * 17, none⟩), .pointer (some ⟨g, k * 17, none⟩), .int .i64 x, .int .i64 y, .int .i64 al, .int .i64 (v.x), .int .i64 (v.y), .int .i64 (v.z), .int .i64 dp] 85)).alloc (.cells #[.int .i64 0, .int .i64 0, .int .i64 0] 24)) ∧ MtAt ((w.alloc (.cells #[.pointer (some ⟨g, i * 17, none⟩), .pointer (some ⟨g, k * 17, none⟩), .int .i64 x, .int .i64 y, .int .i64 al, .int .i64 (v.x), .int .i64 (v.y), .int .i64 (v.z), .int .i64 dp] 85)).alloc (.cells #[.int .i64 0, .int .i64 0, .int .i64 0] 24)) w.heap.size g i k x y al v dp ∧ VecAt ((w.alloc (.cells #[.pointer (some ⟨g, i * 17, none⟩), .pointer (some ⟨g, k * 17, none⟩), .int .i64 x, .int .i64 y, .int .i64 al, .int .i64 (v.x), .int .i64 (v.y), .int .i64 (v.z), .int .i64 dp] 85)).alloc (.cells #[.int .i64 0, .int .i64 0, .int .i64 0] 24)) (w.heap.size + 1) 0 0 0) := by
    have hs : (w.alloc (.cells #[.pointer (some ⟨g, i * 17, none⟩), .pointer (some ⟨g, k * 17, none⟩), .int .i64 x, .int .i64 y, .int .i64 al, .int .i64 (v.x), .int .i64 (v.y), .int .i64 (v.z), .int .i64 dp] 85)).heap.size = w.heap.size + 1 := by simp
    have hb := (MapKept.heap_alloc (w.alloc (.cells #[.pointer (some ⟨g, i * 17, none⟩), .pointer (some ⟨g, k * 17, none⟩), .int .i64 x, .int .i64 y, .int .i64 al, .int .i64 (v.x), .int .i64 (v.y), .int .i64 (v.z), .int .i64 dp] 85)) (.cells #[.int .i64 0, .int .i64 0, .int .i64 0] 24)).1
    rw [hs] at hb
    exact ⟨((Kept.refl w).alloc _ _).alloc _ _, MtAt.only (MapKept.heap_alloc w _).1 ((Only.refl [] _).alloc _) (by simp), hb⟩
  have HX : Hid (w.heap.size ≤ w.heap.size + 1 ∧ w.heap.size ≠ w.heap.size + 1 ∧ g ≠ w.heap.size + 1) := by have := HG.out; exact ⟨by omega, by omega, by omega⟩
  revert H0 HX
  generalize w.heap.size + 1 = r
  generalize hkx : w.heap.size = kx
  generalize World.alloc (World.alloc w _) _ = w1
  intro H0 HX
  have HKX : Hid (w.heap.size = kx) := hkx
  clear hkx
  have HK : Hid (∀ w', Only [r] w1 w' → Only [r] w1 w' ∧ (w'.cell? ⟨kx, 0, none⟩ = some (.pointer (some ⟨g, i * 17, none⟩)) ∧ w'.cell? ⟨kx, 1, none⟩ = some (.pointer (some ⟨g, k * 17, none⟩))) ∧ w'.cell? ⟨g, i * 17 + 9, none⟩ = some (.int .i64 (p.vx)) ∧ w'.cell? ⟨g, i * 17 + 10, none⟩ = some (.int .i64 (p.vy)) ∧ w'.cell? ⟨g, i * 17 + 11, none⟩ = some (.int .i64 (p.vz)) ∧ w'.cell? ⟨g, k * 17 + 9, none⟩ = some (.int .i64 (q.vx)) ∧ w'.cell? ⟨g, k * 17 + 10, none⟩ = some (.int .i64 (q.vy)) ∧ w'.cell? ⟨g, k * 17 + 11, none⟩ = some (.int .i64 (q.vz))) := fun w' o => by
    have s := HC.out
    have hk1 := H0.out.1
    exact ⟨o, ⟨cell_only o (H0.out.2.1.off 0) (by simp only [List.mem_singleton]; exact HX.out.2.1), cell_only o (H0.out.2.1.off 1) (by simp only [List.mem_singleton]; exact HX.out.2.1)⟩,
      cell_only o (kept_cell hk1 s.1) (by simp only [List.mem_singleton]; exact HX.out.2.2), cell_only o (kept_cell hk1 s.2.1) (by simp only [List.mem_singleton]; exact HX.out.2.2), cell_only o (kept_cell hk1 s.2.2.1) (by simp only [List.mem_singleton]; exact HX.out.2.2), cell_only o (kept_cell hk1 s.2.2.2.1) (by simp only [List.mem_singleton]; exact HX.out.2.2), cell_only o (kept_cell hk1 s.2.2.2.2.1) (by simp only [List.mem_singleton]; exact HX.out.2.2), cell_only o (kept_cell hk1 s.2.2.2.2.2) (by simp only [List.mem_singleton]; exact HX.out.2.2)⟩
  refine wp_region_held_drew (S := (fun w' => Only [r] w1 w' ∧ (w'.cell? ⟨kx, 0, none⟩ = some (.pointer (some ⟨g, i * 17, none⟩)) ∧ w'.cell? ⟨kx, 1, none⟩ = some (.pointer (some ⟨g, k * 17, none⟩))) ∧ w'.cell? ⟨g, i * 17 + 9, none⟩ = some (.int .i64 (p.vx)) ∧ w'.cell? ⟨g, i * 17 + 10, none⟩ = some (.int .i64 (p.vy)) ∧ w'.cell? ⟨g, i * 17 + 11, none⟩ = some (.int .i64 (p.vz)) ∧ w'.cell? ⟨g, k * 17 + 9, none⟩ = some (.int .i64 (q.vx)) ∧ w'.cell? ⟨g, k * 17 + 10, none⟩ = some (.int .i64 (q.vy)) ∧ w'.cell? ⟨g, k * 17 + 11, none⟩ = some (.int .i64 (q.vz)))) (by kernel_rfl) ?_ (fun hHeld1 => ?_)
  · (try dsimp only); exact HK.out _ (Only.refl _ _).drew
  refine wpAnyH_take (i := 0) (v := ?_) rfl (by kernel_rfl) (by kernel_rfl) (by kernel_rfl) (fun _ _ _ h => h) (Or.inl ⟨by kernel_rfl, ?_⟩) (by assumption) ?_
  rotate_left
  · intro w'' hSw; (try dsimp only at hSw); simp only [zqa, zqb, zqc]; (go_simp <;> with_reducible rfl)
  try simp only [Act.put, zqd, zqe, zqf, zqa, zqb, zqc]
  refine wpAnyH_take (i := 1) (v := ?_) rfl (by kernel_rfl) (by kernel_rfl) (by kernel_rfl) (fun _ _ _ h => h) (Or.inl ⟨by kernel_rfl, ?_⟩) (by assumption) ?_
  rotate_left
  · intro w'' hSw; (try dsimp only at hSw); simp only [zqa, zqb, zqc]; (go_simp <;> with_reducible rfl)
  try simp only [Act.put, zqd, zqe, zqf, zqa, zqb, zqc]
  refine wpAnyH_take (i := 2) (v := ?_) rfl (by kernel_rfl) (by kernel_rfl) (by kernel_rfl) (fun _ _ _ h => h) (Or.inl ⟨by kernel_rfl, ?_⟩) (by assumption) ?_
  rotate_left
  · intro w'' hSw; (try dsimp only at hSw); simp only [zqa, zqb, zqc]; (go_simp <;> with_reducible rfl)
  try simp only [Act.put, zqd, zqe, zqf, zqa, zqb, zqc]
  refine wpAnyH_take (i := 3) (v := ?_) rfl (by kernel_rfl) (by kernel_rfl) (by kernel_rfl) (fun _ _ _ h => h) (Or.inl ⟨by kernel_rfl, ?_⟩) (by assumption) ?_
  rotate_left
  · intro w'' hSw; (try dsimp only at hSw); simp only [zqa, zqb, zqc]; (go_simp <;> with_reducible rfl)
  try simp only [Act.put, zqd, zqe, zqf, zqa, zqb, zqc]
  refine wpAnyH_take (i := 4) (v := ?_) rfl (by kernel_rfl) (by kernel_rfl) (by kernel_rfl) (fun _ _ _ h => h) (Or.inl ⟨by kernel_rfl, ?_⟩) (by assumption) ?_
  rotate_left
  · intro w'' hSw; (try dsimp only at hSw); simp only [zqa, zqb, zqc]; (go_simp <;> with_reducible rfl)
  try simp only [Act.put, zqd, zqe, zqf, zqa, zqb, zqc]
  refine wpAnyH_take (i := 5) (v := ?_) rfl (by kernel_rfl) (by kernel_rfl) (by kernel_rfl) (fun _ _ _ h => h) (Or.inl ⟨by kernel_rfl, ?_⟩) (by assumption) ?_
  rotate_left
  · intro w'' hSw; (try dsimp only at hSw); simp only [zqa, zqb, zqc]; (go_simp <;> with_reducible rfl)
  try simp only [Act.put, zqd, zqe, zqf, zqa, zqb, zqc]
  refine wpAnyH_take (i := 6) (v := ?_) rfl (by kernel_rfl) (by kernel_rfl) (by kernel_rfl) (fun _ _ _ h => h) (Or.inl ⟨by kernel_rfl, ?_⟩) (by assumption) ?_
  rotate_left
  · intro w'' hSw; (try dsimp only at hSw); simp only [zqa, zqb, zqc]; (go_simp <;> with_reducible rfl)
  try simp only [Act.put, zqd, zqe, zqf, zqa, zqb, zqc]
  refine wpAnyH_take (i := 7) (v := ?_) rfl (by kernel_rfl) (by kernel_rfl) (by kernel_rfl) (fun _ _ _ h => h) (Or.inl ⟨by kernel_rfl, ?_⟩) (by assumption) ?_
  rotate_left
  · intro w'' hSw; (try dsimp only at hSw); simp only [zqa, zqb, zqc]; (go_simp <;> with_reducible rfl)
  try simp only [Act.put, zqd, zqe, zqf, zqa, zqb, zqc]
  refine wpAnyH_take (i := 8) (v := ?_) rfl (by kernel_rfl) (by kernel_rfl) (by kernel_rfl) (fun _ _ _ h => h) (Or.inl ⟨by kernel_rfl, ?_⟩) (by assumption) ?_
  rotate_left
  · intro w'' hSw; (try dsimp only at hSw); simp only [zqa, zqb, zqc]; (go_simp <;> with_reducible rfl)
  try simp only [Act.put, zqd, zqe, zqf, zqa, zqb, zqc]
  refine wpAnyH_take (i := 9) (v := ?_) rfl (by kernel_rfl) (by kernel_rfl) (by kernel_rfl) (fun _ _ _ h => h) (Or.inl ⟨by kernel_rfl, ?_⟩) (by assumption) ?_
  rotate_left
  · intro w'' hSw; (try dsimp only at hSw); simp only [zqa, zqb, zqc]; (go_simp <;> with_reducible rfl)
  try simp only [Act.put, zqd, zqe, zqf, zqa, zqb, zqc]
  refine wpAnyH_ready (rs := [10]) (by kernel_rfl) (by simp) ?_
  refine AllReadyH.cons rfl (fun K hK => ?_) AllReadyH.nil
  first | (with_reducible refine iteYes ?hcx ?htx; case hcx => kernel_rfl) | rw [if_pos (by rfl)]
  simp only [zqa, zqb, zqc]
  go_simp
  (go_at_call 52; refine (minus_calls _ _ _ _ _ _ _).mono ?_; rintro e w2 ⟨rfl, k2⟩)
  try go_wp2_with fail
  refine hK.out _ _ ?_ (fun hHeld2 => ?_)
  · (try dsimp only); exact HK.out _ (Only.of_kept ((Kept.refl w1).drew.trans k2))
  clear hK K hHeld1
  try simp only [Act.put, zqd, zqe, zqf, zqa, zqb, zqc]
  have K2 : Hid (Kept w1 w2) := (Kept.refl w1).drew.trans k2
  clear k2
  have e0 := kept_cell K2.out (H0.out.2.2.off 0); have e1 := kept_cell K2.out (H0.out.2.2.off 1); have e2 := kept_cell K2.out (H0.out.2.2.off 2)
  have f0 := kept_frozen K2.out (H0.out.2.2.free 0); have f1 := kept_frozen K2.out (H0.out.2.2.free 1); have f2 := kept_frozen K2.out (H0.out.2.2.free 2)
  refine wpAnyH_ready (rs := [11]) (by kernel_rfl) (by simp) ?_
  refine AllReadyH.cons rfl (fun K hK => ?_) AllReadyH.nil
  first | (with_reducible refine iteYes ?hcx ?htx; case hcx => kernel_rfl) | rw [if_pos (by rfl)]
  simp only [zqa, zqb, zqc]
  go_simp
  refine hK.out _ _ ?_ (fun hHeld3 => ?_)
  · (try dsimp only); exact HK.out _ ((((Only.of_kept K2.out).setCell (p := ⟨r, 0, none⟩) (Or.inl (by simp)) _).setCell (p := ⟨r, 1, none⟩) (Or.inl (by simp)) _).setCell (p := ⟨r, 2, none⟩) (Or.inl (by simp)) _)
  clear hK K
  try simp only [Act.put, zqd, zqe, zqf, zqa, zqb, zqc]
  refine wpAnyH_done (by kernel_rfl) ?_ _
  have z0 : (((w2.setCell ⟨r, 0, none⟩ (.int .i64 (sub q.vx p.vx))).setCell ⟨r, 1, none⟩ (.int .i64 (sub q.vy p.vy))).setCell ⟨r, 2, none⟩ (.int .i64 (sub q.vz p.vz))).cell? ⟨r, 0, none⟩ = some (.int .i64 (sub q.vx p.vx)) := by go_simp
  have z1 : (((w2.setCell ⟨r, 0, none⟩ (.int .i64 (sub q.vx p.vx))).setCell ⟨r, 1, none⟩ (.int .i64 (sub q.vy p.vy))).setCell ⟨r, 2, none⟩ (.int .i64 (sub q.vz p.vz))).cell? ⟨r, 1, none⟩ = some (.int .i64 (sub q.vy p.vy)) := by go_simp
  have z2 : (((w2.setCell ⟨r, 0, none⟩ (.int .i64 (sub q.vx p.vx))).setCell ⟨r, 1, none⟩ (.int .i64 (sub q.vy p.vy))).setCell ⟨r, 2, none⟩ (.int .i64 (sub q.vz p.vz))).cell? ⟨r, 2, none⟩ = some (.int .i64 (sub q.vz p.vz)) := by go_simp
  have hfin : Kept w (((w2.setCell ⟨r, 0, none⟩ (.int .i64 (sub q.vx p.vx))).setCell ⟨r, 1, none⟩ (.int .i64 (sub q.vy p.vy))).setCell ⟨r, 2, none⟩ (.int .i64 (sub q.vz p.vz))) := by
    have h1 := HX.out.1
    have h2 := HKX.out
    exact (((H0.out.1.trans K2.out).setCell (p := ⟨r, 0, none⟩) (by show w.heap.size ≤ r; omega) _).setCell (p := ⟨r, 1, none⟩) (by show w.heap.size ≤ r; omega) _).setCell (p := ⟨r, 2, none⟩) (by show w.heap.size ≤ r; omega) _
  go_wp2_with fail
  exact bodyPost_ret (v := .agg #[.int .i64 (sub q.vx p.vx), .int .i64 (sub q.vy p.vy), .int .i64 (sub q.vz p.vz)]) (by simp [results, Tryz.results62, go_sem, z0, z1, z2]) rfl ⟨rfl, hfin⟩
end Go.Proofs.YtbfkloclmlnahabGreat
