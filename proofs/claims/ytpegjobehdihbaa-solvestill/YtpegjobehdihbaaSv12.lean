/- (solve.meeting).hit: two bodies that bounce, and rub: whatever the meeting. -/
import Derived.Test.YtpegjobehdihbaaSv11
import Derived.Deep.CutRange
namespace Go.Proofs.Ytpegjobehdihbaa
open Go.ChangeShapes Go.WideShapes Go.ChangeAt Go.RowKit
set_option linter.unusedVariables false
set_option linter.unusedSimpArgs false

def FrS3 (w : World) (b0 : Nat) (w' : World) : Prop :=
  Kept w w' ∧
  w'.cell? ⟨b0, 0, none⟩ = some (cellV w' ⟨b0, 0, none⟩) ∧
  w'.cell? ⟨b0, 1, none⟩ = some (cellV w' ⟨b0, 1, none⟩) ∧
  w'.cell? ⟨b0, 2, none⟩ = some (cellV w' ⟨b0, 2, none⟩) ∧
  w'.frozen? ⟨b0, 0, none⟩ = false ∧
  w'.frozen? ⟨b0, 1, none⟩ = false ∧
  w'.frozen? ⟨b0, 2, none⟩ = false
theorem FrS3.step {w w1 w2 : World} {b0 : Nat} (k : Kept w1 w2) (h : FrS3 w b0 w1) : FrS3 w b0 w2 := by
  obtain ⟨h0, h1, h2, h3, h4, h5, h6⟩ := h
  exact ⟨h0.trans k, kept_there k h1, kept_there k h2, kept_there k h3, kept_frozen k h4, kept_frozen k h5, kept_frozen k h6⟩
theorem FrS3.drew {w w1 : World} {b0 : Nat} (h : FrS3 w b0 w1) : FrS3 w b0 w1.drew := h.step (Kept.refl _).drew
theorem FrS3.put {w w1 : World} {b0 : Nat} (i : Nat) (v : Value) (ho : w.heap.size ≤ b0)  (h : FrS3 w b0 w1) : FrS3 w b0 (w1.setCell ⟨b0, i, none⟩ v) := by
  obtain ⟨h0, h1, h2, h3, h4, h5, h6⟩ := h
  exact ⟨h0.setCell (p := ⟨b0, i, none⟩) ho v, put_there h1, put_there h2, put_there h3, (World.frozen?_setCell _ _ _ _).trans h4, (World.frozen?_setCell _ _ _ _).trans h5, (World.frozen?_setCell _ _ _ _).trans h6⟩

def minX (a b : Int) : Int := if b < a then b else a
def relX (p q : Bd) : V3 := ⟨sub q.vx p.vx, sub q.vy p.vy, sub q.vz p.vz⟩
def dotX (a b : V3) : Int := dot a.x a.y a.z b.x b.y b.z
def sideX (a w : V3) : V3 := ⟨sub a.x (mul w.x (dotX a w)), sub a.y (mul w.y (dotX a w)), sub a.z (mul w.z (dotX a w))⟩
def longX (a : V3) : Int := long a.x a.y a.z
def unitX (a : V3) : V3 := ⟨unitPart (longX a) 0 a.x, unitPart (longX a) 65536 a.y, unitPart (longX a) 0 a.z⟩
/-- What a touch does to two bodies' speeds. -/
def hitX (B : Nat → Bd) (i k : Nat) (x y al : Int) (v : V3) (bo ru : Int) : Nat → Bd :=
  let n := dotX (relX (B i) (B k)) v
  if 0 ≤ n then B else
    let j := div (mul (-n) (65536 + bo)) al
    let B1 := giveX B i k x y v.x v.y v.z j
    let s := sideX (relX (B1 i) (B1 k)) v
    if longX s = 0 then B1 else
      giveX B1 i k x y (unitX s).x (unitX s).y (unitX s).z (-(minX (mul j ru) (div (longX s) al)))
theorem dot_in (a b c d e f : Int) : -70368744177664 ≤ dot a b c d e f ∧ dot a b c d e f ≤ 70368744177664 := ⟨cut_ge _, cut_le _⟩
theorem div_in (a b : Int) : -70368744177664 ≤ div a b ∧ div a b ≤ 70368744177664 := by
  unfold div endless
  have h1 := cut_ge ((65536 * cut a).tdiv (cut b))
  have h2 := cut_le ((65536 * cut a).tdiv (cut b))
  split
  · split
    · omega
    · split <;> omega
  · omega
theorem mul_in (a b : Int) : -70368744177664 ≤ mul a b ∧ mul a b ≤ 70368744177664 := ⟨cut_ge _, cut_le _⟩
def WayAt (kx kv : Nat) (v : V3) (vx vy vz : Int) (w' : World) : Prop := w'.cell? ⟨kx, 5, none⟩ = some (.int .i64 (v.x)) ∧ w'.cell? ⟨kx, 6, none⟩ = some (.int .i64 (v.y)) ∧ w'.cell? ⟨kx, 7, none⟩ = some (.int .i64 (v.z)) ∧ w'.cell? ⟨kv, 0, none⟩ = some (.int .i64 vx) ∧ w'.cell? ⟨kv, 1, none⟩ = some (.int .i64 vy) ∧ w'.cell? ⟨kv, 2, none⟩ = some (.int .i64 vz)
theorem WayAt.step {kx kv : Nat} {v : V3} {vx vy vz : Int} {w w' : World} (h : WayAt kx kv v vx vy vz w) (k : Kept w w') : WayAt kx kv v vx vy vz w' := ⟨kept_cell k h.1, kept_cell k h.2.1, kept_cell k h.2.2.1, kept_cell k h.2.2.2.1, kept_cell k h.2.2.2.2.1, kept_cell k h.2.2.2.2.2⟩
def LawAt (w : World) (kl : Nat) (bo ru ro : Int) : Prop := w.heap[kl]? = some (.cells #[.int .i64 bo, .int .i64 ru, .int .i64 ro] 37)
theorem LawAt.off {w : World} {b : Nat} {x y z : Int} (h : LawAt w b x y z) (j : Nat) : w.cell? ⟨b, j, none⟩ = (#[.int .i64 x, .int .i64 y, .int .i64 z] : Array Value)[j]? := by
  unfold LawAt at h; simp [World.cell?, h]
theorem LawAt.only {D : List Nat} {w w' : World} {b : Nat} {x y z : Int} (h : LawAt w b x y z) (o : Only D w w') (s : b ∉ D) : LawAt w' b x y z := (o.block b (Array.getElem?_eq_some_iff.1 h).1 s).trans h
/-- What holds while hit runs. -/
structure HW (w : World) (kx kl g n i k : Nat) (x y al : Int) (v : V3) (dp bo ru ro : Int) (B : Nat → Bd) (wr : World) : Prop where
  own : OwnB wr g n B
  mt : MtAt wr kx g i k x y al v dp
  lw : LawAt wr kl bo ru ro
  only : Only [g] w wr
  nx : kx ≠ g
  nl : kl ≠ g
theorem HW.keep {w : World} {kx kl g n i k : Nat} {x y al : Int} {v : V3} {dp bo ru ro : Int} {B : Nat → Bd} {wr w' : World} (h : HW w kx kl g n i k x y al v dp bo ru ro B wr) (q : Kept wr w') : HW w kx kl g n i k x y al v dp bo ru ro B w' :=
  ⟨h.own.only (Only.of_kept (D := []) q) (by simp), h.mt.only (Only.of_kept (D := []) q) (by simp), h.lw.only (Only.of_kept (D := []) q) (by simp), h.only.trans (Only.of_kept q), h.nx, h.nl⟩
theorem HW.turn {w : World} {kx kl g n i k : Nat} {x y al : Int} {v : V3} {dp bo ru ro : Int} {B C : Nat → Bd} {wr w' : World} (h : HW w kx kl g n i k x y al v dp bo ru ro B wr) (hO : OwnB w' g n C) (o : Only [g] wr w') : HW w kx kl g n i k x y al v dp bo ru ro C w' :=
  ⟨hO, h.mt.only o (by simp only [List.mem_singleton]; exact h.nx), h.lw.only o (by simp only [List.mem_singleton]; exact h.nl), h.only.trans o, h.nx, h.nl⟩
set_option maxRecDepth 100000 in
set_option maxHeartbeats 8000000 in
theorem hit_calls (g n i k : Nat) (x y al : Int) (v : V3) (dp bo ru ro : Int) (B : Nat → Bd) (w : World) (h : OwnB w g n B) (hi : i < n) (hk : k < n) (hb0 : 0 ≤ bo) (hb1 : bo ≤ 65536) :
    Calls Try.prog 14 #[.agg #[.pointer (some ⟨g, i * 17, none⟩), .pointer (some ⟨g, k * 17, none⟩), .int .i64 x, .int .i64 y, .int .i64 al, .int .i64 (v.x), .int .i64 (v.y), .int .i64 (v.z), .int .i64 dp], .agg #[.int .i64 bo, .int .i64 ru, .int .i64 ro]] w fun e w' => e = .returned (.tuple #[]) ∧ OwnB w' g n (hitX B i k x y al v bo ru) ∧ Only [g] w w' := by
  have HI : Hid (i < n ∧ k < n ∧ 0 ≤ bo ∧ bo ≤ 65536) := ⟨hi, hk, hb0, hb1⟩
  have HO : Hid (OwnB w g n B) := h
  clear h hi hk hb0 hb1
  go_enter Try.func14, Try.ntmps14
  go_upto_region 1 with fail
  have H1 : Hid (HW w w.heap.size (w.heap.size + 1) g n i k x y al v dp bo ru ro B ((w.alloc (.cells #[.pointer (some ⟨g, i * 17, none⟩), .pointer (some ⟨g, k * 17, none⟩), .int .i64 x, .int .i64 y, .int .i64 al, .int .i64 (v.x), .int .i64 (v.y), .int .i64 (v.z), .int .i64 dp] 49)).alloc (.cells #[.int .i64 bo, .int .i64 ru, .int .i64 ro] 37))) := by
    have hg := HO.out.lt
    have hs : (w.alloc (.cells #[.pointer (some ⟨g, i * 17, none⟩), .pointer (some ⟨g, k * 17, none⟩), .int .i64 x, .int .i64 y, .int .i64 al, .int .i64 (v.x), .int .i64 (v.y), .int .i64 (v.z), .int .i64 dp] 49)).heap.size = w.heap.size + 1 := by simp
    have hb := (MapKept.heap_alloc (w.alloc (.cells #[.pointer (some ⟨g, i * 17, none⟩), .pointer (some ⟨g, k * 17, none⟩), .int .i64 x, .int .i64 y, .int .i64 al, .int .i64 (v.x), .int .i64 (v.y), .int .i64 (v.z), .int .i64 dp] 49)) (.cells #[.int .i64 bo, .int .i64 ru, .int .i64 ro] 37)).1
    rw [hs] at hb
    have o : Only [] w ((w.alloc (.cells #[.pointer (some ⟨g, i * 17, none⟩), .pointer (some ⟨g, k * 17, none⟩), .int .i64 x, .int .i64 y, .int .i64 al, .int .i64 (v.x), .int .i64 (v.y), .int .i64 (v.z), .int .i64 dp] 49)).alloc (.cells #[.int .i64 bo, .int .i64 ru, .int .i64 ro] 37)) := ((Only.refl [] w).alloc _).alloc _
    exact ⟨HO.out.only o (by simp), MtAt.only (MapKept.heap_alloc w _).1 ((Only.refl [] _).alloc _) (by simp), hb, o.mono (by simp), by omega, by omega⟩
  clear HO
  revert H1
  generalize w.heap.size + 1 = kl
  generalize w.heap.size = kx
  generalize World.alloc (World.alloc w _) _ = w1
  intro H1
  obtain ⟨p, hp⟩ : ∃ p, p = B i := ⟨_, rfl⟩
  obtain ⟨q, hq⟩ : ∃ q, q = B k := ⟨_, rfl⟩
  have HPQ : Hid (p = B i ∧ q = B k) := ⟨hp, hq⟩
  clear hp hq
  have HK : Hid (∀ w', Kept w1 w' → Kept w1 w' ∧ w'.cell? ⟨kx, 0, none⟩ = some (.pointer (some ⟨g, i * 17, none⟩)) ∧ w'.cell? ⟨kx, 1, none⟩ = some (.pointer (some ⟨g, k * 17, none⟩)) ∧ w'.cell? ⟨kx, 2, none⟩ = some (.int .i64 x) ∧ w'.cell? ⟨kx, 3, none⟩ = some (.int .i64 y) ∧ w'.cell? ⟨kx, 4, none⟩ = some (.int .i64 al) ∧ w'.cell? ⟨kx, 5, none⟩ = some (.int .i64 (v.x)) ∧ w'.cell? ⟨kx, 6, none⟩ = some (.int .i64 (v.y)) ∧ w'.cell? ⟨kx, 7, none⟩ = some (.int .i64 (v.z)) ∧ w'.cell? ⟨kx, 8, none⟩ = some (.int .i64 dp)) := fun w' o => by
    have m := H1.out.mt.only (Only.of_kept (D := []) o) (by simp)
    exact ⟨o, m.off 0, m.off 1, m.off 2, m.off 3, m.off 4, m.off 5, m.off 6, m.off 7, m.off 8⟩
  refine wp_region_held_drew (S := (fun w' => Kept w1 w' ∧ w'.cell? ⟨kx, 0, none⟩ = some (.pointer (some ⟨g, i * 17, none⟩)) ∧ w'.cell? ⟨kx, 1, none⟩ = some (.pointer (some ⟨g, k * 17, none⟩)) ∧ w'.cell? ⟨kx, 2, none⟩ = some (.int .i64 x) ∧ w'.cell? ⟨kx, 3, none⟩ = some (.int .i64 y) ∧ w'.cell? ⟨kx, 4, none⟩ = some (.int .i64 al) ∧ w'.cell? ⟨kx, 5, none⟩ = some (.int .i64 (v.x)) ∧ w'.cell? ⟨kx, 6, none⟩ = some (.int .i64 (v.y)) ∧ w'.cell? ⟨kx, 7, none⟩ = some (.int .i64 (v.z)) ∧ w'.cell? ⟨kx, 8, none⟩ = some (.int .i64 dp))) (by kernel_rfl) ?_ (fun hHeld1 => ?_)
  · (try dsimp only); exact HK.out _ (Kept.refl _).drew
  refine tkW 0 rfl ?_; refine tkW 2 rfl ?_; refine tkW 3 rfl ?_
  try simp only [Act.put, List.setIfInBounds_toArray, List.set_cons_zero, List.set_cons_succ, List.getElem_toArray, List.getElem_cons_succ, List.getElem_cons_zero]
  refine wpAnyH_ready (rs := [1]) (by kernel_rfl) (by simp) ?_
  refine AllReadyH.cons rfl (fun K hK => ?_) AllReadyH.nil
  first | (with_reducible refine iteYes ?hcx ?htx; case hcx => kernel_rfl) | rw [if_pos (by rfl)]
  simp only [List.getElem_toArray, List.getElem_cons_succ, List.getElem_cons_zero]
  go_simp
  (go_at_call 23; refine (speed_calls g n i k x y al v dp B p q _ (H1.out.own.only (Only.refl [] w1).drew (by simp)) HI.out.1 HI.out.2.1 HPQ.out.1 HPQ.out.2).mono ?_; rintro e w2 ⟨rfl, k2⟩)
  try go_wp2_with fail
  refine hK.out _ _ ?_ (fun hHeld2 => ?_)
  · (try dsimp only); exact HK.out _ ((Kept.refl w1).drew.trans k2)
  clear hK K hHeld1
  try simp only [Act.put, List.setIfInBounds_toArray, List.set_cons_zero, List.set_cons_succ, List.getElem_toArray, List.getElem_cons_succ, List.getElem_cons_zero]
  refine wpAnyH_ready (rs := [4]) (by kernel_rfl) (by simp) ?_
  refine AllReadyH.cons rfl (fun K hK => ?_) AllReadyH.nil
  first | (with_reducible refine iteYes ?hcx ?htx; case hcx => kernel_rfl) | rw [if_pos (by rfl)]
  simp only [List.getElem_toArray, List.getElem_cons_succ, List.getElem_cons_zero]
  go_simp
  (go_at_call 22; refine (dot_calls _ _ _ _ _ _ _).mono ?_; rintro e w3 ⟨rfl, k3⟩)
  try go_wp2_with fail
  refine hK.out _ _ ?_ (fun hHeld3 => ?_)
  · (try dsimp only); exact HK.out _ (((Kept.refl w1).drew.trans k2).trans k3)
  clear hK K hHeld2
  try simp only [Act.put, List.setIfInBounds_toArray, List.set_cons_zero, List.set_cons_succ, List.getElem_toArray, List.getElem_cons_succ, List.getElem_cons_zero]
  refine tkW 5 rfl ?_
  try simp only [Act.put, List.setIfInBounds_toArray, List.set_cons_zero, List.set_cons_succ, List.getElem_toArray, List.getElem_cons_succ, List.getElem_cons_zero]
  refine wpAnyH_done (by kernel_rfl) ?_ _
  have H3 : Hid (HW w kx kl g n i k x y al v dp bo ru ro B w3) := H1.out.keep (((Kept.refl w1).drew.trans k2).trans k3)
  clear hHeld3 HK k2 k3 H1
  have HN : Hid (dotX (relX p q) v = dot (sub q.vx p.vx) (sub q.vy p.vy) (sub q.vz p.vz) v.x v.y v.z) := rfl
  have hd := dot_in (sub q.vx p.vx) (sub q.vy p.vy) (sub q.vz p.vz) v.x v.y v.z
  generalize dot (sub q.vx p.vx) (sub q.vy p.vy) (sub q.vz p.vz) v.x v.y v.z = nn at HN hd ⊢
  by_cases hn : 0 ≤ nn
  · have HE : Hid (hitX B i k x y al v bo ru = B) := by
      show hitX B i k x y al v bo ru = B
      unfold hitX
      rw [← HPQ.out.1, ← HPQ.out.2, HN.out, if_pos hn]
    go_wp2_with fail
    refine bodyPost_ret (results_none rfl _ _ _) rfl ?_
    exact ⟨rfl, by rw [HE.out]; exact H3.out.own, H3.out.only⟩
  · have hneg : IntKind.i64.wrap (-nn) = -nn := by rw [IntKind.wrap_i64]; omega
    have hbb : IntKind.i64.wrap (65536 + bo) = 65536 + bo := by have := HI.out.2.2; rw [IntKind.wrap_i64]; omega
    go_upto_region 3 with fail
    have HK : Hid (∀ w', Kept w3 w' → Kept w3 w' ∧ w'.cell? ⟨kl, 0, none⟩ = some (.int .i64 bo) ∧ w'.cell? ⟨kx, 4, none⟩ = some (.int .i64 al)) := fun w' o => ⟨o, kept_cell o (H3.out.lw.off 0), kept_cell o (H3.out.mt.off 4)⟩
    refine wp_region_held_drew (S := (fun w' => Kept w3 w' ∧ w'.cell? ⟨kl, 0, none⟩ = some (.int .i64 bo) ∧ w'.cell? ⟨kx, 4, none⟩ = some (.int .i64 al))) (by kernel_rfl) ?_ (fun hHeld1 => ?_)
    · (try dsimp only); exact HK.out _ (Kept.refl _).drew
    refine tkW 0 rfl ?_
    try simp only [Act.put, List.setIfInBounds_toArray, List.set_cons_zero, List.set_cons_succ, List.getElem_toArray, List.getElem_cons_succ, List.getElem_cons_zero]
    refine tkW (v := .int .i64 (-nn)) 1 rfl ?_ (by intro w'' hSw; (try dsimp only at hSw); simp only [List.getElem_toArray, List.getElem_cons_succ, List.getElem_cons_zero]; (go_simp <;> rfl))
    try simp only [Act.put, List.setIfInBounds_toArray, List.set_cons_zero, List.set_cons_succ, List.getElem_toArray, List.getElem_cons_succ, List.getElem_cons_zero]
    refine tkW 2 rfl ?_; refine tkW 3 rfl ?_
    try simp only [Act.put, List.setIfInBounds_toArray, List.set_cons_zero, List.set_cons_succ, List.getElem_toArray, List.getElem_cons_succ, List.getElem_cons_zero]
    refine tkW (v := .int .i64 (65536 + bo)) 4 rfl ?_ (by intro w'' hSw; (try dsimp only at hSw); simp only [List.getElem_toArray, List.getElem_cons_succ, List.getElem_cons_zero]; (go_simp <;> rfl))
    try simp only [Act.put, List.setIfInBounds_toArray, List.set_cons_zero, List.set_cons_succ, List.getElem_toArray, List.getElem_cons_succ, List.getElem_cons_zero]
    refine tkW 6 rfl ?_; refine tkW 7 rfl ?_
    try simp only [Act.put, List.setIfInBounds_toArray, List.set_cons_zero, List.set_cons_succ, List.getElem_toArray, List.getElem_cons_succ, List.getElem_cons_zero]
    refine wpAnyH_ready (rs := [5]) (by kernel_rfl) (by simp) ?_
    refine AllReadyH.cons rfl (fun K hK => ?_) AllReadyH.nil
    first | (with_reducible refine iteYes ?hcx ?htx; case hcx => kernel_rfl) | rw [if_pos (by rfl)]
    simp only [List.getElem_toArray, List.getElem_cons_succ, List.getElem_cons_zero]
    go_simp
    (go_at_call 25; refine (mul_calls _ _ _).mono ?_; rintro e w4 ⟨rfl, k4⟩)
    try go_wp2_with fail
    refine hK.out _ _ ?_ (fun hHeld2 => ?_)
    · (try dsimp only); exact HK.out _ ((Kept.refl w3).drew.trans k4)
    clear hK K hHeld1
    try simp only [Act.put, List.setIfInBounds_toArray, List.set_cons_zero, List.set_cons_succ, List.getElem_toArray, List.getElem_cons_succ, List.getElem_cons_zero]
    refine wpAnyH_ready (rs := [8]) (by kernel_rfl) (by simp) ?_
    refine AllReadyH.cons rfl (fun K hK => ?_) AllReadyH.nil
    first | (with_reducible refine iteYes ?hcx ?htx; case hcx => kernel_rfl) | rw [if_pos (by rfl)]
    simp only [List.getElem_toArray, List.getElem_cons_succ, List.getElem_cons_zero]
    go_simp
    (go_at_call 24; refine (div_calls _ _ _).mono ?_; rintro e w5 ⟨rfl, k5⟩)
    try go_wp2_with fail
    refine hK.out _ _ ?_ (fun hHeld3 => ?_)
    · (try dsimp only); exact HK.out _ (((Kept.refl w3).drew.trans k4).trans k5)
    clear hK K hHeld2
    try simp only [Act.put, List.setIfInBounds_toArray, List.set_cons_zero, List.set_cons_succ, List.getElem_toArray, List.getElem_cons_succ, List.getElem_cons_zero]
    refine tkW 9 rfl ?_
    try simp only [Act.put, List.setIfInBounds_toArray, List.set_cons_zero, List.set_cons_succ, List.getElem_toArray, List.getElem_cons_succ, List.getElem_cons_zero]
    refine wpAnyH_done (by kernel_rfl) ?_ _
    have H5 : Hid (HW w kx kl g n i k x y al v dp bo ru ro B w5) := H3.out.keep (((Kept.refl w3).drew.trans k4).trans k5)
    clear hHeld3 HK k4 k5 H3 hneg hbb
    have HJ : Hid (div (mul (-dotX (relX p q) v) (65536 + bo)) al = div (mul (-nn) (65536 + bo)) al ∧ ¬ 0 ≤ nn) := by rw [HN.out]; exact ⟨rfl, by omega⟩
    clear hn hd
    generalize div (mul (-nn) (65536 + bo)) al = jj at HJ ⊢
    have m5 := H5.out.mt
    have q0 := m5.off 0; have q1 := m5.off 1; have q2 := m5.off 2; have q3 := m5.off 3; have q4 := m5.off 4; have q5 := m5.off 5; have q6 := m5.off 6; have q7 := m5.off 7; have q8 := m5.off 8
    simp only [List.getElem?_toArray, List.getElem?_cons_succ, List.getElem?_cons_zero] at q0 q1 q2 q3 q4 q5 q6 q7 q8
    clear m5
    go_wp2_with fail
    refine (show Calls Try.prog 26 #[.agg #[.pointer (some ⟨g, i * 17, none⟩), .pointer (some ⟨g, k * 17, none⟩), .int .i64 x, .int .i64 y, .int .i64 al, .int .i64 (v.x), .int .i64 (v.y), .int .i64 (v.z), .int .i64 dp], .agg #[.int .i64 (v.x), .int .i64 (v.y), .int .i64 (v.z)], .int .i64 jj] w5 _ from give_calls g n i k x y al v dp v.x v.y v.z jj B w5 H5.out.own HI.out.1 HI.out.2.1).mono ?_
    rintro e w6 ⟨rfl, hO6, o6⟩
    obtain ⟨B1, hB1⟩ : ∃ B1, B1 = giveX B i k x y v.x v.y v.z jj := ⟨_, rfl⟩
    rw [← hB1] at hO6
    have HB1 : Hid (B1 = giveX B i k x y v.x v.y v.z jj) := hB1
    have H6 : Hid (HW w kx kl g n i k x y al v dp bo ru ro B1 w6) := H5.out.turn hO6 o6
    clear hB1 hO6 o6 H5 q0 q1 q2 q3 q4 q5 q6 q7 q8
    obtain ⟨p1, hp⟩ : ∃ p, p = B1 i := ⟨_, rfl⟩
    obtain ⟨q1', hq⟩ : ∃ q, q = B1 k := ⟨_, rfl⟩
    have HPQ1 : Hid (p1 = B1 i ∧ q1' = B1 k) := ⟨hp, hq⟩
    clear hp hq
    have m5 := H6.out.mt
    have q0 := m5.off 0; have q1 := m5.off 1; have q2 := m5.off 2; have q3 := m5.off 3; have q4 := m5.off 4; have q5 := m5.off 5; have q6 := m5.off 6; have q7 := m5.off 7; have q8 := m5.off 8
    simp only [List.getElem?_toArray, List.getElem?_cons_succ, List.getElem?_cons_zero] at q0 q1 q2 q3 q4 q5 q6 q7 q8
    clear m5
    go_wp2_with fail
    refine (show Calls Try.prog 23 #[.agg #[.pointer (some ⟨g, i * 17, none⟩), .pointer (some ⟨g, k * 17, none⟩), .int .i64 x, .int .i64 y, .int .i64 al, .int .i64 (v.x), .int .i64 (v.y), .int .i64 (v.z), .int .i64 dp]] w6 _ from speed_calls g n i k x y al v dp B1 p1 q1' w6 H6.out.own HI.out.1 HI.out.2.1 HPQ1.out.1 HPQ1.out.2).mono ?_
    rintro e w7 ⟨rfl, k7⟩
    clear q0 q1 q2 q3 q4 q5 q6 q7 q8
    have H7 : Hid (HW w kx kl g n i k x y al v dp bo ru ro B1 w7) := H6.out.keep k7
    clear k7 H6
    have HV : Hid (relX p1 q1' = ⟨sub q1'.vx p1.vx, sub q1'.vy p1.vy, sub q1'.vz p1.vz⟩) := rfl
    generalize sub q1'.vx p1.vx = vx at HV ⊢
    generalize sub q1'.vy p1.vy = vy at HV ⊢
    generalize sub q1'.vz p1.vz = vz at HV ⊢
    go_upto_region 6 with fail
    have H8 : Hid (HW w kx kl g n i k x y al v dp bo ru ro B1 (w7.alloc (.cells #[.int .i64 vx, .int .i64 vy, .int .i64 vz] 26)) ∧ VecAt (w7.alloc (.cells #[.int .i64 vx, .int .i64 vy, .int .i64 vz] 26)) w7.heap.size vx vy vz ∧ (w7.heap.size ≠ g)) := ⟨H7.out.keep ((Kept.refl w7).alloc _ _), (MapKept.heap_alloc w7 _).1, by have := H7.out.own.lt; omega⟩
    clear H7
    revert H8
    generalize w7.heap.size = kv
    generalize World.alloc w7 _ = w8
    intro H8
    have HD : Hid (dotX (relX p1 q1') v = dot vx vy vz v.x v.y v.z ∧ sideX (relX p1 q1') v = ⟨sub vx (mul v.x (dot vx vy vz v.x v.y v.z)), sub vy (mul v.y (dot vx vy vz v.x v.y v.z)), sub vz (mul v.z (dot vx vy vz v.x v.y v.z))⟩) := by
      rw [HV.out]; exact ⟨rfl, rfl⟩
    generalize hdd : dot vx vy vz v.x v.y v.z = dd at HD
    have HDD : Hid (dot vx vy vz v.x v.y v.z = dd) := hdd
    clear hdd
    have HA : WayAt kx kv v vx vy vz w8 := ⟨H8.out.1.mt.off 5, H8.out.1.mt.off 6, H8.out.1.mt.off 7, H8.out.2.1.off 0, H8.out.2.1.off 1, H8.out.2.1.off 2⟩
    go_cut [7] from 32 to 58 (fun s7 wc => ∃ r, s7 = .pointer (some ⟨r, 0, none⟩) ∧ Kept w8 wc ∧ w8.heap.size ≤ r ∧ wc.cell? ⟨r, 0, none⟩ = some (.int .i64 (sub vx (mul v.x dd))) ∧ wc.cell? ⟨r, 1, none⟩ = some (.int .i64 (sub vy (mul v.y dd))) ∧ wc.cell? ⟨r, 2, none⟩ = some (.int .i64 (sub vz (mul v.z dd))))
    case first =>
      as_aux_lemma =>
        refine wp_region_held_drew (S := fun w' => Kept w8 w' ∧ (w'.cell? ⟨kx, 5, none⟩ = some (.int .i64 (v.x)) ∧ w'.cell? ⟨kx, 6, none⟩ = some (.int .i64 (v.y)) ∧ w'.cell? ⟨kx, 7, none⟩ = some (.int .i64 (v.z)) ∧ w'.cell? ⟨kv, 0, none⟩ = some (.int .i64 vx) ∧ w'.cell? ⟨kv, 1, none⟩ = some (.int .i64 vy) ∧ w'.cell? ⟨kv, 2, none⟩ = some (.int .i64 vz))) (by kernel_rfl) ?_ (fun hH0 => ?_)
        · (try dsimp only); exact ⟨(Kept.refl _).drew, HA.step (Kept.refl _).drew⟩
        refine tkW 0 rfl ?_; refine tkW 1 rfl ?_; refine tkW 2 rfl ?_; refine tkW 3 rfl ?_
        try simp only [Act.put, List.setIfInBounds_toArray, List.set_cons_zero, List.set_cons_succ, List.getElem_toArray, List.getElem_cons_succ, List.getElem_cons_zero]
        refine tkW 4 rfl ?_; refine tkW 5 rfl ?_
        try simp only [Act.put, List.setIfInBounds_toArray, List.set_cons_zero, List.set_cons_succ, List.getElem_toArray, List.getElem_cons_succ, List.getElem_cons_zero]
        refine wpAnyH_ready (rs := [6, 9]) (by kernel_rfl) (by simp) ?_
        refine AllReadyH.cons rfl (fun K hK => ?_) (AllReadyH.cons rfl (fun K hK => ?_) AllReadyH.nil)
        · rw [if_pos (by rfl)]
          simp only [List.getElem_toArray, List.getElem_cons_succ, List.getElem_cons_zero]
          go_simp
          (go_at_call 22; refine (dot_calls _ _ _ _ _ _ _).mono ?_; rintro e wc1 ⟨rfl, kc1⟩; simp only [HDD.out])
          try go_wp2_with fail
          refine hK.out _ _ ?_ (fun hH1 => ?_)
          · exact ⟨hH0.1.trans kc1, HA.step (hH0.1.trans kc1)⟩
          clear hK K hH0
          try simp only [Act.put, List.setIfInBounds_toArray, List.set_cons_zero, List.set_cons_succ, List.getElem_toArray, List.getElem_cons_succ, List.getElem_cons_zero]
          refine wpAnyH_ready (rs := [7, 9]) (by kernel_rfl) (by simp) ?_
          refine AllReadyH.cons rfl (fun K hK => ?_) (AllReadyH.cons rfl (fun K hK => ?_) AllReadyH.nil)
          · rw [if_pos (by rfl)]
            simp only [List.getElem_toArray, List.getElem_cons_succ, List.getElem_cons_zero]
            go_simp
            (go_at_call 28; refine (times_calls _ _ _ _ _).mono ?_; rintro e wc2 ⟨rfl, kc2⟩)
            try go_wp2_with fail
            refine hK.out _ _ ?_ (fun hH2 => ?_)
            · exact ⟨hH1.1.trans kc2, HA.step (hH1.1.trans kc2)⟩
            clear hK K hH1
            try simp only [Act.put, List.setIfInBounds_toArray, List.set_cons_zero, List.set_cons_succ, List.getElem_toArray, List.getElem_cons_succ, List.getElem_cons_zero]
            refine wpAnyH_ready (rs := [8, 9]) (by kernel_rfl) (by simp) ?_
            refine AllReadyH.cons rfl (fun K hK => ?_) (AllReadyH.cons rfl (fun K hK => ?_) AllReadyH.nil)
            · rw [if_pos (by rfl)]
              simp only [List.getElem_toArray, List.getElem_cons_succ, List.getElem_cons_zero]
              go_simp
              (go_at_call 27; refine (minus_calls _ _ _ _ _ _ _).mono ?_; rintro e wc3 ⟨rfl, kc3⟩)
              try go_wp2_with fail
              refine hK.out _ _ ?_ (fun hH3 => ?_)
              · exact ⟨hH2.1.trans kc3, HA.step (hH2.1.trans kc3)⟩
              clear hK K hH2
              try simp only [Act.put, List.setIfInBounds_toArray, List.set_cons_zero, List.set_cons_succ, List.getElem_toArray, List.getElem_cons_succ, List.getElem_cons_zero]
              refine wpAnyH_ready (rs := [9]) (by kernel_rfl) (by simp) ?_
              refine AllReadyH.cons rfl (fun K hK => ?_) AllReadyH.nil
              rw [if_pos (by rfl)]
              simp only [List.getElem_toArray, List.getElem_cons_succ, List.getElem_cons_zero]
              go_simp
              refine hK.out _ _ ?_ (fun hH4 => ?_)
              · exact ⟨hH3.1.alloc _ _, HA.step (hH3.1.alloc _ _)⟩
              have hp : w8.heap.size ≤ wc3.heap.size := Nat.le_trans hH3.1.below.size (Nat.le_of_eq (by simp))
              have hP : FrS3 w8 (wc3.heap.size) (wc3.alloc (.cells #[.int .i64 0, .int .i64 0, .int .i64 0] 26)) := by refine ⟨hH3.1.alloc _ _, cellV_of (v := .int .i64 0) ?_, cellV_of (v := .int .i64 0) ?_, cellV_of (v := .int .i64 0) ?_, ?_, ?_, ?_⟩ <;> go_simp
              clear hK K hH3
              try simp only [Act.put, List.setIfInBounds_toArray, List.set_cons_zero, List.set_cons_succ, List.getElem_toArray, List.getElem_cons_succ, List.getElem_cons_zero]
              generalize (wc3.alloc (.cells #[.int .i64 0, .int .i64 0, .int .i64 0] 26)) = wz5 at hH4 hP ⊢
              have hP0 := hP
              obtain ⟨_, cp0, cp1, cp2, fp0, fp1, fp2⟩ := hP0
              refine wpAnyH_ready (rs := [10]) (by kernel_rfl) (by simp) ?_
              refine AllReadyH.cons rfl (fun K hK => ?_) AllReadyH.nil
              rw [if_pos (by rfl)]
              simp only [List.getElem_toArray, List.getElem_cons_succ, List.getElem_cons_zero]
              go_simp
              refine hK.out _ _ ?_ (fun hS1 => ?_)
              · exact ⟨kept_set3 hH4.1 hp _ _ _, HA.step (kept_set3 hH4.1 hp _ _ _)⟩
              clear hK K
              try simp only [Act.put, List.setIfInBounds_toArray, List.set_cons_zero, List.set_cons_succ, List.getElem_toArray, List.getElem_cons_succ, List.getElem_cons_zero]
              refine wpAnyH_done (by kernel_rfl) ?_ _
              obtain ⟨s0, s1, s2⟩ := set3_of (v0 := .int .i64 (sub vx (mul v.x dd))) (v1 := .int .i64 (sub vy (mul v.y dd))) (v2 := .int .i64 (sub vz (mul v.z dd))) cp0 cp1 cp2
              go_wp2_with fail
              go_meet
              case rel => exact ⟨_, rfl, hS1.1, hp, s0, s1, s2⟩
            · rw [if_pos (by rfl)]
              simp only [List.getElem_toArray, List.getElem_cons_succ, List.getElem_cons_zero]
              go_simp
              refine hK.out _ _ ?_ (fun hH6 => ?_)
              · exact ⟨hH2.1.alloc _ _, HA.step (hH2.1.alloc _ _)⟩
              have hp : w8.heap.size ≤ wc2.heap.size := Nat.le_trans hH2.1.below.size (Nat.le_of_eq (by simp))
              have hP : FrS3 w8 (wc2.heap.size) (wc2.alloc (.cells #[.int .i64 0, .int .i64 0, .int .i64 0] 26)) := by refine ⟨hH2.1.alloc _ _, cellV_of (v := .int .i64 0) ?_, cellV_of (v := .int .i64 0) ?_, cellV_of (v := .int .i64 0) ?_, ?_, ?_, ?_⟩ <;> go_simp
              clear hK K hH2
              try simp only [Act.put, List.setIfInBounds_toArray, List.set_cons_zero, List.set_cons_succ, List.getElem_toArray, List.getElem_cons_succ, List.getElem_cons_zero]
              refine wpAnyH_ready (rs := [8]) (by kernel_rfl) (by simp) ?_
              refine AllReadyH.cons rfl (fun K hK => ?_) AllReadyH.nil
              rw [if_pos (by rfl)]
              simp only [List.getElem_toArray, List.getElem_cons_succ, List.getElem_cons_zero]
              go_simp
              (go_at_call 27; refine (minus_calls _ _ _ _ _ _ _).mono ?_; rintro e wc7 ⟨rfl, kc7⟩)
              try go_wp2_with fail
              refine hK.out _ _ ?_ (fun hH7 => ?_)
              · exact ⟨hH6.1.trans kc7, HA.step (hH6.1.trans kc7)⟩
              replace hP := hP.step kc7
              clear hK K hH6
              try simp only [Act.put, List.setIfInBounds_toArray, List.set_cons_zero, List.set_cons_succ, List.getElem_toArray, List.getElem_cons_succ, List.getElem_cons_zero]
              have hP0 := hP
              obtain ⟨_, cp0, cp1, cp2, fp0, fp1, fp2⟩ := hP0
              refine wpAnyH_ready (rs := [10]) (by kernel_rfl) (by simp) ?_
              refine AllReadyH.cons rfl (fun K hK => ?_) AllReadyH.nil
              rw [if_pos (by rfl)]
              simp only [List.getElem_toArray, List.getElem_cons_succ, List.getElem_cons_zero]
              go_simp
              refine hK.out _ _ ?_ (fun hS1 => ?_)
              · exact ⟨kept_set3 hH7.1 hp _ _ _, HA.step (kept_set3 hH7.1 hp _ _ _)⟩
              clear hK K
              try simp only [Act.put, List.setIfInBounds_toArray, List.set_cons_zero, List.set_cons_succ, List.getElem_toArray, List.getElem_cons_succ, List.getElem_cons_zero]
              refine wpAnyH_done (by kernel_rfl) ?_ _
              obtain ⟨s0, s1, s2⟩ := set3_of (v0 := .int .i64 (sub vx (mul v.x dd))) (v1 := .int .i64 (sub vy (mul v.y dd))) (v2 := .int .i64 (sub vz (mul v.z dd))) cp0 cp1 cp2
              go_wp2_with fail
              go_meet
              case rel => exact ⟨_, rfl, hS1.1, hp, s0, s1, s2⟩
          · rw [if_pos (by rfl)]
            simp only [List.getElem_toArray, List.getElem_cons_succ, List.getElem_cons_zero]
            go_simp
            refine hK.out _ _ ?_ (fun hH8 => ?_)
            · exact ⟨hH1.1.alloc _ _, HA.step (hH1.1.alloc _ _)⟩
            have hp : w8.heap.size ≤ wc1.heap.size := Nat.le_trans hH1.1.below.size (Nat.le_of_eq (by simp))
            have hP : FrS3 w8 (wc1.heap.size) (wc1.alloc (.cells #[.int .i64 0, .int .i64 0, .int .i64 0] 26)) := by refine ⟨hH1.1.alloc _ _, cellV_of (v := .int .i64 0) ?_, cellV_of (v := .int .i64 0) ?_, cellV_of (v := .int .i64 0) ?_, ?_, ?_, ?_⟩ <;> go_simp
            clear hK K hH1
            try simp only [Act.put, List.setIfInBounds_toArray, List.set_cons_zero, List.set_cons_succ, List.getElem_toArray, List.getElem_cons_succ, List.getElem_cons_zero]
            refine wpAnyH_ready (rs := [7]) (by kernel_rfl) (by simp) ?_
            refine AllReadyH.cons rfl (fun K hK => ?_) AllReadyH.nil
            rw [if_pos (by rfl)]
            simp only [List.getElem_toArray, List.getElem_cons_succ, List.getElem_cons_zero]
            go_simp
            (go_at_call 28; refine (times_calls _ _ _ _ _).mono ?_; rintro e wc9 ⟨rfl, kc9⟩)
            try go_wp2_with fail
            refine hK.out _ _ ?_ (fun hH9 => ?_)
            · exact ⟨hH8.1.trans kc9, HA.step (hH8.1.trans kc9)⟩
            replace hP := hP.step kc9
            clear hK K hH8
            try simp only [Act.put, List.setIfInBounds_toArray, List.set_cons_zero, List.set_cons_succ, List.getElem_toArray, List.getElem_cons_succ, List.getElem_cons_zero]
            refine wpAnyH_ready (rs := [8]) (by kernel_rfl) (by simp) ?_
            refine AllReadyH.cons rfl (fun K hK => ?_) AllReadyH.nil
            rw [if_pos (by rfl)]
            simp only [List.getElem_toArray, List.getElem_cons_succ, List.getElem_cons_zero]
            go_simp
            (go_at_call 27; refine (minus_calls _ _ _ _ _ _ _).mono ?_; rintro e wc10 ⟨rfl, kc10⟩)
            try go_wp2_with fail
            refine hK.out _ _ ?_ (fun hH10 => ?_)
            · exact ⟨hH9.1.trans kc10, HA.step (hH9.1.trans kc10)⟩
            replace hP := hP.step kc10
            clear hK K hH9
            try simp only [Act.put, List.setIfInBounds_toArray, List.set_cons_zero, List.set_cons_succ, List.getElem_toArray, List.getElem_cons_succ, List.getElem_cons_zero]
            have hP0 := hP
            obtain ⟨_, cp0, cp1, cp2, fp0, fp1, fp2⟩ := hP0
            refine wpAnyH_ready (rs := [10]) (by kernel_rfl) (by simp) ?_
            refine AllReadyH.cons rfl (fun K hK => ?_) AllReadyH.nil
            rw [if_pos (by rfl)]
            simp only [List.getElem_toArray, List.getElem_cons_succ, List.getElem_cons_zero]
            go_simp
            refine hK.out _ _ ?_ (fun hS1 => ?_)
            · exact ⟨kept_set3 hH10.1 hp _ _ _, HA.step (kept_set3 hH10.1 hp _ _ _)⟩
            clear hK K
            try simp only [Act.put, List.setIfInBounds_toArray, List.set_cons_zero, List.set_cons_succ, List.getElem_toArray, List.getElem_cons_succ, List.getElem_cons_zero]
            refine wpAnyH_done (by kernel_rfl) ?_ _
            obtain ⟨s0, s1, s2⟩ := set3_of (v0 := .int .i64 (sub vx (mul v.x dd))) (v1 := .int .i64 (sub vy (mul v.y dd))) (v2 := .int .i64 (sub vz (mul v.z dd))) cp0 cp1 cp2
            go_wp2_with fail
            go_meet
            case rel => exact ⟨_, rfl, hS1.1, hp, s0, s1, s2⟩
        · rw [if_pos (by rfl)]
          simp only [List.getElem_toArray, List.getElem_cons_succ, List.getElem_cons_zero]
          go_simp
          refine hK.out _ _ ?_ (fun hH11 => ?_)
          · exact ⟨hH0.1.alloc _ _, HA.step (hH0.1.alloc _ _)⟩
          have hp : w8.heap.size ≤ w8.heap.size := Nat.le_trans hH0.1.below.size (Nat.le_of_eq (by simp))
          have hP : FrS3 w8 (w8.heap.size) (w8.drew.alloc (.cells #[.int .i64 0, .int .i64 0, .int .i64 0] 26)) := by refine ⟨hH0.1.alloc _ _, cellV_of (v := .int .i64 0) ?_, cellV_of (v := .int .i64 0) ?_, cellV_of (v := .int .i64 0) ?_, ?_, ?_, ?_⟩ <;> go_simp
          clear hK K hH0
          try simp only [Act.put, List.setIfInBounds_toArray, List.set_cons_zero, List.set_cons_succ, List.getElem_toArray, List.getElem_cons_succ, List.getElem_cons_zero]
          refine wpAnyH_ready (rs := [6]) (by kernel_rfl) (by simp) ?_
          refine AllReadyH.cons rfl (fun K hK => ?_) AllReadyH.nil
          rw [if_pos (by rfl)]
          simp only [List.getElem_toArray, List.getElem_cons_succ, List.getElem_cons_zero]
          go_simp
          (go_at_call 22; refine (dot_calls _ _ _ _ _ _ _).mono ?_; rintro e wc12 ⟨rfl, kc12⟩; simp only [HDD.out])
          try go_wp2_with fail
          refine hK.out _ _ ?_ (fun hH12 => ?_)
          · exact ⟨hH11.1.trans kc12, HA.step (hH11.1.trans kc12)⟩
          replace hP := hP.step kc12
          clear hK K hH11
          try simp only [Act.put, List.setIfInBounds_toArray, List.set_cons_zero, List.set_cons_succ, List.getElem_toArray, List.getElem_cons_succ, List.getElem_cons_zero]
          refine wpAnyH_ready (rs := [7]) (by kernel_rfl) (by simp) ?_
          refine AllReadyH.cons rfl (fun K hK => ?_) AllReadyH.nil
          rw [if_pos (by rfl)]
          simp only [List.getElem_toArray, List.getElem_cons_succ, List.getElem_cons_zero]
          go_simp
          (go_at_call 28; refine (times_calls _ _ _ _ _).mono ?_; rintro e wc13 ⟨rfl, kc13⟩)
          try go_wp2_with fail
          refine hK.out _ _ ?_ (fun hH13 => ?_)
          · exact ⟨hH12.1.trans kc13, HA.step (hH12.1.trans kc13)⟩
          replace hP := hP.step kc13
          clear hK K hH12
          try simp only [Act.put, List.setIfInBounds_toArray, List.set_cons_zero, List.set_cons_succ, List.getElem_toArray, List.getElem_cons_succ, List.getElem_cons_zero]
          refine wpAnyH_ready (rs := [8]) (by kernel_rfl) (by simp) ?_
          refine AllReadyH.cons rfl (fun K hK => ?_) AllReadyH.nil
          rw [if_pos (by rfl)]
          simp only [List.getElem_toArray, List.getElem_cons_succ, List.getElem_cons_zero]
          go_simp
          (go_at_call 27; refine (minus_calls _ _ _ _ _ _ _).mono ?_; rintro e wc14 ⟨rfl, kc14⟩)
          try go_wp2_with fail
          refine hK.out _ _ ?_ (fun hH14 => ?_)
          · exact ⟨hH13.1.trans kc14, HA.step (hH13.1.trans kc14)⟩
          replace hP := hP.step kc14
          clear hK K hH13
          try simp only [Act.put, List.setIfInBounds_toArray, List.set_cons_zero, List.set_cons_succ, List.getElem_toArray, List.getElem_cons_succ, List.getElem_cons_zero]
          have hP0 := hP
          obtain ⟨_, cp0, cp1, cp2, fp0, fp1, fp2⟩ := hP0
          refine wpAnyH_ready (rs := [10]) (by kernel_rfl) (by simp) ?_
          refine AllReadyH.cons rfl (fun K hK => ?_) AllReadyH.nil
          rw [if_pos (by rfl)]
          simp only [List.getElem_toArray, List.getElem_cons_succ, List.getElem_cons_zero]
          go_simp
          refine hK.out _ _ ?_ (fun hS1 => ?_)
          · exact ⟨kept_set3 hH14.1 hp _ _ _, HA.step (kept_set3 hH14.1 hp _ _ _)⟩
          clear hK K
          try simp only [Act.put, List.setIfInBounds_toArray, List.set_cons_zero, List.set_cons_succ, List.getElem_toArray, List.getElem_cons_succ, List.getElem_cons_zero]
          refine wpAnyH_done (by kernel_rfl) ?_ _
          obtain ⟨s0, s1, s2⟩ := set3_of (v0 := .int .i64 (sub vx (mul v.x dd))) (v1 := .int .i64 (sub vy (mul v.y dd))) (v2 := .int .i64 (sub vz (mul v.z dd))) cp0 cp1 cp2
          go_wp2_with fail
          go_meet
          case rel => exact ⟨_, rfl, hS1.1, hp, s0, s1, s2⟩
    case rest =>
      clear HA
      obtain ⟨r, rfl, kc, hr, s0, s1, s2⟩ := hcut
      have H9 : Hid (HW w kx kl g n i k x y al v dp bo ru ro B1 wc ∧ r ≠ g) := ⟨H8.out.1.keep kc, by have := H8.out.1.own.lt; omega⟩
      clear kc hr H8
      have HSD : Hid (sideX (relX p1 q1') v = ⟨sub vx (mul v.x dd), sub vy (mul v.y dd), sub vz (mul v.z dd)⟩) := HD.out.2
      generalize sub vx (mul v.x dd) = sx at HSD s0
      generalize sub vy (mul v.y dd) = sy at HSD s1
      generalize sub vz (mul v.z dd) = sz at HSD s2
      obtain ⟨w9, hw9⟩ : ∃ w9, w9 = wc := ⟨wc, rfl⟩
      subst hw9
      go_wp2_with fail
      refine (long_calls sx sy sz _).mono ?_
      rintro e w10 ⟨rfl, k10⟩
      have H10 : Hid (HW w kx kl g n i k x y al v dp bo ru ro B1 w10 ∧ r ≠ g) := ⟨H9.out.1.keep k10, H9.out.2⟩
      have z0 := kept_cell k10 s0
      have z1 := kept_cell k10 s1
      have z2 := kept_cell k10 s2
      clear k10 s0 s1 s2 H9
      have HLG : Hid (longX ⟨sx, sy, sz⟩ = long sx sy sz ∧ unitX ⟨sx, sy, sz⟩ = ⟨unitPart (long sx sy sz) 0 sx, unitPart (long sx sy sz) 65536 sy, unitPart (long sx sy sz) 0 sz⟩) := ⟨rfl, rfl⟩
      have HUN : Hid (∀ w', Calls Try.prog 30 #[.agg #[.int .i64 sx, .int .i64 sy, .int .i64 sz]] w' fun e w'' => e = .returned (.agg #[.int .i64 (unitPart (long sx sy sz) 0 sx), .int .i64 (unitPart (long sx sy sz) 65536 sy), .int .i64 (unitPart (long sx sy sz) 0 sz)]) ∧ Kept w' w'') := fun w' => unit_calls sx sy sz w'
      generalize long sx sy sz = lg at HLG HUN
      by_cases hl : lg = 0
      · have HE : Hid (hitX B i k x y al v bo ru = B1) := by
          show hitX B i k x y al v bo ru = B1
          unfold hitX
          rw [← HPQ.out.1, ← HPQ.out.2, HN.out, if_neg (by have := HJ.out.2; omega)]
          have hj := HJ.out.1
          rw [HN.out] at hj
          simp only [hj, ← HB1.out, ← HPQ1.out.1, ← HPQ1.out.2, HSD.out, HLG.out.1, hl, if_true]
        have tl : (lg == 0) = true := by simpa using hl
        clear hl
        go_wp2_with fail
        refine bodyPost_ret (results_none rfl _ _ _) rfl ?_
        exact ⟨rfl, by rw [HE.out]; exact H10.out.1.own, H10.out.1.only⟩
      · have HE : Hid (hitX B i k x y al v bo ru = giveX B1 i k x y (unitPart lg 0 sx) (unitPart lg 65536 sy) (unitPart lg 0 sz) (-(minX (mul jj ru) (div lg al)))) := by
          show hitX B i k x y al v bo ru = _
          unfold hitX
          rw [← HPQ.out.1, ← HPQ.out.2, HN.out, if_neg (by have := HJ.out.2; omega)]
          have hj := HJ.out.1
          rw [HN.out] at hj
          simp only [hj, ← HB1.out, ← HPQ1.out.1, ← HPQ1.out.2, HSD.out, HLG.out.1, HLG.out.2, hl, if_false]
        have tl : (lg == 0) = false := by simpa using hl
        have hmn : IntKind.i64.wrap (-(minX (mul jj ru) (div lg al))) = -(minX (mul jj ru) (div lg al)) := by
          have h1 := mul_in jj ru
          have h2 := div_in lg al
          unfold minX
          rw [IntKind.wrap_i64]
          split <;> omega
        clear hl
        go_upto_region 9 with fail
        as_aux_lemma =>
          have HK : Hid (∀ w', Only [g] w10 w' → Only [g] w10 w' ∧ (w'.cell? ⟨kx, 0, none⟩ = some (.pointer (some ⟨g, i * 17, none⟩)) ∧ w'.cell? ⟨kx, 1, none⟩ = some (.pointer (some ⟨g, k * 17, none⟩)) ∧ w'.cell? ⟨kx, 2, none⟩ = some (.int .i64 x) ∧ w'.cell? ⟨kx, 3, none⟩ = some (.int .i64 y) ∧ w'.cell? ⟨kx, 4, none⟩ = some (.int .i64 al) ∧ w'.cell? ⟨kx, 5, none⟩ = some (.int .i64 (v.x)) ∧ w'.cell? ⟨kx, 6, none⟩ = some (.int .i64 (v.y)) ∧ w'.cell? ⟨kx, 7, none⟩ = some (.int .i64 (v.z)) ∧ w'.cell? ⟨kx, 8, none⟩ = some (.int .i64 dp)) ∧ (w'.cell? ⟨r, 0, none⟩ = some (.int .i64 sx) ∧ w'.cell? ⟨r, 1, none⟩ = some (.int .i64 sy) ∧ w'.cell? ⟨r, 2, none⟩ = some (.int .i64 sz)) ∧ w'.cell? ⟨kl, 1, none⟩ = some (.int .i64 ru)) := fun w' o => by
            have m := H10.out.1.mt.only o (by simp only [List.mem_singleton]; exact H10.out.1.nx)
            have l := H10.out.1.lw.only o (by simp only [List.mem_singleton]; exact H10.out.1.nl)
            exact ⟨o, ⟨m.off 0, m.off 1, m.off 2, m.off 3, m.off 4, m.off 5, m.off 6, m.off 7, m.off 8⟩, ⟨cell_only o z0 (by simp only [List.mem_singleton]; exact H10.out.2), cell_only o z1 (by simp only [List.mem_singleton]; exact H10.out.2), cell_only o z2 (by simp only [List.mem_singleton]; exact H10.out.2)⟩, l.off 1⟩
          refine wp_region_held_drew (S := (fun w' => Only [g] w10 w' ∧ (w'.cell? ⟨kx, 0, none⟩ = some (.pointer (some ⟨g, i * 17, none⟩)) ∧ w'.cell? ⟨kx, 1, none⟩ = some (.pointer (some ⟨g, k * 17, none⟩)) ∧ w'.cell? ⟨kx, 2, none⟩ = some (.int .i64 x) ∧ w'.cell? ⟨kx, 3, none⟩ = some (.int .i64 y) ∧ w'.cell? ⟨kx, 4, none⟩ = some (.int .i64 al) ∧ w'.cell? ⟨kx, 5, none⟩ = some (.int .i64 (v.x)) ∧ w'.cell? ⟨kx, 6, none⟩ = some (.int .i64 (v.y)) ∧ w'.cell? ⟨kx, 7, none⟩ = some (.int .i64 (v.z)) ∧ w'.cell? ⟨kx, 8, none⟩ = some (.int .i64 dp)) ∧ (w'.cell? ⟨r, 0, none⟩ = some (.int .i64 sx) ∧ w'.cell? ⟨r, 1, none⟩ = some (.int .i64 sy) ∧ w'.cell? ⟨r, 2, none⟩ = some (.int .i64 sz)) ∧ w'.cell? ⟨kl, 1, none⟩ = some (.int .i64 ru))) (by kernel_rfl) ?_ (fun hHeld1 => ?_)
          · (try dsimp only); exact HK.out _ (Only.refl _ _).drew
          refine tkW 0 rfl ?_; refine tkW 1 rfl ?_; refine tkW 3 rfl ?_; refine tkW 4 rfl ?_
          try simp only [Act.put, List.setIfInBounds_toArray, List.set_cons_zero, List.set_cons_succ, List.getElem_toArray, List.getElem_cons_succ, List.getElem_cons_zero]
          refine tkW 5 rfl ?_; refine tkW 7 rfl ?_; refine tkW 8 rfl ?_; refine tkW 9 rfl ?_
          try simp only [Act.put, List.setIfInBounds_toArray, List.set_cons_zero, List.set_cons_succ, List.getElem_toArray, List.getElem_cons_succ, List.getElem_cons_zero]
          refine wpAnyH_ready (rs := [2]) (by kernel_rfl) (by simp) ?_
          refine AllReadyH.cons rfl (fun K hK => ?_) AllReadyH.nil
          first | (with_reducible refine iteYes ?hcx ?htx; case hcx => kernel_rfl) | rw [if_pos (by rfl)]
          simp only [List.getElem_toArray, List.getElem_cons_succ, List.getElem_cons_zero]
          go_simp
          (go_at_call 30; refine (HUN.out _).mono ?_; rintro e w11 ⟨rfl, k11⟩; have K11 : Hid (Kept w10 w11) := (Kept.refl w10).drew.trans k11; clear k11)
          try go_wp2_with fail
          refine hK.out _ _ ?_ (fun hHeld2 => ?_)
          · (try dsimp only); exact HK.out _ (Only.of_kept K11.out)
          clear hK K hHeld1
          try simp only [Act.put, List.setIfInBounds_toArray, List.set_cons_zero, List.set_cons_succ, List.getElem_toArray, List.getElem_cons_succ, List.getElem_cons_zero]
          refine wpAnyH_ready (rs := [6]) (by kernel_rfl) (by simp) ?_
          refine AllReadyH.cons rfl (fun K hK => ?_) AllReadyH.nil
          first | (with_reducible refine iteYes ?hcx ?htx; case hcx => kernel_rfl) | rw [if_pos (by rfl)]
          simp only [List.getElem_toArray, List.getElem_cons_succ, List.getElem_cons_zero]
          go_simp
          (go_at_call 25; refine (mul_calls _ _ _).mono ?_; rintro e w12 ⟨rfl, k12⟩; have K12 : Hid (Kept w10 w12) := K11.out.trans k12; clear k12)
          try go_wp2_with fail
          refine hK.out _ _ ?_ (fun hHeld3 => ?_)
          · (try dsimp only); exact HK.out _ (Only.of_kept K12.out)
          clear hK K hHeld2
          try simp only [Act.put, List.setIfInBounds_toArray, List.set_cons_zero, List.set_cons_succ, List.getElem_toArray, List.getElem_cons_succ, List.getElem_cons_zero]
          refine wpAnyH_ready (rs := [10]) (by kernel_rfl) (by simp) ?_
          refine AllReadyH.cons rfl (fun K hK => ?_) AllReadyH.nil
          first | (with_reducible refine iteYes ?hcx ?htx; case hcx => kernel_rfl) | rw [if_pos (by rfl)]
          simp only [List.getElem_toArray, List.getElem_cons_succ, List.getElem_cons_zero]
          go_simp
          (go_at_call 24; refine (div_calls _ _ _).mono ?_; rintro e w13 ⟨rfl, k13⟩; have K13 : Hid (Kept w10 w13) := K12.out.trans k13; clear k13)
          try go_wp2_with fail
          refine hK.out _ _ ?_ (fun hHeld4 => ?_)
          · (try dsimp only); exact HK.out _ (Only.of_kept K13.out)
          clear hK K hHeld3
          try simp only [Act.put, List.setIfInBounds_toArray, List.set_cons_zero, List.set_cons_succ, List.getElem_toArray, List.getElem_cons_succ, List.getElem_cons_zero]
          refine tkW (v := .int .i64 (minX (mul jj ru) (div lg al))) 11 rfl ?_ (by intro w'' hSw; (try dsimp only at hSw); simp only [List.getElem_toArray, List.getElem_cons_succ, List.getElem_cons_zero]; (go_simp <;> rfl))
          try simp only [Act.put, List.setIfInBounds_toArray, List.set_cons_zero, List.set_cons_succ, List.getElem_toArray, List.getElem_cons_succ, List.getElem_cons_zero]
          refine tkW (v := .int .i64 (-(minX (mul jj ru) (div lg al)))) 12 rfl ?_ (by intro w'' hSw; (try dsimp only at hSw); simp only [List.getElem_toArray, List.getElem_cons_succ, List.getElem_cons_zero]; (go_simp <;> rfl))
          try simp only [Act.put, List.setIfInBounds_toArray, List.set_cons_zero, List.set_cons_succ, List.getElem_toArray, List.getElem_cons_succ, List.getElem_cons_zero]
          refine wpAnyH_ready (rs := [13]) (by kernel_rfl) (by simp) ?_
          refine AllReadyH.cons rfl (fun K hK => ?_) AllReadyH.nil
          first | (with_reducible refine iteYes ?hcx ?htx; case hcx => kernel_rfl) | rw [if_pos (by rfl)]
          simp only [List.getElem_toArray, List.getElem_cons_succ, List.getElem_cons_zero]
          go_simp
          (go_at_call 26; refine (give_calls g n i k x y al v dp _ _ _ _ B1 _ (H10.out.1.own.only (Only.of_kept (D := []) K13.out) (by simp)) HI.out.1 HI.out.2.1).mono ?_; rintro e w14 ⟨rfl, hO14, o14⟩; have H14 : Hid (OwnB w14 g n _ ∧ Only [g] w10 w14) := ⟨hO14, (Only.of_kept K13.out).trans o14⟩; clear hO14 o14)
          try go_wp2_with fail
          refine hK.out _ _ ?_ (fun hHeld5 => ?_)
          · (try dsimp only); exact HK.out _ H14.out.2
          clear hK K hHeld4
          try simp only [Act.put, List.setIfInBounds_toArray, List.set_cons_zero, List.set_cons_succ, List.getElem_toArray, List.getElem_cons_succ, List.getElem_cons_zero]
          refine wpAnyH_done (by kernel_rfl) ?_ _
          go_wp2_with fail
          refine bodyPost_end (results_none rfl _ _ _) rfl ?_
          exact ⟨rfl, by rw [HE.out]; exact H14.out.1, H10.out.1.only.trans H14.out.2⟩
end Go.Proofs.Ytpegjobehdihbaa
