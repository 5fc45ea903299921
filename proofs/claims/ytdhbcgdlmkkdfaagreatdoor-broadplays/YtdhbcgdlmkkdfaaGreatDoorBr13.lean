/- broad.right and Tree.roomy: what is wrong with a box; whether a leaf may stay where it hangs: whatever the box. -/
import Derived.Test.YtdhbcgdlmkkdfaaGreatDoorBr12
namespace Go.Proofs.YtdhbcgdlmkkdfaaGreatDoor
open Go.ChangeShapes Go.WideShapes Go.ChangeAt Go.RowKit
set_option linter.unusedVariables false
set_option linter.unusedSimpArgs false

def fatX (q : Bx) (n : Int) : Bx := ⟨Go.Proofs.YtdhbcgdlmkkdfaaGreatDoor.sub q.x0 n, Go.Proofs.YtdhbcgdlmkkdfaaGreatDoor.sub q.x1 n, Go.Proofs.YtdhbcgdlmkkdfaaGreatDoor.sub q.x2 n, Go.Proofs.YtdhbcgdlmkkdfaaGreatDoor.add q.x3 n, Go.Proofs.YtdhbcgdlmkkdfaaGreatDoor.add q.x4 n, Go.Proofs.YtdhbcgdlmkkdfaaGreatDoor.add q.x5 n⟩
def topX : Bx := ⟨-70368744177664, -70368744177664, -70368744177664, 70368744177664, 70368744177664, 70368744177664⟩
theorem fat_top : fatX bx0 70368744177664 = topX := by
  have h1 : Go.Proofs.YtdhbcgdlmkkdfaaGreatDoor.sub 0 70368744177664 = -70368744177664 := by unfold Go.Proofs.YtdhbcgdlmkkdfaaGreatDoor.sub; rw [cut_T, cut_in (n := 0) (by omega) (by omega), cut_in (by omega) (by omega)]; rfl
  have h2 : Go.Proofs.YtdhbcgdlmkkdfaaGreatDoor.add 0 70368744177664 = 70368744177664 := by unfold Go.Proofs.YtdhbcgdlmkkdfaaGreatDoor.add; rw [cut_T, cut_in (n := 0) (by omega) (by omega), cut_in (by omega) (by omega)]; rfl
  simp only [fatX, bx0, topX, h1, h2]
def rightC (q : Bx) : Int := if meetX q q then (if withinX q topX then 0 else 2) else 1
def errV (n : Int) : Value := if n = 0 then .nilIface else .iface 29 (.int .i64 n)
theorem rightC_ok {q : Bx} (h : rightC q = 0) : meetX q q = true ∧ withinX q topX = true := by
  unfold rightC at h; split at h
  · split at h
    · exact ⟨‹_›, ‹_›⟩
    · cases h
  · cases h
theorem sub_le {a n : Int} (h1 : -70368744177664 ≤ a) (h2 : a ≤ 70368744177664) (h3 : 0 ≤ n) (h4 : n ≤ 70368744177664) : Go.Proofs.YtdhbcgdlmkkdfaaGreatDoor.sub a n ≤ a := by
  unfold Go.Proofs.YtdhbcgdlmkkdfaaGreatDoor.sub; rw [cut_in h1 h2, cut_in (n := n) (by omega) h4]; unfold cut; split
  · omega
  · split <;> omega
theorem le_add {a n : Int} (h1 : -70368744177664 ≤ a) (h2 : a ≤ 70368744177664) (h3 : 0 ≤ n) (h4 : n ≤ 70368744177664) : a ≤ Go.Proofs.YtdhbcgdlmkkdfaaGreatDoor.add a n := by
  unfold Go.Proofs.YtdhbcgdlmkkdfaaGreatDoor.add; rw [cut_in h1 h2, cut_in (n := n) (by omega) h4]; unfold cut; split
  · omega
  · split <;> omega
theorem fat_within {q : Bx} {n : Int} (h : rightC q = 0) (h3 : 0 ≤ n) (h4 : n ≤ 3276800) : withinX q (fatX q n) = true := by
  obtain ⟨m, k⟩ := rightC_ok h
  rw [meetX_iff] at m
  rw [withinX_iff] at k ⊢
  simp only [topX] at k
  simp only [fatX]
  have a0 := sub_le (a := q.x0) (n := n) (by omega) (by omega) h3 (by omega)
  have a1 := sub_le (a := q.x1) (n := n) (by omega) (by omega) h3 (by omega)
  have a2 := sub_le (a := q.x2) (n := n) (by omega) (by omega) h3 (by omega)
  have a3 := le_add (a := q.x3) (n := n) (by omega) (by omega) h3 (by omega)
  have a4 := le_add (a := q.x4) (n := n) (by omega) (by omega) h3 (by omega)
  have a5 := le_add (a := q.x5) (n := n) (by omega) (by omega) h3 (by omega)
  omega
def BK (k : Nat) (q : Bx) (w w' : World) : Prop := Kept w w' ∧ w'.cell? ⟨k, 0, none⟩ = some (.int .i64 q.x0) ∧ w'.cell? ⟨k, 1, none⟩ = some (.int .i64 q.x1) ∧ w'.cell? ⟨k, 2, none⟩ = some (.int .i64 q.x2) ∧ w'.cell? ⟨k, 3, none⟩ = some (.int .i64 q.x3) ∧ w'.cell? ⟨k, 4, none⟩ = some (.int .i64 q.x4) ∧ w'.cell? ⟨k, 5, none⟩ = some (.int .i64 q.x5)
theorem BK.of {k : Nat} {q : Bx} {w w' : World} (kk : Kept w w') (hq : BoxAt w k q) : BK k q w w' := by
  have h := (Only.of_kept (D := []) kk).box (by simp) hq
  exact ⟨kk, h.off 0, h.off 1, h.off 2, h.off 3, h.off 4, h.off 5⟩
theorem right_bad (q : Bx) (w : World) (hm : meetX q q = false) : Calls Tryz.prog 17 #[.agg #[.int .i64 (q.x0), .int .i64 (q.x1), .int .i64 (q.x2), .int .i64 (q.x3), .int .i64 (q.x4), .int .i64 (q.x5)]] w fun e w' => e = .returned (.iface 29 (.int .i64 1)) ∧ Kept w w' := by
  unfold meetX at hm
  go_enter Tryz.func17, Tryz.ntmps17
  go_wp2_with fail
  refine (gmeet_calls _ _ _ _ _ _ _ _ _ _ _ _ _).mono ?_
  rintro e w1 ⟨rfl, k1⟩
  have H : Hid (Kept w w1) := ((Kept.refl w).alloc _ _).trans k1
  clear k1
  go_wp2_with fail
  go_ret
  exact ⟨rfl, H.out⟩
theorem right_good (q : Bx) (w : World) (hm : meetX q q = true) : Calls Tryz.prog 17 #[.agg #[.int .i64 (q.x0), .int .i64 (q.x1), .int .i64 (q.x2), .int .i64 (q.x3), .int .i64 (q.x4), .int .i64 (q.x5)]] w fun e w' => e = .returned (errV (if withinX q topX then 0 else 2)) ∧ Kept w w' := by
  unfold meetX at hm
  obtain ⟨v, hv⟩ : ∃ v, withinX q topX = v := ⟨_, rfl⟩
  rw [hv]
  rw [← fat_top] at hv
  simp only [withinX, fatX, bx0] at hv
  go_enter Tryz.func17, Tryz.ntmps17
  go_wp2_with fail
  refine (gmeet_calls _ _ _ _ _ _ _ _ _ _ _ _ _).mono ?_
  rintro e w1 ⟨rfl, k1⟩
  have o0 : Hid (Kept w w1 ∧ BoxAt w1 w.heap.size q) := ⟨((Kept.refl w).alloc _ _).trans k1, (Only.of_kept (D := []) k1).box (by simp) (MapKept.heap_alloc w _).1⟩
  clear k1
  generalize w.heap.size = k at o0 ⊢
  go_wp2_with fail
  refine wp_region_held_drew (S := (fun w' => Kept w1 w' ∧ w'.cell? ⟨k, 0, none⟩ = some (.int .i64 q.x0) ∧ w'.cell? ⟨k, 1, none⟩ = some (.int .i64 q.x1) ∧ w'.cell? ⟨k, 2, none⟩ = some (.int .i64 q.x2) ∧ w'.cell? ⟨k, 3, none⟩ = some (.int .i64 q.x3) ∧ w'.cell? ⟨k, 4, none⟩ = some (.int .i64 q.x4) ∧ w'.cell? ⟨k, 5, none⟩ = some (.int .i64 q.x5))) (by kernel_rfl) ?_ (fun hHeld1 => ?_)
  · (try dsimp only); exact BK.of (Kept.refl _).drew o0.out.2
  refine tkW 0 rfl ?_; refine tkW 1 rfl ?_
  try simp only [Act.put, List.setIfInBounds_toArray, List.set_cons_zero, List.set_cons_succ, List.getElem_toArray, List.getElem_cons_succ, List.getElem_cons_zero]
  refine wpAnyH_ready (rs := [2]) (by kernel_rfl) (by simp) ?_
  refine AllReadyH.cons rfl (fun K hK => ?_) AllReadyH.nil
  first | (with_reducible refine iteYes ?hcx ?htx; case hcx => kernel_rfl) | rw [if_pos (by rfl)]
  simp only [List.getElem_toArray, List.getElem_cons_succ, List.getElem_cons_zero]
  go_simp
  (go_at_call 20; refine (gfat_calls _ _ _ _ _ _ _ _).mono ?_; rintro e w2 ⟨rfl, k2⟩)
  try go_wp2_with fail
  refine hK.out _ _ ?_ (fun hHeld2 => ?_)
  · (try dsimp only); exact BK.of (hHeld1.1.trans k2) o0.out.2
  clear hK K hHeld1
  try simp only [Act.put, List.setIfInBounds_toArray, List.set_cons_zero, List.set_cons_succ, List.getElem_toArray, List.getElem_cons_succ, List.getElem_cons_zero]
  refine wpAnyH_ready (rs := [3]) (by kernel_rfl) (by simp) ?_
  refine AllReadyH.cons rfl (fun K hK => ?_) AllReadyH.nil
  first | (with_reducible refine iteYes ?hcx ?htx; case hcx => kernel_rfl) | rw [if_pos (by rfl)]
  simp only [List.getElem_toArray, List.getElem_cons_succ, List.getElem_cons_zero]
  go_simp
  (go_at_call 30; refine (gwithin_calls _ _ _ _ _ _ _ _ _ _ _ _ _).mono ?_; rintro e w3 ⟨rfl, k3⟩)
  try go_wp2_with fail
  refine hK.out _ _ ?_ (fun hHeld3 => ?_)
  · (try dsimp only); exact BK.of (hHeld2.1.trans k3) o0.out.2
  clear hK K hHeld2
  try simp only [Act.put, List.setIfInBounds_toArray, List.set_cons_zero, List.set_cons_succ, List.getElem_toArray, List.getElem_cons_succ, List.getElem_cons_zero]
  refine tkW 4 rfl ?_
  try simp only [Act.put, List.setIfInBounds_toArray, List.set_cons_zero, List.set_cons_succ, List.getElem_toArray, List.getElem_cons_succ, List.getElem_cons_zero]
  refine wpAnyH_done (by kernel_rfl) ?_ _
  have H : Hid (Kept w w3) := o0.out.1.trans hHeld3.1
  clear hHeld3 o0 hm
  cases v
  · go_wp2_with fail
    go_ret
    exact ⟨rfl, H.out⟩
  · go_wp2_with fail
    go_ret
    exact ⟨rfl, H.out⟩
theorem right_calls (q : Bx) (w : World) : Calls Tryz.prog 17 #[.agg #[.int .i64 (q.x0), .int .i64 (q.x1), .int .i64 (q.x2), .int .i64 (q.x3), .int .i64 (q.x4), .int .i64 (q.x5)]] w fun e w' => e = .returned (errV (rightC q)) ∧ Kept w w' := by
  unfold rightC
  cases hm : meetX q q with
  | true => simp only [if_true]; exact right_good q w hm
  | false => simp only [Bool.false_eq_true, if_false]; exact right_bad q w hm

def RK (k : Nat) (q : Bx) (b : Nat) (R : Bx) (t : Nat) (fat : Int) (w w' : World) : Prop := Kept w w' ∧ w'.cell? ⟨k, 0, none⟩ = some (.int .i64 q.x0) ∧ w'.cell? ⟨k, 1, none⟩ = some (.int .i64 q.x1) ∧ w'.cell? ⟨k, 2, none⟩ = some (.int .i64 q.x2) ∧ w'.cell? ⟨k, 3, none⟩ = some (.int .i64 q.x3) ∧ w'.cell? ⟨k, 4, none⟩ = some (.int .i64 q.x4) ∧ w'.cell? ⟨k, 5, none⟩ = some (.int .i64 q.x5) ∧ w'.cell? ⟨b, 7, none⟩ = some (.int .i64 R.x0) ∧ w'.cell? ⟨b, 8, none⟩ = some (.int .i64 R.x1) ∧ w'.cell? ⟨b, 9, none⟩ = some (.int .i64 R.x2) ∧ w'.cell? ⟨b, 10, none⟩ = some (.int .i64 R.x3) ∧ w'.cell? ⟨b, 11, none⟩ = some (.int .i64 R.x4) ∧ w'.cell? ⟨b, 12, none⟩ = some (.int .i64 R.x5) ∧ w'.cell? ⟨t, 0, none⟩ = some (.int .i64 fat)
theorem RK.of {k : Nat} {q : Bx} {b : Nat} {n : Nd} {t : Nat} {fat : Int} {r lv : Option Nat} {w w' : World} (kk : Kept w w') (hq : BoxAt w k q) (hn : NodeAt w b n) (ht : TreeAt w t fat r lv) : RK k q b n.room t fat w w' := by
  have h := (Only.of_kept (D := []) kk).box (by simp) hq
  have h2 := hn.kept kk
  have h3 := (Only.of_kept (D := []) kk).tree (by simp) ht
  exact ⟨kk, h.off 0, h.off 1, h.off 2, h.off 3, h.off 4, h.off 5, h2.c7, h2.c8, h2.c9, h2.c10, h2.c11, h2.c12, h3.c0⟩
theorem roomy_calls (t b : Nat) (n : Nd) (fat : Int) (r lv : Option Nat) (q : Bx) (w : World) (hn : NodeAt w b n) (ht : TreeAt w t fat r lv) (h0 : 0 ≤ fat) (h1 : fat ≤ 3276800) :
    Calls Tryz.prog 18 #[.pointer (some ⟨t, 0, none⟩), .pointer (some ⟨b, 0, none⟩), .agg #[.int .i64 (q.x0), .int .i64 (q.x1), .int .i64 (q.x2), .int .i64 (q.x3), .int .i64 (q.x4), .int .i64 (q.x5)]] w fun e w' => (∃ v, e = .returned (.bool v) ∧ (v = true → withinX q n.room = true)) ∧ Kept w w' := by
  have HN : Hid (NodeAt w b n ∧ TreeAt w t fat r lv) := ⟨hn, ht⟩
  clear hn ht
  obtain ⟨R, hR⟩ : ∃ R, R = n.room := ⟨_, rfl⟩
  rw [← hR]
  cases hv : withinX q R with
  | true =>
    unfold withinX at hv
    go_enter Tryz.func18, Tryz.ntmps18
    go_wp2_with fail
    have o0 : Hid (Kept w _ ∧ BoxAt _ w.heap.size q) := ⟨(Kept.refl w).alloc #[.int .i64 (q.x0), .int .i64 (q.x1), .int .i64 (q.x2), .int .i64 (q.x3), .int .i64 (q.x4), .int .i64 (q.x5)] 34, (MapKept.heap_alloc w _).1⟩
    revert o0
    generalize World.alloc w _ = w0
    generalize w.heap.size = k
    intro o0
    have hn0 := HN.out.1.kept o0.out.1
    have ht0 := (Only.of_kept (D := []) o0.out.1).tree (by simp) HN.out.2
    have HB : Hid (∀ w', Kept w0 w' → RK k q b R t fat w0 w') := fun w' kk => by rw [hR]; exact RK.of kk o0.out.2 hn0 ht0
    clear hn0 ht0 hR
    refine wp_region_held_drew (S := (fun w' => Kept w0 w' ∧ w'.cell? ⟨k, 0, none⟩ = some (.int .i64 q.x0) ∧ w'.cell? ⟨k, 1, none⟩ = some (.int .i64 q.x1) ∧ w'.cell? ⟨k, 2, none⟩ = some (.int .i64 q.x2) ∧ w'.cell? ⟨k, 3, none⟩ = some (.int .i64 q.x3) ∧ w'.cell? ⟨k, 4, none⟩ = some (.int .i64 q.x4) ∧ w'.cell? ⟨k, 5, none⟩ = some (.int .i64 q.x5) ∧ w'.cell? ⟨b, 7, none⟩ = some (.int .i64 R.x0) ∧ w'.cell? ⟨b, 8, none⟩ = some (.int .i64 R.x1) ∧ w'.cell? ⟨b, 9, none⟩ = some (.int .i64 R.x2) ∧ w'.cell? ⟨b, 10, none⟩ = some (.int .i64 R.x3) ∧ w'.cell? ⟨b, 11, none⟩ = some (.int .i64 R.x4) ∧ w'.cell? ⟨b, 12, none⟩ = some (.int .i64 R.x5) ∧ w'.cell? ⟨t, 0, none⟩ = some (.int .i64 fat))) (by kernel_rfl) ?_ (fun hHeld1 => ?_)
    · (try dsimp only); exact HB.out _ (Kept.refl _).drew
    refine tkW 0 rfl ?_; refine tkW 1 rfl ?_; refine tkW 2 rfl ?_; refine tkW 3 rfl ?_
    try simp only [Act.put, List.setIfInBounds_toArray, List.set_cons_zero, List.set_cons_succ, List.getElem_toArray, List.getElem_cons_succ, List.getElem_cons_zero]
    refine tkW 4 rfl ?_
    try simp only [Act.put, List.setIfInBounds_toArray, List.set_cons_zero, List.set_cons_succ, List.getElem_toArray, List.getElem_cons_succ, List.getElem_cons_zero]
    refine wpAnyH_ready (rs := [5]) (by kernel_rfl) (by simp) ?_
    refine AllReadyH.cons rfl (fun K hK => ?_) AllReadyH.nil
    first | (with_reducible refine iteYes ?hcx ?htx; case hcx => kernel_rfl) | rw [if_pos (by rfl)]
    simp only [List.getElem_toArray, List.getElem_cons_succ, List.getElem_cons_zero]
    go_simp
    (go_at_call 30; refine (gwithin_calls _ _ _ _ _ _ _ _ _ _ _ _ _).mono ?_; rintro e w1 ⟨rfl, k1⟩)
    try go_wp2_with fail
    refine hK.out _ _ ?_ (fun hHeld2 => ?_)
    · (try dsimp only); exact HB.out _ (hHeld1.1.trans k1)
    clear hK K hHeld1
    try simp only [Act.put, List.setIfInBounds_toArray, List.set_cons_zero, List.set_cons_succ, List.getElem_toArray, List.getElem_cons_succ, List.getElem_cons_zero]
    refine tkW 6 rfl ?_; refine tkW 7 rfl ?_; refine tkW 8 rfl ?_; refine tkW 9 rfl ?_
    try simp only [Act.put, List.setIfInBounds_toArray, List.set_cons_zero, List.set_cons_succ, List.getElem_toArray, List.getElem_cons_succ, List.getElem_cons_zero]
    refine tkW 10 rfl ?_; refine tkW 11 rfl ?_; refine tkW 12 rfl ?_; refine tkW 13 rfl ?_
    try simp only [Act.put, List.setIfInBounds_toArray, List.set_cons_zero, List.set_cons_succ, List.getElem_toArray, List.getElem_cons_succ, List.getElem_cons_zero]
    refine tkW 14 rfl ?_; refine tkW 15 rfl ?_; refine tkW 16 rfl ?_
    try simp only [Act.put, List.setIfInBounds_toArray, List.set_cons_zero, List.set_cons_succ, List.getElem_toArray, List.getElem_cons_succ, List.getElem_cons_zero]
    refine wpAnyH_ready (rs := [17]) (by kernel_rfl) (by simp) ?_
    refine AllReadyH.cons rfl (fun K hK => ?_) AllReadyH.nil
    first | (with_reducible refine iteYes ?hcx ?htx; case hcx => kernel_rfl) | rw [if_pos (by rfl)]
    simp only [List.getElem_toArray, List.getElem_cons_succ, List.getElem_cons_zero]
    go_simp
    (go_at_call 20; refine (gfat_calls _ _ _ _ _ _ _ _).mono ?_; rintro e w2 ⟨rfl, k2⟩)
    try go_wp2_with fail
    refine hK.out _ _ ?_ (fun hHeld3 => ?_)
    · (try dsimp only); exact HB.out _ (hHeld2.1.trans k2)
    clear hK K hHeld2
    try simp only [Act.put, List.setIfInBounds_toArray, List.set_cons_zero, List.set_cons_succ, List.getElem_toArray, List.getElem_cons_succ, List.getElem_cons_zero]
    refine wpAnyH_ready (rs := [18]) (by kernel_rfl) (by simp) ?_
    refine AllReadyH.cons rfl (fun K hK => ?_) AllReadyH.nil
    first | (with_reducible refine iteYes ?hcx ?htx; case hcx => kernel_rfl) | rw [if_pos (by rfl)]
    simp only [List.getElem_toArray, List.getElem_cons_succ, List.getElem_cons_zero]
    go_simp
    (go_at_call 30; refine (gwithin_calls _ _ _ _ _ _ _ _ _ _ _ _ _).mono ?_; rintro e w3 ⟨rfl, k3⟩)
    try go_wp2_with fail
    refine hK.out _ _ ?_ (fun hHeld4 => ?_)
    · (try dsimp only); exact HB.out _ (hHeld3.1.trans k3)
    clear hK K hHeld3
    try simp only [Act.put, List.setIfInBounds_toArray, List.set_cons_zero, List.set_cons_succ, List.getElem_toArray, List.getElem_cons_succ, List.getElem_cons_zero]
    refine tkW 19 rfl ?_; refine tkW 20 rfl ?_
    try simp only [Act.put, List.setIfInBounds_toArray, List.set_cons_zero, List.set_cons_succ, List.getElem_toArray, List.getElem_cons_succ, List.getElem_cons_zero]
    refine wpAnyH_done (by kernel_rfl) ?_ _
    have H : Hid (Kept w w3) := o0.out.1.trans hHeld4.1
    clear hHeld4
    go_wp2_with fail
    go_ret
    exact ⟨⟨_, rfl, fun _ => by first | trivial | rfl⟩, H.out⟩
  | false =>
    unfold withinX at hv
    go_enter Tryz.func18, Tryz.ntmps18
    go_wp2_with fail
    have o0 : Hid (Kept w _ ∧ BoxAt _ w.heap.size q) := ⟨(Kept.refl w).alloc #[.int .i64 (q.x0), .int .i64 (q.x1), .int .i64 (q.x2), .int .i64 (q.x3), .int .i64 (q.x4), .int .i64 (q.x5)] 34, (MapKept.heap_alloc w _).1⟩
    revert o0
    generalize World.alloc w _ = w0
    generalize w.heap.size = k
    intro o0
    have hn0 := HN.out.1.kept o0.out.1
    have ht0 := (Only.of_kept (D := []) o0.out.1).tree (by simp) HN.out.2
    have HB : Hid (∀ w', Kept w0 w' → RK k q b R t fat w0 w') := fun w' kk => by rw [hR]; exact RK.of kk o0.out.2 hn0 ht0
    clear hn0 ht0 hR
    refine wp_region_held_drew (S := (fun w' => Kept w0 w' ∧ w'.cell? ⟨k, 0, none⟩ = some (.int .i64 q.x0) ∧ w'.cell? ⟨k, 1, none⟩ = some (.int .i64 q.x1) ∧ w'.cell? ⟨k, 2, none⟩ = some (.int .i64 q.x2) ∧ w'.cell? ⟨k, 3, none⟩ = some (.int .i64 q.x3) ∧ w'.cell? ⟨k, 4, none⟩ = some (.int .i64 q.x4) ∧ w'.cell? ⟨k, 5, none⟩ = some (.int .i64 q.x5) ∧ w'.cell? ⟨b, 7, none⟩ = some (.int .i64 R.x0) ∧ w'.cell? ⟨b, 8, none⟩ = some (.int .i64 R.x1) ∧ w'.cell? ⟨b, 9, none⟩ = some (.int .i64 R.x2) ∧ w'.cell? ⟨b, 10, none⟩ = some (.int .i64 R.x3) ∧ w'.cell? ⟨b, 11, none⟩ = some (.int .i64 R.x4) ∧ w'.cell? ⟨b, 12, none⟩ = some (.int .i64 R.x5) ∧ w'.cell? ⟨t, 0, none⟩ = some (.int .i64 fat))) (by kernel_rfl) ?_ (fun hHeld1 => ?_)
    · (try dsimp only); exact HB.out _ (Kept.refl _).drew
    refine tkW 0 rfl ?_; refine tkW 1 rfl ?_; refine tkW 2 rfl ?_; refine tkW 3 rfl ?_
    try simp only [Act.put, List.setIfInBounds_toArray, List.set_cons_zero, List.set_cons_succ, List.getElem_toArray, List.getElem_cons_succ, List.getElem_cons_zero]
    refine tkW 4 rfl ?_
    try simp only [Act.put, List.setIfInBounds_toArray, List.set_cons_zero, List.set_cons_succ, List.getElem_toArray, List.getElem_cons_succ, List.getElem_cons_zero]
    refine wpAnyH_ready (rs := [5]) (by kernel_rfl) (by simp) ?_
    refine AllReadyH.cons rfl (fun K hK => ?_) AllReadyH.nil
    first | (with_reducible refine iteYes ?hcx ?htx; case hcx => kernel_rfl) | rw [if_pos (by rfl)]
    simp only [List.getElem_toArray, List.getElem_cons_succ, List.getElem_cons_zero]
    go_simp
    (go_at_call 30; refine (gwithin_calls _ _ _ _ _ _ _ _ _ _ _ _ _).mono ?_; rintro e w1 ⟨rfl, k1⟩)
    try go_wp2_with fail
    refine hK.out _ _ ?_ (fun hHeld2 => ?_)
    · (try dsimp only); exact HB.out _ (hHeld1.1.trans k1)
    clear hK K hHeld1
    try simp only [Act.put, List.setIfInBounds_toArray, List.set_cons_zero, List.set_cons_succ, List.getElem_toArray, List.getElem_cons_succ, List.getElem_cons_zero]
    refine tkW 6 rfl ?_
    try simp only [Act.put, List.setIfInBounds_toArray, List.set_cons_zero, List.set_cons_succ, List.getElem_toArray, List.getElem_cons_succ, List.getElem_cons_zero]
    refine skW 7 rfl ?_; refine skW 8 rfl ?_; refine skW 9 rfl ?_; refine skW 10 rfl ?_
    try simp only [Act.put, List.setIfInBounds_toArray, List.set_cons_zero, List.set_cons_succ, List.getElem_toArray, List.getElem_cons_succ, List.getElem_cons_zero]
    refine skW 11 rfl ?_; refine skW 12 rfl ?_; refine skW 13 rfl ?_; refine skW 14 rfl ?_
    try simp only [Act.put, List.setIfInBounds_toArray, List.set_cons_zero, List.set_cons_succ, List.getElem_toArray, List.getElem_cons_succ, List.getElem_cons_zero]
    refine skW 15 rfl ?_; refine skW 16 rfl ?_; refine skW 17 rfl ?_; refine skW 18 rfl ?_
    try simp only [Act.put, List.setIfInBounds_toArray, List.set_cons_zero, List.set_cons_succ, List.getElem_toArray, List.getElem_cons_succ, List.getElem_cons_zero]
    refine tkW 19 rfl ?_; refine tkW 20 rfl ?_
    try simp only [Act.put, List.setIfInBounds_toArray, List.set_cons_zero, List.set_cons_succ, List.getElem_toArray, List.getElem_cons_succ, List.getElem_cons_zero]
    refine wpAnyH_done (by kernel_rfl) ?_ _
    have H : Hid (Kept w w1) := o0.out.1.trans hHeld2.1
    clear hHeld2
    go_wp2_with fail
    go_ret
    exact ⟨⟨_, rfl, fun h => by cases h⟩, H.out⟩
end Go.Proofs.YtdhbcgdlmkkdfaaGreatDoor

