/- . -/
import Derived.Test.YtbenlgandjjopaaGreatDoorN3
open Go.Value renaming int → J
open Go.IntKind renaming i64 → U
namespace Go.Proofs.YtbenlgandjjopaaGreatDoor
set_option maxHeartbeats 4000000
open Go.ChangeShapes Go.WideShapes Go.ChangeAt Go.RowKit
set_option linter.unusedSimpArgs false
variable {w1 w w2 : World} {b0 b1 fn : Nat} {v0 v1 v2 v3 v4 v5 v6 v7 v8 v9 v10 v11 a p v : Value} {Pre : World → Prop}
def G66 (w : World) (b0 b1 : Nat) (v0 v1 v2 v3 v4 v5 v6 v7 v8 v9 v10 v11 : Value) (w' : World) : Prop :=
 Kept w w' ∧
 w'.cell? ⟨b0,0,none⟩ = some v0 ∧
 w'.cell? ⟨b0,1,none⟩ = some v1 ∧
 w'.cell? ⟨b0,2,none⟩ = some v2 ∧
 w'.cell? ⟨b0,3,none⟩ = some v3 ∧
 w'.cell? ⟨b0,4,none⟩ = some v4 ∧
 w'.cell? ⟨b0,5,none⟩ = some v5 ∧
 w'.cell? ⟨b1,0,none⟩ = some v6 ∧
 w'.cell? ⟨b1,1,none⟩ = some v7 ∧
 w'.cell? ⟨b1,2,none⟩ = some v8 ∧
 w'.cell? ⟨b1,3,none⟩ = some v9 ∧
 w'.cell? ⟨b1,4,none⟩ = some v10 ∧
 w'.cell? ⟨b1,5,none⟩ = some v11
theorem G66.step (k : Kept w1 w2) (h : G66 w b0 b1 v0 v1 v2 v3 v4 v5 v6 v7 v8 v9 v10 v11 w1) : G66 w b0 b1 v0 v1 v2 v3 v4 v5 v6 v7 v8 v9 v10 v11 w2 := by
 obtain ⟨h0,h1,h2,h3,h4,h5,h6,h7,h8,h9,h10,h11,h12⟩ := h;exact ⟨h0.trans k,y00 k h1,y00 k h2,y00 k h3,y00 k h4,y00 k h5,y00 k h6,y00 k h7,y00 k h8,y00 k h9,y00 k h10,y00 k h11,y00 k h12⟩
theorem G66.drew {w w1 : World} {b0 b1 : Nat} {v0 v1 v2 v3 v4 v5 v6 v7 v8 v9 v10 v11 : Value} (h : G66 w b0 b1 v0 v1 v2 v3 v4 v5 v6 v7 v8 v9 v10 v11 w1) : G66 w b0 b1 v0 v1 v2 v3 v4 v5 v6 v7 v8 v9 v10 v11 w1.drew := h.step kd
def G66At (b0 b1 : Nat) (v0 v1 v2 v3 v4 v5 v6 v7 v8 v9 v10 v11 : Value) (w' : World) : Prop :=
 w'.cell? ⟨b0,0,none⟩ = some v0 ∧
 w'.cell? ⟨b0,1,none⟩ = some v1 ∧
 w'.cell? ⟨b0,2,none⟩ = some v2 ∧
 w'.cell? ⟨b0,3,none⟩ = some v3 ∧
 w'.cell? ⟨b0,4,none⟩ = some v4 ∧
 w'.cell? ⟨b0,5,none⟩ = some v5 ∧
 w'.cell? ⟨b1,0,none⟩ = some v6 ∧
 w'.cell? ⟨b1,1,none⟩ = some v7 ∧
 w'.cell? ⟨b1,2,none⟩ = some v8 ∧
 w'.cell? ⟨b1,3,none⟩ = some v9 ∧
 w'.cell? ⟨b1,4,none⟩ = some v10 ∧
 w'.cell? ⟨b1,5,none⟩ = some v11
theorem G66At.step (k : Kept w1 w2) (h : G66At b0 b1 v0 v1 v2 v3 v4 v5 v6 v7 v8 v9 v10 v11 w1) : G66At b0 b1 v0 v1 v2 v3 v4 v5 v6 v7 v8 v9 v10 v11 w2 := by
 obtain ⟨h1,h2,h3,h4,h5,h6,h7,h8,h9,h10,h11,h12⟩ := h;exact ⟨y00 k h1,y00 k h2,y00 k h3,y00 k h4,y00 k h5,y00 k h6,y00 k h7,y00 k h8,y00 k h9,y00 k h10,y00 k h11,y00 k h12⟩
theorem G66At.start (h : G66At b0 b1 v0 v1 v2 v3 v4 v5 v6 v7 v8 v9 v10 v11 w1) : G66 w1 b0 b1 v0 v1 v2 v3 v4 v5 v6 v7 v8 v9 v10 v11 w1.drew := ⟨kd,h.step kd⟩
def G36 (w : World) (b0 b1 : Nat) (v0 v1 v2 v3 v4 v5 v6 v7 v8 : Value) (w' : World) : Prop :=
 Kept w w' ∧
 w'.cell? ⟨b0,0,none⟩ = some v0 ∧
 w'.cell? ⟨b0,1,none⟩ = some v1 ∧
 w'.cell? ⟨b0,2,none⟩ = some v2 ∧
 w'.cell? ⟨b1,0,none⟩ = some v3 ∧
 w'.cell? ⟨b1,1,none⟩ = some v4 ∧
 w'.cell? ⟨b1,2,none⟩ = some v5 ∧
 w'.cell? ⟨b1,3,none⟩ = some v6 ∧
 w'.cell? ⟨b1,4,none⟩ = some v7 ∧
 w'.cell? ⟨b1,5,none⟩ = some v8
theorem G36.step (k : Kept w1 w2) (h : G36 w b0 b1 v0 v1 v2 v3 v4 v5 v6 v7 v8 w1) : G36 w b0 b1 v0 v1 v2 v3 v4 v5 v6 v7 v8 w2 := by
 obtain ⟨h0,h1,h2,h3,h4,h5,h6,h7,h8,h9⟩ := h;exact ⟨h0.trans k,y00 k h1,y00 k h2,y00 k h3,y00 k h4,y00 k h5,y00 k h6,y00 k h7,y00 k h8,y00 k h9⟩
theorem G36.drew {w w1 : World} {b0 b1 : Nat} {v0 v1 v2 v3 v4 v5 v6 v7 v8 : Value} (h : G36 w b0 b1 v0 v1 v2 v3 v4 v5 v6 v7 v8 w1) : G36 w b0 b1 v0 v1 v2 v3 v4 v5 v6 v7 v8 w1.drew := h.step kd
def G36At (b0 b1 : Nat) (v0 v1 v2 v3 v4 v5 v6 v7 v8 : Value) (w' : World) : Prop :=
 w'.cell? ⟨b0,0,none⟩ = some v0 ∧
 w'.cell? ⟨b0,1,none⟩ = some v1 ∧
 w'.cell? ⟨b0,2,none⟩ = some v2 ∧
 w'.cell? ⟨b1,0,none⟩ = some v3 ∧
 w'.cell? ⟨b1,1,none⟩ = some v4 ∧
 w'.cell? ⟨b1,2,none⟩ = some v5 ∧
 w'.cell? ⟨b1,3,none⟩ = some v6 ∧
 w'.cell? ⟨b1,4,none⟩ = some v7 ∧
 w'.cell? ⟨b1,5,none⟩ = some v8
theorem G36At.step (k : Kept w1 w2) (h : G36At b0 b1 v0 v1 v2 v3 v4 v5 v6 v7 v8 w1) : G36At b0 b1 v0 v1 v2 v3 v4 v5 v6 v7 v8 w2 := by
 obtain ⟨h1,h2,h3,h4,h5,h6,h7,h8,h9⟩ := h;exact ⟨y00 k h1,y00 k h2,y00 k h3,y00 k h4,y00 k h5,y00 k h6,y00 k h7,y00 k h8,y00 k h9⟩
theorem G36At.start (h : G36At b0 b1 v0 v1 v2 v3 v4 v5 v6 v7 v8 w1) : G36 w1 b0 b1 v0 v1 v2 v3 v4 v5 v6 v7 v8 w1.drew := ⟨kd,h.step kd⟩
def Takes (pf : Nat) (g : Int → Int → Int → Int) : Prop := ∀ x y z w,Calls Tryz.prog pf #[.agg #[J U x,J U y,J U z]] w fun e w' => e = .returned (J U (g x y z)) ∧ Kept w w'
theorem takes0 : Takes 186 (fun x _ _ => x) := fun x y z w => yfc x y z w
theorem takes1 : Takes 187 (fun _ y _ => y) := fun x y z w => yfn x y z w
theorem takes2 : Takes 188 (fun _ _ z => z) := fun x y z w => ygh x y z w
theorem y5j (pf : Nat) (g : Int → Int → Int → Int) (he : ∀ args w,(callFunc pf args).run Tryz.prog w = .ok (.enter pf args) w) (hg : Takes pf g)
  (p q : Nat) (a0 a1 a2 a3 a4 a5 b0 b1 b2 b3 b4 b5 : Int) (w : World) (H : G66At p q (I a0) (I a1) (I a2) (I a3) (I a4) (I a5) (I b0) (I b1) (I b2) (I b3) (I b4) (I b5) w) :
  Calls Tryz.prog 159 #[.func (.func pf) #[] #[],.pointer (some (Y p 0)),.pointer (some (Y q 0))] w fun e w' => e = .returned (.bool (decide (g a0 a1 a2 ≤ g b3 b4 b5) && decide (g b0 b1 b2 ≤ g a3 a4 a5))) ∧ Kept w w' := by
 cases e1 : decide (g a0 a1 a2 ≤ g b3 b4 b5) with
 | false =>
  go_enter Tryz.func159,Tryz.ntmps159
  go_wp2
  refine wp_region_held_drew (S := (fun w' => Kept w w' ∧ Zc w' p 0 a0 ∧ Zc w' p 1 a1 ∧ Zc w' p 2 a2 ∧ Zc w' p 3 a3 ∧ Zc w' p 4 a4 ∧ Zc w' p 5 a5 ∧ Zc w' q 0 b0 ∧ Zc w' q 1 b1 ∧ Zc w' q 2 b2 ∧ Zc w' q 3 b3 ∧ Zc w' q 4 b4 ∧ Zc w' q 5 b5)) (by kernel_rfl) ?_ (fun hJ1 => ?_)
  ·exact G66At.start H
  refine tkU 0 (h:=tkU 1 (h:=tkU 2 (h:=tkV 4 ?_)));try simp only [zP]
  refine tkU 5 (h:=tkV 6 ?_);try simp only [zP]
  refine rdW 3 rfl fun K hK => ?_;simp only [zQ];go_simp
  (go_at_fn pf; refine (hg _ _ _ _).mono ?_; rintro e w1 ⟨rfl,k1⟩)
  try go_wp2_with fail
  refine hK.out _ _ ?_ fun hJ2 => ?_
  ·exact G66.step k1 ‹_›
  clear hK K hJ1;try simp only [zP]
  refine rdW 7 rfl fun K hK => ?_;simp only [zQ];go_simp
  (go_at_fn pf; refine (hg _ _ _ _).mono ?_; rintro e w2 ⟨rfl,k2⟩)
  try go_wp2_with fail
  refine hK.out _ _ ?_ fun hJ3 => ?_
  ·exact G66.step k2 ‹_›
  clear hK K hJ2;try simp only [zP]
  refine tkU 8 (h:=tkV 9 ?_);try simp only [zP]
  refine skW 10 rfl ?_; refine skW 11 rfl ?_; refine skW 12 rfl ?_; refine skW 13 rfl ?_;try simp only [zP]
  refine skW 14 rfl ?_; refine skW 15 rfl ?_; refine skW 16 rfl ?_; refine skW 17 rfl ?_;try simp only [zP]
  refine skW 18 rfl ?_;try simp only [zP]
  refine tkU 19 (h:=tkV 20 ?_);try simp only [zP]
  refine wpAnyH_done (by kernel_rfl) ?_ _;go_wp2
  go_ret
  exact ⟨rfl,And.left (by assumption)⟩
 | true =>
  cases e2 : decide (g b0 b1 b2 ≤ g a3 a4 a5) with
  | false =>
   go_enter Tryz.func159,Tryz.ntmps159
   go_wp2
   refine wp_region_held_drew (S := (fun w' => Kept w w' ∧ Zc w' p 0 a0 ∧ Zc w' p 1 a1 ∧ Zc w' p 2 a2 ∧ Zc w' p 3 a3 ∧ Zc w' p 4 a4 ∧ Zc w' p 5 a5 ∧ Zc w' q 0 b0 ∧ Zc w' q 1 b1 ∧ Zc w' q 2 b2 ∧ Zc w' q 3 b3 ∧ Zc w' q 4 b4 ∧ Zc w' q 5 b5)) (by kernel_rfl) ?_ (fun hJ1 => ?_)
   ·exact G66At.start H
   refine tkU 0 (h:=tkU 1 (h:=tkU 2 (h:=tkV 4 ?_)));try simp only [zP]
   refine tkU 5 (h:=tkV 6 ?_);try simp only [zP]
   refine rdW 3 rfl fun K hK => ?_;simp only [zQ];go_simp
   (go_at_fn pf; refine (hg _ _ _ _).mono ?_; rintro e w1 ⟨rfl,k1⟩)
   try go_wp2_with fail
   refine hK.out _ _ ?_ fun hJ2 => ?_
   ·exact G66.step k1 ‹_›
   clear hK K hJ1;try simp only [zP]
   refine rdW 7 rfl fun K hK => ?_;simp only [zQ];go_simp
   (go_at_fn pf; refine (hg _ _ _ _).mono ?_; rintro e w2 ⟨rfl,k2⟩)
   try go_wp2_with fail
   refine hK.out _ _ ?_ fun hJ3 => ?_
   ·exact G66.step k2 ‹_›
   clear hK K hJ2;try simp only [zP]
   refine tkU 8 (h:=tkU 9 (h:=tkU 10 (h:=tkV 11 ?_)));try simp only [zP]
   refine tkU 12 (h:=tkU 14 (h:=tkU 15 (h:=tkV 16 ?_)));try simp only [zP]
   refine rdW 13 rfl fun K hK => ?_;simp only [zQ];go_simp
   (go_at_fn pf; refine (hg _ _ _ _).mono ?_; rintro e w3 ⟨rfl,k3⟩)
   try go_wp2_with fail
   refine hK.out _ _ ?_ fun hJ4 => ?_
   ·exact G66.step k3 ‹_›
   clear hK K hJ3;try simp only [zP]
   refine rdW 17 rfl fun K hK => ?_;simp only [zQ];go_simp
   (go_at_fn pf; refine (hg _ _ _ _).mono ?_; rintro e w4 ⟨rfl,k4⟩)
   try go_wp2_with fail
   refine hK.out _ _ ?_ fun hJ5 => ?_
   ·exact G66.step k4 ‹_›
   clear hK K hJ4;try simp only [zP]
   refine tkU 18 (h:=tkU 19 (h:=tkV 20 ?_));try simp only [zP]
   refine wpAnyH_done (by kernel_rfl) ?_ _;go_wp2
   go_ret
   exact ⟨rfl,And.left (by assumption)⟩
  | true =>
   go_enter Tryz.func159,Tryz.ntmps159
   go_wp2
   refine wp_region_held_drew (S := (fun w' => Kept w w' ∧ Zc w' p 0 a0 ∧ Zc w' p 1 a1 ∧ Zc w' p 2 a2 ∧ Zc w' p 3 a3 ∧ Zc w' p 4 a4 ∧ Zc w' p 5 a5 ∧ Zc w' q 0 b0 ∧ Zc w' q 1 b1 ∧ Zc w' q 2 b2 ∧ Zc w' q 3 b3 ∧ Zc w' q 4 b4 ∧ Zc w' q 5 b5)) (by kernel_rfl) ?_ (fun hJ1 => ?_)
   ·exact G66At.start H
   refine tkU 0 (h:=tkU 1 (h:=tkU 2 (h:=tkV 4 ?_)));try simp only [zP]
   refine tkU 5 (h:=tkV 6 ?_);try simp only [zP]
   refine rdW 3 rfl fun K hK => ?_;simp only [zQ];go_simp
   (go_at_fn pf; refine (hg _ _ _ _).mono ?_; rintro e w1 ⟨rfl,k1⟩)
   try go_wp2_with fail
   refine hK.out _ _ ?_ fun hJ2 => ?_
   ·exact G66.step k1 ‹_›
   clear hK K hJ1;try simp only [zP]
   refine rdW 7 rfl fun K hK => ?_;simp only [zQ];go_simp
   (go_at_fn pf; refine (hg _ _ _ _).mono ?_; rintro e w2 ⟨rfl,k2⟩)
   try go_wp2_with fail
   refine hK.out _ _ ?_ fun hJ3 => ?_
   ·exact G66.step k2 ‹_›
   clear hK K hJ2;try simp only [zP]
   refine tkU 8 (h:=tkU 9 (h:=tkU 10 (h:=tkV 11 ?_)));try simp only [zP]
   refine tkU 12 (h:=tkU 14 (h:=tkU 15 (h:=tkV 16 ?_)));try simp only [zP]
   refine rdW 13 rfl fun K hK => ?_;simp only [zQ];go_simp
   (go_at_fn pf; refine (hg _ _ _ _).mono ?_; rintro e w3 ⟨rfl,k3⟩)
   try go_wp2_with fail
   refine hK.out _ _ ?_ fun hJ4 => ?_
   ·exact G66.step k3 ‹_›
   clear hK K hJ3;try simp only [zP]
   refine rdW 17 rfl fun K hK => ?_;simp only [zQ];go_simp
   (go_at_fn pf; refine (hg _ _ _ _).mono ?_; rintro e w4 ⟨rfl,k4⟩)
   try go_wp2_with fail
   refine hK.out _ _ ?_ fun hJ5 => ?_
   ·exact G66.step k4 ‹_›
   clear hK K hJ4;try simp only [zP]
   refine tkU 18 (h:=tkU 19 (h:=tkV 20 ?_));try simp only [zP]
   refine wpAnyH_done (by kernel_rfl) ?_ _;go_wp2
   go_ret
   exact ⟨rfl,And.left (by assumption)⟩
theorem y39 (pf : Nat) (g : Int → Int → Int → Int) (he : ∀ args w,(callFunc pf args).run Tryz.prog w = .ok (.enter pf args) w) (hg : Takes pf g)
  (p q : Nat) (a0 a1 a2 a3 a4 a5 b0 b1 b2 b3 b4 b5 : Int) (w : World) (H : G66At p q (I a0) (I a1) (I a2) (I a3) (I a4) (I a5) (I b0) (I b1) (I b2) (I b3) (I b4) (I b5) w) :
  Calls Tryz.prog 189 #[.func (.func pf) #[] #[],.pointer (some (Y p 0)),.pointer (some (Y q 0))] w fun e w' => e = .returned (.bool (decide (g b0 b1 b2 ≤ g a0 a1 a2) && decide (g a3 a4 a5 ≤ g b3 b4 b5))) ∧ Kept w w' := by
 cases e1 : decide (g b0 b1 b2 ≤ g a0 a1 a2) with
 | false =>
  go_enter Tryz.func189,Tryz.ntmps189
  go_wp2
  refine wp_region_held_drew (S := (fun w' => Kept w w' ∧ Zc w' p 0 a0 ∧ Zc w' p 1 a1 ∧ Zc w' p 2 a2 ∧ Zc w' p 3 a3 ∧ Zc w' p 4 a4 ∧ Zc w' p 5 a5 ∧ Zc w' q 0 b0 ∧ Zc w' q 1 b1 ∧ Zc w' q 2 b2 ∧ Zc w' q 3 b3 ∧ Zc w' q 4 b4 ∧ Zc w' q 5 b5)) (by kernel_rfl) ?_ (fun hJ1 => ?_)
  ·exact G66At.start H
  refine tkU 0 (h:=tkU 1 (h:=tkU 2 (h:=tkV 4 ?_)));try simp only [zP]
  refine tkU 5 (h:=tkV 6 ?_);try simp only [zP]
  refine rdW 3 rfl fun K hK => ?_;simp only [zQ];go_simp
  (go_at_fn pf; refine (hg _ _ _ _).mono ?_; rintro e w1 ⟨rfl,k1⟩)
  try go_wp2_with fail
  refine hK.out _ _ ?_ fun hJ2 => ?_
  ·exact G66.step k1 ‹_›
  clear hK K hJ1;try simp only [zP]
  refine rdW 7 rfl fun K hK => ?_;simp only [zQ];go_simp
  (go_at_fn pf; refine (hg _ _ _ _).mono ?_; rintro e w2 ⟨rfl,k2⟩)
  try go_wp2_with fail
  refine hK.out _ _ ?_ fun hJ3 => ?_
  ·exact G66.step k2 ‹_›
  clear hK K hJ2;try simp only [zP]
  refine tkU 8 (h:=tkV 9 ?_);try simp only [zP]
  refine skW 10 rfl ?_; refine skW 11 rfl ?_; refine skW 12 rfl ?_; refine skW 13 rfl ?_;try simp only [zP]
  refine skW 14 rfl ?_; refine skW 15 rfl ?_; refine skW 16 rfl ?_; refine skW 17 rfl ?_;try simp only [zP]
  refine skW 18 rfl ?_;try simp only [zP]
  refine tkU 19 (h:=tkV 20 ?_);try simp only [zP]
  refine wpAnyH_done (by kernel_rfl) ?_ _;go_wp2
  go_ret
  exact ⟨rfl,And.left (by assumption)⟩
 | true =>
  cases e2 : decide (g a3 a4 a5 ≤ g b3 b4 b5) with
  | false =>
   go_enter Tryz.func189,Tryz.ntmps189
   go_wp2
   refine wp_region_held_drew (S := (fun w' => Kept w w' ∧ Zc w' p 0 a0 ∧ Zc w' p 1 a1 ∧ Zc w' p 2 a2 ∧ Zc w' p 3 a3 ∧ Zc w' p 4 a4 ∧ Zc w' p 5 a5 ∧ Zc w' q 0 b0 ∧ Zc w' q 1 b1 ∧ Zc w' q 2 b2 ∧ Zc w' q 3 b3 ∧ Zc w' q 4 b4 ∧ Zc w' q 5 b5)) (by kernel_rfl) ?_ (fun hJ1 => ?_)
   ·exact G66At.start H
   refine tkU 0 (h:=tkU 1 (h:=tkU 2 (h:=tkV 4 ?_)));try simp only [zP]
   refine tkU 5 (h:=tkV 6 ?_);try simp only [zP]
   refine rdW 3 rfl fun K hK => ?_;simp only [zQ];go_simp
   (go_at_fn pf; refine (hg _ _ _ _).mono ?_; rintro e w1 ⟨rfl,k1⟩)
   try go_wp2_with fail
   refine hK.out _ _ ?_ fun hJ2 => ?_
   ·exact G66.step k1 ‹_›
   clear hK K hJ1;try simp only [zP]
   refine rdW 7 rfl fun K hK => ?_;simp only [zQ];go_simp
   (go_at_fn pf; refine (hg _ _ _ _).mono ?_; rintro e w2 ⟨rfl,k2⟩)
   try go_wp2_with fail
   refine hK.out _ _ ?_ fun hJ3 => ?_
   ·exact G66.step k2 ‹_›
   clear hK K hJ2;try simp only [zP]
   refine tkU 8 (h:=tkU 9 (h:=tkU 10 (h:=tkV 11 ?_)));try simp only [zP]
   refine tkU 12 (h:=tkU 14 (h:=tkU 15 (h:=tkV 16 ?_)));try simp only [zP]
   refine rdW 13 rfl fun K hK => ?_;simp only [zQ];go_simp
   (go_at_fn pf; refine (hg _ _ _ _).mono ?_; rintro e w3 ⟨rfl,k3⟩)
   try go_wp2_with fail
   refine hK.out _ _ ?_ fun hJ4 => ?_
   ·exact G66.step k3 ‹_›
   clear hK K hJ3;try simp only [zP]
   refine rdW 17 rfl fun K hK => ?_;simp only [zQ];go_simp
   (go_at_fn pf; refine (hg _ _ _ _).mono ?_; rintro e w4 ⟨rfl,k4⟩)
   try go_wp2_with fail
   refine hK.out _ _ ?_ fun hJ5 => ?_
   ·exact G66.step k4 ‹_›
   clear hK K hJ4;try simp only [zP]
   refine tkU 18 (h:=tkU 19 (h:=tkV 20 ?_));try simp only [zP]
   refine wpAnyH_done (by kernel_rfl) ?_ _;go_wp2
   go_ret
   exact ⟨rfl,And.left (by assumption)⟩
  | true =>
   go_enter Tryz.func189,Tryz.ntmps189
   go_wp2
   refine wp_region_held_drew (S := (fun w' => Kept w w' ∧ Zc w' p 0 a0 ∧ Zc w' p 1 a1 ∧ Zc w' p 2 a2 ∧ Zc w' p 3 a3 ∧ Zc w' p 4 a4 ∧ Zc w' p 5 a5 ∧ Zc w' q 0 b0 ∧ Zc w' q 1 b1 ∧ Zc w' q 2 b2 ∧ Zc w' q 3 b3 ∧ Zc w' q 4 b4 ∧ Zc w' q 5 b5)) (by kernel_rfl) ?_ (fun hJ1 => ?_)
   ·exact G66At.start H
   refine tkU 0 (h:=tkU 1 (h:=tkU 2 (h:=tkV 4 ?_)));try simp only [zP]
   refine tkU 5 (h:=tkV 6 ?_);try simp only [zP]
   refine rdW 3 rfl fun K hK => ?_;simp only [zQ];go_simp
   (go_at_fn pf; refine (hg _ _ _ _).mono ?_; rintro e w1 ⟨rfl,k1⟩)
   try go_wp2_with fail
   refine hK.out _ _ ?_ fun hJ2 => ?_
   ·exact G66.step k1 ‹_›
   clear hK K hJ1;try simp only [zP]
   refine rdW 7 rfl fun K hK => ?_;simp only [zQ];go_simp
   (go_at_fn pf; refine (hg _ _ _ _).mono ?_; rintro e w2 ⟨rfl,k2⟩)
   try go_wp2_with fail
   refine hK.out _ _ ?_ fun hJ3 => ?_
   ·exact G66.step k2 ‹_›
   clear hK K hJ2;try simp only [zP]
   refine tkU 8 (h:=tkU 9 (h:=tkU 10 (h:=tkV 11 ?_)));try simp only [zP]
   refine tkU 12 (h:=tkU 14 (h:=tkU 15 (h:=tkV 16 ?_)));try simp only [zP]
   refine rdW 13 rfl fun K hK => ?_;simp only [zQ];go_simp
   (go_at_fn pf; refine (hg _ _ _ _).mono ?_; rintro e w3 ⟨rfl,k3⟩)
   try go_wp2_with fail
   refine hK.out _ _ ?_ fun hJ4 => ?_
   ·exact G66.step k3 ‹_›
   clear hK K hJ3;try simp only [zP]
   refine rdW 17 rfl fun K hK => ?_;simp only [zQ];go_simp
   (go_at_fn pf; refine (hg _ _ _ _).mono ?_; rintro e w4 ⟨rfl,k4⟩)
   try go_wp2_with fail
   refine hK.out _ _ ?_ fun hJ5 => ?_
   ·exact G66.step k4 ‹_›
   clear hK K hJ4;try simp only [zP]
   refine tkU 18 (h:=tkU 19 (h:=tkV 20 ?_));try simp only [zP]
   refine wpAnyH_done (by kernel_rfl) ?_ _;go_wp2
   go_ret
   exact ⟨rfl,And.left (by assumption)⟩
def lesser (a b : Int) : Int := if b < a then b else a
def greater (a b : Int) : Int := if a < b then b else a
theorem y5a (pf : Nat) (g : Int → Int → Int → Int) (he : ∀ args w,(callFunc pf args).run Tryz.prog w = .ok (.enter pf args) w) (hg : Takes pf g)
  (p q : Nat) (a0 a1 a2 a3 a4 a5 b0 b1 b2 b3 b4 b5 : Int) (w : World) (H : G66At p q (I a0) (I a1) (I a2) (I a3) (I a4) (I a5) (I b0) (I b1) (I b2) (I b3) (I b4) (I b5) w) :
  Calls Tryz.prog 201 #[.func (.func pf) #[] #[],.pointer (some (Y p 0)),.pointer (some (Y q 0))] w fun e w' => e = .returned (I (lesser (g a0 a1 a2) (g b0 b1 b2))) ∧ Kept w w' := by
 go_enter Tryz.func201,Tryz.ntmps201
 go_wp2
 refine wp_region_held_drew (S := (fun w' => Kept w w' ∧ Zc w' p 0 a0 ∧ Zc w' p 1 a1 ∧ Zc w' p 2 a2 ∧ Zc w' p 3 a3 ∧ Zc w' p 4 a4 ∧ Zc w' p 5 a5 ∧ Zc w' q 0 b0 ∧ Zc w' q 1 b1 ∧ Zc w' q 2 b2 ∧ Zc w' q 3 b3 ∧ Zc w' q 4 b4 ∧ Zc w' q 5 b5)) (by kernel_rfl) ?_ (fun hJ1 => ?_)
 ·exact G66At.start H
 refine tkU 0 (h:=tkU 1 (h:=tkU 2 (h:=tkV 4 ?_)));try simp only [zP]
 refine tkU 5 (h:=tkV 6 ?_);try simp only [zP]
 refine rdW 3 rfl fun K hK => ?_;simp only [zQ];go_simp
 (go_at_fn pf; refine (hg _ _ _ _).mono ?_; rintro e w1 ⟨rfl,k1⟩)
 try go_wp2_with fail
 refine hK.out _ _ ?_ fun hJ2 => ?_
 ·exact G66.step k1 ‹_›
 clear hK K hJ1;try simp only [zP]
 refine rdW 7 rfl fun K hK => ?_;simp only [zQ];go_simp
 (go_at_fn pf; refine (hg _ _ _ _).mono ?_; rintro e w2 ⟨rfl,k2⟩)
 try go_wp2_with fail
 refine hK.out _ _ ?_ fun hJ3 => ?_
 ·exact G66.step k2 ‹_›
 clear hK K hJ2;try simp only [zP]
 refine tkW (v := I (lesser (g a0 a1 a2) (g b0 b1 b2))) 8 rfl ?_ (by intro w'' hSw; (try dsimp only at hSw); simp only [zQ]; (go_simp <;> rfl));try simp only [zP]
 refine tkV 9 ?_;try simp only [zP]
 refine wpAnyH_done (by kernel_rfl) ?_ _;go_wp2
 go_ret
 exact ⟨rfl,And.left (by assumption)⟩
theorem y5i (pf : Nat) (g : Int → Int → Int → Int) (he : ∀ args w,(callFunc pf args).run Tryz.prog w = .ok (.enter pf args) w) (hg : Takes pf g)
  (p q : Nat) (a0 a1 a2 a3 a4 a5 b0 b1 b2 b3 b4 b5 : Int) (w : World) (H : G66At p q (I a0) (I a1) (I a2) (I a3) (I a4) (I a5) (I b0) (I b1) (I b2) (I b3) (I b4) (I b5) w) :
  Calls Tryz.prog 202 #[.func (.func pf) #[] #[],.pointer (some (Y p 0)),.pointer (some (Y q 0))] w fun e w' => e = .returned (I (greater (g a3 a4 a5) (g b3 b4 b5))) ∧ Kept w w' := by
 go_enter Tryz.func202,Tryz.ntmps202
 go_wp2
 refine wp_region_held_drew (S := (fun w' => Kept w w' ∧ Zc w' p 0 a0 ∧ Zc w' p 1 a1 ∧ Zc w' p 2 a2 ∧ Zc w' p 3 a3 ∧ Zc w' p 4 a4 ∧ Zc w' p 5 a5 ∧ Zc w' q 0 b0 ∧ Zc w' q 1 b1 ∧ Zc w' q 2 b2 ∧ Zc w' q 3 b3 ∧ Zc w' q 4 b4 ∧ Zc w' q 5 b5)) (by kernel_rfl) ?_ (fun hJ1 => ?_)
 ·exact G66At.start H
 refine tkU 0 (h:=tkU 1 (h:=tkU 2 (h:=tkV 4 ?_)));try simp only [zP]
 refine tkU 5 (h:=tkV 6 ?_);try simp only [zP]
 refine rdW 3 rfl fun K hK => ?_;simp only [zQ];go_simp
 (go_at_fn pf; refine (hg _ _ _ _).mono ?_; rintro e w1 ⟨rfl,k1⟩)
 try go_wp2_with fail
 refine hK.out _ _ ?_ fun hJ2 => ?_
 ·exact G66.step k1 ‹_›
 clear hK K hJ1;try simp only [zP]
 refine rdW 7 rfl fun K hK => ?_;simp only [zQ];go_simp
 (go_at_fn pf; refine (hg _ _ _ _).mono ?_; rintro e w2 ⟨rfl,k2⟩)
 try go_wp2_with fail
 refine hK.out _ _ ?_ fun hJ3 => ?_
 ·exact G66.step k2 ‹_›
 clear hK K hJ2;try simp only [zP]
 refine tkW (v := I (greater (g a3 a4 a5) (g b3 b4 b5))) 8 rfl ?_ (by intro w'' hSw; (try dsimp only at hSw); simp only [zQ]; (go_simp <;> rfl));try simp only [zP]
 refine tkV 9 ?_;try simp only [zP]
 refine wpAnyH_done (by kernel_rfl) ?_ _;go_wp2
 go_ret
 exact ⟨rfl,And.left (by assumption)⟩
theorem y5m (pf : Nat) (g : Int → Int → Int → Int) (he : ∀ args w,(callFunc pf args).run Tryz.prog w = .ok (.enter pf args) w) (hg : Takes pf g)
  (p q : Nat) (p0 p1 p2 b0 b1 b2 b3 b4 b5 : Int) (w : World) (H : G36At p q (I p0) (I p1) (I p2) (I b0) (I b1) (I b2) (I b3) (I b4) (I b5) w) :
  Calls Tryz.prog 180 #[.func (.func pf) #[] #[],.pointer (some (Y p 0)),.pointer (some (Y q 0))] w fun e w' => e = .returned (I (greater (lesser (g p0 p1 p2) (g b3 b4 b5)) (g b0 b1 b2))) ∧ Kept w w' := by
 go_enter Tryz.func180,Tryz.ntmps180
 go_wp2
 refine wp_region_held_drew (S := (fun w' => Kept w w' ∧ Zc w' p 0 p0 ∧ Zc w' p 1 p1 ∧ Zc w' p 2 p2 ∧ Zc w' q 0 b0 ∧ Zc w' q 1 b1 ∧ Zc w' q 2 b2 ∧ Zc w' q 3 b3 ∧ Zc w' q 4 b4 ∧ Zc w' q 5 b5)) (by kernel_rfl) ?_ (fun hJ1 => ?_)
 ·exact G36At.start H
 refine tkU 0 (h:=tkU 1 (h:=tkU 3 (h:=tkV 4 ?_)));try simp only [zP]
 refine tkU 5 (h:=tkU 8 (h:=tkU 9 (h:=tkV 10 ?_)));try simp only [zP]
 refine rdW 2 rfl fun K hK => ?_;simp only [zQ];go_simp
 (go_at_fn pf; refine (hg _ _ _ _).mono ?_; rintro e w1 ⟨rfl,k1⟩)
 try go_wp2_with fail
 refine hK.out _ _ ?_ fun hJ2 => ?_
 ·exact G36.step k1 ‹_›
 clear hK K hJ1;try simp only [zP]
 refine rdW 6 rfl fun K hK => ?_;simp only [zQ];go_simp
 (go_at_fn pf; refine (hg _ _ _ _).mono ?_; rintro e w2 ⟨rfl,k2⟩)
 try go_wp2_with fail
 refine hK.out _ _ ?_ fun hJ3 => ?_
 ·exact G36.step k2 ‹_›
 clear hK K hJ2;try simp only [zP]
 refine tkW (v := I (lesser (g p0 p1 p2) (g b3 b4 b5))) 7 rfl ?_ (by intro w'' hSw; (try dsimp only at hSw); simp only [zQ]; (go_simp <;> rfl));try simp only [zP]
 refine rdW 11 rfl fun K hK => ?_;simp only [zQ];go_simp
 (go_at_fn pf; refine (hg _ _ _ _).mono ?_; rintro e w3 ⟨rfl,k3⟩)
 try go_wp2_with fail
 refine hK.out _ _ ?_ fun hJ4 => ?_
 ·exact G36.step k3 ‹_›
 clear hK K hJ3;try simp only [zP]
 refine tkW (v := I (greater ((lesser (g p0 p1 p2) (g b3 b4 b5))) (g b0 b1 b2))) 12 rfl ?_ (by intro w'' hSw; (try dsimp only at hSw); simp only [zQ]; (go_simp <;> rfl));try simp only [zP]
 refine tkV 13 ?_;try simp only [zP]
 refine wpAnyH_done (by kernel_rfl) ?_ _;go_wp2
 go_ret
 exact ⟨rfl,And.left (by assumption)⟩
theorem en0 : ∀ args w,(callFunc 186 args).run Tryz.prog w = .ok (.enter 186 args) w := enters_of Tryz.func186 (by kernel_rfl) rfl
theorem en1 : ∀ args w,(callFunc 187 args).run Tryz.prog w = .ok (.enter 187 args) w := enters_of Tryz.func187 (by kernel_rfl) rfl
theorem en2 : ∀ args w,(callFunc 188 args).run Tryz.prog w = .ok (.enter 188 args) w := enters_of Tryz.func188 (by kernel_rfl) rfl
theorem ans2 {q : Value} (h : ∀ w,Pre w → Calls Tryz.prog fn #[a,p,q] w fun e w' => e = .returned v ∧ Kept w w') : Ans fn (#[a] ++ #[p,q]) Pre v := by
 rw [show (#[a] ++ #[p,q] : Array Value) = #[a,p,q] by simp]; exact h
theorem ans1 (h : ∀ w,Pre w → Calls Tryz.prog fn #[a,p] w fun e w' => e = .returned v ∧ Kept w w') : Ans fn (#[a] ++ #[p]) Pre v := by
 rw [show (#[a] ++ #[p] : Array Value) = #[a,p] by simp]; exact h
def meetB (a0 a1 a2 a3 a4 a5 b0 b1 b2 b3 b4 b5 : Int) : Bool := (decide (a0 ≤ b3) && decide (b0 ≤ a3)) && (decide (a1 ≤ b4) && decide (b1 ≤ a4)) && (decide (a2 ≤ b5) && decide (b2 ≤ a5))
def withinB (a0 a1 a2 a3 a4 a5 b0 b1 b2 b3 b4 b5 : Int) : Bool := (decide (b0 ≤ a0) && decide (a3 ≤ b3)) && (decide (b1 ≤ a1) && decide (a4 ≤ b4)) && (decide (b2 ≤ a2) && decide (a5 ≤ b5))
theorem y17 (a0 a1 a2 a3 a4 a5 b0 b1 b2 b3 b4 b5 : Int) (w : World) :
  Calls Tryz.prog 131 #[.agg #[I a0,I a1,I a2,I a3,I a4,I a5],.agg #[I b0,I b1,I b2,I b3,I b4,I b5]] w fun e w' => e = .returned (.bool (meetB a0 a1 a2 a3 a4 a5 b0 b1 b2 b3 b4 b5)) ∧ Kept w w' := by
 have hmf := hmfT;go_enter Tryz.func131,Tryz.ntmps131
 go_wp2_with fail
 refine (y8q 159 _ (decide (a0 ≤ b3) && decide (b0 ≤ a3)) (decide (a1 ≤ b4) && decide (b1 ≤ a4)) (decide (a2 ≤ b5) && decide (b2 ≤ a5)) (enters_of Tryz.func159 (by kernel_rfl) rfl) (G66At w.heap.size (w.heap.size + 1) (I a0) (I a1) (I a2) (I a3) (I a4) (I a5) (I b0) (I b1) (I b2) (I b3) (I b4) (I b5)) (fun _ _ k h => h.step k)
  (ans2 fun w' h => y5j _ _ en0 takes0 _ _ a0 a1 a2 a3 a4 a5 b0 b1 b2 b3 b4 b5 w' h) (ans2 fun w' h => y5j _ _ en1 takes1 _ _ a0 a1 a2 a3 a4 a5 b0 b1 b2 b3 b4 b5 w' h) (ans2 fun w' h => y5j _ _ en2 takes2 _ _ a0 a1 a2 a3 a4 a5 b0 b1 b2 b3 b4 b5 w' h) _ (by refine ⟨?_,?_,?_,?_,?_,?_,?_,?_,?_,?_,?_,?_⟩ <;> go_simp)).mono ?_
 rintro e w1 ⟨rfl,k1⟩;go_wp2
 go_ret
 exact ⟨rfl,(((Kept.refl _).alloc _ _).alloc _ _).trans k1⟩
theorem y2f (a0 a1 a2 a3 a4 a5 b0 b1 b2 b3 b4 b5 : Int) (w : World) :
  Calls Tryz.prog 147 #[.agg #[I a0,I a1,I a2,I a3,I a4,I a5],.agg #[I b0,I b1,I b2,I b3,I b4,I b5]] w fun e w' => e = .returned (.bool (withinB a0 a1 a2 a3 a4 a5 b0 b1 b2 b3 b4 b5)) ∧ Kept w w' := by
 have hmf := hmfT;go_enter Tryz.func147,Tryz.ntmps147
 go_wp2_with fail
 refine (y8q 189 _ (decide (b0 ≤ a0) && decide (a3 ≤ b3)) (decide (b1 ≤ a1) && decide (a4 ≤ b4)) (decide (b2 ≤ a2) && decide (a5 ≤ b5)) (enters_of Tryz.func189 (by kernel_rfl) rfl) (G66At w.heap.size (w.heap.size + 1) (I a0) (I a1) (I a2) (I a3) (I a4) (I a5) (I b0) (I b1) (I b2) (I b3) (I b4) (I b5)) (fun _ _ k h => h.step k)
  (ans2 fun w' h => y39 _ _ en0 takes0 _ _ a0 a1 a2 a3 a4 a5 b0 b1 b2 b3 b4 b5 w' h) (ans2 fun w' h => y39 _ _ en1 takes1 _ _ a0 a1 a2 a3 a4 a5 b0 b1 b2 b3 b4 b5 w' h) (ans2 fun w' h => y39 _ _ en2 takes2 _ _ a0 a1 a2 a3 a4 a5 b0 b1 b2 b3 b4 b5 w' h) _ (by refine ⟨?_,?_,?_,?_,?_,?_,?_,?_,?_,?_,?_,?_⟩ <;> go_simp)).mono ?_
 rintro e w1 ⟨rfl,k1⟩;go_wp2
 go_ret
 exact ⟨rfl,(((Kept.refl _).alloc _ _).alloc _ _).trans k1⟩
def near (p l h : Int) : Int := greater (lesser p h) l
theorem yfk (b0 b1 b2 b3 b4 b5 p0 p1 p2 : Int) (w : World) :
  Calls Tryz.prog 137 #[.agg #[I b0,I b1,I b2,I b3,I b4,I b5],.agg #[I p0,I p1,I p2]] w fun e w' => e = .returned (.agg #[I (near p0 b0 b3),I (near p1 b1 b4),I (near p2 b2 b5)]) ∧ Kept w w' := by
 have hmf := hmfT;go_enter Tryz.func137,Tryz.ntmps137
 go_wp2_with fail
 refine (y5o 180 _ (near p0 b0 b3) (near p1 b1 b4) (near p2 b2 b5) (enters_of Tryz.func180 (by kernel_rfl) rfl) (G36At (w.heap.size + 1) w.heap.size (I p0) (I p1) (I p2) (I b0) (I b1) (I b2) (I b3) (I b4) (I b5)) (fun _ _ k h => h.step k)
  (ans2 fun w' h => y5m _ _ en0 takes0 _ _ p0 p1 p2 b0 b1 b2 b3 b4 b5 w' h) (ans2 fun w' h => y5m _ _ en1 takes1 _ _ p0 p1 p2 b0 b1 b2 b3 b4 b5 w' h) (ans2 fun w' h => y5m _ _ en2 takes2 _ _ p0 p1 p2 b0 b1 b2 b3 b4 b5 w' h) _ (by refine ⟨?_,?_,?_,?_,?_,?_,?_,?_,?_⟩ <;> go_simp)).mono ?_
 rintro e w1 ⟨rfl,k1⟩;have c0 : w1.cell? (Y (w.heap.size + 1 + 1) 0) = some (I 0) := y00 k1 (by go_simp);have c1 : w1.cell? (Y (w.heap.size + 1 + 1) 1) = some (I 0) := y00 k1 (by go_simp);have c2 : w1.cell? (Y (w.heap.size + 1 + 1) 2) = some (I 0) := y00 k1 (by go_simp);have f0 : w1.frozen? (Y (w.heap.size + 1 + 1) 0) = false := y01 k1 (by go_simp);have f1 : w1.frozen? (Y (w.heap.size + 1 + 1) 1) = false := y01 k1 (by go_simp);have f2 : w1.frozen? (Y (w.heap.size + 1 + 1) 2) = false := y01 k1 (by go_simp);go_wp2
 obtain ⟨e0,e1,e2⟩ := y0b (v0 := I (near p0 b0 b3)) (v1 := I (near p1 b1 b4)) (v2 := I (near p2 b2 b5)) c0 c1 c2
 exact bodyPost_ret (v := .agg #[I (near p0 b0 b3),I (near p1 b1 b4),I (near p2 b2 b5)]) (by simp [results,Tryz.results137,go_sem,e0,e1,e2]) rfl
  ⟨rfl,y07 (((((Kept.refl w).alloc _ _).alloc _ _).alloc _ _).trans k1) (by omega) _ _ _⟩
end Go.Proofs.YtbenlgandjjopaaGreatDoor
