/- gyrekeep.pick, law and solved; a number stored into a body: whatever they are. -/
import Derived.Test.YtpegjobehdihbaaSp2
namespace Go.Proofs.Ytpegjobehdihbaa
open Go.ChangeShapes Go.WideShapes Go.ChangeAt Go.RowKit
set_option linter.unusedVariables false
set_option linter.unusedSimpArgs false

def idX (b : Bd) (x : Int) : Bd := { b with id := x }
theorem OwnB.putId {w : World} {g n : Nat} {B : Nat → Bd} (h : OwnB w g n B) {i : Nat} (hi : i < n) (x : Int) :
    OwnB (w.setCell ⟨g, i * 17, none⟩ (.int .i64 x)) g n (upd B i (idX (B i) x)) := by
  have h1 := RowF.set (F := fun j k => bc (B j) k) h hi (show 0 < 17 by omega) (.int .i64 x)
  refine RowF.congr h1 (fun j k hj hk => ?_)
  by_cases e : j = i
  · subst e
    rw [bc_upd, if_pos rfl]
    match k, hk with
    | 0, _ => simp [bc, idX]
    | 1, _ => simp [bc, idX]
    | 2, _ => simp [bc, idX]
    | 3, _ => simp [bc, idX]
    | 4, _ => simp [bc, idX]
    | 5, _ => simp [bc, idX]
    | 6, _ => simp [bc, idX]
    | 7, _ => simp [bc, idX]
    | 8, _ => simp [bc, idX]
    | 9, _ => simp [bc, idX]
    | 10, _ => simp [bc, idX]
    | 11, _ => simp [bc, idX]
    | 12, _ => simp [bc, idX]
    | 13, _ => simp [bc, idX]
    | 14, _ => simp [bc, idX]
    | 15, _ => simp [bc, idX]
    | 16, _ => simp [bc, idX]
    | k + 17, h => exact absurd h (by omega)
  · rw [bc_upd]; simp [e]
theorem pickS_calls (a n : Int) (w : World) (h0 : 0 < n) (h1 : n ≤ 1000000) : Calls Try.prog 15 #[.int .i64 a, .int .i64 n] w fun e w' => ∃ p, e = .returned (.int .i64 p) ∧ 0 ≤ p ∧ p < n ∧ w' = w := by
  have hn : n ≠ 0 := by omega
  go_enter Try.func15, Try.ntmps15
  go_wp2_with fail
  go_ret
  have hu : 0 ≤ IntKind.u64.wrap a := by show 0 ≤ a % _; exact Int.emod_nonneg _ (by decide)
  have e1 : (IntKind.u64.wrap a).tmod n = IntKind.u64.wrap a % n := Int.tmod_eq_emod_of_nonneg hu
  have e2 := Int.emod_nonneg (IntKind.u64.wrap a) hn
  have e3 := Int.emod_lt_of_pos (IntKind.u64.wrap a) h0
  have e4 : wrap64 ((IntKind.u64.wrap a).tmod n) = IntKind.u64.wrap a % n := by rw [e1]; unfold wrap64; omega
  exact ⟨_, rfl, by rw [e4]; exact e2, by rw [e4]; exact e3, rfl⟩
theorem lawK_calls (a b c : Int) (w : World) : Calls Try.prog 7 #[.int .i64 a, .int .i64 b, .int .i64 c] w fun e w' => ∃ x y z : Int, e = .returned (.agg #[.int .i64 x, .int .i64 y, .int .i64 z]) ∧ Only [] w w' := by
  go_enter Try.func7, Try.ntmps7
  go_upto_region 1 with fail
  have H0 : Hid (Only [] w (w.alloc (.cells #[.int .i64 0, .int .i64 0, .int .i64 0] 37)) ∧ LawAt (w.alloc (.cells #[.int .i64 0, .int .i64 0, .int .i64 0] 37)) w.heap.size 0 0 0) := ⟨(Only.refl [] w).alloc _, (MapKept.heap_alloc w _).1⟩
  have HS : Hid (w.heap.size ≤ w.heap.size) := Nat.le_refl _
  revert H0 HS
  generalize hk : w.heap.size = kb
  have HKB : Hid (w.heap.size = kb) := hk
  clear hk
  generalize World.alloc w _ = w0
  intro H0 HS
  go_wp2_with fail
  refine (pickS_calls a 65537 _ (by omega) (by omega)).mono ?_
  rintro e w1 ⟨p, rfl, _, _, hw⟩
  subst hw
  go_wp2_with fail
  refine (pickS_calls b 65537 _ (by omega) (by omega)).mono ?_
  rintro e w2 ⟨q, rfl, _, _, hw⟩
  subst hw
  go_wp2_with fail
  refine (pickS_calls c 6 _ (by omega) (by omega)).mono ?_
  rintro e w3 ⟨r, rfl, h0, h1, hw⟩
  subst hw
  have l0 := H0.out.2.off 0; have l1 := H0.out.2.off 1; have l2 := H0.out.2.off 2
  simp only [List.getElem?_toArray, List.getElem?_cons_succ, List.getElem?_cons_zero] at l0 l1 l2
  have f0 : w3.frozen? ⟨kb, 0, none⟩ = false := by have h := H0.out.2; unfold LawAt at h; simp [World.frozen?, h]
  have f1 : w3.frozen? ⟨kb, 1, none⟩ = false := by have h := H0.out.2; unfold LawAt at h; simp [World.frozen?, h]
  have f2 : w3.frozen? ⟨kb, 2, none⟩ = false := by have h := H0.out.2; unfold LawAt at h; simp [World.frozen?, h]
  obtain ⟨s0, s1, s2⟩ := set3_of (v0 := .int .i64 p) (v1 := .int .i64 q) (v2 := .int .i64 (1 + r)) l0 l1 l2
  go_wp2_with fail
  refine bodyPost_ret (v := .agg #[.int .i64 p, .int .i64 q, .int .i64 (1 + r)]) (by simp [results, Try.results7, go_sem, s0, s1, s2]) rfl ?_
  exact ⟨p, q, 1 + r, rfl, (((H0.out.1.setCell (p := ⟨kb, 0, none⟩) (Or.inr (by have := HKB.out; show w.heap.size ≤ kb; omega)) _).setCell (p := ⟨kb, 1, none⟩) (Or.inr (by have := HKB.out; show w.heap.size ≤ kb; omega)) _).setCell (p := ⟨kb, 2, none⟩) (Or.inr (by have := HKB.out; show w.heap.size ≤ kb; omega)) _)⟩
def sB (j : Nat) : Bd := if j = 0 then ⟨1, 0, 0, 0, 0, 0, 0, 0, 0, 10, 0, 0, 0, 0, 0, 65536, 0⟩ else ⟨2, 0, 0, 0, 0, 0, 0, 0, 0, 0, 0, 0, 0, 0, 0, 0, 0⟩
def sT (_ : Nat) : Tc := ⟨1, 2, ⟨65536, 0, 0⟩, 1⟩
theorem solved_plain : (speedsM 2 sB sT 1 0 0 1 0).vx = 0 ∧ (speedsM 2 sB sT 1 0 0 1 1).vx = 0 := by decide +kernel
theorem solved_bodies {W : World} {g : Nat} (h : W.heap[g]? = some (.cells #[.int .i64 1, .int .i64 0, .int .i64 0, .int .i64 0, .int .i64 0, .int .i64 0, .int .i64 0, .int .i64 0, .int .i64 0, .int .i64 10, .int .i64 0, .int .i64 0, .int .i64 0, .int .i64 0, .int .i64 0, .int .i64 65536, .int .i64 0, .int .i64 2, .int .i64 0, .int .i64 0, .int .i64 0, .int .i64 0, .int .i64 0, .int .i64 0, .int .i64 0, .int .i64 0, .int .i64 0, .int .i64 0, .int .i64 0, .int .i64 0, .int .i64 0, .int .i64 0, .int .i64 0, .int .i64 0] 30)) : BodiesAt W (some ⟨g, 0, none⟩) 2 sB := fun j hj => ⟨g, 0, rfl, fun k hk => by
  have e : W.cell? ⟨g, 0 + j * 17 + k, none⟩ = (#[.int .i64 1, .int .i64 0, .int .i64 0, .int .i64 0, .int .i64 0, .int .i64 0, .int .i64 0, .int .i64 0, .int .i64 0, .int .i64 10, .int .i64 0, .int .i64 0, .int .i64 0, .int .i64 0, .int .i64 0, .int .i64 65536, .int .i64 0, .int .i64 2, .int .i64 0, .int .i64 0, .int .i64 0, .int .i64 0, .int .i64 0, .int .i64 0, .int .i64 0, .int .i64 0, .int .i64 0, .int .i64 0, .int .i64 0, .int .i64 0, .int .i64 0, .int .i64 0, .int .i64 0, .int .i64 0] : Array Value)[0 + j * 17 + k]? := by simp [World.cell?, h]
  rw [e]
  match j, hj with
  | 0, _ =>
    match k, hk with
    | 0, _ => rfl
    | 1, _ => rfl
    | 2, _ => rfl
    | 3, _ => rfl
    | 4, _ => rfl
    | 5, _ => rfl
    | 6, _ => rfl
    | 7, _ => rfl
    | 8, _ => rfl
    | 9, _ => rfl
    | 10, _ => rfl
    | 11, _ => rfl
    | 12, _ => rfl
    | 13, _ => rfl
    | 14, _ => rfl
    | 15, _ => rfl
    | 16, _ => rfl
    | k + 17, h => exact absurd h (by omega)
  | 1, _ =>
    match k, hk with
    | 0, _ => rfl
    | 1, _ => rfl
    | 2, _ => rfl
    | 3, _ => rfl
    | 4, _ => rfl
    | 5, _ => rfl
    | 6, _ => rfl
    | 7, _ => rfl
    | 8, _ => rfl
    | 9, _ => rfl
    | 10, _ => rfl
    | 11, _ => rfl
    | 12, _ => rfl
    | 13, _ => rfl
    | 14, _ => rfl
    | 15, _ => rfl
    | 16, _ => rfl
    | k + 17, h => exact absurd h (by omega)
  | j + 2, h => exact absurd h (by omega)⟩
theorem solved_touches {W : World} {g : Nat} (h : W.heap[g]? = some (.cells #[.int .i64 1, .int .i64 2, .int .i64 65536, .int .i64 0, .int .i64 0, .int .i64 1] 34)) : TouchesAt W (some ⟨g, 0, none⟩) 1 sT := fun j hj => by
  obtain rfl : j = 0 := by omega
  refine ⟨rfl, rfl, g, 0, rfl, ?_⟩
  refine ⟨?_, ?_, ?_, ?_, ?_, ?_⟩ <;> (simp only [World.cell?, h]; rfl)
set_option maxRecDepth 100000 in
theorem solved_calls (w : World) : Calls Try.prog 4 #[] w fun e w' => e = .returned (.bool true) ∧ Only [] w w' := by
  go_enter Try.func4, Try.ntmps4
  go_wp2_with fail
  have H0 : Hid (BodiesAt ((w.alloc (.cells #[.int .i64 1, .int .i64 0, .int .i64 0, .int .i64 0, .int .i64 0, .int .i64 0, .int .i64 0, .int .i64 0, .int .i64 0, .int .i64 10, .int .i64 0, .int .i64 0, .int .i64 0, .int .i64 0, .int .i64 0, .int .i64 65536, .int .i64 0, .int .i64 2, .int .i64 0, .int .i64 0, .int .i64 0, .int .i64 0, .int .i64 0, .int .i64 0, .int .i64 0, .int .i64 0, .int .i64 0, .int .i64 0, .int .i64 0, .int .i64 0, .int .i64 0, .int .i64 0, .int .i64 0, .int .i64 0] 30)).alloc (.cells #[.int .i64 1, .int .i64 2, .int .i64 65536, .int .i64 0, .int .i64 0, .int .i64 1] 34)) (some ⟨w.heap.size, 0, none⟩) 2 sB ∧ TouchesAt ((w.alloc (.cells #[.int .i64 1, .int .i64 0, .int .i64 0, .int .i64 0, .int .i64 0, .int .i64 0, .int .i64 0, .int .i64 0, .int .i64 0, .int .i64 10, .int .i64 0, .int .i64 0, .int .i64 0, .int .i64 0, .int .i64 0, .int .i64 65536, .int .i64 0, .int .i64 2, .int .i64 0, .int .i64 0, .int .i64 0, .int .i64 0, .int .i64 0, .int .i64 0, .int .i64 0, .int .i64 0, .int .i64 0, .int .i64 0, .int .i64 0, .int .i64 0, .int .i64 0, .int .i64 0, .int .i64 0, .int .i64 0] 30)).alloc (.cells #[.int .i64 1, .int .i64 2, .int .i64 65536, .int .i64 0, .int .i64 0, .int .i64 1] 34)) (some ⟨w.heap.size + 1, 0, none⟩) 1 sT ∧ Only [] w ((w.alloc (.cells #[.int .i64 1, .int .i64 0, .int .i64 0, .int .i64 0, .int .i64 0, .int .i64 0, .int .i64 0, .int .i64 0, .int .i64 0, .int .i64 10, .int .i64 0, .int .i64 0, .int .i64 0, .int .i64 0, .int .i64 0, .int .i64 65536, .int .i64 0, .int .i64 2, .int .i64 0, .int .i64 0, .int .i64 0, .int .i64 0, .int .i64 0, .int .i64 0, .int .i64 0, .int .i64 0, .int .i64 0, .int .i64 0, .int .i64 0, .int .i64 0, .int .i64 0, .int .i64 0, .int .i64 0, .int .i64 0] 30)).alloc (.cells #[.int .i64 1, .int .i64 2, .int .i64 65536, .int .i64 0, .int .i64 0, .int .i64 1] 34))) := by
    have h1 := (MapKept.heap_alloc w (.cells #[.int .i64 1, .int .i64 0, .int .i64 0, .int .i64 0, .int .i64 0, .int .i64 0, .int .i64 0, .int .i64 0, .int .i64 0, .int .i64 10, .int .i64 0, .int .i64 0, .int .i64 0, .int .i64 0, .int .i64 0, .int .i64 65536, .int .i64 0, .int .i64 2, .int .i64 0, .int .i64 0, .int .i64 0, .int .i64 0, .int .i64 0, .int .i64 0, .int .i64 0, .int .i64 0, .int .i64 0, .int .i64 0, .int .i64 0, .int .i64 0, .int .i64 0, .int .i64 0, .int .i64 0, .int .i64 0] 30)).1
    have h2 := (MapKept.heap_alloc (w.alloc (.cells #[.int .i64 1, .int .i64 0, .int .i64 0, .int .i64 0, .int .i64 0, .int .i64 0, .int .i64 0, .int .i64 0, .int .i64 0, .int .i64 10, .int .i64 0, .int .i64 0, .int .i64 0, .int .i64 0, .int .i64 0, .int .i64 65536, .int .i64 0, .int .i64 2, .int .i64 0, .int .i64 0, .int .i64 0, .int .i64 0, .int .i64 0, .int .i64 0, .int .i64 0, .int .i64 0, .int .i64 0, .int .i64 0, .int .i64 0, .int .i64 0, .int .i64 0, .int .i64 0, .int .i64 0, .int .i64 0] 30)) (.cells #[.int .i64 1, .int .i64 2, .int .i64 65536, .int .i64 0, .int .i64 0, .int .i64 1] 34)).1
    have hs : (w.alloc (.cells #[.int .i64 1, .int .i64 0, .int .i64 0, .int .i64 0, .int .i64 0, .int .i64 0, .int .i64 0, .int .i64 0, .int .i64 0, .int .i64 10, .int .i64 0, .int .i64 0, .int .i64 0, .int .i64 0, .int .i64 0, .int .i64 65536, .int .i64 0, .int .i64 2, .int .i64 0, .int .i64 0, .int .i64 0, .int .i64 0, .int .i64 0, .int .i64 0, .int .i64 0, .int .i64 0, .int .i64 0, .int .i64 0, .int .i64 0, .int .i64 0, .int .i64 0, .int .i64 0, .int .i64 0, .int .i64 0] 30)).heap.size = w.heap.size + 1 := by simp
    rw [hs] at h2
    have o2 : Only [] (w.alloc (.cells #[.int .i64 1, .int .i64 0, .int .i64 0, .int .i64 0, .int .i64 0, .int .i64 0, .int .i64 0, .int .i64 0, .int .i64 0, .int .i64 10, .int .i64 0, .int .i64 0, .int .i64 0, .int .i64 0, .int .i64 0, .int .i64 65536, .int .i64 0, .int .i64 2, .int .i64 0, .int .i64 0, .int .i64 0, .int .i64 0, .int .i64 0, .int .i64 0, .int .i64 0, .int .i64 0, .int .i64 0, .int .i64 0, .int .i64 0, .int .i64 0, .int .i64 0, .int .i64 0, .int .i64 0, .int .i64 0] 30)) ((w.alloc (.cells #[.int .i64 1, .int .i64 0, .int .i64 0, .int .i64 0, .int .i64 0, .int .i64 0, .int .i64 0, .int .i64 0, .int .i64 0, .int .i64 10, .int .i64 0, .int .i64 0, .int .i64 0, .int .i64 0, .int .i64 0, .int .i64 65536, .int .i64 0, .int .i64 2, .int .i64 0, .int .i64 0, .int .i64 0, .int .i64 0, .int .i64 0, .int .i64 0, .int .i64 0, .int .i64 0, .int .i64 0, .int .i64 0, .int .i64 0, .int .i64 0, .int .i64 0, .int .i64 0, .int .i64 0, .int .i64 0] 30)).alloc (.cells #[.int .i64 1, .int .i64 2, .int .i64 65536, .int .i64 0, .int .i64 0, .int .i64 1] 34)) := (Only.refl [] _).alloc _
    exact ⟨(solved_bodies h1).only o2, solved_touches h2, ((Only.refl [] w).alloc _).trans o2⟩
  revert H0
  generalize World.alloc (World.alloc w _) _ = w1
  generalize w.heap.size + 1 = kt
  generalize w.heap.size = kb
  intro H0
  have hal : Alone 2 sB := fun i k hi hk e => by
    have h1 : i = 0 ∨ i = 1 := by omega
    have h2 : k = 0 ∨ k = 1 := by omega
    rcases h1 with rfl | rfl <;> rcases h2 with rfl | rfl <;> first | rfl | (simp [sB] at e)
  have hid : ∀ j, j < 2 → In64S (sB j).id := fun j hj => by
    have h1 : j = 0 ∨ j = 1 := by omega
    rcases h1 with rfl | rfl <;> rfl
  refine (speeds_calls _ _ 2 2 1 1 sB sT 0 0 1 _ (by omega) (by omega) H0.out.1 (fun e => by cases e) H0.out.2.1 hal hid).mono ?_
  rintro e w5 ⟨a5, c5, rfl, hb5, o5⟩
  have H5 : Hid (Only [] w w5) := H0.out.2.2.trans o5
  obtain ⟨g0, p0, rfl, c0⟩ := hb5 0 (by omega)
  obtain ⟨g1, p1, e1, c1⟩ := hb5 1 (by omega)
  injection e1 with e1
  injection e1 with e1 e2
  subst e1 e2
  have d0 := c0 9 (by omega)
  have d1 := c1 9 (by omega)
  simp only [bc, solved_plain.1, solved_plain.2, Nat.zero_mul, Nat.add_zero, Nat.one_mul] at d0 d1
  clear c0 c1 hb5 H0 hal hid o5
  go_wp2_with fail
  go_ret
  exact ⟨rfl, H5.out⟩
end Go.Proofs.Ytpegjobehdihbaa
