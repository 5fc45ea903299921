/- (*snap.writer).word, vec; snap.less: whatever they are given. -/
import Derived.Test.YtedhdmahdioboaaSn4
namespace Go.Proofs.Ytedhdmahdioboaa
open Go.ChangeShapes Go.WideShapes Go.ChangeAt Go.RowKit
set_option linter.unusedVariables false
set_option linter.unusedSimpArgs false

def vecB (x y z : Int) : List Nat := varB (codeM x) ++ varB (codeM y) ++ varB (codeM z)
def wordB (k : Nat) (last id : Int) : List Nat := putB k 2 ++ varB (id - last - 1).toNat
set_option maxRecDepth 100000 in
theorem word_calls (x : Nat) (T : List Nat) (last id : Int) (k : Nat) (w : World) (h : SW w x T last) (hk : k < 4) (h0 : 0 ≤ last) (h1 : last < id) (h2 : id ≤ 1099511627776) :
    Calls Try.prog 158 #[.pointer (some ⟨x, 0, none⟩), .int .i64 ((k : Int)), .int .i64 id] w fun e w' => e = .returned (.tuple #[]) ∧ SW w' x (T ++ wordB k last id) id ∧ Only [x] w w' := by
  have HW : Hid (SW w x T last ∧ k < 4) := ⟨h, hk⟩
  have HV : Hid (¬ badVar (id - last - 1) ∧ ¬ badPut (k : Int) 2) := ⟨by unfold badVar; omega, by unfold badPut; simp; omega⟩
  have HX : Hid (IntKind.i64.wrap (id - last) = id - last ∧ IntKind.i64.wrap (id - last - 1) = id - last - 1) := ⟨by rw [IntWalk.i64_left]; unfold wrap64; omega, by rw [IntWalk.i64_left]; unfold wrap64; omega⟩
  clear h hk
  go_enter Try.func158, Try.ntmps158
  go_wp2_with fail
  refine (putS_calls x T last (k : Int) 2 w HW.out.1 HV.out.2).mono ?_
  rintro e w1 ⟨v, rfl, hm, o1⟩
  have H1 : Hid (MidW w1 x (T ++ putB k 2) last v ∧ Only [x] w w1) := ⟨by simpa using hm, o1⟩
  clear hm o1
  go_wp2_with fail
  refine (keepS_calls x _ last v w1 H1.out.1).mono ?_
  rintro e w2 ⟨rfl, hs, o2⟩
  have H2 : Hid (SW w2 x (T ++ putB k 2) last ∧ Only [x] w w2) := ⟨hs, H1.out.2.trans o2⟩
  clear hs o2 H1
  go_upto_region 1 with fail
  have hl := H2.out.1.last
  refine wp_region_held_drew (S := (fun w' => w'.cell? ⟨x, 4002, none⟩ = some (.int .i64 last))) (by kernel_rfl) ?_ (fun hHeld1 => ?_)
  · (try dsimp only); exact hl
  refine tkW 0 rfl ?_; refine tkW 1 rfl ?_; refine tkW 2 rfl ?_; refine tkW 3 rfl ?_
  try simp only [Act.put, List.setIfInBounds_toArray, List.set_cons_zero, List.set_cons_succ, List.getElem_toArray, List.getElem_cons_succ, List.getElem_cons_zero]
  refine tkW 4 rfl ?_; refine tkW 5 rfl ?_; refine tkW 6 rfl ?_; refine tkW 7 rfl ?_
  try simp only [Act.put, List.setIfInBounds_toArray, List.set_cons_zero, List.set_cons_succ, List.getElem_toArray, List.getElem_cons_succ, List.getElem_cons_zero]
  refine tkW 8 rfl ?_
  try simp only [Act.put, List.setIfInBounds_toArray, List.set_cons_zero, List.set_cons_succ, List.getElem_toArray, List.getElem_cons_succ, List.getElem_cons_zero]
  refine tkW (v := .int .i64 (id - last)) 9 rfl ?_ (by intro w'' hSw; (try dsimp only at hSw); simp only [List.getElem_toArray, List.getElem_cons_succ, List.getElem_cons_zero]; go_simp; rw [HX.out.1])
  try simp only [Act.put, List.setIfInBounds_toArray, List.set_cons_zero, List.set_cons_succ, List.getElem_toArray, List.getElem_cons_succ, List.getElem_cons_zero]
  refine tkW (v := .int .i64 (id - last - 1)) 10 rfl ?_ (by intro w'' hSw; (try dsimp only at hSw); simp only [List.getElem_toArray, List.getElem_cons_succ, List.getElem_cons_zero]; go_simp; rw [HX.out.2])
  try simp only [Act.put, List.setIfInBounds_toArray, List.set_cons_zero, List.set_cons_succ, List.getElem_toArray, List.getElem_cons_succ, List.getElem_cons_zero]
  refine wpAnyH_ready (rs := [11]) (by kernel_rfl) (by simp) ?_
  refine AllReadyH.cons rfl (fun K hK => ?_) AllReadyH.nil
  first | (with_reducible refine iteYes ?hcx ?htx; case hcx => kernel_rfl) | rw [if_pos (by rfl)]
  simp only [List.getElem_toArray, List.getElem_cons_succ, List.getElem_cons_zero]
  go_simp
  (go_at_call 137; refine (varS_calls x _ last (id - last - 1) _ (H2.out.1.only (D := []) (Only.refl _ _).drew (by simp)) HV.out.1).mono ?_; rintro e w3 ⟨v3, rfl, hm3, o3⟩)
  try go_wp2_with fail
  refine hK.out _ _ ?_ (fun hHeld2 => ?_)
  · (try dsimp only); exact hm3.last
  clear hK K hHeld1
  try simp only [Act.put, List.setIfInBounds_toArray, List.set_cons_zero, List.set_cons_succ, List.getElem_toArray, List.getElem_cons_succ, List.getElem_cons_zero]
  have H3 : Hid (MidW w3 x (T ++ putB k 2 ++ varB (id - last - 1).toNat) last v3 ∧ Only [x] w w3) := ⟨hm3, (H2.out.2.drew).trans o3⟩
  clear hm3 o3
  refine wpAnyH_ready (rs := [12]) (by kernel_rfl) (by simp) ?_
  refine AllReadyH.cons rfl (fun K hK => ?_) AllReadyH.nil
  first | (with_reducible refine iteYes ?hcx ?htx; case hcx => kernel_rfl) | rw [if_pos (by rfl)]
  simp only [List.getElem_toArray, List.getElem_cons_succ, List.getElem_cons_zero]
  go_simp
  (go_at_call 149; refine (keepS_calls x _ last v3 _ H3.out.1).mono ?_; rintro e w4 ⟨rfl, hs4, o4⟩)
  try go_wp2_with fail
  refine hK.out _ _ ?_ (fun hHeld3 => ?_)
  · (try dsimp only); exact hs4.last
  clear hK K hHeld2
  try simp only [Act.put, List.setIfInBounds_toArray, List.set_cons_zero, List.set_cons_succ, List.getElem_toArray, List.getElem_cons_succ, List.getElem_cons_zero]
  refine wpAnyH_done (by kernel_rfl) ?_ _
  have H4 : Hid (SW w4 x (T ++ wordB k last id) last ∧ Only [x] w w4) := ⟨by unfold wordB; rw [← List.append_assoc]; exact hs4, H3.out.2.trans o4⟩
  have hf := hs4.free 4002
  have hl4 := hs4.last
  clear hs4 o4 hl
  go_wp2_with fail
  refine bodyPost_end (results_none rfl _ _ _) rfl ?_
  exact ⟨rfl, H4.out.1.put id, H4.out.2.setCell (p := ⟨x, 4002, none⟩) (Or.inl (by simp)) _⟩
theorem less_calls (a b c x y z : Int) (w : World) (h1 : farB a = true ∧ farB b = true ∧ farB c = true) (h2 : farB x = true ∧ farB y = true ∧ farB z = true) :
    Calls Try.prog 163 #[.agg #[.int .i64 a, .int .i64 b, .int .i64 c], .agg #[.int .i64 x, .int .i64 y, .int .i64 z]] w fun e w' => e = .returned (.agg #[.int .i64 (a - x), .int .i64 (b - y), .int .i64 (c - z)]) ∧ Only [] w w' := by
  obtain ⟨a1, b1, c1⟩ := h1
  obtain ⟨x1, y1, z1⟩ := h2
  simp only [farB, Bool.not_eq_true', Bool.or_eq_false_iff, decide_eq_false_iff_not] at a1 b1 c1 x1 y1 z1
  go_enter Try.func163, Try.ntmps163
  go_wp2
  exact bodyPost_ret (v := .agg #[.int .i64 (a - x), .int .i64 (b - y), .int .i64 (c - z)]) (by simp [results, Try.results163, go_sem]) rfl ⟨rfl, (((Only.refl [] w).alloc _).alloc _).alloc _⟩
def v3 (a b c : Int) : Nat → Int
  | 0 => a
  | 1 => b
  | _ => c
set_option maxRecDepth 100000 in
theorem vec_calls (x : Nat) (T : List Nat) (last a b c : Int) (w : World) (h : SW w x T last) (hb : ¬ badInt a ∧ ¬ badInt b ∧ ¬ badInt c) :
    Calls Try.prog 162 #[.pointer (some ⟨x, 0, none⟩), .agg #[.int .i64 a, .int .i64 b, .int .i64 c]] w fun e w' => e = .returned (.tuple #[]) ∧ SW w' x (T ++ vecB a b c) last ∧ Only [x] w w' := by
  have HV : Hid (¬ badInt a ∧ ¬ badInt b ∧ ¬ badInt c) := hb
  have HW : Hid (SW w x T last) := h
  clear h hb
  go_enter Try.func162, Try.ntmps162
  go_upto_region 1 with fail
  have H1 : Hid (SW (w.alloc (.cells #[.int .i64 a, .int .i64 b, .int .i64 c] 27)) x T last ∧ Only [x] w (w.alloc (.cells #[.int .i64 a, .int .i64 b, .int .i64 c] 27)) ∧ ∀ j, j < 3 → (w.alloc (.cells #[.int .i64 a, .int .i64 b, .int .i64 c] 27)).cell? ⟨w.heap.size, j, none⟩ = some (.int .i64 (v3 a b c j))) := by
    refine ⟨HW.out.only (D := []) ((Only.refl _ _).alloc _) (by simp), (Only.refl _ _).alloc _, fun j hj => ?_⟩
    have h3 := ints_new3 w a b c 27 j (by simpa using hj)
    rw [h3]
    match j, hj with
    | 0, _ => rfl
    | 1, _ => rfl
    | 2, _ => rfl
    | j + 3, h => exact absurd h (by omega)
  have HN : Hid (w.heap.size ≠ x) := fun e => by have := HW.out.lt; omega
  revert H1 HN
  generalize w.heap.size = kv
  generalize World.alloc w _ = w1
  intro H1 HN
  go_upto_region 1 with fail
  have hl := H1.out.1.last
  have hv := H1.out.2.2 0 (by omega)
  refine wp_region_held_drew (S := (fun w' => w'.cell? ⟨kv, 0, none⟩ = some (.int .i64 a))) (by kernel_rfl) ?_ (fun hHeld1 => ?_)
  · (try dsimp only); exact hv
  refine tkW 0 rfl ?_; refine tkW 1 rfl ?_; refine tkW 2 rfl ?_; refine tkW 3 rfl ?_
  try simp only [Act.put, List.setIfInBounds_toArray, List.set_cons_zero, List.set_cons_succ, List.getElem_toArray, List.getElem_cons_succ, List.getElem_cons_zero]
  refine tkW 4 rfl ?_; refine tkW 5 rfl ?_
  try simp only [Act.put, List.setIfInBounds_toArray, List.set_cons_zero, List.set_cons_succ, List.getElem_toArray, List.getElem_cons_succ, List.getElem_cons_zero]
  refine wpAnyH_ready (rs := [6]) (by kernel_rfl) (by simp) ?_
  refine AllReadyH.cons rfl (fun K hK => ?_) AllReadyH.nil
  first | (with_reducible refine iteYes ?hcx ?htx; case hcx => kernel_rfl) | rw [if_pos (by rfl)]
  simp only [List.getElem_toArray, List.getElem_cons_succ, List.getElem_cons_zero]
  go_simp
  (go_at_call 164; refine (intS_calls x _ last a _ (H1.out.1.only (D := []) (Only.refl _ _).drew (by simp)) HV.out.1).mono ?_; rintro e wa1 ⟨va1, rfl, hm, o⟩)
  try go_wp2_with fail
  refine hK.out _ _ ?_ (fun hHeld2 => ?_)
  · (try dsimp only); exact (o.cell (a := ⟨kv, 0, none⟩) (v := .int .i64 a) hv (by simp only [List.mem_singleton]; exact HN.out))
  clear hK K hHeld1
  try simp only [Act.put, List.setIfInBounds_toArray, List.set_cons_zero, List.set_cons_succ, List.getElem_toArray, List.getElem_cons_succ, List.getElem_cons_zero]
  have G1 : Hid (MidW wa1 x (T ++ varB (codeM a)) last va1 ∧ Only [x] w wa1 ∧ ∀ j, j < 3 → wa1.cell? ⟨kv, j, none⟩ = some (.int .i64 (v3 a b c j))) := ⟨hm, (H1.out.2.1.drew).trans o, fun j hj => o.cell (a := ⟨kv, j, none⟩) (H1.out.2.2 j hj) (by simp only [List.mem_singleton]; exact HN.out)⟩
  clear hm o
  refine wpAnyH_ready (rs := [7]) (by kernel_rfl) (by simp) ?_
  refine AllReadyH.cons rfl (fun K hK => ?_) AllReadyH.nil
  first | (with_reducible refine iteYes ?hcx ?htx; case hcx => kernel_rfl) | rw [if_pos (by rfl)]
  simp only [List.getElem_toArray, List.getElem_cons_succ, List.getElem_cons_zero]
  go_simp
  (go_at_call 149; refine (keepS_calls x _ last va1 _ G1.out.1).mono ?_; rintro e wb1 ⟨rfl, hs, o⟩)
  try go_wp2_with fail
  refine hK.out _ _ ?_ (fun hHeld3 => ?_)
  · (try dsimp only); exact (o.cell (a := ⟨kv, 0, none⟩) (v := .int .i64 a) (G1.out.2.2 0 (by omega)) (by simp only [List.mem_singleton]; exact HN.out))
  clear hK K hHeld2
  try simp only [Act.put, List.setIfInBounds_toArray, List.set_cons_zero, List.set_cons_succ, List.getElem_toArray, List.getElem_cons_succ, List.getElem_cons_zero]
  refine wpAnyH_done (by kernel_rfl) ?_ _
  have H2 : Hid (SW wb1 x (T ++ varB (codeM a)) last ∧ Only [x] w wb1 ∧ ∀ j, j < 3 → wb1.cell? ⟨kv, j, none⟩ = some (.int .i64 (v3 a b c j))) := ⟨hs, G1.out.2.1.trans o, fun j hj => o.cell (a := ⟨kv, j, none⟩) (G1.out.2.2 j hj) (by simp only [List.mem_singleton]; exact HN.out)⟩
  clear hs o hl hv H1 G1
  go_upto_region 2 with fail
  have hl := H2.out.1.last
  have hv := H2.out.2.2 1 (by omega)
  refine wp_region_held_drew (S := (fun w' => w'.cell? ⟨kv, 1, none⟩ = some (.int .i64 b))) (by kernel_rfl) ?_ (fun hHeld1 => ?_)
  · (try dsimp only); exact hv
  refine tkW 0 rfl ?_; refine tkW 1 rfl ?_; refine tkW 2 rfl ?_; refine tkW 3 rfl ?_
  try simp only [Act.put, List.setIfInBounds_toArray, List.set_cons_zero, List.set_cons_succ, List.getElem_toArray, List.getElem_cons_succ, List.getElem_cons_zero]
  refine tkW 4 rfl ?_; refine tkW 5 rfl ?_
  try simp only [Act.put, List.setIfInBounds_toArray, List.set_cons_zero, List.set_cons_succ, List.getElem_toArray, List.getElem_cons_succ, List.getElem_cons_zero]
  refine wpAnyH_ready (rs := [6]) (by kernel_rfl) (by simp) ?_
  refine AllReadyH.cons rfl (fun K hK => ?_) AllReadyH.nil
  first | (with_reducible refine iteYes ?hcx ?htx; case hcx => kernel_rfl) | rw [if_pos (by rfl)]
  simp only [List.getElem_toArray, List.getElem_cons_succ, List.getElem_cons_zero]
  go_simp
  (go_at_call 164; refine (intS_calls x _ last b _ (H2.out.1.only (D := []) (Only.refl _ _).drew (by simp)) HV.out.2.1).mono ?_; rintro e wa2 ⟨va2, rfl, hm, o⟩)
  try go_wp2_with fail
  refine hK.out _ _ ?_ (fun hHeld2 => ?_)
  · (try dsimp only); exact (o.cell (a := ⟨kv, 1, none⟩) (v := .int .i64 b) hv (by simp only [List.mem_singleton]; exact HN.out))
  clear hK K hHeld1
  try simp only [Act.put, List.setIfInBounds_toArray, List.set_cons_zero, List.set_cons_succ, List.getElem_toArray, List.getElem_cons_succ, List.getElem_cons_zero]
  have G2 : Hid (MidW wa2 x (T ++ varB (codeM a) ++ varB (codeM b)) last va2 ∧ Only [x] w wa2 ∧ ∀ j, j < 3 → wa2.cell? ⟨kv, j, none⟩ = some (.int .i64 (v3 a b c j))) := ⟨hm, (H2.out.2.1.drew).trans o, fun j hj => o.cell (a := ⟨kv, j, none⟩) (H2.out.2.2 j hj) (by simp only [List.mem_singleton]; exact HN.out)⟩
  clear hm o
  refine wpAnyH_ready (rs := [7]) (by kernel_rfl) (by simp) ?_
  refine AllReadyH.cons rfl (fun K hK => ?_) AllReadyH.nil
  first | (with_reducible refine iteYes ?hcx ?htx; case hcx => kernel_rfl) | rw [if_pos (by rfl)]
  simp only [List.getElem_toArray, List.getElem_cons_succ, List.getElem_cons_zero]
  go_simp
  (go_at_call 149; refine (keepS_calls x _ last va2 _ G2.out.1).mono ?_; rintro e wb2 ⟨rfl, hs, o⟩)
  try go_wp2_with fail
  refine hK.out _ _ ?_ (fun hHeld3 => ?_)
  · (try dsimp only); exact (o.cell (a := ⟨kv, 1, none⟩) (v := .int .i64 b) (G2.out.2.2 1 (by omega)) (by simp only [List.mem_singleton]; exact HN.out))
  clear hK K hHeld2
  try simp only [Act.put, List.setIfInBounds_toArray, List.set_cons_zero, List.set_cons_succ, List.getElem_toArray, List.getElem_cons_succ, List.getElem_cons_zero]
  refine wpAnyH_done (by kernel_rfl) ?_ _
  have H3 : Hid (SW wb2 x (T ++ varB (codeM a) ++ varB (codeM b)) last ∧ Only [x] w wb2 ∧ ∀ j, j < 3 → wb2.cell? ⟨kv, j, none⟩ = some (.int .i64 (v3 a b c j))) := ⟨hs, G2.out.2.1.trans o, fun j hj => o.cell (a := ⟨kv, j, none⟩) (G2.out.2.2 j hj) (by simp only [List.mem_singleton]; exact HN.out)⟩
  clear hs o hl hv H2 G2
  go_upto_region 3 with fail
  have hl := H3.out.1.last
  have hv := H3.out.2.2 2 (by omega)
  refine wp_region_held_drew (S := (fun w' => w'.cell? ⟨kv, 2, none⟩ = some (.int .i64 c))) (by kernel_rfl) ?_ (fun hHeld1 => ?_)
  · (try dsimp only); exact hv
  refine tkW 0 rfl ?_; refine tkW 1 rfl ?_; refine tkW 2 rfl ?_; refine tkW 3 rfl ?_
  try simp only [Act.put, List.setIfInBounds_toArray, List.set_cons_zero, List.set_cons_succ, List.getElem_toArray, List.getElem_cons_succ, List.getElem_cons_zero]
  refine tkW 4 rfl ?_; refine tkW 5 rfl ?_
  try simp only [Act.put, List.setIfInBounds_toArray, List.set_cons_zero, List.set_cons_succ, List.getElem_toArray, List.getElem_cons_succ, List.getElem_cons_zero]
  refine wpAnyH_ready (rs := [6]) (by kernel_rfl) (by simp) ?_
  refine AllReadyH.cons rfl (fun K hK => ?_) AllReadyH.nil
  first | (with_reducible refine iteYes ?hcx ?htx; case hcx => kernel_rfl) | rw [if_pos (by rfl)]
  simp only [List.getElem_toArray, List.getElem_cons_succ, List.getElem_cons_zero]
  go_simp
  (go_at_call 164; refine (intS_calls x _ last c _ (H3.out.1.only (D := []) (Only.refl _ _).drew (by simp)) HV.out.2.2).mono ?_; rintro e wa3 ⟨va3, rfl, hm, o⟩)
  try go_wp2_with fail
  refine hK.out _ _ ?_ (fun hHeld2 => ?_)
  · (try dsimp only); exact (o.cell (a := ⟨kv, 2, none⟩) (v := .int .i64 c) hv (by simp only [List.mem_singleton]; exact HN.out))
  clear hK K hHeld1
  try simp only [Act.put, List.setIfInBounds_toArray, List.set_cons_zero, List.set_cons_succ, List.getElem_toArray, List.getElem_cons_succ, List.getElem_cons_zero]
  have G3 : Hid (MidW wa3 x (T ++ varB (codeM a) ++ varB (codeM b) ++ varB (codeM c)) last va3 ∧ Only [x] w wa3 ∧ ∀ j, j < 3 → wa3.cell? ⟨kv, j, none⟩ = some (.int .i64 (v3 a b c j))) := ⟨hm, (H3.out.2.1.drew).trans o, fun j hj => o.cell (a := ⟨kv, j, none⟩) (H3.out.2.2 j hj) (by simp only [List.mem_singleton]; exact HN.out)⟩
  clear hm o
  refine wpAnyH_ready (rs := [7]) (by kernel_rfl) (by simp) ?_
  refine AllReadyH.cons rfl (fun K hK => ?_) AllReadyH.nil
  first | (with_reducible refine iteYes ?hcx ?htx; case hcx => kernel_rfl) | rw [if_pos (by rfl)]
  simp only [List.getElem_toArray, List.getElem_cons_succ, List.getElem_cons_zero]
  go_simp
  (go_at_call 149; refine (keepS_calls x _ last va3 _ G3.out.1).mono ?_; rintro e wb3 ⟨rfl, hs, o⟩)
  try go_wp2_with fail
  refine hK.out _ _ ?_ (fun hHeld3 => ?_)
  · (try dsimp only); exact (o.cell (a := ⟨kv, 2, none⟩) (v := .int .i64 c) (G3.out.2.2 2 (by omega)) (by simp only [List.mem_singleton]; exact HN.out))
  clear hK K hHeld2
  try simp only [Act.put, List.setIfInBounds_toArray, List.set_cons_zero, List.set_cons_succ, List.getElem_toArray, List.getElem_cons_succ, List.getElem_cons_zero]
  refine wpAnyH_done (by kernel_rfl) ?_ _
  have H4 : Hid (SW wb3 x (T ++ varB (codeM a) ++ varB (codeM b) ++ varB (codeM c)) last ∧ Only [x] w wb3 ∧ ∀ j, j < 3 → wb3.cell? ⟨kv, j, none⟩ = some (.int .i64 (v3 a b c j))) := ⟨hs, G3.out.2.1.trans o, fun j hj => o.cell (a := ⟨kv, j, none⟩) (G3.out.2.2 j hj) (by simp only [List.mem_singleton]; exact HN.out)⟩
  clear hs o hl hv H3 G3
  go_wp2_with fail
  refine bodyPost_end (results_none rfl _ _ _) rfl ?_
  exact ⟨rfl, by unfold vecB; have := H4.out.1; rw [List.append_assoc, List.append_assoc] at this; rw [List.append_assoc]; exact this, H4.out.2.1⟩
end Go.Proofs.Ytedhdmahdioboaa
