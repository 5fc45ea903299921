/- The law SnapLooks: whatever the body. -/
import Derived.Test.YtbenlgandjjopaaSl1
import Derived.Test.YtbenlgandjjopaaSl2
import Derived.Deep.CutRange
import Derived.Deep.CutBlock
import Derived.MapKept
namespace Go.Proofs.Ytbenlgandjjopaa
open Go.ChangeShapes Go.WideShapes Go.ChangeAt Go.RowKit
set_option linter.unusedVariables false
set_option linter.unusedSimpArgs false

theorem seen_new (w : World) (s : Sn) (c : Array Value) (t : TypeId) (h : c = #[.int .i64 (s.id), .int .i64 (s.kd), .int .i64 (s.sx), .int .i64 (s.sy), .int .i64 (s.sz), .int .i64 (s.ax), .int .i64 (s.ay), .int .i64 (s.az), .int .i64 (s.vx), .int .i64 (s.vy), .int .i64 (s.vz)] := by rfl) : SeenAt (w.alloc (.cells c t)) (some ⟨w.heap.size, 0, none⟩) 1 (fun _ => s) := by
  subst h
  intro j hj
  obtain rfl : j = 0 := by omega
  have h0 := (MapKept.heap_alloc w (.cells #[.int .i64 (s.id), .int .i64 (s.kd), .int .i64 (s.sx), .int .i64 (s.sy), .int .i64 (s.sz), .int .i64 (s.ax), .int .i64 (s.ay), .int .i64 (s.az), .int .i64 (s.vx), .int .i64 (s.vy), .int .i64 (s.vz)] t)).1
  generalize w.alloc _ = w2 at h0 ⊢
  generalize w.heap.size = b at h0 ⊢
  refine ⟨_, _, rfl, fun k hk => ?_⟩
  have e : w2.cell? ⟨b, 0 + 0 * 11 + k, none⟩ = #[.int .i64 (s.id), .int .i64 (s.kd), .int .i64 (s.sx), .int .i64 (s.sy), .int .i64 (s.sz), .int .i64 (s.ax), .int .i64 (s.ay), .int .i64 (s.az), .int .i64 (s.vx), .int .i64 (s.vy), .int .i64 (s.vz)][k]? := by simp [World.cell?, h0]
  rw [e]
  match k, hk with
  | 0, _ => rfl
  | 1, _ => rfl
  | 2, _ => rfl
  | 3, _ => rfl
  | 4, _ => rfl
  | 5, _ => rfl
  | 6, _ => rfl
  | 7, _ => rfl
  | 8, _ => rfl
  | 9, _ => rfl
  | 10, _ => rfl
set_option maxRecDepth 100000 in
set_option maxHeartbeats 8000000 in
theorem snapLooks_calls (id ow kd sx sy sz ax ay az vx vy vz px py pz ms tm : Int) (w : World) (hfl : Hid (flX sx = sx / 256 ∧ flX sy = sy / 256 ∧ flX sz = sz / 256 ∧ flX ax = ax / 256 ∧ flX ay = ay / 256 ∧ flX az = az / 256 ∧ flX vx = vx / 256 ∧ flX vy = vy / 256 ∧ flX vz = vz / 256)) :
    Calls Try.prog 4 #[.agg #[.int .i64 id, .int .i64 ow, .int .i64 kd, .int .i64 sx, .int .i64 sy, .int .i64 sz, .int .i64 ax, .int .i64 ay, .int .i64 az, .int .i64 vx, .int .i64 vy, .int .i64 vz, .int .i64 px, .int .i64 py, .int .i64 pz, .int .i64 ms, .int .i64 tm]] w fun e w' => e = .returned (.bool true) ∧ Kept w w' := by
  go_enter Try.func4, Try.ntmps4
  go_upto_region 1 with fail
  have HA : Hid (Kept w (w.alloc (.cells #[.int .i64 id, .int .i64 ow, .int .i64 kd, .int .i64 sx, .int .i64 sy, .int .i64 sz, .int .i64 ax, .int .i64 ay, .int .i64 az, .int .i64 vx, .int .i64 vy, .int .i64 vz, .int .i64 px, .int .i64 py, .int .i64 pz, .int .i64 ms, .int .i64 tm] 31))) := (Kept.refl w).alloc _ _
  have HC : Hid ((w.alloc (.cells #[.int .i64 id, .int .i64 ow, .int .i64 kd, .int .i64 sx, .int .i64 sy, .int .i64 sz, .int .i64 ax, .int .i64 ay, .int .i64 az, .int .i64 vx, .int .i64 vy, .int .i64 vz, .int .i64 px, .int .i64 py, .int .i64 pz, .int .i64 ms, .int .i64 tm] 31)).cell? ⟨w.heap.size, 0, none⟩ = some (.int .i64 id) ∧ (w.alloc (.cells #[.int .i64 id, .int .i64 ow, .int .i64 kd, .int .i64 sx, .int .i64 sy, .int .i64 sz, .int .i64 ax, .int .i64 ay, .int .i64 az, .int .i64 vx, .int .i64 vy, .int .i64 vz, .int .i64 px, .int .i64 py, .int .i64 pz, .int .i64 ms, .int .i64 tm] 31)).cell? ⟨w.heap.size, 1, none⟩ = some (.int .i64 ow) ∧ (w.alloc (.cells #[.int .i64 id, .int .i64 ow, .int .i64 kd, .int .i64 sx, .int .i64 sy, .int .i64 sz, .int .i64 ax, .int .i64 ay, .int .i64 az, .int .i64 vx, .int .i64 vy, .int .i64 vz, .int .i64 px, .int .i64 py, .int .i64 pz, .int .i64 ms, .int .i64 tm] 31)).cell? ⟨w.heap.size, 2, none⟩ = some (.int .i64 kd) ∧ (w.alloc (.cells #[.int .i64 id, .int .i64 ow, .int .i64 kd, .int .i64 sx, .int .i64 sy, .int .i64 sz, .int .i64 ax, .int .i64 ay, .int .i64 az, .int .i64 vx, .int .i64 vy, .int .i64 vz, .int .i64 px, .int .i64 py, .int .i64 pz, .int .i64 ms, .int .i64 tm] 31)).cell? ⟨w.heap.size, 3, none⟩ = some (.int .i64 sx) ∧ (w.alloc (.cells #[.int .i64 id, .int .i64 ow, .int .i64 kd, .int .i64 sx, .int .i64 sy, .int .i64 sz, .int .i64 ax, .int .i64 ay, .int .i64 az, .int .i64 vx, .int .i64 vy, .int .i64 vz, .int .i64 px, .int .i64 py, .int .i64 pz, .int .i64 ms, .int .i64 tm] 31)).cell? ⟨w.heap.size, 4, none⟩ = some (.int .i64 sy) ∧ (w.alloc (.cells #[.int .i64 id, .int .i64 ow, .int .i64 kd, .int .i64 sx, .int .i64 sy, .int .i64 sz, .int .i64 ax, .int .i64 ay, .int .i64 az, .int .i64 vx, .int .i64 vy, .int .i64 vz, .int .i64 px, .int .i64 py, .int .i64 pz, .int .i64 ms, .int .i64 tm] 31)).cell? ⟨w.heap.size, 5, none⟩ = some (.int .i64 sz) ∧ (w.alloc (.cells #[.int .i64 id, .int .i64 ow, .int .i64 kd, .int .i64 sx, .int .i64 sy, .int .i64 sz, .int .i64 ax, .int .i64 ay, .int .i64 az, .int .i64 vx, .int .i64 vy, .int .i64 vz, .int .i64 px, .int .i64 py, .int .i64 pz, .int .i64 ms, .int .i64 tm] 31)).cell? ⟨w.heap.size, 6, none⟩ = some (.int .i64 ax) ∧ (w.alloc (.cells #[.int .i64 id, .int .i64 ow, .int .i64 kd, .int .i64 sx, .int .i64 sy, .int .i64 sz, .int .i64 ax, .int .i64 ay, .int .i64 az, .int .i64 vx, .int .i64 vy, .int .i64 vz, .int .i64 px, .int .i64 py, .int .i64 pz, .int .i64 ms, .int .i64 tm] 31)).cell? ⟨w.heap.size, 7, none⟩ = some (.int .i64 ay) ∧ (w.alloc (.cells #[.int .i64 id, .int .i64 ow, .int .i64 kd, .int .i64 sx, .int .i64 sy, .int .i64 sz, .int .i64 ax, .int .i64 ay, .int .i64 az, .int .i64 vx, .int .i64 vy, .int .i64 vz, .int .i64 px, .int .i64 py, .int .i64 pz, .int .i64 ms, .int .i64 tm] 31)).cell? ⟨w.heap.size, 8, none⟩ = some (.int .i64 az) ∧ (w.alloc (.cells #[.int .i64 id, .int .i64 ow, .int .i64 kd, .int .i64 sx, .int .i64 sy, .int .i64 sz, .int .i64 ax, .int .i64 ay, .int .i64 az, .int .i64 vx, .int .i64 vy, .int .i64 vz, .int .i64 px, .int .i64 py, .int .i64 pz, .int .i64 ms, .int .i64 tm] 31)).cell? ⟨w.heap.size, 9, none⟩ = some (.int .i64 vx) ∧ (w.alloc (.cells #[.int .i64 id, .int .i64 ow, .int .i64 kd, .int .i64 sx, .int .i64 sy, .int .i64 sz, .int .i64 ax, .int .i64 ay, .int .i64 az, .int .i64 vx, .int .i64 vy, .int .i64 vz, .int .i64 px, .int .i64 py, .int .i64 pz, .int .i64 ms, .int .i64 tm] 31)).cell? ⟨w.heap.size, 10, none⟩ = some (.int .i64 vy) ∧ (w.alloc (.cells #[.int .i64 id, .int .i64 ow, .int .i64 kd, .int .i64 sx, .int .i64 sy, .int .i64 sz, .int .i64 ax, .int .i64 ay, .int .i64 az, .int .i64 vx, .int .i64 vy, .int .i64 vz, .int .i64 px, .int .i64 py, .int .i64 pz, .int .i64 ms, .int .i64 tm] 31)).cell? ⟨w.heap.size, 11, none⟩ = some (.int .i64 vz) ∧ (w.alloc (.cells #[.int .i64 id, .int .i64 ow, .int .i64 kd, .int .i64 sx, .int .i64 sy, .int .i64 sz, .int .i64 ax, .int .i64 ay, .int .i64 az, .int .i64 vx, .int .i64 vy, .int .i64 vz, .int .i64 px, .int .i64 py, .int .i64 pz, .int .i64 ms, .int .i64 tm] 31)).cell? ⟨w.heap.size, 12, none⟩ = some (.int .i64 px) ∧ (w.alloc (.cells #[.int .i64 id, .int .i64 ow, .int .i64 kd, .int .i64 sx, .int .i64 sy, .int .i64 sz, .int .i64 ax, .int .i64 ay, .int .i64 az, .int .i64 vx, .int .i64 vy, .int .i64 vz, .int .i64 px, .int .i64 py, .int .i64 pz, .int .i64 ms, .int .i64 tm] 31)).cell? ⟨w.heap.size, 13, none⟩ = some (.int .i64 py) ∧ (w.alloc (.cells #[.int .i64 id, .int .i64 ow, .int .i64 kd, .int .i64 sx, .int .i64 sy, .int .i64 sz, .int .i64 ax, .int .i64 ay, .int .i64 az, .int .i64 vx, .int .i64 vy, .int .i64 vz, .int .i64 px, .int .i64 py, .int .i64 pz, .int .i64 ms, .int .i64 tm] 31)).cell? ⟨w.heap.size, 14, none⟩ = some (.int .i64 pz) ∧ (w.alloc (.cells #[.int .i64 id, .int .i64 ow, .int .i64 kd, .int .i64 sx, .int .i64 sy, .int .i64 sz, .int .i64 ax, .int .i64 ay, .int .i64 az, .int .i64 vx, .int .i64 vy, .int .i64 vz, .int .i64 px, .int .i64 py, .int .i64 pz, .int .i64 ms, .int .i64 tm] 31)).cell? ⟨w.heap.size, 15, none⟩ = some (.int .i64 ms) ∧ (w.alloc (.cells #[.int .i64 id, .int .i64 ow, .int .i64 kd, .int .i64 sx, .int .i64 sy, .int .i64 sz, .int .i64 ax, .int .i64 ay, .int .i64 az, .int .i64 vx, .int .i64 vy, .int .i64 vz, .int .i64 px, .int .i64 py, .int .i64 pz, .int .i64 ms, .int .i64 tm] 31)).cell? ⟨w.heap.size, 16, none⟩ = some (.int .i64 tm)) := by refine ⟨?_, ?_, ?_, ?_, ?_, ?_, ?_, ?_, ?_, ?_, ?_, ?_, ?_, ?_, ?_, ?_, ?_⟩ <;> go_simp
  revert HA HC
  generalize w.heap.size = kb
  generalize World.alloc w _ = wA
  intro HA HC
  have HS : Hid (∀ w', Kept wA w' → w'.cell? ⟨kb, 0, none⟩ = some (.int .i64 id) ∧ w'.cell? ⟨kb, 1, none⟩ = some (.int .i64 ow) ∧ w'.cell? ⟨kb, 2, none⟩ = some (.int .i64 kd) ∧ w'.cell? ⟨kb, 3, none⟩ = some (.int .i64 sx) ∧ w'.cell? ⟨kb, 4, none⟩ = some (.int .i64 sy) ∧ w'.cell? ⟨kb, 5, none⟩ = some (.int .i64 sz) ∧ w'.cell? ⟨kb, 6, none⟩ = some (.int .i64 ax) ∧ w'.cell? ⟨kb, 7, none⟩ = some (.int .i64 ay) ∧ w'.cell? ⟨kb, 8, none⟩ = some (.int .i64 az) ∧ w'.cell? ⟨kb, 9, none⟩ = some (.int .i64 vx) ∧ w'.cell? ⟨kb, 10, none⟩ = some (.int .i64 vy) ∧ w'.cell? ⟨kb, 11, none⟩ = some (.int .i64 vz) ∧ w'.cell? ⟨kb, 12, none⟩ = some (.int .i64 px) ∧ w'.cell? ⟨kb, 13, none⟩ = some (.int .i64 py) ∧ w'.cell? ⟨kb, 14, none⟩ = some (.int .i64 pz) ∧ w'.cell? ⟨kb, 15, none⟩ = some (.int .i64 ms) ∧ w'.cell? ⟨kb, 16, none⟩ = some (.int .i64 tm)) := fun w' k => ⟨kept_cell k HC.out.1, kept_cell k HC.out.2.1, kept_cell k HC.out.2.2.1, kept_cell k HC.out.2.2.2.1, kept_cell k HC.out.2.2.2.2.1, kept_cell k HC.out.2.2.2.2.2.1, kept_cell k HC.out.2.2.2.2.2.2.1, kept_cell k HC.out.2.2.2.2.2.2.2.1, kept_cell k HC.out.2.2.2.2.2.2.2.2.1, kept_cell k HC.out.2.2.2.2.2.2.2.2.2.1, kept_cell k HC.out.2.2.2.2.2.2.2.2.2.2.1, kept_cell k HC.out.2.2.2.2.2.2.2.2.2.2.2.1, kept_cell k HC.out.2.2.2.2.2.2.2.2.2.2.2.2.1, kept_cell k HC.out.2.2.2.2.2.2.2.2.2.2.2.2.2.1, kept_cell k HC.out.2.2.2.2.2.2.2.2.2.2.2.2.2.2.1, kept_cell k HC.out.2.2.2.2.2.2.2.2.2.2.2.2.2.2.2.1, kept_cell k HC.out.2.2.2.2.2.2.2.2.2.2.2.2.2.2.2.2⟩
  clear HC
  refine wp_region_held_drew (S := (fun w' => w'.cell? ⟨kb, 0, none⟩ = some (.int .i64 id) ∧ w'.cell? ⟨kb, 1, none⟩ = some (.int .i64 ow) ∧ w'.cell? ⟨kb, 2, none⟩ = some (.int .i64 kd) ∧ w'.cell? ⟨kb, 3, none⟩ = some (.int .i64 sx) ∧ w'.cell? ⟨kb, 4, none⟩ = some (.int .i64 sy) ∧ w'.cell? ⟨kb, 5, none⟩ = some (.int .i64 sz) ∧ w'.cell? ⟨kb, 6, none⟩ = some (.int .i64 ax) ∧ w'.cell? ⟨kb, 7, none⟩ = some (.int .i64 ay) ∧ w'.cell? ⟨kb, 8, none⟩ = some (.int .i64 az) ∧ w'.cell? ⟨kb, 9, none⟩ = some (.int .i64 vx) ∧ w'.cell? ⟨kb, 10, none⟩ = some (.int .i64 vy) ∧ w'.cell? ⟨kb, 11, none⟩ = some (.int .i64 vz) ∧ w'.cell? ⟨kb, 12, none⟩ = some (.int .i64 px) ∧ w'.cell? ⟨kb, 13, none⟩ = some (.int .i64 py) ∧ w'.cell? ⟨kb, 14, none⟩ = some (.int .i64 pz) ∧ w'.cell? ⟨kb, 15, none⟩ = some (.int .i64 ms) ∧ w'.cell? ⟨kb, 16, none⟩ = some (.int .i64 tm))) (by kernel_rfl) ?_ (fun hHeld1 => ?_)
  · (try dsimp only); exact HS.out _ (Kept.refl _).drew
  refine tkW 0 rfl ?_; refine tkW 3 rfl ?_
  try simp only [Act.put, List.setIfInBounds_toArray, List.set_cons_zero, List.set_cons_succ, List.getElem_toArray, List.getElem_cons_succ, List.getElem_cons_zero]
  have hH1 := hHeld1
  clear hHeld1
  have KK : Hid (Kept wA wA.drew) := (Kept.refl _).drew
  generalize World.drew wA = wd at KK hH1 ⊢
  refine wpAnyH_ready (rs := [1]) (by kernel_rfl) (by simp) ?_
  refine AllReadyH.cons rfl (fun K hK => ?_) AllReadyH.nil
  first | (with_reducible refine iteYes ?hcx ?htx; case hcx => kernel_rfl) | rw [if_pos (by rfl)]
  simp only [List.getElem_toArray, List.getElem_cons_succ, List.getElem_cons_zero]
  go_simp
  go_at_call 15
  refine (look_calls _ _ _ _ _ _ _ _ _ _ _ _ _ _ _ _ _ _).mono ?_
  rintro e wda ⟨rfl, kk⟩
  try go_wp2_with fail
  refine hK.out _ _ ?_ (fun hH2 => ?_)
  · (try dsimp only); exact HS.out _ (KK.out.trans kk)
  have K2 : Hid (Kept wA wda) := KK.out.trans kk
  clear hK K kk KK hH1
  have KK := K2
  clear K2
  try simp only [Act.put, List.setIfInBounds_toArray, List.set_cons_zero, List.set_cons_succ, List.getElem_toArray, List.getElem_cons_succ, List.getElem_cons_zero]
  refine wpAnyH_ready (rs := [2, 4]) (by kernel_rfl) (by simp) ?_
  refine AllReadyH.cons rfl (fun K hK => ?_) (AllReadyH.cons rfl (fun K hK => ?_) AllReadyH.nil)
  · skip
    first | (with_reducible refine iteYes ?hcx ?htx; case hcx => kernel_rfl) | rw [if_pos (by rfl)]
    simp only [List.getElem_toArray, List.getElem_cons_succ, List.getElem_cons_zero]
    go_simp
    refine hK.out _ _ ?_ (fun hH3 => ?_)
    · (try dsimp only); exact HS.out _ (KK.out.alloc _ _)
    have K2 : Hid (Kept wA (wda.alloc (.cells #[.int .i64 id, .int .i64 kd, .int .i64 ((sx / 256)), .int .i64 ((sy / 256)), .int .i64 ((sz / 256)), .int .i64 ((ax / 256)), .int .i64 ((ay / 256)), .int .i64 ((az / 256)), .int .i64 ((vx / 256)), .int .i64 ((vy / 256)), .int .i64 ((vz / 256))] 48))) := KK.out.alloc _ _
    have P2 : Hid (SeenAt (wda.alloc (.cells #[.int .i64 id, .int .i64 kd, .int .i64 ((sx / 256)), .int .i64 ((sy / 256)), .int .i64 ((sz / 256)), .int .i64 ((ax / 256)), .int .i64 ((ay / 256)), .int .i64 ((az / 256)), .int .i64 ((vx / 256)), .int .i64 ((vy / 256)), .int .i64 ((vz / 256))] 48)) (some ⟨wda.heap.size, 0, none⟩) 1 (fun _ => ⟨id, kd, (sx / 256), (sy / 256), (sz / 256), (ax / 256), (ay / 256), (az / 256), (vx / 256), (vy / 256), (vz / 256)⟩)) := seen_new wda ⟨id, kd, (sx / 256), (sy / 256), (sz / 256), (ax / 256), (ay / 256), (az / 256), (vx / 256), (vy / 256), (vz / 256)⟩ _ _
    clear hK K KK hH2
    try simp only [Act.put, List.setIfInBounds_toArray, List.set_cons_zero, List.set_cons_succ, List.getElem_toArray, List.getElem_cons_succ, List.getElem_cons_zero]
    revert K2 P2
    generalize wda.heap.size = k2
    generalize World.alloc wda _ = wdab at hH3 ⊢
    intro K2 P2
    have KK := K2
    clear K2
    refine wpAnyH_ready (rs := [4]) (by kernel_rfl) (by simp) ?_
    refine AllReadyH.cons rfl (fun K hK => ?_) AllReadyH.nil
    first | (with_reducible refine iteYes ?hcx ?htx; case hcx => kernel_rfl) | rw [if_pos (by rfl)]
    simp only [List.getElem_toArray, List.getElem_cons_succ, List.getElem_cons_zero]
    go_simp
    go_at_call 16
    refine (refLook_calls _ _ _ _ _ _ _ _ _ _ _ _ _ _ _ _ _ _).mono ?_
    rintro e wdabc ⟨rfl, kk⟩
    try go_wp2_with fail
    refine hK.out _ _ ?_ (fun hH4 => ?_)
    · (try dsimp only); exact HS.out _ (KK.out.trans kk)
    have K2 : Hid (Kept wA wdabc) := KK.out.trans kk
    have P2n : Hid (SeenAt wdabc (some ⟨k2, 0, none⟩) 1 (fun _ => ⟨id, kd, (sx / 256), (sy / 256), (sz / 256), (ax / 256), (ay / 256), (az / 256), (vx / 256), (vy / 256), (vz / 256)⟩)) := P2.out.kept kk
    clear P2
    have P2 := P2n
    clear P2n
    clear hK K kk KK hH3
    have KK := K2
    clear K2
    simp only [hfl.out]
    try simp only [Act.put, List.setIfInBounds_toArray, List.set_cons_zero, List.set_cons_succ, List.getElem_toArray, List.getElem_cons_succ, List.getElem_cons_zero]
    refine wpAnyH_ready (rs := [5]) (by kernel_rfl) (by simp) ?_
    refine AllReadyH.cons rfl (fun K hK => ?_) AllReadyH.nil
    first | (with_reducible refine iteYes ?hcx ?htx; case hcx => kernel_rfl) | rw [if_pos (by rfl)]
    simp only [List.getElem_toArray, List.getElem_cons_succ, List.getElem_cons_zero]
    go_simp
    refine hK.out _ _ ?_ (fun hH5 => ?_)
    · (try dsimp only); exact HS.out _ (KK.out.alloc _ _)
    have K2 : Hid (Kept wA (wdabc.alloc (.cells #[.int .i64 id, .int .i64 kd, .int .i64 ((sx / 256)), .int .i64 ((sy / 256)), .int .i64 ((sz / 256)), .int .i64 ((ax / 256)), .int .i64 ((ay / 256)), .int .i64 ((az / 256)), .int .i64 ((vx / 256)), .int .i64 ((vy / 256)), .int .i64 ((vz / 256))] 52))) := KK.out.alloc _ _
    have P5 : Hid (SeenAt (wdabc.alloc (.cells #[.int .i64 id, .int .i64 kd, .int .i64 ((sx / 256)), .int .i64 ((sy / 256)), .int .i64 ((sz / 256)), .int .i64 ((ax / 256)), .int .i64 ((ay / 256)), .int .i64 ((az / 256)), .int .i64 ((vx / 256)), .int .i64 ((vy / 256)), .int .i64 ((vz / 256))] 52)) (some ⟨wdabc.heap.size, 0, none⟩) 1 (fun _ => ⟨id, kd, (sx / 256), (sy / 256), (sz / 256), (ax / 256), (ay / 256), (az / 256), (vx / 256), (vy / 256), (vz / 256)⟩)) := seen_new wdabc ⟨id, kd, (sx / 256), (sy / 256), (sz / 256), (ax / 256), (ay / 256), (az / 256), (vx / 256), (vy / 256), (vz / 256)⟩ _ _
    have P2n : Hid (SeenAt (wdabc.alloc (.cells #[.int .i64 id, .int .i64 kd, .int .i64 ((sx / 256)), .int .i64 ((sy / 256)), .int .i64 ((sz / 256)), .int .i64 ((ax / 256)), .int .i64 ((ay / 256)), .int .i64 ((az / 256)), .int .i64 ((vx / 256)), .int .i64 ((vy / 256)), .int .i64 ((vz / 256))] 52)) (some ⟨k2, 0, none⟩) 1 (fun _ => ⟨id, kd, (sx / 256), (sy / 256), (sz / 256), (ax / 256), (ay / 256), (az / 256), (vx / 256), (vy / 256), (vz / 256)⟩)) := P2.out.kept ((Kept.refl _).alloc _ _)
    clear P2
    clear hK K KK hH4
    try simp only [Act.put, List.setIfInBounds_toArray, List.set_cons_zero, List.set_cons_succ, List.getElem_toArray, List.getElem_cons_succ, List.getElem_cons_zero]
    revert K2 P5 P2n
    generalize wdabc.heap.size = k5
    generalize World.alloc wdabc _ = wdabcd at hH5 ⊢
    intro K2 P5 P2n
    have P2 := P2n
    clear P2n
    have KK := K2
    clear K2
    refine wpAnyH_ready (rs := [6]) (by kernel_rfl) (by simp) ?_
    refine AllReadyH.cons rfl (fun K hK => ?_) AllReadyH.nil
    first | (with_reducible refine iteYes ?hcx ?htx; case hcx => kernel_rfl) | rw [if_pos (by rfl)]
    simp only [List.getElem_toArray, List.getElem_cons_succ, List.getElem_cons_zero]
    go_simp
    go_at_call 14
    refine (sameView_calls _ _ 1 _ _ (fun _ => ⟨id, kd, (sx / 256), (sy / 256), (sz / 256), (ax / 256), (ay / 256), (az / 256), (vx / 256), (vy / 256), (vz / 256)⟩) _ (by decide) P2.out P5.out).mono ?_
    rintro e w9 ⟨rfl, k9⟩
    try go_wp2_with fail
    refine hK.out _ _ ?_ (fun hH9 => ?_)
    · (try dsimp only); exact HS.out _ (KK.out.trans k9)
    have K9 : Hid (Kept wA w9) := KK.out.trans k9
    clear hK K
    try simp only [Act.put, List.setIfInBounds_toArray, List.set_cons_zero, List.set_cons_succ, List.getElem_toArray, List.getElem_cons_succ, List.getElem_cons_zero]
    refine tkW 7 rfl ?_
    try simp only [Act.put, List.setIfInBounds_toArray, List.set_cons_zero, List.set_cons_succ, List.getElem_toArray, List.getElem_cons_succ, List.getElem_cons_zero]
    refine wpAnyH_done (by kernel_rfl) ?_ _
    go_wp2
    go_ret
    exact ⟨rfl, HA.out.trans K9.out⟩
  · skip
    first | (with_reducible refine iteYes ?hcx ?htx; case hcx => kernel_rfl) | rw [if_pos (by rfl)]
    simp only [List.getElem_toArray, List.getElem_cons_succ, List.getElem_cons_zero]
    go_simp
    go_at_call 16
    refine (refLook_calls _ _ _ _ _ _ _ _ _ _ _ _ _ _ _ _ _ _).mono ?_
    rintro e wdab ⟨rfl, kk⟩
    try go_wp2_with fail
    refine hK.out _ _ ?_ (fun hH3 => ?_)
    · (try dsimp only); exact HS.out _ (KK.out.trans kk)
    have K2 : Hid (Kept wA wdab) := KK.out.trans kk
    clear hK K kk KK hH2
    have KK := K2
    clear K2
    simp only [hfl.out]
    try simp only [Act.put, List.setIfInBounds_toArray, List.set_cons_zero, List.set_cons_succ, List.getElem_toArray, List.getElem_cons_succ, List.getElem_cons_zero]
    refine wpAnyH_ready (rs := [2, 5]) (by kernel_rfl) (by simp) ?_
    refine AllReadyH.cons rfl (fun K hK => ?_) (AllReadyH.cons rfl (fun K hK => ?_) AllReadyH.nil)
    · skip
      first | (with_reducible refine iteYes ?hcx ?htx; case hcx => kernel_rfl) | rw [if_pos (by rfl)]
      simp only [List.getElem_toArray, List.getElem_cons_succ, List.getElem_cons_zero]
      go_simp
      refine hK.out _ _ ?_ (fun hH4 => ?_)
      · (try dsimp only); exact HS.out _ (KK.out.alloc _ _)
      have K2 : Hid (Kept wA (wdab.alloc (.cells #[.int .i64 id, .int .i64 kd, .int .i64 ((sx / 256)), .int .i64 ((sy / 256)), .int .i64 ((sz / 256)), .int .i64 ((ax / 256)), .int .i64 ((ay / 256)), .int .i64 ((az / 256)), .int .i64 ((vx / 256)), .int .i64 ((vy / 256)), .int .i64 ((vz / 256))] 48))) := KK.out.alloc _ _
      have P2 : Hid (SeenAt (wdab.alloc (.cells #[.int .i64 id, .int .i64 kd, .int .i64 ((sx / 256)), .int .i64 ((sy / 256)), .int .i64 ((sz / 256)), .int .i64 ((ax / 256)), .int .i64 ((ay / 256)), .int .i64 ((az / 256)), .int .i64 ((vx / 256)), .int .i64 ((vy / 256)), .int .i64 ((vz / 256))] 48)) (some ⟨wdab.heap.size, 0, none⟩) 1 (fun _ => ⟨id, kd, (sx / 256), (sy / 256), (sz / 256), (ax / 256), (ay / 256), (az / 256), (vx / 256), (vy / 256), (vz / 256)⟩)) := seen_new wdab ⟨id, kd, (sx / 256), (sy / 256), (sz / 256), (ax / 256), (ay / 256), (az / 256), (vx / 256), (vy / 256), (vz / 256)⟩ _ _
      clear hK K KK hH3
      try simp only [Act.put, List.setIfInBounds_toArray, List.set_cons_zero, List.set_cons_succ, List.getElem_toArray, List.getElem_cons_succ, List.getElem_cons_zero]
      revert K2 P2
      generalize wdab.heap.size = k2
      generalize World.alloc wdab _ = wdabc at hH4 ⊢
      intro K2 P2
      have KK := K2
      clear K2
      refine wpAnyH_ready (rs := [5]) (by kernel_rfl) (by simp) ?_
      refine AllReadyH.cons rfl (fun K hK => ?_) AllReadyH.nil
      first | (with_reducible refine iteYes ?hcx ?htx; case hcx => kernel_rfl) | rw [if_pos (by rfl)]
      simp only [List.getElem_toArray, List.getElem_cons_succ, List.getElem_cons_zero]
      go_simp
      refine hK.out _ _ ?_ (fun hH5 => ?_)
      · (try dsimp only); exact HS.out _ (KK.out.alloc _ _)
      have K2 : Hid (Kept wA (wdabc.alloc (.cells #[.int .i64 id, .int .i64 kd, .int .i64 ((sx / 256)), .int .i64 ((sy / 256)), .int .i64 ((sz / 256)), .int .i64 ((ax / 256)), .int .i64 ((ay / 256)), .int .i64 ((az / 256)), .int .i64 ((vx / 256)), .int .i64 ((vy / 256)), .int .i64 ((vz / 256))] 52))) := KK.out.alloc _ _
      have P5 : Hid (SeenAt (wdabc.alloc (.cells #[.int .i64 id, .int .i64 kd, .int .i64 ((sx / 256)), .int .i64 ((sy / 256)), .int .i64 ((sz / 256)), .int .i64 ((ax / 256)), .int .i64 ((ay / 256)), .int .i64 ((az / 256)), .int .i64 ((vx / 256)), .int .i64 ((vy / 256)), .int .i64 ((vz / 256))] 52)) (some ⟨wdabc.heap.size, 0, none⟩) 1 (fun _ => ⟨id, kd, (sx / 256), (sy / 256), (sz / 256), (ax / 256), (ay / 256), (az / 256), (vx / 256), (vy / 256), (vz / 256)⟩)) := seen_new wdabc ⟨id, kd, (sx / 256), (sy / 256), (sz / 256), (ax / 256), (ay / 256), (az / 256), (vx / 256), (vy / 256), (vz / 256)⟩ _ _
      have P2n : Hid (SeenAt (wdabc.alloc (.cells #[.int .i64 id, .int .i64 kd, .int .i64 ((sx / 256)), .int .i64 ((sy / 256)), .int .i64 ((sz / 256)), .int .i64 ((ax / 256)), .int .i64 ((ay / 256)), .int .i64 ((az / 256)), .int .i64 ((vx / 256)), .int .i64 ((vy / 256)), .int .i64 ((vz / 256))] 52)) (some ⟨k2, 0, none⟩) 1 (fun _ => ⟨id, kd, (sx / 256), (sy / 256), (sz / 256), (ax / 256), (ay / 256), (az / 256), (vx / 256), (vy / 256), (vz / 256)⟩)) := P2.out.kept ((Kept.refl _).alloc _ _)
      clear P2
      clear hK K KK hH4
      try simp only [Act.put, List.setIfInBounds_toArray, List.set_cons_zero, List.set_cons_succ, List.getElem_toArray, List.getElem_cons_succ, List.getElem_cons_zero]
      revert K2 P5 P2n
      generalize wdabc.heap.size = k5
      generalize World.alloc wdabc _ = wdabcd at hH5 ⊢
      intro K2 P5 P2n
      have P2 := P2n
      clear P2n
      have KK := K2
      clear K2
      refine wpAnyH_ready (rs := [6]) (by kernel_rfl) (by simp) ?_
      refine AllReadyH.cons rfl (fun K hK => ?_) AllReadyH.nil
      first | (with_reducible refine iteYes ?hcx ?htx; case hcx => kernel_rfl) | rw [if_pos (by rfl)]
      simp only [List.getElem_toArray, List.getElem_cons_succ, List.getElem_cons_zero]
      go_simp
      go_at_call 14
      refine (sameView_calls _ _ 1 _ _ (fun _ => ⟨id, kd, (sx / 256), (sy / 256), (sz / 256), (ax / 256), (ay / 256), (az / 256), (vx / 256), (vy / 256), (vz / 256)⟩) _ (by decide) P2.out P5.out).mono ?_
      rintro e w9 ⟨rfl, k9⟩
      try go_wp2_with fail
      refine hK.out _ _ ?_ (fun hH9 => ?_)
      · (try dsimp only); exact HS.out _ (KK.out.trans k9)
      have K9 : Hid (Kept wA w9) := KK.out.trans k9
      clear hK K
      try simp only [Act.put, List.setIfInBounds_toArray, List.set_cons_zero, List.set_cons_succ, List.getElem_toArray, List.getElem_cons_succ, List.getElem_cons_zero]
      refine tkW 7 rfl ?_
      try simp only [Act.put, List.setIfInBounds_toArray, List.set_cons_zero, List.set_cons_succ, List.getElem_toArray, List.getElem_cons_succ, List.getElem_cons_zero]
      refine wpAnyH_done (by kernel_rfl) ?_ _
      go_wp2
      go_ret
      exact ⟨rfl, HA.out.trans K9.out⟩
    · skip
      first | (with_reducible refine iteYes ?hcx ?htx; case hcx => kernel_rfl) | rw [if_pos (by rfl)]
      simp only [List.getElem_toArray, List.getElem_cons_succ, List.getElem_cons_zero]
      go_simp
      refine hK.out _ _ ?_ (fun hH4 => ?_)
      · (try dsimp only); exact HS.out _ (KK.out.alloc _ _)
      have K2 : Hid (Kept wA (wdab.alloc (.cells #[.int .i64 id, .int .i64 kd, .int .i64 ((sx / 256)), .int .i64 ((sy / 256)), .int .i64 ((sz / 256)), .int .i64 ((ax / 256)), .int .i64 ((ay / 256)), .int .i64 ((az / 256)), .int .i64 ((vx / 256)), .int .i64 ((vy / 256)), .int .i64 ((vz / 256))] 52))) := KK.out.alloc _ _
      have P5 : Hid (SeenAt (wdab.alloc (.cells #[.int .i64 id, .int .i64 kd, .int .i64 ((sx / 256)), .int .i64 ((sy / 256)), .int .i64 ((sz / 256)), .int .i64 ((ax / 256)), .int .i64 ((ay / 256)), .int .i64 ((az / 256)), .int .i64 ((vx / 256)), .int .i64 ((vy / 256)), .int .i64 ((vz / 256))] 52)) (some ⟨wdab.heap.size, 0, none⟩) 1 (fun _ => ⟨id, kd, (sx / 256), (sy / 256), (sz / 256), (ax / 256), (ay / 256), (az / 256), (vx / 256), (vy / 256), (vz / 256)⟩)) := seen_new wdab ⟨id, kd, (sx / 256), (sy / 256), (sz / 256), (ax / 256), (ay / 256), (az / 256), (vx / 256), (vy / 256), (vz / 256)⟩ _ _
      clear hK K KK hH3
      try simp only [Act.put, List.setIfInBounds_toArray, List.set_cons_zero, List.set_cons_succ, List.getElem_toArray, List.getElem_cons_succ, List.getElem_cons_zero]
      revert K2 P5
      generalize wdab.heap.size = k5
      generalize World.alloc wdab _ = wdabc at hH4 ⊢
      intro K2 P5
      have KK := K2
      clear K2
      refine wpAnyH_ready (rs := [2]) (by kernel_rfl) (by simp) ?_
      refine AllReadyH.cons rfl (fun K hK => ?_) AllReadyH.nil
      first | (with_reducible refine iteYes ?hcx ?htx; case hcx => kernel_rfl) | rw [if_pos (by rfl)]
      simp only [List.getElem_toArray, List.getElem_cons_succ, List.getElem_cons_zero]
      go_simp
      refine hK.out _ _ ?_ (fun hH5 => ?_)
      · (try dsimp only); exact HS.out _ (KK.out.alloc _ _)
      have K2 : Hid (Kept wA (wdabc.alloc (.cells #[.int .i64 id, .int .i64 kd, .int .i64 ((sx / 256)), .int .i64 ((sy / 256)), .int .i64 ((sz / 256)), .int .i64 ((ax / 256)), .int .i64 ((ay / 256)), .int .i64 ((az / 256)), .int .i64 ((vx / 256)), .int .i64 ((vy / 256)), .int .i64 ((vz / 256))] 48))) := KK.out.alloc _ _
      have P2 : Hid (SeenAt (wdabc.alloc (.cells #[.int .i64 id, .int .i64 kd, .int .i64 ((sx / 256)), .int .i64 ((sy / 256)), .int .i64 ((sz / 256)), .int .i64 ((ax / 256)), .int .i64 ((ay / 256)), .int .i64 ((az / 256)), .int .i64 ((vx / 256)), .int .i64 ((vy / 256)), .int .i64 ((vz / 256))] 48)) (some ⟨wdabc.heap.size, 0, none⟩) 1 (fun _ => ⟨id, kd, (sx / 256), (sy / 256), (sz / 256), (ax / 256), (ay / 256), (az / 256), (vx / 256), (vy / 256), (vz / 256)⟩)) := seen_new wdabc ⟨id, kd, (sx / 256), (sy / 256), (sz / 256), (ax / 256), (ay / 256), (az / 256), (vx / 256), (vy / 256), (vz / 256)⟩ _ _
      have P5n : Hid (SeenAt (wdabc.alloc (.cells #[.int .i64 id, .int .i64 kd, .int .i64 ((sx / 256)), .int .i64 ((sy / 256)), .int .i64 ((sz / 256)), .int .i64 ((ax / 256)), .int .i64 ((ay / 256)), .int .i64 ((az / 256)), .int .i64 ((vx / 256)), .int .i64 ((vy / 256)), .int .i64 ((vz / 256))] 48)) (some ⟨k5, 0, none⟩) 1 (fun _ => ⟨id, kd, (sx / 256), (sy / 256), (sz / 256), (ax / 256), (ay / 256), (az / 256), (vx / 256), (vy / 256), (vz / 256)⟩)) := P5.out.kept ((Kept.refl _).alloc _ _)
      clear P5
      clear hK K KK hH4
      try simp only [Act.put, List.setIfInBounds_toArray, List.set_cons_zero, List.set_cons_succ, List.getElem_toArray, List.getElem_cons_succ, List.getElem_cons_zero]
      revert K2 P2 P5n
      generalize wdabc.heap.size = k2
      generalize World.alloc wdabc _ = wdabcd at hH5 ⊢
      intro K2 P2 P5n
      have P5 := P5n
      clear P5n
      have KK := K2
      clear K2
      refine wpAnyH_ready (rs := [6]) (by kernel_rfl) (by simp) ?_
      refine AllReadyH.cons rfl (fun K hK => ?_) AllReadyH.nil
      first | (with_reducible refine iteYes ?hcx ?htx; case hcx => kernel_rfl) | rw [if_pos (by rfl)]
      simp only [List.getElem_toArray, List.getElem_cons_succ, List.getElem_cons_zero]
      go_simp
      go_at_call 14
      refine (sameView_calls _ _ 1 _ _ (fun _ => ⟨id, kd, (sx / 256), (sy / 256), (sz / 256), (ax / 256), (ay / 256), (az / 256), (vx / 256), (vy / 256), (vz / 256)⟩) _ (by decide) P2.out P5.out).mono ?_
      rintro e w9 ⟨rfl, k9⟩
      try go_wp2_with fail
      refine hK.out _ _ ?_ (fun hH9 => ?_)
      · (try dsimp only); exact HS.out _ (KK.out.trans k9)
      have K9 : Hid (Kept wA w9) := KK.out.trans k9
      clear hK K
      try simp only [Act.put, List.setIfInBounds_toArray, List.set_cons_zero, List.set_cons_succ, List.getElem_toArray, List.getElem_cons_succ, List.getElem_cons_zero]
      refine tkW 7 rfl ?_
      try simp only [Act.put, List.setIfInBounds_toArray, List.set_cons_zero, List.set_cons_succ, List.getElem_toArray, List.getElem_cons_succ, List.getElem_cons_zero]
      refine wpAnyH_done (by kernel_rfl) ?_ _
      go_wp2
      go_ret
      exact ⟨rfl, HA.out.trans K9.out⟩
end Go.Proofs.Ytbenlgandjjopaa
