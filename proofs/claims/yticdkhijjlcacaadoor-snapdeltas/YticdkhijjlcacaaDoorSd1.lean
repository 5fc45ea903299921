/- gyrelaw.seen: a view as the document's: whichever view. -/
import Derived.Test.YticdkhijjlcacaaDoorAp6
namespace Go.Proofs.YticdkhijjlcacaaDoor
open Go.ChangeShapes Go.WideShapes Go.ChangeAt Go.RowKit
set_option linter.unusedVariables false
set_option linter.unusedSimpArgs false
theorem seen_oneR (w : World) (s : Sn) : SeenAt (w.alloc (.cells #[.int .i64 (s.id), .int .i64 (s.kd), .int .i64 (s.sx), .int .i64 (s.sy), .int .i64 (s.sz), .int .i64 (s.ax), .int .i64 (s.ay), .int .i64 (s.az), .int .i64 (s.vx), .int .i64 (s.vy), .int .i64 (s.vz)] 57)) (some ⟨w.heap.size, 0, none⟩) [s].length (fun j => [s].getD j zs) := by
  intro j hj
  obtain rfl : j = 0 := by simp at hj; omega
  refine ⟨_, _, rfl, fun k hk => ?_⟩
  have h := (SnAt.new 57 w s).off k
  simp only [Nat.zero_mul, Nat.zero_add, Nat.add_zero] at h ⊢
  rw [h]
  match k, hk with
  | 0, _ => rfl
  | 1, _ => rfl
  | 2, _ => rfl
  | 3, _ => rfl
  | 4, _ => rfl
  | 5, _ => rfl
  | 6, _ => rfl
  | 7, _ => rfl
  | 8, _ => rfl
  | 9, _ => rfl
  | 10, _ => rfl
  | k + 11, h => exact absurd h (by omega)
def SeenGPost (V : List Sn) (w : World) (e : Ending) (w' : World) : Prop := ∃ v', e = .returned v' ∧ w'.ownsRow w.heap.size 57 11 v' V.length (rowS V) ∧ Only [] w w'
set_option maxRecDepth 100000 in
set_option maxHeartbeats 2000000 in
theorem seenG_calls (V : List Sn) (v : Value) (w : World) (h : SvAt w v V) (hl : V.length ≤ 1000) :
    Calls Tryd.prog 7 #[v] w (SeenGPost V w) := by
  obtain ⟨a, c, rfl, hc, hv⟩ := h
  have HB : Hid (SeenAt w a V.length (fun j => V.getD j zs) ∧ V.length ≤ 1000) := ⟨hv, hl⟩
  clear hv hl hc
  go_enter Tryd.func7, Tryd.ntmps7
  go_wp2_with fail
  go_loopg [3, 4] V.length (fun k s3 s4 wr => ∃ (tv : Value) (i : Nat), tv = s3 ∧ s4 = .int .i64 (i : Int) ∧ Hid (i ≤ V.length ∧ k = V.length - i) ∧ Hid (wr.ownsRow w.heap.size 57 11 tv (V.take i).length (rowS (V.take i)) ∧ Only [] w wr))
  case atStart => exact ⟨_, 0, rfl, rfl, ⟨by omega, rfl⟩, ⟨World.ownsRow_nil w _ _ _, Only.refl _ _⟩⟩
  case round =>
    obtain ⟨tv, i, rfl, rfl, HI, HE⟩ := hrel
    have hn := HB.out.2
    by_cases hi : i < V.length
    · have hil : (i : Int) < (V.length : Int) := by omega
      obtain ⟨g, o, rfl, hcell⟩ := (HB.out.1.only HE.out.2) i hi
      obtain ⟨s, hs⟩ : ∃ s, V.getD i zs = s := ⟨_, rfl⟩
      have HS : Hid (V.take (i + 1) = V.take i ++ [s]) := by
        show _ = _
        rw [List.take_succ_eq_append_getElem hi, ← hs, List.getD_eq_getElem?_getD, List.getElem?_eq_getElem hi]; rfl
      have z0 := hcell 0 (by omega)
      have z1 := hcell 1 (by omega)
      have z2 := hcell 2 (by omega)
      have z3 := hcell 3 (by omega)
      have z4 := hcell 4 (by omega)
      have z5 := hcell 5 (by omega)
      have z6 := hcell 6 (by omega)
      have z7 := hcell 7 (by omega)
      have z8 := hcell 8 (by omega)
      have z9 := hcell 9 (by omega)
      have z10 := hcell 10 (by omega)
      clear hcell
      simp only [hs] at z0 z1 z2 z3 z4 z5 z6 z7 z8 z9 z10
      simp only [sc, Nat.add_zero] at z0 z1 z2 z3 z4 z5 z6 z7 z8 z9 z10
      clear hs
      go_upto_region 6 with fail
      have H5 : Hid ((wr.alloc (.cells #[.int .i64 (s.id), .int .i64 (s.kd), .int .i64 (s.sx), .int .i64 (s.sy), .int .i64 (s.sz), .int .i64 (s.ax), .int .i64 (s.ay), .int .i64 (s.az), .int .i64 (s.vx), .int .i64 (s.vy), .int .i64 (s.vz)] 61)).ownsRow w.heap.size 57 11 tv (V.take i).length (rowS (V.take i)) ∧ Only [] w (wr.alloc (.cells #[.int .i64 (s.id), .int .i64 (s.kd), .int .i64 (s.sx), .int .i64 (s.sy), .int .i64 (s.sz), .int .i64 (s.ax), .int .i64 (s.ay), .int .i64 (s.az), .int .i64 (s.vx), .int .i64 (s.vy), .int .i64 (s.vz)] 61)) ∧ SnAt 61 (wr.alloc (.cells #[.int .i64 (s.id), .int .i64 (s.kd), .int .i64 (s.sx), .int .i64 (s.sy), .int .i64 (s.sz), .int .i64 (s.ax), .int .i64 (s.ay), .int .i64 (s.az), .int .i64 (s.vx), .int .i64 (s.vy), .int .i64 (s.vz)] 61)) wr.heap.size s) := ⟨ownS_keep HE.out.1 ((Only.refl [] wr).alloc _) (by simp), HE.out.2.alloc _, SnAt.new _ wr s⟩
      clear z0 z1 z2 z3 z4 z5 z6 z7 z8 z9 z10
      revert H5
      generalize wr.heap.size = k5
      generalize World.alloc wr _ = w5
      intro H5
      have z0 := H5.out.2.2.off 0
      have z1 := H5.out.2.2.off 1
      have z2 := H5.out.2.2.off 2
      have z3 := H5.out.2.2.off 3
      have z4 := H5.out.2.2.off 4
      have z5 := H5.out.2.2.off 5
      have z6 := H5.out.2.2.off 6
      have z7 := H5.out.2.2.off 7
      have z8 := H5.out.2.2.off 8
      have z9 := H5.out.2.2.off 9
      have z10 := H5.out.2.2.off 10
      simp only [List.getElem?_toArray, List.getElem?_cons_succ, List.getElem?_cons_zero] at z0 z1 z2 z3 z4 z5 z6 z7 z8 z9 z10
      have hown5 := ownS_keep H5.out.1 ((Only.refl [] w5).alloc (.cells #[.int .i64 (s.id), .int .i64 (s.kd), .int .i64 (s.sx), .int .i64 (s.sy), .int .i64 (s.sz), .int .i64 (s.ax), .int .i64 (s.ay), .int .i64 (s.az), .int .i64 (s.vx), .int .i64 (s.vy), .int .i64 (s.vz)] 57)) (by simp)
      have hone := seen_oneR w5 s
      have hb5 : w.heap.size ≤ (w5.alloc (.cells #[.int .i64 (s.id), .int .i64 (s.kd), .int .i64 (s.sx), .int .i64 (s.sy), .int .i64 (s.sz), .int .i64 (s.ax), .int .i64 (s.ay), .int .i64 (s.az), .int .i64 (s.vx), .int .i64 (s.vy), .int .i64 (s.vz)] 57)).heap.size := by have := H5.out.2.1.size; simp; omega
      have hl5 : (V.take i).length + [s].length ≤ 1000000 := by rw [List.length_take]; simp; omega
      have HAL : Hid (Only [] w (w5.alloc (.cells #[.int .i64 (s.id), .int .i64 (s.kd), .int .i64 (s.sx), .int .i64 (s.sy), .int .i64 (s.sz), .int .i64 (s.ax), .int .i64 (s.ay), .int .i64 (s.az), .int .i64 (s.vx), .int .i64 (s.vy), .int .i64 (s.vz)] 57))) := H5.out.2.1.alloc _
      go_wp2_with (first | (at_builtin; refine wpList_appendS refT rfl _ _ rfl w.heap.size tv (V.take i) rfl hown5 (some ⟨w5.heap.size, 0, none⟩) 1 1 [s] rfl rfl hone (fun e => by cases e) (by simp) hl5 hb5 ?_; intro v9 w9 hown hgrow hloc; have H9 : Hid (w9.ownsRow w.heap.size 57 11 v9 (V.take (i + 1)).length (rowS (V.take (i + 1))) ∧ Only [] w w9) := ⟨by rw [HS.out]; exact hown, HAL.out.grown hgrow (fun k hk => Or.inr (ownS_ge hown5 k hk))⟩; clear hown hgrow hloc hown5 hone hb5 hl5 HAL z0 z1 z2 z3 z4 z5 z6 z7 z8 z9 z10))
      go_roundg (V.length - (i + 1))
      case measure => have := HI.out.2; omega
      case rel => exact ⟨_, i + 1, rfl, by go_num, ⟨by omega, rfl⟩, H9⟩
    · have hil : ¬ (i : Int) < (V.length : Int) := by omega
      have HFN : Hid (wr.ownsRow w.heap.size 57 11 tv V.length (rowS V)) := by have h1 := HE.out.1; rwa [List.take_of_length_le (by omega)] at h1
      go_wp2_with fail
      exact bodyPost_ret (v := tv) (by simp [results, Tryd.results7, go_sem]) rfl ⟨tv, rfl, HFN.out, HE.out.2⟩
    end Go.Proofs.YticdkhijjlcacaaDoor
