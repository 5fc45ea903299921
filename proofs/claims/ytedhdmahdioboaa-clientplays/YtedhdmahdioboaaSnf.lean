/- gyreref.seen; the two closures of gyreref.Delta: whatever they are given. -/
import Derived.Test.YtedhdmahdioboaaSne
import Derived.Test.YtedhdmahdioboaaSu2
namespace Go.Proofs.Ytedhdmahdioboaa
open Go.ChangeShapes Go.WideShapes Go.ChangeAt Go.RowKit
set_option linter.unusedVariables false
set_option linter.unusedSimpArgs false

def findS (id : Int) : List Sn → Sn
  | [] => zs
  | s :: L => if s.id = id then s else findS id L
def hasS (id : Int) : List Sn → Bool
  | [] => false
  | s :: L => if s.id = id then true else hasS id L
theorem find_at (id : Int) : ∀ (L : List Sn) (i : Nat), i < L.length → (∀ j, j < i → (L.getD j zs).id ≠ id) → (L.getD i zs).id = id → findS id L = L.getD i zs ∧ hasS id L = true := by
  intro L
  induction L with
  | nil => intro i hi; simp at hi
  | cons s L ih =>
    intro i hi hn he
    cases i with
    | zero =>
      have e : s.id = id := he
      simp [findS, hasS, e]
    | succ i =>
      have h0 : s.id ≠ id := hn 0 (by omega)
      have := ih i (by simpa using hi) (fun j hj => hn (j + 1) (by omega)) he
      simpa [findS, hasS, h0] using this
theorem find_none (id : Int) : ∀ (L : List Sn), (∀ j, j < L.length → (L.getD j zs).id ≠ id) → findS id L = zs ∧ hasS id L = false := by
  intro L
  induction L with
  | nil => intro _; exact ⟨rfl, rfl⟩
  | cons s L ih =>
    intro hn
    have h0 : s.id ≠ id := hn 0 (by simp)
    have := ih (fun j hj => hn (j + 1) (by simpa using hj))
    simpa [findS, hasS, h0] using this
set_option maxRecDepth 100000 in
set_option maxHeartbeats 4000000 in
theorem refSeen_calls (L : List Sn) (id : Int) (v : Value) (w : World) (h : SvAt w v L) (hl : L.length ≤ 1000) :
    Calls Try.prog 44 #[v, .int .i64 id] w fun e w' => e = .returned (.tuple #[.agg #[.int .i64 ((findS id L).id), .int .i64 ((findS id L).kd), .int .i64 ((findS id L).sx), .int .i64 ((findS id L).sy), .int .i64 ((findS id L).sz), .int .i64 ((findS id L).ax), .int .i64 ((findS id L).ay), .int .i64 ((findS id L).az), .int .i64 ((findS id L).vx), .int .i64 ((findS id L).vy), .int .i64 ((findS id L).vz)], .bool (hasS id L)]) ∧ Only [] w w' := by
  obtain ⟨a, c, rfl, hc, hv⟩ := h
  have HB : Hid (SeenAt w a L.length (fun j => L.getD j zs) ∧ L.length ≤ 1000) := ⟨hv, hl⟩
  have HP : Hid (∀ q b, findS id L = q → hasS id L = b → Value.tuple #[.agg #[.int .i64 (q.id), .int .i64 (q.kd), .int .i64 (q.sx), .int .i64 (q.sy), .int .i64 (q.sz), .int .i64 (q.ax), .int .i64 (q.ay), .int .i64 (q.az), .int .i64 (q.vx), .int .i64 (q.vy), .int .i64 (q.vz)], .bool b] = Value.tuple #[.agg #[.int .i64 ((findS id L).id), .int .i64 ((findS id L).kd), .int .i64 ((findS id L).sx), .int .i64 ((findS id L).sy), .int .i64 ((findS id L).sz), .int .i64 ((findS id L).ax), .int .i64 ((findS id L).ay), .int .i64 ((findS id L).az), .int .i64 ((findS id L).vx), .int .i64 ((findS id L).vy), .int .i64 ((findS id L).vz)], .bool (hasS id L)]) := fun q b e1 e2 => by rw [e1, e2]
  clear hv hl
  go_enter Try.func44, Try.ntmps44
  go_upto_region 1 with fail
  have H0 : Hid (Only [] w (w.alloc (.cells #[.int .i64 0, .int .i64 0, .int .i64 0, .int .i64 0, .int .i64 0, .int .i64 0, .int .i64 0, .int .i64 0, .int .i64 0, .int .i64 0, .int .i64 0] 116)) ∧ SnAt 116 (w.alloc (.cells #[.int .i64 0, .int .i64 0, .int .i64 0, .int .i64 0, .int .i64 0, .int .i64 0, .int .i64 0, .int .i64 0, .int .i64 0, .int .i64 0, .int .i64 0] 116)) w.heap.size zs) := ⟨(Only.refl [] w).alloc _, SnAt.new _ w zs⟩
  revert H0
  generalize hk : w.heap.size = kr
  have HK : Hid (w.heap.size = kr) := hk
  clear hk
  generalize World.alloc w _ = w1
  intro H0
  go_wp2_with fail
  go_loopg [10] L.length (fun k idx wr => ∃ i : Nat, idx = .int .i64 (i : Int) ∧ Hid (i ≤ L.length ∧ k = L.length - i ∧ ∀ j, j < i → (L.getD j zs).id ≠ id) ∧ Hid (Only [] w wr ∧ SnAt 116 wr kr zs))
  case atStart => exact ⟨0, rfl, ⟨by omega, rfl, fun j hj => by omega⟩, H0⟩
  case round =>
    clear H0
    obtain ⟨i, rfl, H1, HO⟩ := hrel
    have hn := HB.out.2
    by_cases hi : i < L.length
    · have hil : (i : Int) < (L.length : Int) := by omega
      obtain ⟨g1, f1, ha1, hc1⟩ := (HB.out.1.only HO.out.1) i hi
      obtain ⟨u, hq⟩ : ∃ u, L.getD i zs = u := ⟨_, rfl⟩
      have HQ : Hid (L.getD i zs = u) := hq
      simp only [hq] at hc1
      clear hq
      subst ha1
      go_upto_region 4 with (first | (refine wpList_load_mid rfl 116 (.tmp 12) rfl g1 (f1 + i * 11) rfl [.int .i64 (u.id), .int .i64 (u.kd), .int .i64 (u.sx), .int .i64 (u.sy), .int .i64 (u.sz), .int .i64 (u.ax), .int .i64 (u.ay), .int .i64 (u.az), .int .i64 (u.vx), .int .i64 (u.vy), .int .i64 (u.vz)] _ (range11 hc1) Try.underlying116 rfl refSeenSize ?_))
      clear hc1
      have H9 : Hid (Only [] w (wr.alloc (.cells #[.int .i64 (u.id), .int .i64 (u.kd), .int .i64 (u.sx), .int .i64 (u.sy), .int .i64 (u.sz), .int .i64 (u.ax), .int .i64 (u.ay), .int .i64 (u.az), .int .i64 (u.vx), .int .i64 (u.vy), .int .i64 (u.vz)] 116)) ∧ SnAt 116 (wr.alloc (.cells #[.int .i64 (u.id), .int .i64 (u.kd), .int .i64 (u.sx), .int .i64 (u.sy), .int .i64 (u.sz), .int .i64 (u.ax), .int .i64 (u.ay), .int .i64 (u.az), .int .i64 (u.vx), .int .i64 (u.vy), .int .i64 (u.vz)] 116)) wr.heap.size u ∧ SnAt 116 (wr.alloc (.cells #[.int .i64 (u.id), .int .i64 (u.kd), .int .i64 (u.sx), .int .i64 (u.sy), .int .i64 (u.sz), .int .i64 (u.ax), .int .i64 (u.ay), .int .i64 (u.az), .int .i64 (u.vx), .int .i64 (u.vy), .int .i64 (u.vz)] 116)) kr zs ∧ wr.heap.size ≠ kr) := ⟨HO.out.1.alloc _, SnAt.new _ wr u, HO.out.2.only (D := []) ((Only.refl _ _).alloc _) (by simp), fun e => by have := HO.out.2.lt; omega⟩
      clear HO
      revert H9
      generalize wr.heap.size = ks
      generalize World.alloc wr _ = w9
      intro H9
      have x0 := H9.out.2.1.off 0
      have x1 := H9.out.2.1.off 1
      have x2 := H9.out.2.1.off 2
      have x3 := H9.out.2.1.off 3
      have x4 := H9.out.2.1.off 4
      have x5 := H9.out.2.1.off 5
      have x6 := H9.out.2.1.off 6
      have x7 := H9.out.2.1.off 7
      have x8 := H9.out.2.1.off 8
      have x9 := H9.out.2.1.off 9
      have x10 := H9.out.2.1.off 10
      simp only [zs, List.getElem?_toArray, List.getElem?_cons_succ, List.getElem?_cons_zero] at x0 x1 x2 x3 x4 x5 x6 x7 x8 x9 x10
      by_cases he : u.id = id
      · have hb : (u.id == id) = true := by simp [he]
        have HE : Hid (findS id L = u ∧ hasS id L = true) := by
          have := find_at id L i hi H1.out.2.2 (by rw [HQ.out]; exact he)
          rw [HQ.out] at this; exact this
        clear he
        have z0 := H9.out.2.2.1.off 0; have y0 := H9.out.2.2.1.free 0
        have z1 := H9.out.2.2.1.off 1; have y1 := H9.out.2.2.1.free 1
        have z2 := H9.out.2.2.1.off 2; have y2 := H9.out.2.2.1.free 2
        have z3 := H9.out.2.2.1.off 3; have y3 := H9.out.2.2.1.free 3
        have z4 := H9.out.2.2.1.off 4; have y4 := H9.out.2.2.1.free 4
        have z5 := H9.out.2.2.1.off 5; have y5 := H9.out.2.2.1.free 5
        have z6 := H9.out.2.2.1.off 6; have y6 := H9.out.2.2.1.free 6
        have z7 := H9.out.2.2.1.off 7; have y7 := H9.out.2.2.1.free 7
        have z8 := H9.out.2.2.1.off 8; have y8 := H9.out.2.2.1.free 8
        have z9 := H9.out.2.2.1.off 9; have y9 := H9.out.2.2.1.free 9
        have z10 := H9.out.2.2.1.off 10; have y10 := H9.out.2.2.1.free 10
        simp only [zs, List.getElem?_toArray, List.getElem?_cons_succ, List.getElem?_cons_zero] at z0 z1 z2 z3 z4 z5 z6 z7 z8 z9 z10
        have HF : Hid (Only [] w (((((((((((w9.setCell ⟨kr, 0, none⟩ (.int .i64 (u.id))).setCell ⟨kr, 1, none⟩ (.int .i64 (u.kd))).setCell ⟨kr, 2, none⟩ (.int .i64 (u.sx))).setCell ⟨kr, 3, none⟩ (.int .i64 (u.sy))).setCell ⟨kr, 4, none⟩ (.int .i64 (u.sz))).setCell ⟨kr, 5, none⟩ (.int .i64 (u.ax))).setCell ⟨kr, 6, none⟩ (.int .i64 (u.ay))).setCell ⟨kr, 7, none⟩ (.int .i64 (u.az))).setCell ⟨kr, 8, none⟩ (.int .i64 (u.vx))).setCell ⟨kr, 9, none⟩ (.int .i64 (u.vy))).setCell ⟨kr, 10, none⟩ (.int .i64 (u.vz))) ∧ SnAt 116 (((((((((((w9.setCell ⟨kr, 0, none⟩ (.int .i64 (u.id))).setCell ⟨kr, 1, none⟩ (.int .i64 (u.kd))).setCell ⟨kr, 2, none⟩ (.int .i64 (u.sx))).setCell ⟨kr, 3, none⟩ (.int .i64 (u.sy))).setCell ⟨kr, 4, none⟩ (.int .i64 (u.sz))).setCell ⟨kr, 5, none⟩ (.int .i64 (u.ax))).setCell ⟨kr, 6, none⟩ (.int .i64 (u.ay))).setCell ⟨kr, 7, none⟩ (.int .i64 (u.az))).setCell ⟨kr, 8, none⟩ (.int .i64 (u.vx))).setCell ⟨kr, 9, none⟩ (.int .i64 (u.vy))).setCell ⟨kr, 10, none⟩ (.int .i64 (u.vz))) kr u) := ⟨H9.out.1.then (E := [kr]) ((((((((((((Only.refl [kr] w9).setCell (p := ⟨kr, 0, none⟩) (Or.inl (by simp)) _).setCell (p := ⟨kr, 1, none⟩) (Or.inl (by simp)) _).setCell (p := ⟨kr, 2, none⟩) (Or.inl (by simp)) _).setCell (p := ⟨kr, 3, none⟩) (Or.inl (by simp)) _).setCell (p := ⟨kr, 4, none⟩) (Or.inl (by simp)) _).setCell (p := ⟨kr, 5, none⟩) (Or.inl (by simp)) _).setCell (p := ⟨kr, 6, none⟩) (Or.inl (by simp)) _).setCell (p := ⟨kr, 7, none⟩) (Or.inl (by simp)) _).setCell (p := ⟨kr, 8, none⟩) (Or.inl (by simp)) _).setCell (p := ⟨kr, 9, none⟩) (Or.inl (by simp)) _).setCell (p := ⟨kr, 10, none⟩) (Or.inl (by simp)) _) (fun y hy => by simp only [List.mem_singleton] at hy; right; rw [hy, HK.out]; exact Nat.le_refl _), sn_put H9.out.2.2.1 u⟩
        go_wp2_with fail
        generalize (((((((((((w9.setCell ⟨kr, 0, none⟩ (.int .i64 (u.id))).setCell ⟨kr, 1, none⟩ (.int .i64 (u.kd))).setCell ⟨kr, 2, none⟩ (.int .i64 (u.sx))).setCell ⟨kr, 3, none⟩ (.int .i64 (u.sy))).setCell ⟨kr, 4, none⟩ (.int .i64 (u.sz))).setCell ⟨kr, 5, none⟩ (.int .i64 (u.ax))).setCell ⟨kr, 6, none⟩ (.int .i64 (u.ay))).setCell ⟨kr, 7, none⟩ (.int .i64 (u.az))).setCell ⟨kr, 8, none⟩ (.int .i64 (u.vx))).setCell ⟨kr, 9, none⟩ (.int .i64 (u.vy))).setCell ⟨kr, 10, none⟩ (.int .i64 (u.vz))) = w5 at HF ⊢
        clear z0 y0 z1 y1 z2 y2 z3 y3 z4 y4 z5 y5 z6 y6 z7 y7 z8 y8 z9 y9 z10 y10
        have z0 := HF.out.2.off 0
        have z1 := HF.out.2.off 1
        have z2 := HF.out.2.off 2
        have z3 := HF.out.2.off 3
        have z4 := HF.out.2.off 4
        have z5 := HF.out.2.off 5
        have z6 := HF.out.2.off 6
        have z7 := HF.out.2.off 7
        have z8 := HF.out.2.off 8
        have z9 := HF.out.2.off 9
        have z10 := HF.out.2.off 10
        simp only [zs, List.getElem?_toArray, List.getElem?_cons_succ, List.getElem?_cons_zero] at z0 z1 z2 z3 z4 z5 z6 z7 z8 z9 z10
        exact bodyPost_ret (v := .tuple #[.agg #[.int .i64 (u.id), .int .i64 (u.kd), .int .i64 (u.sx), .int .i64 (u.sy), .int .i64 (u.sz), .int .i64 (u.ax), .int .i64 (u.ay), .int .i64 (u.az), .int .i64 (u.vx), .int .i64 (u.vy), .int .i64 (u.vz)], .bool true]) (by simp [results, Try.results44, go_sem, z0, z1, z2, z3, z4, z5, z6, z7, z8, z9, z10]) rfl ⟨congrArg Ending.returned (HP.out u true HE.out.1 HE.out.2), HF.out.1⟩
      · have hb : (u.id == id) = false := by simp [he]
        have HE : Hid (u.id ≠ id) := he
        clear he
        go_wp2_with fail
        go_roundg (L.length - (i + 1))
        case measure => have := H1.out.2.1; omega
        case rel => exact ⟨i + 1, by go_num, ⟨by omega, rfl, fun j hj => by
          by_cases e : j = i
          · rw [e, HQ.out]; exact HE.out
          · exact H1.out.2.2 j (by omega)⟩, H9.out.1, H9.out.2.2.1⟩
    · have hil : ¬ (i : Int) < (L.length : Int) := by omega
      have HE : Hid (findS id L = zs ∧ hasS id L = false) := find_none id L (fun j hj => H1.out.2.2 j (by omega))
      have z0 := HO.out.2.off 0; have y0 := HO.out.2.free 0
      have z1 := HO.out.2.off 1; have y1 := HO.out.2.free 1
      have z2 := HO.out.2.off 2; have y2 := HO.out.2.free 2
      have z3 := HO.out.2.off 3; have y3 := HO.out.2.free 3
      have z4 := HO.out.2.off 4; have y4 := HO.out.2.free 4
      have z5 := HO.out.2.off 5; have y5 := HO.out.2.free 5
      have z6 := HO.out.2.off 6; have y6 := HO.out.2.free 6
      have z7 := HO.out.2.off 7; have y7 := HO.out.2.free 7
      have z8 := HO.out.2.off 8; have y8 := HO.out.2.free 8
      have z9 := HO.out.2.off 9; have y9 := HO.out.2.free 9
      have z10 := HO.out.2.off 10; have y10 := HO.out.2.free 10
      simp only [zs, List.getElem?_toArray, List.getElem?_cons_succ, List.getElem?_cons_zero] at z0 z1 z2 z3 z4 z5 z6 z7 z8 z9 z10
      have HF : Hid (Only [] w (((((((((((wr.setCell ⟨kr, 0, none⟩ (.int .i64 0)).setCell ⟨kr, 1, none⟩ (.int .i64 0)).setCell ⟨kr, 2, none⟩ (.int .i64 0)).setCell ⟨kr, 3, none⟩ (.int .i64 0)).setCell ⟨kr, 4, none⟩ (.int .i64 0)).setCell ⟨kr, 5, none⟩ (.int .i64 0)).setCell ⟨kr, 6, none⟩ (.int .i64 0)).setCell ⟨kr, 7, none⟩ (.int .i64 0)).setCell ⟨kr, 8, none⟩ (.int .i64 0)).setCell ⟨kr, 9, none⟩ (.int .i64 0)).setCell ⟨kr, 10, none⟩ (.int .i64 0)) ∧ SnAt 116 (((((((((((wr.setCell ⟨kr, 0, none⟩ (.int .i64 0)).setCell ⟨kr, 1, none⟩ (.int .i64 0)).setCell ⟨kr, 2, none⟩ (.int .i64 0)).setCell ⟨kr, 3, none⟩ (.int .i64 0)).setCell ⟨kr, 4, none⟩ (.int .i64 0)).setCell ⟨kr, 5, none⟩ (.int .i64 0)).setCell ⟨kr, 6, none⟩ (.int .i64 0)).setCell ⟨kr, 7, none⟩ (.int .i64 0)).setCell ⟨kr, 8, none⟩ (.int .i64 0)).setCell ⟨kr, 9, none⟩ (.int .i64 0)).setCell ⟨kr, 10, none⟩ (.int .i64 0)) kr zs) := ⟨HO.out.1.then (E := [kr]) ((((((((((((Only.refl [kr] wr).setCell (p := ⟨kr, 0, none⟩) (Or.inl (by simp)) _).setCell (p := ⟨kr, 1, none⟩) (Or.inl (by simp)) _).setCell (p := ⟨kr, 2, none⟩) (Or.inl (by simp)) _).setCell (p := ⟨kr, 3, none⟩) (Or.inl (by simp)) _).setCell (p := ⟨kr, 4, none⟩) (Or.inl (by simp)) _).setCell (p := ⟨kr, 5, none⟩) (Or.inl (by simp)) _).setCell (p := ⟨kr, 6, none⟩) (Or.inl (by simp)) _).setCell (p := ⟨kr, 7, none⟩) (Or.inl (by simp)) _).setCell (p := ⟨kr, 8, none⟩) (Or.inl (by simp)) _).setCell (p := ⟨kr, 9, none⟩) (Or.inl (by simp)) _).setCell (p := ⟨kr, 10, none⟩) (Or.inl (by simp)) _) (fun y hy => by simp only [List.mem_singleton] at hy; right; rw [hy, HK.out]; exact Nat.le_refl _), sn_put HO.out.2 zs⟩
      go_wp2_with fail
      generalize (((((((((((wr.setCell ⟨kr, 0, none⟩ (.int .i64 0)).setCell ⟨kr, 1, none⟩ (.int .i64 0)).setCell ⟨kr, 2, none⟩ (.int .i64 0)).setCell ⟨kr, 3, none⟩ (.int .i64 0)).setCell ⟨kr, 4, none⟩ (.int .i64 0)).setCell ⟨kr, 5, none⟩ (.int .i64 0)).setCell ⟨kr, 6, none⟩ (.int .i64 0)).setCell ⟨kr, 7, none⟩ (.int .i64 0)).setCell ⟨kr, 8, none⟩ (.int .i64 0)).setCell ⟨kr, 9, none⟩ (.int .i64 0)).setCell ⟨kr, 10, none⟩ (.int .i64 0)) = w5 at HF ⊢
      clear z0 y0 z1 y1 z2 y2 z3 y3 z4 y4 z5 y5 z6 y6 z7 y7 z8 y8 z9 y9 z10 y10
      have z0 := HF.out.2.off 0
      have z1 := HF.out.2.off 1
      have z2 := HF.out.2.off 2
      have z3 := HF.out.2.off 3
      have z4 := HF.out.2.off 4
      have z5 := HF.out.2.off 5
      have z6 := HF.out.2.off 6
      have z7 := HF.out.2.off 7
      have z8 := HF.out.2.off 8
      have z9 := HF.out.2.off 9
      have z10 := HF.out.2.off 10
      simp only [zs, List.getElem?_toArray, List.getElem?_cons_succ, List.getElem?_cons_zero] at z0 z1 z2 z3 z4 z5 z6 z7 z8 z9 z10
      exact bodyPost_ret (v := .tuple #[.agg #[.int .i64 0, .int .i64 0, .int .i64 0, .int .i64 0, .int .i64 0, .int .i64 0, .int .i64 0, .int .i64 0, .int .i64 0, .int .i64 0, .int .i64 0], .bool false]) (by simp [results, Try.results44, go_sem, z0, z1, z2, z3, z4, z5, z6, z7, z8, z9, z10]) rfl ⟨congrArg Ending.returned (HP.out zs false HE.out.1 HE.out.2), HF.out.1⟩
end Go.Proofs.Ytedhdmahdioboaa
