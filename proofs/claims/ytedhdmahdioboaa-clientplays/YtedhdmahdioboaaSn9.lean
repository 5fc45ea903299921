/- (*snap.writer).change: whatever was, and is. -/
import Derived.Test.YtedhdmahdioboaaSn8
namespace Go.Proofs.Ytedhdmahdioboaa
open Go.ChangeShapes Go.WideShapes Go.ChangeAt Go.RowKit
set_option linter.unusedVariables false
set_option linter.unusedSimpArgs false

/-- One that was, or is, or none. -/
structure Ok1 (last : Int) (s : Sn) : Prop where
  good : Good s
  none_ : s.id = 0 → s = zs
  some_ : s.id ≠ 0 → last < s.id ∧ s.id ≤ 1099511627776
set_option maxRecDepth 100000 in
set_option maxHeartbeats 4000000 in
theorem change_calls (x : Nat) (T : List Nat) (last : Int) (u v : Sn) (w : World) (h : SW w x T last) (h0 : 0 ≤ last) (hu : Ok1 last u) (hv : Ok1 last v) :
    Calls Try.prog 148 #[.pointer (some ⟨x, 0, none⟩), .agg #[.int .i64 (u.id), .int .i64 (u.kd), .int .i64 (u.sx), .int .i64 (u.sy), .int .i64 (u.sz), .int .i64 (u.ax), .int .i64 (u.ay), .int .i64 (u.az), .int .i64 (u.vx), .int .i64 (u.vy), .int .i64 (u.vz)], .agg #[.int .i64 (v.id), .int .i64 (v.kd), .int .i64 (v.sx), .int .i64 (v.sy), .int .i64 (v.sz), .int .i64 (v.ax), .int .i64 (v.ay), .int .i64 (v.az), .int .i64 (v.vx), .int .i64 (v.vy), .int .i64 (v.vz)]] w fun e w' => e = .returned (.tuple #[]) ∧ SW w' x (T ++ chgB last u v) (chgL last u v) ∧ Only [x] w w' := by
  have HG : Hid (Ok1 last u ∧ Ok1 last v ∧ 0 ≤ last) := ⟨hu, hv, h0⟩
  have HW : Hid (SW w x T last) := h
  have HT : Hid (∀ X la, X = chgB last u v → la = chgL last u v → ∀ w', SW w' x (T ++ X) la → SW w' x (T ++ chgB last u v) (chgL last u v)) := fun X la e e2 w' h => e ▸ e2 ▸ h
  clear h hu hv h0
  go_enter Try.func148, Try.ntmps148
  go_upto_region 5 with fail
  have H0 : Hid (PtS w x w.heap.size (w.heap.size + 1) T last u v ((w.alloc (.cells #[.int .i64 (u.id), .int .i64 (u.kd), .int .i64 (u.sx), .int .i64 (u.sy), .int .i64 (u.sz), .int .i64 (u.ax), .int .i64 (u.ay), .int .i64 (u.az), .int .i64 (u.vx), .int .i64 (u.vy), .int .i64 (u.vz)] 120)).alloc (.cells #[.int .i64 (v.id), .int .i64 (v.kd), .int .i64 (v.sx), .int .i64 (v.sy), .int .i64 (v.sz), .int .i64 (v.ax), .int .i64 (v.ay), .int .i64 (v.az), .int .i64 (v.vx), .int .i64 (v.vy), .int .i64 (v.vz)] 120))) := by
    have hx := HW.out.lt
    have o : Only [x] w ((w.alloc (.cells #[.int .i64 (u.id), .int .i64 (u.kd), .int .i64 (u.sx), .int .i64 (u.sy), .int .i64 (u.sz), .int .i64 (u.ax), .int .i64 (u.ay), .int .i64 (u.az), .int .i64 (u.vx), .int .i64 (u.vy), .int .i64 (u.vz)] 120)).alloc (.cells #[.int .i64 (v.id), .int .i64 (v.kd), .int .i64 (v.sx), .int .i64 (v.sy), .int .i64 (v.sz), .int .i64 (v.ax), .int .i64 (v.ay), .int .i64 (v.az), .int .i64 (v.vx), .int .i64 (v.vy), .int .i64 (v.vz)] 120)) := ((Only.refl [x] w).alloc _).alloc _
    refine ⟨HW.out.only (D := []) (((Only.refl _ _).alloc _).alloc _) (by simp), (SnAt.new _ w u).only (D := []) ((Only.refl _ _).alloc _) (by simp), ?_, o, by omega, by omega⟩
    have := SnAt.new 120 (w.alloc (.cells #[.int .i64 (u.id), .int .i64 (u.kd), .int .i64 (u.sx), .int .i64 (u.sy), .int .i64 (u.sz), .int .i64 (u.ax), .int .i64 (u.ay), .int .i64 (u.az), .int .i64 (u.vx), .int .i64 (u.vy), .int .i64 (u.vz)] 120)) v
    simpa using this
  clear HW
  revert H0
  generalize w.heap.size + 1 = kv
  generalize w.heap.size = ku
  generalize World.alloc (World.alloc w _) _ = w0
  intro H0
  have e0 := H0.out.au.off 0; have g0 := H0.out.av.off 0
  have e1 := H0.out.au.off 1; have g1 := H0.out.av.off 1
  have e2 := H0.out.au.off 2; have g2 := H0.out.av.off 2
  have e3 := H0.out.au.off 3; have g3 := H0.out.av.off 3
  have e4 := H0.out.au.off 4; have g4 := H0.out.av.off 4
  have e5 := H0.out.au.off 5; have g5 := H0.out.av.off 5
  have e6 := H0.out.au.off 6; have g6 := H0.out.av.off 6
  have e7 := H0.out.au.off 7; have g7 := H0.out.av.off 7
  have e8 := H0.out.au.off 8; have g8 := H0.out.av.off 8
  have e9 := H0.out.au.off 9; have g9 := H0.out.av.off 9
  have e10 := H0.out.au.off 10; have g10 := H0.out.av.off 10
  simp only [List.getElem?_toArray, List.getElem?_cons_succ, List.getElem?_cons_zero] at e0 g0 e1 g1 e2 g2 e3 g3 e4 g4 e5 g5 e6 g6 e7 g7 e8 g8 e9 g9 e10 g10
  cases hq : eqS u v with
  | true =>
    have HE : Hid (chgB last u v = [] ∧ chgL last u v = last) := by unfold chgB chgL; rw [hq]; exact ⟨rfl, rfl⟩
    go_wp2_with (first | (refine wpList_eqS _ hq rfl (.tmp 27) (.tmp 28) rfl rfl rfl ?_))
    refine bodyPost_end (results_none rfl _ _ _) rfl ?_
    exact ⟨rfl, HT.out [] last HE.out.1.symm HE.out.2.symm _ (by rw [List.append_nil]; exact H0.out.sw), H0.out.only⟩
  | false =>
    by_cases hv0 : v.id = 0
    · have HE : Hid (chgB last u v = wordB 0 last u.id ∧ chgL last u v = u.id) := by show chgB last u v = _ ∧ chgL last u v = _; unfold chgB chgL; rw [hq]; simp [hv0]
      have HU : Hid (u.id ≠ 0) := fun e => by
        have e1 := HG.out.1.none_ e
        have e2 := HG.out.2.1.none_ hv0
        rw [e1, e2, (eqS_iff zs zs).2 rfl] at hq
        cases hq
      have b0 : (v.id == 0) = true := by simp [hv0]
      clear hv0
      go_wp2_with (first | (refine wpList_eqS _ hq rfl (.tmp 27) (.tmp 28) rfl rfl rfl ?_))
      refine (word_calls x T last u.id 0 _ H0.out.sw (by omega) HG.out.2.2 (HG.out.1.some_ HU.out).1 (HG.out.1.some_ HU.out).2).mono ?_
      rintro e w1 ⟨rfl, hs, o⟩
      go_wp2_with fail
      refine bodyPost_end (results_none rfl _ _ _) rfl ?_
      exact ⟨rfl, HT.out _ _ HE.out.1.symm HE.out.2.symm _ hs, H0.out.only.trans o⟩
    · have b0 : (v.id == 0) = false := by simp [hv0]
      have HV : Hid (v.id ≠ 0) := hv0
      clear hv0
      by_cases hu0 : u.id = 0
      · have HE : Hid (chgB last u v = wordB 1 last v.id ++ partsB true true true u v ∧ chgL last u v = v.id) := by show chgB last u v = _ ∧ chgL last u v = _; unfold chgB chgL; rw [hq]; simp [hu0, HV.out]
        have b1 : (u.id == 0) = true := by simp [hu0]
        clear hu0
        go_wp2_with (first | (refine wpList_eqS _ hq rfl (.tmp 27) (.tmp 28) rfl rfl rfl ?_))
        refine (word_calls x T last v.id 1 _ H0.out.sw (by omega) HG.out.2.2 (HG.out.2.1.some_ HV.out).1 (HG.out.2.1.some_ HV.out).2).mono ?_
        rintro e w1 ⟨rfl, hs, o⟩
        have H1 : Hid (SW w1 x (T ++ wordB 1 last v.id) v.id ∧ SnAt 120 w1 ku u ∧ SnAt 120 w1 kv v ∧ Only [x] w w1) := ⟨hs, H0.out.au.only o (by simp only [List.mem_singleton]; exact H0.out.nu), H0.out.av.only o (by simp only [List.mem_singleton]; exact H0.out.nv), H0.out.only.trans o⟩
        clear hs o H0
        clear e0 g0 e1 g1 e2 g2 e3 g3 e4 g4 e5 g5 e6 g6 e7 g7 e8 g8 e9 g9 e10 g10
        have e0 := H1.out.2.1.off 0; have g0 := H1.out.2.2.1.off 0
        have e1 := H1.out.2.1.off 1; have g1 := H1.out.2.2.1.off 1
        have e2 := H1.out.2.1.off 2; have g2 := H1.out.2.2.1.off 2
        have e3 := H1.out.2.1.off 3; have g3 := H1.out.2.2.1.off 3
        have e4 := H1.out.2.1.off 4; have g4 := H1.out.2.2.1.off 4
        have e5 := H1.out.2.1.off 5; have g5 := H1.out.2.2.1.off 5
        have e6 := H1.out.2.1.off 6; have g6 := H1.out.2.2.1.off 6
        have e7 := H1.out.2.1.off 7; have g7 := H1.out.2.2.1.off 7
        have e8 := H1.out.2.1.off 8; have g8 := H1.out.2.2.1.off 8
        have e9 := H1.out.2.1.off 9; have g9 := H1.out.2.2.1.off 9
        have e10 := H1.out.2.1.off 10; have g10 := H1.out.2.2.1.off 10
        simp only [List.getElem?_toArray, List.getElem?_cons_succ, List.getElem?_cons_zero] at e0 g0 e1 g1 e2 g2 e3 g3 e4 g4 e5 g5 e6 g6 e7 g7 e8 g8 e9 g9 e10 g10
        go_wp2_with fail
        refine (parts_calls x _ v.id true true true u v _ H1.out.1 HG.out.1.good HG.out.2.1.good).mono ?_
        rintro e w2 ⟨rfl, hs, o⟩
        go_wp2_with fail
        refine bodyPost_end (results_none rfl _ _ _) rfl ?_
        exact ⟨rfl, HT.out _ _ HE.out.1.symm HE.out.2.symm _ (by rw [← List.append_assoc]; exact hs), H1.out.2.2.2.trans o⟩
      · have HE : Hid (chgB last u v = wordB 2 last v.id ++ putB (pN (d4 u v) (d2 u v) (d1 u v)).toNat 3 ++ partsB (d4 u v) (d2 u v) (d1 u v) u v ∧ chgL last u v = v.id) := by show chgB last u v = _ ∧ chgL last u v = _; unfold chgB chgL; rw [hq]; simp [hu0, HV.out]
        have b1 : (u.id == 0) = false := by simp [hu0]
        clear hu0
        go_wp2_with (first | (refine wpList_eqS _ hq rfl (.tmp 27) (.tmp 28) rfl rfl rfl ?_))
        refine (differing_calls u v _).mono ?_
        rintro e w1 ⟨rfl, o⟩
        have HD := H0.out.keep o
        have H1 : Hid (PtS w x ku kv T last u v w1) := HD
        clear HD o H0
        clear e0 g0 e1 g1 e2 g2 e3 g3 e4 g4 e5 g5 e6 g6 e7 g7 e8 g8 e9 g9 e10 g10
        have e0 := H1.out.au.off 0; have g0 := H1.out.av.off 0
        have e1 := H1.out.au.off 1; have g1 := H1.out.av.off 1
        have e2 := H1.out.au.off 2; have g2 := H1.out.av.off 2
        have e3 := H1.out.au.off 3; have g3 := H1.out.av.off 3
        have e4 := H1.out.au.off 4; have g4 := H1.out.av.off 4
        have e5 := H1.out.au.off 5; have g5 := H1.out.av.off 5
        have e6 := H1.out.au.off 6; have g6 := H1.out.av.off 6
        have e7 := H1.out.au.off 7; have g7 := H1.out.av.off 7
        have e8 := H1.out.au.off 8; have g8 := H1.out.av.off 8
        have e9 := H1.out.au.off 9; have g9 := H1.out.av.off 9
        have e10 := H1.out.au.off 10; have g10 := H1.out.av.off 10
        simp only [List.getElem?_toArray, List.getElem?_cons_succ, List.getElem?_cons_zero] at e0 g0 e1 g1 e2 g2 e3 g3 e4 g4 e5 g5 e6 g6 e7 g7 e8 g8 e9 g9 e10 g10
        go_wp2_with fail
        refine (word_calls x T last v.id 2 _ H1.out.sw (by omega) HG.out.2.2 (HG.out.2.1.some_ HV.out).1 (HG.out.2.1.some_ HV.out).2).mono ?_
        rintro e w2 ⟨rfl, hs, o⟩
        have H2 : Hid (SW w2 x (T ++ wordB 2 last v.id) v.id ∧ SnAt 120 w2 ku u ∧ SnAt 120 w2 kv v ∧ Only [x] w w2) := ⟨hs, H1.out.au.only o (by simp only [List.mem_singleton]; exact H1.out.nu), H1.out.av.only o (by simp only [List.mem_singleton]; exact H1.out.nv), H1.out.only.trans o⟩
        have HN : Hid (ku ≠ x ∧ kv ≠ x) := ⟨H1.out.nu, H1.out.nv⟩
        have HP : Hid (¬ badPut (pN (d4 u v) (d2 u v) (d1 u v)) 3) := by
          have e8 : (2 : Int) ^ (3 : Int).toNat = 8 := rfl
          show ¬ badPut _ 3
          unfold badPut
          rw [e8]
          cases d4 u v <;> cases d2 u v <;> cases d1 u v <;> simp [pN]
        clear hs o H1
        clear e0 g0 e1 g1 e2 g2 e3 g3 e4 g4 e5 g5 e6 g6 e7 g7 e8 g8 e9 g9 e10 g10
        go_wp2_with fail
        refine (putS_calls x _ v.id _ 3 _ H2.out.1 HP.out).mono ?_
        rintro e w3 ⟨v3, rfl, hm, o3⟩
        go_wp2_with fail
        refine (keepS_calls x _ v.id v3 _ hm).mono ?_
        rintro e w4 ⟨rfl, hs, o4⟩
        have o34 := o3.trans o4
        have H4 : Hid (SW w4 x (T ++ wordB 2 last v.id ++ putB (pN (d4 u v) (d2 u v) (d1 u v)).toNat 3) v.id ∧ SnAt 120 w4 ku u ∧ SnAt 120 w4 kv v ∧ Only [x] w w4) := ⟨hs, H2.out.2.1.only o34 (by simp only [List.mem_singleton]; exact HN.out.1), H2.out.2.2.1.only o34 (by simp only [List.mem_singleton]; exact HN.out.2), H2.out.2.2.2.trans o34⟩
        clear hs o34 o3 o4 hm H2
        have e0 := H4.out.2.1.off 0; have g0 := H4.out.2.2.1.off 0
        have e1 := H4.out.2.1.off 1; have g1 := H4.out.2.2.1.off 1
        have e2 := H4.out.2.1.off 2; have g2 := H4.out.2.2.1.off 2
        have e3 := H4.out.2.1.off 3; have g3 := H4.out.2.2.1.off 3
        have e4 := H4.out.2.1.off 4; have g4 := H4.out.2.2.1.off 4
        have e5 := H4.out.2.1.off 5; have g5 := H4.out.2.2.1.off 5
        have e6 := H4.out.2.1.off 6; have g6 := H4.out.2.2.1.off 6
        have e7 := H4.out.2.1.off 7; have g7 := H4.out.2.2.1.off 7
        have e8 := H4.out.2.1.off 8; have g8 := H4.out.2.2.1.off 8
        have e9 := H4.out.2.1.off 9; have g9 := H4.out.2.2.1.off 9
        have e10 := H4.out.2.1.off 10; have g10 := H4.out.2.2.1.off 10
        simp only [List.getElem?_toArray, List.getElem?_cons_succ, List.getElem?_cons_zero] at e0 g0 e1 g1 e2 g2 e3 g3 e4 g4 e5 g5 e6 g6 e7 g7 e8 g8 e9 g9 e10 g10
        go_wp2_with fail
        refine (parts_calls x _ v.id (d4 u v) (d2 u v) (d1 u v) u v _ H4.out.1 HG.out.1.good HG.out.2.1.good).mono ?_
        rintro e w5 ⟨rfl, hs, o⟩
        go_wp2_with fail
        refine bodyPost_end (results_none rfl _ _ _) rfl ?_
        exact ⟨rfl, HT.out _ _ HE.out.1.symm HE.out.2.symm _ (by rw [← List.append_assoc, ← List.append_assoc]; exact hs), H4.out.2.2.2.trans o⟩
end Go.Proofs.Ytedhdmahdioboaa
