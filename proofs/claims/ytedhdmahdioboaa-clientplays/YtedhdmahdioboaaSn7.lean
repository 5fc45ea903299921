/- (*snap.writer).parts and change: whatever they are given. -/
import Derived.Test.YtedhdmahdioboaaSn6
namespace Go.Proofs.Ytedhdmahdioboaa
open Go.ChangeShapes Go.WideShapes Go.ChangeAt Go.RowKit
set_option linter.unusedVariables false
set_option linter.unusedSimpArgs false

/-- All numbers of a seen one may be. -/
structure Good (s : Sn) : Prop where
  kd : 0 ≤ s.kd ∧ s.kd ≤ 7
  far : ∀ m, m < 9 → farB (fld s m) = true
theorem Good.s3 {s : Sn} (h : Good s) : farB s.sx = true ∧ farB s.sy = true ∧ farB s.sz = true := ⟨h.far 0 (by omega), h.far 1 (by omega), h.far 2 (by omega)⟩
theorem Good.a3 {s : Sn} (h : Good s) : farB s.ax = true ∧ farB s.ay = true ∧ farB s.az = true := ⟨h.far 3 (by omega), h.far 4 (by omega), h.far 5 (by omega)⟩
theorem Good.v3 {s : Sn} (h : Good s) : farB s.vx = true ∧ farB s.vy = true ∧ farB s.vz = true := ⟨h.far 6 (by omega), h.far 7 (by omega), h.far 8 (by omega)⟩
theorem not_badInt {a b : Int} (h : farB a = true) (k : farB b = true) : ¬ badInt (a - b) := by
  simp only [farB, Bool.not_eq_true', Bool.or_eq_false_iff, decide_eq_false_iff_not] at h k
  unfold badInt; omega
def p4B (u v : Sn) : List Nat := putB v.kd.toNat 3 ++ vecB (v.sx - u.sx) (v.sy - u.sy) (v.sz - u.sz)
def p2B (u v : Sn) : List Nat := vecB (v.ax - u.ax) (v.ay - u.ay) (v.az - u.az)
def p1B (u v : Sn) : List Nat := vecB (v.vx - u.vx) (v.vy - u.vy) (v.vz - u.vz)
def partsB (a b c : Bool) (u v : Sn) : List Nat := (if a then p4B u v else []) ++ (if b then p2B u v else []) ++ (if c then p1B u v else [])
structure PtS (w : World) (x ku kv : Nat) (T : List Nat) (last : Int) (u v : Sn) (wr : World) : Prop where
  sw : SW wr x T last
  au : SnAt 120 wr ku u
  av : SnAt 120 wr kv v
  only : Only [x] w wr
  nu : ku ≠ x
  nv : kv ≠ x
theorem PtS.step {w : World} {x ku kv : Nat} {T T' : List Nat} {last : Int} {u v : Sn} {wr w' : World} (h : PtS w x ku kv T last u v wr) (hs : SW w' x T' last) (o : Only [x] wr w') : PtS w x ku kv T' last u v w' :=
  ⟨hs, h.au.only o (by simp only [List.mem_singleton]; exact h.nu), h.av.only o (by simp only [List.mem_singleton]; exact h.nv), h.only.trans o, h.nu, h.nv⟩
theorem PtS.keep {w : World} {x ku kv : Nat} {T : List Nat} {last : Int} {u v : Sn} {wr w' : World} (h : PtS w x ku kv T last u v wr) (o : Only [] wr w') : PtS w x ku kv T last u v w' :=
  ⟨h.sw.only o (by simp), h.au.only o (by simp), h.av.only o (by simp), h.only.then o (by simp), h.nu, h.nv⟩
set_option maxRecDepth 100000 in
set_option maxHeartbeats 4000000 in
theorem parts_calls (x : Nat) (T : List Nat) (last : Int) (a b c : Bool) (u v : Sn) (w : World) (h : SW w x T last) (hu : Good u) (hv : Good v) :
    Calls Try.prog 159 #[.pointer (some ⟨x, 0, none⟩), .int .i64 (pN a b c), .agg #[.int .i64 (u.id), .int .i64 (u.kd), .int .i64 (u.sx), .int .i64 (u.sy), .int .i64 (u.sz), .int .i64 (u.ax), .int .i64 (u.ay), .int .i64 (u.az), .int .i64 (u.vx), .int .i64 (u.vy), .int .i64 (u.vz)], .agg #[.int .i64 (v.id), .int .i64 (v.kd), .int .i64 (v.sx), .int .i64 (v.sy), .int .i64 (v.sz), .int .i64 (v.ax), .int .i64 (v.ay), .int .i64 (v.az), .int .i64 (v.vx), .int .i64 (v.vy), .int .i64 (v.vz)]] w fun e w' => e = .returned (.tuple #[]) ∧ SW w' x (T ++ partsB a b c u v) last ∧ Only [x] w w' := by
  have HG : Hid (Good u ∧ Good v) := ⟨hu, hv⟩
  have HW : Hid (SW w x T last) := h
  have HT : Hid (∀ X, X = T ++ partsB a b c u v → ∀ w', SW w' x X last → SW w' x (T ++ partsB a b c u v) last) := fun X e w' h => e ▸ h
  have n4 : (Go.bits .and .i64 (pN a b c) 4 != 0) = a := by cases a <;> cases b <;> cases c <;> rfl
  have n2 : (Go.bits .and .i64 (pN a b c) 2 != 0) = b := by cases a <;> cases b <;> cases c <;> rfl
  have n1 : (Go.bits .and .i64 (pN a b c) 1 != 0) = c := by cases a <;> cases b <;> cases c <;> rfl
  clear h hu hv
  generalize pN a b c = p at n4 n2 n1 ⊢
  go_enter Try.func159, Try.ntmps159
  go_upto_region 1 with fail
  have H0 : Hid (PtS w x w.heap.size (w.heap.size + 1) T last u v ((w.alloc (.cells #[.int .i64 (u.id), .int .i64 (u.kd), .int .i64 (u.sx), .int .i64 (u.sy), .int .i64 (u.sz), .int .i64 (u.ax), .int .i64 (u.ay), .int .i64 (u.az), .int .i64 (u.vx), .int .i64 (u.vy), .int .i64 (u.vz)] 120)).alloc (.cells #[.int .i64 (v.id), .int .i64 (v.kd), .int .i64 (v.sx), .int .i64 (v.sy), .int .i64 (v.sz), .int .i64 (v.ax), .int .i64 (v.ay), .int .i64 (v.az), .int .i64 (v.vx), .int .i64 (v.vy), .int .i64 (v.vz)] 120))) := by
    have hx := HW.out.lt
    have o : Only [x] w ((w.alloc (.cells #[.int .i64 (u.id), .int .i64 (u.kd), .int .i64 (u.sx), .int .i64 (u.sy), .int .i64 (u.sz), .int .i64 (u.ax), .int .i64 (u.ay), .int .i64 (u.az), .int .i64 (u.vx), .int .i64 (u.vy), .int .i64 (u.vz)] 120)).alloc (.cells #[.int .i64 (v.id), .int .i64 (v.kd), .int .i64 (v.sx), .int .i64 (v.sy), .int .i64 (v.sz), .int .i64 (v.ax), .int .i64 (v.ay), .int .i64 (v.az), .int .i64 (v.vx), .int .i64 (v.vy), .int .i64 (v.vz)] 120)) := ((Only.refl [x] w).alloc _).alloc _
    refine ⟨HW.out.only (D := []) (((Only.refl _ _).alloc _).alloc _) (by simp), (SnAt.new _ w u).only (D := []) ((Only.refl _ _).alloc _) (by simp), ?_, o, by omega, by omega⟩
    have := SnAt.new 120 (w.alloc (.cells #[.int .i64 (u.id), .int .i64 (u.kd), .int .i64 (u.sx), .int .i64 (u.sy), .int .i64 (u.sz), .int .i64 (u.ax), .int .i64 (u.ay), .int .i64 (u.az), .int .i64 (u.vx), .int .i64 (u.vy), .int .i64 (u.vz)] 120)) v
    simpa using this
  clear HW
  revert H0
  generalize w.heap.size + 1 = kv
  generalize w.heap.size = ku
  generalize World.alloc (World.alloc w _) _ = w0
  intro H0
  cases a with
  | true =>
    go_upto_region 2 with fail
    have e1 := H0.out.av.off 1
    simp only [List.getElem?_toArray, List.getElem?_cons_succ, List.getElem?_cons_zero] at e1
    have HP : Hid (¬ badPut v.kd 3) := by have h7 := HG.out.2.kd; have e8 : (2 : Int) ^ (3 : Int).toNat = 8 := rfl; show ¬ badPut v.kd 3; unfold badPut; rw [e8]; omega
    refine wp_region_held_drew (S := (fun w' => w'.cell? ⟨kv, 1, none⟩ = some (.int .i64 (v.kd)))) (by kernel_rfl) ?_ (fun hHeld1 => ?_)
    · (try dsimp only); exact e1
    refine tkW 0 rfl ?_; refine tkW 1 rfl ?_; refine tkW 2 rfl ?_; refine tkW 3 rfl ?_
    try simp only [Act.put, List.setIfInBounds_toArray, List.set_cons_zero, List.set_cons_succ, List.getElem_toArray, List.getElem_cons_succ, List.getElem_cons_zero]
    refine tkW 4 rfl ?_; refine tkW 5 rfl ?_
    try simp only [Act.put, List.setIfInBounds_toArray, List.set_cons_zero, List.set_cons_succ, List.getElem_toArray, List.getElem_cons_succ, List.getElem_cons_zero]
    refine wpAnyH_ready (rs := [6]) (by kernel_rfl) (by simp) ?_
    refine AllReadyH.cons rfl (fun K hK => ?_) AllReadyH.nil
    first | (with_reducible refine iteYes ?hcx ?htx; case hcx => kernel_rfl) | rw [if_pos (by rfl)]
    simp only [List.getElem_toArray, List.getElem_cons_succ, List.getElem_cons_zero]
    go_simp
    (go_at_call 138; refine (putS_calls x _ last v.kd 3 _ (H0.out.sw.only (D := []) (Only.refl _ _).drew (by simp)) HP.out).mono ?_; rintro e wp ⟨vp, rfl, hm, o⟩)
    try go_wp2_with fail
    refine hK.out _ _ ?_ (fun hHeld2 => ?_)
    · (try dsimp only); exact (o.cell (a := ⟨kv, 1, none⟩) (v := .int .i64 (v.kd)) e1 (by simp only [List.mem_singleton]; exact H0.out.nv))
    clear hK K hHeld1
    try simp only [Act.put, List.setIfInBounds_toArray, List.set_cons_zero, List.set_cons_succ, List.getElem_toArray, List.getElem_cons_succ, List.getElem_cons_zero]
    have HM : Hid (MidW wp x (T ++ putB v.kd.toNat 3) last vp ∧ Only [x] w0 wp) := ⟨hm, (Only.refl [x] w0).drew.trans o⟩
    clear hm o
    refine wpAnyH_ready (rs := [7]) (by kernel_rfl) (by simp) ?_
    refine AllReadyH.cons rfl (fun K hK => ?_) AllReadyH.nil
    first | (with_reducible refine iteYes ?hcx ?htx; case hcx => kernel_rfl) | rw [if_pos (by rfl)]
    simp only [List.getElem_toArray, List.getElem_cons_succ, List.getElem_cons_zero]
    go_simp
    (go_at_call 149; refine (keepS_calls x _ last vp _ HM.out.1).mono ?_; rintro e wk ⟨rfl, hs, o⟩)
    try go_wp2_with fail
    refine hK.out _ _ ?_ (fun hHeld3 => ?_)
    · (try dsimp only); exact ((HM.out.2.trans o).cell (a := ⟨kv, 1, none⟩) (v := .int .i64 (v.kd)) e1 (by simp only [List.mem_singleton]; exact H0.out.nv))
    clear hK K hHeld2
    try simp only [Act.put, List.setIfInBounds_toArray, List.set_cons_zero, List.set_cons_succ, List.getElem_toArray, List.getElem_cons_succ, List.getElem_cons_zero]
    refine wpAnyH_done (by kernel_rfl) ?_ _
    have HK : Hid (PtS w x ku kv (T ++ putB v.kd.toNat 3) last u v wk) := H0.out.step hs (HM.out.2.trans o)
    clear hs o HM e1 H0 HP
    have H0 := HK
    clear HK
    have e2 := H0.out.au.off 2; have g2 := H0.out.av.off 2
    have e3 := H0.out.au.off 3; have g3 := H0.out.av.off 3
    have e4 := H0.out.au.off 4; have g4 := H0.out.av.off 4
    simp only [List.getElem?_toArray, List.getElem?_cons_succ, List.getElem?_cons_zero] at e2 g2 e3 g3 e4 g4
    go_wp2_with fail
    refine (less_calls _ _ _ _ _ _ _ HG.out.2.s3 HG.out.1.s3).mono ?_
    rintro e wl0 ⟨rfl, ol⟩
    have HL : Hid (PtS w x ku kv (T ++ putB v.kd.toNat 3) last u v wl0) := H0.out.keep ol
    clear ol H0 e2 g2 e3 g3 e4 g4
    go_wp2_with fail
    refine (vec_calls x _ last _ _ _ _ HL.out.sw ⟨not_badInt HG.out.2.s3.1 HG.out.1.s3.1, not_badInt HG.out.2.s3.2.1 HG.out.1.s3.2.1, not_badInt HG.out.2.s3.2.2 HG.out.1.s3.2.2⟩).mono ?_
    rintro e wv0 ⟨rfl, hs, o⟩
    have H0 : Hid (PtS w x ku kv (T ++ p4B u v) last u v wv0) := HL.out.step (by unfold p4B; rw [← List.append_assoc]; exact hs) o
    clear hs o HL
    cases b with
    | true =>
      have e5 := H0.out.au.off 5; have g5 := H0.out.av.off 5
      have e6 := H0.out.au.off 6; have g6 := H0.out.av.off 6
      have e7 := H0.out.au.off 7; have g7 := H0.out.av.off 7
      simp only [List.getElem?_toArray, List.getElem?_cons_succ, List.getElem?_cons_zero] at e5 g5 e6 g6 e7 g7
      go_wp2_with fail
      refine (less_calls _ _ _ _ _ _ _ HG.out.2.a3 HG.out.1.a3).mono ?_
      rintro e wl1 ⟨rfl, ol⟩
      have HL : Hid (PtS w x ku kv (T ++ p4B u v) last u v wl1) := H0.out.keep ol
      clear ol H0 e5 g5 e6 g6 e7 g7
      go_wp2_with fail
      refine (vec_calls x _ last _ _ _ _ HL.out.sw ⟨not_badInt HG.out.2.a3.1 HG.out.1.a3.1, not_badInt HG.out.2.a3.2.1 HG.out.1.a3.2.1, not_badInt HG.out.2.a3.2.2 HG.out.1.a3.2.2⟩).mono ?_
      rintro e wv1 ⟨rfl, hs, o⟩
      have H0 : Hid (PtS w x ku kv (T ++ p4B u v ++ p2B u v) last u v wv1) := HL.out.step hs o
      clear hs o HL
      cases c with
      | true =>
        have e8 := H0.out.au.off 8; have g8 := H0.out.av.off 8
        have e9 := H0.out.au.off 9; have g9 := H0.out.av.off 9
        have e10 := H0.out.au.off 10; have g10 := H0.out.av.off 10
        simp only [List.getElem?_toArray, List.getElem?_cons_succ, List.getElem?_cons_zero] at e8 g8 e9 g9 e10 g10
        go_wp2_with fail
        refine (less_calls _ _ _ _ _ _ _ HG.out.2.v3 HG.out.1.v3).mono ?_
        rintro e wl2 ⟨rfl, ol⟩
        have HL : Hid (PtS w x ku kv (T ++ p4B u v ++ p2B u v) last u v wl2) := H0.out.keep ol
        clear ol H0 e8 g8 e9 g9 e10 g10
        go_wp2_with fail
        refine (vec_calls x _ last _ _ _ _ HL.out.sw ⟨not_badInt HG.out.2.v3.1 HG.out.1.v3.1, not_badInt HG.out.2.v3.2.1 HG.out.1.v3.2.1, not_badInt HG.out.2.v3.2.2 HG.out.1.v3.2.2⟩).mono ?_
        rintro e wv2 ⟨rfl, hs, o⟩
        have H0 : Hid (PtS w x ku kv (T ++ p4B u v ++ p2B u v ++ p1B u v) last u v wv2) := HL.out.step hs o
        clear hs o HL
        go_wp2_with fail
        refine bodyPost_end (results_none rfl _ _ _) rfl ?_
        exact ⟨rfl, HT.out _ (by unfold partsB; simp) _ H0.out.sw, H0.out.only⟩
      | false =>
        go_wp2_with fail
        refine bodyPost_end (results_none rfl _ _ _) rfl ?_
        exact ⟨rfl, HT.out _ (by unfold partsB; simp) _ H0.out.sw, H0.out.only⟩
    | false =>
      cases c with
      | true =>
        have e8 := H0.out.au.off 8; have g8 := H0.out.av.off 8
        have e9 := H0.out.au.off 9; have g9 := H0.out.av.off 9
        have e10 := H0.out.au.off 10; have g10 := H0.out.av.off 10
        simp only [List.getElem?_toArray, List.getElem?_cons_succ, List.getElem?_cons_zero] at e8 g8 e9 g9 e10 g10
        go_wp2_with fail
        refine (less_calls _ _ _ _ _ _ _ HG.out.2.v3 HG.out.1.v3).mono ?_
        rintro e wl3 ⟨rfl, ol⟩
        have HL : Hid (PtS w x ku kv (T ++ p4B u v) last u v wl3) := H0.out.keep ol
        clear ol H0 e8 g8 e9 g9 e10 g10
        go_wp2_with fail
        refine (vec_calls x _ last _ _ _ _ HL.out.sw ⟨not_badInt HG.out.2.v3.1 HG.out.1.v3.1, not_badInt HG.out.2.v3.2.1 HG.out.1.v3.2.1, not_badInt HG.out.2.v3.2.2 HG.out.1.v3.2.2⟩).mono ?_
        rintro e wv3 ⟨rfl, hs, o⟩
        have H0 : Hid (PtS w x ku kv (T ++ p4B u v ++ p1B u v) last u v wv3) := HL.out.step hs o
        clear hs o HL
        go_wp2_with fail
        refine bodyPost_end (results_none rfl _ _ _) rfl ?_
        exact ⟨rfl, HT.out _ (by unfold partsB; simp) _ H0.out.sw, H0.out.only⟩
      | false =>
        go_wp2_with fail
        refine bodyPost_end (results_none rfl _ _ _) rfl ?_
        exact ⟨rfl, HT.out _ (by unfold partsB; simp) _ H0.out.sw, H0.out.only⟩
  | false =>
    cases b with
    | true =>
      have e5 := H0.out.au.off 5; have g5 := H0.out.av.off 5
      have e6 := H0.out.au.off 6; have g6 := H0.out.av.off 6
      have e7 := H0.out.au.off 7; have g7 := H0.out.av.off 7
      simp only [List.getElem?_toArray, List.getElem?_cons_succ, List.getElem?_cons_zero] at e5 g5 e6 g6 e7 g7
      go_wp2_with fail
      refine (less_calls _ _ _ _ _ _ _ HG.out.2.a3 HG.out.1.a3).mono ?_
      rintro e wl4 ⟨rfl, ol⟩
      have HL : Hid (PtS w x ku kv (T) last u v wl4) := H0.out.keep ol
      clear ol H0 e5 g5 e6 g6 e7 g7
      go_wp2_with fail
      refine (vec_calls x _ last _ _ _ _ HL.out.sw ⟨not_badInt HG.out.2.a3.1 HG.out.1.a3.1, not_badInt HG.out.2.a3.2.1 HG.out.1.a3.2.1, not_badInt HG.out.2.a3.2.2 HG.out.1.a3.2.2⟩).mono ?_
      rintro e wv4 ⟨rfl, hs, o⟩
      have H0 : Hid (PtS w x ku kv (T ++ p2B u v) last u v wv4) := HL.out.step hs o
      clear hs o HL
      cases c with
      | true =>
        have e8 := H0.out.au.off 8; have g8 := H0.out.av.off 8
        have e9 := H0.out.au.off 9; have g9 := H0.out.av.off 9
        have e10 := H0.out.au.off 10; have g10 := H0.out.av.off 10
        simp only [List.getElem?_toArray, List.getElem?_cons_succ, List.getElem?_cons_zero] at e8 g8 e9 g9 e10 g10
        go_wp2_with fail
        refine (less_calls _ _ _ _ _ _ _ HG.out.2.v3 HG.out.1.v3).mono ?_
        rintro e wl5 ⟨rfl, ol⟩
        have HL : Hid (PtS w x ku kv (T ++ p2B u v) last u v wl5) := H0.out.keep ol
        clear ol H0 e8 g8 e9 g9 e10 g10
        go_wp2_with fail
        refine (vec_calls x _ last _ _ _ _ HL.out.sw ⟨not_badInt HG.out.2.v3.1 HG.out.1.v3.1, not_badInt HG.out.2.v3.2.1 HG.out.1.v3.2.1, not_badInt HG.out.2.v3.2.2 HG.out.1.v3.2.2⟩).mono ?_
        rintro e wv5 ⟨rfl, hs, o⟩
        have H0 : Hid (PtS w x ku kv (T ++ p2B u v ++ p1B u v) last u v wv5) := HL.out.step hs o
        clear hs o HL
        go_wp2_with fail
        refine bodyPost_end (results_none rfl _ _ _) rfl ?_
        exact ⟨rfl, HT.out _ (by unfold partsB; simp) _ H0.out.sw, H0.out.only⟩
      | false =>
        go_wp2_with fail
        refine bodyPost_end (results_none rfl _ _ _) rfl ?_
        exact ⟨rfl, HT.out _ (by unfold partsB; simp) _ H0.out.sw, H0.out.only⟩
    | false =>
      cases c with
      | true =>
        have e8 := H0.out.au.off 8; have g8 := H0.out.av.off 8
        have e9 := H0.out.au.off 9; have g9 := H0.out.av.off 9
        have e10 := H0.out.au.off 10; have g10 := H0.out.av.off 10
        simp only [List.getElem?_toArray, List.getElem?_cons_succ, List.getElem?_cons_zero] at e8 g8 e9 g9 e10 g10
        go_wp2_with fail
        refine (less_calls _ _ _ _ _ _ _ HG.out.2.v3 HG.out.1.v3).mono ?_
        rintro e wl6 ⟨rfl, ol⟩
        have HL : Hid (PtS w x ku kv (T) last u v wl6) := H0.out.keep ol
        clear ol H0 e8 g8 e9 g9 e10 g10
        go_wp2_with fail
        refine (vec_calls x _ last _ _ _ _ HL.out.sw ⟨not_badInt HG.out.2.v3.1 HG.out.1.v3.1, not_badInt HG.out.2.v3.2.1 HG.out.1.v3.2.1, not_badInt HG.out.2.v3.2.2 HG.out.1.v3.2.2⟩).mono ?_
        rintro e wv6 ⟨rfl, hs, o⟩
        have H0 : Hid (PtS w x ku kv (T ++ p1B u v) last u v wv6) := HL.out.step hs o
        clear hs o HL
        go_wp2_with fail
        refine bodyPost_end (results_none rfl _ _ _) rfl ?_
        exact ⟨rfl, HT.out _ (by unfold partsB; simp) _ H0.out.sw, H0.out.only⟩
      | false =>
        go_wp2_with fail
        refine bodyPost_end (results_none rfl _ _ _) rfl ?_
        exact ⟨rfl, HT.out _ (by unfold partsB; simp) _ H0.out.sw, H0.out.only⟩
end Go.Proofs.Ytedhdmahdioboaa
