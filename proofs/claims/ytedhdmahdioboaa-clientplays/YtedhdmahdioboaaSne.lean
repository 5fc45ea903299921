/- snap.Delta: what changes, in bits: whatever the views. -/
import Derived.Test.YtedhdmahdioboaaSnd
namespace Go.Proofs.Ytedhdmahdioboaa
open Go.ChangeShapes Go.WideShapes Go.ChangeAt Go.RowKit
set_option linter.unusedVariables false
set_option linter.unusedSimpArgs false

theorem swriter_zero : Try.t233.zero = some (.agg (wcells [] ++ #[.nilIface, .int .i64 0])) := by
  rw [wcells_nil]
  kernel_rfl
theorem swriter_new (w : World) : Sem.run Try.prog (zeroValue 233) w = .ok (.agg (wcells [] ++ #[.nilIface, .int .i64 0])) w := by
  have := Try.typeInfo233 w
  simp [zeroValue, this, swriter_zero]
theorem SW.new (w : World) : SW (w.alloc (.cells (wcells [] ++ #[.nilIface, .int .i64 0]) 233)) w.heap.size [] 0 :=
  ⟨[], false, ⟨(MapKept.heap_alloc w _).1, Bits.nil, by simp⟩, ⟨by simp, fun _ => rfl, fun h => by cases h⟩⟩
def DeltaPost (F T : List Sn) (w : World) (e : Ending) (w' : World) : Prop :=
  Only [] w w' ∧ ((¬ (rightL F = true ∧ rightL T = true) ∧ e = .returned (.tuple #[.slice none 0 0, errV 1])) ∨
    (rightL F = true ∧ rightL T = true ∧ 31872 < (deltaT F T).length ∧ e = .returned (.tuple #[.slice none 0 0, errV 4])) ∨
    (rightL F = true ∧ rightL T = true ∧ (deltaT F T).length ≤ 31872 ∧ ∃ v, e = .returned (.tuple #[v, .nilIface]) ∧ Fresh w v (bytesOf (deltaT F T)) w'))
/-- While Delta runs. -/
structure DlS (w : World) (x : Nat) (F T : List Sn) (u v : Value) (F1 T1 : List Sn) (f : Nat) (B : List Nat) (la : Int) (wr : World) : Prop where
  au : SvAt w u F1
  av : SvAt w v T1
  sw : SW wr x B la
  only : Only [] w wr
  new : w.heap.size ≤ x
  rf : Ris la F1
  rt : Ris la T1
  la0 : 0 ≤ la
  lf : F1.length ≤ 60
  lt : T1.length ≤ 60
  fuel : F1.length + T1.length ≤ f
  all : B ++ deltaM f F1 T1 la = deltaM (F.length + T.length) F T 0
theorem DlS.next {w : World} {x : Nat} {F T : List Sn} {u v u' v' : Value} {F1 T1 : List Sn} {f : Nat} {B : List Nat} {la : Int} {wr w' : World} (h : DlS w x F T u v F1 T1 f B la wr) (hn : ¬ (F1 = [] ∧ T1 = []))
    (hu : ∀ w0, SvAt w0 u F1 → SvAt w0 u' (takeL (lowId F1 T1) F1)) (hv : ∀ w0, SvAt w0 v T1 → SvAt w0 v' (takeL (lowId F1 T1) T1))
    (hs : SW w' x (B ++ chgB la (takeS (lowId F1 T1) F1) (takeS (lowId F1 T1) T1)) (chgL la (takeS (lowId F1 T1) F1) (takeS (lowId F1 T1) T1))) (o : Only [x] wr w') :
    DlS w x F T u' v' (takeL (lowId F1 T1) F1) (takeL (lowId F1 T1) T1) (f - 1) (B ++ chgB la (takeS (lowId F1 T1) F1) (takeS (lowId F1 T1) T1)) (chgL la (takeS (lowId F1 T1) F1) (takeS (lowId F1 T1) T1)) w' := by
  obtain ⟨l1, l2, l3⟩ := lowId_le h.rf h.rt hn
  obtain ⟨s1, s2, s3⟩ := take_shorter hn
  have c1 := chgL_le h.la0 l1 (takeS_id (F := F1)) (takeS_id (F := T1)) (ok_take h.la0 h.rf).none_ (ok_take h.la0 h.rt).none_
  have hf := h.fuel
  have h1 := h.lf
  have h2 := h.lt
  refine ⟨hu _ h.au, hv _ h.av, hs, h.only.then o (fun y hy => by simp only [List.mem_singleton] at hy; right; rw [hy]; exact h.new), h.new, (ris_take h.rf l2).mono c1.1, (ris_take h.rt l3).mono c1.1, c1.2, by omega, by omega, by omega, ?_⟩
  rw [← h.all]
  obtain ⟨f', rfl⟩ : ∃ f', f = f' + 1 := ⟨f - 1, by omega⟩
  rw [deltaM_step la hn, List.append_assoc]
  rfl
set_option maxRecDepth 100000 in
set_option maxHeartbeats 4000000 in
theorem delta_calls (F T : List Sn) (u v : Value) (w : World) (hu : SvAt w u F) (hv : SvAt w v T) (hf : F.length ≤ 100000) (ht : T.length ≤ 100000) :
    Calls Try.prog 118 #[u, v] w (DeltaPost F T w) := by
  have HU : Hid (SvAt w u F ∧ SvAt w v T ∧ F.length ≤ 100000 ∧ T.length ≤ 100000) := ⟨hu, hv, hf, ht⟩
  have hz := swriter_new
  clear hu hv hf ht
  go_enter Try.func118, Try.ntmps118
  go_wp2_with fail
  have HR : ∀ (u : Value) (F : List Sn) (w : World), SvAt w u F → F.length ≤ 100000 → Calls Try.prog 116 #[u] w fun e w' => e = .returned (.bool (rightL F)) ∧ Only [] w w' := fun u F w h hl => by
    obtain ⟨a, c, rfl, _, h⟩ := h
    have := right_calls a F.length c _ w (by omega) h
    rw [right_same] at this
    exact this
  have HRR : Hid (∀ (u : Value) (F : List Sn) (w : World), SvAt w u F → F.length ≤ 100000 → Calls Try.prog 116 #[u] w fun e w' => e = .returned (.bool (rightL F)) ∧ Only [] w w') := HR
  clear HR
  refine (HRR.out u F w HU.out.1 HU.out.2.2.1).mono ?_
  rintro e w1 ⟨rfl, o1⟩
  have O1 : Hid (Only [] w w1) := o1
  clear o1
  cases hF : rightL F with
  | false =>
    have HF : Hid (rightL F = false) := hF
    clear hF
    go_wp2_with fail
    exact bodyPost_ret (v := .tuple #[.slice none 0 0, errV 1]) (by simp [results, Try.results118, go_sem, errV]) rfl ⟨O1.out, Or.inl ⟨(fun h => by rw [HF.out] at h; cases h.1), rfl⟩⟩
  | true =>
    have HF : Hid (rightL F = true) := hF
    clear hF
    go_wp2_with fail
    refine (HRR.out v T w1 (HU.out.2.1.only O1.out) HU.out.2.2.2).mono ?_
    rintro e w2 ⟨rfl, o2⟩
    have O2 : Hid (Only [] w w2) := O1.out.trans o2
    clear o2 O1 HRR
    cases hT : rightL T with
    | false =>
      have HT : Hid (rightL T = false) := hT
      clear hT
      go_wp2_with fail
      exact bodyPost_ret (v := .tuple #[.slice none 0 0, errV 1]) (by simp [results, Try.results118, go_sem, errV]) rfl ⟨O2.out, Or.inl ⟨(fun h => by rw [HT.out] at h; cases h.2), rfl⟩⟩
    | true =>
      have HT : Hid (rightL T = true) := hT
      clear hT
      go_wp2_with fail
      have H0 : Hid (DlS w w2.heap.size F T u v F T (F.length + T.length) [] 0 (w2.alloc (.cells (wcells [] ++ #[.nilIface, .int .i64 0]) 233))) := by
        obtain ⟨r1, r2⟩ := rightL_ris HF.out
        obtain ⟨r3, r4⟩ := rightL_ris HT.out
        exact ⟨HU.out.1, HU.out.2.1, SW.new w2, O2.out.alloc _, O2.out.size, r1, r3, Int.le_refl _, r2, r4, Nat.le_refl _, rfl⟩
      clear hz
      clear O2
      revert H0
      generalize w2.heap.size = x
      generalize World.alloc w2 _ = w3
      intro H0
      obtain ⟨a0, c0, e0, _, _⟩ := HU.out.1
      obtain ⟨b0, d0, e1, _, _⟩ := HU.out.2.1
      subst e0; subst e1
      go_loopg [0, 1] (F.length + T.length) (fun k s0 s1 wr => ∃ F1 T1 f B la a1 c1 a2 c2, s0 = .slice a1 F1.length c1 ∧ s1 = .slice a2 T1.length c2 ∧ Hid (k = F1.length + T1.length) ∧ Hid (DlS w x F T (.slice a1 F1.length c1) (.slice a2 T1.length c2) F1 T1 f B la wr))
      case atStart => exact ⟨F, T, _, [], 0, a0, c0, b0, d0, rfl, rfl, rfl, H0⟩
      case round =>
        clear H0
        obtain ⟨F1, T1, f, B, la, a1, c1, a2, c2, rfl, rfl, HK, HD⟩ := hrel
        by_cases hn : F1 = [] ∧ T1 = []
        · obtain ⟨rfl, rfl⟩ := hn
          have HL : Hid (SW wr x (deltaM (F.length + T.length) F T 0) la ∧ Only [] w wr ∧ w.heap.size ≤ x) := ⟨by have h1 := HD.out.all; rw [deltaM_nil, List.append_nil] at h1; rw [← h1]; exact HD.out.sw, HD.out.only, HD.out.new⟩
          clear HD HK
          simp only [List.length_nil]
          go_wp2_with fail
          refine (putS_calls x _ la 3 2 _ HL.out.1 (by unfold badPut; simp)).mono ?_
          rintro e wk ⟨vk, rfl, hm, ok⟩
          have HM : Hid (MidW wk x (deltaT F T) la vk ∧ Only [x] wr wk) := ⟨by simpa [deltaT] using hm, ok⟩
          clear hm ok
          go_wp2_with fail
          refine (keepS_calls x _ la vk _ HM.out.1).mono ?_
          rintro e wl ⟨rfl, hs, ol⟩
          have HO : Hid (Only [] w wl) := HL.out.2.1.then (HM.out.2.trans ol) (fun y hy => by simp only [List.mem_singleton] at hy; right; rw [hy]; exact HL.out.2.2)
          clear HM ol
          obtain ⟨l, bad, hw, hi⟩ := hs
          have HW : Hid (WrAt #[erW bad, .int .i64 la] 233 wl x l ∧ Inv l bad (deltaT F T)) := ⟨hw, hi⟩
          have hc := hw.tail 0
          clear hw hi HL
          cases bad with
          | true =>
            have hc2 : wl.cell? ⟨x, 4001, none⟩ = some (.iface 62 (.int .i64 4)) := hc
            clear hc
            go_wp2_with fail
            exact bodyPost_ret (v := .tuple #[.slice none 0 0, errV 4]) (by simp [results, Try.results118, go_sem, errV]) rfl ⟨HO.out, Or.inr (Or.inl ⟨HF.out, HT.out, by have := HW.out.2.much rfl; omega, rfl⟩)⟩
          | false =>
            have hc2 : wl.cell? ⟨x, 4001, none⟩ = some .nilIface := hc
            clear hc
            have HI : Hid (l = deltaT F T) := HW.out.2.good rfl
            go_wp2_with fail
            refine (many_calls x l _ HW.out.1).mono ?_
            rintro e wm ⟨rfl, rfl⟩
            by_cases hl : 31872 < l.length
            · have d1 : decide (31872 < (l.length : Int)) = true := by simp; omega
              have HLL : Hid (31872 < l.length) := hl
              clear hl
              go_wp2_with fail
              exact bodyPost_ret (v := .tuple #[.slice none 0 0, errV 4]) (by simp [results, Try.results118, go_sem, errV]) rfl ⟨HO.out, Or.inr (Or.inl ⟨HF.out, HT.out, by rw [← HI.out]; exact HLL.out, rfl⟩)⟩
            · have d1 : decide (31872 < (l.length : Int)) = false := by simp; omega
              have HLL : Hid (¬ 31872 < l.length) := hl
              clear hl
              go_wp2_with fail
              refine (bytes_calls x l _ HW.out.1).mono ?_
              rintro e wn ⟨vb, rfl, hfr, on⟩
              have HQ : Hid (Fresh w vb (bytesOf l) wn ∧ Only [] w wn) := by
                refine ⟨?_, HO.out.trans on⟩
                obtain ⟨g, c, e, h1, h2⟩ := hfr
                exact ⟨g, c, e, Nat.le_trans HO.out.size h1, h2⟩
              clear hfr on
              go_wp2_with fail
              exact bodyPost_ret (v := .tuple #[vb, .nilIface]) (by simp [results, Try.results118, go_sem]) rfl ⟨HQ.out.2, Or.inr (Or.inr ⟨HF.out, HT.out, by rw [← HI.out]; have := HLL.out; omega, vb, rfl, by rw [← HI.out]; exact HQ.out.1⟩)⟩
        · have HN : Hid (¬ (F1 = [] ∧ T1 = [])) := hn
          by_cases h1 : 0 < F1.length
          · have d1 : decide (0 < F1.length) = true := by simpa using h1
            clear hn h1
            go_wp2_with fail
            refine (lowest_calls F1 T1 _ _ _ (HD.out.au.only HD.out.only) (HD.out.av.only HD.out.only) (by have := HD.out.lf; omega) (by have := HD.out.lt; omega) HN.out).mono ?_
            rintro e wa ⟨rfl, oa⟩
            have HA : Hid (Only [] wr wa) := oa
            clear oa
            go_wp2_with fail
            have HB : Hid (Only [] wr ((wa.alloc (.cells #[.int .i64 0, .int .i64 0, .int .i64 0, .int .i64 0, .int .i64 0, .int .i64 0, .int .i64 0, .int .i64 0, .int .i64 0, .int .i64 0, .int .i64 0] 120)).alloc (.cells #[.int .i64 0, .int .i64 0, .int .i64 0, .int .i64 0, .int .i64 0, .int .i64 0, .int .i64 0, .int .i64 0, .int .i64 0, .int .i64 0, .int .i64 0] 120)) ∧ SnAt 120 ((wa.alloc (.cells #[.int .i64 0, .int .i64 0, .int .i64 0, .int .i64 0, .int .i64 0, .int .i64 0, .int .i64 0, .int .i64 0, .int .i64 0, .int .i64 0, .int .i64 0] 120)).alloc (.cells #[.int .i64 0, .int .i64 0, .int .i64 0, .int .i64 0, .int .i64 0, .int .i64 0, .int .i64 0, .int .i64 0, .int .i64 0, .int .i64 0, .int .i64 0] 120)) wa.heap.size zs ∧ SnAt 120 ((wa.alloc (.cells #[.int .i64 0, .int .i64 0, .int .i64 0, .int .i64 0, .int .i64 0, .int .i64 0, .int .i64 0, .int .i64 0, .int .i64 0, .int .i64 0, .int .i64 0] 120)).alloc (.cells #[.int .i64 0, .int .i64 0, .int .i64 0, .int .i64 0, .int .i64 0, .int .i64 0, .int .i64 0, .int .i64 0, .int .i64 0, .int .i64 0, .int .i64 0] 120)) (wa.heap.size + 1) zs ∧ wr.heap.size ≤ wa.heap.size ∧ wa.heap.size ≠ wa.heap.size + 1 ∧ wr.heap.size ≤ wa.heap.size + 1) := by
              have hs := HA.out.size
              refine ⟨(HA.out.alloc _).alloc _, (zs_new wa).only (D := []) ((Only.refl _ _).alloc _) (by simp), ?_, hs, by omega, by omega⟩
              have := zs_new (wa.alloc (.cells #[.int .i64 0, .int .i64 0, .int .i64 0, .int .i64 0, .int .i64 0, .int .i64 0, .int .i64 0, .int .i64 0, .int .i64 0, .int .i64 0, .int .i64 0] 120))
              simpa using this
            clear HA
            revert HB
            generalize wa.heap.size + 1 = k9
            generalize wa.heap.size = k8
            generalize World.alloc (World.alloc wa _) _ = wb
            intro HB
            refine (takeV_calls F1 (lowId F1 T1) _ _ (HD.out.au.only (HD.out.only.trans HB.out.1)) (by have := HD.out.lf; omega)).mono ?_
            rintro e wc ⟨u', rfl, hu', oc'⟩
            have HU2 : Hid (∀ w0, SvAt w0 (.slice a1 F1.length c1) F1 → SvAt w0 u' (takeL (lowId F1 T1) F1)) := hu'
            have HC : Hid (Only [] wr wc ∧ SnAt 120 wc k8 zs ∧ SnAt 120 wc k9 zs ∧ wr.heap.size ≤ k8 ∧ k8 ≠ k9 ∧ wr.heap.size ≤ k9) := ⟨HB.out.1.trans oc', HB.out.2.1.only oc' (by simp), HB.out.2.2.1.only oc' (by simp), HB.out.2.2.2⟩
            clear hu' oc' HB
            have z0 := HC.out.2.1.off 0; have y0 := HC.out.2.1.free 0
            have z1 := HC.out.2.1.off 1; have y1 := HC.out.2.1.free 1
            have z2 := HC.out.2.1.off 2; have y2 := HC.out.2.1.free 2
            have z3 := HC.out.2.1.off 3; have y3 := HC.out.2.1.free 3
            have z4 := HC.out.2.1.off 4; have y4 := HC.out.2.1.free 4
            have z5 := HC.out.2.1.off 5; have y5 := HC.out.2.1.free 5
            have z6 := HC.out.2.1.off 6; have y6 := HC.out.2.1.free 6
            have z7 := HC.out.2.1.off 7; have y7 := HC.out.2.1.free 7
            have z8 := HC.out.2.1.off 8; have y8 := HC.out.2.1.free 8
            have z9 := HC.out.2.1.off 9; have y9 := HC.out.2.1.free 9
            have z10 := HC.out.2.1.off 10; have y10 := HC.out.2.1.free 10
            simp only [zs, List.getElem?_toArray, List.getElem?_cons_succ, List.getElem?_cons_zero] at z0 z1 z2 z3 z4 z5 z6 z7 z8 z9 z10
            go_upto_region 8 with fail
            have HE : Hid (Only [] wr (((((((((((wc.setCell ⟨k8, 0, none⟩ (.int .i64 ((takeS (lowId F1 T1) F1).id))).setCell ⟨k8, 1, none⟩ (.int .i64 ((takeS (lowId F1 T1) F1).kd))).setCell ⟨k8, 2, none⟩ (.int .i64 ((takeS (lowId F1 T1) F1).sx))).setCell ⟨k8, 3, none⟩ (.int .i64 ((takeS (lowId F1 T1) F1).sy))).setCell ⟨k8, 4, none⟩ (.int .i64 ((takeS (lowId F1 T1) F1).sz))).setCell ⟨k8, 5, none⟩ (.int .i64 ((takeS (lowId F1 T1) F1).ax))).setCell ⟨k8, 6, none⟩ (.int .i64 ((takeS (lowId F1 T1) F1).ay))).setCell ⟨k8, 7, none⟩ (.int .i64 ((takeS (lowId F1 T1) F1).az))).setCell ⟨k8, 8, none⟩ (.int .i64 ((takeS (lowId F1 T1) F1).vx))).setCell ⟨k8, 9, none⟩ (.int .i64 ((takeS (lowId F1 T1) F1).vy))).setCell ⟨k8, 10, none⟩ (.int .i64 ((takeS (lowId F1 T1) F1).vz))) ∧ SnAt 120 (((((((((((wc.setCell ⟨k8, 0, none⟩ (.int .i64 ((takeS (lowId F1 T1) F1).id))).setCell ⟨k8, 1, none⟩ (.int .i64 ((takeS (lowId F1 T1) F1).kd))).setCell ⟨k8, 2, none⟩ (.int .i64 ((takeS (lowId F1 T1) F1).sx))).setCell ⟨k8, 3, none⟩ (.int .i64 ((takeS (lowId F1 T1) F1).sy))).setCell ⟨k8, 4, none⟩ (.int .i64 ((takeS (lowId F1 T1) F1).sz))).setCell ⟨k8, 5, none⟩ (.int .i64 ((takeS (lowId F1 T1) F1).ax))).setCell ⟨k8, 6, none⟩ (.int .i64 ((takeS (lowId F1 T1) F1).ay))).setCell ⟨k8, 7, none⟩ (.int .i64 ((takeS (lowId F1 T1) F1).az))).setCell ⟨k8, 8, none⟩ (.int .i64 ((takeS (lowId F1 T1) F1).vx))).setCell ⟨k8, 9, none⟩ (.int .i64 ((takeS (lowId F1 T1) F1).vy))).setCell ⟨k8, 10, none⟩ (.int .i64 ((takeS (lowId F1 T1) F1).vz))) k8 (takeS (lowId F1 T1) F1) ∧ SnAt 120 (((((((((((wc.setCell ⟨k8, 0, none⟩ (.int .i64 ((takeS (lowId F1 T1) F1).id))).setCell ⟨k8, 1, none⟩ (.int .i64 ((takeS (lowId F1 T1) F1).kd))).setCell ⟨k8, 2, none⟩ (.int .i64 ((takeS (lowId F1 T1) F1).sx))).setCell ⟨k8, 3, none⟩ (.int .i64 ((takeS (lowId F1 T1) F1).sy))).setCell ⟨k8, 4, none⟩ (.int .i64 ((takeS (lowId F1 T1) F1).sz))).setCell ⟨k8, 5, none⟩ (.int .i64 ((takeS (lowId F1 T1) F1).ax))).setCell ⟨k8, 6, none⟩ (.int .i64 ((takeS (lowId F1 T1) F1).ay))).setCell ⟨k8, 7, none⟩ (.int .i64 ((takeS (lowId F1 T1) F1).az))).setCell ⟨k8, 8, none⟩ (.int .i64 ((takeS (lowId F1 T1) F1).vx))).setCell ⟨k8, 9, none⟩ (.int .i64 ((takeS (lowId F1 T1) F1).vy))).setCell ⟨k8, 10, none⟩ (.int .i64 ((takeS (lowId F1 T1) F1).vz))) k9 zs ∧ wr.heap.size ≤ k8 ∧ k8 ≠ k9 ∧ wr.heap.size ≤ k9) := by
              have o8 : Only [k8] wc (((((((((((wc.setCell ⟨k8, 0, none⟩ (.int .i64 ((takeS (lowId F1 T1) F1).id))).setCell ⟨k8, 1, none⟩ (.int .i64 ((takeS (lowId F1 T1) F1).kd))).setCell ⟨k8, 2, none⟩ (.int .i64 ((takeS (lowId F1 T1) F1).sx))).setCell ⟨k8, 3, none⟩ (.int .i64 ((takeS (lowId F1 T1) F1).sy))).setCell ⟨k8, 4, none⟩ (.int .i64 ((takeS (lowId F1 T1) F1).sz))).setCell ⟨k8, 5, none⟩ (.int .i64 ((takeS (lowId F1 T1) F1).ax))).setCell ⟨k8, 6, none⟩ (.int .i64 ((takeS (lowId F1 T1) F1).ay))).setCell ⟨k8, 7, none⟩ (.int .i64 ((takeS (lowId F1 T1) F1).az))).setCell ⟨k8, 8, none⟩ (.int .i64 ((takeS (lowId F1 T1) F1).vx))).setCell ⟨k8, 9, none⟩ (.int .i64 ((takeS (lowId F1 T1) F1).vy))).setCell ⟨k8, 10, none⟩ (.int .i64 ((takeS (lowId F1 T1) F1).vz))) := ((((((((((((Only.refl [k8] wc).setCell (p := ⟨k8, 0, none⟩) (Or.inl (by simp)) _).setCell (p := ⟨k8, 1, none⟩) (Or.inl (by simp)) _).setCell (p := ⟨k8, 2, none⟩) (Or.inl (by simp)) _).setCell (p := ⟨k8, 3, none⟩) (Or.inl (by simp)) _).setCell (p := ⟨k8, 4, none⟩) (Or.inl (by simp)) _).setCell (p := ⟨k8, 5, none⟩) (Or.inl (by simp)) _).setCell (p := ⟨k8, 6, none⟩) (Or.inl (by simp)) _).setCell (p := ⟨k8, 7, none⟩) (Or.inl (by simp)) _).setCell (p := ⟨k8, 8, none⟩) (Or.inl (by simp)) _).setCell (p := ⟨k8, 9, none⟩) (Or.inl (by simp)) _).setCell (p := ⟨k8, 10, none⟩) (Or.inl (by simp)) _)
              exact ⟨HC.out.1.then o8 (fun y hy => by simp only [List.mem_singleton] at hy; right; rw [hy]; exact HC.out.2.2.2.1), sn_put HC.out.2.1 _, HC.out.2.2.1.only o8 (by simp only [List.mem_singleton]; exact fun e => HC.out.2.2.2.2.1 e.symm), HC.out.2.2.2⟩
            clear z0 y0 z1 y1 z2 y2 z3 y3 z4 y4 z5 y5 z6 y6 z7 y7 z8 y8 z9 y9 z10 y10
            clear HC
            generalize (((((((((((wc.setCell ⟨k8, 0, none⟩ (.int .i64 ((takeS (lowId F1 T1) F1).id))).setCell ⟨k8, 1, none⟩ (.int .i64 ((takeS (lowId F1 T1) F1).kd))).setCell ⟨k8, 2, none⟩ (.int .i64 ((takeS (lowId F1 T1) F1).sx))).setCell ⟨k8, 3, none⟩ (.int .i64 ((takeS (lowId F1 T1) F1).sy))).setCell ⟨k8, 4, none⟩ (.int .i64 ((takeS (lowId F1 T1) F1).sz))).setCell ⟨k8, 5, none⟩ (.int .i64 ((takeS (lowId F1 T1) F1).ax))).setCell ⟨k8, 6, none⟩ (.int .i64 ((takeS (lowId F1 T1) F1).ay))).setCell ⟨k8, 7, none⟩ (.int .i64 ((takeS (lowId F1 T1) F1).az))).setCell ⟨k8, 8, none⟩ (.int .i64 ((takeS (lowId F1 T1) F1).vx))).setCell ⟨k8, 9, none⟩ (.int .i64 ((takeS (lowId F1 T1) F1).vy))).setCell ⟨k8, 10, none⟩ (.int .i64 ((takeS (lowId F1 T1) F1).vz))) = wd at HE ⊢
            go_wp2_with fail
            refine (takeV_calls T1 (lowId F1 T1) _ _ (HD.out.av.only (HD.out.only.trans HE.out.1)) (by have := HD.out.lt; omega)).mono ?_
            rintro e we ⟨v', rfl, hv', oe⟩
            have HV2 : Hid (∀ w0, SvAt w0 (.slice a2 T1.length c2) T1 → SvAt w0 v' (takeL (lowId F1 T1) T1)) := hv'
            have HG : Hid (Only [] wr we ∧ SnAt 120 we k8 (takeS (lowId F1 T1) F1) ∧ SnAt 120 we k9 zs ∧ wr.heap.size ≤ k8 ∧ k8 ≠ k9 ∧ wr.heap.size ≤ k9) := ⟨HE.out.1.trans oe, HE.out.2.1.only oe (by simp), HE.out.2.2.1.only oe (by simp), HE.out.2.2.2⟩
            clear hv' oe HE
            have z0 := HG.out.2.2.1.off 0; have y0 := HG.out.2.2.1.free 0
            have z1 := HG.out.2.2.1.off 1; have y1 := HG.out.2.2.1.free 1
            have z2 := HG.out.2.2.1.off 2; have y2 := HG.out.2.2.1.free 2
            have z3 := HG.out.2.2.1.off 3; have y3 := HG.out.2.2.1.free 3
            have z4 := HG.out.2.2.1.off 4; have y4 := HG.out.2.2.1.free 4
            have z5 := HG.out.2.2.1.off 5; have y5 := HG.out.2.2.1.free 5
            have z6 := HG.out.2.2.1.off 6; have y6 := HG.out.2.2.1.free 6
            have z7 := HG.out.2.2.1.off 7; have y7 := HG.out.2.2.1.free 7
            have z8 := HG.out.2.2.1.off 8; have y8 := HG.out.2.2.1.free 8
            have z9 := HG.out.2.2.1.off 9; have y9 := HG.out.2.2.1.free 9
            have z10 := HG.out.2.2.1.off 10; have y10 := HG.out.2.2.1.free 10
            simp only [zs, List.getElem?_toArray, List.getElem?_cons_succ, List.getElem?_cons_zero] at z0 z1 z2 z3 z4 z5 z6 z7 z8 z9 z10
            go_upto_region 9 with fail
            have HI : Hid (Only [] wr (((((((((((we.setCell ⟨k9, 0, none⟩ (.int .i64 ((takeS (lowId F1 T1) T1).id))).setCell ⟨k9, 1, none⟩ (.int .i64 ((takeS (lowId F1 T1) T1).kd))).setCell ⟨k9, 2, none⟩ (.int .i64 ((takeS (lowId F1 T1) T1).sx))).setCell ⟨k9, 3, none⟩ (.int .i64 ((takeS (lowId F1 T1) T1).sy))).setCell ⟨k9, 4, none⟩ (.int .i64 ((takeS (lowId F1 T1) T1).sz))).setCell ⟨k9, 5, none⟩ (.int .i64 ((takeS (lowId F1 T1) T1).ax))).setCell ⟨k9, 6, none⟩ (.int .i64 ((takeS (lowId F1 T1) T1).ay))).setCell ⟨k9, 7, none⟩ (.int .i64 ((takeS (lowId F1 T1) T1).az))).setCell ⟨k9, 8, none⟩ (.int .i64 ((takeS (lowId F1 T1) T1).vx))).setCell ⟨k9, 9, none⟩ (.int .i64 ((takeS (lowId F1 T1) T1).vy))).setCell ⟨k9, 10, none⟩ (.int .i64 ((takeS (lowId F1 T1) T1).vz))) ∧ SnAt 120 (((((((((((we.setCell ⟨k9, 0, none⟩ (.int .i64 ((takeS (lowId F1 T1) T1).id))).setCell ⟨k9, 1, none⟩ (.int .i64 ((takeS (lowId F1 T1) T1).kd))).setCell ⟨k9, 2, none⟩ (.int .i64 ((takeS (lowId F1 T1) T1).sx))).setCell ⟨k9, 3, none⟩ (.int .i64 ((takeS (lowId F1 T1) T1).sy))).setCell ⟨k9, 4, none⟩ (.int .i64 ((takeS (lowId F1 T1) T1).sz))).setCell ⟨k9, 5, none⟩ (.int .i64 ((takeS (lowId F1 T1) T1).ax))).setCell ⟨k9, 6, none⟩ (.int .i64 ((takeS (lowId F1 T1) T1).ay))).setCell ⟨k9, 7, none⟩ (.int .i64 ((takeS (lowId F1 T1) T1).az))).setCell ⟨k9, 8, none⟩ (.int .i64 ((takeS (lowId F1 T1) T1).vx))).setCell ⟨k9, 9, none⟩ (.int .i64 ((takeS (lowId F1 T1) T1).vy))).setCell ⟨k9, 10, none⟩ (.int .i64 ((takeS (lowId F1 T1) T1).vz))) k8 (takeS (lowId F1 T1) F1) ∧ SnAt 120 (((((((((((we.setCell ⟨k9, 0, none⟩ (.int .i64 ((takeS (lowId F1 T1) T1).id))).setCell ⟨k9, 1, none⟩ (.int .i64 ((takeS (lowId F1 T1) T1).kd))).setCell ⟨k9, 2, none⟩ (.int .i64 ((takeS (lowId F1 T1) T1).sx))).setCell ⟨k9, 3, none⟩ (.int .i64 ((takeS (lowId F1 T1) T1).sy))).setCell ⟨k9, 4, none⟩ (.int .i64 ((takeS (lowId F1 T1) T1).sz))).setCell ⟨k9, 5, none⟩ (.int .i64 ((takeS (lowId F1 T1) T1).ax))).setCell ⟨k9, 6, none⟩ (.int .i64 ((takeS (lowId F1 T1) T1).ay))).setCell ⟨k9, 7, none⟩ (.int .i64 ((takeS (lowId F1 T1) T1).az))).setCell ⟨k9, 8, none⟩ (.int .i64 ((takeS (lowId F1 T1) T1).vx))).setCell ⟨k9, 9, none⟩ (.int .i64 ((takeS (lowId F1 T1) T1).vy))).setCell ⟨k9, 10, none⟩ (.int .i64 ((takeS (lowId F1 T1) T1).vz))) k9 (takeS (lowId F1 T1) T1)) := by
              have o9 : Only [k9] we (((((((((((we.setCell ⟨k9, 0, none⟩ (.int .i64 ((takeS (lowId F1 T1) T1).id))).setCell ⟨k9, 1, none⟩ (.int .i64 ((takeS (lowId F1 T1) T1).kd))).setCell ⟨k9, 2, none⟩ (.int .i64 ((takeS (lowId F1 T1) T1).sx))).setCell ⟨k9, 3, none⟩ (.int .i64 ((takeS (lowId F1 T1) T1).sy))).setCell ⟨k9, 4, none⟩ (.int .i64 ((takeS (lowId F1 T1) T1).sz))).setCell ⟨k9, 5, none⟩ (.int .i64 ((takeS (lowId F1 T1) T1).ax))).setCell ⟨k9, 6, none⟩ (.int .i64 ((takeS (lowId F1 T1) T1).ay))).setCell ⟨k9, 7, none⟩ (.int .i64 ((takeS (lowId F1 T1) T1).az))).setCell ⟨k9, 8, none⟩ (.int .i64 ((takeS (lowId F1 T1) T1).vx))).setCell ⟨k9, 9, none⟩ (.int .i64 ((takeS (lowId F1 T1) T1).vy))).setCell ⟨k9, 10, none⟩ (.int .i64 ((takeS (lowId F1 T1) T1).vz))) := ((((((((((((Only.refl [k9] we).setCell (p := ⟨k9, 0, none⟩) (Or.inl (by simp)) _).setCell (p := ⟨k9, 1, none⟩) (Or.inl (by simp)) _).setCell (p := ⟨k9, 2, none⟩) (Or.inl (by simp)) _).setCell (p := ⟨k9, 3, none⟩) (Or.inl (by simp)) _).setCell (p := ⟨k9, 4, none⟩) (Or.inl (by simp)) _).setCell (p := ⟨k9, 5, none⟩) (Or.inl (by simp)) _).setCell (p := ⟨k9, 6, none⟩) (Or.inl (by simp)) _).setCell (p := ⟨k9, 7, none⟩) (Or.inl (by simp)) _).setCell (p := ⟨k9, 8, none⟩) (Or.inl (by simp)) _).setCell (p := ⟨k9, 9, none⟩) (Or.inl (by simp)) _).setCell (p := ⟨k9, 10, none⟩) (Or.inl (by simp)) _)
              exact ⟨HG.out.1.then o9 (fun y hy => by simp only [List.mem_singleton] at hy; right; rw [hy]; exact HG.out.2.2.2.2.2), HG.out.2.1.only o9 (by simp only [List.mem_singleton]; exact HG.out.2.2.2.2.1), sn_put HG.out.2.2.1 _⟩
            clear z0 y0 z1 y1 z2 y2 z3 y3 z4 y4 z5 y5 z6 y6 z7 y7 z8 y8 z9 y9 z10 y10
            clear HG
            generalize (((((((((((we.setCell ⟨k9, 0, none⟩ (.int .i64 ((takeS (lowId F1 T1) T1).id))).setCell ⟨k9, 1, none⟩ (.int .i64 ((takeS (lowId F1 T1) T1).kd))).setCell ⟨k9, 2, none⟩ (.int .i64 ((takeS (lowId F1 T1) T1).sx))).setCell ⟨k9, 3, none⟩ (.int .i64 ((takeS (lowId F1 T1) T1).sy))).setCell ⟨k9, 4, none⟩ (.int .i64 ((takeS (lowId F1 T1) T1).sz))).setCell ⟨k9, 5, none⟩ (.int .i64 ((takeS (lowId F1 T1) T1).ax))).setCell ⟨k9, 6, none⟩ (.int .i64 ((takeS (lowId F1 T1) T1).ay))).setCell ⟨k9, 7, none⟩ (.int .i64 ((takeS (lowId F1 T1) T1).az))).setCell ⟨k9, 8, none⟩ (.int .i64 ((takeS (lowId F1 T1) T1).vx))).setCell ⟨k9, 9, none⟩ (.int .i64 ((takeS (lowId F1 T1) T1).vy))).setCell ⟨k9, 10, none⟩ (.int .i64 ((takeS (lowId F1 T1) T1).vz))) = wf at HI ⊢
            have z0 := HI.out.2.1.off 0
            have z1 := HI.out.2.1.off 1
            have z2 := HI.out.2.1.off 2
            have z3 := HI.out.2.1.off 3
            have z4 := HI.out.2.1.off 4
            have z5 := HI.out.2.1.off 5
            have z6 := HI.out.2.1.off 6
            have z7 := HI.out.2.1.off 7
            have z8 := HI.out.2.1.off 8
            have z9 := HI.out.2.1.off 9
            have z10 := HI.out.2.1.off 10
            simp only [zs, List.getElem?_toArray, List.getElem?_cons_succ, List.getElem?_cons_zero] at z0 z1 z2 z3 z4 z5 z6 z7 z8 z9 z10
            have y0 := HI.out.2.2.off 0
            have y1 := HI.out.2.2.off 1
            have y2 := HI.out.2.2.off 2
            have y3 := HI.out.2.2.off 3
            have y4 := HI.out.2.2.off 4
            have y5 := HI.out.2.2.off 5
            have y6 := HI.out.2.2.off 6
            have y7 := HI.out.2.2.off 7
            have y8 := HI.out.2.2.off 8
            have y9 := HI.out.2.2.off 9
            have y10 := HI.out.2.2.off 10
            simp only [zs, List.getElem?_toArray, List.getElem?_cons_succ, List.getElem?_cons_zero] at y0 y1 y2 y3 y4 y5 y6 y7 y8 y9 y10
            go_wp2_with fail
            refine (change_calls x B la (takeS (lowId F1 T1) F1) (takeS (lowId F1 T1) T1) _ (HD.out.sw.only HI.out.1 (by simp)) HD.out.la0 (ok_take HD.out.la0 HD.out.rf) (ok_take HD.out.la0 HD.out.rt)).mono ?_
            rintro e wg ⟨rfl, hs, og⟩
            clear z0 y0 z1 y1 z2 y2 z3 y3 z4 y4 z5 y5 z6 y6 z7 y7 z8 y8 z9 y9 z10 y10
            obtain ⟨a3, c3, e3, _, _⟩ := HU2.out w HD.out.au
            obtain ⟨a4, c4, e4, _, _⟩ := HV2.out w HD.out.av
            subst e3; subst e4
            have HJ : Hid (DlS w x F T (.slice a3 (takeL (lowId F1 T1) F1).length c3) (.slice a4 (takeL (lowId F1 T1) T1).length c4) (takeL (lowId F1 T1) F1) (takeL (lowId F1 T1) T1) (f - 1) (B ++ chgB la (takeS (lowId F1 T1) F1) (takeS (lowId F1 T1) T1)) (chgL la (takeS (lowId F1 T1) F1) (takeS (lowId F1 T1) T1)) wg) :=
              HD.out.next HN.out HU2.out HV2.out hs ((HI.out.1.mono (by simp)).trans og)
            clear hs og HI HU2 HV2
            go_wp2_with fail
            go_roundg ((takeL (lowId F1 T1) F1).length + (takeL (lowId F1 T1) T1).length)
            case measure => have h1 := (take_shorter HN.out).1; have h2 := HK.out; omega
            case rel => exact ⟨_, _, _, _, _, a3, c3, a4, c4, rfl, rfl, rfl, HJ⟩
          · have d1 : decide (0 < F1.length) = false := by simpa using h1
            have d2 : decide (0 < T1.length) = true := by
              have hf : F1 = [] := by cases F1 with
                | nil => rfl
                | cons s F => simp at h1
              cases T1 with
              | nil => exact absurd ⟨hf, rfl⟩ hn
              | cons t T => simp
            clear hn h1
            go_wp2_with fail
            refine (lowest_calls F1 T1 _ _ _ (HD.out.au.only HD.out.only) (HD.out.av.only HD.out.only) (by have := HD.out.lf; omega) (by have := HD.out.lt; omega) HN.out).mono ?_
            rintro e wa ⟨rfl, oa⟩
            have HA : Hid (Only [] wr wa) := oa
            clear oa
            go_wp2_with fail
            have HB : Hid (Only [] wr ((wa.alloc (.cells #[.int .i64 0, .int .i64 0, .int .i64 0, .int .i64 0, .int .i64 0, .int .i64 0, .int .i64 0, .int .i64 0, .int .i64 0, .int .i64 0, .int .i64 0] 120)).alloc (.cells #[.int .i64 0, .int .i64 0, .int .i64 0, .int .i64 0, .int .i64 0, .int .i64 0, .int .i64 0, .int .i64 0, .int .i64 0, .int .i64 0, .int .i64 0] 120)) ∧ SnAt 120 ((wa.alloc (.cells #[.int .i64 0, .int .i64 0, .int .i64 0, .int .i64 0, .int .i64 0, .int .i64 0, .int .i64 0, .int .i64 0, .int .i64 0, .int .i64 0, .int .i64 0] 120)).alloc (.cells #[.int .i64 0, .int .i64 0, .int .i64 0, .int .i64 0, .int .i64 0, .int .i64 0, .int .i64 0, .int .i64 0, .int .i64 0, .int .i64 0, .int .i64 0] 120)) wa.heap.size zs ∧ SnAt 120 ((wa.alloc (.cells #[.int .i64 0, .int .i64 0, .int .i64 0, .int .i64 0, .int .i64 0, .int .i64 0, .int .i64 0, .int .i64 0, .int .i64 0, .int .i64 0, .int .i64 0] 120)).alloc (.cells #[.int .i64 0, .int .i64 0, .int .i64 0, .int .i64 0, .int .i64 0, .int .i64 0, .int .i64 0, .int .i64 0, .int .i64 0, .int .i64 0, .int .i64 0] 120)) (wa.heap.size + 1) zs ∧ wr.heap.size ≤ wa.heap.size ∧ wa.heap.size ≠ wa.heap.size + 1 ∧ wr.heap.size ≤ wa.heap.size + 1) := by
              have hs := HA.out.size
              refine ⟨(HA.out.alloc _).alloc _, (zs_new wa).only (D := []) ((Only.refl _ _).alloc _) (by simp), ?_, hs, by omega, by omega⟩
              have := zs_new (wa.alloc (.cells #[.int .i64 0, .int .i64 0, .int .i64 0, .int .i64 0, .int .i64 0, .int .i64 0, .int .i64 0, .int .i64 0, .int .i64 0, .int .i64 0, .int .i64 0] 120))
              simpa using this
            clear HA
            revert HB
            generalize wa.heap.size + 1 = k9
            generalize wa.heap.size = k8
            generalize World.alloc (World.alloc wa _) _ = wb
            intro HB
            refine (takeV_calls F1 (lowId F1 T1) _ _ (HD.out.au.only (HD.out.only.trans HB.out.1)) (by have := HD.out.lf; omega)).mono ?_
            rintro e wc ⟨u', rfl, hu', oc'⟩
            have HU2 : Hid (∀ w0, SvAt w0 (.slice a1 F1.length c1) F1 → SvAt w0 u' (takeL (lowId F1 T1) F1)) := hu'
            have HC : Hid (Only [] wr wc ∧ SnAt 120 wc k8 zs ∧ SnAt 120 wc k9 zs ∧ wr.heap.size ≤ k8 ∧ k8 ≠ k9 ∧ wr.heap.size ≤ k9) := ⟨HB.out.1.trans oc', HB.out.2.1.only oc' (by simp), HB.out.2.2.1.only oc' (by simp), HB.out.2.2.2⟩
            clear hu' oc' HB
            have z0 := HC.out.2.1.off 0; have y0 := HC.out.2.1.free 0
            have z1 := HC.out.2.1.off 1; have y1 := HC.out.2.1.free 1
            have z2 := HC.out.2.1.off 2; have y2 := HC.out.2.1.free 2
            have z3 := HC.out.2.1.off 3; have y3 := HC.out.2.1.free 3
            have z4 := HC.out.2.1.off 4; have y4 := HC.out.2.1.free 4
            have z5 := HC.out.2.1.off 5; have y5 := HC.out.2.1.free 5
            have z6 := HC.out.2.1.off 6; have y6 := HC.out.2.1.free 6
            have z7 := HC.out.2.1.off 7; have y7 := HC.out.2.1.free 7
            have z8 := HC.out.2.1.off 8; have y8 := HC.out.2.1.free 8
            have z9 := HC.out.2.1.off 9; have y9 := HC.out.2.1.free 9
            have z10 := HC.out.2.1.off 10; have y10 := HC.out.2.1.free 10
            simp only [zs, List.getElem?_toArray, List.getElem?_cons_succ, List.getElem?_cons_zero] at z0 z1 z2 z3 z4 z5 z6 z7 z8 z9 z10
            go_upto_region 8 with fail
            have HE : Hid (Only [] wr (((((((((((wc.setCell ⟨k8, 0, none⟩ (.int .i64 ((takeS (lowId F1 T1) F1).id))).setCell ⟨k8, 1, none⟩ (.int .i64 ((takeS (lowId F1 T1) F1).kd))).setCell ⟨k8, 2, none⟩ (.int .i64 ((takeS (lowId F1 T1) F1).sx))).setCell ⟨k8, 3, none⟩ (.int .i64 ((takeS (lowId F1 T1) F1).sy))).setCell ⟨k8, 4, none⟩ (.int .i64 ((takeS (lowId F1 T1) F1).sz))).setCell ⟨k8, 5, none⟩ (.int .i64 ((takeS (lowId F1 T1) F1).ax))).setCell ⟨k8, 6, none⟩ (.int .i64 ((takeS (lowId F1 T1) F1).ay))).setCell ⟨k8, 7, none⟩ (.int .i64 ((takeS (lowId F1 T1) F1).az))).setCell ⟨k8, 8, none⟩ (.int .i64 ((takeS (lowId F1 T1) F1).vx))).setCell ⟨k8, 9, none⟩ (.int .i64 ((takeS (lowId F1 T1) F1).vy))).setCell ⟨k8, 10, none⟩ (.int .i64 ((takeS (lowId F1 T1) F1).vz))) ∧ SnAt 120 (((((((((((wc.setCell ⟨k8, 0, none⟩ (.int .i64 ((takeS (lowId F1 T1) F1).id))).setCell ⟨k8, 1, none⟩ (.int .i64 ((takeS (lowId F1 T1) F1).kd))).setCell ⟨k8, 2, none⟩ (.int .i64 ((takeS (lowId F1 T1) F1).sx))).setCell ⟨k8, 3, none⟩ (.int .i64 ((takeS (lowId F1 T1) F1).sy))).setCell ⟨k8, 4, none⟩ (.int .i64 ((takeS (lowId F1 T1) F1).sz))).setCell ⟨k8, 5, none⟩ (.int .i64 ((takeS (lowId F1 T1) F1).ax))).setCell ⟨k8, 6, none⟩ (.int .i64 ((takeS (lowId F1 T1) F1).ay))).setCell ⟨k8, 7, none⟩ (.int .i64 ((takeS (lowId F1 T1) F1).az))).setCell ⟨k8, 8, none⟩ (.int .i64 ((takeS (lowId F1 T1) F1).vx))).setCell ⟨k8, 9, none⟩ (.int .i64 ((takeS (lowId F1 T1) F1).vy))).setCell ⟨k8, 10, none⟩ (.int .i64 ((takeS (lowId F1 T1) F1).vz))) k8 (takeS (lowId F1 T1) F1) ∧ SnAt 120 (((((((((((wc.setCell ⟨k8, 0, none⟩ (.int .i64 ((takeS (lowId F1 T1) F1).id))).setCell ⟨k8, 1, none⟩ (.int .i64 ((takeS (lowId F1 T1) F1).kd))).setCell ⟨k8, 2, none⟩ (.int .i64 ((takeS (lowId F1 T1) F1).sx))).setCell ⟨k8, 3, none⟩ (.int .i64 ((takeS (lowId F1 T1) F1).sy))).setCell ⟨k8, 4, none⟩ (.int .i64 ((takeS (lowId F1 T1) F1).sz))).setCell ⟨k8, 5, none⟩ (.int .i64 ((takeS (lowId F1 T1) F1).ax))).setCell ⟨k8, 6, none⟩ (.int .i64 ((takeS (lowId F1 T1) F1).ay))).setCell ⟨k8, 7, none⟩ (.int .i64 ((takeS (lowId F1 T1) F1).az))).setCell ⟨k8, 8, none⟩ (.int .i64 ((takeS (lowId F1 T1) F1).vx))).setCell ⟨k8, 9, none⟩ (.int .i64 ((takeS (lowId F1 T1) F1).vy))).setCell ⟨k8, 10, none⟩ (.int .i64 ((takeS (lowId F1 T1) F1).vz))) k9 zs ∧ wr.heap.size ≤ k8 ∧ k8 ≠ k9 ∧ wr.heap.size ≤ k9) := by
              have o8 : Only [k8] wc (((((((((((wc.setCell ⟨k8, 0, none⟩ (.int .i64 ((takeS (lowId F1 T1) F1).id))).setCell ⟨k8, 1, none⟩ (.int .i64 ((takeS (lowId F1 T1) F1).kd))).setCell ⟨k8, 2, none⟩ (.int .i64 ((takeS (lowId F1 T1) F1).sx))).setCell ⟨k8, 3, none⟩ (.int .i64 ((takeS (lowId F1 T1) F1).sy))).setCell ⟨k8, 4, none⟩ (.int .i64 ((takeS (lowId F1 T1) F1).sz))).setCell ⟨k8, 5, none⟩ (.int .i64 ((takeS (lowId F1 T1) F1).ax))).setCell ⟨k8, 6, none⟩ (.int .i64 ((takeS (lowId F1 T1) F1).ay))).setCell ⟨k8, 7, none⟩ (.int .i64 ((takeS (lowId F1 T1) F1).az))).setCell ⟨k8, 8, none⟩ (.int .i64 ((takeS (lowId F1 T1) F1).vx))).setCell ⟨k8, 9, none⟩ (.int .i64 ((takeS (lowId F1 T1) F1).vy))).setCell ⟨k8, 10, none⟩ (.int .i64 ((takeS (lowId F1 T1) F1).vz))) := ((((((((((((Only.refl [k8] wc).setCell (p := ⟨k8, 0, none⟩) (Or.inl (by simp)) _).setCell (p := ⟨k8, 1, none⟩) (Or.inl (by simp)) _).setCell (p := ⟨k8, 2, none⟩) (Or.inl (by simp)) _).setCell (p := ⟨k8, 3, none⟩) (Or.inl (by simp)) _).setCell (p := ⟨k8, 4, none⟩) (Or.inl (by simp)) _).setCell (p := ⟨k8, 5, none⟩) (Or.inl (by simp)) _).setCell (p := ⟨k8, 6, none⟩) (Or.inl (by simp)) _).setCell (p := ⟨k8, 7, none⟩) (Or.inl (by simp)) _).setCell (p := ⟨k8, 8, none⟩) (Or.inl (by simp)) _).setCell (p := ⟨k8, 9, none⟩) (Or.inl (by simp)) _).setCell (p := ⟨k8, 10, none⟩) (Or.inl (by simp)) _)
              exact ⟨HC.out.1.then o8 (fun y hy => by simp only [List.mem_singleton] at hy; right; rw [hy]; exact HC.out.2.2.2.1), sn_put HC.out.2.1 _, HC.out.2.2.1.only o8 (by simp only [List.mem_singleton]; exact fun e => HC.out.2.2.2.2.1 e.symm), HC.out.2.2.2⟩
            clear z0 y0 z1 y1 z2 y2 z3 y3 z4 y4 z5 y5 z6 y6 z7 y7 z8 y8 z9 y9 z10 y10
            clear HC
            generalize (((((((((((wc.setCell ⟨k8, 0, none⟩ (.int .i64 ((takeS (lowId F1 T1) F1).id))).setCell ⟨k8, 1, none⟩ (.int .i64 ((takeS (lowId F1 T1) F1).kd))).setCell ⟨k8, 2, none⟩ (.int .i64 ((takeS (lowId F1 T1) F1).sx))).setCell ⟨k8, 3, none⟩ (.int .i64 ((takeS (lowId F1 T1) F1).sy))).setCell ⟨k8, 4, none⟩ (.int .i64 ((takeS (lowId F1 T1) F1).sz))).setCell ⟨k8, 5, none⟩ (.int .i64 ((takeS (lowId F1 T1) F1).ax))).setCell ⟨k8, 6, none⟩ (.int .i64 ((takeS (lowId F1 T1) F1).ay))).setCell ⟨k8, 7, none⟩ (.int .i64 ((takeS (lowId F1 T1) F1).az))).setCell ⟨k8, 8, none⟩ (.int .i64 ((takeS (lowId F1 T1) F1).vx))).setCell ⟨k8, 9, none⟩ (.int .i64 ((takeS (lowId F1 T1) F1).vy))).setCell ⟨k8, 10, none⟩ (.int .i64 ((takeS (lowId F1 T1) F1).vz))) = wd at HE ⊢
            go_wp2_with fail
            refine (takeV_calls T1 (lowId F1 T1) _ _ (HD.out.av.only (HD.out.only.trans HE.out.1)) (by have := HD.out.lt; omega)).mono ?_
            rintro e we ⟨v', rfl, hv', oe⟩
            have HV2 : Hid (∀ w0, SvAt w0 (.slice a2 T1.length c2) T1 → SvAt w0 v' (takeL (lowId F1 T1) T1)) := hv'
            have HG : Hid (Only [] wr we ∧ SnAt 120 we k8 (takeS (lowId F1 T1) F1) ∧ SnAt 120 we k9 zs ∧ wr.heap.size ≤ k8 ∧ k8 ≠ k9 ∧ wr.heap.size ≤ k9) := ⟨HE.out.1.trans oe, HE.out.2.1.only oe (by simp), HE.out.2.2.1.only oe (by simp), HE.out.2.2.2⟩
            clear hv' oe HE
            have z0 := HG.out.2.2.1.off 0; have y0 := HG.out.2.2.1.free 0
            have z1 := HG.out.2.2.1.off 1; have y1 := HG.out.2.2.1.free 1
            have z2 := HG.out.2.2.1.off 2; have y2 := HG.out.2.2.1.free 2
            have z3 := HG.out.2.2.1.off 3; have y3 := HG.out.2.2.1.free 3
            have z4 := HG.out.2.2.1.off 4; have y4 := HG.out.2.2.1.free 4
            have z5 := HG.out.2.2.1.off 5; have y5 := HG.out.2.2.1.free 5
            have z6 := HG.out.2.2.1.off 6; have y6 := HG.out.2.2.1.free 6
            have z7 := HG.out.2.2.1.off 7; have y7 := HG.out.2.2.1.free 7
            have z8 := HG.out.2.2.1.off 8; have y8 := HG.out.2.2.1.free 8
            have z9 := HG.out.2.2.1.off 9; have y9 := HG.out.2.2.1.free 9
            have z10 := HG.out.2.2.1.off 10; have y10 := HG.out.2.2.1.free 10
            simp only [zs, List.getElem?_toArray, List.getElem?_cons_succ, List.getElem?_cons_zero] at z0 z1 z2 z3 z4 z5 z6 z7 z8 z9 z10
            go_upto_region 9 with fail
            have HI : Hid (Only [] wr (((((((((((we.setCell ⟨k9, 0, none⟩ (.int .i64 ((takeS (lowId F1 T1) T1).id))).setCell ⟨k9, 1, none⟩ (.int .i64 ((takeS (lowId F1 T1) T1).kd))).setCell ⟨k9, 2, none⟩ (.int .i64 ((takeS (lowId F1 T1) T1).sx))).setCell ⟨k9, 3, none⟩ (.int .i64 ((takeS (lowId F1 T1) T1).sy))).setCell ⟨k9, 4, none⟩ (.int .i64 ((takeS (lowId F1 T1) T1).sz))).setCell ⟨k9, 5, none⟩ (.int .i64 ((takeS (lowId F1 T1) T1).ax))).setCell ⟨k9, 6, none⟩ (.int .i64 ((takeS (lowId F1 T1) T1).ay))).setCell ⟨k9, 7, none⟩ (.int .i64 ((takeS (lowId F1 T1) T1).az))).setCell ⟨k9, 8, none⟩ (.int .i64 ((takeS (lowId F1 T1) T1).vx))).setCell ⟨k9, 9, none⟩ (.int .i64 ((takeS (lowId F1 T1) T1).vy))).setCell ⟨k9, 10, none⟩ (.int .i64 ((takeS (lowId F1 T1) T1).vz))) ∧ SnAt 120 (((((((((((we.setCell ⟨k9, 0, none⟩ (.int .i64 ((takeS (lowId F1 T1) T1).id))).setCell ⟨k9, 1, none⟩ (.int .i64 ((takeS (lowId F1 T1) T1).kd))).setCell ⟨k9, 2, none⟩ (.int .i64 ((takeS (lowId F1 T1) T1).sx))).setCell ⟨k9, 3, none⟩ (.int .i64 ((takeS (lowId F1 T1) T1).sy))).setCell ⟨k9, 4, none⟩ (.int .i64 ((takeS (lowId F1 T1) T1).sz))).setCell ⟨k9, 5, none⟩ (.int .i64 ((takeS (lowId F1 T1) T1).ax))).setCell ⟨k9, 6, none⟩ (.int .i64 ((takeS (lowId F1 T1) T1).ay))).setCell ⟨k9, 7, none⟩ (.int .i64 ((takeS (lowId F1 T1) T1).az))).setCell ⟨k9, 8, none⟩ (.int .i64 ((takeS (lowId F1 T1) T1).vx))).setCell ⟨k9, 9, none⟩ (.int .i64 ((takeS (lowId F1 T1) T1).vy))).setCell ⟨k9, 10, none⟩ (.int .i64 ((takeS (lowId F1 T1) T1).vz))) k8 (takeS (lowId F1 T1) F1) ∧ SnAt 120 (((((((((((we.setCell ⟨k9, 0, none⟩ (.int .i64 ((takeS (lowId F1 T1) T1).id))).setCell ⟨k9, 1, none⟩ (.int .i64 ((takeS (lowId F1 T1) T1).kd))).setCell ⟨k9, 2, none⟩ (.int .i64 ((takeS (lowId F1 T1) T1).sx))).setCell ⟨k9, 3, none⟩ (.int .i64 ((takeS (lowId F1 T1) T1).sy))).setCell ⟨k9, 4, none⟩ (.int .i64 ((takeS (lowId F1 T1) T1).sz))).setCell ⟨k9, 5, none⟩ (.int .i64 ((takeS (lowId F1 T1) T1).ax))).setCell ⟨k9, 6, none⟩ (.int .i64 ((takeS (lowId F1 T1) T1).ay))).setCell ⟨k9, 7, none⟩ (.int .i64 ((takeS (lowId F1 T1) T1).az))).setCell ⟨k9, 8, none⟩ (.int .i64 ((takeS (lowId F1 T1) T1).vx))).setCell ⟨k9, 9, none⟩ (.int .i64 ((takeS (lowId F1 T1) T1).vy))).setCell ⟨k9, 10, none⟩ (.int .i64 ((takeS (lowId F1 T1) T1).vz))) k9 (takeS (lowId F1 T1) T1)) := by
              have o9 : Only [k9] we (((((((((((we.setCell ⟨k9, 0, none⟩ (.int .i64 ((takeS (lowId F1 T1) T1).id))).setCell ⟨k9, 1, none⟩ (.int .i64 ((takeS (lowId F1 T1) T1).kd))).setCell ⟨k9, 2, none⟩ (.int .i64 ((takeS (lowId F1 T1) T1).sx))).setCell ⟨k9, 3, none⟩ (.int .i64 ((takeS (lowId F1 T1) T1).sy))).setCell ⟨k9, 4, none⟩ (.int .i64 ((takeS (lowId F1 T1) T1).sz))).setCell ⟨k9, 5, none⟩ (.int .i64 ((takeS (lowId F1 T1) T1).ax))).setCell ⟨k9, 6, none⟩ (.int .i64 ((takeS (lowId F1 T1) T1).ay))).setCell ⟨k9, 7, none⟩ (.int .i64 ((takeS (lowId F1 T1) T1).az))).setCell ⟨k9, 8, none⟩ (.int .i64 ((takeS (lowId F1 T1) T1).vx))).setCell ⟨k9, 9, none⟩ (.int .i64 ((takeS (lowId F1 T1) T1).vy))).setCell ⟨k9, 10, none⟩ (.int .i64 ((takeS (lowId F1 T1) T1).vz))) := ((((((((((((Only.refl [k9] we).setCell (p := ⟨k9, 0, none⟩) (Or.inl (by simp)) _).setCell (p := ⟨k9, 1, none⟩) (Or.inl (by simp)) _).setCell (p := ⟨k9, 2, none⟩) (Or.inl (by simp)) _).setCell (p := ⟨k9, 3, none⟩) (Or.inl (by simp)) _).setCell (p := ⟨k9, 4, none⟩) (Or.inl (by simp)) _).setCell (p := ⟨k9, 5, none⟩) (Or.inl (by simp)) _).setCell (p := ⟨k9, 6, none⟩) (Or.inl (by simp)) _).setCell (p := ⟨k9, 7, none⟩) (Or.inl (by simp)) _).setCell (p := ⟨k9, 8, none⟩) (Or.inl (by simp)) _).setCell (p := ⟨k9, 9, none⟩) (Or.inl (by simp)) _).setCell (p := ⟨k9, 10, none⟩) (Or.inl (by simp)) _)
              exact ⟨HG.out.1.then o9 (fun y hy => by simp only [List.mem_singleton] at hy; right; rw [hy]; exact HG.out.2.2.2.2.2), HG.out.2.1.only o9 (by simp only [List.mem_singleton]; exact HG.out.2.2.2.2.1), sn_put HG.out.2.2.1 _⟩
            clear z0 y0 z1 y1 z2 y2 z3 y3 z4 y4 z5 y5 z6 y6 z7 y7 z8 y8 z9 y9 z10 y10
            clear HG
            generalize (((((((((((we.setCell ⟨k9, 0, none⟩ (.int .i64 ((takeS (lowId F1 T1) T1).id))).setCell ⟨k9, 1, none⟩ (.int .i64 ((takeS (lowId F1 T1) T1).kd))).setCell ⟨k9, 2, none⟩ (.int .i64 ((takeS (lowId F1 T1) T1).sx))).setCell ⟨k9, 3, none⟩ (.int .i64 ((takeS (lowId F1 T1) T1).sy))).setCell ⟨k9, 4, none⟩ (.int .i64 ((takeS (lowId F1 T1) T1).sz))).setCell ⟨k9, 5, none⟩ (.int .i64 ((takeS (lowId F1 T1) T1).ax))).setCell ⟨k9, 6, none⟩ (.int .i64 ((takeS (lowId F1 T1) T1).ay))).setCell ⟨k9, 7, none⟩ (.int .i64 ((takeS (lowId F1 T1) T1).az))).setCell ⟨k9, 8, none⟩ (.int .i64 ((takeS (lowId F1 T1) T1).vx))).setCell ⟨k9, 9, none⟩ (.int .i64 ((takeS (lowId F1 T1) T1).vy))).setCell ⟨k9, 10, none⟩ (.int .i64 ((takeS (lowId F1 T1) T1).vz))) = wf at HI ⊢
            have z0 := HI.out.2.1.off 0
            have z1 := HI.out.2.1.off 1
            have z2 := HI.out.2.1.off 2
            have z3 := HI.out.2.1.off 3
            have z4 := HI.out.2.1.off 4
            have z5 := HI.out.2.1.off 5
            have z6 := HI.out.2.1.off 6
            have z7 := HI.out.2.1.off 7
            have z8 := HI.out.2.1.off 8
            have z9 := HI.out.2.1.off 9
            have z10 := HI.out.2.1.off 10
            simp only [zs, List.getElem?_toArray, List.getElem?_cons_succ, List.getElem?_cons_zero] at z0 z1 z2 z3 z4 z5 z6 z7 z8 z9 z10
            have y0 := HI.out.2.2.off 0
            have y1 := HI.out.2.2.off 1
            have y2 := HI.out.2.2.off 2
            have y3 := HI.out.2.2.off 3
            have y4 := HI.out.2.2.off 4
            have y5 := HI.out.2.2.off 5
            have y6 := HI.out.2.2.off 6
            have y7 := HI.out.2.2.off 7
            have y8 := HI.out.2.2.off 8
            have y9 := HI.out.2.2.off 9
            have y10 := HI.out.2.2.off 10
            simp only [zs, List.getElem?_toArray, List.getElem?_cons_succ, List.getElem?_cons_zero] at y0 y1 y2 y3 y4 y5 y6 y7 y8 y9 y10
            go_wp2_with fail
            refine (change_calls x B la (takeS (lowId F1 T1) F1) (takeS (lowId F1 T1) T1) _ (HD.out.sw.only HI.out.1 (by simp)) HD.out.la0 (ok_take HD.out.la0 HD.out.rf) (ok_take HD.out.la0 HD.out.rt)).mono ?_
            rintro e wg ⟨rfl, hs, og⟩
            clear z0 y0 z1 y1 z2 y2 z3 y3 z4 y4 z5 y5 z6 y6 z7 y7 z8 y8 z9 y9 z10 y10
            obtain ⟨a3, c3, e3, _, _⟩ := HU2.out w HD.out.au
            obtain ⟨a4, c4, e4, _, _⟩ := HV2.out w HD.out.av
            subst e3; subst e4
            have HJ : Hid (DlS w x F T (.slice a3 (takeL (lowId F1 T1) F1).length c3) (.slice a4 (takeL (lowId F1 T1) T1).length c4) (takeL (lowId F1 T1) F1) (takeL (lowId F1 T1) T1) (f - 1) (B ++ chgB la (takeS (lowId F1 T1) F1) (takeS (lowId F1 T1) T1)) (chgL la (takeS (lowId F1 T1) F1) (takeS (lowId F1 T1) T1)) wg) :=
              HD.out.next HN.out HU2.out HV2.out hs ((HI.out.1.mono (by simp)).trans og)
            clear hs og HI HU2 HV2
            go_wp2_with fail
            go_roundg ((takeL (lowId F1 T1) F1).length + (takeL (lowId F1 T1) T1).length)
            case measure => have h1 := (take_shorter HN.out).1; have h2 := HK.out; omega
            case rel => exact ⟨_, _, _, _, _, a3, c3, a4, c4, rfl, rfl, rfl, HJ⟩
end Go.Proofs.Ytedhdmahdioboaa
