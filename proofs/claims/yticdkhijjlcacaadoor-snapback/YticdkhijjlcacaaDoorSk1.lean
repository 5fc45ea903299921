/- gyrekeep.sameViews and viewed; what changes from a view to itself: plain. -/
import Derived.Test.YticdkhijjlcacaaDoorAp7
namespace Go.Proofs.YticdkhijjlcacaaDoor
open Go.ChangeShapes Go.WideShapes Go.ChangeAt Go.RowKit
set_option linter.unusedVariables false
set_option linter.unusedSimpArgs false
theorem delta_self {A : List Sn} (h : rightL A = true) : bytesOf (deltaT A A) = [192] ∧ (deltaT A A).length ≤ 31872 := by
  have hr := (rightL_ris h).1
  have e : deltaT A A = putB 3 2 := by
    unfold deltaT
    rcases delta_next (A.length + A.length) A A 0 0 (Nat.le_refl _) hr hr (Int.le_refl _) (Int.le_refl _) with ⟨_, e⟩ | ⟨P, F1, T1, id, hx⟩
    · rw [e]; rfl
    · exfalso
      have h1 : P ++ F1 = P ++ T1 := hx.eF.symm.trans hx.eT
      have h2 : F1 = T1 := List.append_cancel_left h1
      have h3 := hx.ne
      rw [h2, (eqS_iff _ _).2 rfl] at h3
      cases h3
  rw [e]
  exact ⟨by decide, by decide⟩
/-- A seen one out of a row. -/
theorem run_loadS {ρ : Operand → Value} {o : Oper} {x : Operand} {g p : Nat} {s : Sn} {w : World} (ho : o.op = .load 61 x) (hx : ρ x = .pointer (some ⟨g, p, none⟩)) (h : ∀ k, k < 11 → w.cell? ⟨g, p + k, none⟩ = some (sc s k)) :
    (execOp ρ o).run Tryd.prog w = .ok (.value (.agg #[.int .i64 (s.id), .int .i64 (s.kd), .int .i64 (s.sx), .int .i64 (s.sy), .int .i64 (s.sz), .int .i64 (s.ax), .int .i64 (s.ay), .int .i64 (s.az), .int .i64 (s.vx), .int .i64 (s.vy), .int .i64 (s.vz)])) w := by
  have c0 := h 0 (by omega)
  have c1 := h 1 (by omega)
  have c2 := h 2 (by omega)
  have c3 := h 3 (by omega)
  have c4 := h 4 (by omega)
  have c5 := h 5 (by omega)
  have c6 := h 6 (by omega)
  have c7 := h 7 (by omega)
  have c8 := h 8 (by omega)
  have c9 := h 9 (by omega)
  have c10 := h 10 (by omega)
  simp only [sc, Nat.add_zero] at c0 c1 c2 c3 c4 c5 c6 c7 c8 c9 c10
  clear h
  unfold execOp
  rw [ho]
  simp only [hx]
  go_simp
theorem run_neqS (ρ : Operand → Value) (o : Oper) (x y : Operand) (u v : Sn) (w : World) (ho : o.op = .binOp .neq 61 x y 61) (hx : ρ x = .agg #[.int .i64 (u.id), .int .i64 (u.kd), .int .i64 (u.sx), .int .i64 (u.sy), .int .i64 (u.sz), .int .i64 (u.ax), .int .i64 (u.ay), .int .i64 (u.az), .int .i64 (u.vx), .int .i64 (u.vy), .int .i64 (u.vz)]) (hy : ρ y = .agg #[.int .i64 (v.id), .int .i64 (v.kd), .int .i64 (v.sx), .int .i64 (v.sy), .int .i64 (v.sz), .int .i64 (v.ax), .int .i64 (v.ay), .int .i64 (v.az), .int .i64 (v.vx), .int .i64 (v.vy), .int .i64 (v.vz)]) :
    (execOp ρ o).run Tryd.prog w = .ok (.value (.bool (!(eqS u v)))) w := by
  unfold execOp
  rw [ho]
  simp only [hx, hy]
  go_simp
  unfold eqS
  (repeat' split) <;> simp_all
theorem eqS_self (u : Sn) : eqS u u = true := (eqS_iff u u).2 rfl
set_option maxRecDepth 100000 in
set_option maxHeartbeats 2000000 in
theorem sameViews_calls (V : List Sn) (u v : Value) (w : World) (hu : SvAt w u V) (hv : SvAt w v V) (hl : V.length ≤ 1000) :
    Calls Tryd.prog 17 #[u, v] w fun e w' => e = .returned (.bool true) ∧ Only [] w w' := by
  obtain ⟨a, c, rfl, _, hu⟩ := hu
  obtain ⟨b, d, rfl, _, hv⟩ := hv
  have HB : Hid (SeenAt w a V.length (fun j => V.getD j zs) ∧ SeenAt w b V.length (fun j => V.getD j zs) ∧ V.length ≤ 1000) := ⟨hu, hv, hl⟩
  clear hu hv hl
  go_enter Tryd.func17, Tryd.ntmps17
  go_wp2_with fail
  go_loopg [5] V.length (fun k s5 wr => ∃ i : Nat, s5 = .int .i64 (i : Int) ∧ Hid (i ≤ V.length ∧ k = V.length - i) ∧ Hid (Only [] w wr))
  case atStart => exact ⟨0, rfl, ⟨by omega, rfl⟩, Only.refl _ _⟩
  case round =>
    obtain ⟨i, rfl, HI, HE⟩ := hrel
    have hn := HB.out.2.2
    by_cases hi : i < V.length
    · have hil : (i : Int) < (V.length : Int) := by omega
      obtain ⟨g, o, rfl, c1⟩ := (HB.out.1.only HE.out) i hi
      obtain ⟨g', o', rfl, c2⟩ := (HB.out.2.1.only HE.out) i hi
      simp only at c1 c2
      generalize V.getD i zs = s at c1 c2
      go_upto_region 6 with fail
      refine wp_region_held_drew (S := (fun w' => (∀ k, k < 11 → w'.cell? ⟨g, o + i * 11 + k, none⟩ = some (sc s k)) ∧ ∀ k, k < 11 → w'.cell? ⟨g', o' + i * 11 + k, none⟩ = some (sc s k))) (by kernel_rfl) ?_ (fun hHeld1 => ?_)
      · (try dsimp only); exact ⟨c1, c2⟩
      refine tkW 0 rfl ?_; refine tkW 1 rfl ?_; refine tkW 2 rfl ?_
      try simp only [Act.put, List.setIfInBounds_toArray, List.set_cons_zero, List.set_cons_succ, List.getElem_toArray, List.getElem_cons_succ, List.getElem_cons_zero]
      refine tkW (v := .agg #[.int .i64 (s.id), .int .i64 (s.kd), .int .i64 (s.sx), .int .i64 (s.sy), .int .i64 (s.sz), .int .i64 (s.ax), .int .i64 (s.ay), .int .i64 (s.az), .int .i64 (s.vx), .int .i64 (s.vy), .int .i64 (s.vz)]) 3 rfl ?_ (by intro w'' hSw; (try dsimp only at hSw); simp only [List.getElem_toArray, List.getElem_cons_succ, List.getElem_cons_zero]; exact (run_loadS rfl rfl hSw.1))
      try simp only [Act.put, List.setIfInBounds_toArray, List.set_cons_zero, List.set_cons_succ, List.getElem_toArray, List.getElem_cons_succ, List.getElem_cons_zero]
      refine tkW 4 rfl ?_; refine tkW 5 rfl ?_; refine tkW 6 rfl ?_
      try simp only [Act.put, List.setIfInBounds_toArray, List.set_cons_zero, List.set_cons_succ, List.getElem_toArray, List.getElem_cons_succ, List.getElem_cons_zero]
      refine tkW (v := .agg #[.int .i64 (s.id), .int .i64 (s.kd), .int .i64 (s.sx), .int .i64 (s.sy), .int .i64 (s.sz), .int .i64 (s.ax), .int .i64 (s.ay), .int .i64 (s.az), .int .i64 (s.vx), .int .i64 (s.vy), .int .i64 (s.vz)]) 7 rfl ?_ (by intro w'' hSw; (try dsimp only at hSw); simp only [List.getElem_toArray, List.getElem_cons_succ, List.getElem_cons_zero]; exact (run_loadS rfl rfl hSw.2))
      try simp only [Act.put, List.setIfInBounds_toArray, List.set_cons_zero, List.set_cons_succ, List.getElem_toArray, List.getElem_cons_succ, List.getElem_cons_zero]
      refine tkW (v := .bool (!(eqS s s))) 8 rfl ?_ (by intro w'' hSw; (try dsimp only at hSw); simp only [List.getElem_toArray, List.getElem_cons_succ, List.getElem_cons_zero]; exact (run_neqS _ _ _ _ s s _ rfl rfl rfl))
      try simp only [Act.put, List.setIfInBounds_toArray, List.set_cons_zero, List.set_cons_succ, List.getElem_toArray, List.getElem_cons_succ, List.getElem_cons_zero]
      refine wpAnyH_done (by kernel_rfl) ?_ _
      rw [eqS_self]
      have H9 : Hid (Only [] w wr.drew) := HE.out.drew
      clear HE c1 c2
      generalize wr.drew = w9 at H9 ⊢
      go_wp2_with fail
      go_roundg (V.length - (i + 1))
      case measure => have := HI.out.2; omega
      case rel => exact ⟨i + 1, by go_num, ⟨by omega, rfl⟩, H9⟩
    · have hil : ¬ (i : Int) < (V.length : Int) := by omega
      go_wp2_with fail
      go_ret
      exact ⟨rfl, HE.out⟩
/-- The view that viewed makes. -/
def vd : Sn := ⟨3, 1, 0, 0, 0, 7, 0, 0, 0, 0, 0⟩
theorem vd_right : rightL [vd] = true := by decide
theorem vd_len : (deltaT [] [vd]).length ≤ 31872 := by
  have hr := (rightL_ris vd_right).1
  have e : deltaT [] [vd] = chgB 0 (takeS (lowId [] [vd]) []) (takeS (lowId [] [vd]) [vd]) ++ deltaM 0 (takeL (lowId [] [vd]) []) (takeL (lowId [] [vd]) [vd]) (chgL 0 (takeS (lowId [] [vd]) []) (takeS (lowId [] [vd]) [vd])) ++ putB 3 2 := by
    unfold deltaT
    show deltaM (0 + 1) [] [vd] 0 ++ putB 3 2 = _
    rw [deltaM_step 0 (by simp)]
  have h := chg_len (la := 0) (id := lowId [] [vd]) (F1 := []) (T1 := [vd]) (Int.le_refl _) (ok_take (Int.le_refl _) trivial) (ok_take (Int.le_refl _) hr) (by simp [takeL]) (by simp [takeL, lowId])
  rw [e]
  simp only [List.length_append, putB_len, deltaM, List.length_nil, List.length_singleton] at h ⊢
  omega
theorem vd_del : Del [] (bytesOf (deltaT [] [vd])) [vd] := ⟨vd_right, vd_len, rfl⟩
set_option maxRecDepth 100000 in
set_option maxHeartbeats 2000000 in
theorem viewed_calls (w : World) : Calls Tryd.prog 15 #[] w fun e w' => e = .returned (.bool true) ∧ Only [] w w' := by
  go_enter Tryd.func15, Tryd.ntmps15
  go_upto_region 2 with fail
  have H0 : Hid (SeenAt (w.alloc (.cells #[.int .i64 3, .int .i64 1, .int .i64 0, .int .i64 0, .int .i64 0, .int .i64 7, .int .i64 0, .int .i64 0, .int .i64 0, .int .i64 0, .int .i64 0] 61)) (some ⟨w.heap.size, 0, none⟩) [vd].length (fun j => [vd].getD j zs) ∧ Only [] w (w.alloc (.cells #[.int .i64 3, .int .i64 1, .int .i64 0, .int .i64 0, .int .i64 0, .int .i64 7, .int .i64 0, .int .i64 0, .int .i64 0, .int .i64 0, .int .i64 0] 61))) := ⟨seen_one w vd, (Only.refl _ _).alloc _⟩
  revert H0
  generalize w.heap.size = kb
  generalize World.alloc w _ = w0
  intro H0
  have HV : Hid (∀ w', Only [] w0 w' → SvAt w' (.slice (some ⟨kb, 0, none⟩) 1 1) [vd]) := fun w' o => ⟨some ⟨kb, 0, none⟩, 1, rfl, Nat.le_refl _, H0.out.1.only o⟩
  go_wp2_with fail
  refine (delta_calls [] [vd] _ _ w0 ⟨none, 0, rfl, Nat.le_refl _, fun j hj => by simp at hj⟩ (HV.out w0 (Only.refl _ _)) (by simp) (by simp)).mono ?_
  rintro e w1 ⟨o1, h1⟩
  have hd := vd_del
  rcases h1 with ⟨hno, _⟩ | ⟨_, _, hgt, _⟩ | ⟨_, _, _, v1, rfl, hfr⟩
  · exact absurd ⟨(by decide), hd.1⟩ hno
  · have := hd.2.1; omega
  · obtain ⟨g1, cc, rfl, hg1, hg2, hby, hlc⟩ := hfr
    have H1 : Hid (ByAt w1 (some ⟨g1, 0, none⟩) (bytesOf (deltaT [] [vd])) ∧ Only [] w0 w1) := ⟨hby, o1⟩
    have HD : Hid (Del [] (bytesOf (deltaT [] [vd])) [vd]) := hd
    have HSM : Hid (∀ x ∈ bytesOf (deltaT [] [vd]), x < 256) := bytesOf_small (delta_bits _ _)
    clear hby o1 hd hg1 hg2 hlc
    have HLN : Hid ((bytesOf (deltaT [] [vd])).length ≤ 3984) := HD.out.len
    generalize bytesOf (deltaT [] [vd]) = B at H1 HD HSM HLN ⊢
    go_wp2_with fail
    refine (apply_calls [] (.slice none 0 0) (some ⟨g1, 0, none⟩) cc B w1 ⟨none, 0, rfl, Nat.le_refl _, fun j hj => by simp at hj⟩ (fun n c e => by injection e with _ _ e; exact e.symm) (by simp) (by have := HLN.out; omega) HSM.out H1.out.1 (fun e => by cases e)).mono ?_
    rintro e w2 ⟨o2, h2⟩
    rcases h2 with ⟨hr, _⟩ | ⟨_, hno, _⟩ | ⟨_, T, v2, hdel, huni, rfl, hown⟩
    · exact absurd hr (by decide)
    · exact absurd HD.out (hno _)
    · obtain rfl := (huni _ HD.out)
      obtain ⟨a2, c2, rfl, hc2, hs2⟩ := (own_sv hown).1
      obtain ⟨g2, p2, rfl, hz⟩ := hs2 0 (by simp)
      obtain ⟨_, _, e3, hz2⟩ := (H0.out.1.only (H1.out.2.trans o2)) 0 (by simp)
      injection e3 with e3
      injection e3 with e4 e5 _
      subst e4 e5
      have H2 : Hid (Only [] w w2) := H0.out.2.trans (H1.out.2.trans o2)
      simp only [Nat.zero_mul, Nat.add_zero, Nat.zero_add] at hz hz2
      have hz' : ∀ k, k < 11 → w2.cell? ⟨g2, p2 + k, none⟩ = some (sc vd k) := hz
      have hz2' : ∀ k, k < 11 → w2.cell? ⟨kb, 0 + k, none⟩ = some (sc vd k) := fun k hk => by rw [Nat.zero_add]; exact hz2 k hk
      clear hz hz2 hdel huni hown hc2 o2
      simp only [List.length_singleton]
      go_upto_region 4 with fail
      refine wp_region_held_drew (S := (fun w' => (∀ k, k < 11 → w'.cell? ⟨g2, p2 + k, none⟩ = some (sc vd k)) ∧ ∀ k, k < 11 → w'.cell? ⟨kb, 0 + k, none⟩ = some (sc vd k))) (by kernel_rfl) ?_ (fun hHeld1 => ?_)
      · (try dsimp only); exact ⟨hz', hz2'⟩
      refine tkW 0 rfl ?_; refine tkW 1 rfl ?_; refine tkW 2 rfl ?_; refine tkW 3 rfl ?_
      try simp only [Act.put, List.setIfInBounds_toArray, List.set_cons_zero, List.set_cons_succ, List.getElem_toArray, List.getElem_cons_succ, List.getElem_cons_zero]
      refine tkW 4 rfl ?_; refine tkW 5 rfl ?_; refine tkW 6 rfl ?_; refine tkW 7 rfl ?_
      try simp only [Act.put, List.setIfInBounds_toArray, List.set_cons_zero, List.set_cons_succ, List.getElem_toArray, List.getElem_cons_succ, List.getElem_cons_zero]
      refine tkW 8 rfl ?_; refine tkW 9 rfl ?_; refine tkW 10 rfl ?_; refine tkW 11 rfl ?_
      try simp only [Act.put, List.setIfInBounds_toArray, List.set_cons_zero, List.set_cons_succ, List.getElem_toArray, List.getElem_cons_succ, List.getElem_cons_zero]
      refine tkW 12 rfl ?_; refine tkW 13 rfl ?_
      try simp only [Act.put, List.setIfInBounds_toArray, List.set_cons_zero, List.set_cons_succ, List.getElem_toArray, List.getElem_cons_succ, List.getElem_cons_zero]
      refine tkW (v := .agg #[.int .i64 (vd.id), .int .i64 (vd.kd), .int .i64 (vd.sx), .int .i64 (vd.sy), .int .i64 (vd.sz), .int .i64 (vd.ax), .int .i64 (vd.ay), .int .i64 (vd.az), .int .i64 (vd.vx), .int .i64 (vd.vy), .int .i64 (vd.vz)]) 14 rfl ?_ (by intro w'' hSw; (try dsimp only at hSw); simp only [List.getElem_toArray, List.getElem_cons_succ, List.getElem_cons_zero]; exact (run_loadS rfl rfl hSw.1))
      try simp only [Act.put, List.setIfInBounds_toArray, List.set_cons_zero, List.set_cons_succ, List.getElem_toArray, List.getElem_cons_succ, List.getElem_cons_zero]
      refine tkW 15 rfl ?_; refine tkW 16 rfl ?_
      try simp only [Act.put, List.setIfInBounds_toArray, List.set_cons_zero, List.set_cons_succ, List.getElem_toArray, List.getElem_cons_succ, List.getElem_cons_zero]
      refine tkW (v := .agg #[.int .i64 (vd.id), .int .i64 (vd.kd), .int .i64 (vd.sx), .int .i64 (vd.sy), .int .i64 (vd.sz), .int .i64 (vd.ax), .int .i64 (vd.ay), .int .i64 (vd.az), .int .i64 (vd.vx), .int .i64 (vd.vy), .int .i64 (vd.vz)]) 17 rfl ?_ (by intro w'' hSw; (try dsimp only at hSw); simp only [List.getElem_toArray, List.getElem_cons_succ, List.getElem_cons_zero]; exact (run_loadS rfl rfl hSw.2))
      try simp only [Act.put, List.setIfInBounds_toArray, List.set_cons_zero, List.set_cons_succ, List.getElem_toArray, List.getElem_cons_succ, List.getElem_cons_zero]
      refine tkW (v := .bool (eqS vd vd)) 18 rfl ?_ (by intro w'' hSw; (try dsimp only at hSw); simp only [List.getElem_toArray, List.getElem_cons_succ, List.getElem_cons_zero]; exact (run_eqS _ _ _ _ vd vd _ rfl rfl rfl))
      try simp only [Act.put, List.setIfInBounds_toArray, List.set_cons_zero, List.set_cons_succ, List.getElem_toArray, List.getElem_cons_succ, List.getElem_cons_zero]
      refine tkW 19 rfl ?_; refine tkW 20 rfl ?_
      try simp only [Act.put, List.setIfInBounds_toArray, List.set_cons_zero, List.set_cons_succ, List.getElem_toArray, List.getElem_cons_succ, List.getElem_cons_zero]
      refine wpAnyH_done (by kernel_rfl) ?_ _
      rw [eqS_self]
      go_wp2_with fail
      go_ret
      exact ⟨rfl, H2.out.drew⟩
end Go.Proofs.YticdkhijjlcacaaDoor
