/- gyrelaw.SessionPlays: its walk. -/
import Derived.Test.YtepgcpcanbekaaaDoorSe5
import Derived.Deep.CutBlock
namespace Go.Proofs.YtepgcpcanbekaaaDoor
open Go.ChangeShapes Go.WideShapes Go.ChangeAt Go.RowKit
set_option linter.unusedVariables false
set_option linter.unusedSimpArgs false

theorem Both.tick {w : World} {x y : Nat} {tok most each : Int} {s : Se} {S : List Int} {wr w1 : World} (h : Both w x y tok most each s S wr) (h1 : SeAt w1 x { s with left := tickL s }) (o1 : Only [x] wr w1) :
    Both w x y tok most each { s with left := tickL s } S (w1.setCell ⟨y, 3, none⟩ (.int .i64 (tickL s))) := by
  have hxy := h.hxy
  have o2 : Only [y] w1 (w1.setCell ⟨y, 3, none⟩ (.int .i64 (tickL s))) := (Only.refl [y] w1).setCell (p := ⟨y, 3, none⟩) (Or.inl (by simp)) _
  refine ⟨h1.only o2 (by simpa using hxy), tick_ok h.ok, h.came.left _, ?_, h.hx, h.hxy, h.hy, h.tk, h.mo, h.ea, (h.only.then o1 (fun b hb => ?_)).then o2 (fun b hb => ?_)⟩
  · exact wk_left (wk_other h.wk o1 (by simp) h.hxy) (tickL s)
  · rw [List.mem_singleton.1 hb]; exact Or.inr h.hx
  · rw [List.mem_singleton.1 hb]; exact Or.inr h.hy
theorem Both.take {w : World} {x y : Nat} {tok most each : Int} {s : Se} {S : List Int} {wr w1 w2 : World} {qt qn c : Int} (h : Both w x y tok most each s S wr) (h1 : SeAt w1 x (takeM s qt qn)) (o1 : Only [x] wr w1) (hc : takeR tok s.left S qt qn = c)
    (h2 : WkS [x, y] w.heap.size y (if c = 0 then ⟨tok, most, each, s.left - 1⟩ else ⟨tok, most, each, s.left⟩) (if c = 0 then S ++ [qn] else S) w2) (t2 : Turns [x, y] w.heap.size y w1 w2) :
    Both w x y tok most each (takeM s qt qn) (if c = 0 then S ++ [qn] else S) w2 := by
  obtain ⟨D, o2, hD⟩ := t2
  have T := take_all h.ok h.came qt qn
  rw [h.tk, hc] at T
  obtain ⟨t1, t2, t3, t4, t5, t6⟩ := T
  have hxy := h.hxy
  refine ⟨h1.only o2 (fun hb => ?_), t1, t2, ?_, h.hx, h.hxy, h.hy, t3, t4.trans h.mo, t5.trans h.ea, (h.only.then o1 (fun b hb => ?_)).then o2 (fun b hb => ?_)⟩
  · rcases hD x hb with q | q
    · exact hxy q
    · exact q.1 (by simp)
  · rw [t6]
    by_cases e : c = 0
    · rw [if_pos e] at h2 ⊢
      exact h2
    · rw [if_neg e] at h2 ⊢
      exact h2
  · rw [List.mem_singleton.1 hb]; exact Or.inr h.hx
  · rcases hD b hb with q | q
    · rw [q]; exact Or.inr h.hy
    · exact Or.inr q.2
set_option maxRecDepth 100000 in
set_option maxHeartbeats 4000000 in
theorem sessionPlays_calls (tok most each : Int) (a : Option Addr) (len cap : Nat) (M : Nat → Tr) (w : World) (hg : EtIs w) (h : len ≤ 150) (hn : newOk tok most each) (hM : TriesAt w a len M) :
    Calls Tryd.prog 4 #[.int .i64 tok, .int .i64 most, .int .i64 each, .slice a len cap] w fun e w' => e = .returned (.bool true) ∧ Only [] w w' := by
  have hl : ¬ (len : Int) > 150 := by omega
  have HG : Hid (EtIs w ∧ TriesAt w a len M ∧ newOk tok most each) := ⟨hg, hM, hn⟩
  have q1 : decide (tok < 0) = false := by have := hn.1; simp; omega
  have q2 : decide (tok > 70368744177664) = false := by have := hn.1; simp; omega
  have q3 : decide (most < 0) = false := by have := hn.2.1; simp; omega
  have q4 : decide (most > 1000) = false := by have := hn.2.1; simp; omega
  have q5 : decide (each < 0) = false := by have := hn.2.2; simp; omega
  have q6 : decide (each > 1000) = false := by have := hn.2.2; simp; omega
  clear hg hn hM
  go_enter Tryd.func4, Tryd.ntmps4
  go_wp2_with fail
  refine (newS_right tok most each w HG.out.2.2).mono ?_
  rintro e w1 ⟨x, rfl, hx, hs, o1⟩
  have H1 : Hid (w.heap.size ≤ x ∧ SeAt w1 x ⟨tok, most, each, most, -1, 0⟩ ∧ Only [] w w1) := ⟨hx, hs, o1⟩
  clear hx hs o1
  go_upto_region 9 with fail
  have H2 : Hid (Both w x w1.heap.size tok most each ⟨tok, most, each, most, -1, 0⟩ [] (w1.alloc (.cells #[.int .i64 tok, .int .i64 most, .int .i64 each, .int .i64 most, .slice none 0 0] 44))) := by
    obtain ⟨n1, n2, n3⟩ := HG.out.2.2
    have hlt := H1.out.2.1.lt
    refine ⟨H1.out.2.1.only (D := []) ((Only.refl _ _).alloc _) (by simp), ⟨n2.1, n2.2, n3.1, n3.2, n2.1, Int.le_refl _, Int.le_refl _, by show (-1 : Int) ≤ _; decide, by show 0 < 2 ^ 64; decide⟩, Came.start _ _ _ _, ⟨.slice none 0 0, (MapKept.heap_alloc w1 _).1, ⟨rfl, Or.inl ⟨rfl, rfl⟩⟩, by simp, by simp [ownL, Value.ownBlock]⟩, H1.out.1, by omega, H1.out.2.2.size, rfl, rfl, rfl, H1.out.2.2.alloc _⟩
  clear H1
  revert H2
  generalize w1.heap.size = y
  generalize World.alloc w1 _ = w2
  intro H2
  go_wp2_with fail
  go_loopg [12] len (fun k' idx wr => ∃ i : Nat, idx = .int .i64 (i : Int) ∧ Hid (i ≤ len ∧ k' = len - i) ∧ Hid (∃ s S, Both w x y tok most each s S wr ∧ S.length ≤ i))
  case atStart => exact ⟨0, rfl, ⟨by omega, rfl⟩, ⟨_, [], H2.out, by simp⟩⟩
  case round =>
    clear H2
    obtain ⟨i, rfl, HI, HE0⟩ := hrel
    obtain ⟨s, S, hB, hSl⟩ := HE0.out
    have HE : Hid (Both w x y tok most each s S wr ∧ S.length ≤ i) := ⟨hB, hSl⟩
    clear hB hSl HE0
    by_cases hi : i < len
    case neg =>
      have hil : ¬ (i : Int) < (len : Int) := by omega
      go_wp2_with fail
      go_ret
      exact ⟨rfl, HE.out.1.only⟩
    have hil : (i : Int) < (len : Int) := by omega
    obtain ⟨b, o, rfl, c0, c1, c2⟩ := (HG.out.2.1.only HE.out.1.only) i hi
    have HCB : Hid (b < w.heap.size ∧ w.cell? ⟨b, o + i * 3 + 1, none⟩ = some (.int .i64 ((M i).tok)) ∧ w.cell? ⟨b, o + i * 3 + 2, none⟩ = some (.int .i64 ((M i).n))) := by
      obtain ⟨b', o', e, h0, h1, h2⟩ := HG.out.2.1 i hi
      injection e with e; injection e with e1 e2 _; subst e1 e2
      exact ⟨World.block_lt_of_cell? w _ h0, h1, h2⟩
    revert HCB
    generalize M i = q at c0 c1 c2
    obtain ⟨t, qt, qn⟩ := q
    simp only at c0 c1 c2
    intro HCB
    go_upto_block 2 with fail
    go_cut [] from 75 to 117 (fun wc => ∃ s S, Both w x y tok most each s S wc ∧ S.length ≤ i + 1)
    case first =>
      by_cases ht0 : t = 0
      · subst ht0
        go_wp2_with fail
        refine (tick_calls x s wr HE.out.1.se HE.out.1.ok).mono ?_
        rintro e w3 ⟨rfl, h3, o3⟩
        obtain ⟨v, k1, _⟩ := wk_other HE.out.1.wk o3 (by simp) HE.out.1.hxy
        have c3 := k1.c3
        have f3 := k1.free 3
        have H3 : Hid (Both w x y tok most each { s with left := tickL s } S (w3.setCell ⟨y, 3, none⟩ (.int .i64 (tickL s)))) := HE.out.1.tick h3 o3
        have ok := HE.out.1.ok
        have b0 := ok.l0; have b1 := ok.l1; have b2 := ok.m1; have b3 := ok.e0; have b4 := ok.e1
        have eM := HE.out.1.mo; have eE := HE.out.1.ea
        have b5 : 0 ≤ s.left + each := by omega
        have b6 : s.left + each ≤ 2000 := by omega
        by_cases hq : s.left + each < most
        · have HT : Hid (tickL s = s.left + each) := by show _ = _; unfold tickL; rw [eM, eE, if_pos hq]
          have hq2 : ¬ most < s.left + each := by omega
          clear h3 o3 k1 eM eE b0 b1 b2 b3 b4 ok
          go_wp2_with fail
          go_meet
          case rel =>
            have H4 := H3.out
            rw [HT.out] at H4
            exact ⟨_, S, H4, by have := HE.out.2; omega⟩
        · have HT : Hid (tickL s = most) := by show _ = _; unfold tickL; rw [eM, eE, if_neg hq]
          by_cases hq2 : most < s.left + each
          · clear h3 o3 k1 eM eE b0 b1 b2 b3 b4 ok
            go_wp2_with fail
            go_meet
            case rel =>
              have H4 := H3.out
              rw [HT.out] at H4
              exact ⟨_, S, H4, by have := HE.out.2; omega⟩
          · have HQ : Hid (s.left + each = most) := by show _ = _; omega
            clear h3 o3 k1 eM eE b0 b1 b2 b3 b4 ok
            go_wp2_with fail
            go_meet
            case rel =>
              have H4 := H3.out
              rw [HT.out, ← HQ.out] at H4
              exact ⟨_, S, by rw [HQ.out] at *; exact H4, by have := HE.out.2; omega⟩
      by_cases ht1 : t = 1
      · subst ht1
        obtain ⟨c, hc⟩ : ∃ c, takeR tok s.left S qt qn = c := ⟨_, rfl⟩
        have hc2 : takeC s qt qn = c := by rw [HE.out.1.came.take, HE.out.1.tk, hc]
        have T1 : Hid (∀ u, SeAt u x s → Calls Tryd.prog 9 #[.pointer (some ⟨x, 0, none⟩), .int .i64 qt, .int .i64 qn] u fun e w' => e = .returned (eV c) ∧ SeAt w' x (takeM s qt qn) ∧ Only [x] u w') := by
          intro u hu
          have := takeS_calls x s qt qn u hu HE.out.1.ok
          rwa [hc2] at this
        have T2 : Hid (∀ u, WkS [x, y] w.heap.size y ⟨tok, most, each, s.left⟩ S u → (∀ b ∈ [x, y], b < u.heap.size) ∧ w.heap.size ≤ u.heap.size → Calls Tryd.prog 12 #[.pointer (some ⟨y, 0, none⟩), .int .i64 qt, .int .i64 qn] u fun e w' => e = .returned (.int .i64 c) ∧
            WkS [x, y] w.heap.size y (if c = 0 then ⟨tok, most, each, s.left - 1⟩ else ⟨tok, most, each, s.left⟩) (if c = 0 then S ++ [qn] else S) w' ∧ Turns [x, y] w.heap.size y u w') := by
          intro u hu hX
          have := refTake_calls [x, y] w.heap.size y ⟨tok, most, each, s.left⟩ S qt qn u hu (by have := HE.out.2; omega) ⟨HE.out.1.ok.l0, by have := HE.out.1.ok.l1; have := HE.out.1.ok.m1; show s.left ≤ 1000; omega⟩ (HE.out.1.came.small HE.out.1.ok) hX
          unfold TakePost at this
          rwa [hc] at this
        have HC : Hid (takeR tok s.left S qt qn = c) := hc
        clear hc hc2
        go_upto_region 17 with fail
        have HED : Hid (Both w x y tok most each s S wr.drew ∧ S.length ≤ i) := ⟨HE.out.1.keep (Only.refl [] wr).drew, HE.out.2⟩
        clear HE
        refine wp_region_held_drew (S := (fun w' => w'.cell? ⟨b, o + i * 3 + 1, none⟩ = some (.int .i64 qt) ∧ w'.cell? ⟨b, o + i * 3 + 2, none⟩ = some (.int .i64 qn))) (by kernel_rfl) ?_ (fun hHeld1 => ?_)
        · (try dsimp only); exact ⟨c1, c2⟩
        refine tkW 0 rfl ?_; refine tkW 1 rfl ?_; refine tkW 2 rfl ?_; refine tkW 3 rfl ?_
        try simp only [Act.put, List.setIfInBounds_toArray, List.set_cons_zero, List.set_cons_succ, List.getElem_toArray, List.getElem_cons_succ, List.getElem_cons_zero]
        refine tkW 4 rfl ?_; refine tkW 5 rfl ?_; refine tkW 6 rfl ?_; refine tkW 7 rfl ?_
        try simp only [Act.put, List.setIfInBounds_toArray, List.set_cons_zero, List.set_cons_succ, List.getElem_toArray, List.getElem_cons_succ, List.getElem_cons_zero]
        refine tkW 8 rfl ?_; refine tkW 9 rfl ?_; refine tkW 10 rfl ?_; refine tkW 12 rfl ?_
        try simp only [Act.put, List.setIfInBounds_toArray, List.set_cons_zero, List.set_cons_succ, List.getElem_toArray, List.getElem_cons_succ, List.getElem_cons_zero]
        refine tkW 13 rfl ?_; refine tkW 14 rfl ?_; refine tkW 15 rfl ?_; refine tkW 16 rfl ?_
        try simp only [Act.put, List.setIfInBounds_toArray, List.set_cons_zero, List.set_cons_succ, List.getElem_toArray, List.getElem_cons_succ, List.getElem_cons_zero]
        refine tkW 17 rfl ?_; refine tkW 18 rfl ?_; refine tkW 19 rfl ?_; refine tkW 20 rfl ?_
        try simp only [Act.put, List.setIfInBounds_toArray, List.set_cons_zero, List.set_cons_succ, List.getElem_toArray, List.getElem_cons_succ, List.getElem_cons_zero]
        refine tkW 21 rfl ?_; refine tkW 22 rfl ?_
        try simp only [Act.put, List.setIfInBounds_toArray, List.set_cons_zero, List.set_cons_succ, List.getElem_toArray, List.getElem_cons_succ, List.getElem_cons_zero]
        generalize World.drew wr = wd at HED hHeld1 ⊢
        refine wpAnyH_ready (rs := [11]) (by kernel_rfl) (by simp) ?_
        refine AllReadyH.cons rfl (fun K hK => ?_) AllReadyH.nil
        first | (with_reducible refine iteYes ?hcx ?htx; case hcx => kernel_rfl) | rw [if_pos (by rfl)]
        simp only [List.getElem_toArray, List.getElem_cons_succ, List.getElem_cons_zero]
        go_simp
        (go_at_call 9; refine (T1.out wd HED.out.1.se).mono ?_; rintro e w3 ⟨rfl, h3, o3⟩; have H3 : Hid (SeAt w3 x (takeM s qt qn) ∧ Only [x] wd w3) := ⟨h3, o3⟩; have HBX : Hid (b ≠ x) := fun e => (by have := HCB.out.1; have := HED.out.1.hx; omega); clear h3 o3)
        try go_wp2_with fail
        refine hK.out _ _ ?_ (fun hHeld2 => ?_)
        · (try dsimp only); exact ⟨H3.out.2.cell hHeld1.1 (by simpa using HBX.out), H3.out.2.cell hHeld1.2 (by simpa using HBX.out)⟩
        clear hK K hHeld1
        try simp only [Act.put, List.setIfInBounds_toArray, List.set_cons_zero, List.set_cons_succ, List.getElem_toArray, List.getElem_cons_succ, List.getElem_cons_zero]
        refine wpAnyH_ready (rs := [23]) (by kernel_rfl) (by simp) ?_
        refine AllReadyH.cons rfl (fun K hK => ?_) AllReadyH.nil
        first | (with_reducible refine iteYes ?hcx ?htx; case hcx => kernel_rfl) | rw [if_pos (by rfl)]
        simp only [List.getElem_toArray, List.getElem_cons_succ, List.getElem_cons_zero]
        go_simp
        (go_at_call 12; refine (T2.out w3 (wk_other HED.out.1.wk H3.out.2 (by simp) HED.out.1.hxy) ⟨fun b hb => by have := HED.out.1.lt.1 b hb; have := H3.out.2.size; omega, by have := HED.out.1.lt.2; have := H3.out.2.size; omega⟩).mono ?_; rintro e w4 ⟨rfl, h4, o4⟩; have H4 : Hid (Both w x y tok most each (takeM s qt qn) (if c = 0 then S ++ [qn] else S) w4) := HED.out.1.take H3.out.1 H3.out.2 HC.out h4 o4; clear h4 o4)
        try go_wp2_with fail
        refine hK.out _ _ ?_ (fun hHeld3 => ?_)
        · (try dsimp only); exact ⟨H4.out.only.cell HCB.out.2.1 (by simp), H4.out.only.cell HCB.out.2.2 (by simp)⟩
        clear hK K hHeld2
        try simp only [Act.put, List.setIfInBounds_toArray, List.set_cons_zero, List.set_cons_succ, List.getElem_toArray, List.getElem_cons_succ, List.getElem_cons_zero]
        refine wpAnyH_ready (rs := [24]) (by kernel_rfl) (by simp) ?_
        refine AllReadyH.cons rfl (fun K hK => ?_) AllReadyH.nil
        first | (with_reducible refine iteYes ?hcx ?htx; case hcx => kernel_rfl) | rw [if_pos (by rfl)]
        simp only [List.getElem_toArray, List.getElem_cons_succ, List.getElem_cons_zero]
        go_simp
        (go_at_call 11; refine (bareE_calls c w4 (HG.out.1.only H4.out.only)).mono ?_; rintro e w5 ⟨rfl, k5⟩; have H5 : Hid (Both w x y tok most each (takeM s qt qn) (if c = 0 then S ++ [qn] else S) w5) := H4.out.keep (Only.of_kept k5); clear k5)
        try go_wp2_with fail
        refine hK.out _ _ ?_ (fun hHeld4 => ?_)
        · (try dsimp only); exact ⟨H5.out.only.cell HCB.out.2.1 (by simp), H5.out.only.cell HCB.out.2.2 (by simp)⟩
        clear hK K hHeld3
        try simp only [Act.put, List.setIfInBounds_toArray, List.set_cons_zero, List.set_cons_succ, List.getElem_toArray, List.getElem_cons_succ, List.getElem_cons_zero]
        refine tkW 25 rfl ?_
        try simp only [Act.put, List.setIfInBounds_toArray, List.set_cons_zero, List.set_cons_succ, List.getElem_toArray, List.getElem_cons_succ, List.getElem_cons_zero]
        refine wpAnyH_done (by kernel_rfl) ?_ _
        clear H3 H4 T1 T2
        go_wp2_with fail
        go_meet
        case rel => exact ⟨_, _, H5.out, by have := HED.out.2; split <;> simp <;> omega⟩
      go_wp2_with fail
      go_meet
      case rel => exact ⟨s, S, HE.out.1, by have := HE.out.2; omega⟩
    case rest =>
      clear c0 c1 c2 HE
      obtain ⟨s, S, hB, hSl⟩ := hcut
      have HE : Hid (Both w x y tok most each s S wc ∧ S.length ≤ i + 1) := ⟨hB, hSl⟩
      obtain ⟨v, k1, k2, _⟩ := hB.wk
      have HV : Hid (∀ u, u = wc.drew → Calls Tryd.prog 14 #[.pointer (some ⟨y, 0, none⟩)] u fun e w' => e = .returned (.int .i64 (s.newest)) ∧ w' = u) := by
        rintro u rfl
        have := refNewest_calls y _ v S wc.drew k1.drew (k2.kept (Only.refl [] wc).drew (by simp)) (by omega)
        rwa [← hB.came.new] at this
      have c3 : wc.cell? ⟨y, 3, none⟩ = some (.int .i64 (s.left)) := k1.c3
      have HS : Hid (SeAt wc.drew x s) := hB.se
      clear hB hSl k1 k2
      go_upto_region 19 with fail
      refine wp_region_held_drew (S := (fun w' => w' = wc.drew ∧ w'.cell? ⟨y, 3, none⟩ = some (.int .i64 (s.left)))) (by kernel_rfl) ?_ (fun hHeld1 => ?_)
      · (try dsimp only); exact ⟨rfl, c3⟩
      refine tkW 0 rfl ?_; refine tkW 2 rfl ?_; refine tkW 3 rfl ?_; refine tkW 4 rfl ?_
      try simp only [Act.put, List.setIfInBounds_toArray, List.set_cons_zero, List.set_cons_succ, List.getElem_toArray, List.getElem_cons_succ, List.getElem_cons_zero]
      refine tkW 5 rfl ?_
      try simp only [Act.put, List.setIfInBounds_toArray, List.set_cons_zero, List.set_cons_succ, List.getElem_toArray, List.getElem_cons_succ, List.getElem_cons_zero]
      refine wpAnyH_ready (rs := [1]) (by kernel_rfl) (by simp) ?_
      refine AllReadyH.cons rfl (fun K hK => ?_) AllReadyH.nil
      first | (with_reducible refine iteYes ?hcx ?htx; case hcx => kernel_rfl) | rw [if_pos (by rfl)]
      simp only [List.getElem_toArray, List.getElem_cons_succ, List.getElem_cons_zero]
      go_simp
      (go_at_call 10; refine (leftS_calls x s _ HS.out).mono ?_; rintro e w3 ⟨rfl, rfl⟩)
      try go_wp2_with fail
      refine hK.out _ _ ?_ (fun hHeld2 => ?_)
      · (try dsimp only); exact ⟨rfl, c3⟩
      clear hK K hHeld1
      try simp only [Act.put, List.setIfInBounds_toArray, List.set_cons_zero, List.set_cons_succ, List.getElem_toArray, List.getElem_cons_succ, List.getElem_cons_zero]
      refine tkW (v := .bool false) 6 rfl ?_ (by intro w'' hSw; (try dsimp only at hSw); simp only [List.getElem_toArray, List.getElem_cons_succ, List.getElem_cons_zero]; (go_simp <;> rfl))
      try simp only [Act.put, List.setIfInBounds_toArray, List.set_cons_zero, List.set_cons_succ, List.getElem_toArray, List.getElem_cons_succ, List.getElem_cons_zero]
      refine tkW 7 rfl ?_; refine tkW 8 rfl ?_; refine tkW 10 rfl ?_
      try simp only [Act.put, List.setIfInBounds_toArray, List.set_cons_zero, List.set_cons_succ, List.getElem_toArray, List.getElem_cons_succ, List.getElem_cons_zero]
      refine wpAnyH_ready (rs := [9]) (by kernel_rfl) (by simp) ?_
      refine AllReadyH.cons rfl (fun K hK => ?_) AllReadyH.nil
      first | (with_reducible refine iteYes ?hcx ?htx; case hcx => kernel_rfl) | rw [if_pos (by rfl)]
      simp only [List.getElem_toArray, List.getElem_cons_succ, List.getElem_cons_zero]
      go_simp
      (go_at_call 13; refine (newestS_calls x s _ HS.out).mono ?_; rintro e w3 ⟨rfl, rfl⟩)
      try go_wp2_with fail
      refine hK.out _ _ ?_ (fun hHeld3 => ?_)
      · (try dsimp only); exact ⟨rfl, c3⟩
      clear hK K hHeld2
      try simp only [Act.put, List.setIfInBounds_toArray, List.set_cons_zero, List.set_cons_succ, List.getElem_toArray, List.getElem_cons_succ, List.getElem_cons_zero]
      refine wpAnyH_ready (rs := [11]) (by kernel_rfl) (by simp) ?_
      refine AllReadyH.cons rfl (fun K hK => ?_) AllReadyH.nil
      first | (with_reducible refine iteYes ?hcx ?htx; case hcx => kernel_rfl) | rw [if_pos (by rfl)]
      simp only [List.getElem_toArray, List.getElem_cons_succ, List.getElem_cons_zero]
      go_simp
      (go_at_call 14; refine (HV.out _ rfl).mono ?_; rintro e w3 ⟨rfl, rfl⟩)
      try go_wp2_with fail
      refine hK.out _ _ ?_ (fun hHeld4 => ?_)
      · (try dsimp only); exact ⟨rfl, c3⟩
      clear hK K hHeld3
      try simp only [Act.put, List.setIfInBounds_toArray, List.set_cons_zero, List.set_cons_succ, List.getElem_toArray, List.getElem_cons_succ, List.getElem_cons_zero]
      refine tkW (v := .bool false) 12 rfl ?_ (by intro w'' hSw; (try dsimp only at hSw); simp only [List.getElem_toArray, List.getElem_cons_succ, List.getElem_cons_zero]; (go_simp <;> rfl))
      try simp only [Act.put, List.setIfInBounds_toArray, List.set_cons_zero, List.set_cons_succ, List.getElem_toArray, List.getElem_cons_succ, List.getElem_cons_zero]
      refine tkW 13 rfl ?_
      try simp only [Act.put, List.setIfInBounds_toArray, List.set_cons_zero, List.set_cons_succ, List.getElem_toArray, List.getElem_cons_succ, List.getElem_cons_zero]
      refine wpAnyH_done (by kernel_rfl) ?_ _
      go_wp2_with fail
      go_roundg (len - (i + 1))
      case measure => have := HI.out.2; omega
      case rel => exact ⟨i + 1, by go_num, ⟨by omega, rfl⟩, ⟨s, S, HE.out.1.keep (Only.refl [] wc).drew, HE.out.2⟩⟩
end Go.Proofs.YtepgcpcanbekaaaDoor
