/- The reference's bits: a list of bytes, each 0 or 1, behind a pointer: Put of whichever number. -/
import Derived.Test.YtedhdmahdioboaaSg5
import Derived.Test.YtedhdmahdioboaaFin
namespace Go.Proofs.Ytedhdmahdioboaa
open Go.ChangeShapes Go.WideShapes Go.ChangeAt Go.RowKit
set_option linter.unusedVariables false
set_option linter.unusedSimpArgs false

def ownL (v : Value) : List Nat := v.ownBlock.toList
/-- Bytes that a call owns. -/
def SlB (w : World) (v : Value) (l : List Nat) : Prop := w.ownsRow 0 5 1 v l.length (byV l)
theorem SlB.kept {w w' : World} {v : Value} {P : List Nat} (h : SlB w v P) {D : List Nat} (o : Only D w w') (s : ∀ b ∈ ownL v, b ∉ D) : SlB w' v P := by
  obtain ⟨h1, h2⟩ := h
  refine ⟨h1, ?_⟩
  rcases h2 with h2 | ⟨g, cap, cur, rfl, hb, hg, r⟩
  · exact Or.inl h2
  · exact Or.inr ⟨g, cap, cur, rfl, hb, (o.block g (Array.getElem?_eq_some_iff.1 hg).1 (s g (by simp [ownL, Value.ownBlock]))).trans hg, r⟩
theorem SlB.lt {w : World} {v : Value} {P : List Nat} (h : SlB w v P) : ∀ b ∈ ownL v, b < w.heap.size := by
  intro b hb
  obtain ⟨_, ⟨rfl, _⟩ | ⟨g, cap, cur, rfl, _, hg, _⟩⟩ := h
  · simp [ownL, Value.ownBlock] at hb
  · simp only [ownL, Value.ownBlock, Option.toList_some, List.mem_singleton] at hb
    subst hb
    exact (Array.getElem?_eq_some_iff.1 hg).1
theorem SlB.nil (w : World) : SlB w (.slice none 0 0) [] := World.ownsRow_nil w 0 _ _
theorem SlB.shape {w : World} {v : Value} {P : List Nat} (h : SlB w v P) : ∃ a c, v = .slice a P.length c ∧ P.length ≤ c ∧ (∀ j, j < P.length → ∃ g, a = some ⟨g, 0, none⟩ ∧ w.cell? ⟨g, j, none⟩ = some (.int .u8 ((P.getD j 0 : Nat) : Int))) := by
  obtain ⟨h1, ⟨rfl, h2⟩ | ⟨g, cap, cur, rfl, hb, hg, hn, hc, hs, ht⟩⟩ := h
  · exact ⟨none, 0, by rw [h2], by omega, fun j hj => by omega⟩
  · refine ⟨some ⟨g, 0, none⟩, cap, rfl, hn, fun j hj => ⟨g, rfl, ?_⟩⟩
    have e : (cur.toList.take (P.length * 1))[j]? = some (.int .u8 ((P.getD j 0 : Nat) : Int)) := by
      rw [ht, byV, List.getElem?_map, List.getElem?_eq_getElem hj, List.getD_eq_getElem?_getD, List.getElem?_eq_getElem hj]; rfl
    rw [List.getElem?_take] at e
    simp only [Nat.mul_one, hj, if_true] at e
    simp only [World.cell?, hg, Option.isSome_none, Bool.false_eq_true, if_false]
    rw [← e, Array.getElem?_toList]
/-- Bits behind a pointer. -/
structure BtAt (w : World) (kb : Nat) (v : Value) (l : List Nat) : Prop where
  at_ : w.heap[kb]? = some (.cells #[v] 111)
  sl : SlB w v l
  apart : kb ∉ ownL v
theorem BtAt.lt {w : World} {kb : Nat} {v : Value} {l : List Nat} (h : BtAt w kb v l) : kb < w.heap.size := (Array.getElem?_eq_some_iff.1 h.at_).1
theorem BtAt.c0 {w : World} {kb : Nat} {v : Value} {l : List Nat} (h : BtAt w kb v l) : w.cell? ⟨kb, 0, none⟩ = some v := by simp [World.cell?, h.at_]
theorem BtAt.free {w : World} {kb : Nat} {v : Value} {l : List Nat} (h : BtAt w kb v l) : w.frozen? ⟨kb, 0, none⟩ = false := by simp [World.frozen?, h.at_]
theorem BtAt.only {w w' : World} {kb : Nat} {v : Value} {l : List Nat} (h : BtAt w kb v l) {D : List Nat} (o : Only D w w') (hk : kb ∉ D) (s : ∀ b ∈ ownL v, b ∉ D) : BtAt w' kb v l := ⟨(o.block kb h.lt hk).trans h.at_, h.sl.kept o s, h.apart⟩
theorem BtAt.keep {w w' : World} {kb : Nat} {v : Value} {l : List Nat} (h : BtAt w kb v l) (o : Only [] w w') : BtAt w' kb v l := h.only o (by simp) (by simp)
/-- What has become of them. -/
structure PP (w : World) (kb : Nat) (v : Value) (w' : World) (v' : Value) : Prop where
  only : Only (kb :: ownL v) w w'
  loc : ∀ b ∈ ownL v', b ∈ ownL v ∨ w.heap.size ≤ b
theorem PP.refl (w : World) (kb : Nat) (v : Value) : PP w kb v w v := ⟨Only.refl _ _, fun b hb => Or.inl hb⟩
theorem PP.trans {w w1 w2 : World} {kb : Nat} {v v1 v2 : Value} (h : PP w kb v w1 v1) (k : PP w1 kb v1 w2 v2) : PP w kb v w2 v2 :=
  ⟨h.only.then k.only (fun x hx => by
    rcases List.mem_cons.1 hx with e | e
    · left; rw [e]; simp
    · rcases h.loc x e with q | q
      · left; exact List.mem_cons_of_mem _ q
      · right; exact q), fun b hb => by
    rcases k.loc b hb with q | q
    · exact h.loc b q
    · right; exact Nat.le_trans h.only.size q⟩
theorem cell_one (w : World) (a : Value) (t : TypeId) : ∀ j u, [a][j]? = some u → (w.alloc (.cells #[a] t)).drew.cell? ((⟨w.heap.size, 0, none⟩ : Addr).add j) = some u := by
  intro j u hj
  match j, hj with
  | 0, hj =>
    simp at hj; subst hj
    exact World.cell?_alloc_new w _ _ 0
  | j + 1, hj => simp at hj
/-- One byte more. -/
theorem bt_more {w7 w8 : World} {kb : Nat} {v v' : Value} {l : List Nat} {b : Nat} (h : BtAt w7 kb v l) (hown : w8.ownsRow 0 5 1 v' (l.length + 1) (byV l ++ [.int .u8 (b : Int)])) (hgrow : w7.grownBy w8 v.ownBlock) (hloc : v'.ownBlock = v.ownBlock ∨ v'.ownBlock = some w7.heap.size) :
    BtAt (w8.setCell ⟨kb, 0, none⟩ v') kb v' (l ++ [b]) ∧ PP w7 kb v (w8.setCell ⟨kb, 0, none⟩ v') v' := by
  have o8 : Only (ownL v) w7 w8 := (Only.refl _ _).grown hgrow (fun k hk => Or.inl (by simp [ownL, hk]))
  have hl : ∀ x ∈ ownL v', x ∈ ownL v ∨ w7.heap.size ≤ x := by
    intro x hx
    rcases hloc with e | e
    · left; simpa [ownL, e] using hx
    · right; simp only [ownL, e, Option.toList_some, List.mem_singleton] at hx; omega
  have hk : kb ∉ ownL v' := fun q => by
    rcases hl kb q with p | p
    · exact h.apart p
    · have := h.lt; omega
  have hs : SlB w8 v' (l ++ [b]) := by unfold SlB; rw [List.length_append]; simpa [byV] using hown
  refine ⟨⟨?_, hs.kept ((Only.refl [kb] w8).setCell (p := ⟨kb, 0, none⟩) (Or.inl (by simp)) _) (fun x hx => by simp only [List.mem_singleton]; exact fun e => hk (e ▸ hx)), hk⟩, ⟨(o8.mono (fun x hx => Or.inl (List.mem_cons_of_mem _ hx))).setCell (p := ⟨kb, 0, none⟩) (Or.inl (by simp)) _, hl⟩⟩
  have e := heap_put ((o8.block kb h.lt h.apart).trans h.at_) 0 v'
  exact e
set_option maxRecDepth 100000 in
set_option maxHeartbeats 4000000 in
theorem refPut_calls (kb : Nat) (v : Value) (l : List Nat) (n wd : Nat) (w : World) (h : BtAt w kb v l) (hw : wd ≤ 62) (hn : n < 2 ^ 62) (hl : l.length + wd ≤ 100000) :
    Calls Try.prog 43 #[.pointer (some ⟨kb, 0, none⟩), .int .i64 ((n : Int)), .int .i64 ((wd : Int))] w fun e w' => e = .returned (.tuple #[]) ∧ ∃ v', BtAt w' kb v' (l ++ putB n wd) ∧ PP w kb v w' v' := by
  obtain ⟨i0, hi0, hz0, hz1, hz2⟩ := info_parts byteInfo
  have HB : Hid (wd ≤ 62 ∧ n < 2 ^ 62 ∧ l.length + wd ≤ 100000) := ⟨hw, hn, hl⟩
  have H0 : Hid (∃ v', BtAt w kb v' (l ++ putB (n / 2 ^ wd) (wd - wd)) ∧ PP w kb v w v') := ⟨v, by rw [Nat.sub_self]; simpa [putB] using h, PP.refl _ _ _⟩
  clear h hn hl
  go_enter Try.func43, Try.ntmps43
  go_wp2_with fail
  go_loopg [6] wd (fun k idx wr => ∃ j : Nat, idx = .int .i64 ((j : Int) - 1) ∧ Hid (j ≤ wd ∧ k = j) ∧ Hid (∃ v', BtAt wr kb v' (l ++ putB (n / 2 ^ j) (wd - j)) ∧ PP w kb v wr v'))
  case atStart => exact ⟨wd, rfl, ⟨by omega, rfl⟩, H0⟩
  case round =>
    clear H0
    obtain ⟨j, rfl, H1, HE⟩ := hrel
    have hwd := HB.out.1
    by_cases hj : 0 < j
    · obtain ⟨i, rfl⟩ : ∃ i, j = i + 1 := ⟨j - 1, by omega⟩
      rw [show (((i + 1 : Nat) : Int)) - 1 = (i : Int) by omega]
      have hi0' : (i : Int) ≥ 0 := by omega
      have hiw : i < wd := by have := H1.out.1; omega
      obtain ⟨v1, hB, hP⟩ := HE.out
      have hn := HB.out.2.1
      have hq : n / 2 ^ i < 2 ^ 63 := Nat.lt_of_le_of_lt (Nat.div_le_self _ _) (by omega)
      obtain ⟨t, ht⟩ : ∃ t, t = n / 2 ^ i := ⟨_, rfl⟩
      obtain ⟨b, hb⟩ : ∃ b, b = t % 2 := ⟨_, rfl⟩
      have HT : Hid ((n : Int) / 2 ^ i = (t : Int)) := by show _ = _; rw [ht]; rfl
      have HBB : Hid (Go.bits .and .i64 (t : Int) 1 = (b : Int)) := by show _ = _; rw [hb]; exact and_one t (by omega)
      have HC : Hid (IntKind.u8.wrap (b : Int) = (b : Int)) := wrap_u8 b (by omega)
      have hlenL : (l ++ putB (n / 2 ^ (i + 1)) (wd - (i + 1))).length ≤ 100000 := by rw [List.length_append, putB_len]; have := HB.out.2.2; omega
      have HN : Hid (BtAt wr kb v1 (l ++ putB (n / 2 ^ (i + 1)) (wd - (i + 1))) ∧ PP w kb v wr v1 ∧ l ++ putB (n / 2 ^ i) (wd - i) = l ++ putB (n / 2 ^ (i + 1)) (wd - (i + 1)) ++ [b]) :=
        ⟨hB, hP, by
          have := putB_step n wd (wd - (i + 1)) (by omega)
          rw [show wd - (wd - (i + 1) + 1) = i by omega, show wd - (i + 1) + 1 = wd - i by omega, show wd - (wd - (i + 1)) = i + 1 by omega, show wd - 1 - (wd - (i + 1)) = i by omega] at this
          rw [this, List.append_assoc, hb, ht]⟩
      clear hB hP HE hn hq ht hb
      revert HN hlenL
      generalize l ++ putB (n / 2 ^ (i + 1)) (wd - (i + 1)) = L
      intro hlenL HN
      have c0 := HN.out.1.c0
      go_upto_region 3 with fail
      refine wp_region_F_drew 11 (fun w' => w'.cell? ⟨kb, 0, none⟩ = some v1) (by kernel_rfl) ?_ (fun hHeld1 => ?_)
      · (try dsimp only); exact c0
      refine tkF 0 rfl ?_; refine tkF 1 rfl ?_; refine tkF 2 rfl ?_; refine tkF 3 rfl ?_
      try simp only [Act.put, List.setIfInBounds_toArray, List.set_cons_zero, List.set_cons_succ, List.getElem_toArray, List.getElem_cons_succ, List.getElem_cons_zero]
      refine tkF 4 rfl ?_; refine tkF 5 rfl ?_
      try simp only [Act.put, List.setIfInBounds_toArray, List.set_cons_zero, List.set_cons_succ, List.getElem_toArray, List.getElem_cons_succ, List.getElem_cons_zero]
      refine tkF (v := .int .i64 (t : Int)) 6 rfl ?_ (by intro w'' hSw; (try dsimp only at hSw); simp only [List.getElem_toArray, List.getElem_cons_succ, List.getElem_cons_zero]; go_simp; rw [HT.out])
      try simp only [Act.put, List.setIfInBounds_toArray, List.set_cons_zero, List.set_cons_succ, List.getElem_toArray, List.getElem_cons_succ, List.getElem_cons_zero]
      refine tkF (v := .int .i64 (b : Int)) 7 rfl ?_ (by intro w'' hSw; (try dsimp only at hSw); simp only [List.getElem_toArray, List.getElem_cons_succ, List.getElem_cons_zero]; go_simp; rw [HBB.out])
      try simp only [Act.put, List.setIfInBounds_toArray, List.set_cons_zero, List.set_cons_succ, List.getElem_toArray, List.getElem_cons_succ, List.getElem_cons_zero]
      refine tkF (v := .int .u8 (b : Int)) 8 rfl ?_ (by intro w'' hSw; (try dsimp only at hSw); simp only [List.getElem_toArray, List.getElem_cons_succ, List.getElem_cons_zero]; go_simp; rw [HC.out])
      try simp only [Act.put, List.setIfInBounds_toArray, List.set_cons_zero, List.set_cons_succ, List.getElem_toArray, List.getElem_cons_succ, List.getElem_cons_zero]
      refine wpAnyF_ready (rs := [9]) (by kernel_rfl) (by simp) ?_
      refine AllReadyF.cons rfl (fun K hK => ?_) AllReadyF.nil
      first | (with_reducible refine iteYes ?hcx ?htx; case hcx => kernel_rfl) | rw [if_pos (by rfl)]
      simp only [List.getElem_toArray, List.getElem_cons_succ, List.getElem_cons_zero]
      go_simp
      refine hK.out _ _ ?_ (fun hHeld2 => ?_)
      · (try dsimp only); exact (HN.out.1.keep ((Only.refl [] wr).alloc _)).c0
      clear hK K
      try simp only [Act.put, List.setIfInBounds_toArray, List.set_cons_zero, List.set_cons_succ, List.getElem_toArray, List.getElem_cons_succ, List.getElem_cons_zero]
      have hnews : ∀ j u, [Value.int .u8 (b : Int)][j]? = some u → (wr.alloc (.cells #[.int .u8 (b : Int)] 5)).drew.cell? ((⟨wr.heap.size, 0, none⟩ : Addr).add j) = some u := cell_one wr _ _
      have H7 : Hid (BtAt (wr.alloc (.cells #[.int .u8 (b : Int)] 5)).drew kb v1 L ∧ Only [] wr (wr.alloc (.cells #[.int .u8 (b : Int)] 5)).drew) := ⟨HN.out.1.keep (((Only.refl [] wr).alloc _).drew), ((Only.refl [] wr).alloc _).drew⟩
      generalize wr.heap.size = kn at hnews ⊢
      generalize World.drew (World.alloc wr _) = w7 at hnews H7 hHeld2 ⊢
      obtain ⟨v', w8, hr8, hown, hgrow, hnil, hloc⟩ := run_append_own_at (P := Try.prog) w7 0 111 111 5 i0 (.int .u8 0) 1 1 Try.underlying111 hi0 hz0 hz1 hz2 rfl (by decide) v1 L.length (byV L) H7.out.1.sl ⟨kn, 0, none⟩ 1 1 [.int .u8 (b : Int)] rfl hnews (by simp [Value.oneCell']) (by unfold maxLen; omega) (by omega) (by omega)
      obtain ⟨hB, hP⟩ := bt_more H7.out.1 hown hgrow hloc
      have H8 : Hid (BtAt (w8.setCell ⟨kb, 0, none⟩ v') kb v' (L ++ [b]) ∧ PP w kb v (w8.setCell ⟨kb, 0, none⟩ v') v') := ⟨hB, HN.out.2.1.trans ⟨(H7.out.2.mono (by simp)).trans hP.only, fun x hx => (hP.loc x hx).elim Or.inl (fun q => Or.inr (Nat.le_trans H7.out.2.size q))⟩⟩
      obtain ⟨a', c', hv', _⟩ := H8.out.1.sl.shape
      obtain ⟨m', hm'⟩ : ∃ m', m' = (L ++ [b]).length := ⟨_, rfl⟩
      rw [← hm'] at hv'
      subst hv'
      clear hm'
      have o8 : Only (ownL v1) w7 w8 := (Only.refl _ _).grown hgrow (fun k hk => Or.inl (by simp [ownL, hk]))
      have c8 : w8.cell? ⟨kb, 0, none⟩ = some v1 := o8.cell H7.out.1.c0 H7.out.1.apart
      have f8 : w8.frozen? ⟨kb, 0, none⟩ = false := by
        have := (o8.block kb H7.out.1.lt H7.out.1.apart).trans H7.out.1.at_
        simp [World.frozen?, this]
      clear hown hgrow hnil hloc hB hP hnews o8 H7 c0
      refine wpAnyF_ready (rs := [10]) (by kernel_rfl) (by simp) ?_
      refine AllReadyF.cons rfl (fun K hK => ?_) AllReadyF.nil
      first | (with_reducible refine iteYes ?hcx ?htx; case hcx => kernel_rfl) | rw [if_pos (by rfl)]
      refine step_append (s := .tmp 16) (x := .tmp 22) (t := 111) rfl (by kernel_rfl) (by kernel_rfl) hr8 ?_
      refine hK.out _ _ ?_ (fun hHeld3 => ?_)
      · (try dsimp only); exact c8
      clear hK K hHeld2 hr8
      try simp only [Act.put, List.setIfInBounds_toArray, List.set_cons_zero, List.set_cons_succ, List.getElem_toArray, List.getElem_cons_succ, List.getElem_cons_zero]
      refine wpAnyF_ready (rs := [11]) (by kernel_rfl) (by simp) ?_
      refine AllReadyF.fin rfl (by decide) (fun K hK => ?_) AllReadyF.nil
      first | (with_reducible refine iteYes ?hcx ?htx; case hcx => kernel_rfl) | rw [if_pos (by rfl)]
      simp only [List.getElem_toArray, List.getElem_cons_succ, List.getElem_cons_zero]
      go_simp
      skip
      refine hK.out _ _ ?_
      clear hK K
      try simp only [Act.put, List.setIfInBounds_toArray, List.set_cons_zero, List.set_cons_succ, List.getElem_toArray, List.getElem_cons_succ, List.getElem_cons_zero]
      refine wpAnyF_ready (rs := [12]) (by kernel_rfl) (by simp) ?_
      refine AllReadyF.fin rfl (by decide) (fun K hK => ?_) AllReadyF.nil
      first | (with_reducible refine iteYes ?hcx ?htx; case hcx => kernel_rfl) | rw [if_pos (by rfl)]
      simp only [List.getElem_toArray, List.getElem_cons_succ, List.getElem_cons_zero]
      go_simp
      skip
      refine hK.out _ _ ?_
      clear hK K
      try simp only [Act.put, List.setIfInBounds_toArray, List.set_cons_zero, List.set_cons_succ, List.getElem_toArray, List.getElem_cons_succ, List.getElem_cons_zero]
      refine wpAnyF_done (by kernel_rfl) ?_ _
      clear c8 f8 hHeld3 hHeld1
      generalize World.setCell w8 _ _ = w9 at H8 ⊢
      go_wp2_with fail
      go_roundg i
      case measure => have := H1.out.2; omega
      case rel => exact ⟨i, rfl, ⟨by omega, rfl⟩, ⟨_, by rw [HN.out.2.2]; exact H8.out.1, H8.out.2⟩⟩
    · obtain rfl : j = 0 := by omega
      go_wp2_with fail
      refine bodyPost_end (results_none rfl _ _ _) rfl ?_
      obtain ⟨v', h1, h2⟩ := HE.out
      exact ⟨rfl, v', by simpa using h1, h2⟩
end Go.Proofs.Ytedhdmahdioboaa
