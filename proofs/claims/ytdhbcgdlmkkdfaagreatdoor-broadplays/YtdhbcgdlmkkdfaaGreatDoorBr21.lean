/- broad.Tree.Pairs: all two whose boxes meet, sorted: whatever the tree, in whatever order the book is gone through. -/
import Derived.Test.YtdhbcgdlmkkdfaaGreatDoorBr20
import Derived.Deep.Light
namespace Go.Proofs.YtdhbcgdlmkkdfaaGreatDoor
open Go.ChangeShapes Go.WideShapes Go.ChangeAt Go.RowKit
open Go.Maps (Keyed)
set_option linter.unusedVariables false
set_option linter.unusedSimpArgs false

def PS (t rt zb : Nat) (q : Bx) (w w' : World) : Prop := Only [] w w' ∧ w'.cell? ⟨t, 1, none⟩ = some (.pointer (some ⟨rt, 0, none⟩)) ∧ w'.cell? ⟨zb, 1, none⟩ = some (.int .i64 q.x0) ∧ w'.cell? ⟨zb, 2, none⟩ = some (.int .i64 q.x1) ∧ w'.cell? ⟨zb, 3, none⟩ = some (.int .i64 q.x2) ∧ w'.cell? ⟨zb, 4, none⟩ = some (.int .i64 q.x3) ∧ w'.cell? ⟨zb, 5, none⟩ = some (.int .i64 q.x4) ∧ w'.cell? ⟨zb, 6, none⟩ = some (.int .i64 q.x5)
theorem PS.of {t zb : Nat} {fat : Int} {rt : Nat} {lv : Option Nat} {n : Nd} {w w' : World} (o : Only [] w w') (ht : TreeAt w t fat (some rt) lv) (hz : NodeAt w zb n) : PS t rt zb n.box w w' := by
  have h1 := o.tree (by simp) ht
  have h2 := o.node (by simp) hz
  exact ⟨o, h1.c1, h2.c1, h2.c2, h2.c3, h2.c4, h2.c5, h2.c6⟩
theorem nodeElem_ptr (v : Value) (y : DataW Unit × List MemPlace) (h : nodeElem v = some y) : ∃ c, v = ptr c := by
  unfold nodeElem at h
  split at h
  · exact ⟨none, rfl⟩
  · exact ⟨some _, rfl⟩
  · cases h
theorem key_int (k : Value) (kl : Lit) (h : keyOf Tryz.prog 3 k = some kl) : ∃ x, k = Value.int .i64 x := by
  obtain ⟨x, rfl, _⟩ := Maps.keyOf_int_inv Tryz.underlying3 h
  exact ⟨x, rfl⟩
/-- One entry has come: whose leaf it is. -/
theorem PL.came {w wr w1 : World} {L : List Lf} {m r : Nat} {MD : DataW Unit} {cnt cnt1 : Nat} {v : Value} {dn rem : List Lf} {left : Lit → Bool} (h : PL w L m r MD cnt v dn rem left wr) (hb : Book MD L) {x : Int} {c : Option Nat} {kl : Lit} {y : DataW Unit × List MemPlace}
    (hkey : keyOf Tryz.prog 3 (Value.int .i64 x) = some kl) (hlk : left kl = true) (hv : nodeElem (ptr c) = some y) (hat : ∀ zd, MD.atKey kl zd = y.1) (hrg : w1.ranges Tryz.prog 3 nodeElem m r L.length MD (fun z => left z && !z.sameKey kl) cnt1) (hg : wr.grownBy w1 (some r)) :
    ∃ z rem', z.id = x ∧ c = some z.b ∧ z ∈ L ∧ L.Perm ((dn ++ [z]) ++ rem') ∧ (∀ i, (fun z => left z && !z.sameKey kl) (key i) = true ↔ i ∈ rem'.map Lf.id) ∧ SlPairs w1 v (dn.flatMap (pairsAt L)) ∧ Only [] w w1 := by
  obtain ⟨x', ex, rfl, hwx⟩ := Maps.keyOf_int_inv Tryz.underlying3 hkey
  injection ex with _ ex; subst ex
  obtain ⟨z, hz, hzi⟩ := List.mem_map.1 ((h.lft x).1 hlk)
  obtain ⟨rem', hp⟩ := perm_find hz
  have hzL : z ∈ L := h.perm.mem_iff.2 (List.mem_append_right _ hz)
  have ap := ranges_apart h.rng h.sl
  have o1 : Only [r] wr w1 := (Only.refl [r] wr).grown hg (fun k hk => by injection hk with hk; exact Or.inl (by simp [hk]))
  have hc : c = some z.b := by
    have h1 := hb.there z hzL
    rw [hzi, hat .nil] at h1
    obtain ⟨y1, y2⟩ := y
    simp only at h1
    subst h1
    have := nodeElem_some hv
    cases c with
    | none => cases this
    | some b => simp only [ptr_some, Value.pointer.injEq, Option.some.injEq, Addr.mk.injEq, and_true] at this; rw [this]
  refine ⟨z, rem', hzi, hc, hzL, ?_, fun i => ?_, h.sl.kept o1 (fun b hb' => by simp; exact fun e => ap.2 (e ▸ hb')), h.only.then o1 (fun b hb' => by simp at hb'; subst hb'; exact Or.inr h.rnew)⟩
  · refine h.perm.trans ((List.Perm.append_left dn hp).trans ?_)
    simp
  · have hn : (rem.map Lf.id).Nodup := ((h.perm.map Lf.id).nodup hb.nodup |> fun q => by rw [List.map_append] at q; exact (List.nodup_append.1 q).2.1)
    have hn2 := (hp.map Lf.id).nodup hn
    simp only [List.map_cons, List.nodup_cons] at hn2
    simp only [Bool.and_eq_true, Bool.not_eq_true', h.lft i, sameKey_key, (hp.map Lf.id).mem_iff, List.map_cons, List.mem_cons, decide_eq_false_iff_not]
    rw [hzi]
    constructor
    · rintro ⟨q | q, hne⟩
      · exact absurd q hne
      · exact q
    · intro q
      exact ⟨Or.inr q, fun e => hn2.1 (by rw [hzi, ← e]; exact q)⟩

/-- As the loop over those that one meets goes. -/
structure PI (w2 : World) (v : Value) (P0 : List (Int × Int)) (i : Int) (ys : List Int) (j : Nat) (v3 : Value) (wr : World) : Prop where
  le : j ≤ ys.length
  sl : SlPairs wr v3 (P0 ++ above i (ys.take j))
  only : Only (ownL v) w2 wr
  new : ∀ b ∈ ownL v3, b ∈ ownL v ∨ w2.heap.size ≤ b

theorem PI.more {w2 wr w5 : World} {v v3 v' : Value} {P0 : List (Int × Int)} {i : Int} {ys : List Int} {j : Nat} {yj : Int} (h : PI w2 v P0 i ys j v3 wr) (hj : j < ys.length) (hy : yj = ys[j]) (hi : i < yj) (p : PairPost wr v3 ((P0 ++ above i (ys.take j)) ++ [(i, yj)]) v' w5) : PI w2 v P0 i ys (j + 1) v' w5 := by
  subst hy
  obtain ⟨p1, p2, p3⟩ := p
  refine ⟨hj, ?_, h.only.then p2 (fun b hb => h.new b hb), fun b hb => ?_⟩
  · rw [above_take_lt hj hi, ← List.append_assoc]; exact p1
  · rcases p3 b hb with q | q
    · exact h.new b q
    · exact Or.inr (Nat.le_trans h.only.size q)
theorem PI.skip {w2 wr : World} {v v3 : Value} {P0 : List (Int × Int)} {i : Int} {ys : List Int} {j : Nat} {yj : Int} (h : PI w2 v P0 i ys j v3 wr) (hj : j < ys.length) (hy : yj = ys[j]) (hi : ¬ i < yj) : PI w2 v P0 i ys (j + 1) v3 wr := by
  subst hy
  exact ⟨hj, by rw [above_take_ge hj hi]; exact h.sl, h.only, h.new⟩

set_option maxRecDepth 100000 in
set_option maxHeartbeats 800000 in
theorem pairs_some (hsort : Sorts) (t : Nat) (fat : Int) (T : Option Tr) (m : Nat) (w : World) (hw : Whole w t fat T (some m)) (hl : (leavesO T).length ≤ 60) :
    Calls Tryz.prog 15 #[.pointer (some ⟨t, 0, none⟩)] w fun e w' => ∃ v dn, e = .returned v ∧ (leavesO T).Perm dn ∧ SlPairs w' v (sort2 (dn.flatMap (pairsAt (leavesO T)))) ∧ Only [] w w' ∧ (∀ b ∈ ownL v, w.heap.size ≤ b) := by
  have c2 := hw.tree.c2
  obtain ⟨MD, hown, hbk⟩ := hw.book
  obtain ⟨L, hL⟩ : ∃ L, L = leavesO T := ⟨_, rfl⟩
  rw [← hL] at hown hbk hl ⊢
  have HW : Hid (Whole w t fat T (some m) ∧ Book MD L ∧ L = leavesO T ∧ L.length ≤ 60) := ⟨hw, hbk, hL, hl⟩
  have HS : Hid Sorts := hsort
  obtain ⟨i2, hi0, hz0, hz1, hz2⟩ := info_parts pairInfo
  clear hw hbk hL hl hsort
  go_enter Tryz.func15, Tryz.ntmps15
  go_wp2_with (first | (at_range; refine wpList_range_own _ rfl _ 53 rfl 3 52 intKey Tryz.underlying53 _ m _ MD rfl hown ?_; intro w0 hrg0 hg0 hs0))
  go_frame
  have H0 : Hid (PL w L m w.heap.size MD (Maps.size MD) (.slice none 0 0) [] L (Maps.has MD) w0) := ⟨hrg0, List.Perm.refl _, HW.out.2.1.has, SlPairs.nil _, (Only.refl [] w).grown hg0 (fun k hk => by cases hk), by simp [ownL, Value.ownBlock], Nat.le_refl _⟩
  clear hrg0 hg0 hs0 c2 hown
  generalize hr : w.heap.size = r at H0 ⊢
  have HR : Hid (w.heap.size = r) := hr
  clear hr
  go_loopg [3] (Maps.size MD) (fun k p wr => ∃ v dn rem left, v = p ∧ PL w L m r MD k v dn rem left wr)
  case atStart => exact ⟨_, _, _, _, rfl, H0.out⟩
  case round =>
    obtain ⟨v, dn, rem, left, rfl, hpl⟩ := hrel
    have HP : Hid (PL w L m r MD gk v dn rem left wr) := hpl
    have hrg := hpl.rng
    clear hpl H0
    go_wp2_with (first | (at_next; refine wpList_next_ranges _ rfl _ rfl 3 intKey nodeElem (Value.int .i64) ptr key_int nodeElem_ptr m r _ MD _ _ rfl hrg ?_ ?_))
    · intro hc0 hl0
      have HE : Hid (rem = []) := by
        cases hrm : rem with
        | nil => exact rfl
        | cons y rem => have := (HP.out.lft y.id).2 (by simp [hrm]); rw [hl0] at this; cases this
      clear hrg hl0 hc0
      go_wp2_with fail
      refine (HS.out _ v _ HP.out.sl (by have := pairs_len HP.out.perm HW.out.2.2.2; omega)).mono ?_
      rintro e w9 ⟨rfl, hs9, o9⟩
      have H9 : Hid (SlPairs w9 v (sort2 (dn.flatMap (pairsAt L))) ∧ Only (ownL v) wr w9) := ⟨hs9, o9⟩
      clear hs9 o9
      go_wp2_with fail
      go_ret
      have hp := HP.out.perm
      rw [HE.out, List.append_nil] at hp
      exact ⟨v, dn, rfl, hp, H9.out.1, HP.out.only.then H9.out.2 (fun b hb => Or.inr (HP.out.new b hb)), HP.out.new⟩
    · intro x c kl y1 y2 w1 cnt1 hkey hlk hv hat hrg1 hlt hg1 hs1 hen
      obtain ⟨z, rem', hzi, rfl, hzL, hperm, hlft, hsl1, ho1⟩ := HP.out.came HW.out.2.1 (y := (y1, y2)) hkey hlk hv hat hrg1 hg1
      have H1 : Hid (w1.ranges Tryz.prog 3 nodeElem m r L.length MD (fun z => left z && !z.sameKey kl) cnt1 ∧ z.id = x ∧ z ∈ L ∧ L.Perm ((dn ++ [z]) ++ rem') ∧ (∀ i, (fun z => left z && !z.sameKey kl) (key i) = true ↔ i ∈ rem'.map Lf.id) ∧ SlPairs w1 v (dn.flatMap (pairsAt L)) ∧ Only [] w w1 ∧ cnt1 < gk) := ⟨hrg1, hzi, hzL, hperm, hlft, hsl1, ho1, hlt⟩
      obtain ⟨T1, hT1⟩ : ∃ T1, T = some T1 := by
        cases hT : T with
        | none => have := HW.out.2.2.1; rw [hT] at this; rw [this] at hzL; simp [leavesO] at hzL
        | some T1 => exact ⟨T1, rfl⟩
      simp only [ptr_some] at hen ⊢
      have hw1 : Whole w1 t fat (some T1) (some m) := by have := HW.out.1.only ho1 (by simp); rw [hT1] at this; exact this
      have hzT : z ∈ T1.leaves := by have := HW.out.2.2.1; rw [hT1] at this; rw [this] at hzL; exact hzL
      obtain ⟨c, hz1, hxn, hz2⟩ := way_to z T1 [] hw1.inn.1 hw1.tree hzT
      have HPS : Hid (∀ w', Only [] w1 w' → PS t T1.root z.b z.box w1 w') := fun w' o => PS.of o hw1.tree hxn
      have HT : Hid (T = some T1 ∧ Whole w1 t fat (some T1) (some m)) := ⟨hT1, hw1⟩
      clear hrg hkey hlk hv hat hrg1 hlt hg1 hs1 hzi hzL hperm hlft hsl1 ho1 hT1 hw1 hzT hz1 hxn hz2
      generalize hrt : T1.root = rt at HPS
      have HRT : Hid (T1.root = rt) := hrt
      clear hrt
      go_wp2_with fail
      clear hen
      refine wp_region_held_drew (S := (fun w' => Only [] w1 w' ∧ w'.cell? ⟨t, 1, none⟩ = some (.pointer (some ⟨rt, 0, none⟩)) ∧ w'.cell? ⟨z.b, 1, none⟩ = some (.int .i64 z.box.x0) ∧ w'.cell? ⟨z.b, 2, none⟩ = some (.int .i64 z.box.x1) ∧ w'.cell? ⟨z.b, 3, none⟩ = some (.int .i64 z.box.x2) ∧ w'.cell? ⟨z.b, 4, none⟩ = some (.int .i64 z.box.x3) ∧ w'.cell? ⟨z.b, 5, none⟩ = some (.int .i64 z.box.x4) ∧ w'.cell? ⟨z.b, 6, none⟩ = some (.int .i64 z.box.x5))) (by kernel_rfl) ?_ (fun hHeld1 => ?_)
      · (try dsimp only); exact HPS.out _ (Only.refl _ _).drew
      refine tkW 0 rfl ?_; refine tkW 1 rfl ?_; refine tkW 2 rfl ?_; refine tkW 3 rfl ?_
      try simp only [Act.put, List.setIfInBounds_toArray, List.set_cons_zero, List.set_cons_succ, List.getElem_toArray, List.getElem_cons_succ, List.getElem_cons_zero]
      refine tkW 4 rfl ?_; refine tkW 5 rfl ?_; refine tkW 6 rfl ?_; refine tkW 7 rfl ?_
      try simp only [Act.put, List.setIfInBounds_toArray, List.set_cons_zero, List.set_cons_succ, List.getElem_toArray, List.getElem_cons_succ, List.getElem_cons_zero]
      refine tkW 10 rfl ?_
      try simp only [Act.put, List.setIfInBounds_toArray, List.set_cons_zero, List.set_cons_succ, List.getElem_toArray, List.getElem_cons_succ, List.getElem_cons_zero]
      refine wpAnyH_ready (rs := [8]) (by kernel_rfl) (by simp) ?_
      refine AllReadyH.cons rfl (fun K hK => ?_) AllReadyH.nil
      first | (with_reducible refine iteYes ?hcx ?htx; case hcx => kernel_rfl) | rw [if_pos (by rfl)]
      simp only [List.getElem_toArray, List.getElem_cons_succ, List.getElem_cons_zero]
      go_simp
      (go_at_call 22; rw [← HRT.out]; refine (meeting_tells z.box T1 _ none (.slice none 0 0) [] (by exact HT.out.2.inn.1.only (Only.refl [] w1).drew (by simp)) (by exact World.ownsRow_nil _ 0 _ _) (by have h1 := HW.out.2.2.2; have h2 := HW.out.2.2.1; rw [HT.out.1] at h2; rw [h2] at h1; simp only [leavesO] at h1; simp; omega)).mono ?_; rintro e w2 ⟨v2, rfl, hs2, o2, hb2⟩; obtain ⟨a2, cp2, rfl, hsh⟩ := hs2.shape)
      try go_wp2_with fail
      refine hK.out _ _ ?_ (fun hHeld2 => ?_)
      · (try dsimp only); exact HPS.out _ ((Only.refl [] w1).drew.trans o2)
      clear hK K hHeld1
      try simp only [Act.put, List.setIfInBounds_toArray, List.set_cons_zero, List.set_cons_succ, List.getElem_toArray, List.getElem_cons_succ, List.getElem_cons_zero]
      refine tkW 9 rfl ?_
      try simp only [Act.put, List.setIfInBounds_toArray, List.set_cons_zero, List.set_cons_succ, List.getElem_toArray, List.getElem_cons_succ, List.getElem_cons_zero]
      refine wpAnyH_done (by kernel_rfl) ?_ _
      have hys : Hid (meetIds z.box T1 = idsOf z.box L) := by
        show meetIds z.box T1 = _
        rw [meetIds_eq z.box T1 HT.out.2.fits, HW.out.2.2.1, HT.out.1]; rfl
      have hlen := meetIds_le z.box T1
      have hlen2 : T1.leaves.length ≤ 60 := by have h1 := HW.out.2.2.2; have h2 := HW.out.2.2.1; rw [HT.out.1] at h2; rw [h2] at h1; exact h1
      simp only [List.nil_append] at hsh hb2 ⊢
      have O2 : Only [] w1 w2 := (Only.refl [] w1).drew.trans o2
      have HA : Hid (∀ g, a2 = some ⟨g, 0, none⟩ → w1.heap.size ≤ g) := fun g hg => by
        rcases hb2 g (by rw [hg]; simp [ownL, Value.ownBlock]) with q | q
        · simp [ownL, Value.ownBlock] at q
        · exact q
      have H2 : Hid (PI w2 v (dn.flatMap (pairsAt L)) x (meetIds z.box T1) 0 v w2 ∧ Only [] w1 w2 ∧ (∀ b ∈ ownL v, b < w1.heap.size)) := ⟨⟨Nat.zero_le _, by simp only [List.take_zero, above, List.filter_nil, List.map_nil, List.append_nil]; exact H1.out.2.2.2.2.2.1.kept O2 (by simp), Only.refl _ _, fun b hb => Or.inl hb⟩, O2, H1.out.2.2.2.2.2.1.lt⟩
      have HPL : Hid ((dn.flatMap (pairsAt L)).length ≤ 3600) := pairs_len HP.out.perm HW.out.2.2.2
      clear hHeld2 hs2 o2 hb2 O2
      generalize meetIds z.box T1 = ys at hys hlen hsh H2 ⊢
      have HSH : Hid (∀ j (hj : j < ys.length), ∃ g, a2 = some ⟨g, 0, none⟩ ∧ w2.cell? ⟨g, j, none⟩ = some (.int .i64 (ys[j]))) := hsh
      have HLN : Hid (ys.length ≤ 60) := by show ys.length ≤ 60; omega
      clear hsh hlen hlen2 HPS HRT
      go_wp2_with fail
      go_loopg [3, 28] ys.length (fun k p idx wr => ∃ v3 j, v3 = p ∧ idx = .int .i64 ((j : Nat) : Int) ∧ k = ys.length - j ∧ PI w2 v (dn.flatMap (pairsAt L)) x ys j v3 wr)
      case atStart => exact ⟨v, 0, rfl, rfl, rfl, H2.out.1⟩
      case round =>
        obtain ⟨v3, j, rfl, rfl, hk, hpi⟩ := hrel
        have HI : Hid (PI w2 v (dn.flatMap (pairsAt L)) x ys j v3 wr ∧ gk = ys.length - j) := ⟨hpi, hk⟩
        clear hpi hk
        have hjb := HI.out.1.le
        have hln := HLN.out
        by_cases hj : j < ys.length
        · obtain ⟨g, ha2, hc⟩ := HSH.out j hj
          obtain ⟨yj, hyj⟩ : ∃ yj, yj = ys[j] := ⟨_, rfl⟩
          rw [← hyj] at hc
          have hg : g ∉ ownL v := fun hb => by have h1 := HA.out g ha2; have h2 := H2.out.2.2 g hb; omega
          have hcr : wr.cell? ⟨g, j, none⟩ = some (.int .i64 yj) := by
            rw [World.cell?_of_block (w := w2) (a := ⟨g, j, none⟩) (HI.out.1.only.block g (World.block_lt_of_cell? w2 _ hc) hg)]; exact hc
          have HY : Hid (yj = ys[j]) := hyj
          clear hc hg hyj
          have hjl : (j : Int) < (ys.length : Int) := by omega
          by_cases hi : x < yj
          · have hs3 := HI.out.1.sl
            have hpl := HPL.out
            have hab := above_le x (ys.take j)
            have htk : (ys.take j).length ≤ 60 := by rw [List.length_take]; omega
            have hlen3 : (dn.flatMap (pairsAt L) ++ above x (ys.take j)).length ≤ 4000 := by rw [List.length_append]; omega
            clear hpl hab htk
            subst ha2
            go_wp2_with (first | (at_builtin; refine wpList_append_own_at _ rfl _ _ 48 rfl 0 50 i2 (.agg #[.int .i64 0, .int .i64 0]) 2 16 Tryz.underlying48 hi0 hz0 hz1 hz2 rfl (by decide) v3 _ _ rfl (World.ownsRow.alloc hs3 _) ⟨wr.heap.size, 0, none⟩ 1 1 [.int .i64 x, .int .i64 yj] rfl rfl (cell_two _ _ _ _) (by simp [Value.oneCell']) (by unfold maxLen; omega) (by omega) (by simp) ?_; intro v' w5 hown hgrow hnil hloc; have H5 := pair_post (p := (x, yj)) hown hgrow hloc; clear hown hgrow hnil hloc hcr hs3))
            go_roundg (ys.length - (j + 1))
            case measure => have := HI.out.2; omega
            case rel => exact ⟨v', j + 1, rfl, by go_num, rfl, HI.out.1.more hj HY.out hi H5.out⟩
          · subst ha2
            go_wp2_with fail
            go_roundg (ys.length - (j + 1))
            case measure => have := HI.out.2; omega
            case rel => exact ⟨v3, j + 1, rfl, by go_num, rfl, HI.out.1.skip hj HY.out (by omega)⟩
        · have hjl : ¬ (j : Int) < (ys.length : Int) := by omega
          go_wp2_with fail
          go_roundg cnt1
          case measure => exact H1.out.2.2.2.2.2.2.2
          case rel =>
            obtain ⟨hrg1, hzi, hzL, hperm, hlft, hsl1, ho1, _⟩ := H1.out
            have ap := ranges_apart hrg1 hsl1
            have hjj : ys.take j = ys := List.take_of_length_le (by omega)
            have hfin := HI.out.1
            refine ⟨v3, dn ++ [z], rem', _, rfl, ⟨ranges_only (ranges_only hrg1 H2.out.2.1 (by simp) (by simp)) hfin.only ap.1 ap.2, hperm, hlft, ?_, ?_, ?_, HP.out.rnew⟩⟩
            · have h1 := hfin.sl
              rw [hjj, hys.out, ← hzi] at h1
              rw [List.flatMap_append]
              simpa [pairsAt] using h1
            · exact (ho1.trans H2.out.2.1).then hfin.only (fun b hb => Or.inr (HP.out.new b hb))
            · intro b hb
              rcases hfin.new b hb with q | q
              · exact HP.out.new b q
              · exact Nat.le_trans (ho1.trans H2.out.2.1).size q
/-- An empty book. -/
theorem pairs_none (hsort : Sorts) (t : Nat) (fat : Int) (T : Option Tr) (w : World) (ht : TreeAt w t fat (rootO T) none) :
    Calls Tryz.prog 15 #[.pointer (some ⟨t, 0, none⟩)] w fun e w' => ∃ v, e = .returned v ∧ SlPairs w' v [] ∧ Only [] w w' ∧ (∀ b ∈ ownL v, w.heap.size ≤ b) := by
  have c2 := ht.c2
  have hrg := run_range_nilMap (P := Tryz.prog) w 53 3 52 Tryz.underlying53
  have hnx : ∀ ty, (Instr.next (.pointer (some ⟨w.heap.size, 0, none⟩)) false ty).run Tryz.prog (w.alloc (.mapIter none 0 #[] 0)) = _ := fun ty => run_next_nilMap _ ty 0 0 #[]
  have HS : Hid Sorts := hsort
  clear ht hsort
  go_enter Tryz.func15, Tryz.ntmps15
  go_wp2_with fail
  refine wp_loop_rounds 1 ?_
  rw [rounds_succ]
  go_wp2_with fail
  refine (HS.out _ (.slice none 0 0) [] (SlPairs.nil _) (by simp)).mono ?_
  rintro e w9 ⟨rfl, hs9, o9⟩
  have H9 : Hid (SlPairs w9 (.slice none 0 0) [] ∧ Only [] w w9) := ⟨by simpa [sort2] using hs9, ((Only.refl [] w).alloc _).trans (o9.mono (by simp [ownL, Value.ownBlock]))⟩
  clear hs9 o9
  go_wp2_with fail
  go_ret
  exact ⟨_, rfl, H9.out.1, H9.out.2, by simp [ownL, Value.ownBlock]⟩
end Go.Proofs.YtdhbcgdlmkkdfaaGreatDoor

