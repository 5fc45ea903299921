/- gyrelaw.BitsWrite returns true, whatever marks it is given. -/
import Derived.Test.YtakncikdomipnaaDoorBu8
namespace Go.Proofs.YtakncikdomipnaaDoor
open Go.ChangeShapes Go.WideShapes Go.ChangeAt Go.RowKit
set_option linter.unusedVariables false
set_option linter.unusedSimpArgs false

theorem wpAnyH_sharp {P : Program} {md : Region.Mode} {ops : Array Oper} {Q : Exit → Act → World → Prop} {S S' : World → Prop} (hs : ∀ w, S' w → S w) : ∀ (fuel : Nat) (listed : Array Bool) (a : Act) (w : World), wpAnyH P md ops Q S' fuel listed a w → wpAnyH P md ops Q S fuel listed a w
  | 0, _, _, _, h => h
  | fuel + 1, _, _, _, h => ⟨h.1, fun i hi => wpOp_mono (fun a' w' h' => ⟨hs _ h'.1, wpAnyH_sharp hs fuel _ a' w' h'.2⟩) (h.2 i hi)⟩
/-- Bytes at the head of a block, cell by cell. -/
def CellsBy (w : World) (g : Nat) (L : List Nat) : Prop := ∀ j, j < L.length → w.cell? ⟨g, 0 + j, none⟩ = some (.int .u8 ((L.map (fun c : Nat => (c : Int))).getD j 0))
theorem CellsBy.only {w w' : World} {g : Nat} {L : List Nat} (h : CellsBy w g L) (o : Only [] w w') : CellsBy w' g L := fun j hj => o.cell (h j hj) (by simp)
theorem getD_cast (L : List Nat) (j : Nat) (hj : j < L.length) : (L.map (fun c : Nat => (c : Int))).getD j 0 = ((L.getD j 0 : Nat) : Int) := by
  simp [List.getD_eq_getElem?_getD, List.getElem?_eq_getElem hj]
theorem ByAt.cells {w : World} {g : Nat} {L : List Nat} (h : ByAt w (some ⟨g, 0, none⟩) L) : CellsBy w g L := fun j hj => by
  obtain ⟨g', o', e, hc⟩ := h j hj
  injection e with e; injection e with e1 e2 _; subst e1 e2
  rw [hc, getD_cast _ _ hj]
theorem SlB.two {w : World} {v : Value} {L : List Nat} (h : SlB w v L) : (v = .slice none 0 0 ∧ L = []) ∨ ∃ g c, v = .slice (some ⟨g, 0, none⟩) L.length c ∧ CellsBy w g L := by
  have hs := h.shape
  obtain ⟨h1, ⟨rfl, h2⟩ | ⟨g, cap, cur, rfl, hb, hg, hn, hc, hs', ht⟩⟩ := h
  · exact Or.inl ⟨rfl, List.length_eq_zero_iff.1 h2⟩
  · refine Or.inr ⟨g, cap, rfl, fun j hj => ?_⟩
    obtain ⟨a, c, e, _, hcell⟩ := hs
    injection e with e1 _ _
    obtain ⟨g', e', hc'⟩ := hcell j hj
    rw [← e1] at e'; injection e' with e'; injection e' with e2 _ _; subst e2
    rw [Nat.zero_add, hc', getD_cast _ _ hj]
/-- The string of bytes. -/
def strB (L : List Nat) : ByteArray := strOfNums (L.map (fun c : Nat => (c : Int)))
theorem str_some (g c : Nat) (L : List Nat) (w : World) (h : CellsBy w g L) : (convert 26 9 (.slice (some ⟨g, 0, none⟩) L.length c)).run Tryd.prog w = .ok (.string (strB L)) w :=
  run_convert_bytes_arg w 26 5 Tryd.underlying26 Tryd.underlying5 g 0 L.length c (L.map (fun c : Nat => (c : Int))) (by simp) h 9 Tryd.underlying9
theorem str_none (w : World) : (convert 26 9 (.slice none 0 0)).run Tryd.prog w = .ok (.string (strB [])) w :=
  run_convert_bytes_nil w 26 5 Tryd.underlying26 Tryd.underlying5 0 0 9 Tryd.underlying9
theorem LD.start (w : World) (t1 t2 : TypeId) (h1 : t1 = 25) (h2 : t2 = 27) : LD w w.heap.size (w.heap.size + 1) (.slice none 0 0) [] ((w.alloc (.cells (wcells []) t1)).alloc (.cells #[.slice none 0 0] t2)) := by
  subst h1 h2
  refine ⟨⟨?_, Bits.nil, by simp⟩, ⟨?_, SlB.nil _, by simp [ownL, Value.ownBlock]⟩, by omega, by simp [ownL, Value.ownBlock], Nat.le_refl _, by omega, by simp [ownL, Value.ownBlock], ((Only.refl [] w).alloc _).alloc _⟩
  · rw [Below.heap_alloc _ _ _ (by simp)]; exact (MapKept.heap_alloc w _).1
  · have := (MapKept.heap_alloc (w.alloc (.cells (wcells []) 25)) (.cells #[.slice none 0 0] 27)).1
    simpa using this
theorem LF.start {w : World} {x kb : Nat} {v : Value} {l : List Nat} {wr : World} (h : LD w x kb v l wr) (q : Mk) : LF w x kb v l wr.heap.size q (wr.heap.size + 1) (.slice none 0 0) [] l ((wr.alloc (.cells #[.int .i64 (q.wt), .int .i64 (q.n), .int .i64 (q.wd)] 33)).alloc (.cells #[.slice none 0 0] 27)) := by
  have o : Only [] wr ((wr.alloc (.cells #[.int .i64 (q.wt), .int .i64 (q.n), .int .i64 (q.wd)] 33)).alloc (.cells #[.slice none 0 0] 27)) := ((Only.refl [] wr).alloc _).alloc _
  have hx := h.wa.lt; have hk := h.bt.lt
  have hv : ∀ b ∈ ownL v, b < wr.heap.size := h.bt.sl.lt
  refine ⟨h.wa.only o (by simp), h.bt.keep o, ?_, ⟨?_, SlB.nil _, by simp [ownL, Value.ownBlock]⟩, h.xk, h.xv, h.xnew, h.knew, h.vnew, by omega, by omega, fun b hb => by have := hv b hb; omega, by omega, by omega, by omega, fun k => by have := hv _ k; omega, by simp [ownL, Value.ownBlock], h.only.trans o⟩
  · unfold MkAt; rw [Below.heap_alloc _ _ _ (by simp)]; exact (MapKept.heap_alloc wr _).1
  · have := (MapKept.heap_alloc (wr.alloc (.cells #[.int .i64 (q.wt), .int .i64 (q.n), .int .i64 (q.wd)] 33)) (.cells #[.slice none 0 0] 27)).1
    simpa using this
/-- More bytes. -/
theorem bt_join {w7 w8 : World} {kb : Nat} {v v' : Value} {l mr : List Nat} (h : BtAt w7 kb v l) (hown : w8.ownsRow 0 5 1 v' (l.length + mr.length) (byV l ++ byV mr)) (hgrow : w7.grownBy w8 v.ownBlock) (hloc : v'.ownBlock = v.ownBlock ∨ v'.ownBlock = some w7.heap.size) :
    BtAt (w8.setCell ⟨kb, 0, none⟩ v') kb v' (l ++ mr) ∧ PP w7 kb v (w8.setCell ⟨kb, 0, none⟩ v') v' := by
  have o8 : Only (ownL v) w7 w8 := (Only.refl _ _).grown hgrow (fun k hk => Or.inl (by simp [ownL, hk]))
  have hl : ∀ x ∈ ownL v', x ∈ ownL v ∨ w7.heap.size ≤ x := by
    intro x hx
    rcases hloc with e | e
    · left; simpa [ownL, e] using hx
    · right; simp only [ownL, e, Option.toList_some, List.mem_singleton] at hx; omega
  have hk : kb ∉ ownL v' := fun q => by
    rcases hl kb q with p | p
    · exact h.apart p
    · have := h.lt; omega
  have hs : SlB w8 v' (l ++ mr) := by unfold SlB; rw [List.length_append]; simpa [byV] using hown
  refine ⟨⟨?_, hs.kept ((Only.refl [kb] w8).setCell (p := ⟨kb, 0, none⟩) (Or.inl (by simp)) _) (fun x hx => by simp only [List.mem_singleton]; exact fun e => hk (e ▸ hx)), hk⟩, ⟨(o8.mono (fun x hx => Or.inl (List.mem_cons_of_mem _ hx))).setCell (p := ⟨kb, 0, none⟩) (Or.inl (by simp)) _, hl⟩⟩
  have e := heap_put ((o8.block kb h.lt h.apart).trans h.at_) 0 v'
  exact e
theorem addr_add (g j : Nat) : (⟨g, 0, none⟩ : Addr).add j = ⟨g, 0 + j, none⟩ := by unfold Addr.add; split <;> simp_all
theorem pow_cast (d : Nat) : ((2 ^ d : Nat) : Int) = (2 : Int) ^ d := by simp
theorem refVarI_calls (kb : Nat) (v : Value) (n : Int) (w : World) (h : BtAt w kb v []) (hn : ¬ badVar n) :
    Calls Tryd.prog 8 #[.pointer (some ⟨kb, 0, none⟩), .int .i64 n] w fun e w' => e = .returned (.tuple #[]) ∧ ∃ v', BtAt w' kb v' (varB n.toNat) ∧ PP w kb v w' v' := by
  unfold badVar at hn
  obtain ⟨m, rfl⟩ : ∃ m : Nat, n = (m : Int) := ⟨n.toNat, by omega⟩
  exact refVar_calls kb v [] m w h (by omega) (by simp)
theorem refPutI_calls (kb : Nat) (v : Value) (n wd : Int) (w : World) (h : BtAt w kb v []) (hn : ¬ badPut n wd) :
    Calls Tryd.prog 6 #[.pointer (some ⟨kb, 0, none⟩), .int .i64 n, .int .i64 wd] w fun e w' => e = .returned (.tuple #[]) ∧ ∃ v', BtAt w' kb v' (putB n.toNat wd.toNat) ∧ PP w kb v w' v' := by
  unfold badPut at hn
  obtain ⟨m, rfl⟩ : ∃ m : Nat, n = (m : Int) := ⟨n.toNat, by omega⟩
  obtain ⟨d, rfl⟩ : ∃ d : Nat, wd = (d : Int) := ⟨wd.toNat, by omega⟩
  have h1 : 2 ^ d ≤ 2 ^ 62 := Nat.pow_le_pow_right (by omega) (by omega)
  have h2 := pow_cast d
  rw [Int.toNat_natCast] at hn
  exact refPut_calls kb v [] m d w h (by omega) (by omega) (by simp; omega)
theorem var_100 (n : Nat) (h : n < 2 ^ 62) : (varB n).length ≤ 100 := by rw [varB_len]; have := piecesM_13 h; omega
theorem erV0 : erV 0 = .nilIface := rfl
theorem erV2 : erV 2 = errV 2 := rfl
theorem erV4 : erV 4 = errV 4 := rfl
theorem pow_cast_ (d : Nat) : ((2 ^ d : Nat) : Int) = (2 : Int) ^ d := by simp
set_option maxRecDepth 100000 in
set_option maxHeartbeats 8000000 in
theorem bitsWrite_calls (a : Option Addr) (len cap : Nat) (M : Nat → Mk) (full : Bool) (w : World) (hg : EtIs w) (hm : MarksAt w a len M) :
    Calls Tryd.prog 3 #[.slice a len cap, .bool full] w fun e w' => e = .returned (.bool true) ∧ Only [] w w' := by
  obtain ⟨i2, hi0, hz0, hz1, hz2⟩ := info_parts byteInfo
  have HM : Hid (MarksAt w a len M ∧ EtIs w) := ⟨hm, hg⟩
  clear hm hg
  by_cases hlen : (len : Int) > 80
  · go_enter Tryd.func3, Tryd.ntmps3
    go_wp2_with fail
    go_ret
    exact ⟨rfl, Only.refl _ _⟩
  · go_enter Tryd.func3, Tryd.ntmps3
    go_upto_region 5 with fail
    rw [zero_cells w]
    have H0 : Hid (LD w w.heap.size (w.heap.size + 1) (.slice none 0 0) [] ((w.alloc (.cells (wcells []) 25)).alloc (.cells #[.slice none 0 0] 27))) := LD.start w _ _ rfl rfl
    revert H0
    generalize World.alloc (World.alloc w _) _ = w1
    generalize w.heap.size + 1 = kb
    generalize hx : w.heap.size = x
    intro H0
    clear hx
    cases full with
    | false =>
      go_wp2_with fail
      go_loopg [7] len (fun k idx wr => ∃ (i : Nat) (v : Value) (l : List Nat), idx = .int .i64 (i : Int) ∧ Hid (i ≤ len ∧ k = len - i) ∧ Hid (LD w x kb v l wr))
      case atStart => exact ⟨0, _, _, rfl, ⟨by omega, rfl⟩, H0⟩
      case round =>
        clear H0
        obtain ⟨i, v, l, rfl, HI, HE⟩ := hrel
        by_cases hi : i < len
        · have hil : (i : Int) < (len : Int) := by omega
          obtain ⟨b, o, rfl, c0, c1, c2⟩ := (HM.out.1.only HE.out.only) i hi
          generalize M i = q at c0 c1 c2
          obtain ⟨t, qn, qd⟩ := q
          simp only at c0 c1 c2
          go_upto_region 14 with fail
          have H2 : Hid (LF w x kb v l wr.heap.size ⟨t, qn, qd⟩ (wr.heap.size + 1) (.slice none 0 0) [] l ((wr.alloc (.cells #[.int .i64 t, .int .i64 qn, .int .i64 qd] 33)).alloc (.cells #[.slice none 0 0] 27))) := LF.start HE.out ⟨t, qn, qd⟩
          clear c0 c1 c2
          revert H2
          generalize World.alloc (World.alloc wr _) _ = w2
          generalize wr.heap.size + 1 = km
          generalize wr.heap.size = kx
          intro H2
          have d0 := H2.out.mk_.off 0; have d1 := H2.out.mk_.off 1; have d2 := H2.out.mk_.off 2
          simp only [List.getElem?_toArray, List.getElem?_cons_succ, List.getElem?_cons_zero] at d0 d1 d2
          go_upto_block 4 with fail
          go_cut [10, 11] from 34 to 128 (fun s10 s11 wc => ∃ (bd : Bool) (er : Nat) (mr l' : List Nat) (v2 : Value), s10 = erV er ∧ s11 = .bool bd ∧ Out l bd er mr l' ∧ LF w x kb v l kx ⟨t, qn, qd⟩ km v2 mr l' wc)
          case first =>
            by_cases ht0 : t = 0
            · subst ht0
              go_wp2_with fail
              refine (put_calls x l qn qd w2 H2.out.wa).mono ?_
              rintro e w3 ⟨o3, hr⟩
              clear d0 d1 d2
              rcases hr with ⟨hb, rfl, hw⟩ | ⟨hb, hl, rfl, hw⟩ | ⟨hb, hl, rfl, hw⟩
              · have H3 : Hid (LF w x kb v l kx _ km (.slice none 0 0) [] l w3) := H2.out.wrote o3 hw
                clear o3 hw H2
                have d1 := H3.out.mk_.off 1; have d2 := H3.out.mk_.off 2
                simp only [List.getElem?_toArray, List.getElem?_cons_succ, List.getElem?_cons_zero] at d1 d2
                simp only [errV]
                have hbc : (qd < 0) ∨ (¬ qd < 0 ∧ qd > 62) ∨ (¬ qd < 0 ∧ ¬ qd > 62 ∧ qn < 0) ∨ (¬ qd < 0 ∧ ¬ qd > 62 ∧ ¬ qn < 0 ∧ 2 ^ qd.toNat ≤ qn) := by unfold badPut at hb; omega
                clear hb
                rcases hbc with h1 | ⟨h1, h2⟩ | ⟨h1, h2, h3⟩ | ⟨h1, h2, h3, h4⟩
                · skip
                  go_upto_region 19 with fail
                  refine wp_region_held_drew (S := (fun w' => w'.cell? ⟨kx, 1, none⟩ = some (.int .i64 qn) ∧ w'.cell? ⟨kx, 2, none⟩ = some (.int .i64 qd))) (by kernel_rfl) ?_ (fun hHeld1 => ?_)
                  · (try dsimp only); exact ⟨d1, d2⟩
                  refine tkW 0 rfl ?_; refine tkW 1 rfl ?_; refine tkW 2 rfl ?_; refine tkW 3 rfl ?_
                  try simp only [Act.put, List.setIfInBounds_toArray, List.set_cons_zero, List.set_cons_succ, List.getElem_toArray, List.getElem_cons_succ, List.getElem_cons_zero]
                  refine skW 4 rfl ?_; refine skW 5 rfl ?_; refine skW 6 rfl ?_
                  try simp only [Act.put, List.setIfInBounds_toArray, List.set_cons_zero, List.set_cons_succ, List.getElem_toArray, List.getElem_cons_succ, List.getElem_cons_zero]
                  refine tkW 7 rfl ?_; refine tkW 8 rfl ?_
                  try simp only [Act.put, List.setIfInBounds_toArray, List.set_cons_zero, List.set_cons_succ, List.getElem_toArray, List.getElem_cons_succ, List.getElem_cons_zero]
                  refine skW 9 rfl ?_; refine skW 10 rfl ?_; refine skW 11 rfl ?_
                  try simp only [Act.put, List.setIfInBounds_toArray, List.set_cons_zero, List.set_cons_succ, List.getElem_toArray, List.getElem_cons_succ, List.getElem_cons_zero]
                  refine tkW 12 rfl ?_; refine tkW 13 rfl ?_
                  try simp only [Act.put, List.setIfInBounds_toArray, List.set_cons_zero, List.set_cons_succ, List.getElem_toArray, List.getElem_cons_succ, List.getElem_cons_zero]
                  refine skW 14 rfl ?_; refine skW 15 rfl ?_; refine skW 16 rfl ?_; refine skW 17 rfl ?_
                  try simp only [Act.put, List.setIfInBounds_toArray, List.set_cons_zero, List.set_cons_succ, List.getElem_toArray, List.getElem_cons_succ, List.getElem_cons_zero]
                  refine skW 18 rfl ?_; refine skW 19 rfl ?_; refine skW 20 rfl ?_; refine skW 21 rfl ?_
                  try simp only [Act.put, List.setIfInBounds_toArray, List.set_cons_zero, List.set_cons_succ, List.getElem_toArray, List.getElem_cons_succ, List.getElem_cons_zero]
                  refine tkW 22 rfl ?_; refine tkW 23 rfl ?_
                  try simp only [Act.put, List.setIfInBounds_toArray, List.set_cons_zero, List.set_cons_succ, List.getElem_toArray, List.getElem_cons_succ, List.getElem_cons_zero]
                  refine wpAnyH_done (by kernel_rfl) ?_ _
                  have H3 : Hid (LF w x kb v l kx _ km (.slice none 0 0) [] l w3.drew) := H3.out.keep (Only.refl [] w3).drew
                  clear d1 d2
                  generalize World.drew w3 = w3 at H3 ⊢
                  go_wp2_with fail
                  go_meet
                  case rel => exact ⟨true, 2, [], l, _, rfl, rfl, Or.inl ⟨rfl, rfl, rfl, rfl⟩, H3.out⟩
                · skip
                  go_upto_region 19 with fail
                  refine wp_region_held_drew (S := (fun w' => w'.cell? ⟨kx, 1, none⟩ = some (.int .i64 qn) ∧ w'.cell? ⟨kx, 2, none⟩ = some (.int .i64 qd))) (by kernel_rfl) ?_ (fun hHeld1 => ?_)
                  · (try dsimp only); exact ⟨d1, d2⟩
                  refine tkW 0 rfl ?_; refine tkW 1 rfl ?_; refine tkW 2 rfl ?_; refine tkW 3 rfl ?_
                  try simp only [Act.put, List.setIfInBounds_toArray, List.set_cons_zero, List.set_cons_succ, List.getElem_toArray, List.getElem_cons_succ, List.getElem_cons_zero]
                  refine tkW 4 rfl ?_; refine tkW 5 rfl ?_; refine tkW 6 rfl ?_; refine tkW 7 rfl ?_
                  try simp only [Act.put, List.setIfInBounds_toArray, List.set_cons_zero, List.set_cons_succ, List.getElem_toArray, List.getElem_cons_succ, List.getElem_cons_zero]
                  refine tkW 8 rfl ?_
                  try simp only [Act.put, List.setIfInBounds_toArray, List.set_cons_zero, List.set_cons_succ, List.getElem_toArray, List.getElem_cons_succ, List.getElem_cons_zero]
                  refine skW 9 rfl ?_; refine skW 10 rfl ?_; refine skW 11 rfl ?_
                  try simp only [Act.put, List.setIfInBounds_toArray, List.set_cons_zero, List.set_cons_succ, List.getElem_toArray, List.getElem_cons_succ, List.getElem_cons_zero]
                  refine tkW 12 rfl ?_; refine tkW 13 rfl ?_
                  try simp only [Act.put, List.setIfInBounds_toArray, List.set_cons_zero, List.set_cons_succ, List.getElem_toArray, List.getElem_cons_succ, List.getElem_cons_zero]
                  refine skW 14 rfl ?_; refine skW 15 rfl ?_; refine skW 16 rfl ?_; refine skW 17 rfl ?_
                  try simp only [Act.put, List.setIfInBounds_toArray, List.set_cons_zero, List.set_cons_succ, List.getElem_toArray, List.getElem_cons_succ, List.getElem_cons_zero]
                  refine skW 18 rfl ?_; refine skW 19 rfl ?_; refine skW 20 rfl ?_; refine skW 21 rfl ?_
                  try simp only [Act.put, List.setIfInBounds_toArray, List.set_cons_zero, List.set_cons_succ, List.getElem_toArray, List.getElem_cons_succ, List.getElem_cons_zero]
                  refine tkW 22 rfl ?_; refine tkW 23 rfl ?_
                  try simp only [Act.put, List.setIfInBounds_toArray, List.set_cons_zero, List.set_cons_succ, List.getElem_toArray, List.getElem_cons_succ, List.getElem_cons_zero]
                  refine wpAnyH_done (by kernel_rfl) ?_ _
                  have H3 : Hid (LF w x kb v l kx _ km (.slice none 0 0) [] l w3.drew) := H3.out.keep (Only.refl [] w3).drew
                  clear d1 d2
                  generalize World.drew w3 = w3 at H3 ⊢
                  go_wp2_with fail
                  go_meet
                  case rel => exact ⟨true, 2, [], l, _, rfl, rfl, Or.inl ⟨rfl, rfl, rfl, rfl⟩, H3.out⟩
                · skip
                  go_upto_region 19 with fail
                  refine wp_region_held_drew (S := (fun w' => w'.cell? ⟨kx, 1, none⟩ = some (.int .i64 qn) ∧ w'.cell? ⟨kx, 2, none⟩ = some (.int .i64 qd))) (by kernel_rfl) ?_ (fun hHeld1 => ?_)
                  · (try dsimp only); exact ⟨d1, d2⟩
                  refine tkW 0 rfl ?_; refine tkW 1 rfl ?_; refine tkW 2 rfl ?_; refine tkW 3 rfl ?_
                  try simp only [Act.put, List.setIfInBounds_toArray, List.set_cons_zero, List.set_cons_succ, List.getElem_toArray, List.getElem_cons_succ, List.getElem_cons_zero]
                  refine tkW 4 rfl ?_; refine tkW 5 rfl ?_; refine tkW 6 rfl ?_; refine tkW 7 rfl ?_
                  try simp only [Act.put, List.setIfInBounds_toArray, List.set_cons_zero, List.set_cons_succ, List.getElem_toArray, List.getElem_cons_succ, List.getElem_cons_zero]
                  refine tkW 8 rfl ?_; refine tkW 9 rfl ?_; refine tkW 10 rfl ?_; refine tkW 11 rfl ?_
                  try simp only [Act.put, List.setIfInBounds_toArray, List.set_cons_zero, List.set_cons_succ, List.getElem_toArray, List.getElem_cons_succ, List.getElem_cons_zero]
                  refine tkW 12 rfl ?_; refine tkW 13 rfl ?_
                  try simp only [Act.put, List.setIfInBounds_toArray, List.set_cons_zero, List.set_cons_succ, List.getElem_toArray, List.getElem_cons_succ, List.getElem_cons_zero]
                  refine skW 14 rfl ?_; refine skW 15 rfl ?_; refine skW 16 rfl ?_; refine skW 17 rfl ?_
                  try simp only [Act.put, List.setIfInBounds_toArray, List.set_cons_zero, List.set_cons_succ, List.getElem_toArray, List.getElem_cons_succ, List.getElem_cons_zero]
                  refine skW 18 rfl ?_; refine skW 19 rfl ?_; refine skW 20 rfl ?_; refine skW 21 rfl ?_
                  try simp only [Act.put, List.setIfInBounds_toArray, List.set_cons_zero, List.set_cons_succ, List.getElem_toArray, List.getElem_cons_succ, List.getElem_cons_zero]
                  refine tkW 22 rfl ?_; refine tkW 23 rfl ?_
                  try simp only [Act.put, List.setIfInBounds_toArray, List.set_cons_zero, List.set_cons_succ, List.getElem_toArray, List.getElem_cons_succ, List.getElem_cons_zero]
                  refine wpAnyH_done (by kernel_rfl) ?_ _
                  have H3 : Hid (LF w x kb v l kx _ km (.slice none 0 0) [] l w3.drew) := H3.out.keep (Only.refl [] w3).drew
                  clear d1 d2
                  generalize World.drew w3 = w3 at H3 ⊢
                  go_wp2_with fail
                  go_meet
                  case rel => exact ⟨true, 2, [], l, _, rfl, rfl, Or.inl ⟨rfl, rfl, rfl, rfl⟩, H3.out⟩
                · skip
                  obtain ⟨pw, hpw⟩ : ∃ pw : Nat, pw = 2 ^ qd.toNat := ⟨_, rfl⟩
                  have h62 : 2 ^ qd.toNat ≤ 2 ^ 62 := Nat.pow_le_pow_right (by omega) (by omega)
                  have hpc := pow_cast qd.toNat
                  have HPW : Hid (IntKind.i64.wrap (2 ^ qd.toNat) = (pw : Int)) := by { show _ = _; rw [← hpc, ← hpw]; exact wrap_i64 pw (by omega) }
                  have h5 : (pw : Int) ≤ qn := by rw [hpw, hpc]; exact h4
                  clear h62 hpc hpw h4
                  go_upto_region 19 with fail
                  refine wp_region_held_drew (S := (fun w' => w'.cell? ⟨kx, 1, none⟩ = some (.int .i64 qn) ∧ w'.cell? ⟨kx, 2, none⟩ = some (.int .i64 qd))) (by kernel_rfl) ?_ (fun hHeld1 => ?_)
                  · (try dsimp only); exact ⟨d1, d2⟩
                  refine tkW 0 rfl ?_; refine tkW 1 rfl ?_; refine tkW 2 rfl ?_; refine tkW 3 rfl ?_
                  try simp only [Act.put, List.setIfInBounds_toArray, List.set_cons_zero, List.set_cons_succ, List.getElem_toArray, List.getElem_cons_succ, List.getElem_cons_zero]
                  refine tkW 4 rfl ?_; refine tkW 5 rfl ?_; refine tkW 6 rfl ?_; refine tkW 7 rfl ?_
                  try simp only [Act.put, List.setIfInBounds_toArray, List.set_cons_zero, List.set_cons_succ, List.getElem_toArray, List.getElem_cons_succ, List.getElem_cons_zero]
                  refine tkW 8 rfl ?_; refine tkW 9 rfl ?_; refine tkW 10 rfl ?_; refine tkW 11 rfl ?_
                  try simp only [Act.put, List.setIfInBounds_toArray, List.set_cons_zero, List.set_cons_succ, List.getElem_toArray, List.getElem_cons_succ, List.getElem_cons_zero]
                  refine tkW 12 rfl ?_; refine tkW 13 rfl ?_; refine tkW 14 rfl ?_; refine tkW 15 rfl ?_
                  try simp only [Act.put, List.setIfInBounds_toArray, List.set_cons_zero, List.set_cons_succ, List.getElem_toArray, List.getElem_cons_succ, List.getElem_cons_zero]
                  refine tkW 16 rfl ?_; refine tkW 17 rfl ?_
                  try simp only [Act.put, List.setIfInBounds_toArray, List.set_cons_zero, List.set_cons_succ, List.getElem_toArray, List.getElem_cons_succ, List.getElem_cons_zero]
                  refine tkW (v := .int .i64 qd) 18 rfl ?_ (by intro w'' hSw; (try dsimp only at hSw); simp only [List.getElem_toArray, List.getElem_cons_succ, List.getElem_cons_zero]; go_simp; omega)
                  try simp only [Act.put, List.setIfInBounds_toArray, List.set_cons_zero, List.set_cons_succ, List.getElem_toArray, List.getElem_cons_succ, List.getElem_cons_zero]
                  refine tkW (v := .int .i64 qd) 19 rfl ?_ (by intro w'' hSw; (try dsimp only at hSw); simp only [List.getElem_toArray, List.getElem_cons_succ, List.getElem_cons_zero]; go_simp; omega)
                  try simp only [Act.put, List.setIfInBounds_toArray, List.set_cons_zero, List.set_cons_succ, List.getElem_toArray, List.getElem_cons_succ, List.getElem_cons_zero]
                  refine tkW (v := .int .i64 (pw : Int)) 20 rfl ?_ (by intro w'' hSw; (try dsimp only at hSw); simp only [List.getElem_toArray, List.getElem_cons_succ, List.getElem_cons_zero]; go_simp; rw [HPW.out])
                  try simp only [Act.put, List.setIfInBounds_toArray, List.set_cons_zero, List.set_cons_succ, List.getElem_toArray, List.getElem_cons_succ, List.getElem_cons_zero]
                  refine tkW 21 rfl ?_; refine tkW 22 rfl ?_; refine tkW 23 rfl ?_
                  try simp only [Act.put, List.setIfInBounds_toArray, List.set_cons_zero, List.set_cons_succ, List.getElem_toArray, List.getElem_cons_succ, List.getElem_cons_zero]
                  refine wpAnyH_done (by kernel_rfl) ?_ _
                  have H3 : Hid (LF w x kb v l kx _ km (.slice none 0 0) [] l w3.drew) := H3.out.keep (Only.refl [] w3).drew
                  clear d1 d2
                  generalize World.drew w3 = w3 at H3 ⊢
                  go_wp2_with fail
                  go_meet
                  case rel => exact ⟨true, 2, [], l, _, rfl, rfl, Or.inl ⟨rfl, rfl, rfl, rfl⟩, H3.out⟩
              · have H3 : Hid (LF w x kb v l kx _ km (.slice none 0 0) [] l w3) := H2.out.wrote o3 hw
                clear o3 hw H2
                have d1 := H3.out.mk_.off 1; have d2 := H3.out.mk_.off 2
                simp only [List.getElem?_toArray, List.getElem?_cons_succ, List.getElem?_cons_zero] at d1 d2
                have HB : Hid (¬ badPut qn qd ∧ (putB qn.toNat qd.toNat).length ≤ 100) := ⟨hb, by rw [putB_len]; unfold badPut at hb; omega⟩
                have HL : Hid (32000 < l.length + (putB qn.toNat qd.toNat).length) := hl
                obtain ⟨h1, h2, h3, h4⟩ : ¬ qd < 0 ∧ ¬ qd > 62 ∧ ¬ qn < 0 ∧ ¬ 2 ^ qd.toNat ≤ qn := by unfold badPut at hb; omega
                clear hb hl
                simp only [errV]
                obtain ⟨pw, hpw⟩ : ∃ pw : Nat, pw = 2 ^ qd.toNat := ⟨_, rfl⟩
                have h62 : 2 ^ qd.toNat ≤ 2 ^ 62 := Nat.pow_le_pow_right (by omega) (by omega)
                have hpc := pow_cast qd.toNat
                have HPW : Hid (IntKind.i64.wrap (2 ^ qd.toNat) = (pw : Int)) := by { show _ = _; rw [← hpc, ← hpw]; exact wrap_i64 pw (by omega) }
                have h5 : ¬ (pw : Int) ≤ qn := by rw [hpw, hpc]; exact h4
                clear h62 hpc hpw h4
                go_upto_region 19 with fail
                refine wp_region_held_drew (S := (fun w' => w'.cell? ⟨kx, 1, none⟩ = some (.int .i64 qn) ∧ w'.cell? ⟨kx, 2, none⟩ = some (.int .i64 qd))) (by kernel_rfl) ?_ (fun hHeld1 => ?_)
                · (try dsimp only); exact ⟨d1, d2⟩
                refine tkW 0 rfl ?_; refine tkW 1 rfl ?_; refine tkW 2 rfl ?_; refine tkW 3 rfl ?_
                try simp only [Act.put, List.setIfInBounds_toArray, List.set_cons_zero, List.set_cons_succ, List.getElem_toArray, List.getElem_cons_succ, List.getElem_cons_zero]
                refine tkW 4 rfl ?_; refine tkW 5 rfl ?_; refine tkW 6 rfl ?_; refine tkW 7 rfl ?_
                try simp only [Act.put, List.setIfInBounds_toArray, List.set_cons_zero, List.set_cons_succ, List.getElem_toArray, List.getElem_cons_succ, List.getElem_cons_zero]
                refine tkW 8 rfl ?_; refine tkW 9 rfl ?_; refine tkW 10 rfl ?_; refine tkW 11 rfl ?_
                try simp only [Act.put, List.setIfInBounds_toArray, List.set_cons_zero, List.set_cons_succ, List.getElem_toArray, List.getElem_cons_succ, List.getElem_cons_zero]
                refine tkW 12 rfl ?_; refine tkW 13 rfl ?_; refine tkW 14 rfl ?_; refine tkW 15 rfl ?_
                try simp only [Act.put, List.setIfInBounds_toArray, List.set_cons_zero, List.set_cons_succ, List.getElem_toArray, List.getElem_cons_succ, List.getElem_cons_zero]
                refine tkW 16 rfl ?_; refine tkW 17 rfl ?_
                try simp only [Act.put, List.setIfInBounds_toArray, List.set_cons_zero, List.set_cons_succ, List.getElem_toArray, List.getElem_cons_succ, List.getElem_cons_zero]
                refine tkW (v := .int .i64 qd) 18 rfl ?_ (by intro w'' hSw; (try dsimp only at hSw); simp only [List.getElem_toArray, List.getElem_cons_succ, List.getElem_cons_zero]; go_simp; omega)
                try simp only [Act.put, List.setIfInBounds_toArray, List.set_cons_zero, List.set_cons_succ, List.getElem_toArray, List.getElem_cons_succ, List.getElem_cons_zero]
                refine tkW (v := .int .i64 qd) 19 rfl ?_ (by intro w'' hSw; (try dsimp only at hSw); simp only [List.getElem_toArray, List.getElem_cons_succ, List.getElem_cons_zero]; go_simp; omega)
                try simp only [Act.put, List.setIfInBounds_toArray, List.set_cons_zero, List.set_cons_succ, List.getElem_toArray, List.getElem_cons_succ, List.getElem_cons_zero]
                refine tkW (v := .int .i64 (pw : Int)) 20 rfl ?_ (by intro w'' hSw; (try dsimp only at hSw); simp only [List.getElem_toArray, List.getElem_cons_succ, List.getElem_cons_zero]; go_simp; rw [HPW.out])
                try simp only [Act.put, List.setIfInBounds_toArray, List.set_cons_zero, List.set_cons_succ, List.getElem_toArray, List.getElem_cons_succ, List.getElem_cons_zero]
                refine tkW 21 rfl ?_; refine tkW 22 rfl ?_; refine tkW 23 rfl ?_
                try simp only [Act.put, List.setIfInBounds_toArray, List.set_cons_zero, List.set_cons_succ, List.getElem_toArray, List.getElem_cons_succ, List.getElem_cons_zero]
                refine wpAnyH_done (by kernel_rfl) ?_ _
                have H3 : Hid (LF w x kb v l kx _ km (.slice none 0 0) [] l w3.drew) := H3.out.keep (Only.refl [] w3).drew
                clear d1 d2
                generalize World.drew w3 = w3 at H3 ⊢
                have d1 := H3.out.mk_.off 1; have d2 := H3.out.mk_.off 2
                simp only [List.getElem?_toArray, List.getElem?_cons_succ, List.getElem?_cons_zero] at d1 d2
                go_wp2_with fail
                refine (refPutI_calls km _ qn qd w3 H3.out.bt2 HB.out.1).mono ?_
                rintro e w4 ⟨rfl, v4, hB4, hP4⟩
                have H4 : Hid (LF w x kb v l kx _ km v4 (putB qn.toNat qd.toNat) l w4) := H3.out.putm hB4 hP4
                clear hB4 hP4 H3 d1 d2
                go_wp2_with fail
                go_meet
                case rel => exact ⟨false, 4, putB qn.toNat qd.toNat, l, v4, rfl, rfl, Or.inr (Or.inl ⟨rfl, HL.out, rfl, rfl, HB.out.2⟩), H4.out⟩
              · have H3 : Hid (LF w x kb v l kx _ km (.slice none 0 0) [] (l ++ putB qn.toNat qd.toNat) w3) := H2.out.wrote o3 hw
                clear o3 hw H2
                have d1 := H3.out.mk_.off 1; have d2 := H3.out.mk_.off 2
                simp only [List.getElem?_toArray, List.getElem?_cons_succ, List.getElem?_cons_zero] at d1 d2
                have HB : Hid (¬ badPut qn qd ∧ (putB qn.toNat qd.toNat).length ≤ 100) := ⟨hb, by rw [putB_len]; unfold badPut at hb; omega⟩
                have HL : Hid (l.length + (putB qn.toNat qd.toNat).length ≤ 32000) := hl
                obtain ⟨h1, h2, h3, h4⟩ : ¬ qd < 0 ∧ ¬ qd > 62 ∧ ¬ qn < 0 ∧ ¬ 2 ^ qd.toNat ≤ qn := by unfold badPut at hb; omega
                clear hb hl
                dsimp only
                obtain ⟨pw, hpw⟩ : ∃ pw : Nat, pw = 2 ^ qd.toNat := ⟨_, rfl⟩
                have h62 : 2 ^ qd.toNat ≤ 2 ^ 62 := Nat.pow_le_pow_right (by omega) (by omega)
                have hpc := pow_cast qd.toNat
                have HPW : Hid (IntKind.i64.wrap (2 ^ qd.toNat) = (pw : Int)) := by { show _ = _; rw [← hpc, ← hpw]; exact wrap_i64 pw (by omega) }
                have h5 : ¬ (pw : Int) ≤ qn := by rw [hpw, hpc]; exact h4
                clear h62 hpc hpw h4
                go_upto_region 19 with fail
                refine wp_region_held_drew (S := (fun w' => w'.cell? ⟨kx, 1, none⟩ = some (.int .i64 qn) ∧ w'.cell? ⟨kx, 2, none⟩ = some (.int .i64 qd))) (by kernel_rfl) ?_ (fun hHeld1 => ?_)
                · (try dsimp only); exact ⟨d1, d2⟩
                refine tkW 0 rfl ?_; refine tkW 1 rfl ?_; refine tkW 2 rfl ?_; refine tkW 3 rfl ?_
                try simp only [Act.put, List.setIfInBounds_toArray, List.set_cons_zero, List.set_cons_succ, List.getElem_toArray, List.getElem_cons_succ, List.getElem_cons_zero]
                refine tkW 4 rfl ?_; refine tkW 5 rfl ?_; refine tkW 6 rfl ?_; refine tkW 7 rfl ?_
                try simp only [Act.put, List.setIfInBounds_toArray, List.set_cons_zero, List.set_cons_succ, List.getElem_toArray, List.getElem_cons_succ, List.getElem_cons_zero]
                refine tkW 8 rfl ?_; refine tkW 9 rfl ?_; refine tkW 10 rfl ?_; refine tkW 11 rfl ?_
                try simp only [Act.put, List.setIfInBounds_toArray, List.set_cons_zero, List.set_cons_succ, List.getElem_toArray, List.getElem_cons_succ, List.getElem_cons_zero]
                refine tkW 12 rfl ?_; refine tkW 13 rfl ?_; refine tkW 14 rfl ?_; refine tkW 15 rfl ?_
                try simp only [Act.put, List.setIfInBounds_toArray, List.set_cons_zero, List.set_cons_succ, List.getElem_toArray, List.getElem_cons_succ, List.getElem_cons_zero]
                refine tkW 16 rfl ?_; refine tkW 17 rfl ?_
                try simp only [Act.put, List.setIfInBounds_toArray, List.set_cons_zero, List.set_cons_succ, List.getElem_toArray, List.getElem_cons_succ, List.getElem_cons_zero]
                refine tkW (v := .int .i64 qd) 18 rfl ?_ (by intro w'' hSw; (try dsimp only at hSw); simp only [List.getElem_toArray, List.getElem_cons_succ, List.getElem_cons_zero]; go_simp; omega)
                try simp only [Act.put, List.setIfInBounds_toArray, List.set_cons_zero, List.set_cons_succ, List.getElem_toArray, List.getElem_cons_succ, List.getElem_cons_zero]
                refine tkW (v := .int .i64 qd) 19 rfl ?_ (by intro w'' hSw; (try dsimp only at hSw); simp only [List.getElem_toArray, List.getElem_cons_succ, List.getElem_cons_zero]; go_simp; omega)
                try simp only [Act.put, List.setIfInBounds_toArray, List.set_cons_zero, List.set_cons_succ, List.getElem_toArray, List.getElem_cons_succ, List.getElem_cons_zero]
                refine tkW (v := .int .i64 (pw : Int)) 20 rfl ?_ (by intro w'' hSw; (try dsimp only at hSw); simp only [List.getElem_toArray, List.getElem_cons_succ, List.getElem_cons_zero]; go_simp; rw [HPW.out])
                try simp only [Act.put, List.setIfInBounds_toArray, List.set_cons_zero, List.set_cons_succ, List.getElem_toArray, List.getElem_cons_succ, List.getElem_cons_zero]
                refine tkW 21 rfl ?_; refine tkW 22 rfl ?_; refine tkW 23 rfl ?_
                try simp only [Act.put, List.setIfInBounds_toArray, List.set_cons_zero, List.set_cons_succ, List.getElem_toArray, List.getElem_cons_succ, List.getElem_cons_zero]
                refine wpAnyH_done (by kernel_rfl) ?_ _
                have H3 : Hid (LF w x kb v l kx _ km (.slice none 0 0) [] (l ++ putB qn.toNat qd.toNat) w3.drew) := H3.out.keep (Only.refl [] w3).drew
                clear d1 d2
                generalize World.drew w3 = w3 at H3 ⊢
                have d1 := H3.out.mk_.off 1; have d2 := H3.out.mk_.off 2
                simp only [List.getElem?_toArray, List.getElem?_cons_succ, List.getElem?_cons_zero] at d1 d2
                go_wp2_with fail
                refine (refPutI_calls km _ qn qd w3 H3.out.bt2 HB.out.1).mono ?_
                rintro e w4 ⟨rfl, v4, hB4, hP4⟩
                have H4 : Hid (LF w x kb v l kx _ km v4 (putB qn.toNat qd.toNat) (l ++ putB qn.toNat qd.toNat) w4) := H3.out.putm hB4 hP4
                clear hB4 hP4 H3 d1 d2
                go_wp2_with fail
                go_meet
                case rel => exact ⟨false, 0, putB qn.toNat qd.toNat, (l ++ putB qn.toNat qd.toNat), v4, rfl, rfl, Or.inr (Or.inr ⟨rfl, HL.out, rfl, rfl, HB.out.2⟩), H4.out⟩
            by_cases ht1 : t = 1
            · subst ht1
              go_wp2_with fail
              refine (var_calls x l qn w2 H2.out.wa).mono ?_
              rintro e w3 ⟨o3, hr⟩
              clear d0 d1 d2
              rcases hr with ⟨hb, rfl, hw⟩ | ⟨hb, hl, rfl, hw⟩ | ⟨hb, hl, rfl, hw⟩
              · have H3 : Hid (LF w x kb v l kx _ km (.slice none 0 0) [] l w3) := H2.out.wrote o3 hw
                clear o3 hw H2
                have d1 := H3.out.mk_.off 1; have d2 := H3.out.mk_.off 2
                simp only [List.getElem?_toArray, List.getElem?_cons_succ, List.getElem?_cons_zero] at d1 d2
                simp only [errV]
                have hbc : (qn < 0) ∨ (¬ qn < 0 ∧ qn ≥ 4611686018427387904) := by unfold badVar at hb; omega
                clear hb
                rcases hbc with h1 | ⟨h1, h2⟩
                · skip
                  go_wp2_with fail
                  go_meet
                  case rel => exact ⟨true, 2, [], l, _, rfl, rfl, Or.inl ⟨rfl, rfl, rfl, rfl⟩, H3.out⟩
                · skip
                  go_wp2_with fail
                  go_meet
                  case rel => exact ⟨true, 2, [], l, _, rfl, rfl, Or.inl ⟨rfl, rfl, rfl, rfl⟩, H3.out⟩
              · have H3 : Hid (LF w x kb v l kx _ km (.slice none 0 0) [] l w3) := H2.out.wrote o3 hw
                clear o3 hw H2
                have d1 := H3.out.mk_.off 1; have d2 := H3.out.mk_.off 2
                simp only [List.getElem?_toArray, List.getElem?_cons_succ, List.getElem?_cons_zero] at d1 d2
                have HB : Hid (¬ badVar qn ∧ (varB qn.toNat).length ≤ 100) := ⟨hb, var_100 _ (by unfold badVar at hb; omega)⟩
                have HL : Hid (32000 < l.length + (varB qn.toNat).length) := hl
                obtain ⟨h1, h2⟩ : ¬ qn < 0 ∧ ¬ qn ≥ 4611686018427387904 := by unfold badVar at hb; omega
                clear hb hl
                simp only [errV]
                go_wp2_with fail
                refine (refVarI_calls km _ qn w3 H3.out.bt2 HB.out.1).mono ?_
                rintro e w4 ⟨rfl, v4, hB4, hP4⟩
                have H4 : Hid (LF w x kb v l kx _ km v4 (varB qn.toNat) l w4) := H3.out.putm hB4 hP4
                clear hB4 hP4 H3 d1 d2
                go_wp2_with fail
                go_meet
                case rel => exact ⟨false, 4, varB qn.toNat, l, v4, rfl, rfl, Or.inr (Or.inl ⟨rfl, HL.out, rfl, rfl, HB.out.2⟩), H4.out⟩
              · have H3 : Hid (LF w x kb v l kx _ km (.slice none 0 0) [] (l ++ varB qn.toNat) w3) := H2.out.wrote o3 hw
                clear o3 hw H2
                have d1 := H3.out.mk_.off 1; have d2 := H3.out.mk_.off 2
                simp only [List.getElem?_toArray, List.getElem?_cons_succ, List.getElem?_cons_zero] at d1 d2
                have HB : Hid (¬ badVar qn ∧ (varB qn.toNat).length ≤ 100) := ⟨hb, var_100 _ (by unfold badVar at hb; omega)⟩
                have HL : Hid (l.length + (varB qn.toNat).length ≤ 32000) := hl
                obtain ⟨h1, h2⟩ : ¬ qn < 0 ∧ ¬ qn ≥ 4611686018427387904 := by unfold badVar at hb; omega
                clear hb hl
                dsimp only
                go_wp2_with fail
                refine (refVarI_calls km _ qn w3 H3.out.bt2 HB.out.1).mono ?_
                rintro e w4 ⟨rfl, v4, hB4, hP4⟩
                have H4 : Hid (LF w x kb v l kx _ km v4 (varB qn.toNat) (l ++ varB qn.toNat) w4) := H3.out.putm hB4 hP4
                clear hB4 hP4 H3 d1 d2
                go_wp2_with fail
                go_meet
                case rel => exact ⟨false, 0, varB qn.toNat, (l ++ varB qn.toNat), v4, rfl, rfl, Or.inr (Or.inr ⟨rfl, HL.out, rfl, rfl, HB.out.2⟩), H4.out⟩
            by_cases ht2 : t = 2
            · subst ht2
              go_wp2_with fail
              refine (int_calls x l qn w2 H2.out.wa).mono ?_
              rintro e w3 ⟨o3, hr⟩
              clear d0 d1 d2
              rcases hr with ⟨hb, rfl, hw⟩ | ⟨hb, hl, rfl, hw⟩ | ⟨hb, hl, rfl, hw⟩
              · have H3 : Hid (LF w x kb v l kx _ km (.slice none 0 0) [] l w3) := H2.out.wrote o3 hw
                clear o3 hw H2
                have d1 := H3.out.mk_.off 1; have d2 := H3.out.mk_.off 2
                simp only [List.getElem?_toArray, List.getElem?_cons_succ, List.getElem?_cons_zero] at d1 d2
                simp only [errV]
                have hbc : (qn < -1152921504606846976) ∨ (¬ qn < -1152921504606846976 ∧ qn > 1152921504606846976) := by unfold badInt at hb; omega
                clear hb
                rcases hbc with h1 | ⟨h1, h2⟩
                · skip
                  go_wp2_with fail
                  go_meet
                  case rel => exact ⟨true, 2, [], l, _, rfl, rfl, Or.inl ⟨rfl, rfl, rfl, rfl⟩, H3.out⟩
                · skip
                  go_wp2_with fail
                  go_meet
                  case rel => exact ⟨true, 2, [], l, _, rfl, rfl, Or.inl ⟨rfl, rfl, rfl, rfl⟩, H3.out⟩
              · have H3 : Hid (LF w x kb v l kx _ km (.slice none 0 0) [] l w3) := H2.out.wrote o3 hw
                clear o3 hw H2
                have d1 := H3.out.mk_.off 1; have d2 := H3.out.mk_.off 2
                simp only [List.getElem?_toArray, List.getElem?_cons_succ, List.getElem?_cons_zero] at d1 d2
                have HB : Hid (¬ badInt qn ∧ (varB (codeM qn)).length ≤ 100) := ⟨hb, var_100 _ (by unfold badInt at hb; unfold codeM; split <;> omega)⟩
                have HL : Hid (32000 < l.length + (varB (codeM qn)).length) := hl
                obtain ⟨h1, h2⟩ : ¬ qn < -1152921504606846976 ∧ ¬ qn > 1152921504606846976 := by unfold badInt at hb; omega
                clear hb hl
                simp only [errV]
                go_wp2_with fail
                refine (refInt_calls km _ [] qn w3 H3.out.bt2 HB.out.1 (by simp)).mono ?_
                rintro e w4 ⟨rfl, v4, hB4, hP4⟩
                have H4 : Hid (LF w x kb v l kx _ km v4 (varB (codeM qn)) l w4) := H3.out.putm hB4 hP4
                clear hB4 hP4 H3 d1 d2
                go_wp2_with fail
                go_meet
                case rel => exact ⟨false, 4, varB (codeM qn), l, v4, rfl, rfl, Or.inr (Or.inl ⟨rfl, HL.out, rfl, rfl, HB.out.2⟩), H4.out⟩
              · have H3 : Hid (LF w x kb v l kx _ km (.slice none 0 0) [] (l ++ varB (codeM qn)) w3) := H2.out.wrote o3 hw
                clear o3 hw H2
                have d1 := H3.out.mk_.off 1; have d2 := H3.out.mk_.off 2
                simp only [List.getElem?_toArray, List.getElem?_cons_succ, List.getElem?_cons_zero] at d1 d2
                have HB : Hid (¬ badInt qn ∧ (varB (codeM qn)).length ≤ 100) := ⟨hb, var_100 _ (by unfold badInt at hb; unfold codeM; split <;> omega)⟩
                have HL : Hid (l.length + (varB (codeM qn)).length ≤ 32000) := hl
                obtain ⟨h1, h2⟩ : ¬ qn < -1152921504606846976 ∧ ¬ qn > 1152921504606846976 := by unfold badInt at hb; omega
                clear hb hl
                dsimp only
                go_wp2_with fail
                refine (refInt_calls km _ [] qn w3 H3.out.bt2 HB.out.1 (by simp)).mono ?_
                rintro e w4 ⟨rfl, v4, hB4, hP4⟩
                have H4 : Hid (LF w x kb v l kx _ km v4 (varB (codeM qn)) (l ++ varB (codeM qn)) w4) := H3.out.putm hB4 hP4
                clear hB4 hP4 H3 d1 d2
                go_wp2_with fail
                go_meet
                case rel => exact ⟨false, 0, varB (codeM qn), (l ++ varB (codeM qn)), v4, rfl, rfl, Or.inr (Or.inr ⟨rfl, HL.out, rfl, rfl, HB.out.2⟩), H4.out⟩
            go_wp2_with fail
            go_roundg (len - (i + 1))
            case measure => have := HI.out.2; omega
            case rel => exact ⟨i + 1, v, l, by go_num, ⟨by omega, rfl⟩, H2.out.back⟩
          case rest =>
            clear d0 d1 d2 H2 HE
            obtain ⟨bd, er, mr, l', v2, hs10, rfl, hout, hlf⟩ := hcut
            have HEV : Hid (_ = erV er) := hs10
            have HO : Hid (Out l bd er mr l') := hout
            have HF : Hid (LF w x kb v l kx ⟨t, qn, qd⟩ km v2 mr l' wc) := hlf
            clear hs10 hout hlf
            obtain ⟨av, cv, rfl, hcv, _⟩ := HF.out.bt.sl.shape
            obtain ⟨a2, c2, rfl, hc2, _⟩ := HF.out.bt2.sl.shape
            have k0 := HF.out.bt.c0; have k2 := HF.out.bt2.c0; have f0 := HF.out.bt.free
            go_upto_block 5 with fail
            go_cut [12] from 110 to 128 (fun s12 wd => ∃ v', s12 = .int .i64 (er : Int) ∧ LD w x kb v' l' wd)
            case first =>
              rcases HO.out with ⟨rfl, rfl, rfl, hl'⟩ | ⟨rfl, hgt, rfl, hl', hs⟩ | ⟨rfl, hle, rfl, hl', hs⟩ <;> have hl'' := hl'.symm <;> subst hl'' <;> clear hl'
              · go_wp2_with fail
                go_meet
                case rel => exact ⟨_, rfl, HF.out.back⟩
              · have hgl : (l.length : Int) + (mr.length : Int) > 32000 := by omega
                have hsl : (mr.length : Int) ≤ 100 := by omega
                have hll : (l.length : Int) ≤ 32000 := by have := HF.out.wa.len; omega
                clear hgt hs
                go_wp2_with fail
                go_meet
                case rel => exact ⟨_, rfl, HF.out.back⟩
              · have hgl : ¬ (l.length : Int) + (mr.length : Int) > 32000 := by omega
                have hsl : (mr.length : Int) ≤ 100 := by omega
                have hll : (l.length : Int) ≤ 32000 := by omega
                have HL : Hid (l.length + mr.length ≤ 32000) := hle
                clear hle hs
                rcases HF.out.bt2.sl.two with ⟨he, rfl⟩ | ⟨g2, c2', he, hby2⟩
                · injection he with e1 e2 e3
                  subst e1 e3
                  have hap := fun ww => run_append_none (P := Tryd.prog) ww 27 27 5 i2 Tryd.underlying27 hi0 av l.length cv hcv
                  have H6 : Hid (LD w x kb (.slice av l.length cv) (l ++ []) (wc.setCell ⟨kb, 0, none⟩ (.slice av l.length cv))) :=
                    HF.out.join (w1 := wc.setCell ⟨kb, 0, none⟩ (.slice av l.length cv)) ⟨by have := heap_put HF.out.bt.at_ 0 (.slice av l.length cv); exact this, by rw [List.append_nil]; exact HF.out.bt.sl.kept ((Only.refl [kb] wc).setCell (p := ⟨kb, 0, none⟩) (Or.inl (by simp)) _) (fun b hb => by simp only [List.mem_singleton]; exact fun e => HF.out.bt.apart (e ▸ hb)), HF.out.bt.apart⟩ ⟨(Only.refl _ wc).setCell (p := ⟨kb, 0, none⟩) (Or.inl (by simp)) _, fun b hb => Or.inl hb⟩
                  clear hap
                  rcases av with _ | ad
                  all_goals
                    go_wp2_with fail
                    go_meet
                    case rel => exact ⟨_, rfl, H6.out⟩
                · injection he with e1 e2 e3
                  subst e1 e3
                  have hs1 := HF.out.bt.sl
                  have hnews : ∀ j u, (byV mr)[j]? = some u → wc.cell? ((⟨g2, 0, none⟩ : Addr).add j) = some u := fun j u hj => by
                    have hjn : j < mr.length := by have := (List.getElem?_eq_some_iff.1 hj).1; simpa [byV] using this
                    have hc := hby2 j hjn
                    rw [addr_add, hc, getD_cast _ _ hjn]
                    rw [byV, List.getElem?_map, List.getElem?_eq_getElem hjn] at hj
                    rw [List.getD_eq_getElem?_getD, List.getElem?_eq_getElem hjn]
                    exact hj
                  have hmv : (byV mr).length = mr.length * 1 := by simp [byV]
                  have hone : ∀ u ∈ byV mr, u.oneCell' = true := by intro u hu; obtain ⟨y, _, rfl⟩ := List.mem_map.1 hu; rfl
                  go_wp2_with (first | (at_builtin; refine wpList_append_own_at _ rfl _ _ 27 rfl 0 5 i2 (.int .u8 0) 1 1 Tryd.underlying27 hi0 hz0 hz1 hz2 rfl (by decide) (.slice av l.length cv) l.length (byV l) rfl hs1 ⟨g2, 0, none⟩ mr.length c2 (byV mr) rfl hmv hnews hone (by unfold maxLen; have := HL.out; omega) (by have := HL.out; omega) (by omega) ?_; intro v' w6 hown hgrow hnil hloc; obtain ⟨hJ1, hJ2⟩ := bt_join HF.out.bt hown hgrow hloc; have H6 : Hid (LD w x kb v' (l ++ mr) (w6.setCell ⟨kb, 0, none⟩ v') ∧ Only (ownL (.slice av l.length cv)) wc w6) := ⟨HF.out.join hJ1 hJ2, (Only.refl _ _).grown hgrow (fun k hk => Or.inl (by simp [ownL, hk]))⟩; obtain ⟨a6, c6, hv6, _, _⟩ := hJ1.sl.shape; obtain ⟨m6, hm6⟩ : ∃ m6, m6 = (l ++ mr).length := ⟨_, rfl⟩; rw [← hm6] at hv6; subst hv6; clear hm6; have k6 : w6.cell? ⟨kb, 0, none⟩ = some (.slice av l.length cv) := H6.out.2.cell HF.out.bt.c0 HF.out.bt.apart; have f6 : w6.frozen? ⟨kb, 0, none⟩ = false := (by have := (H6.out.2.block kb HF.out.bt.lt HF.out.bt.apart).trans HF.out.bt.at_; simp [World.frozen?, this]); clear hown hgrow hnil hloc hJ1 hJ2 hs1 hnews))
                  go_meet
                  case rel => exact ⟨_, rfl, H6.out.1⟩
            case rest =>
              clear k0 k2 f0 HF HO
              obtain ⟨v', rfl, hld⟩ := hcut
              have HD : Hid (LD w x kb v' l' wc) := hld
              clear hld
              obtain ⟨a6, c6, rfl, _, _⟩ := HD.out.bt.sl.shape
              have k0 := HD.out.bt.c0
              go_upto_region 38 with fail
              refine wp_region_held_drew (S := (fun w' => w'.cell? ⟨kb, 0, none⟩ = some (.slice a6 l'.length c6))) (by kernel_rfl) ?_ (fun hHeld1 => ?_)
              · (try dsimp only); exact k0
              refine tkW 0 rfl ?_; refine tkW 1 rfl ?_
              try simp only [Act.put, List.setIfInBounds_toArray, List.set_cons_zero, List.set_cons_succ, List.getElem_toArray, List.getElem_cons_succ, List.getElem_cons_zero]
              refine wpAnyH_ready (rs := [2]) (by kernel_rfl) (by simp) ?_
              refine AllReadyH.cons rfl (fun K hK => ?_) AllReadyH.nil
              first | (with_reducible refine iteYes ?hcx ?htx; case hcx => kernel_rfl) | rw [if_pos (by rfl)]
              simp only [List.getElem_toArray, List.getElem_cons_succ, List.getElem_cons_zero]
              go_simp
              (go_at_call 11; rw [HEV.out]; refine (bareSame_calls er _ ((HM.out.2.only HD.out.only).only (Only.refl [] wc).drew)).mono ?_; rintro e w5 ⟨rfl, o5⟩; have H5 : Hid (LD w x kb (.slice a6 l'.length c6) l' w5) := HD.out.keep ((Only.refl [] wc).drew.trans o5); clear o5)
              try go_wp2_with fail
              refine hK.out _ _ ?_ (fun hHeld2 => ?_)
              · (try dsimp only); exact H5.out.bt.c0
              clear hK K hHeld1
              try simp only [Act.put, List.setIfInBounds_toArray, List.set_cons_zero, List.set_cons_succ, List.getElem_toArray, List.getElem_cons_succ, List.getElem_cons_zero]
              refine tkW 3 rfl ?_; refine tkW 4 rfl ?_; refine tkW 6 rfl ?_; refine tkW 7 rfl ?_
              try simp only [Act.put, List.setIfInBounds_toArray, List.set_cons_zero, List.set_cons_succ, List.getElem_toArray, List.getElem_cons_succ, List.getElem_cons_zero]
              refine wpAnyH_ready (rs := [5]) (by kernel_rfl) (by simp) ?_
              refine AllReadyH.cons rfl (fun K hK => ?_) AllReadyH.nil
              first | (with_reducible refine iteYes ?hcx ?htx; case hcx => kernel_rfl) | rw [if_pos (by rfl)]
              simp only [List.getElem_toArray, List.getElem_cons_succ, List.getElem_cons_zero]
              go_simp
              (go_at_call 12; refine (many_calls x l' w5 H5.out.wa).mono ?_; rintro e w6 ⟨rfl, hw6⟩; subst hw6)
              try go_wp2_with fail
              refine hK.out _ _ ?_ (fun hHeld3 => ?_)
              · (try dsimp only); exact H5.out.bt.c0
              clear hK K hHeld2
              try simp only [Act.put, List.setIfInBounds_toArray, List.set_cons_zero, List.set_cons_succ, List.getElem_toArray, List.getElem_cons_succ, List.getElem_cons_zero]
              refine tkW 8 rfl ?_; refine tkW 9 rfl ?_
              try simp only [Act.put, List.setIfInBounds_toArray, List.set_cons_zero, List.set_cons_succ, List.getElem_toArray, List.getElem_cons_succ, List.getElem_cons_zero]
              refine wpAnyH_done (by kernel_rfl) ?_ _
              clear k0
              go_wp2_with fail
              go_roundg (len - (i + 1))
              case measure => have := HI.out.2; omega
              case rel => exact ⟨i + 1, _, l', by go_num, ⟨by omega, rfl⟩, H5⟩
        · have hil : ¬ (i : Int) < (len : Int) := by omega
          obtain ⟨av, cv, rfl, _, _⟩ := HE.out.bt.sl.shape
          have k0 := HE.out.bt.c0
          go_upto_region 40 with fail
          refine wp_region_held_drew (S := (fun w' => w'.cell? ⟨kb, 0, none⟩ = some (.slice av l.length cv))) (by kernel_rfl) ?_ (fun hHeld1 => ?_)
          · (try dsimp only); exact k0
          refine tkW 2 rfl ?_
          try simp only [Act.put, List.setIfInBounds_toArray, List.set_cons_zero, List.set_cons_succ, List.getElem_toArray, List.getElem_cons_succ, List.getElem_cons_zero]
          refine wpAnyH_ready (rs := [0]) (by kernel_rfl) (by simp) ?_
          refine AllReadyH.cons rfl (fun K hK => ?_) AllReadyH.nil
          first | (with_reducible refine iteYes ?hcx ?htx; case hcx => kernel_rfl) | rw [if_pos (by rfl)]
          simp only [List.getElem_toArray, List.getElem_cons_succ, List.getElem_cons_zero]
          go_simp
          (go_at_call 13; refine (bytes_calls x l _ HE.out.wa.drew).mono ?_; rintro e w5 ⟨v5, rfl, ⟨g5, c5, rfl, _, _, hby5, _⟩, o5⟩; have H5 : Hid (LD w x kb (.slice av l.length cv) l w5 ∧ CellsBy w5 g5 (bytesOf l)) := ⟨HE.out.keep ((Only.refl [] wr).drew.trans o5), hby5.cells⟩; clear hby5 o5)
          try go_wp2_with fail
          refine hK.out _ _ ?_ (fun hHeld2 => ?_)
          · (try dsimp only); exact H5.out.1.bt.c0
          clear hK K hHeld1
          try simp only [Act.put, List.setIfInBounds_toArray, List.set_cons_zero, List.set_cons_succ, List.getElem_toArray, List.getElem_cons_succ, List.getElem_cons_zero]
          refine wpAnyH_sharp (S' := fun w' => w'.cell? ⟨kb, 0, none⟩ = some (.slice av l.length cv) ∧ CellsBy w' g5 (bytesOf l)) (fun w' h => h.1) _ _ _ _ ?_
          have hHeld9 : (fun w' : World => w'.cell? ⟨kb, 0, none⟩ = some (.slice av l.length cv) ∧ CellsBy w' g5 (bytesOf l)) w5 := ⟨H5.out.1.bt.c0, H5.out.2⟩
          refine tkW 1 rfl ?_ (by intro w'' hSw; (try dsimp only at hSw); have hcv := str_some g5 c5 (bytesOf l) w'' hSw.2; simp only [List.getElem_toArray, List.getElem_cons_succ, List.getElem_cons_zero]; (go_simp <;> with_reducible rfl))
          try simp only [Act.put, List.setIfInBounds_toArray, List.set_cons_zero, List.set_cons_succ, List.getElem_toArray, List.getElem_cons_succ, List.getElem_cons_zero]
          refine wpAnyH_ready (rs := [3]) (by kernel_rfl) (by simp) ?_
          refine AllReadyH.cons rfl (fun K hK => ?_) AllReadyH.nil
          first | (with_reducible refine iteYes ?hcx ?htx; case hcx => kernel_rfl) | rw [if_pos (by rfl)]
          simp only [List.getElem_toArray, List.getElem_cons_succ, List.getElem_cons_zero]
          go_simp
          (go_at_call 14; refine (refBytes_calls _ l w5 H5.out.1.bt.sl H5.out.1.wa.bits H5.out.1.wa.len).mono ?_; rintro e w6 ⟨v6, rfl, hsl6, o6⟩; have H6 : Hid (LD w x kb (.slice av l.length cv) l w6 ∧ CellsBy w6 g5 (bytesOf l) ∧ SlB w6 v6 (bytesOf l)) := ⟨H5.out.1.keep o6, H5.out.2.only o6, hsl6⟩; clear hsl6 o6)
          try go_wp2_with fail
          refine hK.out _ _ ?_ (fun hHeld3 => ?_)
          · (try dsimp only); exact ⟨H6.out.1.bt.c0, H6.out.2.1⟩
          clear hK K hHeld2
          try simp only [Act.put, List.setIfInBounds_toArray, List.set_cons_zero, List.set_cons_succ, List.getElem_toArray, List.getElem_cons_succ, List.getElem_cons_zero]
          rcases H6.out.2.2.two with ⟨rfl, hnil⟩ | ⟨g6, c6, rfl, hc6⟩
          · rw [hnil] at hHeld3 ⊢
            refine tkW 4 rfl ?_ (by intro w'' hSw; (try dsimp only at hSw); have hcv := str_none w''; simp only [List.getElem_toArray, List.getElem_cons_succ, List.getElem_cons_zero]; (go_simp <;> with_reducible rfl))
            try simp only [Act.put, List.setIfInBounds_toArray, List.set_cons_zero, List.set_cons_succ, List.getElem_toArray, List.getElem_cons_succ, List.getElem_cons_zero]
            refine tkW (v := .bool true) 5 rfl ?_ (by intro w'' hSw; (try dsimp only at hSw); simp only [List.getElem_toArray, List.getElem_cons_succ, List.getElem_cons_zero]; go_simp; first | done | simp)
            try simp only [Act.put, List.setIfInBounds_toArray, List.set_cons_zero, List.set_cons_succ, List.getElem_toArray, List.getElem_cons_succ, List.getElem_cons_zero]
            refine tkW 6 rfl ?_
            try simp only [Act.put, List.setIfInBounds_toArray, List.set_cons_zero, List.set_cons_succ, List.getElem_toArray, List.getElem_cons_succ, List.getElem_cons_zero]
            refine wpAnyH_done (by kernel_rfl) ?_ _
            clear hnil
            go_wp2_with fail
            go_ret
            exact ⟨rfl, H6.out.1.only⟩
          · refine wpAnyH_sharp (S' := fun w' => (w'.cell? ⟨kb, 0, none⟩ = some (.slice av l.length cv) ∧ CellsBy w' g5 (bytesOf l)) ∧ CellsBy w' g6 (bytesOf l)) (fun w' h => h.1) _ _ _ _ ?_
            have hHeldB : (fun w' : World => (w'.cell? ⟨kb, 0, none⟩ = some (.slice av l.length cv) ∧ CellsBy w' g5 (bytesOf l)) ∧ CellsBy w' g6 (bytesOf l)) w6 := ⟨⟨H6.out.1.bt.c0, H6.out.2.1⟩, hc6⟩
            refine tkW 4 rfl ?_ (by intro w'' hSw; (try dsimp only at hSw); have hcv := str_some g6 c6 (bytesOf l) w'' hSw.2; simp only [List.getElem_toArray, List.getElem_cons_succ, List.getElem_cons_zero]; (go_simp <;> with_reducible rfl))
            try simp only [Act.put, List.setIfInBounds_toArray, List.set_cons_zero, List.set_cons_succ, List.getElem_toArray, List.getElem_cons_succ, List.getElem_cons_zero]
            refine tkW (v := .bool true) 5 rfl ?_ (by intro w'' hSw; (try dsimp only at hSw); simp only [List.getElem_toArray, List.getElem_cons_succ, List.getElem_cons_zero]; go_simp; first | done | simp)
            try simp only [Act.put, List.setIfInBounds_toArray, List.set_cons_zero, List.set_cons_succ, List.getElem_toArray, List.getElem_cons_succ, List.getElem_cons_zero]
            refine tkW 6 rfl ?_
            try simp only [Act.put, List.setIfInBounds_toArray, List.set_cons_zero, List.set_cons_succ, List.getElem_toArray, List.getElem_cons_succ, List.getElem_cons_zero]
            refine wpAnyH_done (by kernel_rfl) ?_ _
            go_wp2_with fail
            go_ret
            exact ⟨rfl, H6.out.1.only⟩
    | true =>
      go_wp2_with fail
      go_loopg [] 40000 (fun k wr => ∃ v l, Hid (k = 40000 - l.length ∧ l.length ≤ 31950) ∧ Hid (LD w x kb v l wr))
      case atStart => exact ⟨_, [], ⟨rfl, by simp⟩, H0⟩
      case round =>
        clear H0
        obtain ⟨v, l, HI, HE⟩ := hrel
        obtain ⟨av, cv, rfl, _, _⟩ := HE.out.bt.sl.shape
        have c0 := HE.out.bt.c0
        obtain ⟨m, hm⟩ : ∃ m, m = l.length := ⟨_, rfl⟩
        rw [← hm] at c0
        have HMM : Hid (m = l.length) := hm
        clear hm
        by_cases hf : (m : Int) < 31900
        · go_wp2_with fail
          refine (put_calls x l 5 50 wr HE.out.wa).mono ?_
          rintro e w2 ⟨o2, hr⟩
          have hb1 : ¬ badPut 5 50 := by unfold badPut; decide
          rcases hr with ⟨hb, _⟩ | ⟨_, hl, _⟩ | ⟨_, hl, rfl, hw2⟩
          · exact absurd hb hb1
          · rw [putB_len, ← HMM.out] at hl; simp at hl; omega
          have H2 : Hid (WrAt w2 x (l ++ putB 5 50) ∧ Only [x] wr w2 ∧ BtAt w2 kb (.slice av l.length cv) l) := ⟨hw2, o2, HE.out.bt.only o2 (by simp only [List.mem_singleton]; exact fun e => HE.out.xk e.symm) (fun b hb => by simp only [List.mem_singleton]; exact fun e => HE.out.xv (e ▸ hb))⟩
          clear hl hw2 o2 hb1 c0
          go_wp2_with fail
          refine (show Calls Tryd.prog 6 #[.pointer (some ⟨kb, 0, none⟩), .int .i64 5, .int .i64 50] w2 _ from refPut_calls kb _ l 5 50 w2 H2.out.2.2 (by omega) (by omega) (by rw [← HMM.out]; omega)).mono ?_
          rintro e w3 ⟨rfl, v3, hB3, hP3⟩
          have H3 : Hid (LD w x kb v3 (l ++ putB 5 50) w3) := HE.out.both H2.out.1 H2.out.2.1 hB3 hP3
          clear hB3 hP3 H2
          go_wp2_with fail
          go_roundg (40000 - (l.length + 50))
          case measure => have := HI.out; have := HMM.out; omega
          case rel => exact ⟨v3, l ++ putB 5 50, ⟨by rw [List.length_append, putB_len], by rw [List.length_append, putB_len, ← HMM.out]; omega⟩, H3⟩
        · have H0 : Hid (LD w x kb (.slice av l.length cv) l wr) := HE.out
          clear HE HI
          go_wp2_with fail
          go_loopg [7] len (fun k idx wr => ∃ (i : Nat) (v : Value) (l : List Nat), idx = .int .i64 (i : Int) ∧ Hid (i ≤ len ∧ k = len - i) ∧ Hid (LD w x kb v l wr))
          case atStart => exact ⟨0, _, _, rfl, ⟨by omega, rfl⟩, H0⟩
          case round =>
            clear H0
            obtain ⟨i, v, l, rfl, HI, HE⟩ := hrel
            by_cases hi : i < len
            · have hil : (i : Int) < (len : Int) := by omega
              obtain ⟨b, o, rfl, c0, c1, c2⟩ := (HM.out.1.only HE.out.only) i hi
              generalize M i = q at c0 c1 c2
              obtain ⟨t, qn, qd⟩ := q
              simp only at c0 c1 c2
              go_upto_region 14 with fail
              have H2 : Hid (LF w x kb v l wr.heap.size ⟨t, qn, qd⟩ (wr.heap.size + 1) (.slice none 0 0) [] l ((wr.alloc (.cells #[.int .i64 t, .int .i64 qn, .int .i64 qd] 33)).alloc (.cells #[.slice none 0 0] 27))) := LF.start HE.out ⟨t, qn, qd⟩
              clear c0 c1 c2
              revert H2
              generalize World.alloc (World.alloc wr _) _ = w2
              generalize wr.heap.size + 1 = km
              generalize wr.heap.size = kx
              intro H2
              have d0 := H2.out.mk_.off 0; have d1 := H2.out.mk_.off 1; have d2 := H2.out.mk_.off 2
              simp only [List.getElem?_toArray, List.getElem?_cons_succ, List.getElem?_cons_zero] at d0 d1 d2
              go_upto_block 4 with fail
              go_cut [10, 11] from 34 to 128 (fun s10 s11 wc => ∃ (bd : Bool) (er : Nat) (mr l' : List Nat) (v2 : Value), s10 = erV er ∧ s11 = .bool bd ∧ Out l bd er mr l' ∧ LF w x kb v l kx ⟨t, qn, qd⟩ km v2 mr l' wc)
              case first =>
                by_cases ht0 : t = 0
                · subst ht0
                  go_wp2_with fail
                  refine (put_calls x l qn qd w2 H2.out.wa).mono ?_
                  rintro e w3 ⟨o3, hr⟩
                  clear d0 d1 d2
                  rcases hr with ⟨hb, rfl, hw⟩ | ⟨hb, hl, rfl, hw⟩ | ⟨hb, hl, rfl, hw⟩
                  · have H3 : Hid (LF w x kb v l kx _ km (.slice none 0 0) [] l w3) := H2.out.wrote o3 hw
                    clear o3 hw H2
                    have d1 := H3.out.mk_.off 1; have d2 := H3.out.mk_.off 2
                    simp only [List.getElem?_toArray, List.getElem?_cons_succ, List.getElem?_cons_zero] at d1 d2
                    simp only [errV]
                    have hbc : (qd < 0) ∨ (¬ qd < 0 ∧ qd > 62) ∨ (¬ qd < 0 ∧ ¬ qd > 62 ∧ qn < 0) ∨ (¬ qd < 0 ∧ ¬ qd > 62 ∧ ¬ qn < 0 ∧ 2 ^ qd.toNat ≤ qn) := by unfold badPut at hb; omega
                    clear hb
                    rcases hbc with h1 | ⟨h1, h2⟩ | ⟨h1, h2, h3⟩ | ⟨h1, h2, h3, h4⟩
                    · skip
                      go_upto_region 19 with fail
                      refine wp_region_held_drew (S := (fun w' => w'.cell? ⟨kx, 1, none⟩ = some (.int .i64 qn) ∧ w'.cell? ⟨kx, 2, none⟩ = some (.int .i64 qd))) (by kernel_rfl) ?_ (fun hHeld1 => ?_)
                      · (try dsimp only); exact ⟨d1, d2⟩
                      refine tkW 0 rfl ?_; refine tkW 1 rfl ?_; refine tkW 2 rfl ?_; refine tkW 3 rfl ?_
                      try simp only [Act.put, List.setIfInBounds_toArray, List.set_cons_zero, List.set_cons_succ, List.getElem_toArray, List.getElem_cons_succ, List.getElem_cons_zero]
                      refine skW 4 rfl ?_; refine skW 5 rfl ?_; refine skW 6 rfl ?_
                      try simp only [Act.put, List.setIfInBounds_toArray, List.set_cons_zero, List.set_cons_succ, List.getElem_toArray, List.getElem_cons_succ, List.getElem_cons_zero]
                      refine tkW 7 rfl ?_; refine tkW 8 rfl ?_
                      try simp only [Act.put, List.setIfInBounds_toArray, List.set_cons_zero, List.set_cons_succ, List.getElem_toArray, List.getElem_cons_succ, List.getElem_cons_zero]
                      refine skW 9 rfl ?_; refine skW 10 rfl ?_; refine skW 11 rfl ?_
                      try simp only [Act.put, List.setIfInBounds_toArray, List.set_cons_zero, List.set_cons_succ, List.getElem_toArray, List.getElem_cons_succ, List.getElem_cons_zero]
                      refine tkW 12 rfl ?_; refine tkW 13 rfl ?_
                      try simp only [Act.put, List.setIfInBounds_toArray, List.set_cons_zero, List.set_cons_succ, List.getElem_toArray, List.getElem_cons_succ, List.getElem_cons_zero]
                      refine skW 14 rfl ?_; refine skW 15 rfl ?_; refine skW 16 rfl ?_; refine skW 17 rfl ?_
                      try simp only [Act.put, List.setIfInBounds_toArray, List.set_cons_zero, List.set_cons_succ, List.getElem_toArray, List.getElem_cons_succ, List.getElem_cons_zero]
                      refine skW 18 rfl ?_; refine skW 19 rfl ?_; refine skW 20 rfl ?_; refine skW 21 rfl ?_
                      try simp only [Act.put, List.setIfInBounds_toArray, List.set_cons_zero, List.set_cons_succ, List.getElem_toArray, List.getElem_cons_succ, List.getElem_cons_zero]
                      refine tkW 22 rfl ?_; refine tkW 23 rfl ?_
                      try simp only [Act.put, List.setIfInBounds_toArray, List.set_cons_zero, List.set_cons_succ, List.getElem_toArray, List.getElem_cons_succ, List.getElem_cons_zero]
                      refine wpAnyH_done (by kernel_rfl) ?_ _
                      have H3 : Hid (LF w x kb v l kx _ km (.slice none 0 0) [] l w3.drew) := H3.out.keep (Only.refl [] w3).drew
                      clear d1 d2
                      generalize World.drew w3 = w3 at H3 ⊢
                      go_wp2_with fail
                      go_meet
                      case rel => exact ⟨true, 2, [], l, _, rfl, rfl, Or.inl ⟨rfl, rfl, rfl, rfl⟩, H3.out⟩
                    · skip
                      go_upto_region 19 with fail
                      refine wp_region_held_drew (S := (fun w' => w'.cell? ⟨kx, 1, none⟩ = some (.int .i64 qn) ∧ w'.cell? ⟨kx, 2, none⟩ = some (.int .i64 qd))) (by kernel_rfl) ?_ (fun hHeld1 => ?_)
                      · (try dsimp only); exact ⟨d1, d2⟩
                      refine tkW 0 rfl ?_; refine tkW 1 rfl ?_; refine tkW 2 rfl ?_; refine tkW 3 rfl ?_
                      try simp only [Act.put, List.setIfInBounds_toArray, List.set_cons_zero, List.set_cons_succ, List.getElem_toArray, List.getElem_cons_succ, List.getElem_cons_zero]
                      refine tkW 4 rfl ?_; refine tkW 5 rfl ?_; refine tkW 6 rfl ?_; refine tkW 7 rfl ?_
                      try simp only [Act.put, List.setIfInBounds_toArray, List.set_cons_zero, List.set_cons_succ, List.getElem_toArray, List.getElem_cons_succ, List.getElem_cons_zero]
                      refine tkW 8 rfl ?_
                      try simp only [Act.put, List.setIfInBounds_toArray, List.set_cons_zero, List.set_cons_succ, List.getElem_toArray, List.getElem_cons_succ, List.getElem_cons_zero]
                      refine skW 9 rfl ?_; refine skW 10 rfl ?_; refine skW 11 rfl ?_
                      try simp only [Act.put, List.setIfInBounds_toArray, List.set_cons_zero, List.set_cons_succ, List.getElem_toArray, List.getElem_cons_succ, List.getElem_cons_zero]
                      refine tkW 12 rfl ?_; refine tkW 13 rfl ?_
                      try simp only [Act.put, List.setIfInBounds_toArray, List.set_cons_zero, List.set_cons_succ, List.getElem_toArray, List.getElem_cons_succ, List.getElem_cons_zero]
                      refine skW 14 rfl ?_; refine skW 15 rfl ?_; refine skW 16 rfl ?_; refine skW 17 rfl ?_
                      try simp only [Act.put, List.setIfInBounds_toArray, List.set_cons_zero, List.set_cons_succ, List.getElem_toArray, List.getElem_cons_succ, List.getElem_cons_zero]
                      refine skW 18 rfl ?_; refine skW 19 rfl ?_; refine skW 20 rfl ?_; refine skW 21 rfl ?_
                      try simp only [Act.put, List.setIfInBounds_toArray, List.set_cons_zero, List.set_cons_succ, List.getElem_toArray, List.getElem_cons_succ, List.getElem_cons_zero]
                      refine tkW 22 rfl ?_; refine tkW 23 rfl ?_
                      try simp only [Act.put, List.setIfInBounds_toArray, List.set_cons_zero, List.set_cons_succ, List.getElem_toArray, List.getElem_cons_succ, List.getElem_cons_zero]
                      refine wpAnyH_done (by kernel_rfl) ?_ _
                      have H3 : Hid (LF w x kb v l kx _ km (.slice none 0 0) [] l w3.drew) := H3.out.keep (Only.refl [] w3).drew
                      clear d1 d2
                      generalize World.drew w3 = w3 at H3 ⊢
                      go_wp2_with fail
                      go_meet
                      case rel => exact ⟨true, 2, [], l, _, rfl, rfl, Or.inl ⟨rfl, rfl, rfl, rfl⟩, H3.out⟩
                    · skip
                      go_upto_region 19 with fail
                      refine wp_region_held_drew (S := (fun w' => w'.cell? ⟨kx, 1, none⟩ = some (.int .i64 qn) ∧ w'.cell? ⟨kx, 2, none⟩ = some (.int .i64 qd))) (by kernel_rfl) ?_ (fun hHeld1 => ?_)
                      · (try dsimp only); exact ⟨d1, d2⟩
                      refine tkW 0 rfl ?_; refine tkW 1 rfl ?_; refine tkW 2 rfl ?_; refine tkW 3 rfl ?_
                      try simp only [Act.put, List.setIfInBounds_toArray, List.set_cons_zero, List.set_cons_succ, List.getElem_toArray, List.getElem_cons_succ, List.getElem_cons_zero]
                      refine tkW 4 rfl ?_; refine tkW 5 rfl ?_; refine tkW 6 rfl ?_; refine tkW 7 rfl ?_
                      try simp only [Act.put, List.setIfInBounds_toArray, List.set_cons_zero, List.set_cons_succ, List.getElem_toArray, List.getElem_cons_succ, List.getElem_cons_zero]
                      refine tkW 8 rfl ?_; refine tkW 9 rfl ?_; refine tkW 10 rfl ?_; refine tkW 11 rfl ?_
                      try simp only [Act.put, List.setIfInBounds_toArray, List.set_cons_zero, List.set_cons_succ, List.getElem_toArray, List.getElem_cons_succ, List.getElem_cons_zero]
                      refine tkW 12 rfl ?_; refine tkW 13 rfl ?_
                      try simp only [Act.put, List.setIfInBounds_toArray, List.set_cons_zero, List.set_cons_succ, List.getElem_toArray, List.getElem_cons_succ, List.getElem_cons_zero]
                      refine skW 14 rfl ?_; refine skW 15 rfl ?_; refine skW 16 rfl ?_; refine skW 17 rfl ?_
                      try simp only [Act.put, List.setIfInBounds_toArray, List.set_cons_zero, List.set_cons_succ, List.getElem_toArray, List.getElem_cons_succ, List.getElem_cons_zero]
                      refine skW 18 rfl ?_; refine skW 19 rfl ?_; refine skW 20 rfl ?_; refine skW 21 rfl ?_
                      try simp only [Act.put, List.setIfInBounds_toArray, List.set_cons_zero, List.set_cons_succ, List.getElem_toArray, List.getElem_cons_succ, List.getElem_cons_zero]
                      refine tkW 22 rfl ?_; refine tkW 23 rfl ?_
                      try simp only [Act.put, List.setIfInBounds_toArray, List.set_cons_zero, List.set_cons_succ, List.getElem_toArray, List.getElem_cons_succ, List.getElem_cons_zero]
                      refine wpAnyH_done (by kernel_rfl) ?_ _
                      have H3 : Hid (LF w x kb v l kx _ km (.slice none 0 0) [] l w3.drew) := H3.out.keep (Only.refl [] w3).drew
                      clear d1 d2
                      generalize World.drew w3 = w3 at H3 ⊢
                      go_wp2_with fail
                      go_meet
                      case rel => exact ⟨true, 2, [], l, _, rfl, rfl, Or.inl ⟨rfl, rfl, rfl, rfl⟩, H3.out⟩
                    · skip
                      obtain ⟨pw, hpw⟩ : ∃ pw : Nat, pw = 2 ^ qd.toNat := ⟨_, rfl⟩
                      have h62 : 2 ^ qd.toNat ≤ 2 ^ 62 := Nat.pow_le_pow_right (by omega) (by omega)
                      have hpc := pow_cast qd.toNat
                      have HPW : Hid (IntKind.i64.wrap (2 ^ qd.toNat) = (pw : Int)) := by { show _ = _; rw [← hpc, ← hpw]; exact wrap_i64 pw (by omega) }
                      have h5 : (pw : Int) ≤ qn := by rw [hpw, hpc]; exact h4
                      clear h62 hpc hpw h4
                      go_upto_region 19 with fail
                      refine wp_region_held_drew (S := (fun w' => w'.cell? ⟨kx, 1, none⟩ = some (.int .i64 qn) ∧ w'.cell? ⟨kx, 2, none⟩ = some (.int .i64 qd))) (by kernel_rfl) ?_ (fun hHeld1 => ?_)
                      · (try dsimp only); exact ⟨d1, d2⟩
                      refine tkW 0 rfl ?_; refine tkW 1 rfl ?_; refine tkW 2 rfl ?_; refine tkW 3 rfl ?_
                      try simp only [Act.put, List.setIfInBounds_toArray, List.set_cons_zero, List.set_cons_succ, List.getElem_toArray, List.getElem_cons_succ, List.getElem_cons_zero]
                      refine tkW 4 rfl ?_; refine tkW 5 rfl ?_; refine tkW 6 rfl ?_; refine tkW 7 rfl ?_
                      try simp only [Act.put, List.setIfInBounds_toArray, List.set_cons_zero, List.set_cons_succ, List.getElem_toArray, List.getElem_cons_succ, List.getElem_cons_zero]
                      refine tkW 8 rfl ?_; refine tkW 9 rfl ?_; refine tkW 10 rfl ?_; refine tkW 11 rfl ?_
                      try simp only [Act.put, List.setIfInBounds_toArray, List.set_cons_zero, List.set_cons_succ, List.getElem_toArray, List.getElem_cons_succ, List.getElem_cons_zero]
                      refine tkW 12 rfl ?_; refine tkW 13 rfl ?_; refine tkW 14 rfl ?_; refine tkW 15 rfl ?_
                      try simp only [Act.put, List.setIfInBounds_toArray, List.set_cons_zero, List.set_cons_succ, List.getElem_toArray, List.getElem_cons_succ, List.getElem_cons_zero]
                      refine tkW 16 rfl ?_; refine tkW 17 rfl ?_
                      try simp only [Act.put, List.setIfInBounds_toArray, List.set_cons_zero, List.set_cons_succ, List.getElem_toArray, List.getElem_cons_succ, List.getElem_cons_zero]
                      refine tkW (v := .int .i64 qd) 18 rfl ?_ (by intro w'' hSw; (try dsimp only at hSw); simp only [List.getElem_toArray, List.getElem_cons_succ, List.getElem_cons_zero]; go_simp; omega)
                      try simp only [Act.put, List.setIfInBounds_toArray, List.set_cons_zero, List.set_cons_succ, List.getElem_toArray, List.getElem_cons_succ, List.getElem_cons_zero]
                      refine tkW (v := .int .i64 qd) 19 rfl ?_ (by intro w'' hSw; (try dsimp only at hSw); simp only [List.getElem_toArray, List.getElem_cons_succ, List.getElem_cons_zero]; go_simp; omega)
                      try simp only [Act.put, List.setIfInBounds_toArray, List.set_cons_zero, List.set_cons_succ, List.getElem_toArray, List.getElem_cons_succ, List.getElem_cons_zero]
                      refine tkW (v := .int .i64 (pw : Int)) 20 rfl ?_ (by intro w'' hSw; (try dsimp only at hSw); simp only [List.getElem_toArray, List.getElem_cons_succ, List.getElem_cons_zero]; go_simp; rw [HPW.out])
                      try simp only [Act.put, List.setIfInBounds_toArray, List.set_cons_zero, List.set_cons_succ, List.getElem_toArray, List.getElem_cons_succ, List.getElem_cons_zero]
                      refine tkW 21 rfl ?_; refine tkW 22 rfl ?_; refine tkW 23 rfl ?_
                      try simp only [Act.put, List.setIfInBounds_toArray, List.set_cons_zero, List.set_cons_succ, List.getElem_toArray, List.getElem_cons_succ, List.getElem_cons_zero]
                      refine wpAnyH_done (by kernel_rfl) ?_ _
                      have H3 : Hid (LF w x kb v l kx _ km (.slice none 0 0) [] l w3.drew) := H3.out.keep (Only.refl [] w3).drew
                      clear d1 d2
                      generalize World.drew w3 = w3 at H3 ⊢
                      go_wp2_with fail
                      go_meet
                      case rel => exact ⟨true, 2, [], l, _, rfl, rfl, Or.inl ⟨rfl, rfl, rfl, rfl⟩, H3.out⟩
                  · have H3 : Hid (LF w x kb v l kx _ km (.slice none 0 0) [] l w3) := H2.out.wrote o3 hw
                    clear o3 hw H2
                    have d1 := H3.out.mk_.off 1; have d2 := H3.out.mk_.off 2
                    simp only [List.getElem?_toArray, List.getElem?_cons_succ, List.getElem?_cons_zero] at d1 d2
                    have HB : Hid (¬ badPut qn qd ∧ (putB qn.toNat qd.toNat).length ≤ 100) := ⟨hb, by rw [putB_len]; unfold badPut at hb; omega⟩
                    have HL : Hid (32000 < l.length + (putB qn.toNat qd.toNat).length) := hl
                    obtain ⟨h1, h2, h3, h4⟩ : ¬ qd < 0 ∧ ¬ qd > 62 ∧ ¬ qn < 0 ∧ ¬ 2 ^ qd.toNat ≤ qn := by unfold badPut at hb; omega
                    clear hb hl
                    simp only [errV]
                    obtain ⟨pw, hpw⟩ : ∃ pw : Nat, pw = 2 ^ qd.toNat := ⟨_, rfl⟩
                    have h62 : 2 ^ qd.toNat ≤ 2 ^ 62 := Nat.pow_le_pow_right (by omega) (by omega)
                    have hpc := pow_cast qd.toNat
                    have HPW : Hid (IntKind.i64.wrap (2 ^ qd.toNat) = (pw : Int)) := by { show _ = _; rw [← hpc, ← hpw]; exact wrap_i64 pw (by omega) }
                    have h5 : ¬ (pw : Int) ≤ qn := by rw [hpw, hpc]; exact h4
                    clear h62 hpc hpw h4
                    go_upto_region 19 with fail
                    refine wp_region_held_drew (S := (fun w' => w'.cell? ⟨kx, 1, none⟩ = some (.int .i64 qn) ∧ w'.cell? ⟨kx, 2, none⟩ = some (.int .i64 qd))) (by kernel_rfl) ?_ (fun hHeld1 => ?_)
                    · (try dsimp only); exact ⟨d1, d2⟩
                    refine tkW 0 rfl ?_; refine tkW 1 rfl ?_; refine tkW 2 rfl ?_; refine tkW 3 rfl ?_
                    try simp only [Act.put, List.setIfInBounds_toArray, List.set_cons_zero, List.set_cons_succ, List.getElem_toArray, List.getElem_cons_succ, List.getElem_cons_zero]
                    refine tkW 4 rfl ?_; refine tkW 5 rfl ?_; refine tkW 6 rfl ?_; refine tkW 7 rfl ?_
                    try simp only [Act.put, List.setIfInBounds_toArray, List.set_cons_zero, List.set_cons_succ, List.getElem_toArray, List.getElem_cons_succ, List.getElem_cons_zero]
                    refine tkW 8 rfl ?_; refine tkW 9 rfl ?_; refine tkW 10 rfl ?_; refine tkW 11 rfl ?_
                    try simp only [Act.put, List.setIfInBounds_toArray, List.set_cons_zero, List.set_cons_succ, List.getElem_toArray, List.getElem_cons_succ, List.getElem_cons_zero]
                    refine tkW 12 rfl ?_; refine tkW 13 rfl ?_; refine tkW 14 rfl ?_; refine tkW 15 rfl ?_
                    try simp only [Act.put, List.setIfInBounds_toArray, List.set_cons_zero, List.set_cons_succ, List.getElem_toArray, List.getElem_cons_succ, List.getElem_cons_zero]
                    refine tkW 16 rfl ?_; refine tkW 17 rfl ?_
                    try simp only [Act.put, List.setIfInBounds_toArray, List.set_cons_zero, List.set_cons_succ, List.getElem_toArray, List.getElem_cons_succ, List.getElem_cons_zero]
                    refine tkW (v := .int .i64 qd) 18 rfl ?_ (by intro w'' hSw; (try dsimp only at hSw); simp only [List.getElem_toArray, List.getElem_cons_succ, List.getElem_cons_zero]; go_simp; omega)
                    try simp only [Act.put, List.setIfInBounds_toArray, List.set_cons_zero, List.set_cons_succ, List.getElem_toArray, List.getElem_cons_succ, List.getElem_cons_zero]
                    refine tkW (v := .int .i64 qd) 19 rfl ?_ (by intro w'' hSw; (try dsimp only at hSw); simp only [List.getElem_toArray, List.getElem_cons_succ, List.getElem_cons_zero]; go_simp; omega)
                    try simp only [Act.put, List.setIfInBounds_toArray, List.set_cons_zero, List.set_cons_succ, List.getElem_toArray, List.getElem_cons_succ, List.getElem_cons_zero]
                    refine tkW (v := .int .i64 (pw : Int)) 20 rfl ?_ (by intro w'' hSw; (try dsimp only at hSw); simp only [List.getElem_toArray, List.getElem_cons_succ, List.getElem_cons_zero]; go_simp; rw [HPW.out])
                    try simp only [Act.put, List.setIfInBounds_toArray, List.set_cons_zero, List.set_cons_succ, List.getElem_toArray, List.getElem_cons_succ, List.getElem_cons_zero]
                    refine tkW 21 rfl ?_; refine tkW 22 rfl ?_; refine tkW 23 rfl ?_
                    try simp only [Act.put, List.setIfInBounds_toArray, List.set_cons_zero, List.set_cons_succ, List.getElem_toArray, List.getElem_cons_succ, List.getElem_cons_zero]
                    refine wpAnyH_done (by kernel_rfl) ?_ _
                    have H3 : Hid (LF w x kb v l kx _ km (.slice none 0 0) [] l w3.drew) := H3.out.keep (Only.refl [] w3).drew
                    clear d1 d2
                    generalize World.drew w3 = w3 at H3 ⊢
                    have d1 := H3.out.mk_.off 1; have d2 := H3.out.mk_.off 2
                    simp only [List.getElem?_toArray, List.getElem?_cons_succ, List.getElem?_cons_zero] at d1 d2
                    go_wp2_with fail
                    refine (refPutI_calls km _ qn qd w3 H3.out.bt2 HB.out.1).mono ?_
                    rintro e w4 ⟨rfl, v4, hB4, hP4⟩
                    have H4 : Hid (LF w x kb v l kx _ km v4 (putB qn.toNat qd.toNat) l w4) := H3.out.putm hB4 hP4
                    clear hB4 hP4 H3 d1 d2
                    go_wp2_with fail
                    go_meet
                    case rel => exact ⟨false, 4, putB qn.toNat qd.toNat, l, v4, rfl, rfl, Or.inr (Or.inl ⟨rfl, HL.out, rfl, rfl, HB.out.2⟩), H4.out⟩
                  · have H3 : Hid (LF w x kb v l kx _ km (.slice none 0 0) [] (l ++ putB qn.toNat qd.toNat) w3) := H2.out.wrote o3 hw
                    clear o3 hw H2
                    have d1 := H3.out.mk_.off 1; have d2 := H3.out.mk_.off 2
                    simp only [List.getElem?_toArray, List.getElem?_cons_succ, List.getElem?_cons_zero] at d1 d2
                    have HB : Hid (¬ badPut qn qd ∧ (putB qn.toNat qd.toNat).length ≤ 100) := ⟨hb, by rw [putB_len]; unfold badPut at hb; omega⟩
                    have HL : Hid (l.length + (putB qn.toNat qd.toNat).length ≤ 32000) := hl
                    obtain ⟨h1, h2, h3, h4⟩ : ¬ qd < 0 ∧ ¬ qd > 62 ∧ ¬ qn < 0 ∧ ¬ 2 ^ qd.toNat ≤ qn := by unfold badPut at hb; omega
                    clear hb hl
                    dsimp only
                    obtain ⟨pw, hpw⟩ : ∃ pw : Nat, pw = 2 ^ qd.toNat := ⟨_, rfl⟩
                    have h62 : 2 ^ qd.toNat ≤ 2 ^ 62 := Nat.pow_le_pow_right (by omega) (by omega)
                    have hpc := pow_cast qd.toNat
                    have HPW : Hid (IntKind.i64.wrap (2 ^ qd.toNat) = (pw : Int)) := by { show _ = _; rw [← hpc, ← hpw]; exact wrap_i64 pw (by omega) }
                    have h5 : ¬ (pw : Int) ≤ qn := by rw [hpw, hpc]; exact h4
                    clear h62 hpc hpw h4
                    go_upto_region 19 with fail
                    refine wp_region_held_drew (S := (fun w' => w'.cell? ⟨kx, 1, none⟩ = some (.int .i64 qn) ∧ w'.cell? ⟨kx, 2, none⟩ = some (.int .i64 qd))) (by kernel_rfl) ?_ (fun hHeld1 => ?_)
                    · (try dsimp only); exact ⟨d1, d2⟩
                    refine tkW 0 rfl ?_; refine tkW 1 rfl ?_; refine tkW 2 rfl ?_; refine tkW 3 rfl ?_
                    try simp only [Act.put, List.setIfInBounds_toArray, List.set_cons_zero, List.set_cons_succ, List.getElem_toArray, List.getElem_cons_succ, List.getElem_cons_zero]
                    refine tkW 4 rfl ?_; refine tkW 5 rfl ?_; refine tkW 6 rfl ?_; refine tkW 7 rfl ?_
                    try simp only [Act.put, List.setIfInBounds_toArray, List.set_cons_zero, List.set_cons_succ, List.getElem_toArray, List.getElem_cons_succ, List.getElem_cons_zero]
                    refine tkW 8 rfl ?_; refine tkW 9 rfl ?_; refine tkW 10 rfl ?_; refine tkW 11 rfl ?_
                    try simp only [Act.put, List.setIfInBounds_toArray, List.set_cons_zero, List.set_cons_succ, List.getElem_toArray, List.getElem_cons_succ, List.getElem_cons_zero]
                    refine tkW 12 rfl ?_; refine tkW 13 rfl ?_; refine tkW 14 rfl ?_; refine tkW 15 rfl ?_
                    try simp only [Act.put, List.setIfInBounds_toArray, List.set_cons_zero, List.set_cons_succ, List.getElem_toArray, List.getElem_cons_succ, List.getElem_cons_zero]
                    refine tkW 16 rfl ?_; refine tkW 17 rfl ?_
                    try simp only [Act.put, List.setIfInBounds_toArray, List.set_cons_zero, List.set_cons_succ, List.getElem_toArray, List.getElem_cons_succ, List.getElem_cons_zero]
                    refine tkW (v := .int .i64 qd) 18 rfl ?_ (by intro w'' hSw; (try dsimp only at hSw); simp only [List.getElem_toArray, List.getElem_cons_succ, List.getElem_cons_zero]; go_simp; omega)
                    try simp only [Act.put, List.setIfInBounds_toArray, List.set_cons_zero, List.set_cons_succ, List.getElem_toArray, List.getElem_cons_succ, List.getElem_cons_zero]
                    refine tkW (v := .int .i64 qd) 19 rfl ?_ (by intro w'' hSw; (try dsimp only at hSw); simp only [List.getElem_toArray, List.getElem_cons_succ, List.getElem_cons_zero]; go_simp; omega)
                    try simp only [Act.put, List.setIfInBounds_toArray, List.set_cons_zero, List.set_cons_succ, List.getElem_toArray, List.getElem_cons_succ, List.getElem_cons_zero]
                    refine tkW (v := .int .i64 (pw : Int)) 20 rfl ?_ (by intro w'' hSw; (try dsimp only at hSw); simp only [List.getElem_toArray, List.getElem_cons_succ, List.getElem_cons_zero]; go_simp; rw [HPW.out])
                    try simp only [Act.put, List.setIfInBounds_toArray, List.set_cons_zero, List.set_cons_succ, List.getElem_toArray, List.getElem_cons_succ, List.getElem_cons_zero]
                    refine tkW 21 rfl ?_; refine tkW 22 rfl ?_; refine tkW 23 rfl ?_
                    try simp only [Act.put, List.setIfInBounds_toArray, List.set_cons_zero, List.set_cons_succ, List.getElem_toArray, List.getElem_cons_succ, List.getElem_cons_zero]
                    refine wpAnyH_done (by kernel_rfl) ?_ _
                    have H3 : Hid (LF w x kb v l kx _ km (.slice none 0 0) [] (l ++ putB qn.toNat qd.toNat) w3.drew) := H3.out.keep (Only.refl [] w3).drew
                    clear d1 d2
                    generalize World.drew w3 = w3 at H3 ⊢
                    have d1 := H3.out.mk_.off 1; have d2 := H3.out.mk_.off 2
                    simp only [List.getElem?_toArray, List.getElem?_cons_succ, List.getElem?_cons_zero] at d1 d2
                    go_wp2_with fail
                    refine (refPutI_calls km _ qn qd w3 H3.out.bt2 HB.out.1).mono ?_
                    rintro e w4 ⟨rfl, v4, hB4, hP4⟩
                    have H4 : Hid (LF w x kb v l kx _ km v4 (putB qn.toNat qd.toNat) (l ++ putB qn.toNat qd.toNat) w4) := H3.out.putm hB4 hP4
                    clear hB4 hP4 H3 d1 d2
                    go_wp2_with fail
                    go_meet
                    case rel => exact ⟨false, 0, putB qn.toNat qd.toNat, (l ++ putB qn.toNat qd.toNat), v4, rfl, rfl, Or.inr (Or.inr ⟨rfl, HL.out, rfl, rfl, HB.out.2⟩), H4.out⟩
                by_cases ht1 : t = 1
                · subst ht1
                  go_wp2_with fail
                  refine (var_calls x l qn w2 H2.out.wa).mono ?_
                  rintro e w3 ⟨o3, hr⟩
                  clear d0 d1 d2
                  rcases hr with ⟨hb, rfl, hw⟩ | ⟨hb, hl, rfl, hw⟩ | ⟨hb, hl, rfl, hw⟩
                  · have H3 : Hid (LF w x kb v l kx _ km (.slice none 0 0) [] l w3) := H2.out.wrote o3 hw
                    clear o3 hw H2
                    have d1 := H3.out.mk_.off 1; have d2 := H3.out.mk_.off 2
                    simp only [List.getElem?_toArray, List.getElem?_cons_succ, List.getElem?_cons_zero] at d1 d2
                    simp only [errV]
                    have hbc : (qn < 0) ∨ (¬ qn < 0 ∧ qn ≥ 4611686018427387904) := by unfold badVar at hb; omega
                    clear hb
                    rcases hbc with h1 | ⟨h1, h2⟩
                    · skip
                      go_wp2_with fail
                      go_meet
                      case rel => exact ⟨true, 2, [], l, _, rfl, rfl, Or.inl ⟨rfl, rfl, rfl, rfl⟩, H3.out⟩
                    · skip
                      go_wp2_with fail
                      go_meet
                      case rel => exact ⟨true, 2, [], l, _, rfl, rfl, Or.inl ⟨rfl, rfl, rfl, rfl⟩, H3.out⟩
                  · have H3 : Hid (LF w x kb v l kx _ km (.slice none 0 0) [] l w3) := H2.out.wrote o3 hw
                    clear o3 hw H2
                    have d1 := H3.out.mk_.off 1; have d2 := H3.out.mk_.off 2
                    simp only [List.getElem?_toArray, List.getElem?_cons_succ, List.getElem?_cons_zero] at d1 d2
                    have HB : Hid (¬ badVar qn ∧ (varB qn.toNat).length ≤ 100) := ⟨hb, var_100 _ (by unfold badVar at hb; omega)⟩
                    have HL : Hid (32000 < l.length + (varB qn.toNat).length) := hl
                    obtain ⟨h1, h2⟩ : ¬ qn < 0 ∧ ¬ qn ≥ 4611686018427387904 := by unfold badVar at hb; omega
                    clear hb hl
                    simp only [errV]
                    go_wp2_with fail
                    refine (refVarI_calls km _ qn w3 H3.out.bt2 HB.out.1).mono ?_
                    rintro e w4 ⟨rfl, v4, hB4, hP4⟩
                    have H4 : Hid (LF w x kb v l kx _ km v4 (varB qn.toNat) l w4) := H3.out.putm hB4 hP4
                    clear hB4 hP4 H3 d1 d2
                    go_wp2_with fail
                    go_meet
                    case rel => exact ⟨false, 4, varB qn.toNat, l, v4, rfl, rfl, Or.inr (Or.inl ⟨rfl, HL.out, rfl, rfl, HB.out.2⟩), H4.out⟩
                  · have H3 : Hid (LF w x kb v l kx _ km (.slice none 0 0) [] (l ++ varB qn.toNat) w3) := H2.out.wrote o3 hw
                    clear o3 hw H2
                    have d1 := H3.out.mk_.off 1; have d2 := H3.out.mk_.off 2
                    simp only [List.getElem?_toArray, List.getElem?_cons_succ, List.getElem?_cons_zero] at d1 d2
                    have HB : Hid (¬ badVar qn ∧ (varB qn.toNat).length ≤ 100) := ⟨hb, var_100 _ (by unfold badVar at hb; omega)⟩
                    have HL : Hid (l.length + (varB qn.toNat).length ≤ 32000) := hl
                    obtain ⟨h1, h2⟩ : ¬ qn < 0 ∧ ¬ qn ≥ 4611686018427387904 := by unfold badVar at hb; omega
                    clear hb hl
                    dsimp only
                    go_wp2_with fail
                    refine (refVarI_calls km _ qn w3 H3.out.bt2 HB.out.1).mono ?_
                    rintro e w4 ⟨rfl, v4, hB4, hP4⟩
                    have H4 : Hid (LF w x kb v l kx _ km v4 (varB qn.toNat) (l ++ varB qn.toNat) w4) := H3.out.putm hB4 hP4
                    clear hB4 hP4 H3 d1 d2
                    go_wp2_with fail
                    go_meet
                    case rel => exact ⟨false, 0, varB qn.toNat, (l ++ varB qn.toNat), v4, rfl, rfl, Or.inr (Or.inr ⟨rfl, HL.out, rfl, rfl, HB.out.2⟩), H4.out⟩
                by_cases ht2 : t = 2
                · subst ht2
                  go_wp2_with fail
                  refine (int_calls x l qn w2 H2.out.wa).mono ?_
                  rintro e w3 ⟨o3, hr⟩
                  clear d0 d1 d2
                  rcases hr with ⟨hb, rfl, hw⟩ | ⟨hb, hl, rfl, hw⟩ | ⟨hb, hl, rfl, hw⟩
                  · have H3 : Hid (LF w x kb v l kx _ km (.slice none 0 0) [] l w3) := H2.out.wrote o3 hw
                    clear o3 hw H2
                    have d1 := H3.out.mk_.off 1; have d2 := H3.out.mk_.off 2
                    simp only [List.getElem?_toArray, List.getElem?_cons_succ, List.getElem?_cons_zero] at d1 d2
                    simp only [errV]
                    have hbc : (qn < -1152921504606846976) ∨ (¬ qn < -1152921504606846976 ∧ qn > 1152921504606846976) := by unfold badInt at hb; omega
                    clear hb
                    rcases hbc with h1 | ⟨h1, h2⟩
                    · skip
                      go_wp2_with fail
                      go_meet
                      case rel => exact ⟨true, 2, [], l, _, rfl, rfl, Or.inl ⟨rfl, rfl, rfl, rfl⟩, H3.out⟩
                    · skip
                      go_wp2_with fail
                      go_meet
                      case rel => exact ⟨true, 2, [], l, _, rfl, rfl, Or.inl ⟨rfl, rfl, rfl, rfl⟩, H3.out⟩
                  · have H3 : Hid (LF w x kb v l kx _ km (.slice none 0 0) [] l w3) := H2.out.wrote o3 hw
                    clear o3 hw H2
                    have d1 := H3.out.mk_.off 1; have d2 := H3.out.mk_.off 2
                    simp only [List.getElem?_toArray, List.getElem?_cons_succ, List.getElem?_cons_zero] at d1 d2
                    have HB : Hid (¬ badInt qn ∧ (varB (codeM qn)).length ≤ 100) := ⟨hb, var_100 _ (by unfold badInt at hb; unfold codeM; split <;> omega)⟩
                    have HL : Hid (32000 < l.length + (varB (codeM qn)).length) := hl
                    obtain ⟨h1, h2⟩ : ¬ qn < -1152921504606846976 ∧ ¬ qn > 1152921504606846976 := by unfold badInt at hb; omega
                    clear hb hl
                    simp only [errV]
                    go_wp2_with fail
                    refine (refInt_calls km _ [] qn w3 H3.out.bt2 HB.out.1 (by simp)).mono ?_
                    rintro e w4 ⟨rfl, v4, hB4, hP4⟩
                    have H4 : Hid (LF w x kb v l kx _ km v4 (varB (codeM qn)) l w4) := H3.out.putm hB4 hP4
                    clear hB4 hP4 H3 d1 d2
                    go_wp2_with fail
                    go_meet
                    case rel => exact ⟨false, 4, varB (codeM qn), l, v4, rfl, rfl, Or.inr (Or.inl ⟨rfl, HL.out, rfl, rfl, HB.out.2⟩), H4.out⟩
                  · have H3 : Hid (LF w x kb v l kx _ km (.slice none 0 0) [] (l ++ varB (codeM qn)) w3) := H2.out.wrote o3 hw
                    clear o3 hw H2
                    have d1 := H3.out.mk_.off 1; have d2 := H3.out.mk_.off 2
                    simp only [List.getElem?_toArray, List.getElem?_cons_succ, List.getElem?_cons_zero] at d1 d2
                    have HB : Hid (¬ badInt qn ∧ (varB (codeM qn)).length ≤ 100) := ⟨hb, var_100 _ (by unfold badInt at hb; unfold codeM; split <;> omega)⟩
                    have HL : Hid (l.length + (varB (codeM qn)).length ≤ 32000) := hl
                    obtain ⟨h1, h2⟩ : ¬ qn < -1152921504606846976 ∧ ¬ qn > 1152921504606846976 := by unfold badInt at hb; omega
                    clear hb hl
                    dsimp only
                    go_wp2_with fail
                    refine (refInt_calls km _ [] qn w3 H3.out.bt2 HB.out.1 (by simp)).mono ?_
                    rintro e w4 ⟨rfl, v4, hB4, hP4⟩
                    have H4 : Hid (LF w x kb v l kx _ km v4 (varB (codeM qn)) (l ++ varB (codeM qn)) w4) := H3.out.putm hB4 hP4
                    clear hB4 hP4 H3 d1 d2
                    go_wp2_with fail
                    go_meet
                    case rel => exact ⟨false, 0, varB (codeM qn), (l ++ varB (codeM qn)), v4, rfl, rfl, Or.inr (Or.inr ⟨rfl, HL.out, rfl, rfl, HB.out.2⟩), H4.out⟩
                go_wp2_with fail
                go_roundg (len - (i + 1))
                case measure => have := HI.out.2; omega
                case rel => exact ⟨i + 1, v, l, by go_num, ⟨by omega, rfl⟩, H2.out.back⟩
              case rest =>
                clear d0 d1 d2 H2 HE
                obtain ⟨bd, er, mr, l', v2, hs10, rfl, hout, hlf⟩ := hcut
                have HEV : Hid (_ = erV er) := hs10
                have HO : Hid (Out l bd er mr l') := hout
                have HF : Hid (LF w x kb v l kx ⟨t, qn, qd⟩ km v2 mr l' wc) := hlf
                clear hs10 hout hlf
                obtain ⟨av, cv, rfl, hcv, _⟩ := HF.out.bt.sl.shape
                obtain ⟨a2, c2, rfl, hc2, _⟩ := HF.out.bt2.sl.shape
                have k0 := HF.out.bt.c0; have k2 := HF.out.bt2.c0; have f0 := HF.out.bt.free
                go_upto_block 5 with fail
                go_cut [12] from 110 to 128 (fun s12 wd => ∃ v', s12 = .int .i64 (er : Int) ∧ LD w x kb v' l' wd)
                case first =>
                  rcases HO.out with ⟨rfl, rfl, rfl, hl'⟩ | ⟨rfl, hgt, rfl, hl', hs⟩ | ⟨rfl, hle, rfl, hl', hs⟩ <;> have hl'' := hl'.symm <;> subst hl'' <;> clear hl'
                  · go_wp2_with fail
                    go_meet
                    case rel => exact ⟨_, rfl, HF.out.back⟩
                  · have hgl : (l.length : Int) + (mr.length : Int) > 32000 := by omega
                    have hsl : (mr.length : Int) ≤ 100 := by omega
                    have hll : (l.length : Int) ≤ 32000 := by have := HF.out.wa.len; omega
                    clear hgt hs
                    go_wp2_with fail
                    go_meet
                    case rel => exact ⟨_, rfl, HF.out.back⟩
                  · have hgl : ¬ (l.length : Int) + (mr.length : Int) > 32000 := by omega
                    have hsl : (mr.length : Int) ≤ 100 := by omega
                    have hll : (l.length : Int) ≤ 32000 := by omega
                    have HL : Hid (l.length + mr.length ≤ 32000) := hle
                    clear hle hs
                    rcases HF.out.bt2.sl.two with ⟨he, rfl⟩ | ⟨g2, c2', he, hby2⟩
                    · injection he with e1 e2 e3
                      subst e1 e3
                      have hap := fun ww => run_append_none (P := Tryd.prog) ww 27 27 5 i2 Tryd.underlying27 hi0 av l.length cv hcv
                      have H6 : Hid (LD w x kb (.slice av l.length cv) (l ++ []) (wc.setCell ⟨kb, 0, none⟩ (.slice av l.length cv))) :=
                        HF.out.join (w1 := wc.setCell ⟨kb, 0, none⟩ (.slice av l.length cv)) ⟨by have := heap_put HF.out.bt.at_ 0 (.slice av l.length cv); exact this, by rw [List.append_nil]; exact HF.out.bt.sl.kept ((Only.refl [kb] wc).setCell (p := ⟨kb, 0, none⟩) (Or.inl (by simp)) _) (fun b hb => by simp only [List.mem_singleton]; exact fun e => HF.out.bt.apart (e ▸ hb)), HF.out.bt.apart⟩ ⟨(Only.refl _ wc).setCell (p := ⟨kb, 0, none⟩) (Or.inl (by simp)) _, fun b hb => Or.inl hb⟩
                      clear hap
                      rcases av with _ | ad
                      all_goals
                        go_wp2_with fail
                        go_meet
                        case rel => exact ⟨_, rfl, H6.out⟩
                    · injection he with e1 e2 e3
                      subst e1 e3
                      have hs1 := HF.out.bt.sl
                      have hnews : ∀ j u, (byV mr)[j]? = some u → wc.cell? ((⟨g2, 0, none⟩ : Addr).add j) = some u := fun j u hj => by
                        have hjn : j < mr.length := by have := (List.getElem?_eq_some_iff.1 hj).1; simpa [byV] using this
                        have hc := hby2 j hjn
                        rw [addr_add, hc, getD_cast _ _ hjn]
                        rw [byV, List.getElem?_map, List.getElem?_eq_getElem hjn] at hj
                        rw [List.getD_eq_getElem?_getD, List.getElem?_eq_getElem hjn]
                        exact hj
                      have hmv : (byV mr).length = mr.length * 1 := by simp [byV]
                      have hone : ∀ u ∈ byV mr, u.oneCell' = true := by intro u hu; obtain ⟨y, _, rfl⟩ := List.mem_map.1 hu; rfl
                      go_wp2_with (first | (at_builtin; refine wpList_append_own_at _ rfl _ _ 27 rfl 0 5 i2 (.int .u8 0) 1 1 Tryd.underlying27 hi0 hz0 hz1 hz2 rfl (by decide) (.slice av l.length cv) l.length (byV l) rfl hs1 ⟨g2, 0, none⟩ mr.length c2 (byV mr) rfl hmv hnews hone (by unfold maxLen; have := HL.out; omega) (by have := HL.out; omega) (by omega) ?_; intro v' w6 hown hgrow hnil hloc; obtain ⟨hJ1, hJ2⟩ := bt_join HF.out.bt hown hgrow hloc; have H6 : Hid (LD w x kb v' (l ++ mr) (w6.setCell ⟨kb, 0, none⟩ v') ∧ Only (ownL (.slice av l.length cv)) wc w6) := ⟨HF.out.join hJ1 hJ2, (Only.refl _ _).grown hgrow (fun k hk => Or.inl (by simp [ownL, hk]))⟩; obtain ⟨a6, c6, hv6, _, _⟩ := hJ1.sl.shape; obtain ⟨m6, hm6⟩ : ∃ m6, m6 = (l ++ mr).length := ⟨_, rfl⟩; rw [← hm6] at hv6; subst hv6; clear hm6; have k6 : w6.cell? ⟨kb, 0, none⟩ = some (.slice av l.length cv) := H6.out.2.cell HF.out.bt.c0 HF.out.bt.apart; have f6 : w6.frozen? ⟨kb, 0, none⟩ = false := (by have := (H6.out.2.block kb HF.out.bt.lt HF.out.bt.apart).trans HF.out.bt.at_; simp [World.frozen?, this]); clear hown hgrow hnil hloc hJ1 hJ2 hs1 hnews))
                      go_meet
                      case rel => exact ⟨_, rfl, H6.out.1⟩
                case rest =>
                  clear k0 k2 f0 HF HO
                  obtain ⟨v', rfl, hld⟩ := hcut
                  have HD : Hid (LD w x kb v' l' wc) := hld
                  clear hld
                  obtain ⟨a6, c6, rfl, _, _⟩ := HD.out.bt.sl.shape
                  have k0 := HD.out.bt.c0
                  go_upto_region 38 with fail
                  refine wp_region_held_drew (S := (fun w' => w'.cell? ⟨kb, 0, none⟩ = some (.slice a6 l'.length c6))) (by kernel_rfl) ?_ (fun hHeld1 => ?_)
                  · (try dsimp only); exact k0
                  refine tkW 0 rfl ?_; refine tkW 1 rfl ?_
                  try simp only [Act.put, List.setIfInBounds_toArray, List.set_cons_zero, List.set_cons_succ, List.getElem_toArray, List.getElem_cons_succ, List.getElem_cons_zero]
                  refine wpAnyH_ready (rs := [2]) (by kernel_rfl) (by simp) ?_
                  refine AllReadyH.cons rfl (fun K hK => ?_) AllReadyH.nil
                  first | (with_reducible refine iteYes ?hcx ?htx; case hcx => kernel_rfl) | rw [if_pos (by rfl)]
                  simp only [List.getElem_toArray, List.getElem_cons_succ, List.getElem_cons_zero]
                  go_simp
                  (go_at_call 11; rw [HEV.out]; refine (bareSame_calls er _ ((HM.out.2.only HD.out.only).only (Only.refl [] wc).drew)).mono ?_; rintro e w5 ⟨rfl, o5⟩; have H5 : Hid (LD w x kb (.slice a6 l'.length c6) l' w5) := HD.out.keep ((Only.refl [] wc).drew.trans o5); clear o5)
                  try go_wp2_with fail
                  refine hK.out _ _ ?_ (fun hHeld2 => ?_)
                  · (try dsimp only); exact H5.out.bt.c0
                  clear hK K hHeld1
                  try simp only [Act.put, List.setIfInBounds_toArray, List.set_cons_zero, List.set_cons_succ, List.getElem_toArray, List.getElem_cons_succ, List.getElem_cons_zero]
                  refine tkW 3 rfl ?_; refine tkW 4 rfl ?_; refine tkW 6 rfl ?_; refine tkW 7 rfl ?_
                  try simp only [Act.put, List.setIfInBounds_toArray, List.set_cons_zero, List.set_cons_succ, List.getElem_toArray, List.getElem_cons_succ, List.getElem_cons_zero]
                  refine wpAnyH_ready (rs := [5]) (by kernel_rfl) (by simp) ?_
                  refine AllReadyH.cons rfl (fun K hK => ?_) AllReadyH.nil
                  first | (with_reducible refine iteYes ?hcx ?htx; case hcx => kernel_rfl) | rw [if_pos (by rfl)]
                  simp only [List.getElem_toArray, List.getElem_cons_succ, List.getElem_cons_zero]
                  go_simp
                  (go_at_call 12; refine (many_calls x l' w5 H5.out.wa).mono ?_; rintro e w6 ⟨rfl, hw6⟩; subst hw6)
                  try go_wp2_with fail
                  refine hK.out _ _ ?_ (fun hHeld3 => ?_)
                  · (try dsimp only); exact H5.out.bt.c0
                  clear hK K hHeld2
                  try simp only [Act.put, List.setIfInBounds_toArray, List.set_cons_zero, List.set_cons_succ, List.getElem_toArray, List.getElem_cons_succ, List.getElem_cons_zero]
                  refine tkW 8 rfl ?_; refine tkW 9 rfl ?_
                  try simp only [Act.put, List.setIfInBounds_toArray, List.set_cons_zero, List.set_cons_succ, List.getElem_toArray, List.getElem_cons_succ, List.getElem_cons_zero]
                  refine wpAnyH_done (by kernel_rfl) ?_ _
                  clear k0
                  go_wp2_with fail
                  go_roundg (len - (i + 1))
                  case measure => have := HI.out.2; omega
                  case rel => exact ⟨i + 1, _, l', by go_num, ⟨by omega, rfl⟩, H5⟩
            · have hil : ¬ (i : Int) < (len : Int) := by omega
              obtain ⟨av, cv, rfl, _, _⟩ := HE.out.bt.sl.shape
              have k0 := HE.out.bt.c0
              go_upto_region 40 with fail
              refine wp_region_held_drew (S := (fun w' => w'.cell? ⟨kb, 0, none⟩ = some (.slice av l.length cv))) (by kernel_rfl) ?_ (fun hHeld1 => ?_)
              · (try dsimp only); exact k0
              refine tkW 2 rfl ?_
              try simp only [Act.put, List.setIfInBounds_toArray, List.set_cons_zero, List.set_cons_succ, List.getElem_toArray, List.getElem_cons_succ, List.getElem_cons_zero]
              refine wpAnyH_ready (rs := [0]) (by kernel_rfl) (by simp) ?_
              refine AllReadyH.cons rfl (fun K hK => ?_) AllReadyH.nil
              first | (with_reducible refine iteYes ?hcx ?htx; case hcx => kernel_rfl) | rw [if_pos (by rfl)]
              simp only [List.getElem_toArray, List.getElem_cons_succ, List.getElem_cons_zero]
              go_simp
              (go_at_call 13; refine (bytes_calls x l _ HE.out.wa.drew).mono ?_; rintro e w5 ⟨v5, rfl, ⟨g5, c5, rfl, _, _, hby5, _⟩, o5⟩; have H5 : Hid (LD w x kb (.slice av l.length cv) l w5 ∧ CellsBy w5 g5 (bytesOf l)) := ⟨HE.out.keep ((Only.refl [] wr).drew.trans o5), hby5.cells⟩; clear hby5 o5)
              try go_wp2_with fail
              refine hK.out _ _ ?_ (fun hHeld2 => ?_)
              · (try dsimp only); exact H5.out.1.bt.c0
              clear hK K hHeld1
              try simp only [Act.put, List.setIfInBounds_toArray, List.set_cons_zero, List.set_cons_succ, List.getElem_toArray, List.getElem_cons_succ, List.getElem_cons_zero]
              refine wpAnyH_sharp (S' := fun w' => w'.cell? ⟨kb, 0, none⟩ = some (.slice av l.length cv) ∧ CellsBy w' g5 (bytesOf l)) (fun w' h => h.1) _ _ _ _ ?_
              have hHeld9 : (fun w' : World => w'.cell? ⟨kb, 0, none⟩ = some (.slice av l.length cv) ∧ CellsBy w' g5 (bytesOf l)) w5 := ⟨H5.out.1.bt.c0, H5.out.2⟩
              refine tkW 1 rfl ?_ (by intro w'' hSw; (try dsimp only at hSw); have hcv := str_some g5 c5 (bytesOf l) w'' hSw.2; simp only [List.getElem_toArray, List.getElem_cons_succ, List.getElem_cons_zero]; (go_simp <;> with_reducible rfl))
              try simp only [Act.put, List.setIfInBounds_toArray, List.set_cons_zero, List.set_cons_succ, List.getElem_toArray, List.getElem_cons_succ, List.getElem_cons_zero]
              refine wpAnyH_ready (rs := [3]) (by kernel_rfl) (by simp) ?_
              refine AllReadyH.cons rfl (fun K hK => ?_) AllReadyH.nil
              first | (with_reducible refine iteYes ?hcx ?htx; case hcx => kernel_rfl) | rw [if_pos (by rfl)]
              simp only [List.getElem_toArray, List.getElem_cons_succ, List.getElem_cons_zero]
              go_simp
              (go_at_call 14; refine (refBytes_calls _ l w5 H5.out.1.bt.sl H5.out.1.wa.bits H5.out.1.wa.len).mono ?_; rintro e w6 ⟨v6, rfl, hsl6, o6⟩; have H6 : Hid (LD w x kb (.slice av l.length cv) l w6 ∧ CellsBy w6 g5 (bytesOf l) ∧ SlB w6 v6 (bytesOf l)) := ⟨H5.out.1.keep o6, H5.out.2.only o6, hsl6⟩; clear hsl6 o6)
              try go_wp2_with fail
              refine hK.out _ _ ?_ (fun hHeld3 => ?_)
              · (try dsimp only); exact ⟨H6.out.1.bt.c0, H6.out.2.1⟩
              clear hK K hHeld2
              try simp only [Act.put, List.setIfInBounds_toArray, List.set_cons_zero, List.set_cons_succ, List.getElem_toArray, List.getElem_cons_succ, List.getElem_cons_zero]
              rcases H6.out.2.2.two with ⟨rfl, hnil⟩ | ⟨g6, c6, rfl, hc6⟩
              · rw [hnil] at hHeld3 ⊢
                refine tkW 4 rfl ?_ (by intro w'' hSw; (try dsimp only at hSw); have hcv := str_none w''; simp only [List.getElem_toArray, List.getElem_cons_succ, List.getElem_cons_zero]; (go_simp <;> with_reducible rfl))
                try simp only [Act.put, List.setIfInBounds_toArray, List.set_cons_zero, List.set_cons_succ, List.getElem_toArray, List.getElem_cons_succ, List.getElem_cons_zero]
                refine tkW (v := .bool true) 5 rfl ?_ (by intro w'' hSw; (try dsimp only at hSw); simp only [List.getElem_toArray, List.getElem_cons_succ, List.getElem_cons_zero]; go_simp; first | done | simp)
                try simp only [Act.put, List.setIfInBounds_toArray, List.set_cons_zero, List.set_cons_succ, List.getElem_toArray, List.getElem_cons_succ, List.getElem_cons_zero]
                refine tkW 6 rfl ?_
                try simp only [Act.put, List.setIfInBounds_toArray, List.set_cons_zero, List.set_cons_succ, List.getElem_toArray, List.getElem_cons_succ, List.getElem_cons_zero]
                refine wpAnyH_done (by kernel_rfl) ?_ _
                clear hnil
                go_wp2_with fail
                go_ret
                exact ⟨rfl, H6.out.1.only⟩
              · refine wpAnyH_sharp (S' := fun w' => (w'.cell? ⟨kb, 0, none⟩ = some (.slice av l.length cv) ∧ CellsBy w' g5 (bytesOf l)) ∧ CellsBy w' g6 (bytesOf l)) (fun w' h => h.1) _ _ _ _ ?_
                have hHeldB : (fun w' : World => (w'.cell? ⟨kb, 0, none⟩ = some (.slice av l.length cv) ∧ CellsBy w' g5 (bytesOf l)) ∧ CellsBy w' g6 (bytesOf l)) w6 := ⟨⟨H6.out.1.bt.c0, H6.out.2.1⟩, hc6⟩
                refine tkW 4 rfl ?_ (by intro w'' hSw; (try dsimp only at hSw); have hcv := str_some g6 c6 (bytesOf l) w'' hSw.2; simp only [List.getElem_toArray, List.getElem_cons_succ, List.getElem_cons_zero]; (go_simp <;> with_reducible rfl))
                try simp only [Act.put, List.setIfInBounds_toArray, List.set_cons_zero, List.set_cons_succ, List.getElem_toArray, List.getElem_cons_succ, List.getElem_cons_zero]
                refine tkW (v := .bool true) 5 rfl ?_ (by intro w'' hSw; (try dsimp only at hSw); simp only [List.getElem_toArray, List.getElem_cons_succ, List.getElem_cons_zero]; go_simp; first | done | simp)
                try simp only [Act.put, List.setIfInBounds_toArray, List.set_cons_zero, List.set_cons_succ, List.getElem_toArray, List.getElem_cons_succ, List.getElem_cons_zero]
                refine tkW 6 rfl ?_
                try simp only [Act.put, List.setIfInBounds_toArray, List.set_cons_zero, List.set_cons_succ, List.getElem_toArray, List.getElem_cons_succ, List.getElem_cons_zero]
                refine wpAnyH_done (by kernel_rfl) ?_ _
                go_wp2_with fail
                go_ret
                exact ⟨rfl, H6.out.1.only⟩
end Go.Proofs.YtakncikdomipnaaDoor
