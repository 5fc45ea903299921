/- (*snap.reader).view: the view that comes of another one: whichever bytes. -/
import Derived.Test.YtedhdmahdioboaaDoorAp5
namespace Go.Proofs.YtedhdmahdioboaaDoor
open Go.ChangeShapes Go.WideShapes Go.ChangeAt Go.RowKit
set_option linter.unusedVariables false
set_option linter.unusedSimpArgs false

theorem gatherM_ge (most : Nat) (l : List Nat) : ∀ (f i n p : Nat), p ≤ (gatherM most l f i n p).2.2 := by
  intro f
  induction f with
  | zero => intro i n p; exact Nat.le_refl _
  | succ f ih =>
    intro i n p
    rw [gatherM_succ]
    split
    · exact Nat.le_refl _
    · split
      · exact Nat.le_add_right _ _
      · split
        · exact Nat.le_add_right _ _
        · split
          · exact Nat.le_add_right _ _
          · exact Nat.le_trans (Nat.le_add_right _ _) (ih _ _ _)
theorem numM_ge (most : Nat) (L : List Nat) (p : Nat) : p ≤ (numM most L p).2.2 := by
  unfold numM
  split
  · exact gatherM_ge _ _ _ _ _ _
  · exact Nat.le_refl _
theorem intM_ge (L : List Nat) (p : Nat) : p ≤ (intM L p).2.2 := by
  unfold intM
  split
  · exact numM_ge _ _ _
  · exact Nat.le_refl _
theorem getM_ge (L : List Nat) (p : Nat) (wd : Int) : p ≤ (getM L p wd).2.2 := by
  unfold getM
  split
  · exact Nat.le_refl _
  · split
    · exact Nat.le_refl _
    · exact Nat.le_add_right _ _
theorem vecP_ge (L : List Nat) (p : Nat) : p ≤ vecP L p := Nat.le_trans (intM_ge L p) (Nat.le_trans (intM_ge L _) (intM_ge L _))
theorem seenM_ge (L : List Nat) (A B C : Bool) (id : Int) (u : Sn) (bad : Bool) (p : Nat) : p ≤ (seenM L A B C id u bad p).2.2 := by
  have h1 : p ≤ (seen1 L A u ({ u with id := id }, bad, p)).2.2 := by
    unfold seen1
    split
    · exact Nat.le_trans (getM_ge L p 3) (vecP_ge L _)
    · exact Nat.le_refl _
  have h2 : ∀ x : Sn × Bool × Nat, x.2.2 ≤ (seen2 L B u x).2.2 := by
    intro x; unfold seen2
    split
    · exact vecP_ge L _
    · exact Nat.le_refl _
  have h3 : ∀ x : Sn × Bool × Nat, x.2.2 ≤ (seen3 L C u x).2.2 := by
    intro x; unfold seen3
    split
    · exact vecP_ge L _
    · exact Nat.le_refl _
  exact Nat.le_trans h1 (Nat.le_trans (h2 _) (h3 _))
theorem parts_ge {L : List Nat} {word : Int} {bad : Bool} {p : Nat} {A B C bad0 : Bool} {p0 : Nat} (h : PartsR L word bad p A B C bad0 p0) : p ≤ p0 := by
  rcases h with ⟨_, _, _, e⟩ | ⟨_, _, _, _, _, e⟩
  · rw [e]; exact getM_ge L p 3
  · omega
theorem get2 (L : List Nat) (p : Nat) : ∃ k : Nat, k < 4 ∧ (getM L p 2).2.1 = (k : Int) ∧ ((getM L p 2).1 = 0 → (getM L p 2).2.2 = p + 2) := by
  unfold getM
  rw [if_neg (by simp)]
  split
  · exact ⟨0, by omega, rfl, fun e => by cases e⟩
  · refine ⟨_, ?_, rfl, fun _ => rfl⟩
    have hb : Bits (((bitsOf L).drop p).take (2 : Int).toNat) := fun b hb => bitsOf_bits L b (List.mem_of_mem_drop (List.mem_of_mem_take hb))
    have := valB_lt hb
    have hl : (((bitsOf L).drop p).take (2 : Int).toNat).length ≤ 2 := by rw [List.length_take]; exact Nat.min_le_left _ _
    exact Nat.lt_of_lt_of_le this (Nat.pow_le_pow_right (by omega) hl)
theorem takeL_le (id : Int) (L : List Sn) : (takeL id L).length ≤ L.length := by
  cases L with
  | nil => exact Nat.le_refl _
  | cons s t => by_cases e : s.id = id <;> simp [takeL, e]
theorem rvarN_calls (r : Nat) (a : Option Addr) (c : Nat) (L : List Nat) (p : Nat) (w : World) (h : RdAt w r a c L p) (n : Nat × Nat × Nat) (hn : n = numM 4611686018427387903 L p) :
    Calls Tryd.prog 37 #[.pointer (some ⟨r, 0, none⟩)] w fun e w' => e = .returned (.tuple #[.int .i64 (((n.2.1 : Nat) : Int)), eN n.1]) ∧ RdAt w' r a c L n.2.2 ∧ Only [r] w w' := by
  subst hn
  exact rvar_calls r a c L p w h
/-- While a view is read. -/
structure VwS (w0 w : World) (kr r : Nat) (a : Option Addr) (c : Nat) (L : List Nat) (F : List Sn) (fv tv : Value) (F1 R : List Sn) (bad : Bool) (la : Int) (p : Nat) (wr : World) : Prop where
  sv : SvAt w0 fv F1
  nil : NilOk fv
  own : wr.ownsRow w.heap.size 57 11 tv R.length (rowS R)
  sr : SR wr kr r a c L bad la p
  only : Only [kr, r] w wr
  lf : F1.length ≤ 60
  len : R.length + F1.length ≤ F.length + p
  way : Way F L R F1 bad la p
/-- What lies apart. -/
structure VwC (w0 w : World) (kr r : Nat) (a : Option Addr) (L : List Nat) (F : List Sn) : Prop where
  o0 : Only [] w0 w
  k0 : w0.heap.size ≤ kr ∧ w0.heap.size ≤ r
  old : kr < w.heap.size ∧ r < w.heap.size ∧ ∀ g o, a = some ⟨g, o, none⟩ → L ≠ [] → g < w.heap.size
  lF : F.length ≤ 60
  lL : L.length ≤ 4000
section
variable {w0 w : World} {kr r : Nat} {a : Option Addr} {c : Nat} {L : List Nat} {F : List Sn}
theorem VwC.from0 (h : VwC w0 w kr r a L F) {wr : World} (o : Only [kr, r] w wr) : Only [] w0 wr := h.o0.then o (fun y hy => by
  have := h.k0
  simp only [List.mem_cons, List.not_mem_nil, or_false] at hy
  rcases hy with rfl | rfl
  · exact Or.inr this.1
  · exact Or.inr this.2)
/-- A row of one's own stays where others turn. -/
theorem ownS_keep {wr w' : World} {b : Nat} {T : TypeId} {v : Value} {n s : Nat} {xs : List Value} {D : List Nat} (h : wr.ownsRow b T s v n xs) (o : Only D wr w') (hd : ∀ k ∈ D, k < b) : w'.ownsRow b T s v n xs := by
  obtain ⟨h1, h2 | ⟨g, cap, cur, e, hb, hg, rest⟩⟩ := h
  · exact ⟨h1, Or.inl h2⟩
  · exact ⟨h1, Or.inr ⟨g, cap, cur, e, hb, (o.block g (Array.getElem?_eq_some_iff.1 hg).1 (fun q => by have := hd g q; omega)).trans hg, rest⟩⟩
theorem ownS_ge {wr : World} {b : Nat} {T : TypeId} {v : Value} {n s : Nat} {xs : List Value} (h : wr.ownsRow b T s v n xs) : ∀ k, v.ownBlock = some k → b ≤ k := by
  obtain ⟨h1, ⟨rfl, _⟩ | ⟨g, cap, cur, rfl, hb, _⟩⟩ := h
  · intro k e; cases e
  · intro k e; simp only [Value.ownBlock, Option.some.injEq] at e; omega
theorem VwS.grow {fv tv tv' : Value} {F1 R R' : List Sn} {bad : Bool} {la : Int} {p : Nat} {wr w' : World} (hc : VwC w0 w kr r a L F) (hown0 : wr.ownsRow w.heap.size 57 11 tv R.length (rowS R)) (hsr : SR wr kr r a c L bad la p) (ho : Only [kr, r] w wr) (hgrow : wr.grownBy w' tv.ownBlock) : SR w' kr r a c L bad la p ∧ Only [kr, r] w w' ∧ Only (tv.ownBlock.toList) wr w' := by
  have hg : Only (tv.ownBlock.toList) wr w' := (Only.refl _ wr).grown hgrow (fun k hk => Or.inl (by simp [hk]))
  have hge := ownS_ge hown0
  obtain ⟨o1, o2, o3⟩ := hc.old
  refine ⟨hsr.only hg (fun q => ?_) (fun q => ?_) (fun g o e hL q => ?_), ho.grown hgrow (fun k hk => Or.inr (hge k hk)), hg⟩
  · have := hge kr (by simpa using q); omega
  · have := hge r (by simpa using q); omega
  · have := hge g (by simpa using q); have := o3 g o e hL; omega
end
theorem ownS_lt {wr : World} {b : Nat} {T : TypeId} {v : Value} {n s : Nat} {xs : List Value} (h : wr.ownsRow b T s v n xs) : ∀ k, v.ownBlock = some k → k < wr.heap.size := by
  obtain ⟨h1, ⟨rfl, _⟩ | ⟨g, cap, cur, rfl, hb, hg, _⟩⟩ := h
  · intro k e; cases e
  · intro k e; simp only [Value.ownBlock, Option.some.injEq] at e; subst e; exact (Array.getElem?_eq_some_iff.1 hg).1
theorem ownS_far {wr w' : World} {b : Nat} {T : TypeId} {v : Value} {n s : Nat} {xs : List Value} {D : List Nat} (h : wr.ownsRow b T s v n xs) (o : Only D wr w') (hd : ∀ k, v.ownBlock = some k → k ∉ D) : w'.ownsRow b T s v n xs := by
  obtain ⟨h1, h2 | ⟨g, cap, cur, rfl, hb, hg, rest⟩⟩ := h
  · exact ⟨h1, Or.inl h2⟩
  · exact ⟨h1, Or.inr ⟨g, cap, cur, rfl, hb, (o.block g (Array.getElem?_eq_some_iff.1 hg).1 (hd g rfl)).trans hg, rest⟩⟩
theorem seen_one (w : World) (s : Sn) : SeenAt (w.alloc (.cells #[.int .i64 (s.id), .int .i64 (s.kd), .int .i64 (s.sx), .int .i64 (s.sy), .int .i64 (s.sz), .int .i64 (s.ax), .int .i64 (s.ay), .int .i64 (s.az), .int .i64 (s.vx), .int .i64 (s.vy), .int .i64 (s.vz)] 57)) (some ⟨w.heap.size, 0, none⟩) [s].length (fun j => [s].getD j zs) := by
  intro j hj
  obtain rfl : j = 0 := by simp at hj; omega
  refine ⟨_, _, rfl, fun k hk => ?_⟩
  have h := (SnAt.new 57 w s).off k
  simp only [Nat.zero_mul, Nat.zero_add, Nat.add_zero] at h ⊢
  rw [h]
  match k, hk with
  | 0, _ => rfl
  | 1, _ => rfl
  | 2, _ => rfl
  | 3, _ => rfl
  | 4, _ => rfl
  | 5, _ => rfl
  | 6, _ => rfl
  | 7, _ => rfl
  | 8, _ => rfl
  | 9, _ => rfl
  | 10, _ => rfl
  | k + 11, h => exact absurd h (by omega)
def ViewPost (kr r : Nat) (a : Option Addr) (c : Nat) (L : List Nat) (F : List Sn) (w : World) (e : Ending) (w' : World) : Prop :=
  ∃ v R bad la p, e = .returned v ∧ w'.ownsRow w.heap.size 57 11 v R.length (rowS R) ∧ R.length ≤ 100000 ∧ SR w' kr r a c L bad la p ∧ Only [kr, r] w w' ∧ ∀ T, rightL T = true → bytesOf (deltaT F T) = L → bad = false ∧ R = T
set_option maxRecDepth 100000 in
set_option maxHeartbeats 3000000 in
theorem view_calls (w0 : World) (kr r : Nat) (a : Option Addr) (c : Nat) (L : List Nat) (F : List Sn) (fv : Value) (w : World) (hR : SR w kr r a c L false 0 0) (hC : VwC w0 w kr r a L F) (hv : SvAt w0 fv F) (hn : NilOk fv) (hF : rightL F = true) :
    Calls Tryd.prog 21 #[.pointer (some ⟨kr, 0, none⟩), fv] w (ViewPost kr r a c L F w) := by
  have HC : Hid (VwC w0 w kr r a L F) := hC
  have H0 : Hid (VwS w0 w kr r a c L F fv (.slice none 0 0) F [] false 0 0 w) := ⟨hv, hn, World.ownsRow_nil w _ _ _, hR, Only.refl _ _, hC.lF, by simp, Way.start hF L⟩
  clear hR hC hv hn hF
  go_enter Tryd.func21, Tryd.ntmps21
  go_wp2_with fail
  go_loopg [1, 5] (8 * L.length) (fun k s1 s5 wr => ∃ (fv1 tv : Value) (F1 R : List Sn) (bad : Bool) (la : Int) (p : Nat), fv1 = s1 ∧ tv = s5 ∧ Hid (k = 8 * L.length - p) ∧ Hid (VwS w0 w kr r a c L F fv1 tv F1 R bad la p wr))
  case atStart => exact ⟨_, _, F, [], false, 0, 0, rfl, rfl, rfl, H0⟩
  case round =>
    clear H0
    obtain ⟨fv1, tv, F1, R, bad, la, p, rfl, rfl, HI, HV⟩ := hrel
    obtain ⟨af, cf, rfl, hcf, hsf0⟩ := HV.out.sv
    have hnil : af = none → cf = 0 := fun e => HV.out.nil F1.length cf (by rw [e])
    have HS0 : Hid (SeenAt w0 af F1.length (fun j => F1.getD j zs) ∧ (af = none → cf = 0) ∧ F1.length ≤ cf) := ⟨hsf0, hnil, hcf⟩
    clear hsf0 hnil hcf
    have c0 := HV.out.sr.c0
    obtain ⟨g, hg⟩ : ∃ g, g = getM L p 2 := ⟨_, rfl⟩
    have HG : Hid (g = getM L p 2) := hg
    go_wp2_with fail
    refine (get_getM r a c L p 2 _ HV.out.sr.rd).mono ?_
    rw [← hg]
    rintro e w1 ⟨rfl, h2, o2⟩
    rw [show (if ((g.1 : Nat) : Int) = 0 then Value.nilIface else errV ((g.1 : Nat) : Int)) = eN g.1 from rfl]
    have H1 : Hid (SR w1 kr r a c L bad la g.2.2 ∧ Only [r] wr w1) := ⟨HV.out.sr.read h2 o2, o2⟩
    clear h2 o2 hg c0
    go_wp2_with fail
    refine (numberS_calls kr r a c L _ la g.2.2 g.2.1 g.1 w1 H1.out.1).mono ?_
    rintro e w2 ⟨rfl, h3, o3⟩
    have H2 : Hid (SR w2 kr r a c L (bad || decide (g.1 ≠ 0)) la g.2.2 ∧ Only [kr, r] wr w2 ∧ Only [kr, r] w w2 ∧ w2.ownsRow w.heap.size 57 11 tv R.length (rowS R)) := by
      have o4 : Only [kr, r] wr w2 := SR.pair (D := []) H1.out.2 o3
      refine ⟨h3, o4, HV.out.only.trans o4, ownS_keep HV.out.own o4 (fun k hk => ?_)⟩
      have := HC.out.old
      simp only [List.mem_cons, List.not_mem_nil, or_false] at hk
      rcases hk with rfl | rfl
      · exact this.1
      · exact this.2.1
    clear h3 o3 H1
    obtain ⟨k, hk4, hkg, hk2⟩ := get2 L p
    rw [← HG.out] at hkg hk2
    rw [hkg]
    have HK : Hid (k < 4 ∧ g.2.1 = (k : Int) ∧ (g.1 = 0 → g.2.2 = p + 2)) := ⟨hk4, hkg, hk2⟩
    clear hk4 hkg hk2
    have c1 := H2.out.1.c0
    obtain ⟨er, heb, hce⟩ := H2.out.1.er
    have HEB : Hid ((bad || decide (g.1 ≠ 0)) = decide (er ≠ 0)) := heb
    clear heb
    have hsf2 : SeenAt w2 af F1.length (fun j => F1.getD j zs) := HS0.out.1.only (HC.out.from0 H2.out.2.2.1)
    have hown2 := H2.out.2.2.2
    have hnl := HS0.out.2.1
    have hcf := HS0.out.2.2
    have hbs : w.heap.size ≤ w2.heap.size := H2.out.2.2.1.size
    have hlen : R.length + F1.length ≤ 100000 := by have h1 := HV.out.len; have h2 := HC.out.lF; have h3 := HC.out.lL; have h4 := HV.out.sr.rd.pos; omega
    by_cases hk3 : k = 3
    · subst hk3
      have HEND : Hid (∀ T, rightL T = true → bytesOf (deltaT F T) = L → (bad || decide (g.1 ≠ 0)) = false ∧ R ++ F1 = T) := HV.out.way.done HG.out (Or.inl HK.out.2.1)
      go_wp2_with (first | (at_builtin; refine wpList_appendS snapT rfl _ _ rfl w.heap.size tv R rfl hown2 af F1.length cf F1 rfl rfl hsf2 hnl hcf (by omega) hbs ?_; intro v9 w9 hown hgrow hloc; have H9 : Hid (w9.ownsRow w.heap.size 57 11 v9 (R ++ F1).length (rowS (R ++ F1)) ∧ SR w9 kr r a c L (bad || decide (g.1 ≠ 0)) la g.2.2 ∧ Only [kr, r] w w9) := ⟨hown, (VwS.grow (fv := .slice none 0 0) (tv' := .slice none 0 0) (F1 := []) (R' := []) HC.out hown2 H2.out.1 H2.out.2.2.1 hgrow).1, (VwS.grow (fv := .slice none 0 0) (tv' := .slice none 0 0) (F1 := []) (R' := []) HC.out hown2 H2.out.1 H2.out.2.2.1 hgrow).2.1⟩; clear hown hgrow hloc))
      exact bodyPost_ret (v := v9) (by simp [results, Tryd.results21, go_sem]) rfl ⟨v9, R ++ F1, _, _, _, rfl, H9.out.1, by rw [List.length_append]; omega, H9.out.2.1, H9.out.2.2, fun T hT hL => HEND.out T hT hL⟩
    · have hk3b : ((k : Int) == 3) = false := by simp; omega
      have HK3 : Hid (k ≠ 3) := hk3
      clear hk3
      by_cases he : er = 0
      · rw [he, eN_zero] at hce
        have HB0 : Hid ((bad || decide (g.1 ≠ 0)) = false) := by show _ = _; rw [HEB.out, he]; rfl
        clear he HEB
        have HP : Hid (g.2.2 = p + 2) := HK.out.2.2 (by have := HB0.out; rw [Bool.or_eq_false_iff] at this; simpa using this.2)
        obtain ⟨nn, hnn⟩ : ∃ n, n = numM 4611686018427387903 L g.2.2 := ⟨_, rfl⟩
        have HNN : Hid (nn = numM 4611686018427387903 L g.2.2) := hnn
        clear hnn
        go_upto_region 5 with fail
        have c2 := H2.out.1.c2
        refine wp_region_held_drew (S := (fun w' => w'.cell? ⟨kr, 0, none⟩ = some (.pointer (some ⟨r, 0, none⟩)) ∧ w'.cell? ⟨kr, 2, none⟩ = some (.int .i64 la))) (by kernel_rfl) ?_ (fun hHeld1 => ?_)
        · (try dsimp only); exact ⟨c1, c2⟩
        refine tkW 0 rfl ?_; refine tkW 1 rfl ?_; refine tkW 2 rfl ?_; refine tkW 3 rfl ?_
        try simp only [Act.put, List.setIfInBounds_toArray, List.set_cons_zero, List.set_cons_succ, List.getElem_toArray, List.getElem_cons_succ, List.getElem_cons_zero]
        refine tkW 4 rfl ?_; refine tkW 5 rfl ?_; refine tkW 6 rfl ?_; refine tkW 7 rfl ?_
        try simp only [Act.put, List.setIfInBounds_toArray, List.set_cons_zero, List.set_cons_succ, List.getElem_toArray, List.getElem_cons_succ, List.getElem_cons_zero]
        refine tkW 8 rfl ?_; refine tkW 9 rfl ?_
        try simp only [Act.put, List.setIfInBounds_toArray, List.set_cons_zero, List.set_cons_succ, List.getElem_toArray, List.getElem_cons_succ, List.getElem_cons_zero]
        refine wpAnyH_ready (rs := [10]) (by kernel_rfl) (by simp) ?_
        refine AllReadyH.cons rfl (fun K hK => ?_) AllReadyH.nil
        first | (with_reducible refine iteYes ?hcx ?htx; case hcx => kernel_rfl) | rw [if_pos (by rfl)]
        simp only [List.getElem_toArray, List.getElem_cons_succ, List.getElem_cons_zero]
        go_simp
        (go_at_call 37; refine (rvarN_calls r a c L _ _ (H2.out.1.keep (Only.refl _ _).drew).rd nn HNN.out).mono ?_; rintro e w3 ⟨rfl, h3, o3⟩)
        try go_wp2_with fail
        refine hK.out _ _ ?_ (fun hHeld2 => ?_)
        · (try dsimp only); exact ⟨o3.cell (a := ⟨kr, 0, none⟩) (v := .pointer (some ⟨r, 0, none⟩)) c1 (by simpa using H2.out.1.hkr), o3.cell (a := ⟨kr, 2, none⟩) (v := .int .i64 la) c2 (by simpa using H2.out.1.hkr)⟩
        clear hK K hHeld1
        try simp only [Act.put, List.setIfInBounds_toArray, List.set_cons_zero, List.set_cons_succ, List.getElem_toArray, List.getElem_cons_succ, List.getElem_cons_zero]
        have H3 : Hid (SR w3 kr r a c L (bad || decide (g.1 ≠ 0)) la nn.2.2 ∧ Only [r] w2 w3) := ⟨(H2.out.1.keep (Only.refl _ _).drew).read h3 o3, (Only.refl [r] w2).drew.trans o3⟩
        clear h3 o3
        refine tkW 11 rfl ?_; refine tkW 12 rfl ?_
        try simp only [Act.put, List.setIfInBounds_toArray, List.set_cons_zero, List.set_cons_succ, List.getElem_toArray, List.getElem_cons_succ, List.getElem_cons_zero]
        refine wpAnyH_ready (rs := [13]) (by kernel_rfl) (by simp) ?_
        refine AllReadyH.cons rfl (fun K hK => ?_) AllReadyH.nil
        first | (with_reducible refine iteYes ?hcx ?htx; case hcx => kernel_rfl) | rw [if_pos (by rfl)]
        simp only [List.getElem_toArray, List.getElem_cons_succ, List.getElem_cons_zero]
        go_simp
        (go_at_call 35; refine (numberS_calls kr r a c L _ la nn.2.2 ((nn.2.1 : Nat) : Int) nn.1 w3 H3.out.1).mono ?_; rintro e w4 ⟨rfl, h4, o4⟩)
        try go_wp2_with fail
        refine hK.out _ _ ?_ (fun hHeld3 => ?_)
        · (try dsimp only); exact ⟨h4.c0, h4.c2⟩
        clear hK K hHeld2
        try simp only [Act.put, List.setIfInBounds_toArray, List.set_cons_zero, List.set_cons_succ, List.getElem_toArray, List.getElem_cons_succ, List.getElem_cons_zero]
        refine tkW 14 rfl ?_; refine tkW 15 rfl ?_
        try simp only [Act.put, List.setIfInBounds_toArray, List.set_cons_zero, List.set_cons_succ, List.getElem_toArray, List.getElem_cons_succ, List.getElem_cons_zero]
        refine wpAnyH_done (by kernel_rfl) ?_ _
        have H4 : Hid (SR w4 kr r a c L (bad || decide (g.1 ≠ 0) || decide (nn.1 ≠ 0)) la nn.2.2 ∧ Only [kr, r] w2 w4) := ⟨h4, SR.pair (D := []) H3.out.2 o4⟩
        clear h4 o4 H3 c1 c2 hce
        obtain ⟨idv, hidv⟩ : ∃ x, x = IntKind.i64.wrap (IntKind.i64.wrap (la + 1) + ((nn.2.1 : Nat) : Int)) := ⟨_, rfl⟩
        rw [← hidv]
        have HID : Hid (idv = wrap64 (wrap64 (la + 1) + ((nn.2.1 : Nat) : Int))) := by show _ = _; rw [hidv, IntWalk.i64_left, IntWalk.i64_left]
        clear hidv
        have c2 := H4.out.1.c2; have y2 := H4.out.1.free 2
        go_upto_region 7 with fail
        have H5 : Hid (SR (w4.setCell ⟨kr, 2, none⟩ (.int .i64 idv)) kr r a c L (bad || decide (g.1 ≠ 0) || decide (nn.1 ≠ 0)) idv nn.2.2 ∧ Only [kr, r] w2 (w4.setCell ⟨kr, 2, none⟩ (.int .i64 idv))) := ⟨H4.out.1.putLast idv, H4.out.2.setCell (p := ⟨kr, 2, none⟩) (Or.inl (by simp)) _⟩
        clear H4 c2 y2
        generalize w4.setCell ⟨kr, 2, none⟩ (.int .i64 idv) = w5 at H5 ⊢
        go_wp2_with fail
        refine (searchS_calls F1 idv _ _ ⟨af, cf, rfl, hcf, HS0.out.1.only (HC.out.from0 (H2.out.2.2.1.trans H5.out.2))⟩ (by have := HV.out.lf; omega)).mono ?_
        rintro e w6 ⟨rr, bb, rfl, hst, o6⟩
        have HST : Hid (StopsS F1 idv rr) := hst
        have H6 : Hid (SR w6 kr r a c L (bad || decide (g.1 ≠ 0) || decide (nn.1 ≠ 0)) idv nn.2.2 ∧ Only [kr, r] w w6 ∧ w6.ownsRow w.heap.size 57 11 tv R.length (rowS R)) := by
          have o7 : Only [kr, r] w2 w6 := H5.out.2.then o6 (by simp)
          refine ⟨H5.out.1.keep o6, H2.out.2.2.1.trans o7, ownS_keep H2.out.2.2.2 o7 (fun k hk => ?_)⟩
          have := HC.out.old
          simp only [List.mem_cons, List.not_mem_nil, or_false] at hk
          rcases hk with rfl | rfl
          · exact this.1
          · exact this.2.1
        clear o6 H5 hst hsf2 hown2 hbs
        have hrl : rr ≤ F1.length := HST.out.1
        have hrc : rr ≤ cf := by omega
        have htl : rr = (F1.take rr).length := by rw [List.length_take]; omega
        have HTL : Hid (rr = (F1.take rr).length) := htl
        clear htl
        have hsf6 : SeenAt w6 af F1.length (fun j => F1.getD j zs) := HS0.out.1.only (HC.out.from0 H6.out.2.1)
        have hst6 := seen_take hsf6 rr
        have hown6 := H6.out.2.2
        have hb6 : w.heap.size ≤ w6.heap.size := H6.out.2.1.size
        have hl6 : (F1.take rr).length ≤ cf := by have := HTL.out; omega
        have hs6 : R.length + (F1.take rr).length ≤ 1000000 := by have := HTL.out; omega
        go_upto_region 9 with (first | (refine wpList_toS _ (Or.inl rfl) rfl (.tmp 58) (.tmp 59) af F1.length cf rr rfl rfl rfl hrc ?_) | (at_builtin; refine wpList_appendS snapT rfl _ _ rfl w.heap.size tv R rfl hown6 af rr cf (F1.take rr) rfl HTL.out hst6 hnl hl6 hs6 hb6 ?_; intro v8 w8 hown hgrow hloc; have H8 : Hid (w8.ownsRow w.heap.size 57 11 v8 (R ++ F1.take rr).length (rowS (R ++ F1.take rr)) ∧ SR w8 kr r a c L (bad || decide (g.1 ≠ 0) || decide (nn.1 ≠ 0)) idv nn.2.2 ∧ Only [kr, r] w w8) := ⟨hown, (VwS.grow (fv := .slice none 0 0) (tv' := .slice none 0 0) (F1 := []) (R' := []) HC.out hown6 H6.out.1 H6.out.2.1 hgrow).1, (VwS.grow (fv := .slice none 0 0) (tv' := .slice none 0 0) (F1 := []) (R' := []) HC.out hown6 H6.out.1 H6.out.2.1 hgrow).2.1⟩; clear hown hgrow hloc))
        clear hsf6 hst6 hown6 hb6 hl6 hs6 H6
        go_upto_region 10 with fail
        have H9 : Hid ((w8.alloc (.cells #[.int .i64 0, .int .i64 0, .int .i64 0, .int .i64 0, .int .i64 0, .int .i64 0, .int .i64 0, .int .i64 0, .int .i64 0, .int .i64 0, .int .i64 0] 57)).ownsRow w.heap.size 57 11 v8 (R ++ F1.take rr).length (rowS (R ++ F1.take rr)) ∧ SR (w8.alloc (.cells #[.int .i64 0, .int .i64 0, .int .i64 0, .int .i64 0, .int .i64 0, .int .i64 0, .int .i64 0, .int .i64 0, .int .i64 0, .int .i64 0, .int .i64 0] 57)) kr r a c L (bad || decide (g.1 ≠ 0) || decide (nn.1 ≠ 0)) idv nn.2.2 ∧ Only [kr, r] w (w8.alloc (.cells #[.int .i64 0, .int .i64 0, .int .i64 0, .int .i64 0, .int .i64 0, .int .i64 0, .int .i64 0, .int .i64 0, .int .i64 0, .int .i64 0, .int .i64 0] 57)) ∧ SnAt 57 (w8.alloc (.cells #[.int .i64 0, .int .i64 0, .int .i64 0, .int .i64 0, .int .i64 0, .int .i64 0, .int .i64 0, .int .i64 0, .int .i64 0, .int .i64 0, .int .i64 0] 57)) w8.heap.size zs ∧ w.heap.size ≤ w8.heap.size ∧ (∀ k, v8.ownBlock = some k → k ≠ w8.heap.size)) := by
          have o : Only [] w8 (w8.alloc (.cells #[.int .i64 0, .int .i64 0, .int .i64 0, .int .i64 0, .int .i64 0, .int .i64 0, .int .i64 0, .int .i64 0, .int .i64 0, .int .i64 0, .int .i64 0] 57)) := (Only.refl [] w8).alloc _
          refine ⟨ownS_keep H8.out.1 o (by simp), H8.out.2.1.keep o, H8.out.2.2.then o (by simp), zs_new w8, H8.out.2.2.size, fun k hk e => ?_⟩
          have := ownS_lt H8.out.1 k hk
          omega
        clear H8
        revert H9
        generalize w8.heap.size = k10
        generalize World.alloc w8 _ = w9
        intro H9
        go_wp2_with (first | (refine wpList_fromS _ (Or.inl rfl) rfl (.tmp 63) (.tmp 64) af F1.length cf rr rfl rfl rfl hrl ?_))
        refine (takeN_calls (F1.drop rr) idv _ _ (sv_drop (HS0.out.1.only (HC.out.from0 H9.out.2.2.1)) hcf hrl) (by have := HV.out.lf; rw [List.length_drop]; omega)).mono ?_
        rintro e wt ⟨v', rfl, hsv, hnl2, ot⟩
        have HNV : Hid ((∀ w0, SvAt w0 (.slice (fromS af cf rr) (F1.length - rr) (cf - rr)) (F1.drop rr) → SvAt w0 v' (takeL idv (F1.drop rr))) ∧ NilOk v') := ⟨hsv, hnl2 (nil_drop hnl)⟩
        obtain ⟨U, hU⟩ : ∃ U, takeS idv (F1.drop rr) = U := ⟨_, rfl⟩
        have HU : Hid (takeS idv (F1.drop rr) = U) := hU
        rw [hU]
        clear hU hsv hnl2
        have HT : Hid (wt.ownsRow w.heap.size 57 11 v8 (R ++ F1.take rr).length (rowS (R ++ F1.take rr)) ∧ SR wt kr r a c L (bad || decide (g.1 ≠ 0) || decide (nn.1 ≠ 0)) idv nn.2.2 ∧ Only [kr, r] w wt ∧ SnAt 57 wt k10 zs ∧ w.heap.size ≤ k10 ∧ (∀ k, v8.ownBlock = some k → k ≠ k10)) :=
          ⟨ownS_keep H9.out.1 ot (by simp), H9.out.2.1.keep ot, H9.out.2.2.1.then ot (by simp), H9.out.2.2.2.1.only ot (by simp), H9.out.2.2.2.2⟩
        clear ot H9
        have z0 := HT.out.2.2.2.1.off 0; have y0 := HT.out.2.2.2.1.free 0
        have z1 := HT.out.2.2.2.1.off 1; have y1 := HT.out.2.2.2.1.free 1
        have z2 := HT.out.2.2.2.1.off 2; have y2 := HT.out.2.2.2.1.free 2
        have z3 := HT.out.2.2.2.1.off 3; have y3 := HT.out.2.2.2.1.free 3
        have z4 := HT.out.2.2.2.1.off 4; have y4 := HT.out.2.2.2.1.free 4
        have z5 := HT.out.2.2.2.1.off 5; have y5 := HT.out.2.2.2.1.free 5
        have z6 := HT.out.2.2.2.1.off 6; have y6 := HT.out.2.2.2.1.free 6
        have z7 := HT.out.2.2.2.1.off 7; have y7 := HT.out.2.2.2.1.free 7
        have z8 := HT.out.2.2.2.1.off 8; have y8 := HT.out.2.2.2.1.free 8
        have z9 := HT.out.2.2.2.1.off 9; have y9 := HT.out.2.2.2.1.free 9
        have z10 := HT.out.2.2.2.1.off 10; have y10 := HT.out.2.2.2.1.free 10
        simp only [zs, List.getElem?_toArray, List.getElem?_cons_succ, List.getElem?_cons_zero] at z0 z1 z2 z3 z4 z5 z6 z7 z8 z9 z10
        have HF : Hid ((((((((((((wt.setCell ⟨k10, 0, none⟩ (.int .i64 (U.id))).setCell ⟨k10, 1, none⟩ (.int .i64 (U.kd))).setCell ⟨k10, 2, none⟩ (.int .i64 (U.sx))).setCell ⟨k10, 3, none⟩ (.int .i64 (U.sy))).setCell ⟨k10, 4, none⟩ (.int .i64 (U.sz))).setCell ⟨k10, 5, none⟩ (.int .i64 (U.ax))).setCell ⟨k10, 6, none⟩ (.int .i64 (U.ay))).setCell ⟨k10, 7, none⟩ (.int .i64 (U.az))).setCell ⟨k10, 8, none⟩ (.int .i64 (U.vx))).setCell ⟨k10, 9, none⟩ (.int .i64 (U.vy))).setCell ⟨k10, 10, none⟩ (.int .i64 (U.vz))).ownsRow w.heap.size 57 11 v8 (R ++ F1.take rr).length (rowS (R ++ F1.take rr)) ∧ SR (((((((((((wt.setCell ⟨k10, 0, none⟩ (.int .i64 (U.id))).setCell ⟨k10, 1, none⟩ (.int .i64 (U.kd))).setCell ⟨k10, 2, none⟩ (.int .i64 (U.sx))).setCell ⟨k10, 3, none⟩ (.int .i64 (U.sy))).setCell ⟨k10, 4, none⟩ (.int .i64 (U.sz))).setCell ⟨k10, 5, none⟩ (.int .i64 (U.ax))).setCell ⟨k10, 6, none⟩ (.int .i64 (U.ay))).setCell ⟨k10, 7, none⟩ (.int .i64 (U.az))).setCell ⟨k10, 8, none⟩ (.int .i64 (U.vx))).setCell ⟨k10, 9, none⟩ (.int .i64 (U.vy))).setCell ⟨k10, 10, none⟩ (.int .i64 (U.vz))) kr r a c L (bad || decide (g.1 ≠ 0) || decide (nn.1 ≠ 0)) idv nn.2.2 ∧ Only [kr, r] w (((((((((((wt.setCell ⟨k10, 0, none⟩ (.int .i64 (U.id))).setCell ⟨k10, 1, none⟩ (.int .i64 (U.kd))).setCell ⟨k10, 2, none⟩ (.int .i64 (U.sx))).setCell ⟨k10, 3, none⟩ (.int .i64 (U.sy))).setCell ⟨k10, 4, none⟩ (.int .i64 (U.sz))).setCell ⟨k10, 5, none⟩ (.int .i64 (U.ax))).setCell ⟨k10, 6, none⟩ (.int .i64 (U.ay))).setCell ⟨k10, 7, none⟩ (.int .i64 (U.az))).setCell ⟨k10, 8, none⟩ (.int .i64 (U.vx))).setCell ⟨k10, 9, none⟩ (.int .i64 (U.vy))).setCell ⟨k10, 10, none⟩ (.int .i64 (U.vz))) ∧ SnAt 57 (((((((((((wt.setCell ⟨k10, 0, none⟩ (.int .i64 (U.id))).setCell ⟨k10, 1, none⟩ (.int .i64 (U.kd))).setCell ⟨k10, 2, none⟩ (.int .i64 (U.sx))).setCell ⟨k10, 3, none⟩ (.int .i64 (U.sy))).setCell ⟨k10, 4, none⟩ (.int .i64 (U.sz))).setCell ⟨k10, 5, none⟩ (.int .i64 (U.ax))).setCell ⟨k10, 6, none⟩ (.int .i64 (U.ay))).setCell ⟨k10, 7, none⟩ (.int .i64 (U.az))).setCell ⟨k10, 8, none⟩ (.int .i64 (U.vx))).setCell ⟨k10, 9, none⟩ (.int .i64 (U.vy))).setCell ⟨k10, 10, none⟩ (.int .i64 (U.vz))) k10 U) := by
          have o : Only [k10] wt (((((((((((wt.setCell ⟨k10, 0, none⟩ (.int .i64 (U.id))).setCell ⟨k10, 1, none⟩ (.int .i64 (U.kd))).setCell ⟨k10, 2, none⟩ (.int .i64 (U.sx))).setCell ⟨k10, 3, none⟩ (.int .i64 (U.sy))).setCell ⟨k10, 4, none⟩ (.int .i64 (U.sz))).setCell ⟨k10, 5, none⟩ (.int .i64 (U.ax))).setCell ⟨k10, 6, none⟩ (.int .i64 (U.ay))).setCell ⟨k10, 7, none⟩ (.int .i64 (U.az))).setCell ⟨k10, 8, none⟩ (.int .i64 (U.vx))).setCell ⟨k10, 9, none⟩ (.int .i64 (U.vy))).setCell ⟨k10, 10, none⟩ (.int .i64 (U.vz))) := ((((((((((((Only.refl [k10] wt).setCell (p := ⟨k10, 0, none⟩) (Or.inl (by simp)) _).setCell (p := ⟨k10, 1, none⟩) (Or.inl (by simp)) _).setCell (p := ⟨k10, 2, none⟩) (Or.inl (by simp)) _).setCell (p := ⟨k10, 3, none⟩) (Or.inl (by simp)) _).setCell (p := ⟨k10, 4, none⟩) (Or.inl (by simp)) _).setCell (p := ⟨k10, 5, none⟩) (Or.inl (by simp)) _).setCell (p := ⟨k10, 6, none⟩) (Or.inl (by simp)) _).setCell (p := ⟨k10, 7, none⟩) (Or.inl (by simp)) _).setCell (p := ⟨k10, 8, none⟩) (Or.inl (by simp)) _).setCell (p := ⟨k10, 9, none⟩) (Or.inl (by simp)) _).setCell (p := ⟨k10, 10, none⟩) (Or.inl (by simp)) _)
          have hk := HT.out.2.2.2.2.1
          obtain ⟨o1, o2, o3⟩ := HC.out.old
          exact ⟨ownS_far HT.out.1 o (fun k hk => by simpa using HT.out.2.2.2.2.2 k hk), HT.out.2.1.only o (by simp; omega) (by simp; omega) (fun g p e hL => by have := o3 g p e hL; simp; omega), HT.out.2.2.1.then o (fun y hy => by rw [List.mem_singleton.1 hy]; exact Or.inr hk), sn_put HT.out.2.2.2.1 U⟩
        go_upto_region 11 with fail
        generalize (((((((((((wt.setCell ⟨k10, 0, none⟩ (.int .i64 (U.id))).setCell ⟨k10, 1, none⟩ (.int .i64 (U.kd))).setCell ⟨k10, 2, none⟩ (.int .i64 (U.sx))).setCell ⟨k10, 3, none⟩ (.int .i64 (U.sy))).setCell ⟨k10, 4, none⟩ (.int .i64 (U.sz))).setCell ⟨k10, 5, none⟩ (.int .i64 (U.ax))).setCell ⟨k10, 6, none⟩ (.int .i64 (U.ay))).setCell ⟨k10, 7, none⟩ (.int .i64 (U.az))).setCell ⟨k10, 8, none⟩ (.int .i64 (U.vx))).setCell ⟨k10, 9, none⟩ (.int .i64 (U.vy))).setCell ⟨k10, 10, none⟩ (.int .i64 (U.vz))) = w10 at HF ⊢
        clear z0 z1 z2 z3 z4 z5 z6 z7 z8 z9 z10 y0 y1 y2 y3 y4 y5 y6 y7 y8 y9 y10 HT
        have HSV : Hid (SvAt w0 v' (takeL idv (F1.drop rr)) ∧ NilOk v' ∧ (takeL idv (F1.drop rr)).length ≤ F1.length - rr) := by
          refine ⟨HNV.out.1 w0 (sv_drop HS0.out.1 hcf hrl), HNV.out.2, ?_⟩
          have h1 := takeL_le idv (F1.drop rr)
          rw [List.length_drop] at h1
          exact h1
        clear HNV
        have HGE : Hid (p + 2 ≤ nn.2.2) := by show _ ≤ _; rw [← HP.out, HNN.out]; exact numM_ge _ _ _
        have HNX : Hid _ := HV.out.way.next HG.out (by rw [HK.out.2.1]; have := HK3.out; omega) HNN.out HID.out HST.out
        by_cases hk0 : k = 0
        · subst hk0
          have H11 : Hid (VwS w0 w kr r a c L F v' v8 (takeL idv (F1.drop rr)) (R ++ F1.take rr) (bad || decide (g.1 ≠ 0) || decide (nn.1 ≠ 0)) idv nn.2.2 w10) :=
            ⟨HSV.out.1, HSV.out.2.1, HF.out.1, HF.out.2.1, HF.out.2.2.1, by have h1 := HSV.out.2.2; have h2 := HV.out.lf; omega, by have h1 := HSV.out.2.2; have h2 := HV.out.len; have h3 := HGE.out; have h4 := HTL.out; rw [List.length_append]; omega, HNX.out.1 HK.out.2.1⟩
          go_wp2_with fail
          go_roundg (8 * L.length - nn.2.2)
          case measure => have h1 := HI.out; have h2 := HGE.out; have h3 := HF.out.2.1.rd.pos; omega
          case rel => exact ⟨_, _, _, _, _, _, _, rfl, rfl, rfl, H11⟩
        · have hk0b : ((k : Int) != 0) = true := by simp; omega
          have hk12 : (k : Int) = 1 ∨ (k : Int) = 2 := by have := HK.out.1; have := HK3.out; omega
          have HK12 : Hid ((k : Int) = 1 ∨ (k : Int) = 2) := hk12
          clear hk0 hk12
          have z0 := HF.out.2.2.2.off 0
          have z1 := HF.out.2.2.2.off 1
          have z2 := HF.out.2.2.2.off 2
          have z3 := HF.out.2.2.2.off 3
          have z4 := HF.out.2.2.2.off 4
          have z5 := HF.out.2.2.2.off 5
          have z6 := HF.out.2.2.2.off 6
          have z7 := HF.out.2.2.2.off 7
          have z8 := HF.out.2.2.2.off 8
          have z9 := HF.out.2.2.2.off 9
          have z10 := HF.out.2.2.2.off 10
          simp only [List.getElem?_toArray, List.getElem?_cons_succ, List.getElem?_cons_zero] at z0 z1 z2 z3 z4 z5 z6 z7 z8 z9 z10
          go_wp2_with fail
          refine (seenS_calls kr r a c L _ idv _ (k : Int) idv U _ HF.out.2.1 HK12.out).mono ?_
          rintro e w11 ⟨A, B, C, bad0, p0, s, bad1, p1, hpr, hsm, rfl, hsr, os⟩
          have H12 : Hid (w11.ownsRow w.heap.size 57 11 v8 (R ++ F1.take rr).length (rowS (R ++ F1.take rr)) ∧ SR w11 kr r a c L bad1 idv p1 ∧ Only [kr, r] w w11 ∧ Way F L (R ++ F1.take rr ++ [s]) (takeL idv (F1.drop rr)) bad1 idv p1 ∧ nn.2.2 ≤ p1) := by
            refine ⟨ownS_keep HF.out.1 os (fun k hk => ?_), hsr, HF.out.2.2.1.trans os, HNX.out.2 A B C bad0 p0 s bad1 p1 (by rw [HK.out.2.1]; exact hpr) (by rw [HU.out]; exact hsm), ?_⟩
            · have := HC.out.old
              simp only [List.mem_cons, List.not_mem_nil, or_false] at hk
              rcases hk with rfl | rfl
              · exact this.1
              · exact this.2.1
            · have h1 := parts_ge hpr
              have h2 := seenM_ge L A B C idv U bad0 p0
              rw [← hsm] at h2
              exact Nat.le_trans h1 h2
          clear hpr hsm hsr os z0 z1 z2 z3 z4 z5 z6 z7 z8 z9 z10 HF
          have hown12 := ownS_keep H12.out.1 ((Only.refl [] w11).alloc (.cells #[.int .i64 (s.id), .int .i64 (s.kd), .int .i64 (s.sx), .int .i64 (s.sy), .int .i64 (s.sz), .int .i64 (s.ax), .int .i64 (s.ay), .int .i64 (s.az), .int .i64 (s.vx), .int .i64 (s.vy), .int .i64 (s.vz)] 57)) (by simp)
          have hone : SeenAt (w11.alloc (.cells #[.int .i64 (s.id), .int .i64 (s.kd), .int .i64 (s.sx), .int .i64 (s.sy), .int .i64 (s.sz), .int .i64 (s.ax), .int .i64 (s.ay), .int .i64 (s.az), .int .i64 (s.vx), .int .i64 (s.vy), .int .i64 (s.vz)] 57)) (some ⟨w11.heap.size, 0, none⟩) [s].length (fun j => [s].getD j zs) := seen_one w11 s
          have hb12 : w.heap.size ≤ (w11.alloc (.cells #[.int .i64 (s.id), .int .i64 (s.kd), .int .i64 (s.sx), .int .i64 (s.sy), .int .i64 (s.sz), .int .i64 (s.ax), .int .i64 (s.ay), .int .i64 (s.az), .int .i64 (s.vx), .int .i64 (s.vy), .int .i64 (s.vz)] 57)).heap.size := by have := H12.out.2.2.1.size; simp; omega
          have hl12 : (R ++ F1.take rr).length + [s].length ≤ 1000000 := by have := HTL.out; simp only [List.length_append, List.length_singleton]; omega
          have HAL : Hid (SR (w11.alloc (.cells #[.int .i64 (s.id), .int .i64 (s.kd), .int .i64 (s.sx), .int .i64 (s.sy), .int .i64 (s.sz), .int .i64 (s.ax), .int .i64 (s.ay), .int .i64 (s.az), .int .i64 (s.vx), .int .i64 (s.vy), .int .i64 (s.vz)] 57)) kr r a c L bad1 idv p1 ∧ Only [kr, r] w (w11.alloc (.cells #[.int .i64 (s.id), .int .i64 (s.kd), .int .i64 (s.sx), .int .i64 (s.sy), .int .i64 (s.sz), .int .i64 (s.ax), .int .i64 (s.ay), .int .i64 (s.az), .int .i64 (s.vx), .int .i64 (s.vy), .int .i64 (s.vz)] 57))) := ⟨H12.out.2.1.keep ((Only.refl [] w11).alloc _), H12.out.2.2.1.then ((Only.refl [] w11).alloc _) (by simp)⟩
          go_wp2_with (first | (at_builtin; refine wpList_appendS snapT rfl _ _ rfl w.heap.size v8 (R ++ F1.take rr) rfl hown12 (some ⟨w11.heap.size, 0, none⟩) 1 1 [s] rfl rfl hone (fun e => by cases e) (by simp) hl12 hb12 ?_; intro v13 w13 hown hgrow hloc; have H13 : Hid (w13.ownsRow w.heap.size 57 11 v13 (R ++ F1.take rr ++ [s]).length (rowS (R ++ F1.take rr ++ [s])) ∧ SR w13 kr r a c L bad1 idv p1 ∧ Only [kr, r] w w13) := ⟨hown, (VwS.grow (fv := .slice none 0 0) (tv' := .slice none 0 0) (F1 := []) (R' := []) HC.out hown12 HAL.out.1 HAL.out.2 hgrow).1, (VwS.grow (fv := .slice none 0 0) (tv' := .slice none 0 0) (F1 := []) (R' := []) HC.out hown12 HAL.out.1 HAL.out.2 hgrow).2.1⟩; clear hown hgrow hloc hown12 hone hb12 hl12 HAL))
          have H14 : Hid (VwS w0 w kr r a c L F v' v13 (takeL idv (F1.drop rr)) (R ++ F1.take rr ++ [s]) bad1 idv p1 w13) :=
            ⟨HSV.out.1, HSV.out.2.1, H13.out.1, H13.out.2.1, H13.out.2.2, by have h1 := HSV.out.2.2; have h2 := HV.out.lf; omega, by have h1 := HSV.out.2.2; have h2 := HV.out.len; have h3 := HGE.out; have h4 := HTL.out; have h5 := H12.out.2.2.2.2; simp only [List.length_append, List.length_singleton]; omega, H12.out.2.2.2.1⟩
          go_wp2_with fail
          go_roundg (8 * L.length - p1)
          case measure => have h1 := HI.out; have h2 := HGE.out; have h3 := H13.out.2.1.rd.pos; have h5 := H12.out.2.2.2.2; omega
          case rel => exact ⟨_, _, _, _, _, _, _, rfl, rfl, rfl, H14⟩
      · rw [eN_pos he] at hce
        have HB1 : Hid ((bad || decide (g.1 ≠ 0)) = true) := by show _ = _; rw [HEB.out]; simp [he]
        clear he HEB
        have HEND : Hid (∀ T, rightL T = true → bytesOf (deltaT F T) = L → (bad || decide (g.1 ≠ 0)) = false ∧ R ++ F1 = T) := HV.out.way.done HG.out (Or.inr HB1.out)
        go_wp2_with (first | (at_builtin; refine wpList_appendS snapT rfl _ _ rfl w.heap.size tv R rfl hown2 af F1.length cf F1 rfl rfl hsf2 hnl hcf (by omega) hbs ?_; intro v9 w9 hown hgrow hloc; have H9 : Hid (w9.ownsRow w.heap.size 57 11 v9 (R ++ F1).length (rowS (R ++ F1)) ∧ SR w9 kr r a c L (bad || decide (g.1 ≠ 0)) la g.2.2 ∧ Only [kr, r] w w9) := ⟨hown, (VwS.grow (fv := .slice none 0 0) (tv' := .slice none 0 0) (F1 := []) (R' := []) HC.out hown2 H2.out.1 H2.out.2.2.1 hgrow).1, (VwS.grow (fv := .slice none 0 0) (tv' := .slice none 0 0) (F1 := []) (R' := []) HC.out hown2 H2.out.1 H2.out.2.2.1 hgrow).2.1⟩; clear hown hgrow hloc))
        exact bodyPost_ret (v := v9) (by simp [results, Tryd.results21, go_sem]) rfl ⟨v9, R ++ F1, _, _, _, rfl, H9.out.1, by rw [List.length_append]; omega, H9.out.2.1, H9.out.2.2, fun T hT hL => HEND.out T hT hL⟩
end Go.Proofs.YtedhdmahdioboaaDoor
