/- gyreref.Client.Feed: a view is made of its base; those that are too old go. -/
import Derived.Test.YtedhdmahdioboaaClD
import Derived.Test.YtedhdmahdioboaaArN
import Derived.Deep.Cut
import Derived.Test.YtedhdmahdioboaaBase
import Derived.OrdersHeld
import Derived.Below
import Derived.Deep.RegionHeld
import Derived.Test.YtedhdmahdioboaaFin
namespace Go.Proofs.Ytedhdmahdioboaa
open Go.ChangeShapes Go.WideShapes Go.ChangeAt Go.RowKit
set_option linter.unusedVariables false
set_option linter.unusedSimpArgs false
variable {ora : Ora}

theorem step_knownH {o : Oper} {a : Act} {w w' : World} {v : Value} {K : Act → World → Prop} {Q : Exit → Act → World → Prop} (hr : (execOp a.eval o).run Try.prog w = .ok (.value v) w') (hK : K (a.put o.dst v) w') : Oper.wp Try.prog o a w K Q := by
  unfold Oper.wp
  rw [hr]
  exact hK
theorem run_mk {ρ : Operand → Value} {o : Oper} {t : TypeId} (ho : o.op = .makeMap t none) (w : World) : (execOp ρ o).run Try.prog w = .ok (.value (.map (some w.heap.size))) (w.alloc (.map #[] 0)) := by
  unfold execOp
  rw [ho]
  rfl
theorem RngV.isMap {w : World} {b r : Nat} {L : List (Int × Value)} {left : Int → Bool} {cnt : Nat} (h : RngV w b r L left cnt) : IsMap w r := by
  obtain ⟨D, lf, ⟨es, clock, since, seen, c0, _, _, _, _, hr, _⟩, _⟩ := h
  exact Or.inr ⟨_, _, _, _, hr⟩
theorem RngV.lt {w : World} {b r : Nat} {L : List (Int × Value)} {left : Int → Bool} {cnt : Nat} (h : RngV w b r L left cnt) : r < w.heap.size := by
  obtain ⟨D, lf, h, _⟩ := h
  exact h.lt
/-- While the views are picked over. -/
structure R4 (E' : List Nat) (w : World) (y yv : Nat) (vg : Value) (J : Vl) (nw st : Int) (kp : Nat) (p : Gt) (vb : Value) (ml : Nat) (v v0 : Value) (T : List Sn) (left : Int → Bool) (wx : World) : Prop where
  cl : RcAt wx y yv st (.slice none 0 0)
  vm : MapV wx (some yv) (mpJ J)
  vo : VwOk E' wx J nw
  lm : ∃ M, MapV wx (some ml) M ∧ M.Perm ((st, v) :: (0, v0) :: fin4 left st (mpJ J))
  sv : SvE wx E' v T
  s0 : SvE wx E' v0 []
  lt : ∀ e ∈ E', e < wx.heap.size
  pw : PrAt wx kp p vb
  on : Only (y :: vg.ownBlock.toList) w wx
theorem R4.turn {E' : List Nat} {w : World} {y yv : Nat} {vg : Value} {J : Vl} {nw st : Int} {kp : Nat} {p : Gt} {vb : Value} {ml : Nat} {v v0 v0' : Value} {T : List Sn} {left left' : Int → Bool} {wx w' : World} {d : Nat} (h : R4 E' w y yv vg J nw st kp p vb ml v v0 T left wx) (o : Only [d] wx w') (hd : IsMap wx d) (hyv : d ≠ yv) (hdw : w.heap.size ≤ d)
    (lm' : ∃ M, MapV w' (some ml) M ∧ M.Perm ((st, v) :: (0, v0') :: fin4 left' st (mpJ J))) (s0' : SvE w' E' v0' []) : R4 E' w y yv vg J nw st kp p vb ml v v0' T left' w' := by
  have hD : ∀ x ∈ [d], x ∈ E' ∨ IsMap wx x := fun x hx => by rw [List.mem_singleton.1 hx]; exact Or.inr hd
  exact ⟨h.cl.only o (by simpa using isMap_ne h.cl hd), h.vm.only o (by simpa using fun q => hyv q.symm), h.vo.only o hD, lm', h.sv.only o hD, s0', fun e he => Nat.lt_of_lt_of_le (h.lt e he) o.size, h.pw.only o (by simpa using isMap_ne h.pw hd), h.on.then o (fun b hb => by rw [List.mem_singleton.1 hb]; exact Or.inr hdw)⟩
theorem R4.keep {E' : List Nat} {w : World} {y yv : Nat} {vg : Value} {J : Vl} {nw st : Int} {kp : Nat} {p : Gt} {vb : Value} {ml : Nat} {v v0 : Value} {T : List Sn} {left : Int → Bool} {wx w' : World} (h : R4 E' w y yv vg J nw st kp p vb ml v v0 T left wx) (o : Only [] wx w') : R4 E' w y yv vg J nw st kp p vb ml v v0 T left w' := by
  obtain ⟨M, hM, hP⟩ := h.lm
  exact ⟨h.cl.only o (by simp), h.vm.only o (by simp), h.vo.only o (by simp), ⟨M, hM.only o (by simp), hP⟩, h.sv.keep o, h.s0.keep o, fun e he => Nat.lt_of_lt_of_le (h.lt e he) o.size, h.pw.only o (by simp), h.on.trans (o.mono (by simp))⟩
theorem perm_keys {L L' : List (Int × Value)} (h : L.Perm L') {i : Int} : i ∈ L.map Prod.fst ↔ i ∈ L'.map Prod.fst := (h.map _).mem_iff
set_option maxRecDepth 1000000 in
set_option maxHeartbeats 0 in
theorem feed_32 (E E' : List Nat) (y yv : Nat) (vg : Value) (J : Vl) (nw : Int) (KL : Kl) (L : List Nat) (w : World) (kp : Nat) (p : Gt) (vb : Value) (w6 : World) (fv : Value) (F : List Sn) (ab : Option Addr) (cb : Nat) (A : List Nat) (c1 c2 c3 c4 c6 c7 c8 c10 c11 c12 c14 c15 c16 c17 c18 c19 c20 c21 c22 c23 c24 c25 c26 c27 c28 c29 c30 c31 c32 c33 c34 c35 c36 c37 c38 c39 c40 c41 c42 c43 c44 c45 c46 c47 c48 c49 c50 c51 c52 c53 c54 c55 c56 c57 c58 c59 c60 c61 c62 c63 c64 c65 c66 c67 c68 c69 c70 c71 c72 c73 c74 c75 c76 c77 c78 c79 c80 c81 c82 c83 c84 c85 c86 c87 c88 c89 c90 c91 c92 c93 c94 c95 c96 c97 c98 c99 c100 c101 c102 c103 c104 c105 c106 c107 c108 c109 c110 c111 c112 c113 c114 c115 c116 c117 c118 c119 c120 c121 c122 c123 c124 c125 c126 c127 c128 c129 c130 c131 c132 c133 c134 c135 c136 c137 c138 c139 c140 c141 c142 c143 c144 c145 c146 c147 c148 c149 c150 c151 c152 c153 c154 c155 c156 c157 c158 c159 c160 c161 c162 c163 c164 c165 c166 c167 c168 c169 c170 c171 c172 c173 c174 c175 c176 c177 c178 c179 c180 c181 c182 c183 c184 c185 c186 c187 c188 c189 c190 c191 c192 c193 c194 c195 c196 c197 c198 c199 c200 c201 c202 c203 : Value)
    (HB : Hid (RCA E w y yv vg J nw KL ∧ (∀ e ∈ J, e.1 = 0 → e.2.2 = []) ∧ J.length ≤ 1000)) (HPK : Hid (GtOk p)) (HNW : Hid (nw < p.st)) (H6 : Hid (R3 E E' w y yv vg J nw kp p vb w6)) (HF : Hid (SvE w6 E' fv F ∧ F.length ≤ 121 ∧ viewC (vwJ J) p.ba = some F)) (HA : Hid (ByAt w6 ab A ∧ (ab = none → A = [] ∧ cb = 0) ∧ A.length ≤ 4000 ∧ ∀ c ∈ A, c < 256))
    (HFE : Hid (feedL ora (stC J nw KL) L = match becC ora (vwJ J) p.st p.ba A with
      | none => (false, stC J nw [])
      | some V => (true, ⟨V, p.st, []⟩))) (HOK : Hid (CstOk 32 (feedL ora (stC J nw KL) L).2)) :
    Code.wp Try.prog (code32 Try.f20) (bodyPost Try.prog Try.f20 (RFeedPost ora E y yv vg J nw KL L w)) ⟨#[.pointer (some ⟨y, 0, none⟩), c1, c2, c3, c4, .pointer (some ⟨kp, 0, none⟩), c6, c7, c8, .slice ab A.length cb, c10, c11, c12, fv, c14, c15, c16, c17, c18, c19, c20, c21, c22, c23, c24, c25, c26, c27, c28, c29, c30, c31, c32, c33, c34, c35, c36, c37, c38, c39, c40, c41, c42, c43, c44, c45, c46, c47, c48, c49, c50, c51, c52, c53, c54, c55, c56, c57, c58, c59, c60, c61, c62, c63, c64, c65, c66, c67, c68, c69, c70, c71, c72, c73, c74, c75, c76, c77, c78, c79, c80, c81, c82, c83, c84, c85, c86, c87, c88, c89, c90, c91, c92, c93, c94, c95, c96, c97, c98, c99, c100, c101, c102, c103, c104, c105, c106, c107, c108, c109, c110, c111, c112, c113, c114, c115, c116, c117, c118, c119, c120, c121, c122, c123, c124, c125, c126, c127, c128, c129, c130, c131, c132, c133, c134, c135, c136, c137, c138, c139, c140, c141, c142, c143, c144, c145, c146, c147, c148, c149, c150, c151, c152, c153, c154, c155, c156, c157, c158, c159, c160, c161, c162, c163, c164, c165, c166, c167, c168, c169, c170, c171, c172, c173, c174, c175, c176, c177, c178, c179, c180, c181, c182, c183, c184, c185, c186, c187, c188, c189, c190, c191, c192, c193, c194, c195, c196, c197, c198, c199, c200, c201, c202, c203], []⟩ w6 := by
  conv => arg 2; whnf
  go_wp2_with fail
  refine (refApply_calls F fv ab cb A w6 HF.out.1.1 HF.out.1.2.1 (by have := HF.out.2.1; omega) HA.out.2.2.1 HA.out.2.2.2 HA.out.1 HA.out.2.1).mono ?_
  rintro e w7 ⟨o7, hcase⟩
  have H7 : Hid (R3 E E' w y yv vg J nw kp p vb w7) := H6.out.keep o7
  have HYE : Hid (y ∈ E') := H6.out.inc _ HB.out.1.yE
  have HFAIL : Hid (ora.ap F A = none → RFeedPost ora E y yv vg J nw KL L w (.returned (.bool false)) w7) := fun hno => by
    have h7 := H7.out
    have hb : becC ora (vwJ J) p.st p.ba A = none := by
      unfold becC
      rw [HF.out.2.2, Option.bind_some, hno]
      rfl
    have h1 := HFE.out
    have h2 := HOK.out
    rw [hb] at h1
    rw [h1] at h2
    exact ⟨h7.on, false, E', yv, _, J, nw, [], rfl, ⟨h7.cl, h7.vm, h7.vo, World.ownsRow_nil _ _ _ _, fun b hb => (by cases hb), by simp, by simp, h7.lt, HYE.out, fun q => (by cases q), h2⟩, h7.inc, h7.new, Or.inl rfl, fun b hb => (by cases hb), by omega, HB.out.2.1, h1.symm⟩
  rcases hcase with ⟨hrF, rfl⟩ | ⟨_, hno, rfl⟩ | ⟨hrF, T, v, hT, hu, rfl, hown⟩
  · have HN : Hid (ora.ap F A = none) := ora.bad hrF
    clear hrF o7
    go_wp2_with fail
    exact bodyPost_ret (v := .bool false) (by simp [results, Try.results20, go_sem]) rfl (HFAIL.out HN.out)
  · have HN : Hid (ora.ap F A = none) := ora.none_ hno
    clear hno o7
    go_wp2_with fail
    exact bodyPost_ret (v := .bool false) (by simp [results, Try.results20, go_sem]) rfl (HFAIL.out HN.out)
  · have hsv := own_sv hown
    have HV : Hid (SvE w7 E' v T ∧ T.length ≤ 121 ∧ ora.ap F A = some T) := ⟨⟨hsv.1, hsv.2, ownS_out hown H6.out.lt⟩, by have := (rightL_ris hT.1).2; omega, ora.some_ hrF hT hu⟩
    clear hsv hown hrF hT hu o7 HFAIL
    obtain ⟨z0, z1, z2⟩ := H7.out.cl.cells
    have f1 := H7.out.cl.free 1
    obtain ⟨p0, _⟩ := H7.out.pw.cells
    go_upto_region 36 with fail
    have hkpy : kp ≠ y := fun q => by have := HB.out.1.lt _ HB.out.1.yE; have h2 := H7.out.ke; omega
    have hyy : yv ≠ y := fun q => isMap_ne H7.out.cl H7.out.vm.isMap q.symm
    have o8 := only_one (y := y) w7 1 (.int .i64 (p.st))
    have hD8 : ∀ d ∈ [y], d ∈ E' ∨ IsMap w7 d := fun d hd => Or.inl (by rw [List.mem_singleton.1 hd]; exact HYE.out)
    have H8 : Hid (RcAt (w7.setCell ⟨y, 1, none⟩ (.int .i64 (p.st))) y yv p.st (.slice none 0 0) ∧ MapV (w7.setCell ⟨y, 1, none⟩ (.int .i64 (p.st))) (some yv) (mpJ J) ∧ VwOk E' (w7.setCell ⟨y, 1, none⟩ (.int .i64 (p.st))) J nw ∧ SvE (w7.setCell ⟨y, 1, none⟩ (.int .i64 (p.st))) E' v T ∧ (∀ e ∈ E', e < (w7.setCell ⟨y, 1, none⟩ (.int .i64 (p.st))).heap.size) ∧ PrAt (w7.setCell ⟨y, 1, none⟩ (.int .i64 (p.st))) kp p vb ∧ Only (y :: vg.ownBlock.toList) w (w7.setCell ⟨y, 1, none⟩ (.int .i64 (p.st)))) :=
      ⟨H7.out.cl.put1 _, H7.out.vm.only o8 (by simpa using hyy), H7.out.vo.only o8 hD8, HV.out.1.only o8 hD8, fun e he => Nat.lt_of_lt_of_le (H7.out.lt e he) o8.size, H7.out.pw.only o8 (by simpa using hkpy), H7.out.on.trans (o8.mono (by simp))⟩
    clear z0 z1 z2 f1 p0 o8 hD8 hkpy hyy
    generalize World.setCell w7 _ _ = w8 at H8 ⊢
    have HJK : Hid ((mpJ J).length ≤ 1000) := by show _ ≤ _; simp only [mpJ, List.length_map]; exact HB.out.2.2
    have HI64 : Hid (In64V p.st ∧ In64V 0) := ⟨in64V_of (by have := HPK.out.st1; omega) (by have := HPK.out.st2; omega), in64V_of (by omega) (by omega)⟩
    have HST0 : Hid (p.st ≠ 0) := by have := HPK.out.st1; show p.st ≠ 0; omega
    go_cut [16] from 173 (fun s16 wx => ∃ ml, s16 = .map (some ml) ∧ Hid (w.heap.size ≤ ml ∧ ml ≠ yv ∧ R4 E' w y yv vg J nw p.st kp p vb ml v (.slice none 0 0) T (fun i => decide (i ∈ (mpJ J).map Prod.fst)) wx))
    case first =>
      obtain ⟨p0, _⟩ := H8.out.2.2.2.2.2.1.cells
      refine wp_region_held_drew (S := (fun w' => w'.cell? ⟨kp, 0, none⟩ = some (.int .i64 (p.st)))) (by kernel_rfl) ?_ (fun hHeld1 => ?_)
      · (try dsimp only); exact p0
      clear p0
      refine tkW 2 rfl ?_; refine tkW 3 rfl ?_; refine tkW 4 rfl ?_
      try simp only [Act.put, List.setIfInBounds_toArray, List.set_cons_zero, List.set_cons_succ, List.getElem_toArray, List.getElem_cons_succ, List.getElem_cons_zero]
      refine wpAnyH_ready (rs := [0]) (by kernel_rfl) (by simp) ?_
      refine AllReadyH.cons rfl (fun K hK => ?_) AllReadyH.nil
      first | (with_reducible refine iteYes ?hcx ?htx; case hcx => kernel_rfl) | rw [if_pos (by rfl)]
      refine step_knownH (run_mk rfl w8.drew) ?_
      have OA : Hid (Only [] w8 (w8.drew.alloc (.map #[] 0)) ∧ MapV (w8.drew.alloc (.map #[] 0)) (some w8.drew.heap.size) [] ∧ w8.heap.size ≤ w8.drew.heap.size) := ⟨((Only.refl [] w8).drew).alloc _, MapV.made w8.drew, Nat.le_refl _⟩
      refine hK.out _ _ ?_ (fun hHx => ?_)
      · exact OA.out.1.cell H8.out.2.2.2.2.2.1.cells.1 (by simp)
      clear hK K
      try simp only [Act.put, List.setIfInBounds_toArray, List.set_cons_zero, List.set_cons_succ, List.getElem_toArray, List.getElem_cons_succ, List.getElem_cons_zero]
      revert OA hHx
      generalize w8.drew.heap.size = ml
      generalize World.alloc w8.drew _ = wA
      intro OA hHx
      have HEND : Hid (∀ (wB wC : World) (M : List (Int × Value)), MapV wC (some ml) M → M.Perm [(p.st, v), (0, .slice none 0 0)] → wA.mapTurned wB ml → wB.mapTurned wC ml → w.heap.size ≤ ml ∧ ml ≠ yv ∧ R4 E' w y yv vg J nw p.st kp p vb ml v (.slice none 0 0) T (fun i => decide (i ∈ (mpJ J).map Prod.fst)) wC) := fun wB wC M hM hP t1 t2 => by
        have oC : Only [ml] wA wC := ((Only.refl [ml] wA).grown t1.grown (fun k hk => by injection hk with hk; exact Or.inl (by simp [hk]))).grown t2.grown (fun k hk => by injection hk with hk; exact Or.inl (by simp [hk]))
        have hlw : w.heap.size ≤ ml := Nat.le_trans H8.out.2.2.2.2.2.2.size OA.out.2.2
        have hne : ml ≠ yv := fun q => by have := H8.out.2.1.lt; have h2 := OA.out.2.2; omega
        have hA : R4 E' w y yv vg J nw p.st kp p vb ml v (.slice none 0 0) T (fun _ => false) wA → True := fun _ => trivial
        have hmA := OA.out.2.1.isMap
        have hD : ∀ x ∈ [ml], x ∈ E' ∨ IsMap wA x := fun x hx => by rw [List.mem_singleton.1 hx]; exact Or.inr hmA
        obtain ⟨h1, h2, h3, h4, h5, h6, h7⟩ := H8
        have g1 := h1.only OA.out.1 (by simp)
        have g6 := h6.only OA.out.1 (by simp)
        refine ⟨hlw, hne, g1.only oC (by simpa using isMap_ne g1 hmA), (h2.only OA.out.1 (by simp)).only oC (by simpa using fun q => hne q.symm), (h3.only OA.out.1 (by simp)).only oC hD, ⟨M, hM, by rw [fin4_start]; exact hP⟩, (h4.keep OA.out.1).only oC hD, ⟨⟨none, 0, rfl, Nat.le_refl _, fun j hj => by simp at hj⟩, fun n c e => by injection e with _ _ e; exact e.symm, fun a n c e => by cases e⟩, fun e he => Nat.lt_of_lt_of_le (Nat.lt_of_lt_of_le (h5 e he) OA.out.1.size) oC.size, g6.only oC (by simpa using isMap_ne g6 hmA), (h7.trans (OA.out.1.mono (by simp))).then oC (fun b hb => by rw [List.mem_singleton.1 hb]; exact Or.inr hlw)⟩
      refine wpAnyH_ready (rs := [1, 5]) (by kernel_rfl) (by simp) ?_
      refine AllReadyH.cons rfl (fun K hK => ?_) (AllReadyH.cons rfl (fun K hK => ?_) AllReadyH.nil)
      · obtain ⟨wB, hr1, hm1, t1⟩ := OA.out.2.1.store Try.underlying58 (by decide) (x := (0, .slice none 0 0)) HI64.out.2 (by simp)
        simp only at hr1
        obtain ⟨wC, hr2, hm2, t2⟩ := hm1.store Try.underlying58 (by simp [maxLen]) (x := (p.st, v)) HI64.out.1 (by simp; exact HST0.out)
        simp only at hr2
        have HF9 : Hid (w.heap.size ≤ ml ∧ ml ≠ yv ∧ R4 E' w y yv vg J nw p.st kp p vb ml v (.slice none 0 0) T (fun i => decide (i ∈ (mpJ J).map Prod.fst)) wC) := HEND.out wB wC _ hm2 (List.Perm.refl _) t1 t2
        have HB9 : Hid (wB.cell? ⟨kp, 0, none⟩ = some (.int .i64 (p.st))) := by
          have g6 := H8.out.2.2.2.2.2.1.only OA.out.1 (by simp)
          have oB : Only [ml] wA wB := (Only.refl [ml] wA).grown t1.grown (fun k hk => by injection hk with hk; exact Or.inl (by simp [hk]))
          exact (g6.only oB (by simpa using isMap_ne g6 OA.out.2.1.isMap)).cells.1
        clear hm1 hm2 t1 t2
        first | (with_reducible refine iteYes ?hcx ?htx; case hcx => kernel_rfl) | rw [if_pos (by rfl)]
        simp only [List.getElem_toArray, List.getElem_cons_succ, List.getElem_cons_zero]
        go_simp
        refine hK.out _ _ ?_ (fun hHx2 => ?_)
        · exact HB9.out
        clear hK K hr1
        try simp only [Act.put, List.setIfInBounds_toArray, List.set_cons_zero, List.set_cons_succ, List.getElem_toArray, List.getElem_cons_succ, List.getElem_cons_zero]
        refine wpAnyH_ready (rs := [5]) (by kernel_rfl) (by simp) ?_
        refine AllReadyH.cons rfl (fun K hK => ?_) AllReadyH.nil
        first | (with_reducible refine iteYes ?hcx ?htx; case hcx => kernel_rfl) | rw [if_pos (by rfl)]
        simp only [List.getElem_toArray, List.getElem_cons_succ, List.getElem_cons_zero]
        go_simp
        refine hK.out _ _ ?_ (fun hHx3 => ?_)
        · exact HF9.out.2.2.pw.cells.1
        clear hK K hr2
        try simp only [Act.put, List.setIfInBounds_toArray, List.set_cons_zero, List.set_cons_succ, List.getElem_toArray, List.getElem_cons_succ, List.getElem_cons_zero]
        refine tkW 6 rfl ?_; refine tkW 7 rfl ?_
        try simp only [Act.put, List.setIfInBounds_toArray, List.set_cons_zero, List.set_cons_succ, List.getElem_toArray, List.getElem_cons_succ, List.getElem_cons_zero]
        refine wpAnyH_done (by kernel_rfl) ?_ _
        go_wp2_with fail
        go_meet
        case rel => exact ⟨ml, rfl, HF9⟩
      · obtain ⟨wB, hr1, hm1, t1⟩ := OA.out.2.1.store Try.underlying58 (by decide) (x := (p.st, v)) HI64.out.1 (by simp)
        simp only at hr1
        obtain ⟨wC, hr2, hm2, t2⟩ := hm1.store Try.underlying58 (by simp [maxLen]) (x := (0, .slice none 0 0)) HI64.out.2 (by simp; exact fun q => HST0.out q.symm)
        simp only at hr2
        have HF9 : Hid (w.heap.size ≤ ml ∧ ml ≠ yv ∧ R4 E' w y yv vg J nw p.st kp p vb ml v (.slice none 0 0) T (fun i => decide (i ∈ (mpJ J).map Prod.fst)) wC) := HEND.out wB wC _ hm2 (List.Perm.swap _ _ _) t1 t2
        have HB9 : Hid (wB.cell? ⟨kp, 0, none⟩ = some (.int .i64 (p.st))) := by
          have g6 := H8.out.2.2.2.2.2.1.only OA.out.1 (by simp)
          have oB : Only [ml] wA wB := (Only.refl [ml] wA).grown t1.grown (fun k hk => by injection hk with hk; exact Or.inl (by simp [hk]))
          exact (g6.only oB (by simpa using isMap_ne g6 OA.out.2.1.isMap)).cells.1
        clear hm1 hm2 t1 t2
        first | (with_reducible refine iteYes ?hcx ?htx; case hcx => kernel_rfl) | rw [if_pos (by rfl)]
        simp only [List.getElem_toArray, List.getElem_cons_succ, List.getElem_cons_zero]
        go_simp
        refine hK.out _ _ ?_ (fun hHx2 => ?_)
        · exact HB9.out
        clear hK K hr1
        try simp only [Act.put, List.setIfInBounds_toArray, List.set_cons_zero, List.set_cons_succ, List.getElem_toArray, List.getElem_cons_succ, List.getElem_cons_zero]
        refine wpAnyH_ready (rs := [1]) (by kernel_rfl) (by simp) ?_
        refine AllReadyH.cons rfl (fun K hK => ?_) AllReadyH.nil
        first | (with_reducible refine iteYes ?hcx ?htx; case hcx => kernel_rfl) | rw [if_pos (by rfl)]
        simp only [List.getElem_toArray, List.getElem_cons_succ, List.getElem_cons_zero]
        go_simp
        refine hK.out _ _ ?_ (fun hHx3 => ?_)
        · exact HF9.out.2.2.pw.cells.1
        clear hK K hr2
        try simp only [Act.put, List.setIfInBounds_toArray, List.set_cons_zero, List.set_cons_succ, List.getElem_toArray, List.getElem_cons_succ, List.getElem_cons_zero]
        refine tkW 6 rfl ?_; refine tkW 7 rfl ?_
        try simp only [Act.put, List.setIfInBounds_toArray, List.set_cons_zero, List.set_cons_succ, List.getElem_toArray, List.getElem_cons_succ, List.getElem_cons_zero]
        refine wpAnyH_done (by kernel_rfl) ?_ _
        go_wp2_with fail
        go_meet
        case rel => exact ⟨ml, rfl, HF9⟩
    case rest =>
      obtain ⟨ml, rfl, H9⟩ := hcut
      generalize wc = w9 at H9 ⊢
      clear H8 H7
      obtain ⟨z0, z1, z2⟩ := H9.out.2.2.cl.cells
      obtain ⟨wr0, hr, hrg, hg0, hs0⟩ := H9.out.2.2.vm.range Try.underlying58
      have H10 : Hid (RngV wr0 yv w9.heap.size (mpJ J) (fun i => decide (i ∈ (mpJ J).map Prod.fst)) (mpJ J).length ∧ R4 E' w y yv vg J nw p.st kp p vb ml v (.slice none 0 0) T (fun i => decide (i ∈ (mpJ J).map Prod.fst)) wr0) := ⟨hrg, H9.out.2.2.keep ((Only.refl [] w9).grown hg0 (fun k hk => by cases hk))⟩
      have HRN : Hid (w9.heap.size ≠ yv ∧ w9.heap.size ≠ ml ∧ w.heap.size ≤ w9.heap.size) := ⟨fun q => by have := H9.out.2.2.vm.lt; omega, fun q => by obtain ⟨M, hM, _⟩ := H9.out.2.2.lm; have := hM.lt; omega, H9.out.2.2.on.size⟩
      have HML : Hid (w.heap.size ≤ ml ∧ ml ≠ yv) := ⟨H9.out.1, H9.out.2.1⟩
      clear hrg hg0 hs0 z1 z2
      have HND : Hid (((mpJ J).map Prod.fst).Nodup) := HB.out.1.vm.nodup
      go_wp2_with fail
      clear hr z0 H9
      generalize w9.heap.size = rr at *
      obtain ⟨Lv, hLv⟩ : ∃ Lv, mpJ J = Lv := ⟨_, rfl⟩
      rw [hLv] at H10 HND HJK
      have HLV : Hid (mpJ J = Lv) := hLv
      clear hLv
      go_loopg [17] Lv.length (fun k s17 wr => ∃ left v0, Hid (RngV wr yv rr Lv left k) ∧ Hid (R4 E' w y yv vg J nw p.st kp p vb ml v v0 T left wr))
      case atStart => exact ⟨_, _, H10.out.1, H10.out.2⟩
      case round =>
        obtain ⟨left, v0, HRG, HR4⟩ := hrel
        clear H10
        go_wp2_with (first | (at_next; refine wpList_nextV rfl _ rfl yv rr Lv left _ rfl HRG.out ?_ ?_))
        · intro hend
          have HE : Hid (∀ x ∈ Lv, left x.1 = false) := fun x hx => hend x.1 x.2 hx
          clear hend
          obtain ⟨M, hM, hP⟩ := HR4.out.lm
          rw [HLV.out] at hP
          have HLEN : Hid (((0, v0) :: fin4 left p.st Lv).length + 1 < maxLen) := by
            have h1 : (fin4 left p.st Lv).length ≤ Lv.length := List.length_filter_le _ _
            have h2 := HJK.out
            show _ < _
            simp only [List.length_cons, maxLen]
            omega
          obtain ⟨wE, hrE, hmE, tE⟩ := (hM.perm hP).over Try.underlying58 HLEN.out (y := (p.st, v)) HI64.out.1 rfl
          simp only at hrE
          have oE : Only [ml] wr wE := (Only.refl [ml] wr).grown tE.grown (fun k hk => by injection hk with hk; exact Or.inl (by simp [hk]))
          have H11 : Hid (R4 E' w y yv vg J nw p.st kp p vb ml v v0 T left wE) := HR4.out.turn oE hM.isMap HML.out.2 HML.out.1 ⟨_, hmE, by rw [HLV.out]⟩ (HR4.out.s0.only oE (fun x hx => by rw [List.mem_singleton.1 hx]; exact Or.inr hM.isMap))
          have HME : Hid (MapV wE (some ml) ((p.st, v) :: (0, v0) :: fin4 left p.st Lv)) := hmE
          obtain ⟨p0, _⟩ := HR4.out.pw.cells
          obtain ⟨z0, z1, z2⟩ := H11.out.cl.cells
          have f0 := H11.out.cl.free 0
          clear hM hP hmE tE oE
          go_wp2_with fail
          have oF := only_one (y := y) wE 0 (.map (some ml))
          have hDF : ∀ d ∈ [y], d ∈ E' ∨ IsMap wE d := fun d hd => Or.inl (by rw [List.mem_singleton.1 hd]; exact HYE.out)
          have hmly : ml ≠ y := fun q => isMap_ne H11.out.cl HME.out.isMap q.symm
          have hb : becC ora (vwJ J) p.st p.ba A = some (vwJ ((p.st, v, T) :: endJ v0 p.st J)) := by
            unfold becC
            rw [HF.out.2.2, Option.bind_some, HV.out.2.2, Option.map_some]
            show some ((p.st, T) :: keepC 32 (vwJ J) p.st) = some ((p.st, T) :: vwJ (endJ v0 p.st J))
            rw [endJ_vw HB.out.2.1]
            rfl
          have h1 := HFE.out
          have h2 := HOK.out
          rw [hb] at h1
          rw [h1] at h2
          have hmap : MapV (wE.setCell ⟨y, 0, none⟩ (.map (some ml))) (some ml) (mpJ ((p.st, v, T) :: endJ v0 p.st J)) := by
            refine (HME.out.perm ?_).only oF (by simpa using hmly)
            refine List.Perm.cons _ ?_
            have hn := HND.out
            have hl := HE.out
            rw [← HLV.out] at hl hn ⊢
            rw [keys_mp] at hn
            exact endJ_mp hn (by have := HB.out.1.ok.zero; unfold stC at this; rw [keys_vw] at this; exact this) (fun e he => (HB.out.1.vo.key e he).1) hl
          have hvo : ∀ e ∈ (p.st, v, T) :: endJ v0 p.st J, SvE (wE.setCell ⟨y, 0, none⟩ (.map (some ml))) E' e.2.1 e.2.2 ∧ e.2.2.length ≤ 121 ∧ 0 ≤ e.1 ∧ e.1 ≤ p.st := by
            intro e he
            have hs := HPK.out.st1
            rcases List.mem_cons.1 he with rfl | he
            · exact ⟨H11.out.sv.only oF hDF, HV.out.2.1, by show 0 ≤ p.st; omega, Int.le_refl _⟩
            · rcases endJ_mem he with rfl | ⟨he, _⟩
              · exact ⟨H11.out.s0.only oF hDF, by simp, Int.le_refl _, by show 0 ≤ p.st; omega⟩
              · exact ⟨(H11.out.vo.at_ e he).only oF hDF, H11.out.vo.few e he, (H11.out.vo.key e he).1, by have := (H11.out.vo.key e he).2; have h3 := HNW.out; omega⟩
          refine bodyPost_ret (v := .bool true) (by simp [results, Try.results20, go_sem]) rfl ⟨H11.out.on.trans (oF.mono (by simp)), true, E', ml, .slice none 0 0, (p.st, v, T) :: endJ v0 p.st J, p.st, [], rfl, ⟨H11.out.cl.put0 ml, hmap, ⟨fun e he => (hvo e he).1, fun e he => (hvo e he).2.1, fun e he => (hvo e he).2.2, by have := HPK.out.st1; omega, HPK.out.st2⟩, World.ownsRow_nil _ _ _ _, fun b hb => (by cases hb), by simp, by simp, fun e he => Nat.lt_of_lt_of_le (H11.out.lt e he) oF.size, HYE.out, fun q => (by cases q), h2⟩, H6.out.inc, H6.out.new, Or.inr HML.out.1, fun b hb => (by cases hb), ?_, ?_, h1.symm⟩
          · have := List.length_filter_le (fun e : Int × Value × List Sn => stayB p.st e.1) J
            simp only [List.length_cons, endJ, List.length_map]
            omega
          · intro e he e0
            rcases List.mem_cons.1 he with rfl | he
            · exact absurd e0 HST0.out
            · rcases endJ_mem he with rfl | ⟨_, h3⟩
              · rfl
              · exact absurd e0 h3
        · intro i x w1 cnt1 hin hlt hi hrg hcnt hgr hsz hen
          have o1 : Only [rr] wr w1 := (Only.refl [rr] wr).grown hgr (fun k hk => by injection hk with hk; exact Or.inl (by simp [hk]))
          have H11 : Hid ((i, x) ∈ Lv ∧ left i = true ∧ In64V i ∧ RngV w1 yv rr Lv (fun j => left j && j != i) cnt1 ∧ cnt1 < gk ∧ R4 E' w y yv vg J nw p.st kp p vb ml v v0 T left w1) := ⟨hin, hlt, hi, hrg, hcnt, by
            obtain ⟨M, hM, hP⟩ := HR4.out.lm
            exact HR4.out.turn o1 HRG.out.isMap HRN.out.1 HRN.out.2.2 ⟨M, hM.only o1 (by simpa using fun q => HRN.out.2.1 q.symm), hP⟩ (HR4.out.s0.only o1 (fun x hx => by rw [List.mem_singleton.1 hx]; exact Or.inr HRG.out.isMap))⟩
          clear hin hlt hi hrg hcnt hgr hsz o1
          obtain ⟨p0, _⟩ := H11.out.2.2.2.2.2.pw.cells
          have hs1 := HPK.out.st1
          have hs2 := HPK.out.st2
          obtain ⟨M, hM, hP⟩ := H11.out.2.2.2.2.2.lm
          rw [HLV.out] at hP
          have hl1 : (fin4 left p.st Lv).length ≤ Lv.length := List.length_filter_le _ _
          have hl2 := HJK.out
          have hMm := hM.isMap
          have HX : Hid (i = 0 → ∀ w', Only [ml] w1 w' → SvE w' E' x []) := fun h0 w' o => by
            have h1 := H11.out.1
            rw [← HLV.out] at h1
            obtain ⟨e, he, h2⟩ := List.mem_map.1 h1
            injection h2 with h2 h3
            have h4 := H11.out.2.2.2.2.2.vo.at_ e he
            rw [HB.out.2.1 e he (h2.trans h0), h3] at h4
            exact h4.only o (fun d hd => by rw [List.mem_singleton.1 hd]; exact Or.inr hMm)
          have HD : Hid (∀ x ∈ [ml], x ∈ E' ∨ IsMap w1 x) := fun d hd => by rw [List.mem_singleton.1 hd]; exact Or.inr hMm
          by_cases h1 : i > p.st - 32
          · have d1 : decide (i > p.st - 32) = true := decide_eq_true h1
            by_cases h0 : i = 0
            · obtain ⟨wB, hrB, hmB, tB⟩ := (hM.perm (hP.trans (List.Perm.swap _ _ _))).over Try.underlying58 (by simp only [List.length_cons, maxLen]; omega) (y := (i, x)) H11.out.2.2.1 h0
              simp only at hrB
              have oB : Only [ml] w1 wB := (Only.refl [ml] w1).grown tB.grown (fun k hk => by injection hk with hk; exact Or.inl (by simp [hk]))
              have H12 : Hid (RngV wB yv rr Lv (fun j => left j && j != i) cnt1 ∧ R4 E' w y yv vg J nw p.st kp p vb ml v x T (fun j => left j && j != i) wB) := ⟨H11.out.2.2.2.1.kept tB.grown (by simpa using fun q => HML.out.2 q.symm) (by simpa using HRN.out.2.1), H11.out.2.2.2.2.2.turn oB hMm HML.out.2 HML.out.1 ⟨_, hmB, by rw [HLV.out, fin4_skip (Or.inl h0), h0]; exact List.Perm.swap _ _ _⟩ (HX.out h0 wB oB)⟩
              clear hM hP hmB tB oB hl1 hl2 hMm h0
              go_wp2_with fail
              go_roundg cnt1
              case measure => exact H11.out.2.2.2.2.1
              case rel => exact ⟨_, _, H12.out.1, H12.out.2⟩
            · have hnk : i ∉ M.map Prod.fst := by
                rw [perm_keys hP]
                intro q
                simp only [List.map_cons, List.mem_cons] at q
                rcases q with q | q | q
                · have h3 := H11.out.1
                  rw [← HLV.out] at h3
                  obtain ⟨e, he, h4⟩ := List.mem_map.1 h3
                  injection h4 with h4 _
                  have h5 := (HB.out.1.vo.key e he).2
                  have h6 := HNW.out
                  omega
                · exact h0 q
                · obtain ⟨e, he, h4⟩ := List.mem_map.1 q
                  have h5 := (List.mem_filter.1 he).2
                  rw [h4, H11.out.2.1] at h5
                  simp at h5
              have hml : M.length < maxLen := by
                have := hP.length_eq
                simp only [List.length_cons] at this
                simp only [maxLen]
                omega
              obtain ⟨wB, hrB, hmB, tB⟩ := hM.store Try.underlying58 hml (x := (i, x)) H11.out.2.2.1 hnk
              simp only at hrB
              have oB : Only [ml] w1 wB := (Only.refl [ml] w1).grown tB.grown (fun k hk => by injection hk with hk; exact Or.inl (by simp [hk]))
              have hperm : ((i, x) :: M).Perm ((p.st, v) :: (0, v0) :: fin4 (fun j => left j && j != i) p.st Lv) := (hP.cons (i, x)).trans ((List.Perm.swap _ _ _).trans (((List.Perm.swap _ _ _).trans (((fin4_add HND.out H11.out.1 H11.out.2.1 h0 h1).symm).cons (0, v0))).cons (p.st, v)))
              have H12 : Hid (RngV wB yv rr Lv (fun j => left j && j != i) cnt1 ∧ R4 E' w y yv vg J nw p.st kp p vb ml v v0 T (fun j => left j && j != i) wB) := ⟨H11.out.2.2.2.1.kept tB.grown (by simpa using fun q => HML.out.2 q.symm) (by simpa using HRN.out.2.1), H11.out.2.2.2.2.2.turn oB hMm HML.out.2 HML.out.1 ⟨_, hmB, by rw [HLV.out]; exact hperm⟩ (H11.out.2.2.2.2.2.s0.only oB HD.out)⟩
              clear hM hP hmB tB oB hl1 hl2 hMm h0 hnk hml hperm
              go_wp2_with fail
              go_roundg cnt1
              case measure => exact H11.out.2.2.2.2.1
              case rel => exact ⟨_, _, H12.out.1, H12.out.2⟩
          · have d1 : decide (i > p.st - 32) = false := decide_eq_false h1
            have H12 : Hid (R4 E' w y yv vg J nw p.st kp p vb ml v v0 T (fun j => left j && j != i) w1) := by
              have h4 := H11.out.2.2.2.2.2
              exact ⟨h4.cl, h4.vm, h4.vo, ⟨M, hM, by rw [HLV.out, fin4_skip (Or.inr h1)]; exact hP⟩, h4.sv, h4.s0, h4.lt, h4.pw, h4.on⟩
            clear hM hP hl1 hl2 hMm h1
            go_wp2_with fail
            go_roundg cnt1
            case measure => exact H11.out.2.2.2.2.1
            case rel => exact ⟨_, _, H11.out.2.2.2.1, H12⟩
end Go.Proofs.Ytedhdmahdioboaa
/- gyreref.Client.Feed: the bytes of all pieces, and their base. -/
namespace Go.Proofs.Ytedhdmahdioboaa
open Go.ChangeShapes Go.WideShapes Go.ChangeAt Go.RowKit
set_option linter.unusedVariables false
set_option linter.unusedSimpArgs false
variable {ora : Ora}

def code17 (f : Func) : Code := ((f.body.bind (sufOf 17)).getD .skip)
/-- The bytes of all of smaller indices, and of the first j of this one. -/
def joinJ (l : List Gt) (i j : Nat) : List Nat := joinC l i ++ ((l.take j).filter fun q => q.ix == (i : Int)).flatMap Gt.by_
theorem joinJ_zero (l : List Gt) (i : Nat) : joinJ l i 0 = joinC l i := by simp [joinJ]
theorem joinJ_end (l : List Gt) (i : Nat) : joinJ l i l.length = joinC l (i + 1) := by simp [joinJ, joinC]
theorem joinJ_yes {l : List Gt} {i j : Nat} (hj : j < l.length) (h : l[j].ix = (i : Int)) : joinJ l i (j + 1) = joinJ l i j ++ l[j].by_ := by
  unfold joinJ
  rw [List.take_succ_eq_append_getElem hj, List.filter_append, List.flatMap_append, List.append_assoc]
  simp [h]
theorem joinJ_no {l : List Gt} {i j : Nat} (hj : j < l.length) (h : l[j].ix ≠ (i : Int)) : joinJ l i (j + 1) = joinJ l i j := by
  unfold joinJ
  rw [List.take_succ_eq_append_getElem hj, List.filter_append, List.flatMap_append]
  simp [h]
theorem joinJ_len (l : List Gt) (i j : Nat) : (joinJ l i j).length ≤ (joinC l (i + 1)).length := by
  have : joinC l (i + 1) = joinJ l i j ++ ((l.drop j).filter fun q => q.ix == (i : Int)).flatMap Gt.by_ := by
    unfold joinJ
    rw [joinC, List.append_assoc, ← List.flatMap_append, ← List.filter_append, List.take_append_drop]
  rw [this, List.length_append]
  omega
set_option maxRecDepth 1000000 in
set_option maxHeartbeats 0 in
theorem feed_17 (E E' : List Nat) (y yv : Nat) (vg : Value) (J : Vl) (nw : Int) (KL : Kl) (L : List Nat) (w : World) (kp : Nat) (p : Gt) (vb : Value) (K' : Kl) (a3 : Option Addr) (n9 cc9 : Nat) (w6 : World) (c1 c2 c3 c4 c6 c7 c8 c9 c10 c11 c12 c13 c14 c15 c16 c17 c18 c19 c20 c21 c22 c23 c24 c25 c26 c27 c28 c29 c30 c31 c32 c33 c34 c35 c36 c37 c38 c39 c40 c41 c42 c43 c44 c45 c46 c47 c48 c49 c50 c51 c52 c53 c54 c55 c56 c57 c58 c59 c60 c61 c62 c63 c64 c65 c66 c67 c68 c69 c70 c71 c72 c73 c74 c75 c76 c77 c78 c79 c80 c81 c82 c83 c84 c85 c86 c87 c88 c89 c90 c91 c92 c93 c94 c95 c96 c97 c98 c99 c100 c101 c102 c103 c104 c105 c106 c107 c108 c109 c110 c111 c112 c113 c114 c115 c116 c117 c118 c119 c120 c121 c122 c123 c124 c125 c126 c127 c128 c129 c130 c131 c132 c133 c134 c135 c136 c137 c138 c139 c140 c141 c142 c143 c144 c145 c146 c147 c148 c149 c150 c151 c152 c153 c154 c155 c156 c157 c158 c159 c160 c161 c162 c163 c164 c165 c166 c167 c168 c169 c170 c171 c172 c173 c174 c175 c176 c177 c178 c179 c180 c181 c182 c183 c184 c185 c186 c187 c188 c189 c190 c191 c192 c193 c194 c195 c196 c197 c198 c199 c200 c201 c202 c203 : Value)
    (HB : Hid (RCA E w y yv vg J nw KL ∧ (∀ e ∈ J, e.1 = 0 → e.2.2 = []) ∧ J.length ≤ 1000)) (HPK : Hid (GtOk p)) (HNW : Hid (nw < p.st)) (HN9 : Hid (K'.length = n9 ∧ n9 ≤ 1001)) (H6 : Hid (R2 E E' w y yv vg J nw kp p vb K' (.slice a3 n9 cc9) w6)) (HND : Hid ((gtK K').map Gt.ix).Nodup)
    (HFE : Hid (feedL ora (stC J nw KL) L = match becC ora (vwJ J) p.st p.ba (joinC (gtK K') p.mn.toNat) with
      | none => (false, stC J nw [])
      | some V => (true, ⟨V, p.st, []⟩))) (HOK : Hid (CstOk 32 (feedL ora (stC J nw KL) L).2)) :
    Code.wp Try.prog (code17 Try.f20) (bodyPost Try.prog Try.f20 (RFeedPost ora E y yv vg J nw KL L w)) ⟨#[.pointer (some ⟨y, 0, none⟩), c1, c2, c3, c4, .pointer (some ⟨kp, 0, none⟩), c6, c7, c8, c9, c10, c11, c12, c13, c14, c15, c16, c17, c18, c19, c20, c21, c22, c23, c24, c25, c26, c27, c28, c29, c30, c31, c32, c33, c34, c35, c36, c37, c38, c39, c40, c41, c42, c43, c44, c45, c46, c47, c48, c49, c50, c51, c52, c53, c54, c55, c56, c57, c58, c59, c60, c61, c62, c63, c64, c65, c66, c67, c68, c69, c70, c71, c72, c73, c74, c75, c76, c77, c78, c79, c80, c81, c82, c83, c84, c85, c86, c87, c88, c89, c90, c91, c92, c93, c94, c95, c96, c97, c98, c99, c100, c101, c102, c103, c104, c105, c106, c107, c108, c109, c110, c111, c112, c113, c114, c115, c116, c117, c118, c119, c120, c121, c122, c123, c124, c125, c126, c127, c128, c129, c130, c131, c132, c133, c134, c135, c136, c137, c138, c139, c140, c141, c142, c143, c144, c145, c146, c147, c148, c149, c150, c151, c152, c153, c154, c155, c156, c157, c158, c159, c160, c161, c162, c163, c164, c165, c166, c167, c168, c169, c170, c171, c172, c173, c174, c175, c176, c177, c178, c179, c180, c181, c182, c183, c184, c185, c186, c187, c188, c189, c190, c191, c192, c193, c194, c195, c196, c197, c198, c199, c200, c201, c202, c203], []⟩ w6 := by
  obtain ⟨M, hM⟩ : ∃ M : Nat, p.mn = (M : Int) := ⟨p.mn.toNat, by have := HPK.out.mn1; omega⟩
  have hn9 := HN9.out.2
  have hM40 : M ≤ 40 := by have := HPK.out.mn2; omega
  have HMN : Hid (p.mn.toNat = M) := by show _ = M; rw [hM]; rfl
  obtain ⟨p0, p1, p2, p3, p4⟩ := H6.out.pw.cells
  rw [hM] at p3
  have hlen : ∀ n, (joinC (gtK K') n).length ≤ 100 * n := join_len HND.out (fun q hq => by obtain ⟨e, he, rfl⟩ := List.mem_map.1 hq; exact (H6.out.pk e he).len)
  have HLEN : Hid (∀ n, (joinC (gtK K') n).length ≤ 100 * n) := hlen
  clear hM hlen p0 p1 p2 p4
  conv => arg 2; whnf
  go_wp2_with fail
  clear p3
  go_loopg [9, 123] M (fun k s9 s123 wr => ∃ (i : Nat) (v : Value), v = s9 ∧ s123 = .int .i64 (i : Int) ∧ Hid (i ≤ M ∧ k = M - i) ∧ Hid (wr.ownsRow w6.heap.size 5 1 v (joinC (gtK K') i).length (byV (joinC (gtK K') i)) ∧ Only [] w6 wr))
  case atStart => exact ⟨0, _, rfl, rfl, ⟨by omega, rfl⟩, ⟨World.ownsRow_nil _ _ _ _, Only.refl _ _⟩⟩
  case round =>
    obtain ⟨i, v, rfl, rfl, HI, HR⟩ := hrel
    by_cases hi : i < M
    · have hil : (i : Int) < (M : Int) := by omega
      obtain ⟨z0, z1, z2⟩ := (H6.out.keep HR.out.2).cl.cells
      go_wp2_with fail
      clear z0 z1 z2
      go_loopg [9, 131] n9 (fun k s9 s131 wq => ∃ (j : Nat) (u : Value), u = s9 ∧ s131 = .int .i64 (j : Int) ∧ Hid (j ≤ n9 ∧ k = n9 - j) ∧ Hid (wq.ownsRow w6.heap.size 5 1 u (joinJ (gtK K') i j).length (byV (joinJ (gtK K') i j)) ∧ Only [] w6 wq))
      case atStart => exact ⟨0, _, rfl, rfl, ⟨by omega, rfl⟩, by show _ ∧ _; rw [joinJ_zero]; exact HR.out⟩
      case round =>
        obtain ⟨j, u, rfl, rfl, HJ, HQ⟩ := hrel
        have HRQ : Hid (R2 E E' w y yv vg J nw kp p vb K' (.slice a3 n9 cc9) wr) := H6.out.keep HQ.out.2
        by_cases hj : j < n9
        · have hjl : (j : Int) < (n9 : Int) := by omega
          have hjk : j < K'.length := by rw [HN9.out.1]; exact hj
          obtain ⟨g, hag⟩ : ∃ g, a3 = some ⟨g, 0, none⟩ := by
            obtain ⟨_, ⟨_, h0⟩ | ⟨g, cap, cur, e, _⟩⟩ := HRQ.out.gr
            · omega
            · injection e with e _ _
              exact ⟨g, e⟩
          have hgr := HRQ.out.gr
          rw [hag, ← HN9.out.1] at hgr
          obtain ⟨z0, z1, z2, z3, z4⟩ := got_cells hgr hjk
          have hpj := HRQ.out.ps _ (List.getElem_mem hjk)
          have hpk := HRQ.out.pk _ (List.getElem_mem hjk)
          have hgt : (gtK K')[j]? = some K'[j].1 := by simp [gtK, List.getElem?_eq_getElem hjk]
          obtain ⟨e, he⟩ : ∃ e, K'[j] = e := ⟨_, rfl⟩
          rw [he] at z0 z1 z2 z3 z4 hpj hpk hgt
          obtain ⟨a2, d2, he2, hby, hnil, _⟩ := hpj
          rw [he2] at z4
          have HE : Hid ((gtK K')[j]? = some e.1 ∧ j < (gtK K').length ∧ e.1.by_.length ≤ 100) := ⟨hgt, by simpa [gtK] using hjk, hpk.len⟩
          have HBY : Hid (ByAt wr a2 e.1.by_ ∧ (a2 = none → e.1.by_ = [] ∧ d2 = 0)) := ⟨hby, hnil⟩
          subst hag
          clear hgr he he2 hby hnil hgt hpk hjk
          go_upto_region 24 with fail
          have H7 : Hid _ := PrAt.new wr e.1 (.slice a2 e.1.by_.length d2)
          clear z0 z1 z2 z3 z4
          revert H7
          generalize wr.heap.size = kq
          generalize World.alloc wr _ = w7
          intro H7
          obtain ⟨q0, q1, q2, q3, q4⟩ := H7.out.1.cells
          have HO7 : Hid (Only [] w6 w7) := HQ.out.2.trans H7.out.2
          have HOW : Hid (w7.ownsRow w6.heap.size 5 1 u (joinJ (gtK K') i j).length (byV (joinJ (gtK K') i j))) := ownS_far HQ.out.1 H7.out.2 (by simp)
          by_cases hx : e.1.ix = (i : Int)
          · have t1 : (e.1.ix == (i : Int)) = true := by simp [hx]
            have HJJ : Hid (joinJ (gtK K') i (j + 1) = joinJ (gtK K') i j ++ e.1.by_) := by
              have h1 := HE.out.1
              rw [List.getElem?_eq_getElem HE.out.2.1, Option.some.injEq] at h1
              have h2 := joinJ_yes (i := i) HE.out.2.1 (by rw [h1]; exact hx)
              rw [h1] at h2
              exact h2
            have hln : (joinJ (gtK K') i j).length + e.1.by_.length ≤ 1000000 := by
              have h1 := joinJ_len (gtK K') i j
              have h2 := HLEN.out (i + 1)
              have h3 := HE.out.2.2
              omega
            have hby7 : ByAt w7 a2 e.1.by_ := HBY.out.1.only H7.out.2 (by simp)
            have hnil7 := HBY.out.2
            have hsz : w6.heap.size ≤ w7.heap.size := HO7.out.size
            clear hx
            generalize joinJ (gtK K') i j = X at *
            go_wp2_with (first | (at_builtin; refine wpList_appendB rfl _ _ rfl w6.heap.size u _ _ rfl HOW.out a2 e.1.by_.length d2 e.1.by_ rfl rfl hby7 hnil7 hln hsz ?_; intro u2 w8 hown hgr8 _; have H8 : Hid (w8.ownsRow w6.heap.size 5 1 u2 (joinJ (gtK K') i (j + 1)).length (byV (joinJ (gtK K') i (j + 1))) ∧ Only [] w6 w8) := ⟨by rw [HJJ.out, List.length_append, ← byV_app]; exact hown, HO7.out.grown hgr8 (fun k hk => Or.inr (ownN_block HOW.out hk))⟩; clear hown hgr8 hby7 hnil7))
            go_roundg (n9 - (j + 1))
            case measure => have := HJ.out; omega
            case rel => exact ⟨j + 1, u2, rfl, by go_num, ⟨by omega, rfl⟩, H8⟩
          · have t1 : (e.1.ix == (i : Int)) = false := by simp [hx]
            have HJJ : Hid (joinJ (gtK K') i (j + 1) = joinJ (gtK K') i j) := by
              have h1 := HE.out.1
              rw [List.getElem?_eq_getElem HE.out.2.1, Option.some.injEq] at h1
              exact joinJ_no (i := i) HE.out.2.1 (by rw [h1]; exact hx)
            clear hx
            go_wp2_with fail
            go_roundg (n9 - (j + 1))
            case measure => have := HJ.out; omega
            case rel => exact ⟨j + 1, u, rfl, by go_num, ⟨by omega, rfl⟩, by show _ ∧ _; rw [HJJ.out]; exact ⟨HOW.out, HO7.out⟩⟩
        · have hjl : ¬ (j : Int) < (n9 : Int) := by omega
          have hjb : decide ((j : Int) < (n9 : Int)) = false := decide_eq_false hjl
          have HJE : Hid (joinJ (gtK K') i j = joinC (gtK K') (i + 1)) := by
            have h1 : j = (gtK K').length := by have h1 := HJ.out.1; have h2 := HN9.out.1; simp only [gtK, List.length_map]; omega
            show _ = _
            rw [h1]
            exact joinJ_end _ _
          go_wp2_with fail
          go_roundg (M - (i + 1))
          case measure => have := HI.out; omega
          case rel => exact ⟨i + 1, u, rfl, by go_num, ⟨by omega, rfl⟩, by show _ ∧ _; rw [← HJE.out]; exact HQ.out⟩
    · have hil : ¬ (i : Int) < (M : Int) := by omega
      have hib : decide ((i : Int) < (M : Int)) = false := decide_eq_false hil
      obtain rfl : i = M := by have := HI.out; omega
      obtain ⟨z0, z1, z2⟩ := (H6.out.keep HR.out.2).cl.cells
      have f2 := (H6.out.keep HR.out.2).cl.free 2
      go_upto_region 29 with fail
      have hyy : yv ≠ y := fun q => isMap_ne H6.out.cl H6.out.vm.isMap q.symm
      have hkpy : kp ≠ y := fun q => by have := HB.out.1.lt _ HB.out.1.yE; have h2 := H6.out.ke; omega
      have HYE : Hid (y ∈ E') := H6.out.inc _ HB.out.1.yE
      have hr := H6.out.keep HR.out.2
      have o7 := only_one (y := y) wr 2 (.slice none 0 0)
      have hD7 : ∀ d ∈ [y], d ∈ E' ∨ IsMap wr d := fun d hd => Or.inl (by rw [List.mem_singleton.1 hd]; exact HYE.out)
      have H7 : Hid (R3 E E' w y yv vg J nw kp p vb (wr.setCell ⟨y, 2, none⟩ (.slice none 0 0)) ∧ (wr.setCell ⟨y, 2, none⟩ (.slice none 0 0)).ownsRow w6.heap.size 5 1 v (joinC (gtK K') i).length (byV (joinC (gtK K') i))) :=
        ⟨⟨hr.cl.put2 _, hr.vm.only o7 (by simpa using hyy), hr.vo.only o7 hD7, fun e he => Nat.lt_of_lt_of_le (hr.lt e he) o7.size, hr.pw.only o7 (by simpa using hkpy), hr.ke, hr.on.trans (o7.mono (by simp)), hr.inc, hr.new⟩, ownS_far HR.out.1 o7 (fun k hk q => by have h1 := ownN_block HR.out.1 hk; rw [List.mem_singleton.1 q] at h1; have h2 := H6.out.cl.lt; omega)⟩
      clear z0 z1 z2 f2 hr o7 hD7 hkpy hyy
      generalize World.setCell wr _ _ = w7 at H7 ⊢
      obtain ⟨z0, z1, z2⟩ := H7.out.1.cl.cells
      obtain ⟨p0, p1, p2, p3, p4⟩ := H7.out.1.pw.cells
      obtain ⟨ab, cb, hv, hby, hnil⟩ := ownB_at H7.out.2
      have HV : Hid (v = .slice ab (joinC (gtK K') i).length cb) := hv
      have HA : Hid (ByAt w7 ab (joinC (gtK K') i) ∧ (ab = none → joinC (gtK K') i = [] ∧ cb = 0) ∧ (joinC (gtK K') i).length ≤ 4000 ∧ ∀ c ∈ joinC (gtK K') i, c < 256) := ⟨hby, hnil, by have := HLEN.out i; omega, join_small HND.out (fun q hq => by obtain ⟨e, he, rfl⟩ := List.mem_map.1 hq; exact (H6.out.pk e he).sml) i⟩
      have hwb : In64V p.ba := in64V_of (by have := HPK.out.ba1; omega) (by have := HPK.out.ba2; have h2 := HPK.out.st2; omega)
      clear hv hby hnil
      rw [HMN.out] at HFE
      by_cases hin : p.ba ∈ (mpJ J).map Prod.fst
      · rw [keys_mp] at hin
        obtain ⟨e, he, heb⟩ := List.mem_map.1 hin
        have HEJ : Hid (e ∈ J ∧ viewC (vwJ J) p.ba = some e.2.2) := ⟨he, by rw [← heb]; exact view_some H7.out.1.vm.nodup he⟩
        have hlk : ∀ n, _ := fun n => (H7.out.1.vm.only (only_drewN w7 n) (by simp)).look_some Try.underlying58 zeroSeens (x := (e.1, e.2.1)) (by simp only; rw [heb]; exact hwb) (List.mem_map_of_mem (f := fun e : Int × Value × List Sn => (e.1, e.2.1)) he)
        simp only [heb] at hlk
        clear hin hwb he heb
        obtain ⟨fv, hfv⟩ : ∃ fv, e.2.1 = fv := ⟨_, rfl⟩
        rw [hfv] at hlk
        have HFV : Hid (e.2.1 = fv) := hfv
        clear hfv
        go_quiet (fail)
        clear hlk z0 z1 z2 p0 p1 p2 p3 p4
        obtain ⟨w8, hw8⟩ : ∃ w8, w8 = w7.drewN nq := ⟨_, rfl⟩
        rw [← hw8]
        have o8 : Only [] w7 w8 := by rw [hw8]; exact only_drewN w7 nq
        have H8 : Hid (R3 E E' w y yv vg J nw kp p vb w8) := H7.out.1.keep o8
        have HA8 : Hid (ByAt w8 ab (joinC (gtK K') i) ∧ (ab = none → joinC (gtK K') i = [] ∧ cb = 0) ∧ (joinC (gtK K') i).length ≤ 4000 ∧ ∀ c ∈ joinC (gtK K') i, c < 256) := ⟨HA.out.1.only o8 (by simp), HA.out.2⟩
        have HF8 : Hid (SvE w8 E' fv e.2.2 ∧ e.2.2.length ≤ 121 ∧ viewC (vwJ J) p.ba = some e.2.2) := ⟨by have := H8.out.vo.at_ e HEJ.out.1; rw [HFV.out] at this; exact this, H8.out.vo.few e HEJ.out.1, HEJ.out.2⟩
        clear hw8 o8
        rw [HV.out]
        go_upto_if 159 with fail
        go_cut [5] from 160 (fun s5 wx => s5 = .pointer (some ⟨kp, 0, none⟩) ∧ Hid (w8 = wx))
        case first =>
          go_wp2_with fail
          go_meet
          case rel => exact ⟨rfl, rfl⟩
        case rest =>
          obtain ⟨rfl, HWX⟩ := hcut
          have hwx := HWX.out
          subst hwx
          refine (‹∀ (a : Act) (w_1 : World), Code.wp Try.prog _ (bodyPost Try.prog Try.f20 (RFeedPost ora E y yv vg J nw KL L w)) a w_1 → _›) _ _ ?_
          exact feed_32 E E' y yv vg J nw KL L w kp p vb w8 fv e.2.2 ab cb (joinC (gtK K') i) _ _ _ _ _ _ _ _ _ _ _ _ _ _ _ _ _ _ _ _ _ _ _ _ _ _ _ _ _ _ _ _ _ _ _ _ _ _ _ _ _ _ _ _ _ _ _ _ _ _ _ _ _ _ _ _ _ _ _ _ _ _ _ _ _ _ _ _ _ _ _ _ _ _ _ _ _ _ _ _ _ _ _ _ _ _ _ _ _ _ _ _ _ _ _ _ _ _ _ _ _ _ _ _ _ _ _ _ _ _ _ _ _ _ _ _ _ _ _ _ _ _ _ _ _ _ _ _ _ _ _ _ _ _ _ _ _ _ _ _ _ _ _ _ _ _ _ _ _ _ _ _ _ _ _ _ _ _ _ _ _ _ _ _ _ _ _ _ _ _ _ _ _ _ _ _ _ _ _ _ _ _ _ _ _ _ _ _ _ _ _ _ _ _ _ _ _ _ _ _ HB HPK HNW H8 HF8 HA8 HFE HOK
      · have hlk : ∀ n, _ := fun n => (H7.out.1.vm.only (only_drewN w7 n) (by simp)).look_none Try.underlying58 zeroSeens hwb hin
        have HN : Hid (becC ora (vwJ J) p.st p.ba (joinC (gtK K') i) = none) := by show _ = _; unfold becC; rw [view_none hin]; rfl
        clear hin hwb
        go_quiet (fail)
        go_wp2_with fail
        have h7 := H7.out.1.keep (only_drewN w7 nq)
        have h1 := HFE.out
        have h2 := HOK.out
        rw [HN.out] at h1
        rw [h1] at h2
        exact bodyPost_ret (v := .bool false) (by simp [results, Try.results20, go_sem]) rfl ⟨h7.on, false, E', yv, _, J, nw, [], rfl, ⟨h7.cl, h7.vm, h7.vo, World.ownsRow_nil _ _ _ _, fun b hb => (by cases hb), by simp, by simp, h7.lt, HYE.out, fun q => (by cases q), h2⟩, h7.inc, h7.new, Or.inl rfl, fun b hb => (by cases hb), by omega, HB.out.2.1, h1.symm⟩
end Go.Proofs.Ytedhdmahdioboaa
/- Calls in their order, and variables that are laid among them in whichever order: one goal instead of one an order. Plain laws over the library's own (OrdersHeld), no condition but those typed. -/
namespace Go.Proofs.Ytedhdmahdioboaa
open Go.ChangeShapes Go.WideShapes Go.ChangeAt Go.RowKit

/-- A call: its number, its slot, what it yields. -/
structure CS where
  (i d : Nat) (v : Value)
def ptrV (b : Nat) : Value := .pointer (some ⟨b, 0, none⟩)
def putCs (cs : List CS) (a : Act) : Act := cs.foldl (fun a c => a.put (some c.d) c.v) a
def putX (ps : List (Nat × Nat)) (xs : Nat → Value) (a : Act) : Act := ps.foldl (fun a p => a.put (some p.2) (xs p.2)) a
def setN (ns : List Nat) (l : Array Bool) : Array Bool := ns.foldl (fun l n => l.setIfInBounds n true) l
def readyAny (md : Region.Mode) (ops : Array Oper) : Nat → List CS → List (Nat × Nat) → Array Bool → Bool
  | 0, _, _, _ => true
  | k + 1, cs, ps, l => !(Region.ready md ops l).isEmpty && (Region.ready md ops l).all (fun i => (cs.head?.any (fun c => c.i == i)) || ps.any (fun p => p.1 == i)) &&
    (match cs with
      | [] => true
      | c :: cs' => readyAny md ops k cs' ps (l.setIfInBounds c.i true)) && ps.all (fun p => readyAny md ops k cs (ps.erase p) (l.setIfInBounds p.1 true))
theorem setN_perm {ns ms : List Nat} (h : ns.Perm ms) (l : Array Bool) : setN ns l = setN ms l :=
  h.foldl_eq' (fun x _ y _ z => by
    by_cases e : x = y
    · rw [e]
    · exact Array.setIfInBounds_comm _ _ e) l
theorem setN_more (ns : List Nat) (n : Nat) (l : Array Bool) : (setN ns l).setIfInBounds n true = setN (ns ++ [n]) l := by unfold setN; rw [List.foldl_append]; rfl
theorem put_put (a : Act) (d : Nat) (u v : Value) : (a.put (some d) u).put (some d) v = a.put (some d) v := by simp [Act.put]
theorem put_far (a : Act) {d e : Nat} (u v : Value) (h : d ≠ e) : (a.put (some d) u).put (some e) v = (a.put (some e) v).put (some d) u :=
  Act.put_comm a u v (fun x hx hy => h (by injection hx with hx; injection hy with hy; rw [hx, hy]))
theorem putX_far : ∀ (ps : List (Nat × Nat)) (xs : Nat → Value) (a : Act) (d : Nat) (v : Value), d ∉ ps.map (·.2) → (putX ps xs a).put (some d) v = putX ps xs (a.put (some d) v)
  | [], _, _, _, _, _ => rfl
  | p :: ps, xs, a, d, v, h => by
    simp only [List.map_cons, List.mem_cons, not_or] at h
    show (putX ps xs (a.put (some p.2) (xs p.2))).put (some d) v = putX ps xs ((a.put (some d) v).put (some p.2) (xs p.2))
    rw [putX_far ps xs _ d v h.2, put_far _ _ _ (fun e => h.1 e.symm)]
theorem putX_congr : ∀ (ps : List (Nat × Nat)) {xs ys : Nat → Value} (a : Act), (∀ p ∈ ps, xs p.2 = ys p.2) → putX ps xs a = putX ps ys a
  | [], _, _, _, _ => rfl
  | p :: ps, xs, ys, a, h => by
    show putX ps xs (a.put (some p.2) (xs p.2)) = putX ps ys (a.put (some p.2) (ys p.2))
    rw [h p (by simp), putX_congr ps _ (fun q hq => h q (List.mem_cons_of_mem _ hq))]
theorem putX_cons (p : Nat × Nat) (ps : List (Nat × Nat)) (xs : Nat → Value) (a : Act) : putX (p :: ps) xs a = putX ps xs (a.put (some p.2) (xs p.2)) := rfl
theorem putX_in : ∀ (ps : List (Nat × Nat)) (xs : Nat → Value) (a : Act) (d : Nat) (v : Value), (ps.map (·.2)).Nodup → d ∈ ps.map (·.2) → (putX ps xs a).put (some d) v = putX ps (fun e => if e = d then v else xs e) a
  | [], _, _, _, _, _, h => by simp at h
  | p :: ps, xs, a, d, v, hn, h => by
    simp only [List.map_cons, List.nodup_cons, List.mem_cons] at hn h
    by_cases e : d = p.2
    · subst e
      rw [putX_cons, putX_cons, putX_far ps xs _ _ v hn.1, put_put, if_pos rfl]
      exact putX_congr ps _ (fun q hq => by
        have : q.2 ≠ p.2 := fun e => hn.1 (e ▸ List.mem_map_of_mem (f := (·.2)) hq)
        simp [this])
    · rw [putX_cons, putX_cons, putX_in ps xs _ d v hn.2 (h.resolve_left e), if_neg (fun q => e q.symm)]
theorem putX_old (ps : List (Nat × Nat)) (a : Act) : putX ps (fun d => a.tmps.getD d undef) a = a := by
  have key : ∀ d, a.put (some d) (a.tmps.getD d undef) = a := fun d => by
    unfold Act.put
    have : a.tmps.setIfInBounds d (a.tmps.getD d undef) = a.tmps := by
      apply Array.ext
      · simp
      · intro i h1 h2
        rw [Array.getElem_setIfInBounds]
        split
        · rename_i e; subst e; simp [h2]
        · rfl
    simp only [this]
  induction ps with
  | nil => rfl
  | cons p ps ih =>
    rw [putX_cons, key, ih]
theorem calls1 {c1 cc : CS} {done rest : List CS} (h : [c1] = done ++ cc :: rest) : done = [] ∧ cc = c1 := by
  cases done with
  | nil => simp at h; exact ⟨rfl, h.1.symm⟩
  | cons d ds => simp at h
theorem calls2 {c1 c2 cc : CS} {done rest : List CS} (h : [c1, c2] = done ++ cc :: rest) : (done = [] ∧ cc = c1) ∨ (done = [c1] ∧ cc = c2) := by
  cases done with
  | nil => simp at h; exact Or.inl ⟨rfl, h.1.symm⟩
  | cons d ds =>
    simp at h
    obtain ⟨rfl, h⟩ := h
    obtain ⟨rfl, e⟩ := calls1 h
    exact Or.inr ⟨rfl, e⟩
theorem calls3 {c1 c2 c3 cc : CS} {done rest : List CS} (h : [c1, c2, c3] = done ++ cc :: rest) : (done = [] ∧ cc = c1) ∨ (done = [c1] ∧ cc = c2) ∨ (done = [c1, c2] ∧ cc = c3) := by
  cases done with
  | nil => simp at h; exact Or.inl ⟨rfl, h.1.symm⟩
  | cons d ds =>
    simp at h
    obtain ⟨rfl, h⟩ := h
    rcases calls2 h with ⟨rfl, e⟩ | ⟨rfl, e⟩
    · exact Or.inr (Or.inl ⟨rfl, e⟩)
    · exact Or.inr (Or.inr ⟨rfl, e⟩)
theorem cell_of {w : World} {b : Nat} {c : Array Value} {t : TypeId} (h : w.heap[b]? = some (.cells c t)) (j : Nat) : w.cell? ⟨b, j, none⟩ = c[j]? := by simp [World.cell?, h]
theorem free_of {w : World} {b : Nat} {c : Array Value} {t : TypeId} (h : w.heap[b]? = some (.cells c t)) (j : Nat) : w.frozen? ⟨b, j, none⟩ = false := by simp [World.frozen?, h]
theorem heap_set {w : World} {b : Nat} {c : Array Value} {t : TypeId} (h : w.heap[b]? = some (.cells c t)) (i : Nat) (v : Value) : (w.setCell ⟨b, i, none⟩ v).heap[b]? = some (.cells (c.setIfInBounds i v) t) := by
  simp only [World.setCell, Array.getElem?_modify, if_true, h, Option.map_some]; rfl
theorem heap_far {w : World} {b q : Nat} {o : Obj} (h : w.heap[q]? = some o) (hne : q ≠ b) (i : Nat) (v : Value) : (w.setCell ⟨b, i, none⟩ v).heap[q]? = some o := (Below.heap_setCell w ⟨b, i, none⟩ v q hne).trans h
section
variable {P : Program} {ops : Array Oper} {Q : Exit → Act → World → Prop} {md : Region.Mode} {S : World → Prop}
theorem any_aux (a : Act) (w : World) (calls : List CS) (ALL : List (Nat × Nat)) (c : Array Value) (t : TypeId) (listed : Array Bool) (fuel : Nat)
    (hcalls : ∀ done cc rest, calls = done ++ cc :: rest → ∀ (xs : Nat → Value) (w' : World) (K : Act → World → Prop), Kept w w' → S w' → (∀ w'', Kept w' w'' → S w'' → K ((putX ALL xs (putCs done a)).put (some cc.d) cc.v) w'') → wpOp P ops Q cc.i K (putX ALL xs (putCs done a)) w')
    (hal : ∀ p ∈ ALL, ∀ (a' : Act) (w' : World) (K : Act → World → Prop), K (a'.put (some p.2) (ptrV w'.heap.size)) (w'.alloc (.cells c t)) → wpOp P ops Q p.1 K a' w')
    (hS : ∀ w', Kept w w' → S w' → S (w'.alloc (.cells c t))) (hnd : (ALL.map (·.2)).Nodup) (hdis : ∀ cc ∈ calls, cc.d ∉ ALL.map (·.2))
    (hfin : ∀ (f : Nat → Nat) (w' : World), (∀ p ∈ ALL, w.heap.size ≤ f p.2 ∧ w'.heap[f p.2]? = some (.cells c t)) → (∀ p ∈ ALL, ∀ q ∈ ALL, f p.2 = f q.2 → p.2 = q.2) → Kept w w' → S w' → wpAnyH P md ops Q S fuel (setN (calls.map (·.i) ++ ALL.map (·.1)) listed) (putX ALL (fun d => ptrV (f d)) (putCs calls a)) w') :
    ∀ (k : Nat) (done cs : List CS) (dps ps : List (Nat × Nat)) (xs : Nat → Value) (f : Nat → Nat) (w' : World), cs.length + ps.length = k → calls = done ++ cs → (dps ++ ps).Perm ALL → readyAny md ops k cs ps (setN (done.map (·.i) ++ dps.map (·.1)) listed) = true →
      (∀ p ∈ dps, xs p.2 = ptrV (f p.2) ∧ w.heap.size ≤ f p.2 ∧ w'.heap[f p.2]? = some (.cells c t)) → (∀ p ∈ dps, ∀ q ∈ dps, f p.2 = f q.2 → p.2 = q.2) → Kept w w' → S w' →
      wpAnyH P md ops Q S (fuel + k) (setN (done.map (·.i) ++ dps.map (·.1)) listed) (putX ALL xs (putCs done a)) w' := by
  intro k
  induction k with
  | zero =>
    intro done cs dps ps xs f w' hk hc hp _ hx hinj hw hs
    have e1 : cs = [] := List.length_eq_zero_iff.1 (by omega)
    have e2 : ps = [] := List.length_eq_zero_iff.1 (by omega)
    subst e1 e2
    rw [List.append_nil] at hc hp
    subst hc
    have key := hfin f w' (fun p hq => (hx p (hp.mem_iff.2 hq)).2) (fun p h1 q h2 => hinj p (hp.mem_iff.2 h1) q (hp.mem_iff.2 h2)) hw hs
    rw [setN_perm (List.Perm.append (List.Perm.refl _) (hp.map (·.1))), putX_congr ALL (ys := fun d => ptrV (f d)) _ (fun p hq => (hx p (hp.mem_iff.2 hq)).1)]
    exact key
  | succ k ih =>
    intro done cs dps ps xs f w' hk hc hp hr hx hinj hw hs
    simp only [readyAny, Bool.and_eq_true, Bool.not_eq_true', List.all_eq_true, Bool.or_eq_true] at hr
    obtain ⟨⟨⟨hne, hall⟩, hcs⟩, hps⟩ := hr
    refine wpAnyH_all rfl (fun e => by rw [e] at hne; cases hne) (fun i hi => ?_)
    rcases hall i hi with h1 | h1
    · cases cs with
      | nil => simp at h1
      | cons cc cs' =>
        simp only [List.head?_cons, Option.any_some, beq_iff_eq] at h1
        subst h1
        refine hcalls done cc cs' hc xs w' _ hw hs (fun w'' kw hs' => ⟨hs', ?_⟩)
        have hnot : cc.d ∉ ALL.map (·.2) := hdis cc (by rw [hc]; simp)
        have e1 : (putX ALL xs (putCs done a)).put (some cc.d) cc.v = putX ALL xs (putCs (done ++ [cc]) a) := by
          rw [putX_far _ _ _ _ _ hnot]; unfold putCs; rw [List.foldl_append]; rfl
        have e2 : (setN (done.map (·.i) ++ dps.map (·.1)) listed).setIfInBounds cc.i true = setN ((done ++ [cc]).map (·.i) ++ dps.map (·.1)) listed := by
          rw [setN_more]
          refine setN_perm ?_ listed
          rw [List.map_append, List.append_assoc, List.append_assoc]
          exact List.Perm.append (List.Perm.refl _) List.perm_append_comm
        rw [e1, e2]
        have hcs' : readyAny md ops k cs' ps ((setN (done.map (·.i) ++ dps.map (·.1)) listed).setIfInBounds cc.i true) = true := hcs
        rw [e2] at hcs'
        exact ih (done ++ [cc]) cs' dps ps xs f w'' (by simp at hk; omega) (by rw [hc]; simp) hp hcs' (fun p hp' => ⟨(hx p hp').1, (hx p hp').2.1, by
          rw [kw.below.block _ (Array.getElem?_eq_some_iff.1 (hx p hp').2.2).1]; exact (hx p hp').2.2⟩) hinj (hw.trans kw) hs'
    · obtain ⟨p, hpm, hpi⟩ := List.any_eq_true.1 h1
      simp only [beq_iff_eq] at hpi
      subst hpi
      have hpA : p ∈ ALL := hp.mem_iff.1 (by simp [hpm])
      refine hal p hpA _ _ _ ⟨hS w' hw hs, ?_⟩
      have hperm : ps.Perm (p :: ps.erase p) := List.perm_cons_erase hpm
      have hnd2 : ((dps ++ p :: ps.erase p).map (·.2)).Nodup := (((List.Perm.append (List.Perm.refl dps) hperm).symm.trans hp).map (·.2)).nodup_iff.2 hnd
      have hdp : ∀ q ∈ dps, q.2 ≠ p.2 := fun q hq e => by
        rw [List.map_append, List.nodup_append] at hnd2
        exact hnd2.2.2 q.2 (List.mem_map_of_mem (f := (·.2)) hq) p.2 (by simp) e
      have e1 := putX_in ALL xs (putCs done a) p.2 (ptrV w'.heap.size) hnd (List.mem_map_of_mem (f := (·.2)) hpA)
      have e2 : (setN (done.map (·.i) ++ dps.map (·.1)) listed).setIfInBounds p.1 true = setN (done.map (·.i) ++ (dps ++ [p]).map (·.1)) listed := by
        rw [setN_more, List.map_append, List.append_assoc]; rfl
      rw [e1, e2]
      have hr2 := hps p hpm
      rw [e2] at hr2
      have hal' : Kept w (w'.alloc (.cells c t)) := hw.alloc c t
      refine ih done cs (dps ++ [p]) (ps.erase p) _ (fun d => if d = p.2 then w'.heap.size else f d) _ (by rw [List.length_erase_of_mem hpm]; have := List.length_pos_of_mem hpm; omega) hc (by rw [List.append_assoc]; exact (List.Perm.append (List.Perm.refl dps) hperm).symm.trans hp) hr2 (fun q hq => ?_) (fun q hq r hr' => ?_) hal' (hS w' hw hs)
      · rcases List.mem_append.1 hq with hq | hq
        · have h2 := hx q hq
          simp only [hdp q hq, if_false]
          refine ⟨h2.1, h2.2.1, ?_⟩
          rw [((Kept.refl w').alloc c t).below.block _ (Array.getElem?_eq_some_iff.1 h2.2.2).1]; exact h2.2.2
        · simp only [List.mem_singleton] at hq
          subst hq
          simp only [if_true]
          exact ⟨trivial, hw.below.size, by show (w'.heap.push _)[w'.heap.size]? = _; simp⟩
      · have hlt : ∀ z ∈ dps, f z.2 < w'.heap.size := fun z hz => (Array.getElem?_eq_some_iff.1 (hx z hz).2.2).1
        have key : ∀ z ∈ dps ++ [p], (z ∈ dps ∧ z.2 ≠ p.2) ∨ z = p := fun z hz => by
          rcases List.mem_append.1 hz with q | q
          · exact Or.inl ⟨q, hdp z q⟩
          · simp only [List.mem_singleton] at q
            exact Or.inr q
        rcases key q hq with ⟨h1, n1⟩ | h1 <;> rcases key r hr' with ⟨h2, n2⟩ | h2
        · simp only [n1, n2, if_false]; exact hinj q h1 r h2
        · rw [h2]
          simp only [n1, if_false, if_true]
          intro e; have := hlt q h1; omega
        · rw [h1]
          simp only [n2, if_false, if_true]
          intro e; have := hlt r h2; omega
        · rw [h1, h2]
          intro _; rfl
/-- Calls and variables, in whichever order. -/
theorem any_order (calls : List CS) (ALL : List (Nat × Nat)) (c : Array Value) (t : TypeId) {a : Act} {w : World} {listed : Array Bool} (fuel : Nat)
    (hr : readyAny md ops (calls.length + ALL.length) calls ALL listed = true) (hnd : (ALL.map (·.2)).Nodup) (hdis : ∀ cc ∈ calls, cc.d ∉ ALL.map (·.2))
    (hcalls : ∀ done cc rest, calls = done ++ cc :: rest → ∀ (xs : Nat → Value) (w' : World) (K : Act → World → Prop), Kept w w' → S w' → (∀ w'', Kept w' w'' → S w'' → K ((putX ALL xs (putCs done a)).put (some cc.d) cc.v) w'') → wpOp P ops Q cc.i K (putX ALL xs (putCs done a)) w')
    (hal : ∀ p ∈ ALL, ∀ (a' : Act) (w' : World) (K : Act → World → Prop), K (a'.put (some p.2) (ptrV w'.heap.size)) (w'.alloc (.cells c t)) → wpOp P ops Q p.1 K a' w')
    (hS : ∀ w', Kept w w' → S w' → S (w'.alloc (.cells c t))) (h0 : S w)
    (hfin : ∀ (f : Nat → Nat) (w' : World), (∀ p ∈ ALL, w.heap.size ≤ f p.2 ∧ w'.heap[f p.2]? = some (.cells c t)) → (∀ p ∈ ALL, ∀ q ∈ ALL, f p.2 = f q.2 → p.2 = q.2) → Kept w w' → S w' → wpAnyH P md ops Q S fuel (setN (calls.map (·.i) ++ ALL.map (·.1)) listed) (putX ALL (fun d => ptrV (f d)) (putCs calls a)) w') :
    wpAnyH P md ops Q S (fuel + (calls.length + ALL.length)) listed a w := by
  have key := any_aux a w calls ALL c t listed fuel hcalls hal hS hnd hdis hfin (calls.length + ALL.length) [] calls [] ALL (fun d => a.tmps.getD d undef) (fun _ => 0) w rfl rfl (List.Perm.refl _) (by simpa [setN] using hr) (by simp) (by simp) (Kept.refl w) h0
  rw [show putCs [] a = a from rfl, putX_old] at key
  simpa [setN] using key
end
end Go.Proofs.Ytedhdmahdioboaa
/- As text Fin; an operation may be taken first where none of the last ones can come ahead of it, be it through others: plain laws, no condition but those typed. -/
namespace Go.Proofs.Ytedhdmahdioboaa

theorem setN_size : ∀ (ns : List Nat) (l : Array Bool), (setN ns l).size = l.size
  | [], _ => rfl
  | n :: ns, l => by show (setN ns (l.setIfInBounds n true)).size = _; rw [setN_size]; simp
theorem setN_at : ∀ (ns : List Nat) (l : Array Bool) (j : Nat), (setN ns l).getD j false = true ↔ l.getD j false = true ∨ (j ∈ ns ∧ j < l.size)
  | [], l, j => by simp [setN]
  | n :: ns, l, j => by
    show (setN ns (l.setIfInBounds n true)).getD j false = true ↔ _
    rw [setN_at ns]
    by_cases e : n = j
    · subst e
      by_cases h : n < l.size
      · simp [h]
      · simp [h]
    · rw [getD_set_ne false e]
      simp [Ne.symm e]
section
variable {P : Program} {ops : Array Oper} {Q : Exit → Act → World → Prop} {md : Region.Mode} {S : World → Prop} {f : Nat}
def growL (md : Region.Mode) (ops : Array Oper) (i : Nat) (l : Array Bool) : Array Bool := setN ((Region.ready md ops l).filter (fun j => j != i)) l
/-- None of the last operations comes up as long as number i does not. -/
def lateN (md : Region.Mode) (ops : Array Oper) (f i : Nat) : Nat → Array Bool → Bool
  | 0, _ => true
  | n + 1, l => (Region.ready md ops l).all (fun j => decide (j < f) || j == i) && lateN md ops f i n (growL md ops i l)
theorem ready_in {l : Array Bool} {j : Nat} (h : j ∈ Region.ready md ops l) : j < l.size ∧ l.getD j false = false := by
  have h0 := (mem_ready.1 h).1
  rcases Nat.lt_or_ge j l.size with q | q
  · simp [q] at h0 ⊢; exact h0
  · simp [Array.getElem?_eq_none q] at h0
theorem ready_or {l m : Array Bool} (hs : l.size = m.size) (hle : ∀ j, l.getD j false = true → m.getD j false = true) {j : Nat} (h : j ∈ Region.ready md ops l) : m.getD j false = true ∨ j ∈ Region.ready md ops m := by
  have hin := ready_in h
  obtain ⟨h0, o, ho, hall⟩ := mem_ready.1 h
  cases hm : m.getD j false with
  | true => exact Or.inl rfl
  | false =>
    refine Or.inr (mem_ready.2 ⟨?_, o, ho, fun e he hb => hle _ (hall e he hb)⟩)
    have q : j < m.size := by omega
    simp [q] at hm ⊢; exact hm
theorem growL_at (i : Nat) (l : Array Bool) (j : Nat) : (growL md ops i l).getD j false = true ↔ l.getD j false = true ∨ (j ∈ Region.ready md ops l ∧ j ≠ i) := by
  unfold growL
  rw [setN_at]
  constructor
  · rintro (h | ⟨h, _⟩)
    · exact Or.inl h
    · have := List.mem_filter.1 h
      exact Or.inr ⟨this.1, by simpa using this.2⟩
  · rintro (h | ⟨h, h1⟩)
    · exact Or.inl h
    · exact Or.inr ⟨List.mem_filter.2 ⟨h, by simpa using h1⟩, (ready_in h).1⟩
theorem late_mono {i : Nat} : ∀ (n : Nat) (l m : Array Bool), l.size = m.size → (∀ j, l.getD j false = true → m.getD j false = true) → (∀ j, m.getD j false = true → l.getD j false = true ∨ j < f ∨ j = i) → lateN md ops f i n m = true → lateN md ops f i n l = true
  | 0, _, _, _, _, _, _ => rfl
  | n + 1, l, m, hs, hle, hok, h => by
    simp only [lateN, Bool.and_eq_true, List.all_eq_true, Bool.or_eq_true, decide_eq_true_eq, beq_iff_eq] at h ⊢
    refine ⟨fun j hj => ?_, late_mono n (growL md ops i l) (growL md ops i m) (by unfold growL; rw [setN_size, setN_size]; exact hs) (fun j hj => ?_) (fun j hj => ?_) h.2⟩
    · rcases ready_or hs hle hj with q | q
      · rcases hok j q with e | e
        · rw [(ready_in hj).2] at e; cases e
        · exact e
      · exact h.1 j q
    · rw [growL_at] at hj ⊢
      rcases hj with q | ⟨q, q1⟩
      · exact Or.inl (hle j q)
      · rcases ready_or hs hle q with e | e
        · exact Or.inl e
        · exact Or.inr ⟨e, q1⟩
    · rw [growL_at] at hj
      rcases hj with q | ⟨q, q1⟩
      · rcases hok j q with e | e
        · exact Or.inl ((growL_at i l j).2 (Or.inl e))
        · exact Or.inr e
      · exact Or.inr (h.1 j q)
theorem late_lt {i n : Nat} {l : Array Bool} (h : lateN md ops f i (n + 1) l = true) {j : Nat} (hj : j ∈ Region.ready md ops l) (hji : j ≠ i) : j < f := by
  simp only [lateN, Bool.and_eq_true, List.all_eq_true, Bool.or_eq_true, decide_eq_true_eq, beq_iff_eq] at h
  rcases h.1 j hj with e | e
  · exact e
  · exact absurd e hji
theorem late_step {i n : Nat} {l : Array Bool} (h : lateN md ops f i (n + 1) l = true) {j : Nat} (hj : j ∈ Region.ready md ops l) (hji : j ≠ i) : lateN md ops f i n (l.setIfInBounds j true) = true := by
  have h' := h
  simp only [lateN, Bool.and_eq_true, List.all_eq_true, Bool.or_eq_true, decide_eq_true_eq, beq_iff_eq] at h
  have hset : ∀ k, (l.setIfInBounds j true).getD k false = true ↔ l.getD k false = true ∨ (k = j) := fun k => by
    have := setN_at [j] l k
    rw [show setN [j] l = l.setIfInBounds j true from rfl] at this
    rw [this]
    simp only [List.mem_singleton]
    constructor
    · rintro (q | ⟨q, _⟩)
      · exact Or.inl q
      · exact Or.inr q
    · rintro (q | q)
      · exact Or.inl q
      · exact Or.inr ⟨q, by rw [q]; exact (ready_in hj).1⟩
  refine late_mono n _ (growL md ops i l) (by unfold growL; rw [setN_size]; simp) (fun k hk => ?_) (fun k hk => ?_) h.2
  · rw [growL_at]
    rcases (hset k).1 hk with q | q
    · exact Or.inl q
    · rw [q]; exact Or.inr ⟨hj, hji⟩
  · rw [growL_at] at hk
    rcases hk with q | ⟨q, q1⟩
    · exact Or.inl ((hset k).2 (Or.inl q))
    · exact Or.inr (h.1 k q)
theorem wpAnyF_firstL {i : Nat} {oi : Oper} {v : Value} (hi : ops[i]? = some oi) (hsel : ∀ (j : Nat) (o : Oper) cs b, ops[j]? = some o → o.op ≠ .select cs b)
    (hQ : ∀ c a w, Q (.panic c) (a.put oi.dst v) w → Q (.panic c) a w) :
    ∀ (fuel : Nat) (listed : Array Bool) (a : Act) (w : World), lateN md ops f i fuel listed = true →
      (∀ j oj, ops[j]? = some oj → j ≠ i → listed.getD j true = false → (∀ e ∈ oj.after, Region.binds md e = true → e.on ≠ i) → oi.apart ops oj = true) →
      i ∈ Region.ready md ops listed → YieldsIf P ops S oi v a → S w →
      wpAnyF P md ops Q S f fuel (listed.setIfInBounds i true) (a.put oi.dst v) w → wpAnyF P md ops Q S f (fuel + 1) listed a w := by
  intro fuel
  induction fuel with
  | zero =>
    intro listed a w _ _ hr hy hS H
    refine ⟨fun h => (by rw [h] at hr; cases hr), fun j hj => ?_⟩
    by_cases hji : j = i
    · subst hji; exact hy.wpOp hi hS ⟨fun _ => hS, H⟩
    · have := ready_mono hj hji
      rw [H.1] at this
      cases this
  | succ fuel ih =>
    intro listed a w hlate hfree hr hy hS H
    refine ⟨fun h => (by rw [h] at hr; cases hr), fun j hj => ?_⟩
    by_cases hji : j = i
    · subst hji; exact hy.wpOp hi hS ⟨fun _ => hS, H⟩
    · have h1 := H.2 j (ready_mono hj hji)
      obtain ⟨hjun, oj, hoj, hall⟩ := mem_ready.1 hj
      have hnot : ∀ e ∈ oj.after, Region.binds md e = true → e.on ≠ i := fun e he hb heq => by
        have h1 := hall e he hb
        have h0 := (mem_ready.1 hr).1
        rw [heq] at h1
        rcases Nat.lt_or_ge i listed.size with h' | h'
        · simp [h'] at h0 h1; rw [h0] at h1; cases h1
        · simp [Array.getElem?_eq_none h'] at h1
      have hjf : j < f := late_lt hlate hj hji
      have h2 := wpOp_putIf hoj (hfree j oj hoj hji hjun hnot) (fun cs b => hsel i oi cs b hi) (fun cs b => hsel j oj cs b hoj) hQ hy h1
      have hfree' : ∀ k ok, ops[k]? = some ok → k ≠ i → (listed.setIfInBounds j true).getD k true = false →
          (∀ e ∈ ok.after, Region.binds md e = true → e.on ≠ i) → oi.apart ops ok = true := fun k ok hk hki hun hno => by
        refine hfree k ok hk hki ?_ hno
        by_cases hjk : j = k
        · subst hjk; exact hjun
        · rw [getD_set_ne true hjk] at hun; exact hun
      refine wpOp_mono (fun a' w' h3 => ⟨h3.2.1, ih (listed.setIfInBounds j true) a' w' (late_step hlate hj hji) hfree' (ready_mono hr (Ne.symm hji)) h3.1 (h3.2.1 hjf) ?_⟩) h2
      rw [Array.setIfInBounds_comm _ _ hji]
      exact h3.2.2
theorem tkL {v : Value} {oi : Oper} {fuel : Nat} {listed : Array Bool} {a : Act} {w : World} (i : Nat) (hi : ops[i]? = some oi)
    (h : wpAnyF P md ops Q S f fuel (listed.setIfInBounds i true) (a.put oi.dst v) w)
    (hy : ∀ w'', S w'' → (execOp a.eval oi).run P w'' = .ok (.value v) w'' := by intro w'' hSw; (try dsimp only at hSw); simp only [List.getElem_toArray, List.getElem_cons_succ, List.getElem_cons_zero]; (go_simp <;> with_reducible rfl))
    (hs : Region.noSelect ops = true := by kernel_rfl) (hf : Region.free md ops listed i = true := by kernel_rfl) (hr : (Region.ready md ops listed).contains i = true := by kernel_rfl) (hw : lateN md ops f i fuel listed = true := by kernel_rfl)
    (hQ : ∀ c a w, Q (.panic c) (a.put oi.dst v) w → Q (.panic c) a w := by exact fun _ _ _ h => h) (hwt : Region.wanted oi (yielded ops a.tmps) = true := by kernel_rfl) (hS : S w := by assumption) : wpAnyF P md ops Q S f (fuel + 1) listed a w :=
  wpAnyF_firstL hi (Region.noSelect_spec hs) hQ fuel listed a w hw (Region.free_spec hi hf) (by simpa using hr) (Or.inl ⟨hwt, hy⟩) hS h
end
end Go.Proofs.Ytedhdmahdioboaa
/- gyreref.Client.Feed: the pieces that are gathered, and one more. -/
namespace Go.Proofs.Ytedhdmahdioboaa
open Go.ChangeShapes Go.WideShapes Go.ChangeAt Go.RowKit
set_option linter.unusedVariables false
set_option linter.unusedSimpArgs false
variable {ora : Ora}

def code8 (f : Func) : Code := ((f.body.bind (sufOf 8)).getD .skip)
theorem run_buildG {ρ : Operand → Value} {o : Oper} {x : Operand} {p : Gt} {a : Option Addr} {n c : Nat} (ho : o.op = .buildSlice 59 1 #[(0, x)]) (hx : ρ x = .agg #[.int .i64 (p.st), .int .i64 (p.ba), .int .i64 (p.ix), .int .i64 (p.mn), .slice a n c]) (w : World) : (execOp ρ o).run Try.prog w = .ok (.value (.slice (some ⟨w.heap.size, 0, none⟩) 1 1)) (w.alloc (.cells #[.int .i64 (p.st), .int .i64 (p.ba), .int .i64 (p.ix), .int .i64 (p.mn), .slice a n c] 69)) := by
  unfold execOp
  rw [ho]
  simp only [List.map_toArray, List.map_cons, List.map_nil, hx]
  go_simp
theorem step_knownG {o : Oper} {a : Act} {w w' : World} {v : Value} {K : Act → World → Prop} {Q : Exit → Act → World → Prop} (hr : (execOp a.eval o).run Try.prog w = .ok (.value v) w') (hK : K (a.put o.dst v) w') : Oper.wp Try.prog o a w K Q := by
  unfold Oper.wp
  rw [hr]
  exact hK
set_option maxRecDepth 1000000 in
set_option maxHeartbeats 0 in
theorem feed_8 (E : List Nat) (y yv : Nat) (vg : Value) (J : Vl) (nw : Int) (KL : Kl) (L : List Nat) (w : World) (kp : Nat) (p : Gt) (vb vg1 : Value) (K1 : Kl) (w6 : World) (c1 c2 c3 c6 c7 c8 c9 c10 c11 c12 c13 c14 c15 c16 c17 c18 c19 c20 c21 c22 c23 c24 c25 c26 c27 c28 c29 c30 c31 c32 c33 c34 c35 c36 c37 c38 c39 c40 c41 c42 c43 c44 c45 c46 c47 c48 c49 c50 c51 c52 c53 c54 c55 c56 c57 c58 c59 c60 c61 c62 c63 c64 c65 c66 c67 c68 c69 c70 c71 c72 c73 c74 c75 c76 c77 c78 c79 c80 c81 c82 c83 c84 c85 c86 c87 c88 c89 c90 c91 c92 c93 c94 c95 c96 c97 c98 c99 c100 c101 c102 c103 c104 c105 c106 c107 c108 c109 c110 c111 c112 c113 c114 c115 c116 c117 c118 c119 c120 c121 c122 c123 c124 c125 c126 c127 c128 c129 c130 c131 c132 c133 c134 c135 c136 c137 c138 c139 c140 c141 c142 c143 c144 c145 c146 c147 c148 c149 c150 c151 c152 c153 c154 c155 c156 c157 c158 c159 c160 c161 c162 c163 c164 c165 c166 c167 c168 c169 c170 c171 c172 c173 c174 c175 c176 c177 c178 c179 c180 c181 c182 c183 c184 c185 c186 c187 c188 c189 c190 c191 c192 c193 c194 c195 c196 c197 c198 c199 c200 c201 c202 c203 : Value)
    (HB : Hid (RCA E w y yv vg J nw KL ∧ (∀ e ∈ J, e.1 = 0 → e.2.2 = []) ∧ J.length ≤ 1000)) (HP : Hid (toldG L = p)) (HPK : Hid (GtOk p)) (HGD : Hid (toldGood L)) (HNW : Hid (nw < p.st)) (HL : Hid (lateC (stC J nw KL) p = false)) (H6 : Hid (RG E w y yv J nw KL kp p vb vg vg1 K1 w6)) :
    Code.wp Try.prog (code8 Try.f20) (bodyPost Try.prog Try.f20 (RFeedPost ora E y yv vg J nw KL L w)) ⟨#[.pointer (some ⟨y, 0, none⟩), c1, c2, c3, .bool false, .pointer (some ⟨kp, 0, none⟩), c6, c7, c8, c9, c10, c11, c12, c13, c14, c15, c16, c17, c18, c19, c20, c21, c22, c23, c24, c25, c26, c27, c28, c29, c30, c31, c32, c33, c34, c35, c36, c37, c38, c39, c40, c41, c42, c43, c44, c45, c46, c47, c48, c49, c50, c51, c52, c53, c54, c55, c56, c57, c58, c59, c60, c61, c62, c63, c64, c65, c66, c67, c68, c69, c70, c71, c72, c73, c74, c75, c76, c77, c78, c79, c80, c81, c82, c83, c84, c85, c86, c87, c88, c89, c90, c91, c92, c93, c94, c95, c96, c97, c98, c99, c100, c101, c102, c103, c104, c105, c106, c107, c108, c109, c110, c111, c112, c113, c114, c115, c116, c117, c118, c119, c120, c121, c122, c123, c124, c125, c126, c127, c128, c129, c130, c131, c132, c133, c134, c135, c136, c137, c138, c139, c140, c141, c142, c143, c144, c145, c146, c147, c148, c149, c150, c151, c152, c153, c154, c155, c156, c157, c158, c159, c160, c161, c162, c163, c164, c165, c166, c167, c168, c169, c170, c171, c172, c173, c174, c175, c176, c177, c178, c179, c180, c181, c182, c183, c184, c185, c186, c187, c188, c189, c190, c191, c192, c193, c194, c195, c196, c197, c198, c199, c200, c201, c202, c203], []⟩ w6 := by
  obtain ⟨ag, cg, hvg⟩ := ownN_shape H6.out.gr
  have HVG : Hid (vg1 = .slice ag K1.length cg) := hvg
  obtain ⟨z0, z1, z2⟩ := H6.out.cl.cells
  rw [hvg] at z2
  have hK1 : K1.length ≤ 1000 := by
    rcases H6.out.same with q | q
    · rw [q]; simp
    · cases K1 with
      | nil => simp
      | cons e r =>
        have h1 := HB.out.1.ok.few e.1 (by rw [← q]; simp [stC, gtK])
        have h2 := (H6.out.pk e (by simp)).mn2
        rw [← q] at h1
        simp only [stC, gtK, List.length_map] at h1
        omega
  clear hvg
  conv => arg 2; whnf
  go_wp2_with fail
  clear z0 z1 z2
  go_loopg [79] K1.length (fun k s79 wr => ∃ j : Nat, s79 = .int .i64 (j : Int) ∧ Hid (j ≤ K1.length ∧ k = K1.length - j ∧ ∀ i (hi : i < K1.length), i < j → badG K1[i].1 p = false) ∧ Hid (RG E w y yv J nw KL kp p vb vg vg1 K1 wr))
  case atStart => exact ⟨0, rfl, ⟨by omega, rfl, fun i hi h => by omega⟩, H6⟩
  case round =>
    obtain ⟨j, rfl, HI, HR⟩ := hrel
    by_cases hj : j < K1.length
    · have hjl : (j : Int) < (K1.length : Int) := by omega
      obtain ⟨g, hag⟩ : ∃ g, ag = some ⟨g, 0, none⟩ := by
        have h2 := HR.out.gr
        rw [HVG.out] at h2
        obtain ⟨_, ⟨e, h0⟩ | ⟨g, cap, cur, e, _⟩⟩ := h2
        · omega
        · injection e with e _ _
          exact ⟨g, e⟩
      have hgr := HR.out.gr
      rw [HVG.out, hag] at hgr
      obtain ⟨z0, z1, z2, z3, z4⟩ := got_cells hgr hj
      have hpj := HR.out.ps _ (List.getElem_mem hj)
      obtain ⟨e, he⟩ : ∃ e, K1[j] = e := ⟨_, rfl⟩
      rw [he] at z0 z1 z2 z3 z4 hpj
      have HE : Hid (K1[j]? = some e ∧ j < K1.length) := ⟨by rw [List.getElem?_eq_getElem hj, he], hj⟩
      obtain ⟨a2, c2, he2, _⟩ := hpj
      rw [he2] at z4
      subst hag
      clear hgr he he2 hj
      go_upto_region 11 with fail
      have H7 : Hid _ := PrAt.new wr e.1 (.slice a2 e.1.by_.length c2)
      have HKQ : Hid (kp ≠ wr.heap.size) := fun q => by have := HR.out.pw.lt; omega
      clear z0 z1 z2 z3 z4
      revert H7 HKQ
      generalize wr.heap.size = kq
      generalize World.alloc wr _ = w7
      intro H7 HKQ
      have HR7 : Hid (RG E w y yv J nw KL kp p vb vg vg1 K1 w7) := HR.out.keep H7.out.2
      obtain ⟨q0, q1, q2, q3, q4⟩ := H7.out.1.cells
      obtain ⟨p0, p1, p2, p3, p4⟩ := HR7.out.pw.cells
      have HBAD : Hid (badG e.1 p = true → RFeedPost ora E y yv vg J nw KL L w (.returned (.bool false)) w7) := fun hbad => by
        obtain ⟨he, hj⟩ := HE
        rw [List.getElem?_eq_getElem hj, Option.some.injEq] at he
        have hf := fits_not (p := p) hj (by rw [he]; exact hbad)
        have hKL : K1 = KL := HR7.out.same.resolve_left (fun q => by rw [q] at hj; simp at hj)
        have hof := HR7.out.on
        have hg := HR7.out
        rw [hg.old] at hf
        refine ⟨hof.mono (by simp), false, E, yv, vg1, J, nw, K1, rfl, ⟨hg.cl, hg.vm, hg.vo, hg.gr, hg.gE, hg.ps, hg.pk, hg.lt, HB.out.1.yE, hg.gy, by rw [hKL]; exact HB.out.1.ok⟩, fun b hb => hb, fun b hb => Or.inl hb, Or.inl rfl, fun b hb => Or.inl (hg.vs.elim (fun q => (by rw [q] at hb; cases hb)) (fun q => (by rw [← q]; exact hb))), by omega, HB.out.2.1, ?_⟩
        rw [feedL_good HGD.out, HP.out, feed_unfit HL.out hf, hKL]
      by_cases b1 : e.1.ba = p.ba
      · by_cases b2 : e.1.mn = p.mn
        · by_cases b3 : e.1.ix = p.ix
          · have HX : Hid (badG e.1 p = true) := by show _ = _; simp [badG, b3]
            have t1 : (e.1.ba != p.ba) = false := by simp [b1]
            have t2 : (e.1.mn != p.mn) = false := by simp [b2]
            have t3 : (e.1.ix == p.ix) = true := by simp [b3]
            clear b1 b2 b3
            go_wp2_with fail
            exact bodyPost_ret (v := .bool false) (by simp [results, Try.results20, go_sem]) rfl (HBAD.out HX.out)
          · have HX : Hid (badG e.1 p = false) := by show _ = _; simp [badG, b1, b2, b3]
            have t1 : (e.1.ba != p.ba) = false := by simp [b1]
            have t2 : (e.1.mn != p.mn) = false := by simp [b2]
            have t3 : (e.1.ix == p.ix) = false := by simp [b3]
            clear b1 b2 b3
            go_wp2_with fail
            go_roundg (K1.length - (j + 1))
            case measure => have h1 := HI.out.2.1; have h2 := HE.out.2; omega
            case rel => exact ⟨j + 1, by go_num, ⟨HE.out.2, rfl, fun i hi h => by
              rcases Nat.lt_or_ge i j with q | q
              · exact HI.out.2.2 i hi q
              · obtain rfl : i = j := by omega
                have he := HE.out.1
                rw [List.getElem?_eq_getElem hi, Option.some.injEq] at he
                rw [he]; exact HX.out⟩, HR7⟩
        · have HX : Hid (badG e.1 p = true) := by show _ = _; simp [badG, b2]
          have t1 : (e.1.ba != p.ba) = false := by simp [b1]
          have t2 : (e.1.mn != p.mn) = true := by simp [b2]
          clear b1 b2
          go_wp2_with fail
          exact bodyPost_ret (v := .bool false) (by simp [results, Try.results20, go_sem]) rfl (HBAD.out HX.out)
      · have HX : Hid (badG e.1 p = true) := by show _ = _; simp [badG, b1]
        have t1 : (e.1.ba != p.ba) = true := by simp [b1]
        clear b1
        go_wp2_with fail
        exact bodyPost_ret (v := .bool false) (by simp [results, Try.results20, go_sem]) rfl (HBAD.out HX.out)
    · have hjl : ¬ (j : Int) < (K1.length : Int) := by omega
      have hjb : decide ((j : Int) < (K1.length : Int)) = false := decide_eq_false hjl
      have HFIT : Hid (fitsC (oldC (stC J nw KL) p) p = true) := by
        show _ = _
        rw [← HR.out.old]
        exact fits_all fun i hi => HI.out.2.2 i hi (by omega)
      go_upto_region 14 with fail
      obtain ⟨ab, cb, hvb, _⟩ := HR.out.sb
      obtain ⟨z0, z1, z2⟩ := HR.out.cl.cells
      obtain ⟨p0, p1, p2, p3, p4⟩ := HR.out.pw.cells
      rw [HVG.out] at z2
      rw [hvb] at p4
      have HVB : Hid (vb = .slice ab p.by_.length cb) := hvb
      have HS : Hid (wr.cell? ⟨y, 2, none⟩ = some (.slice ag K1.length cg) ∧ wr.cell? ⟨kp, 0, none⟩ = some (.int .i64 (p.st)) ∧ wr.cell? ⟨kp, 1, none⟩ = some (.int .i64 (p.ba)) ∧ wr.cell? ⟨kp, 2, none⟩ = some (.int .i64 (p.ix)) ∧ wr.cell? ⟨kp, 3, none⟩ = some (.int .i64 (p.mn)) ∧ wr.cell? ⟨kp, 4, none⟩ = some (.slice ab p.by_.length cb)) := ⟨z2, p0, p1, p2, p3, p4⟩
      clear hvb z0 z1
      refine wp_region_F_drew 10 (fun w' => w'.cell? ⟨y, 2, none⟩ = some (.slice ag K1.length cg) ∧ w'.cell? ⟨kp, 0, none⟩ = some (.int .i64 (p.st)) ∧ w'.cell? ⟨kp, 1, none⟩ = some (.int .i64 (p.ba)) ∧ w'.cell? ⟨kp, 2, none⟩ = some (.int .i64 (p.ix)) ∧ w'.cell? ⟨kp, 3, none⟩ = some (.int .i64 (p.mn)) ∧ w'.cell? ⟨kp, 4, none⟩ = some (.slice ab p.by_.length cb)) (by kernel_rfl) ?_ (fun hHeld1 => ?_)
      · (try dsimp only); exact ⟨z2, p0, p1, p2, p3, p4⟩
      clear z2 p0 p1 p2 p3 p4
      refine tkL 0 rfl ?_; refine tkL 1 rfl ?_; refine tkL 2 rfl ?_; refine tkL 3 rfl ?_
      try simp only [Act.put, List.setIfInBounds_toArray, List.set_cons_zero, List.set_cons_succ, List.getElem_toArray, List.getElem_cons_succ, List.getElem_cons_zero]
      refine tkL 4 rfl ?_; refine tkL 5 rfl ?_
      try simp only [Act.put, List.setIfInBounds_toArray, List.set_cons_zero, List.set_cons_succ, List.getElem_toArray, List.getElem_cons_succ, List.getElem_cons_zero]
      refine wpAnyF_ready (rs := [6]) (by kernel_rfl) (by simp) ?_
      refine AllReadyF.cons rfl (fun K hK => ?_) AllReadyF.nil
      first | (with_reducible refine iteYes ?hcx ?htx; case hcx => kernel_rfl) | rw [if_pos (by rfl)]
      refine step_knownG (run_buildG (p := p) (a := ab) (n := p.by_.length) (c := cb) rfl (by kernel_rfl) wr.drew) ?_
      have OA : Hid (Only [] wr (wr.drew.alloc (.cells #[.int .i64 (p.st), .int .i64 (p.ba), .int .i64 (p.ix), .int .i64 (p.mn), .slice ab p.by_.length cb] 69)) ∧ (wr.drew.alloc (.cells #[.int .i64 (p.st), .int .i64 (p.ba), .int .i64 (p.ix), .int .i64 (p.mn), .slice ab p.by_.length cb] 69)).heap[wr.drew.heap.size]? = some (.cells #[.int .i64 (p.st), .int .i64 (p.ba), .int .i64 (p.ix), .int .i64 (p.mn), .slice ab p.by_.length cb] 69)) := ⟨((Only.refl [] wr).drew).alloc _, (MapKept.heap_alloc wr.drew _).1⟩
      refine hK.out _ _ ?_ (fun hHx => ?_)
      · exact ⟨OA.out.1.cell HS.out.1 (by simp), OA.out.1.cell HS.out.2.1 (by simp), OA.out.1.cell HS.out.2.2.1 (by simp), OA.out.1.cell HS.out.2.2.2.1 (by simp), OA.out.1.cell HS.out.2.2.2.2.1 (by simp), OA.out.1.cell HS.out.2.2.2.2.2 (by simp)⟩
      clear hK K
      try simp only [Act.put, List.setIfInBounds_toArray, List.set_cons_zero, List.set_cons_succ, List.getElem_toArray, List.getElem_cons_succ, List.getElem_cons_zero]
      revert OA hHx
      generalize wr.drew.heap.size = km
      generalize World.alloc wr.drew _ = wA
      intro OA hHx
      have hgr := (HR.out.keep OA.out.1).gr
      rw [HVG.out] at hgr
      obtain ⟨v2, wB, hr, hown, hgr2, hloc⟩ := run_appendG wA 0 59 (.slice ag K1.length cg) K1 hgr km (p, .slice ab p.by_.length cb) rfl OA.out.2 hK1 (Nat.zero_le _)
      obtain ⟨a3, c3', hv2⟩ := ownN_shape hown
      obtain ⟨n9, hn9⟩ : ∃ n9, (K1 ++ [(p, (.slice ab p.by_.length cb : Value))]).length = n9 := ⟨_, rfl⟩
      have HN9 : Hid (K1.length + 1 = n9) := by show _ = _; rw [← hn9]; simp
      rw [hn9] at hv2
      clear hn9
      have HR2 : Hid (R2 E (v2.ownBlock.toList ++ E) w y yv vg J nw kp p vb (K1 ++ [(p, vb)]) v2 (wB.setCell ⟨y, 2, none⟩ v2)) := R2.of HB.out.1.lt HB.out.1.yE HPK.out HR.out OA.out.1 (by rw [HVB.out]; exact hown) (by rw [HVG.out]; exact hgr2) (by rw [HVG.out]; exact hloc)
      have oB : Only ((Value.slice ag K1.length cg).ownBlock.toList) wA wB := (Only.refl _ wA).grown hgr2 (fun k hk => Or.inl (by simp [hk]))
      have hyB : y ∉ (Value.slice ag K1.length cg).ownBlock.toList := fun q => HR.out.gy (by rw [HVG.out]; simpa using q)
      have hkB : kp ∉ (Value.slice ag K1.length cg).ownBlock.toList := fun q => by
        have := HB.out.1.lt kp (HR.out.gE kp (by rw [HVG.out]; simpa using q))
        have h2 := HR.out.ke
        omega
      have HSB : Hid (wB.cell? ⟨y, 2, none⟩ = some (.slice ag K1.length cg) ∧ wB.cell? ⟨kp, 0, none⟩ = some (.int .i64 (p.st)) ∧ wB.cell? ⟨kp, 1, none⟩ = some (.int .i64 (p.ba)) ∧ wB.cell? ⟨kp, 2, none⟩ = some (.int .i64 (p.ix)) ∧ wB.cell? ⟨kp, 3, none⟩ = some (.int .i64 (p.mn)) ∧ wB.cell? ⟨kp, 4, none⟩ = some (.slice ab p.by_.length cb)) := ⟨oB.cell (OA.out.1.cell HS.out.1 (by simp)) hyB, oB.cell (OA.out.1.cell HS.out.2.1 (by simp)) hkB, oB.cell (OA.out.1.cell HS.out.2.2.1 (by simp)) hkB, oB.cell (OA.out.1.cell HS.out.2.2.2.1 (by simp)) hkB, oB.cell (OA.out.1.cell HS.out.2.2.2.2.1 (by simp)) hkB, oB.cell (OA.out.1.cell HS.out.2.2.2.2.2 (by simp)) hkB⟩
      have zB := HSB.out.1
      have fB : wB.frozen? ⟨y, 2, none⟩ = false := ((HR.out.keep OA.out.1).cl.only oB hyB).free 2
      clear hgr hown hgr2 hloc oB hyB hkB
      refine wpAnyF_ready (rs := [7]) (by kernel_rfl) (by simp) ?_
      refine AllReadyF.cons rfl (fun K hK => ?_) AllReadyF.nil
      first | (with_reducible refine iteYes ?hcx ?htx; case hcx => kernel_rfl) | rw [if_pos (by rfl)]
      refine step_append (s := .tmp 107) (x := .tmp 109) (t := 59) rfl (by kernel_rfl) (by kernel_rfl) hr ?_
      refine hK.out _ _ ?_ (fun hHx2 => ?_)
      · exact HSB.out
      clear hK K hr
      try simp only [Act.put, List.setIfInBounds_toArray, List.set_cons_zero, List.set_cons_succ, List.getElem_toArray, List.getElem_cons_succ, List.getElem_cons_zero]
      rw [hv2]
      rw [hv2] at HR2
      refine tkL 8 rfl ?_; refine tkL 9 rfl ?_
      try simp only [Act.put, List.setIfInBounds_toArray, List.set_cons_zero, List.set_cons_succ, List.getElem_toArray, List.getElem_cons_succ, List.getElem_cons_zero]
      refine wpAnyF_ready (rs := [10]) (by kernel_rfl) (by simp) ?_
      refine AllReadyF.fin rfl (by decide) (fun K hK => ?_) AllReadyF.nil
      first | (with_reducible refine iteYes ?hcx ?htx; case hcx => kernel_rfl) | rw [if_pos (by rfl)]
      simp only [List.getElem_toArray, List.getElem_cons_succ, List.getElem_cons_zero]
      go_simp
      skip
      refine hK.out _ _ ?_
      clear hK K
      try simp only [Act.put, List.setIfInBounds_toArray, List.set_cons_zero, List.set_cons_succ, List.getElem_toArray, List.getElem_cons_succ, List.getElem_cons_zero]
      refine wpAnyF_done (by kernel_rfl) ?_ _
      clear zB fB
      generalize World.setCell wB _ _ = w8 at HR2 ⊢
      obtain ⟨E', hE'⟩ : ∃ E', (Value.slice a3 n9 c3').ownBlock.toList ++ E = E' := ⟨_, rfl⟩
      rw [hE'] at HR2
      clear hE' hv2 hHx hHx2
      have HGT : Hid (gtK (K1 ++ [(p, vb)]) = oldC (stC J nw KL) p ++ [p] ∧ (oldC (stC J nw KL) p).length + 1 = n9) := ⟨by rw [← HR.out.old]; simp [gtK], by rw [← HR.out.old, ← HN9.out]; simp [gtK]⟩
      obtain ⟨z0, z1, z2⟩ := HR2.out.cl.cells
      obtain ⟨p0, p1, p2, p3, p4⟩ := HR2.out.pw.cells
      obtain ⟨lt, hlt⟩ : ∃ lt, decide ((n9 : Int) < p.mn) = lt := ⟨_, rfl⟩
      have HLT : Hid (decide ((n9 : Int) < p.mn) = lt) := hlt
      go_upto_region 15 with fail
      go_quiet (fail)
      clear hlt z0 z1 z2 p0 p1 p2 p3 p4
      obtain ⟨w9, hw9⟩ : ∃ w9, w9 = w8.drewN nq := ⟨_, rfl⟩
      rw [← hw9]
      have HR9 : Hid (R2 E E' w y yv vg J nw kp p vb (K1 ++ [(p, vb)]) (.slice a3 n9 c3') w9) := by rw [hw9]; exact HR2.out.keep (only_drewN w8 nq)
      clear hw9 HR2
      cases lt with
      | true =>
        have hfeed := feed_some (ora := ora) HL.out HFIT.out (by have := of_decide_eq_true HLT.out; have h2 := HGT.out.2; omega)
        go_wp2_with fail
        have h9 := HR9.out
        refine bodyPost_ret (v := .bool false) (by simp [results, Try.results20, go_sem]) rfl ⟨h9.on, false, E', yv, _, J, nw, K1 ++ [(p, vb)], rfl, ⟨h9.cl, h9.vm, h9.vo, h9.gr, h9.gE, h9.ps, h9.pk, h9.lt, h9.inc _ HB.out.1.yE, h9.gy, ?_⟩, h9.inc, h9.new, Or.inl rfl, h9.gv, by omega, HB.out.2.1, ?_⟩
        · have hs : stC J nw (K1 ++ [(p, vb)]) = { stC J nw KL with got := oldC (stC J nw KL) p ++ [p] } := by unfold stC; rw [HGT.out.1]; rfl
          rw [hs]
          have h1 := HB.out.1.ok.feed (ap := ora.ap) (p := p)
          rw [hfeed] at h1
          exact h1
        · rw [feedL_good HGD.out, HP.out, hfeed]
          unfold stC
          rw [HGT.out.1]
          rfl
      | false =>
        have HLN : Hid (¬ (((oldC (stC J nw KL) p).length : Int) + 1 < p.mn)) := by
          have := of_decide_eq_false HLT.out; have h2 := HGT.out.2
          show ¬ _
          omega
        have HND : Hid (((gtK (K1 ++ [(p, vb)])).map Gt.ix).Nodup) := by
          show List.Nodup _
          rw [HGT.out.1, List.map_append, List.nodup_append]
          have hfit := fitsC_iff.1 HFIT.out
          refine ⟨?_, by simp, ?_⟩
          · exact HB.out.1.ok.apart.sublist (List.Sublist.map _ (List.filter_sublist))
          · intro x hx z hz
            obtain ⟨q, hq, rfl⟩ := List.mem_map.1 hx
            simp only [List.map_cons, List.map_nil, List.mem_singleton] at hz
            rw [hz]
            exact (hfit q hq).2.2
        have HFE : Hid (feedL ora (stC J nw KL) L = match becC ora (vwJ J) p.st p.ba (joinC (gtK (K1 ++ [(p, vb)])) p.mn.toNat) with
            | none => (false, stC J nw [])
            | some V => (true, ⟨V, p.st, []⟩)) := by
          show _ = _
          rw [feedL_good HGD.out, HP.out, feed_all HL.out HFIT.out HLN.out, HGT.out.1]
          rfl
        have HOK : Hid (CstOk 32 (feedL ora (stC J nw KL) L).2) := by
          show CstOk 32 _
          rw [feedL_good HGD.out]
          exact HB.out.1.ok.feed
        have HNN : Hid ((K1 ++ [(p, vb)]).length = n9 ∧ n9 ≤ 1001) := ⟨by rw [← HN9.out]; simp, by have := HN9.out; omega⟩
        go_upto_if 120 with fail
        go_cut [5] from 121 (fun s5 wx => s5 = .pointer (some ⟨kp, 0, none⟩) ∧ Hid (w9 = wx))
        case first =>
          go_wp2_with fail
          go_meet
          case rel => exact ⟨rfl, rfl⟩
        case rest =>
          obtain ⟨rfl, HWX⟩ := hcut
          have hwx := HWX.out
          subst hwx
          refine (‹∀ (a : Act) (w_1 : World), Code.wp Try.prog _ (bodyPost Try.prog Try.f20 (RFeedPost ora E y yv vg J nw KL L w)) a w_1 → _›) _ _ ?_
          exact feed_17 E E' y yv vg J nw KL L w kp p vb (K1 ++ [(p, vb)]) a3 n9 c3' w9 _ _ _ _ _ _ _ _ _ _ _ _ _ _ _ _ _ _ _ _ _ _ _ _ _ _ _ _ _ _ _ _ _ _ _ _ _ _ _ _ _ _ _ _ _ _ _ _ _ _ _ _ _ _ _ _ _ _ _ _ _ _ _ _ _ _ _ _ _ _ _ _ _ _ _ _ _ _ _ _ _ _ _ _ _ _ _ _ _ _ _ _ _ _ _ _ _ _ _ _ _ _ _ _ _ _ _ _ _ _ _ _ _ _ _ _ _ _ _ _ _ _ _ _ _ _ _ _ _ _ _ _ _ _ _ _ _ _ _ _ _ _ _ _ _ _ _ _ _ _ _ _ _ _ _ _ _ _ _ _ _ _ _ _ _ _ _ _ _ _ _ _ _ _ _ _ _ _ _ _ _ _ _ _ _ _ _ _ _ _ _ _ _ _ _ _ _ _ _ _ _ _ HB HPK HNW HNN HR9 HND HFE HOK
end Go.Proofs.Ytedhdmahdioboaa
/- gyreref.Client.Feed: whichever bytes come. -/
namespace Go.Proofs.Ytedhdmahdioboaa
open Go.ChangeShapes Go.WideShapes Go.ChangeAt Go.RowKit
set_option linter.unusedVariables false
set_option linter.unusedSimpArgs false
variable {ora : Ora}

set_option maxRecDepth 100000 in
set_option maxHeartbeats 16000000 in
theorem refFeed_calls (E : List Nat) (y yv : Nat) (vg : Value) (J : Vl) (nw : Int) (KL : Kl) (a : Option Addr) (c : Nat) (L : List Nat) (w : World) (h : RCA E w y yv vg J nw KL) (hl : L.length ≤ 1500) (hs : ∀ x ∈ L, x < 256) (hb : ByAt w a L) (hn : a = none → L = [] ∧ c = 0) (hJ : J.length ≤ 1000) (hz : ∀ e ∈ J, e.1 = 0 → e.2.2 = []) :
    Calls Try.prog 20 #[.pointer (some ⟨y, 0, none⟩), .slice a L.length c] w (RFeedPost ora E y yv vg J nw KL L w) := by
  have HB : Hid (RCA E w y yv vg J nw KL ∧ ByAt w a L ∧ (∀ x ∈ L, x < 256) ∧ (a = none → L = [] ∧ c = 0) ∧ ∀ e ∈ J, e.1 = 0 → e.2.2 = []) := ⟨h, hb, hs, hn, hz⟩
  clear h hs hb hn hz
  go_enter Try.func20, Try.ntmps20
  go_wp2_with fail
  refine (refToldN_calls a c L w hl HB.out.2.2.1 HB.out.2.1 HB.out.2.2.2.1).mono ?_
  rintro e w1 ⟨o1, ⟨hgood, vb, rfl, hsl, hnew⟩ | ⟨hbad, rfl⟩⟩
  case inr =>
    have H1 : Hid (¬ toldGood L ∧ Only [] w w1) := ⟨hbad, o1⟩
    clear hbad o1
    simp only [pcV]
    go_upto_region 2 with fail
    generalize hw2 : World.alloc w1 _ = w2
    have H2 : Hid (Only [] w w2) := by rw [← hw2]; exact H1.out.2.alloc _
    clear hw2
    go_quiet (fail)
    go_wp2_with fail
    exact bodyPost_ret (v := .bool false) (by simp [results, Try.results20, go_sem]) rfl (RFeedPost.same HB.out.1 HB.out.2.2.2.2 (H2.out.trans (only_drewN w2 nq)) (feedL_bad H1.out.1))
  have HP0 : Hid (GtOk (toldG L) ∧ toldGood L) := ⟨toldG_ok hgood, hgood⟩
  change SlB w1 vb (toldG L).by_ at hsl
  rw [show pcV (toldP L) vb = .agg #[.int .i64 ((toldG L).st), .int .i64 ((toldG L).ba), .int .i64 ((toldG L).ix), .int .i64 ((toldG L).mn), vb] from rfl]
  obtain ⟨p, hp⟩ : ∃ p, toldG L = p := ⟨_, rfl⟩
  rw [hp] at HP0 hsl ⊢
  have HP : Hid (toldG L = p) := hp
  have HPK : Hid (GtOk p) := HP0.out.1
  have HGD : Hid (toldGood L) := HP0.out.2
  clear hp HP0 hgood
  have HSB : Hid (SbE w1 E vb p.by_ ∧ Only [] w w1) := ⟨slB_sbE hsl hnew HB.out.1.lt, o1⟩
  obtain ⟨ab, cb, rfl, _⟩ := ownB_at hsl
  clear hsl hnew o1
  go_upto_region 2 with fail
  have H2 : Hid _ := PrAt.new w1 p (.slice ab p.by_.length cb)
  revert H2
  generalize hkp : w1.heap.size = kp
  have HKP : Hid (w1.heap.size = kp) := hkp
  generalize World.alloc w1 _ = w2
  intro H2
  clear hkp
  obtain ⟨vb, hvb⟩ : ∃ vb, vb = Value.slice ab p.by_.length cb := ⟨_, rfl⟩
  rw [← hvb] at H2 HSB ⊢
  clear hvb
  have HC : Hid (RCA E w2 y yv vg J nw KL ∧ SbE w2 E vb p.by_ ∧ Only [] w w2 ∧ w.heap.size ≤ kp ∧ PrAt w2 kp p vb) := ⟨HB.out.1.keep (HSB.out.2.trans H2.out.2), HSB.out.1.keep H2.out.2, HSB.out.2.trans H2.out.2, by rw [← HKP.out]; exact HSB.out.2.size, H2.out.1⟩
  clear HSB H2 HKP
  obtain ⟨c0, c1, c2⟩ := HC.out.1.cl.cells
  obtain ⟨p0, p1, p2, p3, p4⟩ := HC.out.2.2.2.2.cells
  have HLATE : Hid _ := late_hd HC.out.1.ok HPK.out.st1
  obtain ⟨hd, hhd⟩ : ∃ hd, hdK KL = hd := ⟨_, rfl⟩
  rw [hhd] at HLATE
  have HHD : Hid (hdK KL = hd) := hhd
  clear hhd
  by_cases l1 : p.st ≤ nw
  · have d1 : decide (p.st ≤ nw) = true := decide_eq_true l1
    have HL : Hid (lateC (stC J nw KL) p = true) := by show _ = _; rw [HLATE.out, d1]; rfl
    clear l1
    go_quiet (fail)
    go_wp2_with fail
    exact bodyPost_ret (v := .bool false) (by simp [results, Try.results20, go_sem]) rfl (RFeedPost.same HB.out.1 HB.out.2.2.2.2 (HC.out.2.2.1.trans (only_drewN w2 nq)) (by rw [feedL_good HGD.out, HP.out]; exact feed_late HL.out))
  have d1 : decide (p.st ≤ nw) = false := decide_eq_false l1
  have HNW : Hid (nw < p.st) := by show nw < p.st; omega
  have HD1 : Hid (decide (p.st ≤ nw) = false) := d1
  go_quiet (fail)
  clear d1 l1
  obtain ⟨w3, hw3⟩ : ∃ w3, w3 = w2.drewN nq := ⟨_, rfl⟩
  rw [← hw3]
  have o3 : Only [] w2 w3 := by rw [hw3]; exact only_drewN w2 nq
  have H3 : Hid (RCA E w3 y yv vg J nw KL ∧ SbE w3 E vb p.by_ ∧ Only [] w w3 ∧ w.heap.size ≤ kp ∧ PrAt w3 kp p vb) := ⟨HC.out.1.keep o3, HC.out.2.1.keep o3, HC.out.2.2.1.trans o3, HC.out.2.2.2.1, HC.out.2.2.2.2.only o3 (by simp)⟩
  clear hw3 o3 c0 c1 c2 p0 p1 p2 p3 p4 HC
  have HVG : Hid (∃ ag cg, vg = .slice ag KL.length cg) := ownN_shape HB.out.1.gr
  go_upto_region 4 with fail
  go_cut [52] from 35 (fun s52 wx => s52 = .bool (decide (p.st < hd.st)) ∧ Hid (RCA E wx y yv vg J nw KL ∧ SbE wx E vb p.by_ ∧ Only [] w wx ∧ w.heap.size ≤ kp ∧ PrAt wx kp p vb))
  case first =>
    obtain ⟨c0, c1, c2⟩ := H3.out.1.cl.cells
    obtain ⟨p0, p1, p2, p3, p4⟩ := H3.out.2.2.2.2.cells
    by_cases hk0 : 0 < KL.length
    · obtain ⟨g, cg, hvg, z0⟩ := got_first H3.out.1.gr hk0
      rw [HHD.out] at z0
      have HVS : Hid (vg = .slice (some ⟨g, 0, none⟩) KL.length cg) := hvg
      rw [hvg] at c2
      have d0 : decide ((KL.length : Int) > 0) = true := decide_eq_true (by omega)
      have hkl : (0 : Int) < (KL.length : Int) := by omega
      clear hvg
      go_quiet (fail)
      go_wp2_with fail
      go_meet
      case rel => exact ⟨rfl, H3.out.1.keep (only_drewN w3 nq), H3.out.2.1.keep (only_drewN w3 nq), H3.out.2.2.1.trans (only_drewN w3 nq), H3.out.2.2.2.1, H3.out.2.2.2.2.only (only_drewN w3 nq) (by simp)⟩
    · obtain ⟨ag, cg, hvg⟩ := HVG.out
      have hk1 : KL.length = 0 := by omega
      have HD : Hid (decide (p.st < hd.st) = false) := by
        have : KL = [] := List.length_eq_zero_iff.1 hk1
        refine decide_eq_false ?_
        rw [← HHD.out, this]
        have := HPK.out.st1
        simp only [hdK]
        omega
      rw [hvg, hk1] at c2
      clear hvg hk0 hk1
      go_quiet (fail)
      go_wp2_with fail
      go_meet
      case rel => exact ⟨by rw [HD.out], H3.out.1.keep (only_drewN w3 nq), H3.out.2.1.keep (only_drewN w3 nq), H3.out.2.2.1.trans (only_drewN w3 nq), H3.out.2.2.2.1, H3.out.2.2.2.2.only (only_drewN w3 nq) (by simp)⟩
  case rest =>
    obtain ⟨rfl, H4⟩ := hcut
    generalize wc = w4 at H4 ⊢
    clear H3
    obtain ⟨bl, hbl⟩ : ∃ bl, decide (p.st < hd.st) = bl := ⟨_, rfl⟩
    rw [hbl]
    have HBL : Hid (decide (p.st < hd.st) = bl) := hbl
    clear hbl
    cases bl with
    | true =>
      have HL : Hid (lateC (stC J nw KL) p = true) := by show _ = _; rw [HLATE.out, HBL.out, Bool.or_true]
      go_wp2_with fail
      exact bodyPost_ret (v := .bool false) (by simp [results, Try.results20, go_sem]) rfl (RFeedPost.same HB.out.1 HB.out.2.2.2.2 H4.out.2.2.1 (by rw [feedL_good HGD.out, HP.out]; exact feed_late HL.out))
    | false =>
    have HL : Hid (lateC (stC J nw KL) p = false) := by show _ = _; rw [HLATE.out, HBL.out, HD1.out]; rfl
    obtain ⟨bt, hbt⟩ : ∃ bt, decide (0 < KL.length ∧ hd.st < p.st) = bt := ⟨_, rfl⟩
    have HBT : Hid (decide (0 < KL.length ∧ hd.st < p.st) = bt) := hbt
    clear hbt
    go_upto_region 6 with fail
    go_cut [70] from 53 (fun s70 wx => s70 = .bool bt ∧ Hid (RCA E wx y yv vg J nw KL ∧ SbE wx E vb p.by_ ∧ Only [] w wx ∧ w.heap.size ≤ kp ∧ PrAt wx kp p vb))
    case first =>
      obtain ⟨c0, c1, c2⟩ := H4.out.1.cl.cells
      obtain ⟨p0, p1, p2, p3, p4⟩ := H4.out.2.2.2.2.cells
      by_cases hk0 : 0 < KL.length
      · obtain ⟨g, cg, hvg, z0⟩ := got_first H4.out.1.gr hk0
        rw [HHD.out] at z0
        rw [hvg] at c2
        have d0 : decide ((KL.length : Int) > 0) = true := decide_eq_true (by omega)
        have hkl : (0 : Int) < (KL.length : Int) := by omega
        have HD3 : Hid (decide (p.st > hd.st) = bt) := by
          show _ = _
          rw [← HBT.out]
          simp [hk0]
        obtain ⟨b3, hb3⟩ : ∃ b3, decide (p.st > hd.st) = b3 := ⟨_, rfl⟩
        have HB3 : Hid (b3 = bt) := hb3.symm.trans HD3.out
        clear hvg HD3
        go_quiet (fail)
        go_wp2_with fail
        go_meet
        case rel => exact ⟨by rw [HB3.out], H4.out.1.keep (only_drewN w4 nq), H4.out.2.1.keep (only_drewN w4 nq), H4.out.2.2.1.trans (only_drewN w4 nq), H4.out.2.2.2.1, H4.out.2.2.2.2.only (only_drewN w4 nq) (by simp)⟩
      · obtain ⟨ag, cg, hvg⟩ := HVG.out
        have hk1 : KL.length = 0 := by omega
        have HD : Hid (bt = false) := by
          show _ = _
          rw [← HBT.out]
          simp [hk1]
        rw [hvg, hk1] at c2
        clear hvg hk0 hk1
        go_quiet (fail)
        go_wp2_with fail
        go_meet
        case rel => exact ⟨by rw [HD.out], H4.out.1.keep (only_drewN w4 nq), H4.out.2.1.keep (only_drewN w4 nq), H4.out.2.2.1.trans (only_drewN w4 nq), H4.out.2.2.2.1, H4.out.2.2.2.2.only (only_drewN w4 nq) (by simp)⟩
    case rest =>
    obtain ⟨rfl, H5⟩ := hcut
    generalize wc = w5 at H5 ⊢
    clear H4
    go_upto_if 70 with fail
    go_cut [4] from 71 (fun s4 wx => s4 = .bool false ∧ ∃ vg1 K1, Hid (RG E w y yv J nw KL kp p vb vg vg1 K1 wx))
    case first =>
      cases bt with
      | true =>
        have h1 := of_decide_eq_true HBT.out
        have HOLD : Hid (oldC (stC J nw KL) p = []) := old_new H5.out.1.ok (by rw [HHD.out]; exact h1.2)
        clear h1
        obtain ⟨c0, c1, c2⟩ := H5.out.1.cl.cells
        obtain ⟨ag, cg, hvg⟩ := HVG.out
        rw [hvg] at c2
        have f2 := H5.out.1.cl.free 2
        clear hvg
        go_wp2_with fail
        go_meet
        case rel =>
          refine ⟨rfl, .slice none 0 0, [], ?_⟩
          have hc := H5.out.1
          have o6 := only_one (y := y) w5 2 (.slice none 0 0)
          have hD : ∀ d ∈ [y], d ∈ E ∨ IsMap w5 d := fun d hd => Or.inl (by rw [List.mem_singleton.1 hd]; exact hc.yE)
          have hyv : yv ≠ y := fun q => isMap_ne hc.cl hc.vm.isMap q.symm
          exact ⟨hc.cl.put2 _, hc.vm.only o6 (by simpa using hyv), hc.vo.only o6 hD, World.ownsRow_nil _ _ _ _, fun b hb => (by cases hb), by simp, by simp, fun e he => Nat.lt_of_lt_of_le (hc.lt e he) o6.size, fun q => (by cases q), H5.out.2.1.only o6 hD, H5.out.2.2.2.2.only o6 (by
            have := HB.out.1.cl.lt
            have h2 := H5.out.2.2.2.1
            simp
            omega), H5.out.2.2.2.1, (H5.out.2.2.1.mono (by simp)).trans o6, HOLD.out.symm, Or.inl rfl, Or.inl rfl⟩
      | false =>
        have HOLD : Hid (gtK KL = oldC (stC J nw KL) p) := by
          have h1 := of_decide_eq_false HBT.out
          have h2 := of_decide_eq_false HBL.out
          by_cases hk0 : 0 < KL.length
          · exact (old_same H5.out.1.ok HPK.out.st1 (by rw [HHD.out]; have : ¬ hd.st < p.st := fun q => h1 ⟨hk0, q⟩; omega)).1.symm
          · have : KL = [] := List.length_eq_zero_iff.1 (by omega)
            subst this
            rfl
        go_wp2_with fail
        go_meet
        case rel => exact ⟨rfl, vg, KL, RG.start H5.out.1 H5.out.2.1 H5.out.2.2.2.2 H5.out.2.2.2.1 (H5.out.2.2.1.mono (by simp)) HOLD.out⟩
    case rest =>
    obtain ⟨rfl, vg1, K1, H6⟩ := hcut
    generalize wc = w6 at H6 ⊢
    clear H5 HBT HBL
    have HB8 : Hid (RCA E w y yv vg J nw KL ∧ (∀ e ∈ J, e.1 = 0 → e.2.2 = []) ∧ J.length ≤ 1000) := ⟨HB.out.1, HB.out.2.2.2.2, hJ⟩
    refine (‹∀ (a : Act) (w_1 : World), Code.wp Try.prog _ (bodyPost Try.prog Try.f20 (RFeedPost ora E y yv vg J nw KL L w)) a w_1 → _›) _ _ ?_
    exact feed_8 E y yv vg J nw KL L w kp p vb vg1 K1 w6 _ _ _ _ _ _ _ _ _ _ _ _ _ _ _ _ _ _ _ _ _ _ _ _ _ _ _ _ _ _ _ _ _ _ _ _ _ _ _ _ _ _ _ _ _ _ _ _ _ _ _ _ _ _ _ _ _ _ _ _ _ _ _ _ _ _ _ _ _ _ _ _ _ _ _ _ _ _ _ _ _ _ _ _ _ _ _ _ _ _ _ _ _ _ _ _ _ _ _ _ _ _ _ _ _ _ _ _ _ _ _ _ _ _ _ _ _ _ _ _ _ _ _ _ _ _ _ _ _ _ _ _ _ _ _ _ _ _ _ _ _ _ _ _ _ _ _ _ _ _ _ _ _ _ _ _ _ _ _ _ _ _ _ _ _ _ _ _ _ _ _ _ _ _ _ _ _ _ _ _ _ _ _ _ _ _ _ _ _ _ _ _ _ _ _ _ _ _ _ _ _ HB8 HP HPK HGD HNW HL H6
end Go.Proofs.Ytedhdmahdioboaa
