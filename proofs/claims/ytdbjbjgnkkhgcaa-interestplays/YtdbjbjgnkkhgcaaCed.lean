/- interest.Grid.Sees: whatever the grid and the eye. -/
import Derived.Test.YtdbjbjgnkkhgcaaCec
import Derived.Test.YtdbjbjgnkkhgcaaRnd
namespace Go.Proofs.Ytdbjbjgnkkhgcaa
open Go.ChangeShapes Go.WideShapes Go.ChangeAt Go.RowKit Go.Shelf
set_option linter.unusedVariables false
set_option linter.unusedSimpArgs false
set_option linter.unusedSectionVars false
variable [DecidableEq Cel]

attribute [local go_sem] Oper.semAt_some

theorem callV {m f : Nat} {args : Array Value} {w : World} {R R' : Ending → World → Prop} (h : Calls Try.prog f args w R) (k : ∀ e w', R e w' → R' e w') : Fence.wide.fn f ∧ CallsIn Fence.wide m Try.prog f args w R' :=
  ⟨trivial, (callsIn_wide.2 h).mono k⟩
theorem callR {m f l : Nat} {args : Array Value} {w : World} {R R' : Ending → World → Prop} (h : Calls Try.prog f args w R) (k : ∀ e w', R e w' → R' e w') : (Fence.wide.inRound l).fn f ∧ CallsIn (Fence.wide.inRound l) m Try.prog f args w R' :=
  ⟨trivial, CallsIn.inRound l ((callsIn_wide.2 h).mono k)⟩
/-- What holds between two rounds: the list so far. -/
def SeI (w3 : World) (ki : Nat) (xs : List Int) (W : World) : Prop := (∃ v, W.heap[ki]? = some (.cells #[v] 42) ∧ W.ownsRow w3.heap.size 3 1 v xs.length (xs.map (Value.int .i64))) ∧ Only [ki] w3 W
theorem ownsRow_grown {B : Nat} {v : Value} {n : Nat} {xs : List Value} {W W' : World} (h : W.ownsRow B 3 1 v n xs) {row : Option Nat} (g : W.grownBy W' row) (hr : ∀ r, row = some r → ∃ o : Obj, W.heap[r]? = some o ∧ o.isCells = false) : W'.ownsRow B 3 1 v n xs := by
  obtain ⟨h1, h2⟩ := h
  refine ⟨h1, ?_⟩
  rcases h2 with h2 | ⟨b, cap, cur, rfl, hb, hg, r⟩
  · exact Or.inl h2
  · refine Or.inr ⟨b, cap, cur, rfl, hb, (g.block b (Array.getElem?_eq_some_iff.1 hg).1 (fun e => ?_)).trans hg, r⟩
    obtain ⟨o, ho, hc⟩ := hr b e.symm
    rw [hg] at ho
    injection ho with ho
    subst ho
    cases hc
theorem SeI.own (w3 : World) (ki : Nat) (f : List Cel → List Int) : OwnFrom w3.heap.size (fun pre W => SeI w3 ki (f pre) W) := by
  intro s A B row hs hg hr
  obtain ⟨⟨v, h1, h2⟩, h3⟩ := hs
  refine ⟨⟨v, (hg.block ki (Array.getElem?_eq_some_iff.1 h1).1 (fun e => ?_)).trans h1, ownsRow_grown h2 hg (fun r e => (hr r e).2)⟩, h3.grown hg (fun k e => Or.inr (hr k e).1)⟩
  obtain ⟨o, ho, hc⟩ := (hr ki e.symm).2
  rw [h1] at ho
  injection ho with ho
  subst ho
  cases hc
theorem ownsRow_base {B : Nat} {e : TypeId} {v : Value} {n : Nat} {xs : List Value} {W : World} (h : W.ownsRow B e 1 v n xs) {b : Nat} (hb : v.ownBlock = some b) : B ≤ b ∧ ∃ o : Obj, W.heap[b]? = some o ∧ o.isCells = true := by
  obtain ⟨h1, ⟨rfl, h2⟩ | ⟨g, cap, cur, rfl, h3, hg, r⟩⟩ := h
  · cases hb
  · injection hb with hb; subst hb; exact ⟨h3, _, hg, rfl⟩
theorem ownsRow_set {B : Nat} {e : TypeId} {v : Value} {n : Nat} {xs : List Value} {W : World} (h : W.ownsRow B e 1 v n xs) (k : Nat) (hk : ∀ b, v.ownBlock = some b → b ≠ k) (u : Value) : (W.setCell ⟨k, 0, none⟩ u).ownsRow B e 1 v n xs := by
  obtain ⟨h1, h2⟩ := h
  refine ⟨h1, ?_⟩
  rcases h2 with h2 | ⟨g, cap, cur, rfl, h3, hg, r⟩
  · exact Or.inl h2
  · exact Or.inr ⟨g, cap, cur, rfl, h3, (Below.heap_setCell _ _ _ _ (hk g rfl)).trans hg, r⟩
def SeesPost (w : World) (xs : List Int) (e : Ending) (w' : World) : Prop :=
  ∃ v, e = .returned v ∧ SlInts w' v (sortZ xs) ∧ Only [] w w' ∧ ∀ b ∈ ownL v, w.heap.size ≤ b
set_option maxRecDepth 100000 in
set_option maxHeartbeats 4000000 in
theorem sees_calls (x : Nat) (D : List Nat) (G : List (Cel × Spt)) (ax ay az far tm : Int) (w : World) (h : GridOf w x D G) (hf : 0 ≤ far) :
    Calls Try.prog 11 #[.pointer (some ⟨x, 0, none⟩), .agg #[.int .i64 ax, .int .i64 ay, .int .i64 az, .int .i64 far, .int .i64 tm]] w (SeesPost w (seenG G ⟨sub ax far, sub ay far, sub az far, add ax far, add ay far, add az far⟩ tm)) := by
  have HG : Hid (GridOf w x D G) := h
  have tf : decide (far < 0) = false := by simpa using hf
  clear h
  refine (callsIn_wide (n := 6)).1 ?_
  refine callsIn_of_wp_marks Try.func11 rfl trivial ?_ rfl
  simp only [Try.ntmps11, List.size_toArray, List.length_cons, List.length_nil, Nat.reduceAdd, Nat.reduceSub, Array.replicate_succ, Array.replicate_zero, List.push_toArray, List.append_toArray, List.nil_append, List.cons_append]
  gi_wp2
  refine callV (gfat_calls ax ay az ax ay az far _) ?_
  rintro e w1 ⟨rfl, k1⟩
  obtain ⟨q, hq⟩ : ∃ q : Bx, q = ⟨sub ax far, sub ay far, sub az far, add ax far, add ay far, add az far⟩ := ⟨_, rfl⟩
  have e0 : sub ax far = q.x0 := by rw [hq]
  have e1 : sub ay far = q.x1 := by rw [hq]
  have e2 : sub az far = q.x2 := by rw [hq]
  have e3 : add ax far = q.x3 := by rw [hq]
  have e4 : add ay far = q.x4 := by rw [hq]
  have e5 : add az far = q.x5 := by rw [hq]
  simp only [e0, e1, e2, e3, e4, e5]
  have HQ : Hid (q = ⟨sub ax far, sub ay far, sub az far, add ax far, add ay far, add az far⟩) := hq
  clear e0 e1 e2 e3 e4 e5 hq
  gi_upto_region 5 with fail
  obtain ⟨ke, hke⟩ : ∃ ke, w.heap.size + 1 = ke := ⟨_, rfl⟩
  obtain ⟨ki, hki⟩ : ∃ ki, w1.heap.size + 1 = ki := ⟨_, rfl⟩
  have H1 : Hid (Only [] w ((w1.alloc (.cells #[.int .i64 (q.x0), .int .i64 (q.x1), .int .i64 (q.x2), .int .i64 (q.x3), .int .i64 (q.x4), .int .i64 (q.x5)] 58)).alloc (.cells #[.slice none 0 0] 42)) ∧
      ((w1.alloc (.cells #[.int .i64 (q.x0), .int .i64 (q.x1), .int .i64 (q.x2), .int .i64 (q.x3), .int .i64 (q.x4), .int .i64 (q.x5)] 58)).alloc (.cells #[.slice none 0 0] 42)).heap[w.heap.size]? = some (.cells #[.pointer (some ⟨x, 0, none⟩)] 23) ∧
      ((w1.alloc (.cells #[.int .i64 (q.x0), .int .i64 (q.x1), .int .i64 (q.x2), .int .i64 (q.x3), .int .i64 (q.x4), .int .i64 (q.x5)] 58)).alloc (.cells #[.slice none 0 0] 42)).heap[ke]? = some (.cells #[.int .i64 ax, .int .i64 ay, .int .i64 az, .int .i64 far, .int .i64 tm] 33) ∧
      ((w1.alloc (.cells #[.int .i64 (q.x0), .int .i64 (q.x1), .int .i64 (q.x2), .int .i64 (q.x3), .int .i64 (q.x4), .int .i64 (q.x5)] 58)).alloc (.cells #[.slice none 0 0] 42)).heap[w1.heap.size]? = some (.cells #[.int .i64 (q.x0), .int .i64 (q.x1), .int .i64 (q.x2), .int .i64 (q.x3), .int .i64 (q.x4), .int .i64 (q.x5)] 58) ∧
      ((w1.alloc (.cells #[.int .i64 (q.x0), .int .i64 (q.x1), .int .i64 (q.x2), .int .i64 (q.x3), .int .i64 (q.x4), .int .i64 (q.x5)] 58)).alloc (.cells #[.slice none 0 0] 42)).heap[ki]? = some (.cells #[.slice none 0 0] 42) ∧ w.heap.size < ke ∧ ke < w1.heap.size ∧ w1.heap.size < ki) := by
    have hs := k1.below.size
    simp only [World.size_alloc] at hs
    have oA : Only [] w w1 := (((Only.refl [] w).alloc _).alloc _).trans (Only.of_kept k1)
    have o2 : Only [] w1 ((w1.alloc (.cells #[.int .i64 (q.x0), .int .i64 (q.x1), .int .i64 (q.x2), .int .i64 (q.x3), .int .i64 (q.x4), .int .i64 (q.x5)] 58)).alloc (.cells #[.slice none 0 0] 42)) := ((Only.refl [] w1).alloc _).alloc _
    have g1 : w1.heap[w.heap.size]? = some (.cells #[.pointer (some ⟨x, 0, none⟩)] 23) := (k1.below.block _ (by simp; omega)).trans ((Below.heap_alloc _ _ _ (by simp)).trans (MapKept.heap_alloc w _).1)
    have g2 : w1.heap[ke]? = some (.cells #[.int .i64 ax, .int .i64 ay, .int .i64 az, .int .i64 far, .int .i64 tm] 33) := by
      have h3 := (MapKept.heap_alloc (w.alloc (.cells #[.pointer (some ⟨x, 0, none⟩)] 23)) (.cells #[.int .i64 ax, .int .i64 ay, .int .i64 az, .int .i64 far, .int .i64 tm] 33)).1
      rw [World.size_alloc, hke] at h3
      exact (k1.below.block _ (by simp; omega)).trans h3
    refine ⟨oA.trans o2, (o2.block _ (by omega) (by simp)).trans g1, (o2.block _ (by omega) (by simp)).trans g2, (Below.heap_alloc _ _ _ (by simp)).trans (MapKept.heap_alloc w1 _).1, ?_, by omega, by omega, by omega⟩
    have := (MapKept.heap_alloc (w1.alloc (.cells #[.int .i64 (q.x0), .int .i64 (q.x1), .int .i64 (q.x2), .int .i64 (q.x3), .int .i64 (q.x4), .int .i64 (q.x5)] 58)) (.cells #[.slice none 0 0] 42)).1
    rw [← hki]
    simpa using this
  rw [hke, hki]
  revert H1
  generalize hkg : w.heap.size = kg
  generalize hks : w1.heap.size = ks
  generalize World.alloc (World.alloc w1 _) _ = w2
  intro H1
  have HK : Hid (w.heap.size = kg) := hkg
  clear hkg hks hke hki k1
  have cg : w2.cell? ⟨kg, 0, none⟩ = some (.pointer (some ⟨x, 0, none⟩)) := by simp only [World.cell?, H1.out.2.1]; rfl
  have s0 : w2.cell? ⟨ks, 0, none⟩ = some (.int .i64 (q.x0)) := by simp only [World.cell?, H1.out.2.2.2.1]; rfl
  have s1 : w2.cell? ⟨ks, 1, none⟩ = some (.int .i64 (q.x1)) := by simp only [World.cell?, H1.out.2.2.2.1]; rfl
  have s2 : w2.cell? ⟨ks, 2, none⟩ = some (.int .i64 (q.x2)) := by simp only [World.cell?, H1.out.2.2.2.1]; rfl
  have s3 : w2.cell? ⟨ks, 3, none⟩ = some (.int .i64 (q.x3)) := by simp only [World.cell?, H1.out.2.2.2.1]; rfl
  have s4 : w2.cell? ⟨ks, 4, none⟩ = some (.int .i64 (q.x4)) := by simp only [World.cell?, H1.out.2.2.2.1]; rfl
  have s5 : w2.cell? ⟨ks, 5, none⟩ = some (.int .i64 (q.x5)) := by simp only [World.cell?, H1.out.2.2.2.1]; rfl
  gi_wp2
  refine callV (near_calls x D G q w2 (HG.out.only H1.out.1 (by simp))) ?_
  rintro e w3 ⟨gf, lb, Bs, N, rfl, hent, hseq, hN, hBs, o3⟩
  clear cg s0 s1 s2 s3 s4 s5
  obtain ⟨mc, mh, L, HL⟩ : ∃ mc mh L, Hid (GridIs w x mc mh L ∧ D = gridD x mc mh L ∧ (flatC L).Perm G) := HG.out
  have H3 : Hid (Only [] w w3 ∧ w3.heap[kg]? = some (.cells #[.pointer (some ⟨x, 0, none⟩)] 23) ∧ w3.heap[ke]? = some (.cells #[.int .i64 ax, .int .i64 ay, .int .i64 az, .int .i64 far, .int .i64 tm] 33) ∧ w3.heap[ks]? = some (.cells #[.int .i64 (q.x0), .int .i64 (q.x1), .int .i64 (q.x2), .int .i64 (q.x3), .int .i64 (q.x4), .int .i64 (q.x5)] 58) ∧ w3.heap[ki]? = some (.cells #[.slice none 0 0] 42) ∧ kg < ke ∧ ke < ks ∧ ks < ki ∧ ki < w3.heap.size ∧ (∀ b ∈ Bs, b < w3.heap.size ∧ ki < b)) := by
    obtain ⟨q1, q2, q3, q4, q5, q6, q7, q8⟩ := H1.out
    have l5 := (Array.getElem?_eq_some_iff.1 q5).1
    exact ⟨q1.trans o3, (o3.block kg (by omega) (by simp)).trans q2, (o3.block ke (by omega) (by simp)).trans q3, (o3.block ks (by omega) (by simp)).trans q4, (o3.block ki (by omega) (by simp)).trans q5, q6, q7, q8, Nat.lt_of_lt_of_le l5 o3.size, fun b hb => ⟨(hBs b hb).1, Nat.lt_of_lt_of_le l5 (hBs b hb).2⟩⟩
  have HB : Hid (∀ b ∈ Bs, b < w3.heap.size) := fun b hb => (hBs b hb).1
  clear H1 o3 hBs
  gi_wp2
  refine wpIn_rangeFunc_ownH rfl (by omega) (gf := gf) (lb := lb) rfl trivial hent (hseq 5) KpB.t (KpB.b HB.out) (Below.refl _ _) (fun _ => rfl)
    (fun pre W => SeI w3 ki (idsP L q tm pre) W) (fun _ _ _ => False) (SeI.own w3 ki _) (fun _ _ _ _ _ hs _ _ => hs)
    ⟨⟨_, H3.out.2.2.2.2.1, World.ownsRow_nil _ _ _ _⟩, Only.refl _ _⟩
    (fun c a' W => ∃ kc, w3.heap.size ≤ kc ∧ W.heap[kc]? = some (.cells #[.int .i64 ((c.x.val : Int)), .int .i64 ((c.y.val : Int)), .int .i64 ((c.z.val : Int))] 54) ∧ a' = { tmps := #[.pointer (some ⟨x, 0, none⟩), .agg #[.int .i64 ax, .int .i64 ay, .int .i64 az, .int .i64 far, .int .i64 tm], .pointer (some ⟨kg, 0, none⟩), .pointer (some ⟨ke, 0, none⟩), .slice none 0 0, .pointer (some ⟨ks, 0, none⟩), .pointer (some ⟨ki, 0, none⟩), .pointer (some ⟨kc, 0, none⟩), undef, undef, .pointer (some ⟨ke, 3, none⟩), .int .i64 far, .bool false, .pointer (some ⟨ke, 0, none⟩), .agg #[.int .i64 ax, .int .i64 ay, .int .i64 az], .pointer (some ⟨ke, 0, none⟩), .agg #[.int .i64 ax, .int .i64 ay, .int .i64 az], .agg #[.int .i64 ax, .int .i64 ay, .int .i64 az, .int .i64 ax, .int .i64 ay, .int .i64 az], .pointer (some ⟨ke, 3, none⟩), .int .i64 far, .agg #[.int .i64 (q.x0), .int .i64 (q.x1), .int .i64 (q.x2), .int .i64 (q.x3), .int .i64 (q.x4), .int .i64 (q.x5)], .pointer (some ⟨x, 0, none⟩), .agg #[.int .i64 (q.x0), .int .i64 (q.x1), .int .i64 (q.x2), .int .i64 (q.x3), .int .i64 (q.x4), .int .i64 (q.x5)], .func (.func gf) #[] lb, celV c, undef, undef, undef, undef, undef, undef, undef, undef, undef, undef, undef, undef, undef, undef, undef, undef, undef, undef, undef, undef, undef, undef, undef, undef, undef, undef, undef, undef, undef, undef, undef, undef], defers := [] })
    ?hAx ?assign ?body ?done ?stop
  case hAx =>
    intro c a' s A B row hs hg hr
    obtain ⟨kc, h1, h2, h3⟩ := hs
    refine ⟨kc, h1, (hg.block kc (Array.getElem?_eq_some_iff.1 h2).1 (fun e => ?_)).trans h2, h3⟩
    obtain ⟨o, ho, hc⟩ := (hr kc e.symm).2
    rw [h2] at ho
    injection ho with ho
    subst ho
    cases hc
  case assign =>
    rintro l pre c W K hi hK
    unfold celV
    gi_wp2
    refine hK _ _ ((KeepsOthers.alloc _ _).from _) ⟨fun b hb => Below.heap_alloc _ _ _ (Nat.lt_of_lt_of_le (HB.out b hb) hi.2.size), (KeepsOthers.alloc _ _).walks⟩ ((SeI.own w3 ki (idsP L q tm)).alloc _ hi) ⟨W.heap.size, hi.2.size, (MapKept.heap_alloc W _).1, rfl⟩
  case body =>
    rintro l pre c a' W hl hr hi ⟨kc, hkc, hc, rfl⟩ hlt
    obtain ⟨⟨v, hv, hrow⟩, hO⟩ := hi
    have oW : Only [] w W := H3.out.1.then hO (fun b hb => by
      simp only [List.mem_singleton] at hb
      have h1 := H3.out
      have h2 := HK.out
      right; omega)
    have HW : Hid (SeI w3 ki (idsP L q tm pre) W ∧ GridIs W x mc mh L ∧ w3.heap.size ≤ kc ∧ W.heap[kc]? = some (.cells #[.int .i64 ((c.x.val : Int)), .int .i64 ((c.y.val : Int)), .int .i64 ((c.z.val : Int))] 54) ∧ pre.length < N) := ⟨⟨⟨v, hv, hrow⟩, hO⟩, HL.out.1.only oW (by simp), hkc, hc, hlt⟩
    have hnk : ∀ b, b < ki → W.heap[b]? = w3.heap[b]? := fun b hb => hO.block b (by have := H3.out; omega) (by simp; omega)
    have g1 := (hnk kg (by have := H3.out; omega)).trans H3.out.2.1
    have g2 := (hnk ke (by have := H3.out; omega)).trans H3.out.2.2.1
    have g3 := (hnk ks (by have := H3.out; omega)).trans H3.out.2.2.2.1
    have HB2 : Hid (W.heap[kg]? = some (.cells #[.pointer (some ⟨x, 0, none⟩)] 23) ∧ W.heap[ke]? = some (.cells #[.int .i64 ax, .int .i64 ay, .int .i64 az, .int .i64 far, .int .i64 tm] 33) ∧ W.heap[ks]? = some (.cells #[.int .i64 (q.x0), .int .i64 (q.x1), .int .i64 (q.x2), .int .i64 (q.x3), .int .i64 (q.x4), .int .i64 (q.x5)] 58)) := ⟨g1, g2, g3⟩
    clear hnk g1 g2 g3 oW hO hrow hv hkc hc hlt hl hr
    obtain ⟨d1, d2, d3, hci⟩ : ∃ d1 d2 d3 : Int, celV c = .agg #[.int .i64 d1, .int .i64 d2, .int .i64 d3] ∧ W.cell? ⟨kc, 0, none⟩ = some (.int .i64 d1) ∧ W.cell? ⟨kc, 1, none⟩ = some (.int .i64 d2) ∧ W.cell? ⟨kc, 2, none⟩ = some (.int .i64 d3) := by
      refine ⟨_, _, _, rfl, ?_, ?_, ?_⟩ <;> (simp only [World.cell?, HW.out.2.2.2.1]; rfl)
    obtain ⟨hci, m1, m2, m3⟩ := hci
    obtain ⟨sa, cap, HLK⟩ : ∃ sa cap, Hid ((∀ w x mc mh, GridIs w x mc mh L → (Instr.lookup 46 (.map (some mc)) (celV c) false).run Try.prog w = .ok (.slice sa (spotsAt L c).length cap) w) ∧ (spotsAt L c ≠ [] → ∃ g, sa = some ⟨g, 0, none⟩ ∧ ∀ w x mc mh, GridIs w x mc mh L → RowS w g cap (spotsAt L c)) ∧ (spotsAt L c).length ≤ 1000) := lookC L c HL.out.1.few
    rw [hci]
    have hlk : ∀ k, (Instr.lookup 46 (.map (some mc)) (.agg #[.int .i64 d1, .int .i64 d2, .int .i64 d3]) false).run Try.prog (W.drewN k) = .ok (.slice sa (spotsAt L c).length cap) (W.drewN k) := fun k => by
      rw [← hci]
      exact HLK.out.1 _ _ _ _ (HW.out.2.1.only (Only.drewN (D := []) W k) (by simp))
    clear hci
    have c1 : W.cell? ⟨kg, 0, none⟩ = some (.pointer (some ⟨x, 0, none⟩)) := by simp only [World.cell?, HB2.out.1]; rfl
    have c2 : W.cell? ⟨x, 0, none⟩ = some (.map (some mc)) := by simp only [World.cell?, HW.out.2.1.at_]; rfl
    generalize hns : (spotsAt L c).length = ns at hlk
    have HNS : Hid ((spotsAt L c).length = ns ∧ ns ≤ 1000) := ⟨hns, by have := HLK.out.2.2; omega⟩
    have hns1 : ns ≤ 1000 := HNS.out.2
    clear hns
    dsimp only
    gi_upto_region 7 with fail
    refine region_round rfl (by kernel_rfl) (by kernel_rfl) (by kernel_rfl) ?_
    repeat (gi_big_quiet_step (fail))
    refine wpQuietIn_nil ?_
    intro _ hw'
    obtain ⟨nq, hw''⟩ := hw'
    subst hw''
    have H5 : Hid (SeI w3 ki (idsP L q tm pre) (W.drewN nq) ∧ KeepsOthers W (W.drewN nq)) := by
      obtain ⟨⟨v, h1, h2⟩, h3⟩ := HW.out.1
      exact ⟨⟨⟨v, h1, h2⟩, h3.trans (Only.drewN _ _)⟩, ⟨Nat.le_refl _, fun _ _ h _ => h⟩⟩
    clear hlk c1 c2 m1 m2 m3
    revert H5
    generalize World.drewN W nq = W4
    intro H5
    gi_wp2
    gi_loopg [32] (ns + 1) (fun k idx wr => ∃ i : Nat, idx = .int .i64 (i : Int) ∧ Hid (i ≤ ns ∧ k = ns + 1 - i) ∧ Hid (SeI w3 ki (idsP L q tm pre ++ (((spotsAt L c).take i).filter (seenB q tm)).map Spt.id) wr ∧ KeepsOthers W wr))
    case atStart => exact ⟨0, rfl, ⟨by omega, rfl⟩, by simpa using H5.out.1, H5.out.2⟩
    case round =>
      obtain ⟨i, rfl, H6, H7⟩ := hrel
      have hi6 := H6.out.1
      by_cases hin : i < ns
      · have tin : (i : Int) < (ns : Int) := by omega
        have hil : i < (spotsAt L c).length := by rw [HNS.out.1]; exact hin
        obtain ⟨g, hsa, hrow0⟩ := HLK.out.2.1 (by intro e; rw [e] at hil; simp at hil)
        have oWr : Only [] w wr := H3.out.1.then H7.out.1.2 (fun b hb => by
          simp only [List.mem_singleton] at hb
          have h1 := H3.out
          have h2 := HK.out
          right; omega)
        have hrow := hrow0 _ _ _ _ (HL.out.1.only oWr (by simp))
        subst hsa
        generalize hs : (spotsAt L c)[i] = s
        have c0 := hrow.cell hil (k := 0) (by omega)
        have c1 := hrow.cell hil (k := 1) (by omega)
        have c2 := hrow.cell hil (k := 2) (by omega)
        have c3 := hrow.cell hil (k := 3) (by omega)
        have c4 := hrow.cell hil (k := 4) (by omega)
        have c5 := hrow.cell hil (k := 5) (by omega)
        have c6 := hrow.cell hil (k := 6) (by omega)
        have c7 := hrow.cell hil (k := 7) (by omega)
        simp only [hs, spC, Nat.add_zero] at c0 c1 c2 c3 c4 c5 c6 c7
        have HSS : Hid ((spotsAt L c)[i]? = some s) := by rw [← hs]; exact List.getElem?_eq_getElem hil
        clear hs hrow hrow0
        gi_upto_region 10 with fail
        have H8 : Hid (SeI w3 ki (idsP L q tm pre ++ (((spotsAt L c).take i).filter (seenB q tm)).map Spt.id) (wr.alloc (.cells #[.int .i64 (s.id), .int .i64 (s.tm), .int .i64 (s.bx.x0), .int .i64 (s.bx.x1), .int .i64 (s.bx.x2), .int .i64 (s.bx.x3), .int .i64 (s.bx.x4), .int .i64 (s.bx.x5)] 61)) ∧ KeepsOthers W (wr.alloc (.cells #[.int .i64 (s.id), .int .i64 (s.tm), .int .i64 (s.bx.x0), .int .i64 (s.bx.x1), .int .i64 (s.bx.x2), .int .i64 (s.bx.x3), .int .i64 (s.bx.x4), .int .i64 (s.bx.x5)] 61)) ∧ (wr.alloc (.cells #[.int .i64 (s.id), .int .i64 (s.tm), .int .i64 (s.bx.x0), .int .i64 (s.bx.x1), .int .i64 (s.bx.x2), .int .i64 (s.bx.x3), .int .i64 (s.bx.x4), .int .i64 (s.bx.x5)] 61)).heap[wr.heap.size]? = some (.cells #[.int .i64 (s.id), .int .i64 (s.tm), .int .i64 (s.bx.x0), .int .i64 (s.bx.x1), .int .i64 (s.bx.x2), .int .i64 (s.bx.x3), .int .i64 (s.bx.x4), .int .i64 (s.bx.x5)] 61) ∧ w3.heap.size ≤ wr.heap.size) :=
          ⟨(SeI.own w3 ki (fun _ => idsP L q tm pre ++ (((spotsAt L c).take i).filter (seenB q tm)).map Spt.id)).alloc (s := []) _ H7.out.1, H7.out.2.trans (KeepsOthers.alloc _ _), (MapKept.heap_alloc wr _).1, H7.out.1.2.size⟩
        revert H8
        generalize wr.heap.size = kp
        generalize World.alloc wr _ = w5
        intro H8
        clear c0 c1 c2 c3 c4 c5 c6 c7 oWr H7
        have HSP : Hid (∀ w', Only [ki] w3 w' → w'.heap[kp]? = w5.heap[kp]? → w'.cell? ⟨kp, 0, none⟩ = some (.int .i64 (s.id)) ∧ w'.cell? ⟨kp, 1, none⟩ = some (.int .i64 (s.tm)) ∧ w'.cell? ⟨kp, 2, none⟩ = some (.int .i64 (s.bx.x0)) ∧ w'.cell? ⟨kp, 3, none⟩ = some (.int .i64 (s.bx.x1)) ∧ w'.cell? ⟨kp, 4, none⟩ = some (.int .i64 (s.bx.x2)) ∧ w'.cell? ⟨kp, 5, none⟩ = some (.int .i64 (s.bx.x3)) ∧ w'.cell? ⟨kp, 6, none⟩ = some (.int .i64 (s.bx.x4)) ∧ w'.cell? ⟨kp, 7, none⟩ = some (.int .i64 (s.bx.x5)) ∧ w'.cell? ⟨ke, 4, none⟩ = some (.int .i64 tm) ∧ w'.cell? ⟨ks, 0, none⟩ = some (.int .i64 (q.x0)) ∧ w'.cell? ⟨ks, 1, none⟩ = some (.int .i64 (q.x1)) ∧ w'.cell? ⟨ks, 2, none⟩ = some (.int .i64 (q.x2)) ∧ w'.cell? ⟨ks, 3, none⟩ = some (.int .i64 (q.x3)) ∧ w'.cell? ⟨ks, 4, none⟩ = some (.int .i64 (q.x4)) ∧ w'.cell? ⟨ks, 5, none⟩ = some (.int .i64 (q.x5))) := fun w' o hb => by
          have t1 := hb.trans H8.out.2.2.1
          have hh := H3.out
          have t2 := (o.block ke (by omega) (by simp; omega)).trans hh.2.2.1
          have t3 := (o.block ks (by omega) (by simp; omega)).trans hh.2.2.2.1
          refine ⟨?_, ?_, ?_, ?_, ?_, ?_, ?_, ?_, ?_, ?_, ?_, ?_, ?_, ?_, ?_⟩
          all_goals first | (simp only [World.cell?, t1]; rfl) | (simp only [World.cell?, t2]; rfl) | (simp only [World.cell?, t3]; rfl)
        obtain ⟨p0, p1, p2, p3, p4, p5, p6, p7, e4, r0, r1, r2, r3, r4, r5⟩ := HSP.out w5 H8.out.1.2 rfl
        cases htm : teamB s.tm tm
        · have HTM : Hid (teamB s.tm tm = false) := htm
          have tm1 : bits .and .i64 s.tm tm = 0 := by
            have : (bits .and .i64 s.tm tm != 0) = false := htm
            simpa using this
          clear htm
          gi_wp2
          refine ⟨trivial, ?_⟩
          gi_wp2
          gi_roundg (ns + 1 - (i + 1))
          case measure => have := H6.out.2; omega
          case rel =>
            refine ⟨i + 1, by go_num, ⟨by omega, rfl⟩, ?_, H8.out.2.1⟩
            rw [take_seen HSS.out, if_neg (by unfold seenB; rw [HTM.out]; simp), List.append_nil]
            exact H8.out.1
        · have HTM : Hid (teamB s.tm tm = true) := htm
          have tm1 : ¬ bits .and .i64 s.tm tm = 0 := by
            have : (bits .and .i64 s.tm tm != 0) = true := htm
            simpa using this
          have tm2 : (bits .and .i64 s.tm tm == 0) = false := by simpa using tm1
          have tm3 : (bits .and .i64 s.tm tm != 0) = true := by simpa using tm1
          clear htm
          obtain ⟨mb, hmb⟩ : ∃ mb, meetB s.bx.x0 s.bx.x1 s.bx.x2 s.bx.x3 s.bx.x4 s.bx.x5 q.x0 q.x1 q.x2 q.x3 q.x4 q.x5 = mb := ⟨_, rfl⟩
          have HMB : Hid (seenB q tm s = mb) := by show _ = _; unfold seenB; rw [HTM.out, hmb]; rfl
          gi_wp2
          refine callR (gmeet_calls s.bx.x0 s.bx.x1 s.bx.x2 s.bx.x3 s.bx.x4 s.bx.x5 q.x0 q.x1 q.x2 q.x3 q.x4 q.x5 _) ?_
          rintro e w6 ⟨rfl, k6⟩
          rw [hmb]
          have H9 : Hid (SeI w3 ki (idsP L q tm pre ++ (((spotsAt L c).take i).filter (seenB q tm)).map Spt.id) w6 ∧ KeepsOthers W w6 ∧ w6.heap[kp]? = w5.heap[kp]?) := by
            have g6 := kept_grown k6
            exact ⟨(SeI.own w3 ki (fun _ => idsP L q tm pre ++ (((spotsAt L c).take i).filter (seenB q tm)).map Spt.id)) [] _ _ none H8.out.1 g6 (by simp), H8.out.2.1.trans (KeepsOthers.of_grownBy g6 (by simp)), k6.below.block kp (Array.getElem?_eq_some_iff.1 H8.out.2.2.1).1⟩
          clear hmb k6 p0 p1 p2 p3 p4 p5 p6 p7 e4 r0 r1 r2 r3 r4 r5
          cases mb with
          | false =>
            gi_wp2
            gi_roundg (ns + 1 - (i + 1))
            case measure => have := H6.out.2; omega
            case rel =>
              refine ⟨i + 1, by go_num, ⟨by omega, rfl⟩, ?_, H9.out.2.1⟩
              rw [take_seen HSS.out, if_neg (by rw [HMB.out]; simp), List.append_nil]
              exact H9.out.1
          | true =>
            obtain ⟨p0, p1, p2, p3, p4, p5, p6, p7, e4, r0, r1, r2, r3, r4, r5⟩ := HSP.out w6 H9.out.1.2 H9.out.2.2
            clear p1 p2 p3 p4 p5 p6 p7 e4 r0 r1 r2 r3 r4 r5
            obtain ⟨R, hR⟩ : ∃ R, idsP L q tm pre ++ (((spotsAt L c).take i).filter (seenB q tm)).map Spt.id = R := ⟨_, rfl⟩
            have HR : Hid (idsP L q tm pre ++ (((spotsAt L c).take i).filter (seenB q tm)).map Spt.id = R ∧ R.length ≤ 9262000) := by
              refine ⟨hR, ?_⟩
              have h1 := idsP_len L HL.out.1.few q tm pre
              have h2 : ((((spotsAt L c).take i).filter (seenB q tm)).map Spt.id).length ≤ i := by
                rw [List.length_map]
                exact Nat.le_trans (List.length_filter_le _ _) (by rw [List.length_take]; omega)
              have h3 := HW.out.2.2.2.2
              have h4 : pre.length ≤ 9260 := by have := hN; omega
              rw [← hR, List.length_append]
              omega
            have hRl := HR.out.2
            have hS9 := H9.out.1
            rw [hR] at hS9
            clear hR
            obtain ⟨⟨v, hv, hrow⟩, hO⟩ := hS9
            have hvc : w6.cell? ⟨ki, 0, none⟩ = some v := by simp only [World.cell?, hv]; rfl
            have hvf : w6.frozen? ⟨ki, 0, none⟩ = false := by simp only [World.frozen?, hv]; rfl
            obtain ⟨i0, hi0, hz0, hz1, hz2⟩ := info_parts intInfo
            have hlen1 : R.length + 1 ≤ maxLen := by unfold maxLen; omega
            have hlen2 : (R.length + 1) * 8 ≤ 140737488355328 := by omega
            have hbs : w3.heap.size ≤ (w6.alloc (.cells #[.int .i64 (s.id)] 3)).heap.size := Nat.le_trans hO.size (by simp)
            have hrowA : (w6.alloc (.cells #[.int .i64 (s.id)] 3)).ownsRow w3.heap.size 3 1 v R.length (R.map (Value.int .i64)) := ownsRow_grown hrow (kept_grown ((Kept.refl w6).alloc _ _)) (by simp)
            have hkiW : ki < w6.heap.size := (Array.getElem?_eq_some_iff.1 hv).1
            have hkiO : some ki ≠ v.ownBlock := fun e => by
              have h1 := (ownsRow_base hrow e.symm).1
              have h2 := H3.out
              omega
            have hkA : (w6.alloc (.cells #[.int .i64 (s.id)] 3)).heap[ki]? = some (.cells #[v] 42) := (Below.heap_alloc _ _ _ hkiW).trans hv
            gi_wp2_with (gi_at_builtin; refine wpListIn_append_own _ rfl _ _ 42 rfl w3.heap.size 3 i0 (.int .i64 0) 1 8 Try.underlying42 hi0 hz0 hz1 hz2 rfl (by decide) v R.length (R.map (Value.int .i64)) rfl hrowA ⟨w6.heap.size, 0, none⟩ 1 1 [.int .i64 (s.id)] rfl rfl (cell_one_new _ _ _) (by simp [Value.oneCell']) hlen1 hlen2 hbs ?_; intro v' w7 hown' hgrow _; obtain ⟨g', cap', rfl⟩ := ownsRow_succ hown'; have hb7 : w7.heap[ki]? = some (.cells #[v] 42) := (hgrow.block ki (by simp; omega) hkiO).trans hkA; have hc7 : w7.cell? ⟨ki, 0, none⟩ = some v := (by simp only [World.cell?, hb7]; rfl); have hf7 : w7.frozen? ⟨ki, 0, none⟩ = false := (by simp only [World.frozen?, hb7]; rfl))
            gi_roundg (ns + 1 - (i + 1))
            case measure => have := H6.out.2; omega
            case rel =>
              have hg' : w3.heap.size ≤ g' := (ownsRow_base hown' rfl).1
              refine ⟨i + 1, by go_num, ⟨by omega, rfl⟩, ?_, ?_⟩
              · rw [take_seen HSS.out, if_pos HMB.out, ← List.append_assoc, HR.out.1]
                refine ⟨⟨_, heap_put hb7 0 _, ?_⟩, ?_⟩
                · have h1 := ownsRow_set (W := w7) hown' ki (fun b hb => by
                    injection hb with hb
                    have h2 := H3.out
                    simp only at hb
                    omega) (.slice (some ⟨g', 0, none⟩) (R.length + 1) cap')
                  simpa using h1
                · refine Only.setCell ?_ (Or.inl (by simp)) _
                  refine (hO.alloc _).grown hgrow (fun k hk => Or.inr (ownsRow_base hrow hk).1)
              · refine (H9.out.2.1.trans (KeepsOthers.alloc _ _)).trans ((KeepsOthers.of_grownBy hgrow (fun b o hb ho => ?_)).trans (KeepsOthers.setCell _ _ _))
                obtain ⟨o', h1, h2⟩ := (ownsRow_base hrowA hb).2
                rw [ho] at h1
                injection h1 with h1
                rw [h1]; exact h2
      · have tin : ¬ (i : Int) < (ns : Int) := by omega
        gi_wp2
        have h1 : ∀ b ∈ Bs, b ∉ [ki] := fun b hb hq => by
          simp only [List.mem_singleton] at hq
          have := (H3.out.2.2.2.2.2.2.2.2.2 b hb).2
          omega
        refine ⟨H7.out.2.from _, ⟨fun b hb => (H7.out.1.2.block b (HB.out b hb) (h1 b hb)).trans (HW.out.1.2.block b (HB.out b hb) (h1 b hb)).symm, H7.out.2.walks⟩, ?_⟩
        have h2 : i = (spotsAt L c).length := by rw [HNS.out.1]; omega
        have h3 := H7.out.1
        rw [h2, ← idsAt_take, ← idsP_snoc] at h3
        exact h3
  case done =>
    rintro DD xs W hD ⟨hx1, hx2⟩ hi hK
    obtain ⟨⟨v, hv, hrow⟩, hO⟩ := hi
    have hperm : (idsP L q tm xs).Perm (seenG G q tm) := by
      refine (seen_perm HL.out.1.keys HL.out.1.home q tm hx1 (fun c hc hb => hx2 c ?_ hb)).trans (seenG_perm HL.out.2.2 q tm)
      exact (HL.out.2.2.map Prod.fst).mem_iff.1 hc
    have hlen : (idsP L q tm xs).length ≤ 1000 := by
      rw [hperm.length_eq, ← (seenG_perm HL.out.2.2 q tm).length_eq]
      unfold seenG
      rw [List.length_map]
      exact Nat.le_trans (List.length_filter_le _ _) HL.out.1.few
    have hsl : SlInts W v (idsP L q tm xs) := by
      obtain ⟨h1, h2⟩ := hrow
      refine ⟨h1, ?_⟩
      rcases h2 with h2 | ⟨g, cap, cur, rfl, h3, hg, r⟩
      · exact Or.inl h2
      · exact Or.inr ⟨g, cap, cur, rfl, Nat.zero_le _, hg, r⟩
    have hvc : W.cell? ⟨ki, 0, none⟩ = some v := by simp only [World.cell?, hv]; rfl
    have HD : Hid (W.heap[ki]? = some (.cells #[v] 42) ∧ W.ownsRow w3.heap.size 3 1 v (idsP L q tm xs).length ((idsP L q tm xs).map (Value.int .i64)) ∧ Only [ki] w3 W ∧ (idsP L q tm xs).Perm (seenG G q tm) ∧ W.heap[DD]? = some (.deferred (some [])) ∧ w3.heap.size ≤ DD) := ⟨hv, hrow, hO, hperm, hK, hD⟩
    clear hv hrow hO hperm hK hx1 hx2 hD hseq hent
    dsimp only
    gi_wp2
    refine callV (sortsI v (idsP L q tm xs) W hsl hlen) ?_
    rintro e W2 ⟨rfl, hs2, o2⟩
    have hown : ∀ b ∈ ownL v, w3.heap.size ≤ b ∧ ∃ o : Obj, W.heap[b]? = some o ∧ o.isCells = true := fun b hb => by
      unfold ownL at hb
      rw [Option.mem_toList] at hb
      exact ownsRow_base HD.out.2.1 hb
    have hki2 : ki ∉ ownL v := fun hb => by
      have h1 := (hown ki hb).1
      have h2 := H3.out
      omega
    have hDD2 : DD ∉ ownL v := fun hb => by
      obtain ⟨o, h1, h2⟩ := (hown DD hb).2
      rw [HD.out.2.2.2.2.1] at h1
      injection h1 with h1
      subst h1
      cases h2
    have hvc2 : W2.cell? ⟨ki, 0, none⟩ = some v := o2.cell hvc hki2
    have hK2 : W2.heap[DD]? = some (.deferred (some [])) := (o2.block DD (Array.getElem?_eq_some_iff.1 HD.out.2.2.2.2.1).1 hDD2).trans HD.out.2.2.2.2.1
    gi_wp2
    refine ⟨by simp, .inl ⟨_, _, rfl, run_takeDeferred hK2, ?_⟩⟩
    refine ⟨_, results_tmp rfl _ _ _, v, rfl, ?_, ?_, ?_⟩
    · rw [← HQ.out, sortZ_eq HD.out.2.2.2.1.symm]
      exact ownsRow_putObj hs2 _ hK2 rfl
    · have oA : Only [] w W2 := (H3.out.1.then HD.out.2.2.1 (fun b hb => by
        simp only [List.mem_singleton] at hb
        have h1 := H3.out
        have h2 := HK.out
        right; omega)).then o2 (fun b hb => Or.inr (Nat.le_trans H3.out.1.size (hown b hb).1))
      exact oA.grown (grownBy_putObj' W2 DD _) (fun k e => by injection e with e; right; have h1 := HD.out.2.2.2.2.2; have h2 := H3.out.1.size; omega)
    · intro b hb
      exact Nat.le_trans H3.out.1.size (hown b hb).1
  case stop =>
    rintro DD c pre W hD _ h _
    exact h.elim
theorem sees_none (x : Nat) (ax ay az far tm : Int) (w : World) (hf : far < 0) :
    Calls Try.prog 11 #[.pointer (some ⟨x, 0, none⟩), .agg #[.int .i64 ax, .int .i64 ay, .int .i64 az, .int .i64 far, .int .i64 tm]] w (SeesPost w []) := by
  have tf : decide (far < 0) = true := by simpa using hf
  clear hf
  go_enter Try.func11, Try.ntmps11
  go_wp2
  go_ret
  refine ⟨.slice none 0 0, rfl, ?_, ((Only.refl [] w).alloc _).alloc _, by simp [ownL, Value.ownBlock]⟩
  have e : sortZ [] = [] := by simp [sortZ]
  rw [e]
  exact World.ownsRow_nil _ _ _ _
end Go.Proofs.Ytdbjbjgnkkhgcaa
