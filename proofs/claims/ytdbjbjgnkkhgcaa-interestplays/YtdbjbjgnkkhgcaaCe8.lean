/- interest.New, Grid.Many, Grid.Put: whatever the grid and the body. -/
import Derived.Test.YtdbjbjgnkkhgcaaCe4
import Derived.Test.YtdbjbjgnkkhgcaaCeR
import Derived.Test.YtdbjbjgnkkhgcaaSv1
import Derived.Test.YtdbjbjgnkkhgcaaGeo10
namespace Go.Proofs.Ytdbjbjgnkkhgcaa
open Go.ChangeShapes Go.WideShapes Go.ChangeAt Go.RowKit
set_option linter.unusedVariables false
set_option linter.unusedSimpArgs false
set_option linter.unusedSectionVars false
variable [DecidableEq Cel]

theorem wp_append_known {o : Oper} {a : Act} {w : World} {K : Act → World → Prop} {Q : Exit → Act → World → Prop} (s x : Operand) (t : TypeId) (ho : o.op = .call { callee := .builtin .append, args := #[s, x], argTypes := #[t, t] }) (v y : Value) (hs : a.eval s = v) (hx : a.eval x = y)
    {v' : Value} {w' : World} (hr : ∀ ty, (Builtin.append_ #[t, t] ty #[v, y]).run Try.prog w = .ok v' w') (h : K (a.put o.dst v') w') : o.wp Try.prog a w K Q := by
  unfold Oper.wp execOp
  simp only [ho, resolve, invoke, builtin, Sem.run_bind, Sem.run_pure, Result.andThen_ok, List.map_toArray, List.map_cons, List.map_nil, hs, hx, hr]
  exact h
theorem gnew_calls (w : World) : Calls Try.prog 4 #[] w fun e w' => ∃ x D, e = .returned (.pointer (some ⟨x, 0, none⟩)) ∧ GridOf w' x D [] ∧ Only [] w w' ∧ ∀ b ∈ D, w.heap.size ≤ b := by
  have hmm := @run_makeMap Try.prog
  go_enter Try.func4, Try.ntmps4
  go_wp2
  go_ret
  refine ⟨_, gridD (w.heap.size + 2) w.heap.size (w.heap.size + 1) [], rfl, ⟨w.heap.size, w.heap.size + 1, [], ⟨?_, ?_, ?_, by simp, by simp, by simp; omega, by simp [flatC], by simp [flatC], by simp [flatC]⟩, rfl, by simp [flatC]⟩, ?_, ?_⟩
  · have h1 := (MapKept.heap_alloc ((w.alloc (.map #[] 0)).alloc (.map #[] 0)) (.cells #[.map (some w.heap.size), .map (some (w.heap.size + 1))] 49)).1
    simpa using h1
  · have h1 := MapC.made w
    exact (h1.only ((Only.refl [] _).alloc _) (by simp)).only ((Only.refl [] _).alloc _) (by simp)
  · have h1 := MapV.made (w.alloc (.map #[] 0))
    rw [World.size_alloc] at h1
    exact MapV.only ((Only.refl [] _).alloc _) (by simp) h1
  · exact (((Only.refl [] w).alloc _).alloc _).alloc _
  · intro b hb
    simp only [gridD, List.map_nil, List.mem_cons, List.not_mem_nil, or_false] at hb
    omega
theorem gmany_calls (x : Nat) (D : List Nat) (G : List (Cel × Spt)) (w : World) (h : GridOf w x D G) : Calls Try.prog 9 #[.pointer (some ⟨x, 0, none⟩)] w fun e w' => e = .returned (.int .i64 ((G.length : Int))) ∧ Only [] w w' := by
  obtain ⟨mc, mh, L, h1, rfl, hp⟩ := h
  have hl : ∀ ty, (Builtin.len_ #[47] ty #[.map (some mh)]).run Try.prog w = .ok (.int .i64 ((G.length : Int))) w := fun ty => by
    have := h1.homes.len Try.underlying47 ty
    rw [this, homesC, List.length_map, hp.length_eq]
  have c1 : w.cell? ⟨x, 1, none⟩ = some (.map (some mh)) := by simp only [World.cell?, h1.at_]; rfl
  go_enter Try.func9, Try.ntmps9
  go_wp2
  go_ret
  exact ⟨rfl, Only.refl _ _⟩
/-- A body's spot, and its cell. -/
def spotOf (q : Bd) : Spt := ⟨q.id, q.tm, ⟨sub q.ax q.sx, sub q.ay (hf q.kd q.sx q.sy), sub q.az (hf q.kd q.sx q.sz), add q.ax q.sx, add q.ay (hf q.kd q.sx q.sy), add q.az (hf q.kd q.sx q.sz)⟩⟩
def cellB (q : Bd) : Cel := celOf q.ax q.ay q.az
def BdAt (w : World) (kb : Nat) (q : Bd) : Prop := w.heap[kb]? = some (.cells #[.int .i64 (q.id), .int .i64 (q.ow), .int .i64 (q.kd), .int .i64 (q.sx), .int .i64 (q.sy), .int .i64 (q.sz), .int .i64 (q.ax), .int .i64 (q.ay), .int .i64 (q.az), .int .i64 (q.vx), .int .i64 (q.vy), .int .i64 (q.vz), .int .i64 (q.px), .int .i64 (q.py), .int .i64 (q.pz), .int .i64 (q.ms), .int .i64 (q.tm)] 31)
theorem BdAt.off {w : World} {kb : Nat} {q : Bd} (h : BdAt w kb q) (j : Nat) : w.cell? ⟨kb, j, none⟩ = (#[.int .i64 (q.id), .int .i64 (q.ow), .int .i64 (q.kd), .int .i64 (q.sx), .int .i64 (q.sy), .int .i64 (q.sz), .int .i64 (q.ax), .int .i64 (q.ay), .int .i64 (q.az), .int .i64 (q.vx), .int .i64 (q.vy), .int .i64 (q.vz), .int .i64 (q.px), .int .i64 (q.py), .int .i64 (q.pz), .int .i64 (q.ms), .int .i64 (q.tm)] : Array Value)[j]? := by
  unfold BdAt at h; simp [World.cell?, h]
theorem BdAt.only {D : List Nat} {w w' : World} {kb : Nat} {q : Bd} (h : BdAt w kb q) (o : Only D w w') (s : kb ∉ D) : BdAt w' kb q := (o.block kb (Array.getElem?_eq_some_iff.1 h).1 s).trans h
theorem BdAt.lt {w : World} {kb : Nat} {q : Bd} (h : BdAt w kb q) : kb < w.heap.size := (Array.getElem?_eq_some_iff.1 h).1
def PutPost (w : World) (x : Nat) (D : List Nat) (G : List (Cel × Spt)) (q : Bd) (e : Ending) (w' : World) : Prop :=
  e = .returned (.tuple #[]) ∧ ∃ D', GridOf w' x D' ((cellB q, spotOf q) :: G.filter fun p => p.2.id != q.id) ∧ Only D w w' ∧ ∀ b ∈ D', b ∈ D ∨ w.heap.size ≤ b
set_option maxRecDepth 100000 in
set_option maxHeartbeats 2000000 in
theorem put_calls (x : Nat) (D : List Nat) (G : List (Cel × Spt)) (q : Bd) (w : World) (h : GridOf w x D G) (hi : In64V q.id) (hfew : (G.filter fun p => p.2.id != q.id).length < 1000) (hh : Home (cellB q) (spotOf q)) :
    Calls Try.prog 7 #[.pointer (some ⟨x, 0, none⟩), bdV q] w (PutPost w x D G q) := by
  have HG : Hid (GridOf w x D G ∧ In64V q.id ∧ (G.filter fun p => p.2.id != q.id).length < 1000 ∧ Home (cellB q) (spotOf q)) := ⟨h, hi, hfew, hh⟩
  clear h hi hfew hh
  unfold bdV
  go_enter Try.func7, Try.ntmps7
  go_upto_region 1 with fail
  have H0 : Hid (Only [] w (w.alloc (.cells #[.int .i64 (q.id), .int .i64 (q.ow), .int .i64 (q.kd), .int .i64 (q.sx), .int .i64 (q.sy), .int .i64 (q.sz), .int .i64 (q.ax), .int .i64 (q.ay), .int .i64 (q.az), .int .i64 (q.vx), .int .i64 (q.vy), .int .i64 (q.vz), .int .i64 (q.px), .int .i64 (q.py), .int .i64 (q.pz), .int .i64 (q.ms), .int .i64 (q.tm)] 31)) ∧ BdAt (w.alloc (.cells #[.int .i64 (q.id), .int .i64 (q.ow), .int .i64 (q.kd), .int .i64 (q.sx), .int .i64 (q.sy), .int .i64 (q.sz), .int .i64 (q.ax), .int .i64 (q.ay), .int .i64 (q.az), .int .i64 (q.vx), .int .i64 (q.vy), .int .i64 (q.vz), .int .i64 (q.px), .int .i64 (q.py), .int .i64 (q.pz), .int .i64 (q.ms), .int .i64 (q.tm)] 31)) w.heap.size q) := ⟨(Only.refl [] w).alloc _, (MapKept.heap_alloc w _).1⟩
  revert H0
  generalize hkb : w.heap.size = kb
  generalize World.alloc w _ = w1
  intro H0
  have HKB : Hid (w.heap.size = kb) := hkb
  clear hkb
  have b0 := H0.out.2.off 0
  simp only [List.getElem?_toArray, List.getElem?_cons_zero] at b0
  go_upto_region 2 with (go_at_call 8; refine (remove_calls x D G q.id w1 (HG.out.1.only H0.out.1 (by simp)) HG.out.2.1).mono ?_; rintro e w2 ⟨rfl, D2, hG2, o2, hD2⟩)
  have H2 : Hid (GridOf w2 x D2 (G.filter fun p => p.2.id != q.id) ∧ Only D w w2 ∧ (∀ b ∈ D2, b ∈ D ∨ w1.heap.size ≤ b) ∧ BdAt w2 kb q ∧ w1.heap.size ≤ w2.heap.size ∧ kb < w1.heap.size ∧ kb ∉ D2) := by
    have hlt := HG.out.1.lt
    have hk := HKB.out
    have hkD : kb ∉ D := fun hb => by have := hlt kb hb; omega
    exact ⟨hG2, (H0.out.1.mono (by simp)).trans o2, hD2, H0.out.2.only o2 hkD, o2.size, H0.out.2.lt, fun hb => by rcases hD2 kb hb with h1 | h1; exact hkD h1; have := H0.out.2.lt; omega⟩
  clear hG2 o2 hD2 H0 b0
  have b6 := H2.out.2.2.2.1.off 6
  have b7 := H2.out.2.2.2.1.off 7
  have b8 := H2.out.2.2.2.1.off 8
  simp only [List.getElem?_toArray, List.getElem?_cons_zero, List.getElem?_cons_succ] at b6 b7 b8
  obtain ⟨c1, c2, c3, hcv⟩ : ∃ c1 c2 c3 : Int, celV (cellB q) = .agg #[.int .i64 c1, .int .i64 c2, .int .i64 c3] := ⟨_, _, _, rfl⟩
  have hco : Calls Try.prog 16 #[.agg #[.int .i64 (q.ax), .int .i64 (q.ay), .int .i64 (q.az)]] w2 fun e w' => e = .returned (.agg #[.int .i64 c1, .int .i64 c2, .int .i64 c3]) ∧ Kept w2 w' := by rw [← hcv]; exact cellOf_calls q.ax q.ay q.az w2
  have HCV : Hid (celV (cellB q) = .agg #[.int .i64 c1, .int .i64 c2, .int .i64 c3]) := hcv
  clear hcv
  go_upto_region 3 with (go_at_call 16; refine hco.mono ?_; clear hco; rintro e w3 ⟨rfl, k3⟩)
  obtain ⟨mc, mh, L, HL⟩ : ∃ mc mh L, Hid (GridIs w2 x mc mh L ∧ D2 = gridD x mc mh L ∧ (flatC L).Perm (G.filter fun p => p.2.id != q.id)) := H2.out.1
  have H3 : Hid (Only [] w2 (w3.alloc (.cells #[.int .i64 c1, .int .i64 c2, .int .i64 c3] 54)) ∧ (w3.alloc (.cells #[.int .i64 c1, .int .i64 c2, .int .i64 c3] 54)).heap[w3.heap.size]? = some (.cells #[.int .i64 c1, .int .i64 c2, .int .i64 c3] 54) ∧ w2.heap.size ≤ w3.heap.size) :=
    ⟨(Only.of_kept k3).alloc _, (MapKept.heap_alloc w3 _).1, k3.below.size⟩
  revert H3
  generalize hkc : w3.heap.size = kc
  generalize World.alloc w3 _ = w4
  intro H3
  clear hkc k3 b6 b7 b8
  have HNI : Hid (q.id ∉ (homesC (flatC L)).map Prod.fst) := by
    show _ ∉ _
    simp only [homesC, List.map_map]
    intro hb
    have h1 := (HL.out.2.2.map fun p => p.2.id).mem_iff.1 hb
    obtain ⟨p, hp, e⟩ := List.mem_map.1 h1
    have := (List.mem_filter.1 hp).2
    simp at this
    exact this e
  obtain ⟨w5, hupd, H5⟩ : ∃ w5, (Instr.mapUpdate 47 (.map (some mh)) (.int .i64 (q.id)) (.agg #[.int .i64 c1, .int .i64 c2, .int .i64 c3])).run Try.prog w4.drew = .ok () w5 ∧ Hid (MapV w5 (some mh) ((q.id, celV (cellB q)) :: homesC (flatC L)) ∧ Only [mh] w4 w5) := by
    have hfl : (homesC (flatC L)).length < maxLen := by
      have := HL.out.1.few
      simp only [homesC, List.length_map]; unfold maxLen; omega
    obtain ⟨w5, q1, q2, q3⟩ := (MapV.only H3.out.1.drew (by simp) HL.out.1.homes).store Try.underlying47 hfl (x := (q.id, celV (cellB q))) HG.out.2.1 HNI.out
    rw [← HCV.out]
    exact ⟨w5, q1, q2, (Only.refl _ _).drew.trans (turnedO q3)⟩
  have HB4 : Hid (BdAt w4 kb q ∧ w4.heap[x]? = some (.cells #[.map (some mc), .map (some mh)] 49)) := ⟨H2.out.2.2.2.1.only H3.out.1 (by simp), (H3.out.1.block x (HL.out.1.lt x (by simp [gridD])) (by simp)).trans HL.out.1.at_⟩
  have x1 : w4.cell? ⟨x, 1, none⟩ = some (.map (some mh)) := by simp only [World.cell?, HB4.out.2]; rfl
  have b0 := HB4.out.1.off 0
  simp only [List.getElem?_toArray, List.getElem?_cons_zero, List.getElem?_cons_succ] at b0
  have kc0 : w4.cell? ⟨kc, 0, none⟩ = some (.int .i64 c1) := by simp only [World.cell?, H3.out.2.1]; rfl
  have kc1 : w4.cell? ⟨kc, 1, none⟩ = some (.int .i64 c2) := by simp only [World.cell?, H3.out.2.1]; rfl
  have kc2 : w4.cell? ⟨kc, 2, none⟩ = some (.int .i64 c3) := by simp only [World.cell?, H3.out.2.1]; rfl
  refine wp_region_F_drew 7 (fun w' => w'.cell? ⟨x, 1, none⟩ = some (.map (some mh)) ∧ w'.cell? ⟨kb, 0, none⟩ = some (.int .i64 (q.id)) ∧ w'.cell? ⟨kc, 0, none⟩ = some (.int .i64 c1) ∧ w'.cell? ⟨kc, 1, none⟩ = some (.int .i64 c2) ∧ w'.cell? ⟨kc, 2, none⟩ = some (.int .i64 c3)) (by kernel_rfl) ?_ (fun hHeld1 => ?_)
  · (try dsimp only); exact ⟨x1, b0, kc0, kc1, kc2⟩
  refine tkL 0 rfl ?_; refine tkL 1 rfl ?_; refine tkL 2 rfl ?_; refine tkL 3 rfl ?_
  try simp only [Act.put, List.setIfInBounds_toArray, List.set_cons_zero, List.set_cons_succ, List.getElem_toArray, List.getElem_cons_succ, List.getElem_cons_zero]
  refine tkL 4 rfl ?_; refine tkL 5 rfl ?_; refine tkL 6 rfl ?_
  try simp only [Act.put, List.setIfInBounds_toArray, List.set_cons_zero, List.set_cons_succ, List.getElem_toArray, List.getElem_cons_succ, List.getElem_cons_zero]
  refine wpAnyF_ready (rs := [7]) (by kernel_rfl) (by simp) ?_
  refine AllReadyF.fin rfl (by decide) (fun K hK => ?_) AllReadyF.nil
  first | (with_reducible refine iteYes ?hcx ?htx; case hcx => kernel_rfl) | rw [if_pos (by rfl)]
  simp only [List.getElem_toArray, List.getElem_cons_succ, List.getElem_cons_zero]
  go_simp
  skip
  refine hK.out _ _ ?_
  clear hK K
  try simp only [Act.put, List.setIfInBounds_toArray, List.set_cons_zero, List.set_cons_succ, List.getElem_toArray, List.getElem_cons_succ, List.getElem_cons_zero]
  refine wpAnyF_done (by kernel_rfl) ?_ _
  clear x1 b0 kc0 kc1 kc2 hupd hHeld1
  go_upto_region 4 with fail
  have HKC : Hid (kc ≠ mh ∧ kb ≠ mh ∧ x ≠ mh ∧ kc ≠ kb) := by
    have h1 := HL.out.1.lt
    have hm := h1 mh (by simp [gridD])
    have h2 := H3.out.2.2
    have h3 := H2.out.2.2.2.2.2.2
    have h4 := HL.out.2.1
    have h5 := H2.out.2.2.2.1.lt
    have h6 := HL.out.1.nd
    simp only [List.nodup_cons, List.mem_cons, not_or] at h6
    refine ⟨by omega, fun e => h3 (by rw [h4, e]; simp [gridD]), h6.1.2.1, by omega⟩
  have H6 : Hid (BdAt w5 kb q ∧ w5.heap[x]? = some (.cells #[.map (some mc), .map (some mh)] 49) ∧ w5.heap[kc]? = some (.cells #[.int .i64 c1, .int .i64 c2, .int .i64 c3] 54)) := by
    have h1 := HKC.out
    exact ⟨HB4.out.1.only H5.out.2 (by simpa using h1.2.1), (H5.out.2.block x (Array.getElem?_eq_some_iff.1 HB4.out.2).1 (by simpa using h1.2.2.1)).trans HB4.out.2, (H5.out.2.block kc (Array.getElem?_eq_some_iff.1 H3.out.2.1).1 (by simpa using h1.1)).trans H3.out.2.1⟩
  have HP : Hid (∀ w' : World, (w'.heap[x]? = w5.heap[x]? ∧ w'.heap[kc]? = w5.heap[kc]? ∧ w'.heap[kb]? = w5.heap[kb]?) → (fun w' => w'.cell? ⟨x, 0, none⟩ = some (.map (some mc)) ∧ w'.cell? ⟨kc, 0, none⟩ = some (.int .i64 c1) ∧ w'.cell? ⟨kc, 1, none⟩ = some (.int .i64 c2) ∧ w'.cell? ⟨kc, 2, none⟩ = some (.int .i64 c3) ∧ w'.cell? ⟨kb, 0, none⟩ = some (.int .i64 (q.id)) ∧ w'.cell? ⟨kb, 16, none⟩ = some (.int .i64 (q.tm)) ∧ w'.cell? ⟨kb, 2, none⟩ = some (.int .i64 (q.kd)) ∧ w'.cell? ⟨kb, 3, none⟩ = some (.int .i64 (q.sx)) ∧ w'.cell? ⟨kb, 4, none⟩ = some (.int .i64 (q.sy)) ∧ w'.cell? ⟨kb, 5, none⟩ = some (.int .i64 (q.sz)) ∧ w'.cell? ⟨kb, 6, none⟩ = some (.int .i64 (q.ax)) ∧ w'.cell? ⟨kb, 7, none⟩ = some (.int .i64 (q.ay)) ∧ w'.cell? ⟨kb, 8, none⟩ = some (.int .i64 (q.az))) w') := fun w' hw => by
    obtain ⟨h1, h2, h3⟩ := hw
    have g1 := h1.trans H6.out.2.1
    have g2 := h2.trans H6.out.2.2
    have g3 : BdAt w' kb q := h3.trans H6.out.1
    refine ⟨?_, ?_, ?_, ?_, g3.off 0, g3.off 16, g3.off 2, g3.off 3, g3.off 4, g3.off 5, g3.off 6, g3.off 7, g3.off 8⟩
    · simp only [World.cell?, g1]; rfl
    · simp only [World.cell?, g2]; rfl
    · simp only [World.cell?, g2]; rfl
    · simp only [World.cell?, g2]; rfl
  have HT : Hid (∀ w6, Kept w5.drew w6 → ∃ (v0 : Value) (st : Int) (w7 : World) (v' : Value) (w8 w9 : World), (Instr.mapEntry 46 (.map (some mc)) (.agg #[.int .i64 c1, .int .i64 c2, .int .i64 c3])).run Try.prog (w6.alloc (.cells #[.int .i64 (q.id), .int .i64 (q.tm), .int .i64 (sub q.ax q.sx), .int .i64 (sub q.ay (hf q.kd q.sx q.sy)), .int .i64 (sub q.az (hf q.kd q.sx q.sz)), .int .i64 (add q.ax q.sx), .int .i64 (add q.ay (hf q.kd q.sx q.sy)), .int .i64 (add q.az (hf q.kd q.sx q.sz))] 61)) = .ok (.tuple #[v0, .int .i64 st]) w7 ∧
      (∀ ty, (Builtin.append_ #[56, 56] ty #[v0, .slice (some ⟨w6.heap.size, 0, none⟩) 1 1]).run Try.prog w7 = .ok v' w8) ∧
      (Instr.entryStore 46 (.map (some mc)) (.int .i64 st) v').run Try.prog w8 = .ok () w9 ∧
      Hid ((∀ b, b = x ∨ b = kc ∨ b = kb → (w6.heap[b]? = w5.heap[b]? ∧ (w6.alloc (.cells #[.int .i64 (q.id), .int .i64 (q.tm), .int .i64 (sub q.ax q.sx), .int .i64 (sub q.ay (hf q.kd q.sx q.sy)), .int .i64 (sub q.az (hf q.kd q.sx q.sz)), .int .i64 (add q.ax q.sx), .int .i64 (add q.ay (hf q.kd q.sx q.sy)), .int .i64 (add q.az (hf q.kd q.sx q.sz))] 61)).heap[b]? = w5.heap[b]?) ∧ w7.heap[b]? = w5.heap[b]? ∧ w8.heap[b]? = w5.heap[b]? ∧ w9.heap[b]? = w5.heap[b]?) ∧ PutPost w x D G q (.returned (.tuple #[])) w9)) := fun w6 k6 => by
    obtain ⟨hL1, hL2, hL3⟩ := HL.out
    obtain ⟨_, p1, p2, p3, p4, p5, p6⟩ := H2.out
    obtain ⟨r1, r2, r3⟩ := H3.out
    obtain ⟨s1, s2⟩ := H5.out
    obtain ⟨n1, n2, n3, n4⟩ := HKC.out
    have hnd := hL1.nd
    have hnd' := hnd
    simp only [List.nodup_cons, List.mem_cons, not_or] at hnd'
    have o56 : Only [] w5 w6 := (Only.refl _ _).drew.trans (Only.of_kept k6)
    have o5W : Only [] w5 (w6.alloc (.cells (spL (spotOf q)).toArray 61)) := o56.alloc _
    have o2W : Only [mh] w2 (w6.alloc (.cells (spL (spotOf q)).toArray 61)) := ((r1.mono (by simp)).trans s2).then o5W (by simp)
    have hsz2 : w2.heap.size ≤ w6.heap.size := Nat.le_trans r1.size (Nat.le_trans s2.size o56.size)
    have hlt := hL1.lt
    have htail := put_tail (W := w6.alloc (.cells (spL (spotOf q)).toArray 61)) (x := x) (mc := mc) (mh := mh) (nb := w6.heap.size) (L := L) (c := cellB q) (s := spotOf q)
      ((o5W.block x (Array.getElem?_eq_some_iff.1 H6.out.2.1).1 (by simp)).trans H6.out.2.1)
      (hL1.cells.only o2W (by simpa using hnd'.2.1.1)) (MapV.only o5W (by simp) s1)
      (fun e he => (hL1.rows e he).only o2W (by simp only [List.mem_singleton]; exact fun z => hnd'.2.2.1 (z ▸ List.mem_map_of_mem he))) hL1.full hnd
      (fun p hp => by rcases List.mem_cons.1 hp with rfl | hp; exact HG.out.2.1; exact hL1.i64 p hp) (by rw [hL3.length_eq]; exact HG.out.2.2.1)
      (fun p hp => by rcases List.mem_cons.1 hp with rfl | hp; exact HG.out.2.2.2; exact hL1.home p hp)
      (MapKept.heap_alloc w6 _).1 (fun hb => by have := hlt _ hb; omega)
    obtain ⟨v0, st, w7, v', w8, w9, t1, t2, t3, t4, t5, t6, L', t7, t8, t9⟩ := htail
    rw [HCV.out] at t1
    refine ⟨v0, st, w7, v', w8, w9, t1, t2, t3, fun b hb => ?_, rfl, gridD x mc mh L', ⟨mc, mh, L', t7, rfl, ?_⟩, ?_, fun b hb => ?_⟩
    · have hbD : b < w5.heap.size ∧ b ≠ mc ∧ b ∉ L.map CE.g := by
        rcases hb with rfl | rfl | rfl
        · exact ⟨(Array.getElem?_eq_some_iff.1 H6.out.2.1).1, hnd'.1.1, hnd'.1.2.2⟩
        · refine ⟨(Array.getElem?_eq_some_iff.1 H6.out.2.2).1, fun z => ?_, fun z => ?_⟩
          · have := hlt mc (by simp [gridD]); omega
          · have := hlt b (by simp [gridD]; right; right; right; simpa using z); omega
        · refine ⟨H6.out.1.lt, fun z => p6 ?_, fun z => p6 ?_⟩
          · rw [hL2, z]; simp [gridD]
          · rw [hL2]; simp [gridD]; right; right; right; simpa using z
      have e0 := o56.block b hbD.1 (by simp)
      have e1 := o5W.block b hbD.1 (by simp)
      have hs : b < (w6.alloc (.cells (spL (spotOf q)).toArray 61)).heap.size := Nat.lt_of_lt_of_le hbD.1 o5W.size
      refine ⟨⟨e0, e1⟩, (t4.block b hs (by simpa using hbD.2.1)).trans e1, (t5.block b hs ?_).trans e1, (t6.block b hs ?_).trans e1⟩
      · simp only [List.mem_cons, not_or]; exact hbD.2
      · simp only [List.mem_cons, not_or]; exact hbD.2
    · exact t8.trans (hL3.cons _)
    · have hwW : Only D w (w6.alloc (.cells (spL (spotOf q)).toArray 61)) := p1.then o2W (fun z hz => by
        simp only [List.mem_singleton] at hz
        rcases p2 z (by rw [hL2, hz]; simp [gridD]) with h1 | h1
        · exact Or.inl h1
        · have := HKB.out; right; omega)
      refine hwW.then t6 (fun z hz => ?_)
      rcases p2 z (by
        rw [hL2]
        rcases List.mem_cons.1 hz with rfl | hz
        · simp [gridD]
        · simp only [gridD, List.mem_cons]; exact Or.inr (Or.inr (Or.inr hz))) with h1 | h1
      · exact Or.inl h1
      · have := HKB.out; right; omega
    · rcases t9 b hb with h1 | h1
      · rcases p2 b (by rw [hL2]; exact h1) with h2 | h2
        · exact Or.inl h2
        · have := HKB.out; right; omega
      · right
        have h2 : w.heap.size ≤ w2.heap.size := p1.size
        have h3 : (w6.alloc (.cells (spL (spotOf q)).toArray 61)).heap.size = w6.heap.size + 1 := by simp
        omega
  clear HNI HB4
  refine wp_region_held_drew (S := (fun w' => w'.cell? ⟨x, 0, none⟩ = some (.map (some mc)) ∧ w'.cell? ⟨kc, 0, none⟩ = some (.int .i64 c1) ∧ w'.cell? ⟨kc, 1, none⟩ = some (.int .i64 c2) ∧ w'.cell? ⟨kc, 2, none⟩ = some (.int .i64 c3) ∧ w'.cell? ⟨kb, 0, none⟩ = some (.int .i64 (q.id)) ∧ w'.cell? ⟨kb, 16, none⟩ = some (.int .i64 (q.tm)) ∧ w'.cell? ⟨kb, 2, none⟩ = some (.int .i64 (q.kd)) ∧ w'.cell? ⟨kb, 3, none⟩ = some (.int .i64 (q.sx)) ∧ w'.cell? ⟨kb, 4, none⟩ = some (.int .i64 (q.sy)) ∧ w'.cell? ⟨kb, 5, none⟩ = some (.int .i64 (q.sz)) ∧ w'.cell? ⟨kb, 6, none⟩ = some (.int .i64 (q.ax)) ∧ w'.cell? ⟨kb, 7, none⟩ = some (.int .i64 (q.ay)) ∧ w'.cell? ⟨kb, 8, none⟩ = some (.int .i64 (q.az)))) (by kernel_rfl) ?_ (fun hHeld1 => ?_)
  · (try dsimp only); exact HP.out _ ⟨rfl, rfl, rfl⟩
  refine tkW 0 rfl ?_; refine tkW 1 rfl ?_; refine tkW 2 rfl ?_; refine tkW 3 rfl ?_
  try simp only [Act.put, List.setIfInBounds_toArray, List.set_cons_zero, List.set_cons_succ, List.getElem_toArray, List.getElem_cons_succ, List.getElem_cons_zero]
  refine tkW 4 rfl ?_; refine tkW 5 rfl ?_; refine tkW 6 rfl ?_; refine tkW 7 rfl ?_
  try simp only [Act.put, List.setIfInBounds_toArray, List.set_cons_zero, List.set_cons_succ, List.getElem_toArray, List.getElem_cons_succ, List.getElem_cons_zero]
  refine tkW 8 rfl ?_; refine tkW 9 rfl ?_; refine tkW 10 rfl ?_; refine tkW 11 rfl ?_
  try simp only [Act.put, List.setIfInBounds_toArray, List.set_cons_zero, List.set_cons_succ, List.getElem_toArray, List.getElem_cons_succ, List.getElem_cons_zero]
  refine tkW 12 rfl ?_
  try simp only [Act.put, List.setIfInBounds_toArray, List.set_cons_zero, List.set_cons_succ, List.getElem_toArray, List.getElem_cons_succ, List.getElem_cons_zero]
  refine wpAnyH_ready (rs := [13]) (by kernel_rfl) (by simp) ?_
  refine AllReadyH.cons rfl (fun K hK => ?_) AllReadyH.nil
  first | (with_reducible refine iteYes ?hcx ?htx; case hcx => kernel_rfl) | rw [if_pos (by rfl)]
  simp only [List.getElem_toArray, List.getElem_cons_succ, List.getElem_cons_zero]
  go_simp
  (go_at_call 17; refine (gAround_calls q.kd q.sx q.sy q.sz q.ax q.ay q.az _).mono ?_; rintro e w6 ⟨rfl, k6⟩; obtain ⟨v0, st, w7, v', w8, w9, hent, happ, hsto, H7⟩ := HT.out w6 k6)
  try go_wp2_with fail
  refine hK.out _ _ ?_ (fun hHeld2 => ?_)
  · (try dsimp only); exact HP.out _ ⟨(H7.out.1 x (by simp)).1.1, (H7.out.1 kc (by simp)).1.1, (H7.out.1 kb (by simp)).1.1⟩
  clear hK K hHeld1
  try simp only [Act.put, List.setIfInBounds_toArray, List.set_cons_zero, List.set_cons_succ, List.getElem_toArray, List.getElem_cons_succ, List.getElem_cons_zero]
  refine tkW 14 rfl ?_
  try simp only [Act.put, List.setIfInBounds_toArray, List.set_cons_zero, List.set_cons_succ, List.getElem_toArray, List.getElem_cons_succ, List.getElem_cons_zero]
  refine wpAnyH_ready (rs := [15]) (by kernel_rfl) (by simp) ?_
  refine AllReadyH.cons rfl (fun K hK => ?_) AllReadyH.nil
  first | (with_reducible refine iteYes ?hcx ?htx; case hcx => kernel_rfl) | rw [if_pos (by rfl)]
  simp only [List.getElem_toArray, List.getElem_cons_succ, List.getElem_cons_zero]
  go_simp
  refine hK.out _ _ ?_ (fun hHeld3 => ?_)
  · (try dsimp only); exact HP.out _ ⟨(H7.out.1 x (by simp)).1.2, (H7.out.1 kc (by simp)).1.2, (H7.out.1 kb (by simp)).1.2⟩
  clear hK K
  try simp only [Act.put, List.setIfInBounds_toArray, List.set_cons_zero, List.set_cons_succ, List.getElem_toArray, List.getElem_cons_succ, List.getElem_cons_zero]
  refine wpAnyH_ready (rs := [16]) (by kernel_rfl) (by simp) ?_
  refine AllReadyH.cons rfl (fun K hK => ?_) AllReadyH.nil
  first | (with_reducible refine iteYes ?hcx ?htx; case hcx => kernel_rfl) | rw [if_pos (by rfl)]
  simp only [List.getElem_toArray, List.getElem_cons_succ, List.getElem_cons_zero]
  go_simp
  refine hK.out _ _ ?_ (fun hHeld4 => ?_)
  · (try dsimp only); exact HP.out _ ⟨(H7.out.1 x (by simp)).2.1, (H7.out.1 kc (by simp)).2.1, (H7.out.1 kb (by simp)).2.1⟩
  clear hK K
  try simp only [Act.put, List.setIfInBounds_toArray, List.set_cons_zero, List.set_cons_succ, List.getElem_toArray, List.getElem_cons_succ, List.getElem_cons_zero]
  refine tkW 17 rfl ?_; refine tkW 19 rfl ?_
  try simp only [Act.put, List.setIfInBounds_toArray, List.set_cons_zero, List.set_cons_succ, List.getElem_toArray, List.getElem_cons_succ, List.getElem_cons_zero]
  refine wpAnyH_ready (rs := [18]) (by kernel_rfl) (by simp) ?_
  refine AllReadyH.cons rfl (fun K hK => ?_) AllReadyH.nil
  first | (with_reducible refine iteYes ?hcx ?htx; case hcx => kernel_rfl) | rw [if_pos (by rfl)]
  simp only [List.getElem_toArray, List.getElem_cons_succ, List.getElem_cons_zero]
  refine wp_append_known (.tmp 24) (.tmp 35) _ rfl _ _ rfl rfl happ ?_
  refine hK.out _ _ ?_ (fun hHeldx => ?_)
  · (try dsimp only); exact HP.out _ ⟨(H7.out.1 x (by simp)).2.2.1, (H7.out.1 kc (by simp)).2.2.1, (H7.out.1 kb (by simp)).2.2.1⟩
  clear hK K
  try simp only [Act.put, List.setIfInBounds_toArray, List.set_cons_zero, List.set_cons_succ, List.getElem_toArray, List.getElem_cons_succ, List.getElem_cons_zero]
  refine wpAnyH_ready (rs := [20]) (by kernel_rfl) (by simp) ?_
  refine AllReadyH.cons rfl (fun K hK => ?_) AllReadyH.nil
  first | (with_reducible refine iteYes ?hcx ?htx; case hcx => kernel_rfl) | rw [if_pos (by rfl)]
  simp only [List.getElem_toArray, List.getElem_cons_succ, List.getElem_cons_zero]
  go_simp
  refine hK.out _ _ ?_ (fun hHeld5 => ?_)
  · (try dsimp only); exact HP.out _ ⟨(H7.out.1 x (by simp)).2.2.2, (H7.out.1 kc (by simp)).2.2.2, (H7.out.1 kb (by simp)).2.2.2⟩
  clear hK K
  try simp only [Act.put, List.setIfInBounds_toArray, List.set_cons_zero, List.set_cons_succ, List.getElem_toArray, List.getElem_cons_succ, List.getElem_cons_zero]
  refine wpAnyH_done (by kernel_rfl) ?_ _
  go_end0
  exact H7.out.2
end Go.Proofs.Ytdbjbjgnkkhgcaa
