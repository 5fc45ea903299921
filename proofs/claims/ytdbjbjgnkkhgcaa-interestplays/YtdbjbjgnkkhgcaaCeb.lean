/- interest.Grid.near, filled, every: what their function values go through. -/
import Derived.Test.YtdbjbjgnkkhgcaaCea
import Derived.Test.YtdbjbjgnkkhgcaaGeo6
import Derived.Test.YtdbjbjgnkkhgcaaAny
namespace Go.Proofs.Ytdbjbjgnkkhgcaa
open Go.ChangeShapes Go.WideShapes Go.ChangeAt Go.RowKit Go.Shelf
set_option linter.unusedVariables false
set_option linter.unusedSimpArgs false
set_option linter.unusedSectionVars false
variable [DecidableEq Cel]

/-- What is known of a function value that goes through cells. -/
def SeqPost (w : World) (lo hi : Cel) (keys : List Cel) (e : Ending) (w' : World) : Prop :=
  ∃ (gf : Nat) (lb : Array Value) (Bs : List Nat) (N : Nat), e = .returned (.func (.func gf) #[] lb) ∧ (∀ args w, (callFunc gf args).run Try.prog w = .ok (.enter gf args) w) ∧
    (∀ m, SeqStopsK Fence.wide m Try.prog gf lb (fun c : Cel => #[celV c]) (KpB Bs) (fun xs => xs.Nodup ∧ ∀ c ∈ keys, btw lo c hi = true → c ∈ xs) (fun _ => True) N w') ∧ N ≤ 9261 ∧ (∀ b ∈ Bs, b < w'.heap.size ∧ w.heap.size ≤ b) ∧ Only [] w w'
theorem every_calls (lo hi : Cel) (keys : List Cel) (w : World) : Calls Try.prog 36 #[celV lo, celV hi] w (SeqPost w lo hi keys) := by
  have hmf : ∀ (fn : Fn) (first cap : Array Value) (w : World), (Instr.makeFunc fn first cap).run Try.prog w = .ok (.func fn first cap) w := fun _ _ _ _ => rfl
  unfold celV
  go_enter Try.func36, Try.ntmps36
  go_wp2
  go_ret
  refine ⟨_, _, [w.heap.size, w.heap.size + 1], 9261, rfl, enters_of Try.func49 (by kernel_rfl) rfl, fun m l J Jx W hW hJ hJx hY h0 => ?_, by omega, ?_, ((Only.refl [] w).alloc _).alloc _⟩
  · have h1 : EvJ w.heap.size (w.heap.size + 1) lo hi ((w.alloc (.cells #[.int .i64 ((lo.x.val : Int)), .int .i64 ((lo.y.val : Int)), .int .i64 ((lo.z.val : Int))] 54)).alloc (.cells #[.int .i64 ((hi.x.val : Int)), .int .i64 ((hi.y.val : Int)), .int .i64 ((hi.z.val : Int))] 54)) := by
      refine ⟨(Below.heap_alloc _ _ _ (by simp)).trans (MapKept.heap_alloc w _).1, ?_⟩
      have := (MapKept.heap_alloc (w.alloc (.cells #[.int .i64 ((lo.x.val : Int)), .int .i64 ((lo.y.val : Int)), .int .i64 ((lo.z.val : Int))] 54)) (.cells #[.int .i64 ((hi.x.val : Int)), .int .i64 ((hi.y.val : Int)), .int .i64 ((hi.z.val : Int))] 54)).1
      simpa using this
    have h2 : EvJ w.heap.size (w.heap.size + 1) lo hi W := ⟨(hW.block _ (by simp; omega)).trans h1.1, (hW.block _ (by simp)).trans h1.2⟩
    refine (every1_in m l w.heap.size (w.heap.size + 1) lo hi J Jx hY W h2 h0).mono ?_
    rintro e W' ⟨h3, ⟨xs, ⟨h4, h5⟩, h6⟩ | h7⟩
    · exact ⟨h3, .inl ⟨xs, ⟨h4, fun c _ hc => h5 c hc⟩, h6⟩⟩
    · exact ⟨h3, .inr h7⟩
  · intro b hb
    simp only [List.mem_cons, List.not_mem_nil, or_false] at hb
    simp
    omega
theorem filled_calls (lo hi : Cel) (x mc : Nat) (L : List (Cel × Value)) (w : World) (hx : w.cell? ⟨x, 0, none⟩ = some (.map (some mc))) (hm : MapC w mc L) (hl : L.length ≤ 1000) : Calls Try.prog 35 #[.pointer (some ⟨x, 0, none⟩), celV lo, celV hi] w (SeqPost w lo hi (L.map Prod.fst)) := by
  have hmf : ∀ (fn : Fn) (first cap : Array Value) (w : World), (Instr.makeFunc fn first cap).run Try.prog w = .ok (.func fn first cap) w := fun _ _ _ _ => rfl
  have HX : Hid (w.cell? ⟨x, 0, none⟩ = some (.map (some mc)) ∧ MapC w mc L ∧ L.length ≤ 1000) := ⟨hx, hm, hl⟩
  clear hx hm hl
  unfold celV
  go_enter Try.func35, Try.ntmps35
  go_wp2
  go_ret
  refine ⟨_, _, [w.heap.size + 1, w.heap.size + 1 + 1], L.length, rfl, enters_of Try.func47 (by kernel_rfl) rfl, fun m l J Jx W hW hJ hJx hY h0 => ?_, by have := HX.out.2.2; omega, ?_, (((Only.refl [] w).alloc _).alloc _).alloc _⟩
  · generalize hA : (w.alloc (.cells #[.pointer (some ⟨x, 0, none⟩)] 23)) = wA at hW
    have sA : wA.heap.size = w.heap.size + 1 := by rw [← hA]; simp
    have oA : Only [] w wA := by rw [← hA]; exact (Only.refl [] w).alloc _
    have cA : wA.cell? ⟨w.heap.size, 0, none⟩ = some (.pointer (some ⟨x, 0, none⟩)) := by rw [← hA]; simp only [World.cell?, (MapKept.heap_alloc w _).1]; rfl
    have h1 : EvJ (w.heap.size + 1) (w.heap.size + 1 + 1) lo hi ((wA.alloc (.cells #[.int .i64 ((lo.x.val : Int)), .int .i64 ((lo.y.val : Int)), .int .i64 ((lo.z.val : Int))] 54)).alloc (.cells #[.int .i64 ((hi.x.val : Int)), .int .i64 ((hi.y.val : Int)), .int .i64 ((hi.z.val : Int))] 54)) := by
      rw [← sA]
      refine ⟨(Below.heap_alloc _ _ _ (by simp)).trans (MapKept.heap_alloc wA _).1, ?_⟩
      have := (MapKept.heap_alloc (wA.alloc (.cells #[.int .i64 ((lo.x.val : Int)), .int .i64 ((lo.y.val : Int)), .int .i64 ((lo.z.val : Int))] 54)) (.cells #[.int .i64 ((hi.x.val : Int)), .int .i64 ((hi.y.val : Int)), .int .i64 ((hi.z.val : Int))] 54)).1
      simpa using this
    have h2 : EvJ (w.heap.size + 1) (w.heap.size + 1 + 1) lo hi W := ⟨(hW.block _ (by simp; omega)).trans h1.1, (hW.block _ (by simp; omega)).trans h1.2⟩
    have oW : Only [] wA W := (((Only.refl [] wA).alloc _).alloc _).trans (Only.of_below hW)
    exact filled1_in m l w.heap.size (w.heap.size + 1) (w.heap.size + 1 + 1) x mc (.map none) lo hi L J Jx W hJ hY h2 (oW.cell cA (by simp)) ((oA.trans oW).cell HX.out.1 (by simp)) (HX.out.2.1.only (oA.trans oW) (by simp)) h0
  · intro b hb
    simp only [List.mem_cons, List.not_mem_nil, or_false] at hb
    simp
    omega
def loC (q : Bx) : Cel := celOf (sub q.x0 3276800) (sub q.x1 3276800) (sub q.x2 3276800)
def hiC (q : Bx) : Cel := celOf (add q.x3 3276800) (add q.x4 3276800) (add q.x5 3276800)
def NR (kr : Nat) (r : Bx) (w : World) : Prop := w.heap[kr]? = some (.cells #[.int .i64 (r.x0), .int .i64 (r.x1), .int .i64 (r.x2), .int .i64 (r.x3), .int .i64 (r.x4), .int .i64 (r.x5)] 58)
theorem NR.kept {kr : Nat} {r : Bx} {w w' : World} (h : NR kr r w) (k : Kept w w') : NR kr r w' := (k.below.block kr (Array.getElem?_eq_some_iff.1 h).1).trans h
theorem NR.cells {kr : Nat} {r : Bx} {w : World} (h : NR kr r w) : w.cell? ⟨kr, 0, none⟩ = some (.int .i64 (r.x0)) ∧ w.cell? ⟨kr, 1, none⟩ = some (.int .i64 (r.x1)) ∧ w.cell? ⟨kr, 2, none⟩ = some (.int .i64 (r.x2)) ∧ w.cell? ⟨kr, 3, none⟩ = some (.int .i64 (r.x3)) ∧ w.cell? ⟨kr, 4, none⟩ = some (.int .i64 (r.x4)) ∧ w.cell? ⟨kr, 5, none⟩ = some (.int .i64 (r.x5)) := by
  unfold NR at h
  refine ⟨?_, ?_, ?_, ?_, ?_, ?_⟩ <;> (simp only [World.cell?, h]; rfl)
set_option maxRecDepth 100000 in
set_option maxHeartbeats 2000000 in
theorem near_calls (x : Nat) (D : List Nat) (G : List (Cel × Spt)) (q : Bx) (w : World) (h : GridOf w x D G) :
    Calls Try.prog 21 #[.pointer (some ⟨x, 0, none⟩), .agg #[.int .i64 (q.x0), .int .i64 (q.x1), .int .i64 (q.x2), .int .i64 (q.x3), .int .i64 (q.x4), .int .i64 (q.x5)]] w (SeqPost w (loC q) (hiC q) (G.map Prod.fst)) := by
  have HG : Hid (GridOf w x D G) := h
  clear h
  go_enter Try.func21, Try.ntmps21
  go_upto_region 2 with (go_at_call 20; refine (gfat_calls q.x0 q.x1 q.x2 q.x3 q.x4 q.x5 3276800 _).mono ?_; rintro e w1 ⟨rfl, k1⟩)
  obtain ⟨r, hr⟩ : ∃ r : Bx, r = ⟨sub q.x0 3276800, sub q.x1 3276800, sub q.x2 3276800, add q.x3 3276800, add q.x4 3276800, add q.x5 3276800⟩ := ⟨_, rfl⟩
  have e0 : sub q.x0 3276800 = r.x0 := by rw [hr]
  have e1 : sub q.x1 3276800 = r.x1 := by rw [hr]
  have e2 : sub q.x2 3276800 = r.x2 := by rw [hr]
  have e3 : add q.x3 3276800 = r.x3 := by rw [hr]
  have e4 : add q.x4 3276800 = r.x4 := by rw [hr]
  have e5 : add q.x5 3276800 = r.x5 := by rw [hr]
  have HLO : Hid (loC q = celOf r.x0 r.x1 r.x2 ∧ hiC q = celOf r.x3 r.x4 r.x5) := ⟨by unfold loC; rw [e0, e1, e2], by unfold hiC; rw [e3, e4, e5]⟩
  simp only [e0, e1, e2, e3, e4, e5]
  clear e0 e1 e2 e3 e4 e5 hr
  obtain ⟨l1, l2, l3, hlv⟩ : ∃ l1 l2 l3 : Int, celV (loC q) = .agg #[.int .i64 l1, .int .i64 l2, .int .i64 l3] := ⟨_, _, _, rfl⟩
  obtain ⟨h1, h2, h3, hhv⟩ : ∃ h1 h2 h3 : Int, celV (hiC q) = .agg #[.int .i64 h1, .int .i64 h2, .int .i64 h3] := ⟨_, _, _, rfl⟩
  have HLV : Hid (celV (loC q) = .agg #[.int .i64 l1, .int .i64 l2, .int .i64 l3] ∧ celV (hiC q) = .agg #[.int .i64 h1, .int .i64 h2, .int .i64 h3]) := ⟨hlv, hhv⟩
  clear hlv hhv
  have H1 : Hid (Only [] w (w1.alloc (.cells #[.int .i64 (r.x0), .int .i64 (r.x1), .int .i64 (r.x2), .int .i64 (r.x3), .int .i64 (r.x4), .int .i64 (r.x5)] 58)) ∧ NR w1.heap.size r (w1.alloc (.cells #[.int .i64 (r.x0), .int .i64 (r.x1), .int .i64 (r.x2), .int .i64 (r.x3), .int .i64 (r.x4), .int .i64 (r.x5)] 58))) :=
    ⟨(((Only.refl [] w).alloc _).trans (Only.of_kept k1)).alloc _, (MapKept.heap_alloc w1 _).1⟩
  revert H1
  generalize w1.heap.size = kr
  generalize World.alloc w1 _ = wA
  intro H1
  clear k1
  have HS : Hid (∀ w', Kept wA w' → w'.cell? ⟨kr, 0, none⟩ = some (.int .i64 (r.x0)) ∧ w'.cell? ⟨kr, 1, none⟩ = some (.int .i64 (r.x1)) ∧ w'.cell? ⟨kr, 2, none⟩ = some (.int .i64 (r.x2)) ∧ w'.cell? ⟨kr, 3, none⟩ = some (.int .i64 (r.x3)) ∧ w'.cell? ⟨kr, 4, none⟩ = some (.int .i64 (r.x4)) ∧ w'.cell? ⟨kr, 5, none⟩ = some (.int .i64 (r.x5))) := fun w' k => (H1.out.2.kept k).cells
  have hlo : ∀ u, Calls Try.prog 16 #[.agg #[.int .i64 (r.x0), .int .i64 (r.x1), .int .i64 (r.x2)]] u fun e u' => e = .returned (.agg #[.int .i64 l1, .int .i64 l2, .int .i64 l3]) ∧ Kept u u' := fun u => by
    rw [← HLV.out.1, HLO.out.1]; exact cellOf_calls _ _ _ u
  have hhi : ∀ u, Calls Try.prog 16 #[.agg #[.int .i64 (r.x3), .int .i64 (r.x4), .int .i64 (r.x5)]] u fun e u' => e = .returned (.agg #[.int .i64 h1, .int .i64 h2, .int .i64 h3]) ∧ Kept u u' := fun u => by
    rw [← HLV.out.2, HLO.out.2]; exact cellOf_calls _ _ _ u
  have HLH : Hid ((∀ u, Calls Try.prog 16 #[.agg #[.int .i64 (r.x0), .int .i64 (r.x1), .int .i64 (r.x2)]] u fun e u' => e = .returned (.agg #[.int .i64 l1, .int .i64 l2, .int .i64 l3]) ∧ Kept u u') ∧ ∀ u, Calls Try.prog 16 #[.agg #[.int .i64 (r.x3), .int .i64 (r.x4), .int .i64 (r.x5)]] u fun e u' => e = .returned (.agg #[.int .i64 h1, .int .i64 h2, .int .i64 h3]) ∧ Kept u u') := ⟨hlo, hhi⟩
  clear hlo hhi
  refine wp_region_held_drew (S := (fun w' => w'.cell? ⟨kr, 0, none⟩ = some (.int .i64 (r.x0)) ∧ w'.cell? ⟨kr, 1, none⟩ = some (.int .i64 (r.x1)) ∧ w'.cell? ⟨kr, 2, none⟩ = some (.int .i64 (r.x2)) ∧ w'.cell? ⟨kr, 3, none⟩ = some (.int .i64 (r.x3)) ∧ w'.cell? ⟨kr, 4, none⟩ = some (.int .i64 (r.x4)) ∧ w'.cell? ⟨kr, 5, none⟩ = some (.int .i64 (r.x5)))) (by kernel_rfl) ?_ (fun hH0 => ?_)
  · (try dsimp only); exact HS.out _ (Kept.refl _).drew
  refine tkW 0 rfl ?_; refine tkW 1 rfl ?_; refine tkW 3 rfl ?_; refine tkW 4 rfl ?_
  try simp only [Act.put, List.setIfInBounds_toArray, List.set_cons_zero, List.set_cons_succ, List.getElem_toArray, List.getElem_cons_succ, List.getElem_cons_zero]
  refine any_order [⟨2, 12, .agg #[.int .i64 l1, .int .i64 l2, .int .i64 l3]⟩, ⟨5, 15, .agg #[.int .i64 h1, .int .i64 h2, .int .i64 h3]⟩] [(6, 6), (7, 7)] #[.int .i64 0, .int .i64 0, .int .i64 0] 54 2 (by kernel_rfl) (by decide) (by simp) ?_ ?_ (fun w' kw _ => HS.out _ ((((Kept.refl wA).drew.trans kw).alloc _ _))) (HS.out _ ((Kept.refl wA).drew)) ?_
  · intro done cc rest hd xs w' K kw hs hK
    rcases calls2 hd with ⟨rfl, rfl⟩ | ⟨rfl, rfl⟩
    · simp only [putX, putCs, List.foldl_cons, List.foldl_nil, Act.put, List.setIfInBounds_toArray, List.set_cons_zero, List.set_cons_succ] at hK ⊢
      unfold wpOp
      simp only [List.getElem?_toArray, List.getElem?_cons_succ, List.getElem?_cons_zero]
      first | (with_reducible refine iteYes ?hcx ?htx; case hcx => kernel_rfl) | rw [if_pos (by rfl)]
      left
      go_simp
      (go_at_call 16; refine (HLH.out.1 _).mono ?_; rintro e w2 ⟨rfl, k2⟩)
      try go_wp2_with fail
      exact hK _ k2 (HS.out _ (((Kept.refl wA).drew.trans (kw.trans k2))))
    · simp only [putX, putCs, List.foldl_cons, List.foldl_nil, Act.put, List.setIfInBounds_toArray, List.set_cons_zero, List.set_cons_succ] at hK ⊢
      unfold wpOp
      simp only [List.getElem?_toArray, List.getElem?_cons_succ, List.getElem?_cons_zero]
      first | (with_reducible refine iteYes ?hcx ?htx; case hcx => kernel_rfl) | rw [if_pos (by rfl)]
      left
      go_simp
      (go_at_call 16; refine (HLH.out.2 _).mono ?_; rintro e w2 ⟨rfl, k2⟩)
      try go_wp2_with fail
      exact hK _ k2 (HS.out _ (((Kept.refl wA).drew.trans (kw.trans k2))))
  · intro p hp a' w' K hK
    simp only [List.mem_cons, List.not_mem_nil, or_false] at hp
    rcases hp with rfl | rfl
    all_goals
      unfold wpOp
      simp only [List.getElem?_toArray, List.getElem?_cons_succ, List.getElem?_cons_zero]
      first | (with_reducible refine iteYes ?hcx ?htx; case hcx => kernel_rfl) | rw [if_pos (by rfl)]
      left
      go_simp
      exact hK
  · intro f wz0 hf hinj kz hs
    have hP := hf (6, 6) (by simp)
    have hQ := hf (7, 7) (by simp)
    have n01 : f 6 ≠ f 7 := fun e => by have := hinj (6, 6) (by simp) (7, 7) (by simp) e; simp at this
    simp only at hP hQ
    simp only [setN, putX, putCs, ptrV, List.map_cons, List.map_nil, List.cons_append, List.nil_append, List.foldl_cons, List.foldl_nil, Act.put, List.setIfInBounds_toArray, List.set_cons_zero, List.set_cons_succ]
    clear hf hinj
    generalize f 6 = pp at hP n01 ⊢
    generalize f 7 = qq at hQ n01 ⊢
    have KZ : Hid (Kept wA wz0) := (Kept.refl wA).drew.trans kz
    clear kz hs
    have Hpp : Hid (wA.heap.size ≤ pp ∧ wz0.heap[pp]? = some (.cells #[.int .i64 0, .int .i64 0, .int .i64 0] 54)) := hP
    clear hP
    have Hqq : Hid (wA.heap.size ≤ qq ∧ wz0.heap[qq]? = some (.cells #[.int .i64 0, .int .i64 0, .int .i64 0] 54)) := hQ
    clear hQ
    have z0 := cell_of Hpp.out.2 0; have y0 := free_of Hpp.out.2 0; have z1 := cell_of Hpp.out.2 1; have y1 := free_of Hpp.out.2 1; have z2 := cell_of Hpp.out.2 2; have y2 := free_of Hpp.out.2 2
    simp only [List.getElem?_toArray, List.getElem?_cons_succ, List.getElem?_cons_zero] at z0 z1 z2
    refine wpAnyH_ready (rs := [8]) (by kernel_rfl) (by simp) ?_
    refine AllReadyH.cons rfl (fun K hK => ?_) AllReadyH.nil
    first | (with_reducible refine iteYes ?hcx ?htx; case hcx => kernel_rfl) | rw [if_pos (by rfl)]
    simp only [List.getElem_toArray, List.getElem_cons_succ, List.getElem_cons_zero]
    go_simp
    refine hK.out _ _ ?_ (fun hS0 => ?_)
    · (try dsimp only); exact HS.out _ ((((KZ.out.setCell (p := ⟨pp, 0, none⟩) Hpp.out.1 _).setCell (p := ⟨pp, 1, none⟩) Hpp.out.1 _).setCell (p := ⟨pp, 2, none⟩) Hpp.out.1 _))
    clear hK K hS0 z0 y0 z1 y1 z2 y2
    try simp only [Act.put, List.setIfInBounds_toArray, List.set_cons_zero, List.set_cons_succ, List.getElem_toArray, List.getElem_cons_succ, List.getElem_cons_zero]
    have KY : Hid (Kept wA (((wz0.setCell ⟨pp, 0, none⟩ (.int .i64 l1)).setCell ⟨pp, 1, none⟩ (.int .i64 l2)).setCell ⟨pp, 2, none⟩ (.int .i64 l3))) := (((KZ.out.setCell (p := ⟨pp, 0, none⟩) Hpp.out.1 _).setCell (p := ⟨pp, 1, none⟩) Hpp.out.1 _).setCell (p := ⟨pp, 2, none⟩) Hpp.out.1 _)
    have Gpp : Hid (wA.heap.size ≤ pp ∧ (((wz0.setCell ⟨pp, 0, none⟩ (.int .i64 l1)).setCell ⟨pp, 1, none⟩ (.int .i64 l2)).setCell ⟨pp, 2, none⟩ (.int .i64 l3)).heap[pp]? = some (.cells #[.int .i64 l1, .int .i64 l2, .int .i64 l3] 54)) := ⟨Hpp.out.1, (heap_set (heap_set (heap_set Hpp.out.2 _ _) _ _) _ _)⟩
    have Gqq : Hid (wA.heap.size ≤ qq ∧ (((wz0.setCell ⟨pp, 0, none⟩ (.int .i64 l1)).setCell ⟨pp, 1, none⟩ (.int .i64 l2)).setCell ⟨pp, 2, none⟩ (.int .i64 l3)).heap[qq]? = some (.cells #[.int .i64 0, .int .i64 0, .int .i64 0] 54)) := ⟨Hqq.out.1, (heap_far (heap_far (heap_far Hqq.out.2 (fun e => n01 e.symm) _ _) (fun e => n01 e.symm) _ _) (fun e => n01 e.symm) _ _)⟩
    clear KZ Hpp Hqq
    generalize (((wz0.setCell ⟨pp, 0, none⟩ (.int .i64 l1)).setCell ⟨pp, 1, none⟩ (.int .i64 l2)).setCell ⟨pp, 2, none⟩ (.int .i64 l3)) = wz1 at KY Gpp Gqq ⊢
    have KZ := KY
    have Hpp := Gpp; have Hqq := Gqq
    clear KY Gpp Gqq
    have z0 := cell_of Hqq.out.2 0; have y0 := free_of Hqq.out.2 0; have z1 := cell_of Hqq.out.2 1; have y1 := free_of Hqq.out.2 1; have z2 := cell_of Hqq.out.2 2; have y2 := free_of Hqq.out.2 2
    simp only [List.getElem?_toArray, List.getElem?_cons_succ, List.getElem?_cons_zero] at z0 z1 z2
    refine wpAnyH_ready (rs := [9]) (by kernel_rfl) (by simp) ?_
    refine AllReadyH.cons rfl (fun K hK => ?_) AllReadyH.nil
    first | (with_reducible refine iteYes ?hcx ?htx; case hcx => kernel_rfl) | rw [if_pos (by rfl)]
    simp only [List.getElem_toArray, List.getElem_cons_succ, List.getElem_cons_zero]
    go_simp
    refine hK.out _ _ ?_ (fun hS1 => ?_)
    · (try dsimp only); exact HS.out _ ((((KZ.out.setCell (p := ⟨qq, 0, none⟩) Hqq.out.1 _).setCell (p := ⟨qq, 1, none⟩) Hqq.out.1 _).setCell (p := ⟨qq, 2, none⟩) Hqq.out.1 _))
    clear hK K hS1 z0 y0 z1 y1 z2 y2
    try simp only [Act.put, List.setIfInBounds_toArray, List.set_cons_zero, List.set_cons_succ, List.getElem_toArray, List.getElem_cons_succ, List.getElem_cons_zero]
    have KY : Hid (Kept wA (((wz1.setCell ⟨qq, 0, none⟩ (.int .i64 h1)).setCell ⟨qq, 1, none⟩ (.int .i64 h2)).setCell ⟨qq, 2, none⟩ (.int .i64 h3))) := (((KZ.out.setCell (p := ⟨qq, 0, none⟩) Hqq.out.1 _).setCell (p := ⟨qq, 1, none⟩) Hqq.out.1 _).setCell (p := ⟨qq, 2, none⟩) Hqq.out.1 _)
    have Gpp : Hid (wA.heap.size ≤ pp ∧ (((wz1.setCell ⟨qq, 0, none⟩ (.int .i64 h1)).setCell ⟨qq, 1, none⟩ (.int .i64 h2)).setCell ⟨qq, 2, none⟩ (.int .i64 h3)).heap[pp]? = some (.cells #[.int .i64 l1, .int .i64 l2, .int .i64 l3] 54)) := ⟨Hpp.out.1, (heap_far (heap_far (heap_far Hpp.out.2 n01 _ _) n01 _ _) n01 _ _)⟩
    have Gqq : Hid (wA.heap.size ≤ qq ∧ (((wz1.setCell ⟨qq, 0, none⟩ (.int .i64 h1)).setCell ⟨qq, 1, none⟩ (.int .i64 h2)).setCell ⟨qq, 2, none⟩ (.int .i64 h3)).heap[qq]? = some (.cells #[.int .i64 h1, .int .i64 h2, .int .i64 h3] 54)) := ⟨Hqq.out.1, (heap_set (heap_set (heap_set Hqq.out.2 _ _) _ _) _ _)⟩
    clear KZ Hpp Hqq
    generalize (((wz1.setCell ⟨qq, 0, none⟩ (.int .i64 h1)).setCell ⟨qq, 1, none⟩ (.int .i64 h2)).setCell ⟨qq, 2, none⟩ (.int .i64 h3)) = wz2 at KY Gpp Gqq ⊢
    have KZ := KY
    have Hpp := Gpp; have Hqq := Gqq
    clear KY Gpp Gqq
    refine wpAnyH_done (by kernel_rfl) ?_ _
    have H2 : Hid (Only [] w wz2 ∧ wz2.heap[pp]? = some (.cells #[.int .i64 l1, .int .i64 l2, .int .i64 l3] 54) ∧ wz2.heap[qq]? = some (.cells #[.int .i64 h1, .int .i64 h2, .int .i64 h3] 54)) := ⟨H1.out.1.trans (Only.of_kept KZ.out), Hpp.out.2, Hqq.out.2⟩
    clear KZ Hpp Hqq n01 HS HLH H1
    obtain ⟨mc, mh, L, HL⟩ : ∃ mc mh L, Hid (GridIs w x mc mh L ∧ D = gridD x mc mh L ∧ (flatC L).Perm G) := HG.out
    have HM : Hid (MapC wz2 mc (cellsC L) ∧ wz2.cell? ⟨x, 0, none⟩ = some (.map (some mc)) ∧ L.length ≤ 1000) := ⟨HL.out.1.cells.only H2.out.1 (by simp), H2.out.1.cell (v := .map (some mc)) (by simp only [World.cell?, HL.out.1.at_]; rfl) (by simp), Nat.le_trans (flatC_len HL.out.1.full) HL.out.1.few⟩
    have HP : Hid (∀ w', Only [] wz2 w' → w'.cell? ⟨pp, 0, none⟩ = some (.int .i64 l1) ∧ w'.cell? ⟨pp, 1, none⟩ = some (.int .i64 l2) ∧ w'.cell? ⟨pp, 2, none⟩ = some (.int .i64 l3) ∧ w'.cell? ⟨qq, 0, none⟩ = some (.int .i64 h1) ∧ w'.cell? ⟨qq, 1, none⟩ = some (.int .i64 h2) ∧ w'.cell? ⟨qq, 2, none⟩ = some (.int .i64 h3) ∧ w'.cell? ⟨x, 0, none⟩ = some (.map (some mc)) ∧ (Builtin.len_ #[46] 3 #[.map (some mc)]).run Try.prog w' = .ok (.int .i64 ((L.length : Int))) w') := fun w' o => by
      have b1 := (o.block pp (Array.getElem?_eq_some_iff.1 H2.out.2.1).1 (by simp)).trans H2.out.2.1
      have b2 := (o.block qq (Array.getElem?_eq_some_iff.1 H2.out.2.2).1 (by simp)).trans H2.out.2.2
      refine ⟨?_, ?_, ?_, ?_, ?_, ?_, o.cell HM.out.2.1 (by simp), ?_⟩
      · simp only [World.cell?, b1]; rfl
      · simp only [World.cell?, b1]; rfl
      · simp only [World.cell?, b1]; rfl
      · simp only [World.cell?, b2]; rfl
      · simp only [World.cell?, b2]; rfl
      · simp only [World.cell?, b2]; rfl
      · have := (HM.out.1.only o (by simp)).len 3
        simpa [cellsC] using this
    have hmy : ∀ u, Calls Try.prog 34 #[.agg #[.int .i64 l1, .int .i64 l2, .int .i64 l3], .agg #[.int .i64 h1, .int .i64 h2, .int .i64 h3]] u fun e u' => ∃ n : Int, e = .returned (.int .i64 n) ∧ Kept u u' := fun u => by
      rw [← HLV.out.1, ← HLV.out.2]; exact many_calls _ _ u
    have HMY : Hid (∀ u, Calls Try.prog 34 #[.agg #[.int .i64 l1, .int .i64 l2, .int .i64 l3], .agg #[.int .i64 h1, .int .i64 h2, .int .i64 h3]] u fun e u' => ∃ n : Int, e = .returned (.int .i64 n) ∧ Kept u u') := hmy
    clear hmy
    go_upto_region 3 with fail
    refine wp_region_held_drew (S := (fun w' => w'.cell? ⟨pp, 0, none⟩ = some (.int .i64 l1) ∧ w'.cell? ⟨pp, 1, none⟩ = some (.int .i64 l2) ∧ w'.cell? ⟨pp, 2, none⟩ = some (.int .i64 l3) ∧ w'.cell? ⟨qq, 0, none⟩ = some (.int .i64 h1) ∧ w'.cell? ⟨qq, 1, none⟩ = some (.int .i64 h2) ∧ w'.cell? ⟨qq, 2, none⟩ = some (.int .i64 h3) ∧ w'.cell? ⟨x, 0, none⟩ = some (.map (some mc)) ∧ (Builtin.len_ #[46] 3 #[.map (some mc)]).run Try.prog w' = .ok (.int .i64 ((L.length : Int))) w')) (by kernel_rfl) ?_ (fun hHeld1 => ?_)
    · (try dsimp only); exact HP.out _ (Only.refl _ _).drew
    refine tkW 0 rfl ?_; refine tkW 1 rfl ?_; refine tkW 3 rfl ?_; refine tkW 4 rfl ?_
    try simp only [Act.put, List.setIfInBounds_toArray, List.set_cons_zero, List.set_cons_succ, List.getElem_toArray, List.getElem_cons_succ, List.getElem_cons_zero]
    refine tkW 5 rfl ?_; refine tkW 6 rfl ?_
    try simp only [Act.put, List.setIfInBounds_toArray, List.set_cons_zero, List.set_cons_succ, List.getElem_toArray, List.getElem_cons_succ, List.getElem_cons_zero]
    refine wpAnyH_ready (rs := [2]) (by kernel_rfl) (by simp) ?_
    refine AllReadyH.cons rfl (fun K hK => ?_) AllReadyH.nil
    first | (with_reducible refine iteYes ?hcx ?htx; case hcx => kernel_rfl) | rw [if_pos (by rfl)]
    simp only [List.getElem_toArray, List.getElem_cons_succ, List.getElem_cons_zero]
    go_simp
    (go_at_call 34; refine (HMY.out _).mono ?_; rintro e w5 ⟨n, rfl, k5⟩)
    try go_wp2_with fail
    refine hK.out _ _ ?_ (fun hHeld2 => ?_)
    · (try dsimp only); exact HP.out _ ((Only.refl _ _).drew.trans (Only.of_kept k5))
    clear hK K hHeld1
    try simp only [Act.put, List.setIfInBounds_toArray, List.set_cons_zero, List.set_cons_succ, List.getElem_toArray, List.getElem_cons_succ, List.getElem_cons_zero]
    refine tkW 7 rfl ?_; refine tkW 8 rfl ?_
    try simp only [Act.put, List.setIfInBounds_toArray, List.set_cons_zero, List.set_cons_succ, List.getElem_toArray, List.getElem_cons_succ, List.getElem_cons_zero]
    refine wpAnyH_done (by kernel_rfl) ?_ _
    have H5 : Hid (Only [] wz2 w5) := (Only.refl _ _).drew.trans (Only.of_kept k5)
    clear k5 hHeld2
    obtain ⟨p0, p1, p2, q0, q1, q2, x0, _⟩ := HP.out _ H5.out
    have hkey : (cellsC L).map Prod.fst = L.map CE.c := by simp [cellsC]
    have HKEY : Hid (∀ c ∈ G.map Prod.fst, c ∈ (cellsC L).map Prod.fst) := fun c hc => by
      obtain ⟨y, hy, rfl⟩ := List.mem_map.1 hc
      have h4 := HL.out.2.2.mem_iff.2 hy
      simp only [flatC, List.mem_flatMap, List.mem_map] at h4
      obtain ⟨e, he, s, hs, rfl⟩ := h4
      rw [hkey]
      exact List.mem_map_of_mem he
    clear hkey
    have HEND : Hid (∀ (e : Ending) (w' : World) (keys : List Cel), (∀ c ∈ G.map Prod.fst, c ∈ keys) → SeqPost w5 (loC q) (hiC q) keys e w' → SeqPost w (loC q) (hiC q) (G.map Prod.fst) e w') := fun e w' keys hk hp => by
      obtain ⟨gf, lb, Bs, N, t1, t2, t3, t4, t5, t6⟩ := hp
      have ow : Only [] w w5 := H2.out.1.trans H5.out
      refine ⟨gf, lb, Bs, N, t1, t2, fun m l J Jx W hW hJ hJx hY h0 => ?_, t4, fun b hb => ⟨(t5 b hb).1, Nat.le_trans ow.size (t5 b hb).2⟩, ow.trans t6⟩
      refine (t3 m l J Jx W hW hJ hJx hY h0).mono ?_
      rintro e W' ⟨h3, ⟨xs, ⟨h4, h5⟩, h6⟩ | h7⟩
      · exact ⟨h3, .inl ⟨xs, ⟨h4, fun c hc hb => h5 c (hk c hc) hb⟩, h6⟩⟩
      · exact ⟨h3, .inr h7⟩
    have hfi : Calls Try.prog 35 #[.pointer (some ⟨x, 0, none⟩), .agg #[.int .i64 l1, .int .i64 l2, .int .i64 l3], .agg #[.int .i64 h1, .int .i64 h2, .int .i64 h3]] w5 (SeqPost w (loC q) (hiC q) (G.map Prod.fst)) := by
      rw [← HLV.out.1, ← HLV.out.2]
      exact (filled_calls (loC q) (hiC q) x mc (cellsC L) w5 x0 (HM.out.1.only H5.out (by simp)) (by simpa [cellsC] using HM.out.2.2)).mono (fun e w' hp => HEND.out e w' _ HKEY.out hp)
    have hev : Calls Try.prog 36 #[.agg #[.int .i64 l1, .int .i64 l2, .int .i64 l3], .agg #[.int .i64 h1, .int .i64 h2, .int .i64 h3]] w5 (SeqPost w (loC q) (hiC q) (G.map Prod.fst)) := by
      rw [← HLV.out.1, ← HLV.out.2]
      exact (every_calls (loC q) (hiC q) (G.map Prod.fst) w5).mono (fun e w' hp => HEND.out e w' _ (fun c hc => hc) hp)
    have HC : Hid ((Calls Try.prog 35 #[.pointer (some ⟨x, 0, none⟩), .agg #[.int .i64 l1, .int .i64 l2, .int .i64 l3], .agg #[.int .i64 h1, .int .i64 h2, .int .i64 h3]] w5 (SeqPost w (loC q) (hiC q) (G.map Prod.fst))) ∧ Calls Try.prog 36 #[.agg #[.int .i64 l1, .int .i64 l2, .int .i64 l3], .agg #[.int .i64 h1, .int .i64 h2, .int .i64 h3]] w5 (SeqPost w (loC q) (hiC q) (G.map Prod.fst))) := ⟨hfi, hev⟩
    clear hfi hev
    by_cases hgt : n > (L.length : Int)
    · have tg : decide (n > (L.length : Int)) = true := by simpa using hgt
      go_wp2_with (first | (go_at_call 35; refine HC.out.1.mono ?_; rintro e w6 ⟨gf, lb, Bs, N, rfl, hp⟩))
      go_ret
      exact ⟨gf, lb, Bs, N, rfl, hp⟩
    · have tg : decide (n > (L.length : Int)) = false := by simpa using hgt
      go_wp2_with (first | (go_at_call 36; refine HC.out.2.mono ?_; rintro e w6 ⟨gf, lb, Bs, N, rfl, hp⟩))
      go_ret
      exact ⟨gf, lb, Bs, N, rfl, hp⟩
end Go.Proofs.Ytdbjbjgnkkhgcaa
