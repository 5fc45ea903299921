/- (*world.World).Touches: where the bodies of a world touch, pair by pair. · The slice that Touches tells, as solve takes it. · What a step makes of bodies, and of their boxes: plain functions. · A step keeps bodies within their bounds; what has no mass keeps its speed, but where the world ends: plain functions. · (*world.World).Step . · A body read whole out of memory, and held against itself: one law each. · A region that draws its order, whose last operations (from number f on) store over what its first ones read: a condition on the world that holds behind each operation ahead of f alone. Plain laws over the library's own (OrdersHeld), no condition but those typed. · (*world.World).Spawn: a body put into a world, or what is wrong. -/
import Derived.Test.YtbfkloclmlnahabGreatA9
import Derived.Test.YtbfkloclmlnahabGreatA0
import Derived.Test.YtbfkloclmlnahabGreatA10
import Derived.Test.YtbfkloclmlnahabGreatA12
import Derived.Test.YtbfkloclmlnahabGreatRows
import Derived.OrdersHeld
import Derived.Deep.RegionHeld
open List renaming getElem_toArray → zqa, getElem_cons_succ → zqb, getElem_cons_zero → zqc, setIfInBounds_toArray → zqd, set_cons_zero → zqe, set_cons_succ → zqf, getElem?_toArray → zqg, getElem?_cons_succ → zqh, getElem?_cons_zero → zqi
namespace Go.Proofs.YtbfkloclmlnahabGreat
open Go.ChangeShapes Go.WideShapes Go.ChangeAt Go.RowKit
set_option linter.unusedVariables false
set_option linter.unusedSimpArgs false

/-- Rising numbers. -/
def Rises (B : Nat → Bd) (n : Nat) : Prop := ∀ i k, i < k → k < n → (B i).id < (B k).id
def getX (B : Nat → Bd) (n : Nat) (id : Int) : Bd := match findX B id n with
  | some i => B i
  | none => bd0
theorem Rises.alone {B : Nat → Bd} {n : Nat} (h : Rises B n) : Alone n B := fun i k hi hk e => by
  rcases Nat.lt_trichotomy i k with q | q | q
  · have := h i k q hk; omega
  · exact q
  · have := h k i q hi; omega
theorem get_found {B : Nat → Bd} {n : Nat} (h : Rises B n) {id : Int} {r : Nat} {v : Bool} (hf : FindIs B n id r v) : bodyX B r v = getX B n id := by
  obtain ⟨⟨h1, h2, h3⟩, h4⟩ := hf
  unfold getX
  cases hx : findX B id n with
  | some i =>
    obtain ⟨hi, hid⟩ := findX_some hx
    have hri : r = i := by
      rcases Nat.lt_trichotomy r i with q | q | q
      · rcases h3 with e | e
        · omega
        · have := h r i q hi; omega
      · exact q
      · rcases h2 with e | e
        · omega
        · by_cases e1 : i = r - 1
          · subst e1; omega
          · have := h i (r - 1) (by omega) (by omega); omega
    subst hri
    have hv : v = true := by rw [h4]; simp [hi, hid]
    subst hv; rfl
  | none =>
    have hno := findX_none hx
    have hv : v = false := by
      rw [h4]
      by_cases hr : r < n
      · simp [hr, hno r hr]
      · simp [hr]
    subst hv; rfl
/-- What two bodies' touch is, if they touch. -/
def tchX (p q : Bd) : List Tc := if (touchT p.kd p.sx p.sy p.sz p.ax p.ay p.az q.kd q.sx q.sy q.sz q.ax q.ay q.az).ok = true then [⟨p.id, q.id, ⟨(touchT p.kd p.sx p.sy p.sz p.ax p.ay p.az q.kd q.sx q.sy q.sz q.ax q.ay q.az).x, (touchT p.kd p.sx p.sy p.sz p.ax p.ay p.az q.kd q.sx q.sy q.sz q.ax q.ay q.az).y, (touchT p.kd p.sx p.sy p.sz p.ax p.ay p.az q.kd q.sx q.sy q.sz q.ax q.ay q.az).z⟩, (touchT p.kd p.sx p.sy p.sz p.ax p.ay p.az q.kd q.sx q.sy q.sz q.ax q.ay q.az).d⟩] else []
def tchL (B : Nat → Bd) (n : Nat) (P : List (Int × Int)) : List Tc := P.flatMap (fun c => tchX (getX B n c.1) (getX B n c.2))
theorem tchX_len (p q : Bd) : (tchX p q).length ≤ 1 := by unfold tchX; split <;> simp
theorem tchL_len (B : Nat → Bd) (n : Nat) : ∀ P : List (Int × Int), (tchL B n P).length ≤ P.length
  | [] => by simp [tchL]
  | c :: P => by
    have h1 := tchL_len B n P
    have h2 := tchX_len (getX B n c.1) (getX B n c.2)
    simp only [tchL, List.flatMap_cons, List.length_append, List.length_cons] at h1 ⊢
    omega
theorem tchL_snoc (B : Nat → Bd) (n : Nat) (P : List (Int × Int)) (c : Int × Int) : tchL B n (P ++ [c]) = tchL B n P ++ tchX (getX B n c.1) (getX B n c.2) := by simp [tchL]
def tcL (t : Tc) : List Value := [.int .i64 (t.a), .int .i64 (t.b), .int .i64 (t.way.x), .int .i64 (t.way.y), .int .i64 (t.way.z), .int .i64 (t.deep)]
def SlTc (w : World) (v : Value) (ts : List Tc) : Prop := w.ownsRow 0 44 6 v ts.length (ts.flatMap tcL)
theorem SlTc.only {D : List Nat} {w w' : World} {v : Value} {ts : List Tc} (h : SlTc w v ts) (o : Only D w w') (s : ∀ b ∈ ownM v, b ∉ D) : SlTc w' v ts := by
  obtain ⟨hl, ⟨rfl, hn⟩ | ⟨q, cap, cur, rfl, hb, hh, h1, h2, h3, h4⟩⟩ := h
  · exact ⟨hl, Or.inl ⟨rfl, hn⟩⟩
  · exact ⟨hl, Or.inr ⟨q, cap, cur, rfl, hb, (o.block q (Array.getElem?_eq_some_iff.1 hh).1 (s q (by simp [ownM, Value.ownBlock]))).trans hh, h1, h2, h3, h4⟩⟩
theorem SlTc.nil (w : World) : SlTc w (.slice none 0 0) [] := World.ownsRow_nil w 0 _ _
theorem touchInfo : (Tryz.prog.info? 44).map (fun i => (i.zero, i.size, i.bytes)) = some (some (.agg #[.int .i64 0, .int .i64 0, .int .i64 0, .int .i64 0, .int .i64 0, .int .i64 0]), 6, 48) := by kernel_rfl
theorem SlTc.put {w2 w3 : World} {v v' : Value} {ts : List Tc} {q : Tc} {T : TypeId} (hown : w3.ownsRow 0 44 6 v' (ts.length + 1) (ts.flatMap tcL ++ tcL q)) (hgrow : (w2.alloc (.cells (tcL q).toArray T)).grownBy w3 v.ownBlock)
    (hloc : v'.ownBlock = v.ownBlock ∨ v'.ownBlock = some (w2.alloc (.cells (tcL q).toArray T)).heap.size) : SlTc w3 v' (ts ++ [q]) ∧ Only (ownM v) w2 w3 ∧ (∀ b ∈ ownM v', b ∈ ownM v ∨ w2.heap.size ≤ b) := by
  refine ⟨?_, ?_, ?_⟩
  · unfold SlTc; rw [List.flatMap_append, List.length_append]; simpa using hown
  · refine ((Only.refl _ _).alloc _).grown hgrow (fun k hk => Or.inl ?_)
    simp [ownM, hk]
  · intro x hx
    rcases hloc with e | e
    · left; simpa [ownM, e] using hx
    · right
      simp only [ownM, e, Option.toList_some, List.mem_singleton] at hx
      simp at hx; omega
theorem pairM_most (M : List (Int × Bx)) (p : Int × Bx) : (pairM M p).length ≤ M.length := by
  unfold pairM above
  rw [List.length_map]
  refine Nat.le_trans (List.length_filter_le _ _) ?_
  rw [List.length_map]
  exact List.length_filter_le _ _
theorem pairsM_most (M : List (Int × Bx)) : (pairsM M).length ≤ M.length * M.length := by
  unfold pairsM
  rw [show (sort2 (M.flatMap (pairM M))).length = (M.flatMap (pairM M)).length from (List.mergeSort_perm _ _).length_eq]
  have key : ∀ L : List (Int × Bx), (L.flatMap (pairM M)).length ≤ L.length * M.length := by
    intro L
    induction L with
    | nil => simp
    | cons p L ih =>
      have := pairM_most M p
      rw [List.flatMap_cons, List.length_append, List.length_cons, Nat.succ_mul]; omega
  exact key M
theorem cell_six (w : World) (a0 a1 a2 a3 a4 a5 : Value) (t : TypeId) : ∀ j u, [a0, a1, a2, a3, a4, a5][j]? = some u → (w.alloc (.cells #[a0, a1, a2, a3, a4, a5] t)).cell? ((⟨w.heap.size, 0, none⟩ : Addr).add j) = some u := by
  intro j u hj
  match j, hj with
  | 0, hj => simp at hj; subst hj; simp [Addr.add]
  | 1, hj => simp at hj; subst hj; simp [Addr.add]
  | 2, hj => simp at hj; subst hj; simp [Addr.add]
  | 3, hj => simp at hj; subst hj; simp [Addr.add]
  | 4, hj => simp at hj; subst hj; simp [Addr.add]
  | 5, hj => simp at hj; subst hj; simp [Addr.add]
  | j + 6, hj => simp at hj
/-- What holds while Touches goes over the pairs. -/
structure TW (w : World) (v : Value) (ts : List Tc) (wr : World) : Prop where
  sl : SlTc wr v ts
  only : Only [] w wr
  new : ∀ b ∈ ownM v, w.heap.size ≤ b
set_option maxRecDepth 100000 in
set_option maxHeartbeats 8000000 in
theorem wtouches_calls {E : List Nat} (w0 : World) (x g : Nat) (c : Wc) (a : Option Addr) (n cap t : Nat) (la st : Int) (B : Nat → Bd) (M : List (Int × Bx)) (D : List Nat) (w : World) (hn : n ≤ 60) (h : WW E w0 x g c a n cap t la st B M D w) (hr : Rises B n) :
    Calls Tryz.prog 14 #[.pointer (some ⟨x, 0, none⟩)] w fun e w' => ∃ v, e = .returned v ∧ TW w v (tchL B n (pairsM M)) w' := by
  have HW : Hid (WW E w0 x g c a n cap t la st B M D w ∧ n ≤ 60 ∧ Rises B n) := ⟨h, hn, hr⟩
  clear h hn hr
  have s8 := HW.out.1.wa.off 8
  simp only [zqg, zqh, zqi] at s8
  go_enter Tryz.func14, Tryz.ntmps14
  go_wp2_with fail
  refine (pairs_calls t 65536 D M w HW.out.1.tree).mono ?_
  rintro e w1 ⟨pv, rfl, hsp, o1, hnw⟩
  obtain ⟨ap, cp, rfl, hsh⟩ := hsp.shape
  have HP : Hid ((pairsM M).length ≤ 3600 ∧ Only [] w w1) := by
    refine ⟨?_, o1⟩
    have h3 := pairsM_most M
    have h5 : M.length * M.length ≤ 60 * 60 := Nat.mul_le_mul HW.out.1.tree.small HW.out.1.tree.small
    omega
  clear s8 hsp hnw o1
  generalize hPM : pairsM M = P at HP hsh ⊢
  have HPM : Hid (pairsM M = P) := hPM
  clear hPM
  have HSH : Hid (∀ j (hj : j < P.length), ∃ g, ap = some ⟨g, 0, none⟩ ∧ w1.cell? ⟨g, j * 2, none⟩ = some (.int .i64 (P[j].1)) ∧ w1.cell? ⟨g, j * 2 + 1, none⟩ = some (.int .i64 (P[j].2))) := hsh
  clear hsh
  go_wp2_with fail
  go_loopg [3, 19] P.length (fun k sv idx wr => ∃ (v : Value) (j : Nat), v = sv ∧ idx = .int .i64 (j : Int) ∧ Hid (j ≤ P.length ∧ k = P.length - j) ∧ Hid (TW w1 v (tchL B n (P.take j)) wr))
  case atStart => exact ⟨_, 0, rfl, rfl, ⟨by omega, rfl⟩, SlTc.nil _, Only.refl _ _, by simp [ownM, Value.ownBlock]⟩
  case round =>
    obtain ⟨v, j, rfl, rfl, H2, HT⟩ := hrel
    have hp36 := HP.out.1
    by_cases hj : j < P.length
    · have hjl : (j : Int) < (P.length : Int) := by omega
      have HTK : Hid (tchL B n (P.take (j + 1)) = tchL B n (P.take j) ++ tchX (getX B n P[j].1) (getX B n P[j].2)) := by
        show _ = _
        rw [← List.take_append_getElem hj, tchL_snoc]
      obtain ⟨gp, rfl, hc1, hc2⟩ := HSH.out j hj
      have d1 := cell_old1 HT.out.only hc1
      have d2 := cell_old1 HT.out.only hc2
      clear hc1 hc2
      generalize P[j].1 = pa at d1 HTK
      generalize P[j].2 = pb at d2 HTK
      go_upto_region 5 with fail
      clear d1 d2
      have H3 : Hid (Only [] wr (wr.alloc (.cells #[.int .i64 pa, .int .i64 pb] 70)) ∧ (wr.alloc (.cells #[.int .i64 pa, .int .i64 pb] 70)).heap[wr.heap.size]? = some (.cells #[.int .i64 pa, .int .i64 pb] 70)) := ⟨(Only.refl [] wr).alloc _, (MapKept.heap_alloc wr _).1⟩
      revert H3
      generalize wr.heap.size = kp
      generalize World.alloc wr _ = w3
      intro H3
      have HPC : Hid (∀ w', Only [] w3 w' → w'.cell? ⟨kp, 0, none⟩ = some (.int .i64 pa) ∧ w'.cell? ⟨kp, 1, none⟩ = some (.int .i64 pb)) := fun w' o => ⟨cell_old1 o (by simp [World.cell?, H3.out.2]), cell_old1 o (by simp [World.cell?, H3.out.2])⟩
      have HO3 : Hid (Only [] w w3) := (HP.out.2.trans HT.out.only).trans H3.out.1
      obtain ⟨e0, e1⟩ := HPC.out _ (Only.refl [] w3)
      go_wp2_with fail
      refine (wbody_calls x pa c a n cap t la st B w3 HW.out.2.1 (HW.out.1.wa.only HO3.out (by simp)) (HW.out.1.own.bodies.only HO3.out)).mono ?_
      rintro e w4 ⟨r1, v1, rfl, hf1, o4⟩
      clear e0 e1
      rw [get_found HW.out.2.2 hf1]
      clear hf1
      generalize getX B n pa = p at HTK
      unfold bdV
      go_upto_region 6 with fail
      have H4 : Hid (Only [] w3 (w4.alloc (.cells #[.int .i64 (p.id), .int .i64 (p.ow), .int .i64 (p.kd), .int .i64 (p.sx), .int .i64 (p.sy), .int .i64 (p.sz), .int .i64 (p.ax), .int .i64 (p.ay), .int .i64 (p.az), .int .i64 (p.vx), .int .i64 (p.vy), .int .i64 (p.vz), .int .i64 (p.px), .int .i64 (p.py), .int .i64 (p.pz), .int .i64 (p.ms), .int .i64 (p.tm)] 37)) ∧ BodyAt (w4.alloc (.cells #[.int .i64 (p.id), .int .i64 (p.ow), .int .i64 (p.kd), .int .i64 (p.sx), .int .i64 (p.sy), .int .i64 (p.sz), .int .i64 (p.ax), .int .i64 (p.ay), .int .i64 (p.az), .int .i64 (p.vx), .int .i64 (p.vy), .int .i64 (p.vz), .int .i64 (p.px), .int .i64 (p.py), .int .i64 (p.pz), .int .i64 (p.ms), .int .i64 (p.tm)] 37)) w4.heap.size p) := ⟨o4.alloc _, (MapKept.heap_alloc w4 _).1⟩
      clear o4
      revert H4
      generalize w4.heap.size = ka
      generalize World.alloc w4 _ = w5
      intro H4
      obtain ⟨e0, e1⟩ := HPC.out _ H4.out.1
      go_wp2_with fail
      refine (wbody_calls x pb c a n cap t la st B w5 HW.out.2.1 (HW.out.1.wa.only (HO3.out.trans H4.out.1) (by simp)) (HW.out.1.own.bodies.only (HO3.out.trans H4.out.1))).mono ?_
      rintro e w6 ⟨r2, v2, rfl, hf2, o6⟩
      clear e0 e1
      rw [get_found HW.out.2.2 hf2]
      clear hf2
      generalize getX B n pb = q at HTK
      unfold bdV
      go_upto_region 7 with fail
      have H6 : Hid (Only [] w3 (w6.alloc (.cells #[.int .i64 (q.id), .int .i64 (q.ow), .int .i64 (q.kd), .int .i64 (q.sx), .int .i64 (q.sy), .int .i64 (q.sz), .int .i64 (q.ax), .int .i64 (q.ay), .int .i64 (q.az), .int .i64 (q.vx), .int .i64 (q.vy), .int .i64 (q.vz), .int .i64 (q.px), .int .i64 (q.py), .int .i64 (q.pz), .int .i64 (q.ms), .int .i64 (q.tm)] 37)) ∧ BodyAt (w6.alloc (.cells #[.int .i64 (q.id), .int .i64 (q.ow), .int .i64 (q.kd), .int .i64 (q.sx), .int .i64 (q.sy), .int .i64 (q.sz), .int .i64 (q.ax), .int .i64 (q.ay), .int .i64 (q.az), .int .i64 (q.vx), .int .i64 (q.vy), .int .i64 (q.vz), .int .i64 (q.px), .int .i64 (q.py), .int .i64 (q.pz), .int .i64 (q.ms), .int .i64 (q.tm)] 37)) ka p ∧ BodyAt (w6.alloc (.cells #[.int .i64 (q.id), .int .i64 (q.ow), .int .i64 (q.kd), .int .i64 (q.sx), .int .i64 (q.sy), .int .i64 (q.sz), .int .i64 (q.ax), .int .i64 (q.ay), .int .i64 (q.az), .int .i64 (q.vx), .int .i64 (q.vy), .int .i64 (q.vz), .int .i64 (q.px), .int .i64 (q.py), .int .i64 (q.pz), .int .i64 (q.ms), .int .i64 (q.tm)] 37)) w6.heap.size q) := ⟨(H4.out.1.trans o6).alloc _, H4.out.2.only (o6.alloc _), (MapKept.heap_alloc w6 _).1⟩
      clear o6 H4
      revert H6
      generalize w6.heap.size = kc
      generalize World.alloc w6 _ = w7
      intro H6
      have HA := H6.out.2.1; have HC := H6.out.2.2
      have a2 := HA.off 2; have b2 := HC.off 2
      have a3 := HA.off 3; have b3 := HC.off 3
      have a4 := HA.off 4; have b4 := HC.off 4
      have a5 := HA.off 5; have b5 := HC.off 5
      have a6 := HA.off 6; have b6 := HC.off 6
      have a7 := HA.off 7; have b7 := HC.off 7
      have a8 := HA.off 8; have b8 := HC.off 8
      simp only [zqg, zqh, zqi] at a2 b2 a3 b3 a4 b4 a5 b5 a6 b6 a7 b7 a8 b8
      clear HA HC
      go_wp2_with fail
      refine (gTouches_calls p.kd p.sx p.sy p.sz p.ax p.ay p.az q.kd q.sx q.sy q.sz q.ax q.ay q.az _).mono ?_
      rintro e w8 ⟨rfl, k8⟩
      clear a2 b2 a3 b3 a4 b4 a5 b5 a6 b6 a7 b7 a8 b8
      have HTX : Hid (tchX p q = if (touchT p.kd p.sx p.sy p.sz p.ax p.ay p.az q.kd q.sx q.sy q.sz q.ax q.ay q.az).ok = true then [⟨p.id, q.id, ⟨(touchT p.kd p.sx p.sy p.sz p.ax p.ay p.az q.kd q.sx q.sy q.sz q.ax q.ay q.az).x, (touchT p.kd p.sx p.sy p.sz p.ax p.ay p.az q.kd q.sx q.sy q.sz q.ax q.ay q.az).y, (touchT p.kd p.sx p.sy p.sz p.ax p.ay p.az q.kd q.sx q.sy q.sz q.ax q.ay q.az).z⟩, (touchT p.kd p.sx p.sy p.sz p.ax p.ay p.az q.kd q.sx q.sy q.sz q.ax q.ay q.az).d⟩] else []) := rfl
      generalize touchT p.kd p.sx p.sy p.sz p.ax p.ay p.az q.kd q.sx q.sy q.sz q.ax q.ay q.az = tt at HTX ⊢
      go_upto_region 8 with fail
      have H8 : Hid (Only [] w3 (w8.alloc (.cells #[.int .i64 (tt.x), .int .i64 (tt.y), .int .i64 (tt.z)] 24)) ∧ BodyAt (w8.alloc (.cells #[.int .i64 (tt.x), .int .i64 (tt.y), .int .i64 (tt.z)] 24)) ka p ∧ BodyAt (w8.alloc (.cells #[.int .i64 (tt.x), .int .i64 (tt.y), .int .i64 (tt.z)] 24)) kc q ∧ VecAt (w8.alloc (.cells #[.int .i64 (tt.x), .int .i64 (tt.y), .int .i64 (tt.z)] 24)) w8.heap.size tt.x tt.y tt.z) :=
        ⟨(H6.out.1.trans (Only.of_kept k8)).alloc _, H6.out.2.1.only ((Only.of_kept k8).alloc _), H6.out.2.2.only ((Only.of_kept k8).alloc _), (MapKept.heap_alloc w8 _).1⟩
      clear k8 H6
      revert H8
      generalize w8.heap.size = kv
      generalize World.alloc w8 _ = w9
      intro H8
      cases hok : tt.ok with
      | false =>
        have HE : Hid (tchL B n (P.take (j + 1)) = tchL B n (P.take j)) := by show _ = _; rw [HTK.out, HTX.out, hok]; simp
        clear hok
        go_wp2_with fail
        go_roundg (P.length - (j + 1))
        case measure => have := H2.out.2; omega
        case rel => exact ⟨v, j + 1, rfl, by go_num, ⟨by omega, rfl⟩, by rw [HE.out]; exact ⟨HT.out.sl.only (H3.out.1.trans H8.out.1) (by simp), HT.out.only.trans (H3.out.1.trans H8.out.1), HT.out.new⟩⟩
      | true =>
        have HE : Hid (tchL B n (P.take (j + 1)) = tchL B n (P.take j) ++ [⟨p.id, q.id, ⟨tt.x, tt.y, tt.z⟩, tt.d⟩]) := by show _ = _; rw [HTK.out, HTX.out, hok]; simp
        clear hok
        have a0 := H8.out.2.1.off 0; have b0 := H8.out.2.2.1.off 0
        have g0 := H8.out.2.2.2.off 0; have g1 := H8.out.2.2.2.off 1; have g2 := H8.out.2.2.2.off 2
        simp only [zqg, zqh, zqi] at a0 b0 g0 g1 g2
        have hsl := HT.out.sl.only (H3.out.1.trans H8.out.1) (by simp)
        have hml : (tchL B n (P.take j)).length ≤ 3600 := Nat.le_trans (tchL_len B n _) (by rw [List.length_take]; omega)
        obtain ⟨i2, hi0, hz0, hz1, hz2⟩ := info_parts' touchInfo
        unfold SlTc at hsl
        go_wp2_with (first | (at_builtin; refine wpList_append_own_at _ rfl _ _ 41 rfl 0 44 i2 (.agg #[.int .i64 0, .int .i64 0, .int .i64 0, .int .i64 0, .int .i64 0, .int .i64 0]) 6 48 Tryz.underlying41 hi0 hz0 hz1 hz2 rfl (by decide) v _ _ rfl (World.ownsRow.alloc hsl _) ⟨w9.heap.size, 0, none⟩ 1 1 [.int .i64 p.id, .int .i64 q.id, .int .i64 tt.x, .int .i64 tt.y, .int .i64 tt.z, .int .i64 tt.d] rfl rfl (cell_six _ _ _ _ _ _ _ _) (by simp [Value.oneCell']) (by unfold maxLen; omega) (by omega) (by simp) ?_; intro v' wa hown hgrow hnil hloc; have HA : Hid (_ ∧ _ ∧ _) := SlTc.put (q := ⟨p.id, q.id, ⟨tt.x, tt.y, tt.z⟩, tt.d⟩) hown hgrow hloc; clear hown hgrow hnil hloc hsl))
        go_roundg (P.length - (j + 1))
        case measure => have := H2.out.2; omega
        case rel =>
          refine ⟨v', j + 1, rfl, by go_num, ⟨by omega, rfl⟩, ?_⟩
          rw [HE.out]
          obtain ⟨h1, h2, h3⟩ := HA.out
          exact ⟨h1, (HT.out.only.trans (H3.out.1.trans H8.out.1)).then h2 (fun b hb => Or.inr (HT.out.new b hb)), fun b hb => by
            rcases h3 b hb with e | e
            · exact HT.out.new b e
            · exact Nat.le_trans (HT.out.only.trans (H3.out.1.trans H8.out.1)).size e⟩
    · have hjl : ¬ (j : Int) < (P.length : Int) := by omega
      obtain rfl : j = P.length := by have := H2.out.1; omega
      have HE : Hid (tchL B n (P.take P.length) = tchL B n P) := by show _ = _; rw [List.take_length]
      go_wp2_with fail
      go_ret
      refine ⟨v, rfl, ?_, HP.out.2.trans HT.out.only, fun b hb => Nat.le_trans HP.out.2.size (HT.out.new b hb)⟩
      rw [HPM.out, ← HE.out]; exact HT.out.sl
end Go.Proofs.YtbfkloclmlnahabGreat

namespace Go.Proofs.YtbfkloclmlnahabGreat
open Go.ChangeShapes Go.WideShapes Go.ChangeAt Go.RowKit
set_option linter.unusedVariables false
set_option linter.unusedSimpArgs false

def tc0 : Tc := ⟨0, 0, ⟨0, 0, 0⟩, 0⟩
theorem flat6 : ∀ (ts : List Tc) (j : Nat) (hj : j < ts.length) (k : Nat), k < 6 → (ts.flatMap tcL)[j * 6 + k]? = (tcL ts[j])[k]?
  | [], j, hj, k, hk => by simp at hj
  | t :: ts, 0, hj, k, hk => by
    rw [List.flatMap_cons, List.getElem?_append_left (by simp [tcL]; omega)]
    simp
  | t :: ts, j + 1, hj, k, hk => by
    have h := flat6 ts j (by simpa using hj) k hk
    rw [List.flatMap_cons, List.getElem?_append_right (by simp [tcL]; omega)]
    have e : (j + 1) * 6 + k - (tcL t).length = j * 6 + k := by simp [tcL]; omega
    rw [e, h]
    simp
theorem flat6_len (ts : List Tc) : (ts.flatMap tcL).length = ts.length * 6 := by
  induction ts with
  | nil => rfl
  | cons t ts ih => rw [List.flatMap_cons, List.length_append, ih, List.length_cons]; simp [tcL]; omega
theorem SlTc.touches {w : World} {v : Value} {ts : List Tc} (h : SlTc w v ts) (hid : ∀ t ∈ ts, In64S t.a ∧ In64S t.b) : ∃ a c, v = .slice a ts.length c ∧ TouchesAt w a ts.length (fun j => ts.getD j tc0) ∧ (∀ g o s, a = some ⟨g, o, s⟩ → g ∈ ownM v ∧ g < w.heap.size) := by
  obtain ⟨hl, ⟨rfl, hn⟩ | ⟨g, cap, cur, rfl, hb, hh, h1, h2, h3, h4⟩⟩ := h
  · have e : ts = [] := List.eq_nil_of_length_eq_zero hn
    subst e
    exact ⟨none, 0, rfl, fun j hj => by simp at hj, fun g o s e => by cases e⟩
  · refine ⟨_, cap, rfl, fun j hj => ?_, fun g' o' s' e => by
      injection e with e; injection e with e1; subst e1
      exact ⟨by simp [ownM, Value.ownBlock], (Array.getElem?_eq_some_iff.1 hh).1⟩⟩
    have e : ts.getD j tc0 = ts[j] := by simp [hj]
    have hm := hid ts[j] (List.getElem_mem hj)
    have hc : ∀ k, k < 6 → w.cell? ⟨g, 0 + j * 6 + k, none⟩ = (tcL ts[j])[k]? := fun k hk => by
      have h5 := flat6 ts j hj k hk
      rw [← h4, List.getElem?_take_of_lt (by have := flat6_len ts; omega), Array.getElem?_toList] at h5
      rw [← h5, Nat.zero_add]
      simp [World.cell?, hh]
    simp only [e]
    exact ⟨hm.1, hm.2, g, 0, rfl, hc 0 (by omega), hc 1 (by omega), hc 2 (by omega), hc 3 (by omega), hc 4 (by omega), hc 5 (by omega)⟩
end Go.Proofs.YtbfkloclmlnahabGreat

namespace Go.Proofs.YtbfkloclmlnahabGreat
open Go.ChangeShapes Go.WideShapes Go.ChangeAt Go.RowKit
set_option linter.unusedVariables false
set_option linter.unusedSimpArgs false

/-- The touches that a step goes by. -/
def touchesOf (c : Wc) (B : Nat → Bd) (n : Nat) (M : List (Int × Bx)) : List Tc := tchL (mapTo (driveB c) B n) n (pairsM M)
/-- What a step makes of bodies, by touches. -/
def stepT (c : Wc) (B : Nat → Bd) (n : Nat) (ts : List Tc) : Nat → Bd :=
  placesX n (mapTo moveB (speedsM n (mapTo (driveB c) B n) (fun j => ts.getD j tc0) ts.length c.bo c.ru c.ro) n) (fun j => ts.getD j tc0) ts.length
def stepW (c : Wc) (B : Nat → Bd) (n : Nat) (M : List (Int × Bx)) : Nat → Bd := stepT c B n (touchesOf c B n M)
/-- The boxes, when the first k bodies were hung anew. -/
def hangM (B : Nat → Bd) (M : List (Int × Bx)) : Nat → List (Int × Bx)
  | 0 => M
  | k + 1 => putM (hangM B M k) (B k).id (boxB (B k))
theorem mapTo_id {f : Bd → Bd} (hf : ∀ q, (f q).id = q.id) (B : Nat → Bd) (p j : Nat) : (mapTo f B p j).id = (B j).id := by unfold mapTo; split <;> simp [hf]
theorem driveB_id (c : Wc) (q : Bd) : (driveB c q).id = q.id := by unfold driveB; split <;> rfl
theorem moveB_id (q : Bd) : (moveB q).id = q.id := rfl
theorem Rises.congr {B C : Nat → Bd} {n : Nat} (h : Rises B n) (e : ∀ j, (C j).id = (B j).id) : Rises C n := fun i k hi hk => by rw [e, e]; exact h i k hi hk
end Go.Proofs.YtbfkloclmlnahabGreat

namespace Go.Proofs.YtbfkloclmlnahabGreat
open Go.ChangeShapes Go.WideShapes Go.ChangeAt Go.RowKit
set_option linter.unusedVariables false
set_option linter.unusedSimpArgs false

/-- What nothing changes of a body. -/
def Same (p q : Bd) : Prop := q.id = p.id ∧ q.ow = p.ow ∧ q.kd = p.kd ∧ q.sx = p.sx ∧ q.sy = p.sy ∧ q.sz = p.sz ∧ q.px = p.px ∧ q.py = p.py ∧ q.pz = p.pz ∧ q.ms = p.ms ∧ q.tm = p.tm
theorem Same.trans {p q r : Bd} (h : Same p q) (k : Same q r) : Same p r := by
  obtain ⟨a1, a2, a3, a4, a5, a6, a7, a8, a9, a10, a11⟩ := h
  obtain ⟨b1, b2, b3, b4, b5, b6, b7, b8, b9, b10, b11⟩ := k
  exact ⟨b1.trans a1, b2.trans a2, b3.trans a3, b4.trans a4, b5.trans a5, b6.trans a6, b7.trans a7, b8.trans a8, b9.trans a9, b10.trans a10, b11.trans a11⟩
theorem SpOnly.same {p q : Bd} (h : SpOnly p q) : Same p q := by
  unfold SpOnly at h; rw [h]; exact ⟨rfl, rfl, rfl, rfl, rfl, rfl, rfl, rfl, rfl, rfl, rfl⟩
theorem AtOnly.same {p q : Bd} (h : AtOnly p q) : Same p q := by
  unfold AtOnly at h; rw [h]; exact ⟨rfl, rfl, rfl, rfl, rfl, rfl, rfl, rfl, rfl, rfl, rfl⟩
theorem AtOnly.sp {p q : Bd} (h : AtOnly p q) : q.vx = p.vx ∧ q.vy = p.vy ∧ q.vz = p.vz := by
  unfold AtOnly at h; rw [h]; exact ⟨rfl, rfl, rfl⟩
theorem cl_two {k : Int} (h : 0 ≤ k) (n : Int) : -k ≤ cl k n ∧ cl k n ≤ k := by unfold cl; split <;> (try split) <;> omega
theorem cl_speed (n : Int) : -6553600 ≤ cl 6553600 n ∧ cl 6553600 n ≤ 6553600 := cl_two (by omega) n
theorem cl_place (n : Int) : -65536000 ≤ cl 65536000 n ∧ cl 65536000 n ≤ 65536000 := cl_two (by omega) n
theorem driveB_sp (c : Wc) (q : Bd) : SpOnly q (driveB c q) := by
  unfold driveB; split
  · exact rfl
  · exact SpOnly.refl q
theorem driveB_in (c : Wc) {q : Bd} (h : InV q) : InV (driveB c q) := by
  unfold driveB; split
  · exact ⟨cl_speed _, cl_speed _, cl_speed _⟩
  · exact h
theorem driveB_none (c : Wc) {q : Bd} (h : q.ms ≤ 0) : driveB c q = q := by
  unfold driveB; rw [if_neg (by omega)]
theorem moveB_same (q : Bd) : Same q (moveB q) := ⟨rfl, rfl, rfl, rfl, rfl, rfl, rfl, rfl, rfl, rfl, rfl⟩
theorem moveB_at (q : Bd) : InA (moveB q) := ⟨cl_place _, cl_place _, cl_place _⟩
theorem ite_in {p : Prop} [Decidable p] {v : Int} (h : -6553600 ≤ v ∧ v ≤ 6553600) : -6553600 ≤ (if p then v else 0) ∧ (if p then v else 0) ≤ 6553600 := by
  split
  · exact h
  · omega
theorem moveB_sp {q : Bd} (h : InV q) : InV (moveB q) := ⟨ite_in h.1, ite_in h.2.1, ite_in h.2.2⟩
theorem clampB_sp (q : Bd) : InV (clampB q) := ⟨cl_speed _, cl_speed _, cl_speed _⟩
theorem partX_in (B : Nat → Bd) (i k : Nat) (x y all : Int) (w : V3) (deep : Int) (q : Nat) (h : InA (B q)) : InA (partX B i k x y all w deep q) := by
  show InA (upd (upd B i _) k _ q)
  unfold upd
  split
  · exact ⟨cl_place _, cl_place _, cl_place _⟩
  · split
    · exact ⟨cl_place _, cl_place _, cl_place _⟩
    · exact h
theorem placesX_in (n : Nat) (B : Nat → Bd) (T : Nat → Tc) (q : Nat) (h : InA (B q)) : ∀ m, InA (placesX n B T m q)
  | 0 => h
  | m + 1 => by
    have e := placesX_in n B T q h m
    show InA (stepX n (placesX n B T m) (T m) q)
    rcases stepX_cases n (placesX n B T m) (T m) with r | ⟨i, k, x, y, all, r⟩
    · rw [r]; exact e
    · rw [r]; exact partX_in _ _ _ _ _ _ _ _ _ e
theorem speedsT_in (n : Nat) (B : Nat → Bd) (T : Nat → Tc) (m : Nat) (bo ru ro : Int) (q : Nat) (hq : q < n) (h : InV (B q)) : InV (speedsT n B T m bo ru ro q) := by
  unfold speedsT
  split
  · show InV (if q < n then clampB (roundsT n bo ru B T m ro.toNat q) else roundsT n bo ru B T m ro.toNat q)
    rw [if_pos hq]; exact clampB_sp _
  · exact h
theorem mapTo_lt (f : Bd → Bd) (B : Nat → Bd) {p j : Nat} (h : j < p) : mapTo f B p j = f (B j) := by unfold mapTo; rw [if_pos h]
/-- What a step makes of one body. -/
theorem stepT_one (c : Wc) (B : Nat → Bd) (n : Nat) (ts : List Tc) {j : Nat} (hj : j < n) (hv : InV (B j)) :
    Same (B j) (stepT c B n ts j) ∧ InV (stepT c B n ts j) ∧ InA (stepT c B n ts j) ∧
    ((B j).ms ≤ 0 → cl 65536000 (add (B j).ax (B j).vx) = add (B j).ax (B j).vx → cl 65536000 (add (B j).ay (B j).vy) = add (B j).ay (B j).vy → cl 65536000 (add (B j).az (B j).vz) = add (B j).az (B j).vz →
      (stepT c B n ts j).vx = (B j).vx ∧ (stepT c B n ts j).vy = (B j).vy ∧ (stepT c B n ts j).vz = (B j).vz) := by
  unfold stepT
  rw [speeds_same]
  generalize (fun j => ts.getD j tc0) = T
  have e1 : mapTo (driveB c) B n j = driveB c (B j) := mapTo_lt _ _ hj
  have v1 : InV (mapTo (driveB c) B n j) := by rw [e1]; exact driveB_in c hv
  have s1 : SpOnly (B j) (mapTo (driveB c) B n j) := by rw [e1]; exact driveB_sp c _
  have s2 := speedsT_sp n (mapTo (driveB c) B n) T ts.length c.bo c.ru c.ro j
  have v2 := speedsT_in n (mapTo (driveB c) B n) T ts.length c.bo c.ru c.ro j hj v1
  have z2 : (B j).ms ≤ 0 → speedsT n (mapTo (driveB c) B n) T ts.length c.bo c.ru c.ro j = B j := fun hm => by
    have e2 : mapTo (driveB c) B n j = B j := by rw [e1, driveB_none c hm]
    rw [speedsT_still n _ T _ _ _ _ j v1 (fun k _ => Or.inl (by rw [e2]; exact hm)), e2]
  generalize hB2 : speedsT n (mapTo (driveB c) B n) T ts.length c.bo c.ru c.ro = B2 at *
  have e3 : mapTo moveB B2 n j = moveB (B2 j) := mapTo_lt _ _ hj
  have a4 := placesX_at n (mapTo moveB B2 n) T j ts.length
  have i4 := placesX_in n (mapTo moveB B2 n) T j (by rw [e3]; exact moveB_at _) ts.length
  rw [e3] at a4
  have q4 := a4.sp
  refine ⟨((s1.same.trans s2.same).trans (moveB_same _)).trans a4.same, ?_, i4, fun hm hx hy hz => ?_⟩
  · have := moveB_sp v2
    obtain ⟨h1, h2, h3⟩ := q4
    unfold InV
    rw [h1, h2, h3]; exact this
  · rw [z2 hm] at q4
    obtain ⟨h1, h2, h3⟩ := q4
    rw [h1, h2, h3]
    refine ⟨?_, ?_, ?_⟩
    · show (if cl 65536000 (add (B j).ax (B j).vx) = add (B j).ax (B j).vx then (B j).vx else 0) = _
      rw [if_pos hx]
    · show (if cl 65536000 (add (B j).ay (B j).vy) = add (B j).ay (B j).vy then (B j).vy else 0) = _
      rw [if_pos hy]
    · show (if cl 65536000 (add (B j).az (B j).vz) = add (B j).az (B j).vz then (B j).vz else 0) = _
      rw [if_pos hz]
end Go.Proofs.YtbfkloclmlnahabGreat

namespace Go.Proofs.YtbfkloclmlnahabGreat
open Go.ChangeShapes Go.WideShapes Go.ChangeAt Go.RowKit
set_option linter.unusedVariables false
set_option linter.unusedSimpArgs false

theorem WorldAt.slice {w : World} {x : Nat} {c : Wc} {a : Option Addr} {n cap t : Nat} {la st : Int} (h : WorldAt w x c a n cap t la st) (a' : Option Addr) (n' cap' : Nat) : WorldAt (w.setCell ⟨x, 7, none⟩ (.slice a' n' cap')) x c a' n' cap' t la st := by
  unfold WorldAt at *
  simp [World.setCell, Array.getElem?_modify, h]
theorem WorldAt.steps {w : World} {x : Nat} {c : Wc} {a : Option Addr} {n cap t : Nat} {la st : Int} (h : WorldAt w x c a n cap t la st) (st' : Int) : WorldAt (w.setCell ⟨x, 10, none⟩ (.int .i64 st')) x c a n cap t la st' := by
  unfold WorldAt at *
  simp [World.setCell, Array.getElem?_modify, h]
theorem law_cells {w' : World} {x : Nat} {c : Wc} {a : Option Addr} {n cap t : Nat} {la st : Int} (h : WorldAt w' x c a n cap t la st) : w'.cell? ⟨x, 3, none⟩ = some (.int .i64 (c.bo)) ∧ w'.cell? ⟨x, 4, none⟩ = some (.int .i64 (c.ru)) ∧ w'.cell? ⟨x, 5, none⟩ = some (.int .i64 (c.ro)) := ⟨h.off 3, h.off 4, h.off 5⟩
/-- Other bodies hung into a world's block. -/
theorem WW.slice {E : List Nat} {w : World} {x g g' : Nat} {c : Wc} {a a' : Option Addr} {n cap cap' t : Nat} {la st : Int} {C C' : Nat → Bd} {M : List (Int × Bx)} {D : List Nat} {wr : World} (h : WW E w x g c a n cap t la st C M D wr) (ho : OwnS wr a' g' n C') (hg : g' ∉ D) (hl : g' < wr.heap.size) (hx : x ≠ g') (hn : g' ∈ E ∨ w.heap.size ≤ g') : WW E w x g' c a' n cap' t la st C' M D (wr.setCell ⟨x, 7, none⟩ (.slice a' n cap')) := by
  have o : Only [x] wr (wr.setCell ⟨x, 7, none⟩ (.slice a' n cap')) := (Only.refl [x] wr).setCell (p := ⟨x, 7, none⟩) (Or.inl (by simp)) _
  exact ⟨h.wa.slice a' n cap', ho.onlyN o (fun _ => by simp only [List.mem_singleton]; exact fun e => hx e.symm), h.tree.only o (fun b hb => by simp only [List.mem_singleton]; exact fun e => h.xD (e ▸ hb)), h.xD, hg, Nat.lt_of_lt_of_le hl o.size, hx, h.xnew, hn, h.dnew, h.only.then o (fun b hb => by simp only [List.mem_singleton] at hb; subst hb; exact h.xnew)⟩
theorem WW.steps {E : List Nat} {w : World} {x g : Nat} {c : Wc} {a : Option Addr} {n cap t : Nat} {la st : Int} {C : Nat → Bd} {M : List (Int × Bx)} {D : List Nat} {wr : World} (h : WW E w x g c a n cap t la st C M D wr) (hx : x ≠ g) (st' : Int) : WW E w x g c a n cap t la st' C M D (wr.setCell ⟨x, 10, none⟩ (.int .i64 st')) := by
  have o : Only [x] wr (wr.setCell ⟨x, 10, none⟩ (.int .i64 st')) := (Only.refl [x] wr).setCell (p := ⟨x, 10, none⟩) (Or.inl (by simp)) _
  exact ⟨h.wa.steps st', h.own.onlyN o (fun _ => by simp only [List.mem_singleton]; exact fun e => hx e.symm), h.tree.only o (fun b hb => by simp only [List.mem_singleton]; exact fun e => h.xD (e ▸ hb)), h.xD, h.gD, Nat.lt_of_lt_of_le h.glt o.size, h.xg, h.xnew, h.gnew, h.dnew, h.only.then o (fun b hb => by simp only [List.mem_singleton] at hb; subst hb; exact h.xnew)⟩
/-- Each goes over a whole world. -/
theorem WW.each {E : List Nat} {w : World} {x g : Nat} {c : Wc} {a : Option Addr} {n cap t : Nat} {la st : Int} {C C' : Nat → Bd} {M : List (Int × Bx)} {D : List Nat} {wr w' : World} (h : WW E w x g c a n cap t la st C M D wr) (e : EW wr x g c a n cap t la st C' w') : WW E w x g c a n cap t la st C' M D w' :=
  ⟨e.wa, e.own, h.tree.only e.only (fun b hb => by simp only [List.mem_singleton]; exact fun q => h.gD (q ▸ hb)), h.xD, h.gD, Nat.lt_of_lt_of_le h.glt e.only.size, h.xg, h.xnew, h.gnew, h.dnew, h.only.then e.only (fun b hb => by simp only [List.mem_singleton] at hb; subst hb; exact h.gnew)⟩
theorem getX_in {B : Nat → Bd} {n : Nat} (h : ∀ j, In64S (B j).id) (id : Int) : In64S (getX B n id).id := by
  unfold getX
  split
  · exact h _
  · exact rfl
theorem tchL_in {B : Nat → Bd} {n : Nat} (h : ∀ j, In64S (B j).id) {P : List (Int × Int)} : ∀ t ∈ tchL B n P, In64S t.a ∧ In64S t.b := fun t ht => by
  obtain ⟨c, _, hc⟩ := List.mem_flatMap.1 ht
  unfold tchX at hc
  split at hc
  · simp only [List.mem_singleton] at hc
    subst hc
    exact ⟨getX_in h _, getX_in h _⟩
  · simp at hc
/-- The block of the bodies that solve tells: its own, or, where there is none, the old one. -/
theorem pick_block {E : List Nat} {w0 w2 w3 : World} {x g g3 : Nat} {c : Wc} {a a3 : Option Addr} {n cap t : Nat} {la st : Int} {B C : Nat → Bd} {M : List (Int × Bx)} {D : List Nat} (h : WW E w0 x g c a n cap t la st B M D w2) (hO : OwnS w3 a3 g3 n C) (o : Only [] w2 w3) (hg : w2.heap.size ≤ g3) : ∃ g', OwnS w3 a3 g' n C ∧ g' ∉ D ∧ g' < w3.heap.size ∧ x ≠ g' ∧ (g' ∈ E ∨ w0.heap.size ≤ g') ∧ (g' = g ∨ w2.heap.size ≤ g') := by
  by_cases h0 : n = 0
  · exact ⟨g, Or.inl h0, h.gD, Nat.lt_of_lt_of_le h.glt o.size, h.xg, h.gnew, Or.inl rfl⟩
  · refine ⟨g3, hO, fun hd => ?_, hO.lt h0, fun e => ?_, Or.inr (Nat.le_trans h.only.size hg), Or.inr hg⟩
    · have := h.tree.lt _ hd; omega
    · have := h.wa.lt; omega
theorem TouchesAt.onlyD {D : List Nat} {w w' : World} {a : Option Addr} {m : Nat} {T : Nat → Tc} (h : TouchesAt w a m T) (o : Only D w w') (s : ∀ g o s, a = some ⟨g, o, s⟩ → g ∉ D) : TouchesAt w' a m T := fun j hj => by
  obtain ⟨h1, h2, g, f, e, c0, c1, c2, c3, c4, c5⟩ := h j hj
  have hg := s g f none e
  exact ⟨h1, h2, g, f, e, cell_only o c0 hg, cell_only o c1 hg, cell_only o c2 hg, cell_only o c3 hg, cell_only o c4 hg, cell_only o c5 hg⟩
theorem OwnB.range {w : World} {g n : Nat} {B : Nat → Bd} (h : OwnB w g n B) {j : Nat} (hj : j < n) {q : Bd} (e : B j = q) : ∀ k, k < 17 → w.cell? ⟨g, j * 17 + k, none⟩ = some (bc q k) := fun k hk => by rw [← e]; exact h.cell hj hk
theorem speedsM_id (n : Nat) (B : Nat → Bd) (T : Nat → Tc) (m : Nat) (bo ru ro : Int) (j : Nat) : (speedsM n B T m bo ru ro j).id = (B j).id := by rw [speeds_same]; exact (speedsT_sp n B T m bo ru ro j).same.1
/-- What Step leaves: the bodies a step on, their boxes hung anew. -/
def StepPost (E : List Nat) (w0 : World) (x : Nat) (c : Wc) (n t : Nat) (la st : Int) (B : Nat → Bd) (M : List (Int × Bx)) (e : Ending) (w' : World) : Prop :=
  e = .returned (.tuple #[]) ∧ ∃ g a cap D, WW E w0 x g c a n cap t la (st + 1) (stepW c B n M) (hangM (stepW c B n M) M n) D w' ∧ SlArg a n cap
set_option maxRecDepth 100000 in
set_option maxHeartbeats 8000000 in
theorem step_calls {E : List Nat} (w0 : World) (x g : Nat) (c : Wc) (a : Option Addr) (n cap t : Nat) (la st : Int) (B : Nat → Bd) (M : List (Int × Bx)) (D : List Nat) (w : World) (hn : n ≤ 60) (h : WW E w0 x g c a n cap t la st B M D w) (hr : Rises B n) (hid : ∀ j, In64S (B j).id) (hsl : SlArg a n cap) (hst : 0 ≤ st) (hst' : st ≤ 1000000) :
    Calls Tryz.prog 11 #[.pointer (some ⟨x, 0, none⟩)] w (StepPost E w0 x c n t la st B M) := by
  have HW : Hid (WW E w0 x g c a n cap t la st B M D w ∧ n ≤ 60 ∧ Rises B n ∧ (∀ j, In64S (B j).id) ∧ SlArg a n cap) := ⟨h, hn, hr, hid, hsl⟩
  have HST : Hid (0 ≤ st ∧ st ≤ 1000000) := ⟨hst, hst'⟩
  clear h hn hr hid hsl hst hst'
  have hmf : ∀ (fn : Fn) (first cap : Array Value) (w : World), (Instr.makeFunc fn first cap).run Tryz.prog w = .ok (.func fn first cap) w := fun _ _ _ _ => rfl
  go_enter Tryz.func11, Tryz.ntmps11
  go_wp2_with fail
  refine (eachDrive_calls x g c a n cap t la st B w HW.out.2.1 HW.out.1.wa HW.out.1.own (fun _ => HW.out.1.xg)).mono ?_
  rintro e w1 ⟨rfl, hE⟩
  have HSTEP : Hid (∀ ts, ts = tchL (mapTo (driveB c) B n) n (pairsM M) → stepW c B n M = placesX n (mapTo moveB (speedsM n (mapTo (driveB c) B n) (fun j => ts.getD j tc0) ts.length c.bo c.ru c.ro) n) (fun j => ts.getD j tc0) ts.length) := fun ts e => by rw [e]; rfl
  obtain ⟨B1, hB1⟩ : ∃ B1, B1 = mapTo (driveB c) B n := ⟨_, rfl⟩
  rw [← hB1] at hE HSTEP
  have HI1 : Hid (∀ j, (B1 j).id = (B j).id) := fun j => by rw [hB1]; exact mapTo_id (driveB_id c) B n j
  have H1 : Hid (WW E w0 x g c a n cap t la st B1 M D w1) := HW.out.1.each hE
  have HG1 : Hid (g < w1.heap.size ∧ x < w1.heap.size) := ⟨Nat.lt_of_lt_of_le HW.out.1.glt hE.only.size, Nat.lt_of_lt_of_le HW.out.1.wa.lt hE.only.size⟩
  clear hE hB1 hmf
  go_wp2_with fail
  refine (wtouches_calls w0 x g c a n cap t la st B1 M D w1 HW.out.2.1 H1.out (HW.out.2.2.1.congr HI1.out)).mono ?_
  rintro e w2 ⟨v, rfl, hT⟩
  obtain ⟨ts, hts⟩ : ∃ ts, ts = tchL B1 n (pairsM M) := ⟨_, rfl⟩
  rw [← hts] at hT
  have HTS := HSTEP.out ts hts
  have HI2 : Hid (∀ j, In64S (B1 j).id) := fun j => by rw [HI1.out]; exact HW.out.2.2.2.1 j
  obtain ⟨b, d, rfl, htc, hbn⟩ := hT.sl.touches (by rw [hts]; exact tchL_in HI2.out)
  have HTC : Hid (TouchesAt w2 b ts.length (fun j => ts.getD j tc0) ∧ (∀ g o s, b = some ⟨g, o, s⟩ → w1.heap.size ≤ g ∧ g < w2.heap.size)) := ⟨htc, fun g o s e => ⟨hT.new g (hbn g o s e).1, (hbn g o s e).2⟩⟩
  have HN : Hid (n ≤ 60 ∧ ts.length ≤ 3600) := ⟨HW.out.2.1, by
    rw [hts]
    refine Nat.le_trans (tchL_len B1 n _) (Nat.le_trans (pairsM_most M) ?_)
    exact Nat.mul_le_mul H1.out.tree.small H1.out.tree.small⟩
  have H2 : Hid (WW E w0 x g c a n cap t la st B1 M D w2) := H1.out.keep hT.only
  have HAL : Hid (Alone n B1 ∧ ∀ j, j < n → In64S (B1 j).id) := ⟨(HW.out.2.2.1.congr HI1.out).alone, fun j _ => HI2.out j⟩
  have HSL : Hid (SlArg a n cap) := HW.out.2.2.2.2
  obtain ⟨T, hTT⟩ : ∃ T : Nat → Tc, T = fun j => ts.getD j tc0 := ⟨_, rfl⟩
  obtain ⟨m, hm⟩ : ∃ m, m = ts.length := ⟨_, rfl⟩
  rw [← hTT, ← hm] at HTS HTC
  rw [← hm] at HN
  have HSW : Hid (stepW c B n M = placesX n (mapTo moveB (speedsM n B1 T m c.bo c.ru c.ro) n) T m) := HTS
  rw [← hm]
  clear hT hts htc hbn H1 HSTEP HTS hTT hm
  go_upto_region 2 with fail
  have HS7 : Hid (w2.drew.cell? ⟨x, 7, none⟩ = some (.slice a n cap)) := (H2.out.wa.only (Only.refl [] w2).drew (by simp)).off 7
  have HK : Hid (∀ w', Only [x] w2 w' → w'.cell? ⟨x, 3, none⟩ = some (.int .i64 (c.bo)) ∧ w'.cell? ⟨x, 4, none⟩ = some (.int .i64 (c.ru)) ∧ w'.cell? ⟨x, 5, none⟩ = some (.int .i64 (c.ro)) → Only [x] w2 w' ∧ w'.cell? ⟨x, 3, none⟩ = some (.int .i64 (c.bo)) ∧ w'.cell? ⟨x, 4, none⟩ = some (.int .i64 (c.ru)) ∧ w'.cell? ⟨x, 5, none⟩ = some (.int .i64 (c.ro))) := fun w' o l => ⟨o, l⟩
  refine wp_region_held_drew (S := (fun w' => Only [x] w2 w' ∧ w'.cell? ⟨x, 3, none⟩ = some (.int .i64 (c.bo)) ∧ w'.cell? ⟨x, 4, none⟩ = some (.int .i64 (c.ru)) ∧ w'.cell? ⟨x, 5, none⟩ = some (.int .i64 (c.ro)))) (by kernel_rfl) ?_ (fun hHeld1 => ?_)
  · (try dsimp only); exact HK.out _ (Only.refl [x] w2).drew (law_cells (H2.out.wa.only (Only.refl [] w2).drew (by simp)))
  refine wpAnyH_take (i := 0) (v := ?_) rfl (by kernel_rfl) (by kernel_rfl) (by kernel_rfl) (fun _ _ _ h => h) (Or.inl ⟨by kernel_rfl, ?_⟩) (by assumption) ?_
  rotate_left
  · intro w'' hSw; (try dsimp only at hSw); simp only [zqa, zqb, zqc]; (go_simp <;> with_reducible rfl)
  try simp only [Act.put, zqd, zqe, zqf, zqa, zqb, zqc]
  refine wpAnyH_take (i := 1) (v := ?_) rfl (by kernel_rfl) (by kernel_rfl) (by kernel_rfl) (fun _ _ _ h => h) (Or.inl ⟨by kernel_rfl, ?_⟩) (by assumption) ?_
  rotate_left
  · intro w'' hSw; (try dsimp only at hSw); simp only [zqa, zqb, zqc]; (go_simp <;> with_reducible rfl)
  try simp only [Act.put, zqd, zqe, zqf, zqa, zqb, zqc]
  refine wpAnyH_take (i := 2) (v := ?_) rfl (by kernel_rfl) (by kernel_rfl) (by kernel_rfl) (fun _ _ _ h => h) (Or.inl ⟨by kernel_rfl, ?_⟩) (by assumption) ?_
  rotate_left
  · intro w'' hSw; (try dsimp only at hSw); simp only [zqa, zqb, zqc]; (go_simp <;> with_reducible rfl)
  try simp only [Act.put, zqd, zqe, zqf, zqa, zqb, zqc]
  refine wpAnyH_take (i := 3) (v := ?_) rfl (by kernel_rfl) (by kernel_rfl) (by kernel_rfl) (fun _ _ _ h => h) (Or.inl ⟨by kernel_rfl, ?_⟩) (by assumption) ?_
  rotate_left
  · intro w'' hSw; (try dsimp only at hSw); simp only [zqa, zqb, zqc]; (go_simp <;> with_reducible rfl)
  try simp only [Act.put, zqd, zqe, zqf, zqa, zqb, zqc]
  refine wpAnyH_take (i := 5) (v := ?_) rfl (by kernel_rfl) (by kernel_rfl) (by kernel_rfl) (fun _ _ _ h => h) (Or.inl ⟨by kernel_rfl, ?_⟩) (by assumption) ?_
  rotate_left
  · intro w'' hSw; (try dsimp only at hSw); simp only [zqa, zqb, zqc]; (go_simp <;> with_reducible rfl)
  try simp only [Act.put, zqd, zqe, zqf, zqa, zqb, zqc]
  refine wpAnyH_take (i := 6) (v := ?_) rfl (by kernel_rfl) (by kernel_rfl) (by kernel_rfl) (fun _ _ _ h => h) (Or.inl ⟨by kernel_rfl, ?_⟩) (by assumption) ?_
  rotate_left
  · intro w'' hSw; (try dsimp only at hSw); simp only [zqa, zqb, zqc]; (go_simp <;> with_reducible rfl)
  try simp only [Act.put, zqd, zqe, zqf, zqa, zqb, zqc]
  refine wpAnyH_take (i := 7) (v := ?_) rfl (by kernel_rfl) (by kernel_rfl) (by kernel_rfl) (fun _ _ _ h => h) (Or.inl ⟨by kernel_rfl, ?_⟩) (by assumption) ?_
  rotate_left
  · intro w'' hSw; (try dsimp only at hSw); simp only [zqa, zqb, zqc]; (go_simp <;> with_reducible rfl)
  try simp only [Act.put, zqd, zqe, zqf, zqa, zqb, zqc]
  refine wpAnyH_take (i := 8) (v := ?_) rfl (by kernel_rfl) (by kernel_rfl) (by kernel_rfl) (fun _ _ _ h => h) (Or.inl ⟨by kernel_rfl, ?_⟩) (by assumption) ?_
  rotate_left
  · intro w'' hSw; (try dsimp only at hSw); simp only [zqa, zqb, zqc]; (go_simp <;> with_reducible rfl)
  try simp only [Act.put, zqd, zqe, zqf, zqa, zqb, zqc]
  refine wpAnyH_take (i := 9) (v := ?_) rfl (by kernel_rfl) (by kernel_rfl) (by kernel_rfl) (fun _ _ _ h => h) (Or.inl ⟨by kernel_rfl, ?_⟩) (by assumption) ?_
  rotate_left
  · intro w'' hSw; (try dsimp only at hSw); simp only [zqa, zqb, zqc]; (go_simp <;> with_reducible rfl)
  try simp only [Act.put, zqd, zqe, zqf, zqa, zqb, zqc]
  refine wpAnyH_take (i := 10) (v := ?_) rfl (by kernel_rfl) (by kernel_rfl) (by kernel_rfl) (fun _ _ _ h => h) (Or.inl ⟨by kernel_rfl, ?_⟩) (by assumption) ?_
  rotate_left
  · intro w'' hSw; (try dsimp only at hSw); simp only [zqa, zqb, zqc]; (go_simp <;> with_reducible rfl)
  try simp only [Act.put, zqd, zqe, zqf, zqa, zqb, zqc]
  refine wpAnyH_ready (rs := [4]) (by kernel_rfl) (by simp) ?_
  refine AllReadyH.cons rfl (fun K hK => ?_) AllReadyH.nil
  rw [if_pos (by rfl)]
  have l7 := HS7.out
  simp only [zqa, zqb, zqc]
  go_simp
  clear l7
  refine hK.out _ _ ?_ (fun hH1 => ?_)
  · (try dsimp only); exact HK.out _ (Only.refl [x] w2).drew (law_cells (H2.out.wa.only (Only.refl [] w2).drew (by simp)))
  clear hK K hHeld1
  try simp only [Act.put, zqd, zqe, zqf, zqa, zqb, zqc]
  refine wpAnyH_ready (rs := [11]) (by kernel_rfl) (by simp) ?_
  refine AllReadyH.cons rfl (fun K hK => ?_) AllReadyH.nil
  rw [if_pos (by rfl)]
  simp only [zqa, zqb, zqc]
  go_simp
  (go_at_call 22; refine (speedsOwn_calls a b n cap m d B1 T c.bo c.ru c.ro _ HN.out.1 HN.out.2 (H2.out.own.bodies.only (Only.refl [] w2).drew) HSL.out (HTC.out.1.only (Only.refl [] w2).drew) HAL.out.1 HAL.out.2).mono ?_; rintro e w3 ⟨a3, g3, c3, rfl, hO3, o3, hg3, hs3⟩; have H3 : Hid (OwnS w3 a3 g3 n (speedsM n B1 T m c.bo c.ru c.ro) ∧ Only [] w2 w3 ∧ w2.heap.size ≤ g3 ∧ SlArg a3 n c3) := ⟨hO3, (Only.refl [] w2).drew.trans o3, hg3, hs3⟩; clear hO3 o3 hg3 hs3)
  try go_wp2_with fail
  refine hK.out _ _ ?_ (fun hH2 => ?_)
  · (try dsimp only); exact HK.out _ (H3.out.2.1.mono (by simp)) (law_cells (H2.out.wa.only H3.out.2.1 (by simp)))
  clear hK K hH1
  try simp only [Act.put, zqd, zqe, zqf, zqa, zqb, zqc]
  refine wpAnyH_take (i := 12) (v := ?_) rfl (by kernel_rfl) (by kernel_rfl) (by kernel_rfl) (fun _ _ _ h => h) (Or.inl ⟨by kernel_rfl, ?_⟩) (by assumption) ?_
  rotate_left
  · intro w'' hSw; (try dsimp only at hSw); simp only [zqa, zqb, zqc]; (go_simp <;> with_reducible rfl)
  try simp only [Act.put, zqd, zqe, zqf, zqa, zqb, zqc]
  refine wpAnyH_take (i := 13) (v := ?_) rfl (by kernel_rfl) (by kernel_rfl) (by kernel_rfl) (fun _ _ _ h => h) (Or.inl ⟨by kernel_rfl, ?_⟩) (by assumption) ?_
  rotate_left
  · intro w'' hSw; (try dsimp only at hSw); simp only [zqa, zqb, zqc]; (go_simp <;> with_reducible rfl)
  try simp only [Act.put, zqd, zqe, zqf, zqa, zqb, zqc]
  have f7 := (H2.out.wa.only H3.out.2.1 (by simp)).free 7
  have l7 := (H2.out.wa.only H3.out.2.1 (by simp)).off 7
  simp only [zqg, zqh, zqi] at l7
  refine wpAnyH_ready (rs := [14]) (by kernel_rfl) (by simp) ?_
  refine AllReadyH.cons rfl (fun K hK => ?_) AllReadyH.nil
  rw [if_pos (by rfl)]
  simp only [zqa, zqb, zqc]
  go_simp
  clear f7 l7
  refine hK.out _ _ ?_ (fun hH3 => ?_)
  · (try dsimp only); exact HK.out _ ((H3.out.2.1.mono (by simp)).setCell (p := ⟨x, 7, none⟩) (Or.inl (by simp)) _) (law_cells ((H2.out.wa.only H3.out.2.1 (by simp)).slice a3 n c3))
  clear hK K hH2
  try simp only [Act.put, zqd, zqe, zqf, zqa, zqb, zqc]
  refine wpAnyH_done (by kernel_rfl) ?_ _
  obtain ⟨g4, hO4, hgD, hgl, hxg, hgn, hg4⟩ := pick_block H2.out H3.out.1 H3.out.2.1 H3.out.2.2.1
  have H4 : Hid (WW E w0 x g4 c a3 n c3 t la st (speedsM n B1 T m c.bo c.ru c.ro) M D (w3.setCell ⟨x, 7, none⟩ (.slice a3 n c3))) := (H2.out.keep H3.out.2.1).slice hO4 hgD hgl hxg hgn
  have HT4 : Hid (∀ g o s, b = some ⟨g, o, s⟩ → g ∉ [x] ∧ g ∉ [g4]) := fun gb o s e => by
    have h1 := HTC.out.2 gb o s e
    have h2 := HG1.out
    simp only [List.mem_singleton]
    refine ⟨by omega, ?_⟩
    rcases hg4 with q | q <;> omega
  have H4T : Hid (TouchesAt (w3.setCell ⟨x, 7, none⟩ (.slice a3 n c3)) b m T) := (HTC.out.1.only H3.out.2.1).onlyD ((Only.refl [x] w3).setCell (p := ⟨x, 7, none⟩) (Or.inl (by simp)) _) (fun gb o s e => (HT4.out gb o s e).1)
  have HS4 : Hid (SlArg a3 n c3) := H3.out.2.2.2
  have HI3 : Hid (∀ j, (mapTo moveB (speedsM n B1 T m c.bo c.ru c.ro) n j).id = (B1 j).id) := fun j => by rw [mapTo_id moveB_id, speedsM_id]
  clear hH3 hO4 hgD hgl hxg hgn hg4 H2 H3 HTC HS7 HK HSL
  generalize World.setCell w3 _ _ = w4 at H4 H4T ⊢
  go_wp2_with fail
  refine (eachMove_calls x g4 c a3 n c3 t la st (speedsM n B1 T m c.bo c.ru c.ro) w4 HN.out.1 H4.out.wa H4.out.own (fun _ => H4.out.xg)).mono ?_
  rintro e w5 ⟨rfl, hE⟩
  obtain ⟨B3, hB3⟩ : ∃ B3, B3 = mapTo moveB (speedsM n B1 T m c.bo c.ru c.ro) n := ⟨_, rfl⟩
  rw [← hB3] at hE HI3 HSW
  have H5 : Hid (WW E w0 x g4 c a3 n c3 t la st B3 M D w5) := H4.out.each hE
  have H5T : Hid (TouchesAt w5 b m T) := H4T.out.onlyD hE.only (fun gb o s e => (HT4.out gb o s e).2)
  have HAL3 : Hid (Alone n B3 ∧ ∀ j, j < n → In64S (B3 j).id) := ⟨fun i k hi hk e => HAL.out.1 i k hi hk (by rw [HI3.out, HI3.out] at e; exact e), fun j hj => by rw [HI3.out]; exact HAL.out.2 j hj⟩
  clear hE hB3 H4 H4T
  have l7 := H5.out.wa.off 7
  simp only [zqg, zqh, zqi] at l7
  go_wp2_with fail
  refine (placesOwn_calls a3 b n c3 m d B3 T w5 HN.out.1 HN.out.2 H5.out.own.bodies HS4.out H5T.out HAL3.out.1 HAL3.out.2).mono ?_
  rintro e w6 ⟨a6, g6, c6, rfl, hO6, o6, hg6, hs6⟩
  clear l7
  have f7 := (H5.out.wa.only o6 (by simp)).free 7
  have l7 := (H5.out.wa.only o6 (by simp)).off 7
  simp only [zqg, zqh, zqi] at l7
  go_upto_region 5 with fail
  clear f7 l7
  obtain ⟨g7, hO7, hgD7, hgl7, hxg7, hgn7, _⟩ := pick_block H5.out hO6 o6 hg6
  have H7 : Hid (WW E w0 x g7 c a6 n c6 t la st (placesX n B3 T m) M D (w6.setCell ⟨x, 7, none⟩ (.slice a6 n c6))) := (H5.out.keep o6).slice hO7 hgD7 hgl7 hxg7 hgn7
  have HS6 : Hid (SlArg a6 n c6) := hs6
  have HIC : Hid (∀ j, In64S (placesX n B3 T m j).id) := fun j => by rw [(placesX_id n B3 T m j).1, HI3.out]; exact HI2.out j
  clear hO6 o6 hg6 hs6 hO7 hgD7 hgl7 hxg7 hgn7 H5 H5T
  generalize World.setCell w6 _ _ = w7 at H7 ⊢
  generalize placesX n B3 T m = C at H7 HSW HIC
  have s7 := H7.out.wa.off 7
  simp only [zqg, zqh, zqi] at s7
  go_wp2_with fail
  clear s7
  go_loopg [41] n (fun k idx wr => ∃ (i : Nat) (D' : List Nat), idx = .int .i64 (i : Int) ∧ Hid (i ≤ n ∧ k = n - i) ∧ Hid (WW E w0 x g7 c a6 n c6 t la st C (hangM C M i) D' wr))
  case atStart => exact ⟨0, D, rfl, ⟨by omega, rfl⟩, H7⟩
  case round =>
    clear H7
    obtain ⟨i, D', rfl, H8, HR⟩ := hrel
    have hn := HN.out.1
    by_cases hi : i < n
    · have hil : (i : Int) < (n : Int) := by omega
      obtain ⟨ha, hO⟩ : a6 = some ⟨g7, 0, none⟩ ∧ OwnB wr g7 n C := by
        rcases HR.out.own with q | q
        · omega
        · exact q
      subst ha
      obtain ⟨q, hq⟩ : ∃ q, C i = q := ⟨_, rfl⟩
      have hc := hO.range hi hq
      have HQ : Hid (C i = q ∧ In64 q.id) := ⟨hq, by rw [← hq]; exact HIC.out i⟩
      clear hO hq
      go_upto_region 8 with (first | (refine wpList_load_mid rfl 37 (.tmp 43) rfl g7 (i * 17) rfl [.int .i64 (q.id), .int .i64 (q.ow), .int .i64 (q.kd), .int .i64 (q.sx), .int .i64 (q.sy), .int .i64 (q.sz), .int .i64 (q.ax), .int .i64 (q.ay), .int .i64 (q.az), .int .i64 (q.vx), .int .i64 (q.vy), .int .i64 (q.vz), .int .i64 (q.px), .int .i64 (q.py), .int .i64 (q.pz), .int .i64 (q.ms), .int .i64 (q.tm)] _ (range17 hc) Tryz.underlying37 rfl bodySize ?_))
      clear hc
      have H9 : Hid (WW E w0 x g7 c (some ⟨g7, 0, none⟩) n c6 t la st C (hangM C M i) D' (wr.alloc (.cells #[.int .i64 (q.id), .int .i64 (q.ow), .int .i64 (q.kd), .int .i64 (q.sx), .int .i64 (q.sy), .int .i64 (q.sz), .int .i64 (q.ax), .int .i64 (q.ay), .int .i64 (q.az), .int .i64 (q.vx), .int .i64 (q.vy), .int .i64 (q.vz), .int .i64 (q.px), .int .i64 (q.py), .int .i64 (q.pz), .int .i64 (q.ms), .int .i64 (q.tm)] 37)) ∧ BodyAt (wr.alloc (.cells #[.int .i64 (q.id), .int .i64 (q.ow), .int .i64 (q.kd), .int .i64 (q.sx), .int .i64 (q.sy), .int .i64 (q.sz), .int .i64 (q.ax), .int .i64 (q.ay), .int .i64 (q.az), .int .i64 (q.vx), .int .i64 (q.vy), .int .i64 (q.vz), .int .i64 (q.px), .int .i64 (q.py), .int .i64 (q.pz), .int .i64 (q.ms), .int .i64 (q.tm)] 37)) wr.heap.size q) := ⟨HR.out.keep ((Only.refl [] wr).alloc _), (MapKept.heap_alloc wr _).1⟩
      revert H9
      generalize wr.heap.size = kb
      generalize World.alloc wr _ = w9
      intro H9
      have hc := H9.out.2.range
      go_wp2_with (first | (refine wpList_load_mid rfl 37 (.tmp 4) rfl kb 0 rfl [.int .i64 (q.id), .int .i64 (q.ow), .int .i64 (q.kd), .int .i64 (q.sx), .int .i64 (q.sy), .int .i64 (q.sz), .int .i64 (q.ax), .int .i64 (q.ay), .int .i64 (q.az), .int .i64 (q.vx), .int .i64 (q.vy), .int .i64 (q.vz), .int .i64 (q.px), .int .i64 (q.py), .int .i64 (q.pz), .int .i64 (q.ms), .int .i64 (q.tm)] _ (range17 hc) Tryz.underlying37 rfl bodySize ?_))
      refine (whang_calls w0 x g7 c (some ⟨g7, 0, none⟩) n c6 t la st C (hangM C M i) D' q w9 H9.out.1 HQ.out.2).mono ?_
      rintro e w10 ⟨rfl, D2, hW, _, _⟩
      have H10 : Hid (WW E w0 x g7 c (some ⟨g7, 0, none⟩) n c6 t la st C (hangM C M (i + 1)) D2 w10) := by show WW E w0 x g7 c _ n c6 t la st C (putM (hangM C M i) (C i).id (boxB (C i))) D2 w10; rw [HQ.out.1]; exact hW
      clear hW hc H9
      go_wp2_with fail
      go_roundg (n - (i + 1))
      case measure => have := H8.out.2; omega
      case rel => exact ⟨i + 1, D2, by go_num, ⟨by omega, rfl⟩, H10⟩
    · have hil : ¬ (i : Int) < (n : Int) := by omega
      obtain rfl : i = n := by have := H8.out.1; omega
      have l10 := HR.out.wa.off 10
      have f10 := HR.out.wa.free 10
      have hs0 := HST.out.1
      have hs1 := HST.out.2
      simp only [zqg, zqh, zqi] at l10
      go_wp2_with fail
      refine bodyPost_end (results_none rfl _ _ _) rfl ?_
      refine ⟨rfl, g7, a6, c6, D', ?_, HS6.out⟩
      rw [HSW.out]
      exact HR.out.steps HR.out.xg _
end Go.Proofs.YtbfkloclmlnahabGreat

namespace Go.Proofs.YtbfkloclmlnahabGreat
open Go.ChangeShapes Go.WideShapes Go.ChangeAt Go.RowKit
set_option linter.unusedVariables false
set_option linter.unusedSimpArgs false

def AllO (w : World) (g o : Nat) (q : Bd) : Prop := w.cell? ⟨g, o, none⟩ = some (.int .i64 (q.id)) ∧ w.cell? ⟨g, o + 1, none⟩ = some (.int .i64 (q.ow)) ∧ w.cell? ⟨g, o + 2, none⟩ = some (.int .i64 (q.kd)) ∧ w.cell? ⟨g, o + 3, none⟩ = some (.int .i64 (q.sx)) ∧ w.cell? ⟨g, o + 4, none⟩ = some (.int .i64 (q.sy)) ∧ w.cell? ⟨g, o + 5, none⟩ = some (.int .i64 (q.sz)) ∧ w.cell? ⟨g, o + 6, none⟩ = some (.int .i64 (q.ax)) ∧ w.cell? ⟨g, o + 7, none⟩ = some (.int .i64 (q.ay)) ∧ w.cell? ⟨g, o + 8, none⟩ = some (.int .i64 (q.az)) ∧ w.cell? ⟨g, o + 9, none⟩ = some (.int .i64 (q.vx)) ∧ w.cell? ⟨g, o + 10, none⟩ = some (.int .i64 (q.vy)) ∧ w.cell? ⟨g, o + 11, none⟩ = some (.int .i64 (q.vz)) ∧ w.cell? ⟨g, o + 12, none⟩ = some (.int .i64 (q.px)) ∧ w.cell? ⟨g, o + 13, none⟩ = some (.int .i64 (q.py)) ∧ w.cell? ⟨g, o + 14, none⟩ = some (.int .i64 (q.pz)) ∧ w.cell? ⟨g, o + 15, none⟩ = some (.int .i64 (q.ms)) ∧ w.cell? ⟨g, o + 16, none⟩ = some (.int .i64 (q.tm))
theorem AllO.only {w w' : World} {g o : Nat} {q : Bd} (h : AllO w g o q) (k : Only [] w w') : AllO w' g o q := by
  obtain ⟨d0, d1, d2, d3, d4, d5, d6, d7, d8, d9, d10, d11, d12, d13, d14, d15, d16⟩ := h
  exact ⟨cell_old1 k d0, cell_old1 k d1, cell_old1 k d2, cell_old1 k d3, cell_old1 k d4, cell_old1 k d5, cell_old1 k d6, cell_old1 k d7, cell_old1 k d8, cell_old1 k d9, cell_old1 k d10, cell_old1 k d11, cell_old1 k d12, cell_old1 k d13, cell_old1 k d14, cell_old1 k d15, cell_old1 k d16⟩
theorem BodiesAt.allO {w : World} {a : Option Addr} {n : Nat} {B : Nat → Bd} (h : BodiesAt w a n B) {i : Nat} (hi : i < n) : ∃ g o, a = some ⟨g, o, none⟩ ∧ AllO w g (o + i * 17) (B i) := by
  obtain ⟨g, o, e, c⟩ := h i hi
  exact ⟨g, o, e, c 0 (by omega), c 1 (by omega), c 2 (by omega), c 3 (by omega), c 4 (by omega), c 5 (by omega), c 6 (by omega), c 7 (by omega), c 8 (by omega), c 9 (by omega), c 10 (by omega), c 11 (by omega), c 12 (by omega), c 13 (by omega), c 14 (by omega), c 15 (by omega), c 16 (by omega)⟩
set_option maxRecDepth 100000 in
theorem load_bd {ρ : Operand → Value} {op : Oper} {w : World} {g o k : Nat} {q : Bd} (ho : op.op = .load 37 (.tmp k)) (hk : ρ (.tmp k) = .pointer (some ⟨g, o, none⟩)) (h : AllO w g o q) : (execOp ρ op).run Tryz.prog w = .ok (.value (bdV q)) w := by
  obtain ⟨d0, d1, d2, d3, d4, d5, d6, d7, d8, d9, d10, d11, d12, d13, d14, d15, d16⟩ := h
  simp only [execOp, ho, hk]
  go_simp <;> rfl
set_option maxRecDepth 100000 in
theorem neq_bd {ρ : Operand → Value} {op : Oper} {w : World} {j k : Nat} {q : Bd} (ho : op.op = .binOp .neq 37 (.tmp j) (.tmp k) 37) (hj : ρ (.tmp j) = bdV q) (hk : ρ (.tmp k) = bdV q) : (execOp ρ op).run Tryz.prog w = .ok (.value (.bool false)) w := by
  simp only [execOp, ho, hj, hk, bdV]
  go_simp <;> rfl
end Go.Proofs.YtbfkloclmlnahabGreat

namespace Go.Proofs.YtbfkloclmlnahabGreat

section
variable {P : Program} {ops : Array Oper} {Q : Exit → Act → World → Prop} {md : Region.Mode} {S : World → Prop} {f : Nat}

/-- Whatever order is picked from here on, and S holds behind every operation ahead of f that is carried out. -/
def wpAnyF (P : Program) (md : Region.Mode) (ops : Array Oper) (Q : Exit → Act → World → Prop) (S : World → Prop) (f : Nat) : Nat → Array Bool → Act → World → Prop
  | 0, listed, a, w => Region.ready md ops listed = [] ∧ Q .normal a w
  | fuel + 1, listed, a, w =>
    (Region.ready md ops listed = [] → Q .normal a w) ∧
    ∀ i ∈ Region.ready md ops listed, wpOp P ops Q i (fun a' w' => (i < f → S w') ∧ wpAnyF P md ops Q S f fuel (listed.setIfInBounds i true) a' w') a w

theorem wpAny_of_F : ∀ (fuel : Nat) (listed : Array Bool) (a : Act) (w : World), wpAnyF P md ops Q S f fuel listed a w → wpAny P md ops Q fuel listed a w
  | 0, _, _, _, h => h
  | fuel + 1, _, _, _, h => ⟨h.1, fun i hi => wpOp_mono (fun a' w' h' => wpAny_of_F fuel _ a' w' h'.2) (h.2 i hi)⟩

theorem wpAnyF_first {i : Nat} {oi : Oper} {v : Value} (hi : ops[i]? = some oi) (hsel : ∀ (j : Nat) (o : Oper) cs b, ops[j]? = some o → o.op ≠ .select cs b)
    (hQ : ∀ c a w, Q (.panic c) (a.put oi.dst v) w → Q (.panic c) a w)
    (hF : ∀ j oj, ops[j]? = some oj → f ≤ j → j ≠ i → ∃ e ∈ oj.after, Region.binds md e = true ∧ e.on = i) :
    ∀ (fuel : Nat) (listed : Array Bool) (a : Act) (w : World),
      (∀ j oj, ops[j]? = some oj → j ≠ i → listed.getD j true = false → (∀ e ∈ oj.after, Region.binds md e = true → e.on ≠ i) → oi.apart ops oj = true) →
      i ∈ Region.ready md ops listed → YieldsIf P ops S oi v a → S w →
      wpAnyF P md ops Q S f fuel (listed.setIfInBounds i true) (a.put oi.dst v) w → wpAnyF P md ops Q S f (fuel + 1) listed a w := by
  intro fuel
  induction fuel with
  | zero =>
    intro listed a w _ hr hy hS H
    refine ⟨fun h => (by rw [h] at hr; cases hr), fun j hj => ?_⟩
    by_cases hji : j = i
    · subst hji; exact hy.wpOp hi hS ⟨fun _ => hS, H⟩
    · have := ready_mono hj hji
      rw [H.1] at this
      cases this
  | succ fuel ih =>
    intro listed a w hfree hr hy hS H
    refine ⟨fun h => (by rw [h] at hr; cases hr), fun j hj => ?_⟩
    by_cases hji : j = i
    · subst hji; exact hy.wpOp hi hS ⟨fun _ => hS, H⟩
    · have h1 := H.2 j (ready_mono hj hji)
      obtain ⟨hjun, oj, hoj, hall⟩ := mem_ready.1 hj
      have hnot : ∀ e ∈ oj.after, Region.binds md e = true → e.on ≠ i := fun e he hb heq => by
        have h1 := hall e he hb
        have h0 := (mem_ready.1 hr).1
        rw [heq] at h1
        rcases Nat.lt_or_ge i listed.size with h' | h'
        · simp [h'] at h0 h1; rw [h0] at h1; cases h1
        · simp [Array.getElem?_eq_none h'] at h1
      have hjf : j < f := by
        rcases Nat.lt_or_ge j f with q | q
        · exact q
        · obtain ⟨e, he, hb, hon⟩ := hF j oj hoj q hji
          exact absurd hon (hnot e he hb)
      have h2 := wpOp_putIf hoj (hfree j oj hoj hji hjun hnot) (fun cs b => hsel i oi cs b hi) (fun cs b => hsel j oj cs b hoj) hQ hy h1
      have hfree' : ∀ k ok, ops[k]? = some ok → k ≠ i → (listed.setIfInBounds j true).getD k true = false →
          (∀ e ∈ ok.after, Region.binds md e = true → e.on ≠ i) → oi.apart ops ok = true := fun k ok hk hki hun hno => by
        refine hfree k ok hk hki ?_ hno
        by_cases hjk : j = k
        · subst hjk; exact hjun
        · rw [getD_set_ne true hjk] at hun; exact hun
      refine wpOp_mono (fun a' w' h3 => ⟨h3.2.1, ih (listed.setIfInBounds j true) a' w' hfree' (ready_mono hr (Ne.symm hji)) h3.1 (h3.2.1 hjf) ?_⟩) h2
      rw [Array.setIfInBounds_comm _ _ hji]
      exact h3.2.2

/-- Each operation from f on waits for number i. -/
def waitsF (md : Region.Mode) (ops : Array Oper) (f i : Nat) : Bool :=
  (List.range ops.size).all fun j => decide (j < f) || j == i || ((ops[j]?).map (fun o => o.after.any (fun e => Region.binds md e && e.on == i))).getD true
theorem waitsF_spec {i : Nat} (h : waitsF md ops f i = true) : ∀ j oj, ops[j]? = some oj → f ≤ j → j ≠ i → ∃ e ∈ oj.after, Region.binds md e = true ∧ e.on = i := fun j oj hj hf hji => by
  have hs : j < ops.size := (Array.getElem?_eq_some_iff.1 hj).1
  have h1 := List.all_eq_true.1 h j (List.mem_range.2 hs)
  have h2 : decide (j < f) = false := by simp; omega
  have h3 : (j == i) = false := by simpa using hji
  rw [h2, h3, hj] at h1
  simp only [Bool.false_or, Option.map_some, Option.getD_some, Array.any_eq_true'] at h1
  obtain ⟨e, he, hb⟩ := h1
  simp only [Bool.and_eq_true, beq_iff_eq] at hb
  exact ⟨e, he, hb.1, hb.2⟩

theorem wpAnyF_take {i : Nat} {oi : Oper} {v : Value} {fuel : Nat} {listed : Array Bool} {a : Act} {w : World} (hi : ops[i]? = some oi)
    (hs : Region.noSelect ops = true) (hf : Region.free md ops listed i = true) (hr : (Region.ready md ops listed).contains i = true) (hw : waitsF md ops f i = true)
    (hQ : ∀ c a w, Q (.panic c) (a.put oi.dst v) w → Q (.panic c) a w) (hy : YieldsIf P ops S oi v a) (hS : S w)
    (h : wpAnyF P md ops Q S f fuel (listed.setIfInBounds i true) (a.put oi.dst v) w) : wpAnyF P md ops Q S f (fuel + 1) listed a w :=
  wpAnyF_first hi (Region.noSelect_spec hs) hQ (waitsF_spec hw) fuel listed a w (Region.free_spec hi hf) (by simpa using hr) hy hS h

theorem wpAnyF_done {listed : Array Bool} {a : Act} {w : World} (hr : Region.ready md ops listed = []) (h : Q .normal a w) :
    ∀ fuel, wpAnyF P md ops Q S f fuel listed a w
  | 0 => ⟨hr, h⟩
  | _ + 1 => ⟨fun _ => h, by rw [hr]; simp⟩

def AllReadyF (P : Program) (md : Region.Mode) (ops : Array Oper) (Q : Exit → Act → World → Prop) (S : World → Prop) (f fuel : Nat) (listed : Array Bool) (a : Act) (w : World) (rs : List Nat) : Prop :=
  ∀ i ∈ rs, wpOp P ops Q i (fun a' w' => (i < f → S w') ∧ wpAnyF P md ops Q S f fuel (listed.setIfInBounds i true) a' w') a w
theorem AllReadyF.nil {fuel : Nat} {listed : Array Bool} {a : Act} {w : World} : AllReadyF P md ops Q S f fuel listed a w [] := fun _ h => by cases h
theorem AllReadyF.cons {fuel : Nat} {listed : Array Bool} {a : Act} {w : World} {i : Nat} {o : Oper} {rs : List Nat} (ho : ops[i]? = some o)
    (h : ∀ K' : Act → World → Prop, Shut (∀ a w, S w → (S w → wpAnyF P md ops Q S f fuel (listed.setIfInBounds i true) a w) → K' a w) → if Region.wanted o (yielded ops a.tmps) = true then Oper.wp P o a w K' Q else K' (a.put o.dst undef) w)
    (hs : AllReadyF P md ops Q S f fuel listed a w rs) : AllReadyF P md ops Q S f fuel listed a w (i :: rs) := fun j hj => by
  rcases List.mem_cons.1 hj with rfl | hj
  · exact wpOp_step ho (fun K' hK => h K' (fun a w hS hW => hK a w ⟨fun _ => hS, hW hS⟩))
  · exact hs j hj
/-- One of the last operations. -/
theorem AllReadyF.fin {fuel : Nat} {listed : Array Bool} {a : Act} {w : World} {i : Nat} {o : Oper} {rs : List Nat} (ho : ops[i]? = some o) (hf : f ≤ i)
    (h : ∀ K' : Act → World → Prop, Shut (∀ a w, wpAnyF P md ops Q S f fuel (listed.setIfInBounds i true) a w → K' a w) → if Region.wanted o (yielded ops a.tmps) = true then Oper.wp P o a w K' Q else K' (a.put o.dst undef) w)
    (hs : AllReadyF P md ops Q S f fuel listed a w rs) : AllReadyF P md ops Q S f fuel listed a w (i :: rs) := fun j hj => by
  rcases List.mem_cons.1 hj with rfl | hj
  · exact wpOp_step ho (fun K' hK => h K' (fun a w hW => hK a w ⟨fun q => absurd q (Nat.not_lt.2 hf), hW⟩))
  · exact hs j hj
theorem wpAnyF_ready {rs : List Nat} {fuel : Nat} {listed : Array Bool} {a : Act} {w : World} (hr : Region.ready md ops listed = rs) (hne : rs ≠ [])
    (h : AllReadyF P md ops Q S f fuel listed a w rs) : wpAnyF P md ops Q S f (fuel + 1) listed a w := ⟨fun h0 => absurd (hr ▸ h0) hne, hr ▸ h⟩
theorem wp_region_F_drew {id : Nat} {a : Act} {w : World} (f : Nat) (S : World → Prop) (hm : P.follows .mixedOrders = true) (hS : S w.drew)
    (h : S w.drew → wpAnyF P .any ops Q S f ops.size (Array.replicate ops.size false) a w.drew) : (Code.region id ops true).wp P Q a w :=
  wp_region_any hm (wpAny_of_F _ _ _ _ (h hS))
/-- An append whose run is known, as a step of a region. -/
theorem step_append {o : Oper} {a : Act} {w w' : World} {s x : Operand} {t : TypeId} {v u v' : Value} {K : Act → World → Prop} (ho : o.op = .call { callee := .builtin .append, args := #[s, x], argTypes := #[t, t] }) (hs : a.eval s = v) (hx : a.eval x = u)
    (hr : (Builtin.append_ #[t, t] o.type #[v, u]).run P w = .ok v' w') (hK : K (a.put o.dst v') w') : Oper.wp P o a w K Q := by
  unfold Oper.wp execOp
  simp only [ho, resolve, invoke, builtin, Sem.run_bind, Sem.run_pure, Result.andThen_ok, List.map_toArray, List.map_cons, List.map_nil, hs, hx, hr]
  exact hK
end
end Go.Proofs.YtbfkloclmlnahabGreat

namespace Go.Proofs.YtbfkloclmlnahabGreat
open Go.ChangeShapes Go.WideShapes Go.ChangeAt Go.RowKit
set_option linter.unusedVariables false
set_option linter.unusedSimpArgs false

/-- A body with a number. -/
def numB (q : Bd) (k : Int) : Bd := { q with id := k }
/-- What is wrong with a body that is to be put into a world. -/
def spawnC (c : Wc) (B : Nat → Bd) (n : Nat) (M : List (Int × Bx)) (la : Int) (q : Bd) : Int := if rightW q = 0 then (if 60 ≤ n ∨ satX B n q.ow c.qt = true then 4 else putC M (la + 1) (boxB (numB q (la + 1)))) else rightW q
/-- The bodies of a world, as append takes them. -/
def RowB (w : World) (a : Option Addr) (n cap : Nat) (B : Nat → Bd) : Prop := w.ownsRow 0 37 17 (.slice a n cap) n (rowsL B n)
/-- What Spawn tells. -/
def SpawnPost (E : List Nat) (w0 : World) (x : Nat) (c : Wc) (n t : Nat) (la st : Int) (B : Nat → Bd) (M : List (Int × Bx)) (q : Bd) (e : Ending) (w' : World) : Prop :=
  (spawnC c B n M la q = 0 → e = .returned (.tuple #[.int .i64 (la + 1), .nilIface]) ∧ ∃ g a cap D, WW E w0 x g c a (n + 1) cap t (la + 1) st (upd B n (numB q (la + 1))) (putM M (la + 1) (boxB (numB q (la + 1)))) D w' ∧ RowB w' a (n + 1) cap (upd B n (numB q (la + 1)))) ∧
  (spawnC c B n M la q ≠ 0 → e = .returned (.tuple #[.int .i64 0, errV (spawnC c B n M la q)]) ∧ ∃ g a cap D, WW E w0 x g c a n cap t la st B M D w' ∧ RowB w' a n cap B)
theorem RowB.only {D : List Nat} {w w' : World} {a : Option Addr} {n cap : Nat} {B : Nat → Bd} (h : RowB w a n cap B) (o : Only D w w') (s : ∀ g o s, a = some ⟨g, o, s⟩ → g ∉ D) : RowB w' a n cap B := by
  obtain ⟨hl, ⟨e, hn⟩ | ⟨g, cp, cur, e, hb, hh, h1, h2, h3, h4⟩⟩ := h
  · exact ⟨hl, Or.inl ⟨e, hn⟩⟩
  · refine ⟨hl, Or.inr ⟨g, cp, cur, e, hb, (o.block g (Array.getElem?_eq_some_iff.1 hh).1 (s g 0 none ?_)).trans hh, h1, h2, h3, h4⟩⟩
    injection e
theorem SpawnPost.bad {E : List Nat} {w0 : World} {x g : Nat} {c : Wc} {a : Option Addr} {n cap t : Nat} {la st : Int} {B : Nat → Bd} {M : List (Int × Bx)} {D : List Nat} {q : Bd} {w' : World} {k : Int} (h : spawnC c B n M la q = k) (hk : k ≠ 0) (hw : WW E w0 x g c a n cap t la st B M D w') (hr : RowB w' a n cap B) :
    SpawnPost E w0 x c n t la st B M q (.returned (.tuple #[.int .i64 0, errV k])) w' :=
  ⟨fun e => absurd (h.symm.trans e) hk, fun _ => ⟨by rw [h], g, a, cap, D, hw, hr⟩⟩
theorem in64_one {i : Int} (h : 0 ≤ i) (k : i ≤ 10000000) : In64 i := by
  have e1 : IntKind.i64.min = -9223372036854775808 := rfl
  have e2 : IntKind.i64.max = 9223372036854775807 := rfl
  show (decide (IntKind.i64.min ≤ i) && decide (i ≤ IntKind.i64.max)) = true
  rw [e1, e2]; simp; omega
theorem WorldAt.last {w : World} {x : Nat} {c : Wc} {a : Option Addr} {n cap t : Nat} {la st : Int} (h : WorldAt w x c a n cap t la st) (la' : Int) : WorldAt (w.setCell ⟨x, 9, none⟩ (.int .i64 la')) x c a n cap t la' st := by
  unfold WorldAt at *
  simp [World.setCell, Array.getElem?_modify, h]
/-- A step that turns other blocks alone. -/
theorem WW.apart {E : List Nat} {G : List Nat} {w : World} {x g : Nat} {c : Wc} {a : Option Addr} {n cap t : Nat} {la st : Int} {C : Nat → Bd} {M : List (Int × Bx)} {D : List Nat} {wr w' : World} (h : WW E w x g c a n cap t la st C M D wr) (o : Only G wr w') (hx : x ∉ G) (hg : g ∉ G) (hD : ∀ b ∈ D, b ∉ G) (hE : ∀ b ∈ G, w.heap.size ≤ b) : WW E w x g c a n cap t la st C M D w' :=
  ⟨h.wa.only o hx, h.own.onlyN o (fun _ => hg), h.tree.only o hD, h.xD, h.gD, Nat.lt_of_lt_of_le h.glt o.size, h.xg, h.xnew, h.gnew, h.dnew, h.only.then o (fun b hb => Or.inr (hE b hb))⟩
theorem WW.last {E : List Nat} {w : World} {x g : Nat} {c : Wc} {a : Option Addr} {n cap t : Nat} {la st : Int} {C : Nat → Bd} {M : List (Int × Bx)} {D : List Nat} {wr : World} (h : WW E w x g c a n cap t la st C M D wr) (la' : Int) : WW E w x g c a n cap t la' st C M D (wr.setCell ⟨x, 9, none⟩ (.int .i64 la')) := by
  have o : Only [x] wr (wr.setCell ⟨x, 9, none⟩ (.int .i64 la')) := (Only.refl [x] wr).setCell (p := ⟨x, 9, none⟩) (Or.inl (by simp)) _
  exact ⟨h.wa.last la', h.own.onlyN o (fun _ => by simp only [List.mem_singleton]; exact fun e => h.xg e.symm), h.tree.only o (fun b hb => by simp only [List.mem_singleton]; exact fun e => h.xD (e ▸ hb)), h.xD, h.gD, Nat.lt_of_lt_of_le h.glt o.size, h.xg, h.xnew, h.gnew, h.dnew, h.only.then o (fun b hb => by simp only [List.mem_singleton] at hb; subst hb; exact h.xnew)⟩
theorem BodyAt.free {w : World} {kb : Nat} {q : Bd} (h : BodyAt w kb q) (j : Nat) : w.frozen? ⟨kb, j, none⟩ = false := by
  unfold BodyAt at h; simp [World.frozen?, h]
theorem BodyAt.onlyD {D : List Nat} {w w' : World} {kb : Nat} {q : Bd} (h : BodyAt w kb q) (o : Only D w w') (s : kb ∉ D) : BodyAt w' kb q := (o.block kb (Array.getElem?_eq_some_iff.1 h).1 s).trans h
theorem BodyAt.lt {w : World} {kb : Nat} {q : Bd} (h : BodyAt w kb q) : kb < w.heap.size := (Array.getElem?_eq_some_iff.1 h).1
theorem BodyAt.num {w : World} {kb : Nat} {q : Bd} (h : BodyAt w kb q) (k : Int) : BodyAt (w.setCell ⟨kb, 0, none⟩ (.int .i64 k)) kb (numB q k) := heap_put h 0 _
theorem BodyAt.all {w : World} {kb : Nat} {q : Bd} (h : BodyAt w kb q) : AllO w kb 0 q :=
  ⟨h.off 0, h.off 1, h.off 2, h.off 3, h.off 4, h.off 5, h.off 6, h.off 7, h.off 8, h.off 9, h.off 10, h.off 11, h.off 12, h.off 13, h.off 14, h.off 15, h.off 16⟩
/-- While Spawn runs. -/
structure SpW (E : List Nat) (w0 : World) (x g : Nat) (c : Wc) (a : Option Addr) (n cap t : Nat) (la st : Int) (B : Nat → Bd) (M : List (Int × Bx)) (D : List Nat) (kb : Nat) (q : Bd) (wr : World) : Prop where
  ww : WW E w0 x g c a n cap t la st B M D wr
  row : RowB wr a n cap B
  at' : BodyAt wr kb q
  kD : kb ∉ D
  kx : kb ≠ x
  kg : kb ≠ g
  knew : w0.heap.size ≤ kb
theorem WW.regrow {E : List Nat} {w : World} {x g g' : Nat} {c : Wc} {a a' : Option Addr} {n n' cap cap' t : Nat} {la st : Int} {C C' : Nat → Bd} {M : List (Int × Bx)} {D : List Nat} {wr w8 : World} (h : WW E w x g c a n cap t la st C M D wr) (o : Only [g] wr w8) (ho : OwnS w8 a' g' n' C') (hg : g' = g ∨ wr.heap.size ≤ g') (hl : g' < w8.heap.size) (hn : g' ∈ E ∨ w.heap.size ≤ g') : WW E w x g' c a' n' cap' t la st C' M D (w8.setCell ⟨x, 7, none⟩ (.slice a' n' cap')) := by
  have hx : x ≠ g' := by
    rcases hg with e | e
    · rw [e]; exact h.xg
    · have := h.wa.lt; omega
  have hD : g' ∉ D := by
    rcases hg with e | e
    · rw [e]; exact h.gD
    · intro q; have := h.tree.lt _ q; omega
  have hxg : x ∉ [g] := by simp only [List.mem_singleton]; exact h.xg
  have o2 : Only [x] w8 (w8.setCell ⟨x, 7, none⟩ (.slice a' n' cap')) := (Only.refl [x] w8).setCell (p := ⟨x, 7, none⟩) (Or.inl (by simp)) _
  refine ⟨(h.wa.only o hxg).slice a' n' cap', ho.onlyN o2 (fun _ => by simp only [List.mem_singleton]; exact fun e => hx e.symm), (h.tree.only o ?_).only o2 ?_, h.xD, hD, Nat.lt_of_lt_of_le hl o2.size, hx, h.xnew, hn, h.dnew, ?_⟩
  · intro b hb; simp only [List.mem_singleton]; exact fun e => h.gD (e ▸ hb)
  · intro b hb; simp only [List.mem_singleton]; exact fun e => h.xD (e ▸ hb)
  · exact (h.only.then o (fun b hb => by simp only [List.mem_singleton] at hb; subst hb; exact h.gnew)).then o2 (fun b hb => by simp only [List.mem_singleton] at hb; subst hb; exact h.xnew)
theorem SpW.keep {E : List Nat} {w0 : World} {x g : Nat} {c : Wc} {a : Option Addr} {n cap t : Nat} {la st : Int} {B : Nat → Bd} {M : List (Int × Bx)} {D : List Nat} {kb : Nat} {q : Bd} {wr w' : World} (h : SpW E w0 x g c a n cap t la st B M D kb q wr) (o : Only [] wr w') : SpW E w0 x g c a n cap t la st B M D kb q w' :=
  ⟨h.ww.keep o, h.row.only o (fun _ _ _ _ => by simp), h.at'.only o, h.kD, h.kx, h.kg, h.knew⟩
set_option maxRecDepth 100000 in
set_option maxHeartbeats 8000000 in
theorem spawn_calls {E : List Nat} (w0 : World) (x g : Nat) (c : Wc) (a : Option Addr) (n cap t : Nat) (la st : Int) (B : Nat → Bd) (M : List (Int × Bx)) (D : List Nat) (q : Bd) (w : World) (hn : n ≤ 60) (h : WW E w0 x g c a n cap t la st B M D w) (hrow : RowB w a n cap B) (hga : ∀ g' o s, a = some ⟨g', o, s⟩ → g' = g) (hla : 0 ≤ la) (hla' : la ≤ 1000000) :
    Calls Tryz.prog 16 #[.pointer (some ⟨x, 0, none⟩), .agg #[.int .i64 (q.id), .int .i64 (q.ow), .int .i64 (q.kd), .int .i64 (q.sx), .int .i64 (q.sy), .int .i64 (q.sz), .int .i64 (q.ax), .int .i64 (q.ay), .int .i64 (q.az), .int .i64 (q.vx), .int .i64 (q.vy), .int .i64 (q.vz), .int .i64 (q.px), .int .i64 (q.py), .int .i64 (q.pz), .int .i64 (q.ms), .int .i64 (q.tm)]] w (SpawnPost E w0 x c n t la st B M q) := by
  have HW : Hid (WW E w0 x g c a n cap t la st B M D w ∧ RowB w a n cap B ∧ n ≤ 60 ∧ (∀ g' o s, a = some ⟨g', o, s⟩ → g' = g)) := ⟨h, hrow, hn, hga⟩
  have HL : Hid (0 ≤ la ∧ la ≤ 1000000) := ⟨hla, hla'⟩
  clear h hrow hn hga hla hla'
  go_enter Tryz.func16, Tryz.ntmps16
  go_upto_region 1 with fail
  have H1 : Hid (SpW E w0 x g c a n cap t la st B M D w.heap.size q (w.alloc (.cells #[.int .i64 (q.id), .int .i64 (q.ow), .int .i64 (q.kd), .int .i64 (q.sx), .int .i64 (q.sy), .int .i64 (q.sz), .int .i64 (q.ax), .int .i64 (q.ay), .int .i64 (q.az), .int .i64 (q.vx), .int .i64 (q.vy), .int .i64 (q.vz), .int .i64 (q.px), .int .i64 (q.py), .int .i64 (q.pz), .int .i64 (q.ms), .int .i64 (q.tm)] 37))) := by
    have o := (Only.refl [] w).alloc (.cells #[.int .i64 (q.id), .int .i64 (q.ow), .int .i64 (q.kd), .int .i64 (q.sx), .int .i64 (q.sy), .int .i64 (q.sz), .int .i64 (q.ax), .int .i64 (q.ay), .int .i64 (q.az), .int .i64 (q.vx), .int .i64 (q.vy), .int .i64 (q.vz), .int .i64 (q.px), .int .i64 (q.py), .int .i64 (q.pz), .int .i64 (q.ms), .int .i64 (q.tm)] 37)
    refine ⟨HW.out.1.keep o, HW.out.2.1.only o (fun _ _ _ _ => by simp), (MapKept.heap_alloc w _).1, fun hk => ?_, ?_, ?_, HW.out.1.only.size⟩
    · have := HW.out.1.tree.lt _ hk; omega
    · have := HW.out.1.wa.lt; omega
    · have := HW.out.1.glt; omega
  revert H1
  generalize w.heap.size = kb
  generalize World.alloc w _ = w1
  intro H1
  have hc := H1.out.at'.range
  go_wp2_with (first | (refine wpList_load_mid rfl 37 (.tmp 3) rfl kb 0 rfl [.int .i64 (q.id), .int .i64 (q.ow), .int .i64 (q.kd), .int .i64 (q.sx), .int .i64 (q.sy), .int .i64 (q.sz), .int .i64 (q.ax), .int .i64 (q.ay), .int .i64 (q.az), .int .i64 (q.vx), .int .i64 (q.vy), .int .i64 (q.vz), .int .i64 (q.px), .int .i64 (q.py), .int .i64 (q.pz), .int .i64 (q.ms), .int .i64 (q.tm)] _ (range17 hc) Tryz.underlying37 rfl bodySize ?_))
  clear hc
  refine (wright_calls q _).mono ?_
  rintro e w2 ⟨rfl, k2⟩
  have H2 : Hid (SpW E w0 x g c a n cap t la st B M D kb q w2) := H1.out.keep (Only.of_kept k2)
  clear k2 H1
  by_cases hr : rightW q = 0
  · have HR : Hid (rightW q = 0) := hr
    rw [hr, show errV 0 = .nilIface from rfl]
    clear hr
    have s7 := H2.out.ww.wa.off 7
    have e1 := H2.out.at'.off 1
    simp only [zqg, zqh, zqi] at s7 e1
    by_cases h60 : 60 ≤ n
    · have HE : Hid (spawnC c B n M la q = 4) := by show spawnC c B n M la q = 4; unfold spawnC; rw [if_pos HR.out, if_pos (Or.inl h60)]
      have h6 : decide (60 ≤ (n : Int)) = true := by simp; omega
      clear h60
      go_wp2_with fail
      exact bodyPost_ret (v := .tuple #[.int .i64 0, errV 4]) (by simp [results, Tryz.results16, go_sem, errV]) rfl (SpawnPost.bad HE.out (by decide) H2.out.ww H2.out.row)
    · have h6 : decide (60 ≤ (n : Int)) = false := by simp; omega
      have HN : Hid (n < 60) := by show n < 60; omega
      clear h60
      go_wp2_with fail
      refine (sated_calls x q.ow c a n cap t la st B w2 HW.out.2.2.1 H2.out.ww.wa H2.out.ww.own.bodies).mono ?_
      rintro e w3 ⟨rfl, o3⟩
      have H3 : Hid (SpW E w0 x g c a n cap t la st B M D kb q w3) := H2.out.keep o3
      clear s7 e1 h6 o3 H2
      cases hs : satX B n q.ow c.qt with
      | true =>
        have HE : Hid (spawnC c B n M la q = 4) := by show spawnC c B n M la q = 4; unfold spawnC; rw [if_pos HR.out, if_pos (Or.inr hs)]
        clear hs
        go_wp2_with fail
        exact bodyPost_ret (v := .tuple #[.int .i64 0, errV 4]) (by simp [results, Tryz.results16, go_sem, errV]) rfl (SpawnPost.bad HE.out (by decide) H3.out.ww H3.out.row)
      | false =>
        have HE : Hid (spawnC c B n M la q = putC M (la + 1) (boxB (numB q (la + 1)))) := by show spawnC c B n M la q = _; unfold spawnC; rw [if_pos HR.out, if_neg (by rw [hs]; have := HN.out; simp; omega)]
        clear hs
        have l9 := H3.out.ww.wa.off 9
        have c0 := H3.out.at'.off 0
        have f0 := H3.out.at'.free 0
        have hl0 := HL.out.1
        have hl1 := HL.out.2
        simp only [zqg, zqh, zqi] at l9 c0
        go_upto_region 7 with fail
        clear l9 c0 f0
        have H4 : Hid (SpW E w0 x g c a n cap t la st B M D kb (numB q (la + 1)) (w3.setCell ⟨kb, 0, none⟩ (.int .i64 (la + 1)))) := by
          have o : Only [kb] w3 (w3.setCell ⟨kb, 0, none⟩ (.int .i64 (la + 1))) := (Only.refl [kb] w3).setCell (p := ⟨kb, 0, none⟩) (Or.inl (by simp)) _
          refine ⟨H3.out.ww.apart o ?_ ?_ ?_ ?_, H3.out.row.only o ?_, H3.out.at'.num _, H3.out.kD, H3.out.kx, H3.out.kg, H3.out.knew⟩
          · simp only [List.mem_singleton]; exact fun e => H3.out.kx e.symm
          · simp only [List.mem_singleton]; exact fun e => H3.out.kg e.symm
          · intro b hb; simp only [List.mem_singleton]; exact fun e => H3.out.kD (e ▸ hb)
          · intro b hb; simp only [List.mem_singleton] at hb; rw [hb]; exact H3.out.knew
          · intro g' o' s' e; simp only [List.mem_singleton]; rw [HW.out.2.2.2 g' o' s' e]; exact fun e => H3.out.kg e.symm
        generalize World.setCell w3 _ _ = w4 at H4 ⊢
        obtain ⟨q', hq'⟩ : ∃ q', q' = numB q (la + 1) := ⟨_, rfl⟩
        have hqi : q'.id = la + 1 := by rw [hq']; rfl
        have HQI : Hid (q'.id = la + 1 ∧ q' = numB q (la + 1)) := ⟨hqi, hq'⟩
        rw [← hq'] at H4 HE
        clear hqi hq' H3
        have hc := H4.out.at'.range
        go_wp2_with (first | (refine wpList_load_mid rfl 37 (.tmp 3) rfl kb 0 rfl [.int .i64 (q'.id), .int .i64 (q'.ow), .int .i64 (q'.kd), .int .i64 (q'.sx), .int .i64 (q'.sy), .int .i64 (q'.sz), .int .i64 (q'.ax), .int .i64 (q'.ay), .int .i64 (q'.az), .int .i64 (q'.vx), .int .i64 (q'.vy), .int .i64 (q'.vz), .int .i64 (q'.px), .int .i64 (q'.py), .int .i64 (q'.pz), .int .i64 (q'.ms), .int .i64 (q'.tm)] _ (range17 hc) Tryz.underlying37 rfl bodySize ?_))
        clear hc
        refine (whang_calls w0 x g c a n cap t la st B M D q' w4 H4.out.ww (by rw [HQI.out.1]; exact in64_one (by omega) (by omega))).mono ?_
        rintro e w5 ⟨rfl, D', hW5, o5, hD5⟩
        have H5 : Hid (SpW E w0 x g c a n cap t la st B (putM M q'.id (boxB q')) D' kb q' w5) := by
          refine ⟨hW5, H4.out.row.only o5 ?_, H4.out.at'.onlyD o5 H4.out.kD, fun hk => ?_, H4.out.kx, H4.out.kg, H4.out.knew⟩
          · intro g' o' s' e; rw [HW.out.2.2.2 g' o' s' e]; exact H4.out.ww.gD
          · rcases hD5 kb hk with e | e
            · exact H4.out.kD e
            · have := H4.out.at'.lt; omega
        clear hW5 o5 hD5 H4
        rw [HQI.out.1] at H5
        rw [HQI.out.1]
        by_cases hp : putC M (la + 1) (boxB q') = 0
        · rw [hp, show errV 0 = .nilIface from rfl]
          have HE0 : Hid (spawnC c B n M la q = 0) := by show spawnC c B n M la q = 0; rw [HE.out, hp]
          clear hp HE
          have c0 := H5.out.at'.off 0
          have c9 := H5.out.ww.wa.off 9
          have f9 := H5.out.ww.wa.free 9
          simp only [zqg, zqh, zqi] at c0 c9
          go_upto_region 11 with fail
          clear c0 c9 f9
          have H6 : Hid (SpW E w0 x g c a n cap t (la + 1) st B (putM M (la + 1) (boxB q')) D' kb q' (w5.setCell ⟨x, 9, none⟩ (.int .i64 (la + 1)))) := by
            have o : Only [x] w5 (w5.setCell ⟨x, 9, none⟩ (.int .i64 (la + 1))) := (Only.refl [x] w5).setCell (p := ⟨x, 9, none⟩) (Or.inl (by simp)) _
            refine ⟨H5.out.ww.last _, H5.out.row.only o ?_, H5.out.at'.onlyD o ?_, H5.out.kD, H5.out.kx, H5.out.kg, H5.out.knew⟩
            · intro g' o' s' e; simp only [List.mem_singleton]; rw [HW.out.2.2.2 g' o' s' e]; exact fun e => H5.out.ww.xg e.symm
            · simp only [List.mem_singleton]; exact H5.out.kx
          rw [HQI.out.1]
          generalize World.setCell w5 _ _ = w6 at H6 ⊢
          clear H5
          refine wp_region_F_drew 8 (fun w' => w'.cell? ⟨x, 7, none⟩ = some (.slice a n cap) ∧ AllO w' kb 0 q') (by kernel_rfl) ?_ (fun hHeld1 => ?_)
          · (try dsimp only); exact ⟨(H6.out.ww.wa.only (Only.refl [] w6).drew (by simp)).off 7, (H6.out.at'.only (Only.refl [] w6).drew).all⟩
          refine wpAnyF_take (i := 0) (v := ?_) rfl (by kernel_rfl) (by kernel_rfl) (by kernel_rfl) (by kernel_rfl) (fun _ _ _ h => h) (Or.inl ⟨by kernel_rfl, ?_⟩) (by assumption) ?_
          rotate_left
          · intro w'' hSw; (try dsimp only at hSw); simp only [zqa, zqb, zqc]; (go_simp <;> with_reducible rfl)
          try simp only [Act.put, zqd, zqe, zqf, zqa, zqb, zqc]
          refine wpAnyF_take (i := 1) (v := ?_) rfl (by kernel_rfl) (by kernel_rfl) (by kernel_rfl) (by kernel_rfl) (fun _ _ _ h => h) (Or.inl ⟨by kernel_rfl, ?_⟩) (by assumption) ?_
          rotate_left
          · intro w'' hSw; (try dsimp only at hSw); simp only [zqa, zqb, zqc]; (go_simp <;> with_reducible rfl)
          try simp only [Act.put, zqd, zqe, zqf, zqa, zqb, zqc]
          refine wpAnyF_take (i := 2) (v := ?_) rfl (by kernel_rfl) (by kernel_rfl) (by kernel_rfl) (by kernel_rfl) (fun _ _ _ h => h) (Or.inl ⟨by kernel_rfl, ?_⟩) (by assumption) ?_
          rotate_left
          · intro w'' hSw; (try dsimp only at hSw); simp only [zqa, zqb, zqc]; (go_simp <;> with_reducible rfl)
          try simp only [Act.put, zqd, zqe, zqf, zqa, zqb, zqc]
          refine wpAnyF_take (i := 3) (v := ?_) rfl (by kernel_rfl) (by kernel_rfl) (by kernel_rfl) (by kernel_rfl) (fun _ _ _ h => h) (Or.inl ⟨by kernel_rfl, ?_⟩) (by assumption) ?_
          rotate_left
          · intro w'' hSw; (try dsimp only at hSw); simp only [zqa, zqb, zqc]; (go_simp <;> with_reducible rfl)
          try simp only [Act.put, zqd, zqe, zqf, zqa, zqb, zqc]
          refine wpAnyF_take (i := 4) (v := ?_) rfl (by kernel_rfl) (by kernel_rfl) (by kernel_rfl) (by kernel_rfl) (fun _ _ _ h => h) (Or.inl ⟨by kernel_rfl, ?_⟩) (by assumption) ?_
          rotate_left
          · intro w'' hSw; (try dsimp only at hSw); simp only [zqa, zqb, zqc]; (go_simp <;> with_reducible rfl)
          try simp only [Act.put, zqd, zqe, zqf, zqa, zqb, zqc]
          refine wpAnyF_take (i := 5) (v := (.agg #[.int .i64 (q'.id), .int .i64 (q'.ow), .int .i64 (q'.kd), .int .i64 (q'.sx), .int .i64 (q'.sy), .int .i64 (q'.sz), .int .i64 (q'.ax), .int .i64 (q'.ay), .int .i64 (q'.az), .int .i64 (q'.vx), .int .i64 (q'.vy), .int .i64 (q'.vz), .int .i64 (q'.px), .int .i64 (q'.py), .int .i64 (q'.pz), .int .i64 (q'.ms), .int .i64 (q'.tm)])) rfl (by kernel_rfl) (by kernel_rfl) (by kernel_rfl) (by kernel_rfl) (fun _ _ _ h => h) (Or.inl ⟨by kernel_rfl, ?_⟩) (by assumption) ?_
          · intro w'' hSw; (try dsimp only at hSw); simp only [zqa, zqb, zqc]; exact load_bd (k := 3) (g := kb) (o := 0) rfl (by kernel_rfl) hSw.2
          try simp only [Act.put, zqd, zqe, zqf, zqa, zqb, zqc]
          refine wpAnyF_ready (rs := [6]) (by kernel_rfl) (by simp) ?_
          refine AllReadyF.cons rfl (fun K hK => ?_) AllReadyF.nil
          first | (with_reducible refine iteYes ?hcx ?htx; case hcx => kernel_rfl) | rw [if_pos (by rfl)]
          simp only [zqa, zqb, zqc]
          go_simp
          refine hK.out _ _ ?_ (fun hHeld2 => ?_)
          · (try dsimp only); exact ⟨(H6.out.ww.wa.only ((Only.refl [] w6).drew.alloc _) (by simp)).off 7, (H6.out.at'.only ((Only.refl [] w6).drew.alloc _)).all⟩
          clear hK K
          try simp only [Act.put, zqd, zqe, zqf, zqa, zqb, zqc]
          obtain ⟨i2, hi0, hz0, hz1, hz2⟩ := info_parts' bodyInfo
          have hnews : ∀ j u, [.int .i64 (q'.id), .int .i64 (q'.ow), .int .i64 (q'.kd), .int .i64 (q'.sx), .int .i64 (q'.sy), .int .i64 (q'.sz), .int .i64 (q'.ax), .int .i64 (q'.ay), .int .i64 (q'.az), .int .i64 (q'.vx), .int .i64 (q'.vy), .int .i64 (q'.vz), .int .i64 (q'.px), .int .i64 (q'.py), .int .i64 (q'.pz), .int .i64 (q'.ms), .int .i64 (q'.tm)][j]? = some u → (w6.alloc (.cells #[.int .i64 (q'.id), .int .i64 (q'.ow), .int .i64 (q'.kd), .int .i64 (q'.sx), .int .i64 (q'.sy), .int .i64 (q'.sz), .int .i64 (q'.ax), .int .i64 (q'.ay), .int .i64 (q'.az), .int .i64 (q'.vx), .int .i64 (q'.vy), .int .i64 (q'.vz), .int .i64 (q'.px), .int .i64 (q'.py), .int .i64 (q'.pz), .int .i64 (q'.ms), .int .i64 (q'.tm)] 37)).drew.cell? ((⟨w6.heap.size, 0, none⟩ : Addr).add j) = some u := cells_new w6 [.int .i64 (q'.id), .int .i64 (q'.ow), .int .i64 (q'.kd), .int .i64 (q'.sx), .int .i64 (q'.sy), .int .i64 (q'.sz), .int .i64 (q'.ax), .int .i64 (q'.ay), .int .i64 (q'.az), .int .i64 (q'.vx), .int .i64 (q'.vy), .int .i64 (q'.vz), .int .i64 (q'.px), .int .i64 (q'.py), .int .i64 (q'.pz), .int .i64 (q'.ms), .int .i64 (q'.tm)] _
          have H7 : Hid (SpW E w0 x g c a n cap t (la + 1) st B (putM M (la + 1) (boxB q')) D' kb q' (w6.alloc (.cells #[.int .i64 (q'.id), .int .i64 (q'.ow), .int .i64 (q'.kd), .int .i64 (q'.sx), .int .i64 (q'.sy), .int .i64 (q'.sz), .int .i64 (q'.ax), .int .i64 (q'.ay), .int .i64 (q'.az), .int .i64 (q'.vx), .int .i64 (q'.vy), .int .i64 (q'.vz), .int .i64 (q'.px), .int .i64 (q'.py), .int .i64 (q'.pz), .int .i64 (q'.ms), .int .i64 (q'.tm)] 37)).drew) := H6.out.keep ((Only.refl [] w6).alloc _).drew
          clear H6
          generalize w6.heap.size = kn at hnews ⊢
          generalize World.drew (World.alloc w6 _) = w7 at hnews H7 hHeld2 ⊢
          have hn60 := HN.out
          obtain ⟨v', w8, hr8, hown, hgrow, hnil, hloc⟩ := run_append_own_at (P := Tryz.prog) w7 0 22 22 37 i2 (.agg #[.int .i64 0, .int .i64 0, .int .i64 0, .int .i64 0, .int .i64 0, .int .i64 0, .int .i64 0, .int .i64 0, .int .i64 0, .int .i64 0, .int .i64 0, .int .i64 0, .int .i64 0, .int .i64 0, .int .i64 0, .int .i64 0, .int .i64 0]) 17 136 Tryz.underlying22 hi0 hz0 hz1 hz2 rfl (by decide) (.slice a n cap) n (rowsL B n) H7.out.row ⟨kn, 0, none⟩ 1 1 [.int .i64 (q'.id), .int .i64 (q'.ow), .int .i64 (q'.kd), .int .i64 (q'.sx), .int .i64 (q'.sy), .int .i64 (q'.sz), .int .i64 (q'.ax), .int .i64 (q'.ay), .int .i64 (q'.az), .int .i64 (q'.vx), .int .i64 (q'.vy), .int .i64 (q'.vz), .int .i64 (q'.px), .int .i64 (q'.py), .int .i64 (q'.pz), .int .i64 (q'.ms), .int .i64 (q'.tm)] rfl hnews (by simp [Value.oneCell']) (by unfold maxLen; omega) (by omega) (by omega)
          have hown2 : w8.ownsRow 0 37 17 v' (n + 1) (rowsL (upd B n q') (n + 1)) := by rw [rowsL_snoc]; exact hown
          obtain ⟨a', g', c', rfl, hS, hgb, hsl⟩ := OwnS.of_rowN hown2
          have o8 : Only [g] w7 w8 := (Only.refl [g] w7).grown hgrow (fun k hk => Or.inl (by
            cases a with
            | none => simp [Value.ownBlock] at hk
            | some ad =>
              simp only [Value.ownBlock, Option.some.injEq] at hk
              rw [← hk, HW.out.2.2.2 ad.block ad.off ad.spot rfl]; simp))
          have ha' : a' = some ⟨g', 0, none⟩ := by
            rcases hS with e | e
            · omega
            · exact e.1
          have hg2 : g' = g ∨ w7.heap.size ≤ g' := by
            rw [ha'] at hloc
            rcases hloc with e | e
            · left
              cases a with
              | none => simp [Value.ownBlock] at e
              | some ad =>
                simp only [Value.ownBlock, Option.some.injEq] at e
                rw [e, HW.out.2.2.2 ad.block ad.off ad.spot rfl]
            · right
              simp only [Value.ownBlock, Option.some.injEq] at e
              omega
          have H8 : Hid (WW E w0 x g' c a' (n + 1) c' t (la + 1) st (upd B n q') (putM M (la + 1) (boxB q')) D' (w8.setCell ⟨x, 7, none⟩ (.slice a' (n + 1) c')) ∧ RowB (w8.setCell ⟨x, 7, none⟩ (.slice a' (n + 1) c')) a' (n + 1) c' (upd B n q')) := by
            have hW := H7.out.ww.regrow (cap' := c') o8 hS hg2 (hS.lt (by omega)) (hg2.elim (fun e => by rw [e]; exact H7.out.ww.gnew) (fun e => Or.inr (Nat.le_trans H7.out.ww.only.size e)))
            refine ⟨hW, RowB.only (w := w8) (D := [x]) hown2 ((Only.refl [x] w8).setCell (p := ⟨x, 7, none⟩) (Or.inl (by simp)) _) ?_⟩
            intro g2 o2 s2 e
            rw [ha'] at e; injection e with e; injection e with e1 e2 e3
            simp only [List.mem_singleton]
            rw [← e1]; exact fun e => hW.xg e.symm
          have hxg : x ∉ [g] := by simp only [List.mem_singleton]; exact H7.out.ww.xg
          have hkg : kb ∉ [g] := by simp only [List.mem_singleton]; exact H7.out.kg
          have HK8 : Hid (WorldAt w8 x c a n cap t (la + 1) st ∧ BodyAt w8 kb q' ∧ kb ≠ x) := ⟨H7.out.ww.wa.only o8 hxg, H7.out.at'.onlyD o8 hkg, H7.out.kx⟩
          clear hown hown2 hgrow hnil hloc hS hgb hsl o8 ha' hg2 hxg hkg H7 hnews hi0 hz0 hz1 hz2
          refine wpAnyF_ready (rs := [7]) (by kernel_rfl) (by simp) ?_
          refine AllReadyF.cons rfl (fun K hK => ?_) AllReadyF.nil
          first | (with_reducible refine iteYes ?hcx ?htx; case hcx => kernel_rfl) | rw [if_pos (by rfl)]
          refine step_append (s := .tmp 47) (x := .tmp 49) (t := 22) rfl (by kernel_rfl) (by kernel_rfl) hr8 ?_
          refine hK.out _ _ ?_ (fun hHeld3 => ?_)
          · (try dsimp only); exact ⟨HK8.out.1.off 7, HK8.out.2.1.all⟩
          clear hK K hHeld2 hr8
          try simp only [Act.put, zqd, zqe, zqf, zqa, zqb, zqc]
          have c7 := HK8.out.1.off 7
          have f7 := HK8.out.1.free 7
          simp only [zqg, zqh, zqi] at c7
          refine wpAnyF_ready (rs := [8]) (by kernel_rfl) (by simp) ?_
          refine AllReadyF.fin rfl (by decide) (fun K hK => ?_) AllReadyF.nil
          first | (with_reducible refine iteYes ?hcx ?htx; case hcx => kernel_rfl) | rw [if_pos (by rfl)]
          simp only [zqa, zqb, zqc]
          go_simp
          skip
          refine hK.out _ _ ?_
          clear hK K
          try simp only [Act.put, zqd, zqe, zqf, zqa, zqb, zqc]
          refine wpAnyF_ready (rs := [9]) (by kernel_rfl) (by simp) ?_
          refine AllReadyF.fin rfl (by decide) (fun K hK => ?_) AllReadyF.nil
          first | (with_reducible refine iteYes ?hcx ?htx; case hcx => kernel_rfl) | rw [if_pos (by rfl)]
          simp only [zqa, zqb, zqc]
          go_simp
          skip
          refine hK.out _ _ ?_
          clear hK K
          try simp only [Act.put, zqd, zqe, zqf, zqa, zqb, zqc]
          refine wpAnyF_ready (rs := [10]) (by kernel_rfl) (by simp) ?_
          refine AllReadyF.fin rfl (by decide) (fun K hK => ?_) AllReadyF.nil
          first | (with_reducible refine iteYes ?hcx ?htx; case hcx => kernel_rfl) | rw [if_pos (by rfl)]
          simp only [zqa, zqb, zqc]
          go_simp
          skip
          refine hK.out _ _ ?_
          clear hK K
          try simp only [Act.put, zqd, zqe, zqf, zqa, zqb, zqc]
          refine wpAnyF_done (by kernel_rfl) ?_ _
          clear c7 f7 hHeld3
          have e0 : (w8.setCell ⟨x, 7, none⟩ (.slice a' (n + 1) c')).cell? ⟨kb, 0, none⟩ = some (.int .i64 (q'.id)) := (World.cell?_setCell_far _ _ _ _ (fun e => HK8.out.2.2 e.symm)).trans (HK8.out.2.1.off 0)
          have HQ : Hid (q' = numB q (la + 1)) := HQI.out.2
          have hqi := HQI.out.1
          rw [hqi] at e0
          clear hqi
          generalize World.setCell w8 _ _ = w9 at H8 e0 ⊢
          go_wp2_with fail
          refine bodyPost_ret (v := .tuple #[.int .i64 (la + 1), .nilIface]) (by simp [results, Tryz.results16, go_sem]) rfl ⟨fun _ => ⟨rfl, g', a', c', D', ?_⟩, fun e => absurd HE0.out e⟩
          rw [← HQ.out]; exact H8.out
        · have HE0 : Hid (spawnC c B n M la q = putC M (la + 1) (boxB q')) := HE.out
          have HV : errV (putC M (la + 1) (boxB q')) = .iface 75 (.int .i64 (putC M (la + 1) (boxB q'))) := by unfold errV; rw [if_neg hp]
          have HV2 : Hid (errV (putC M (la + 1) (boxB q')) = .iface 75 (.int .i64 (putC M (la + 1) (boxB q')))) := HV
          have HPM : Hid (putM M (la + 1) (boxB q') = M ∧ putC M (la + 1) (boxB q') ≠ 0) := ⟨by unfold putM; rw [if_neg hp], hp⟩
          rw [HV]
          clear HV hp HE
          generalize hz : putC M (la + 1) (boxB q') = z at HE0 HV2 HPM ⊢
          clear hz
          go_wp2_with fail
          exact bodyPost_ret (v := .tuple #[.int .i64 0, errV z]) (by simp [results, Tryz.results16, go_sem, HV2.out]) rfl (SpawnPost.bad HE0.out HPM.out.2 (by have := H5.out.ww; rw [HPM.out.1] at this; exact this) H5.out.row)
  · have HE : Hid (spawnC c B n M la q = rightW q) := by show spawnC c B n M la q = rightW q; unfold spawnC; rw [if_neg hr]
    have HV : errV (rightW q) = .iface 75 (.int .i64 (rightW q)) := by unfold errV; rw [if_neg hr]
    have HV2 : Hid (errV (rightW q) = .iface 75 (.int .i64 (rightW q)) ∧ rightW q ≠ 0) := ⟨HV, hr⟩
    rw [HV]
    clear HV hr
    generalize hz : rightW q = z at HE HV2 ⊢
    clear hz
    go_wp2_with fail
    exact bodyPost_ret (v := .tuple #[.int .i64 0, errV z]) (by simp [results, Tryz.results16, go_sem, HV2.out.1]) rfl (SpawnPost.bad HE.out HV2.out.2 H2.out.ww H2.out.row)
end Go.Proofs.YtbfkloclmlnahabGreat
