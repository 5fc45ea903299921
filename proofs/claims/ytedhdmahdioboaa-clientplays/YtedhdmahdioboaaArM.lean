/- gyrelaw.seen: a view as the document's: whichever view. -/
import Derived.Test.YtedhdmahdioboaaApM
import Derived.Test.YtedhdmahdioboaaAp7
import Derived.Test.YtedhdmahdioboaaRdt
import Derived.Test.YtedhdmahdioboaaSnh
import Derived.Laws.EntriesVeiled
import Derived.Deep.CutBlock
namespace Go.Proofs.Ytedhdmahdioboaa
open Go.ChangeShapes Go.WideShapes Go.ChangeAt Go.RowKit
set_option linter.unusedVariables false
set_option linter.unusedSimpArgs false
theorem seen_oneR (w : World) (s : Sn) : SeenAt (w.alloc (.cells #[.int .i64 (s.id), .int .i64 (s.kd), .int .i64 (s.sx), .int .i64 (s.sy), .int .i64 (s.sz), .int .i64 (s.ax), .int .i64 (s.ay), .int .i64 (s.az), .int .i64 (s.vx), .int .i64 (s.vy), .int .i64 (s.vz)] 116)) (some ⟨w.heap.size, 0, none⟩) [s].length (fun j => [s].getD j zs) := by
  intro j hj
  obtain rfl : j = 0 := by simp at hj; omega
  refine ⟨_, _, rfl, fun k hk => ?_⟩
  have h := (SnAt.new 116 w s).off k
  simp only [Nat.zero_mul, Nat.zero_add, Nat.add_zero] at h ⊢
  rw [h]
  match k, hk with
  | 0, _ => rfl
  | 1, _ => rfl
  | 2, _ => rfl
  | 3, _ => rfl
  | 4, _ => rfl
  | 5, _ => rfl
  | 6, _ => rfl
  | 7, _ => rfl
  | 8, _ => rfl
  | 9, _ => rfl
  | 10, _ => rfl
  | k + 11, h => exact absurd h (by omega)
def SeenGPost (V : List Sn) (w : World) (e : Ending) (w' : World) : Prop := ∃ v', e = .returned v' ∧ w'.ownsRow w.heap.size 116 11 v' V.length (rowS V) ∧ Only [] w w'
set_option maxRecDepth 100000 in
set_option maxHeartbeats 2000000 in
theorem seenG_calls (V : List Sn) (v : Value) (w : World) (h : SvAt w v V) (hl : V.length ≤ 1000) :
    Calls Try.prog 17 #[v] w (SeenGPost V w) := by
  obtain ⟨a, c, rfl, hc, hv⟩ := h
  have HB : Hid (SeenAt w a V.length (fun j => V.getD j zs) ∧ V.length ≤ 1000) := ⟨hv, hl⟩
  clear hv hl hc
  go_enter Try.func17, Try.ntmps17
  go_wp2_with fail
  go_loopg [3, 4] V.length (fun k s3 s4 wr => ∃ (tv : Value) (i : Nat), tv = s3 ∧ s4 = .int .i64 (i : Int) ∧ Hid (i ≤ V.length ∧ k = V.length - i) ∧ Hid (wr.ownsRow w.heap.size 116 11 tv (V.take i).length (rowS (V.take i)) ∧ Only [] w wr))
  case atStart => exact ⟨_, 0, rfl, rfl, ⟨by omega, rfl⟩, ⟨World.ownsRow_nil w _ _ _, Only.refl _ _⟩⟩
  case round =>
    obtain ⟨tv, i, rfl, rfl, HI, HE⟩ := hrel
    have hn := HB.out.2
    by_cases hi : i < V.length
    · have hil : (i : Int) < (V.length : Int) := by omega
      obtain ⟨g, o, rfl, hcell⟩ := (HB.out.1.only HE.out.2) i hi
      obtain ⟨s, hs⟩ : ∃ s, V.getD i zs = s := ⟨_, rfl⟩
      have HS : Hid (V.take (i + 1) = V.take i ++ [s]) := by
        show _ = _
        rw [List.take_succ_eq_append_getElem hi, ← hs, List.getD_eq_getElem?_getD, List.getElem?_eq_getElem hi]; rfl
      have z0 := hcell 0 (by omega)
      have z1 := hcell 1 (by omega)
      have z2 := hcell 2 (by omega)
      have z3 := hcell 3 (by omega)
      have z4 := hcell 4 (by omega)
      have z5 := hcell 5 (by omega)
      have z6 := hcell 6 (by omega)
      have z7 := hcell 7 (by omega)
      have z8 := hcell 8 (by omega)
      have z9 := hcell 9 (by omega)
      have z10 := hcell 10 (by omega)
      clear hcell
      simp only [hs] at z0 z1 z2 z3 z4 z5 z6 z7 z8 z9 z10
      simp only [sc, Nat.add_zero] at z0 z1 z2 z3 z4 z5 z6 z7 z8 z9 z10
      clear hs
      go_upto_region 6 with fail
      have H5 : Hid ((wr.alloc (.cells #[.int .i64 (s.id), .int .i64 (s.kd), .int .i64 (s.sx), .int .i64 (s.sy), .int .i64 (s.sz), .int .i64 (s.ax), .int .i64 (s.ay), .int .i64 (s.az), .int .i64 (s.vx), .int .i64 (s.vy), .int .i64 (s.vz)] 120)).ownsRow w.heap.size 116 11 tv (V.take i).length (rowS (V.take i)) ∧ Only [] w (wr.alloc (.cells #[.int .i64 (s.id), .int .i64 (s.kd), .int .i64 (s.sx), .int .i64 (s.sy), .int .i64 (s.sz), .int .i64 (s.ax), .int .i64 (s.ay), .int .i64 (s.az), .int .i64 (s.vx), .int .i64 (s.vy), .int .i64 (s.vz)] 120)) ∧ SnAt 120 (wr.alloc (.cells #[.int .i64 (s.id), .int .i64 (s.kd), .int .i64 (s.sx), .int .i64 (s.sy), .int .i64 (s.sz), .int .i64 (s.ax), .int .i64 (s.ay), .int .i64 (s.az), .int .i64 (s.vx), .int .i64 (s.vy), .int .i64 (s.vz)] 120)) wr.heap.size s) := ⟨ownS_keep HE.out.1 ((Only.refl [] wr).alloc _) (by simp), HE.out.2.alloc _, SnAt.new _ wr s⟩
      clear z0 z1 z2 z3 z4 z5 z6 z7 z8 z9 z10
      revert H5
      generalize wr.heap.size = k5
      generalize World.alloc wr _ = w5
      intro H5
      have z0 := H5.out.2.2.off 0
      have z1 := H5.out.2.2.off 1
      have z2 := H5.out.2.2.off 2
      have z3 := H5.out.2.2.off 3
      have z4 := H5.out.2.2.off 4
      have z5 := H5.out.2.2.off 5
      have z6 := H5.out.2.2.off 6
      have z7 := H5.out.2.2.off 7
      have z8 := H5.out.2.2.off 8
      have z9 := H5.out.2.2.off 9
      have z10 := H5.out.2.2.off 10
      simp only [List.getElem?_toArray, List.getElem?_cons_succ, List.getElem?_cons_zero] at z0 z1 z2 z3 z4 z5 z6 z7 z8 z9 z10
      have hown5 := ownS_keep H5.out.1 ((Only.refl [] w5).alloc (.cells #[.int .i64 (s.id), .int .i64 (s.kd), .int .i64 (s.sx), .int .i64 (s.sy), .int .i64 (s.sz), .int .i64 (s.ax), .int .i64 (s.ay), .int .i64 (s.az), .int .i64 (s.vx), .int .i64 (s.vy), .int .i64 (s.vz)] 116)) (by simp)
      have hone := seen_oneR w5 s
      have hb5 : w.heap.size ≤ (w5.alloc (.cells #[.int .i64 (s.id), .int .i64 (s.kd), .int .i64 (s.sx), .int .i64 (s.sy), .int .i64 (s.sz), .int .i64 (s.ax), .int .i64 (s.ay), .int .i64 (s.az), .int .i64 (s.vx), .int .i64 (s.vy), .int .i64 (s.vz)] 116)).heap.size := by have := H5.out.2.1.size; simp; omega
      have hl5 : (V.take i).length + [s].length ≤ 1000000 := by rw [List.length_take]; simp; omega
      have HAL : Hid (Only [] w (w5.alloc (.cells #[.int .i64 (s.id), .int .i64 (s.kd), .int .i64 (s.sx), .int .i64 (s.sy), .int .i64 (s.sz), .int .i64 (s.ax), .int .i64 (s.ay), .int .i64 (s.az), .int .i64 (s.vx), .int .i64 (s.vy), .int .i64 (s.vz)] 116))) := H5.out.2.1.alloc _
      go_wp2_with (first | (at_builtin; refine wpList_appendS refT rfl _ _ rfl w.heap.size tv (V.take i) rfl hown5 (some ⟨w5.heap.size, 0, none⟩) 1 1 [s] rfl rfl hone (fun e => by cases e) (by simp) hl5 hb5 ?_; intro v9 w9 hown hgrow hloc; have H9 : Hid (w9.ownsRow w.heap.size 116 11 v9 (V.take (i + 1)).length (rowS (V.take (i + 1))) ∧ Only [] w w9) := ⟨by rw [HS.out]; exact hown, HAL.out.grown hgrow (fun k hk => Or.inr (ownS_ge hown5 k hk))⟩; clear hown hgrow hloc hown5 hone hb5 hl5 HAL z0 z1 z2 z3 z4 z5 z6 z7 z8 z9 z10))
      go_roundg (V.length - (i + 1))
      case measure => have := HI.out.2; omega
      case rel => exact ⟨_, i + 1, rfl, by go_num, ⟨by omega, rfl⟩, H9⟩
    · have hil : ¬ (i : Int) < (V.length : Int) := by omega
      have HFN : Hid (wr.ownsRow w.heap.size 116 11 tv V.length (rowS V)) := by have h1 := HE.out.1; rwa [List.take_of_length_le (by omega)] at h1
      go_wp2_with fail
      exact bodyPost_ret (v := tv) (by simp [results, Try.results17, go_sem]) rfl ⟨tv, rfl, HFN.out, HE.out.2⟩
    end Go.Proofs.Ytedhdmahdioboaa
/- The document's reader on the way that a Delta wrote: plain facts. -/
namespace Go.Proofs.Ytedhdmahdioboaa
open Go.ChangeShapes Go.WideShapes Go.ChangeAt Go.RowKit
set_option linter.unusedVariables false
set_option linter.unusedSimpArgs false

/-- The way of the document's reader: what is behind it, what is ahead. -/
def WayR (F : List Sn) (L : List Nat) (N : List Sn) (bad : Bool) (la : Int) (p : Nat) : Prop :=
  ∀ T, rightL T = true → bytesOf (deltaT F T) = L → bad = false ∧ ∃ (R F1 T1 : List Sn) (f : Nat) (m : Int) (pre pad : List Nat), N = R ++ F1 ∧ T = R ++ T1 ∧ (∀ s ∈ R, s.id ≤ m) ∧ F1.length ≤ 60 ∧ F1.length + T1.length ≤ f ∧ Ris m F1 ∧ Ris m T1 ∧ 0 ≤ la ∧ la ≤ m ∧ bitsOf L = pre ++ (deltaM f F1 T1 la ++ putB 3 2) ++ pad ∧ p = pre.length
theorem WayR.start {F : List Sn} (hF : rightL F = true) (L : List Nat) : WayR F L F false 0 0 := by
  intro T hT hL
  obtain ⟨pad, hb⟩ := bytes_bits (delta_bits F T)
  refine ⟨rfl, [], F, T, F.length + T.length, 0, [], pad, rfl, rfl, by simp, (rightL_ris hF).2, Nat.le_refl _, (rightL_ris hF).1, (rightL_ris hT).1, Int.le_refl _, Int.le_refl _, ?_, rfl⟩
  rw [← hL, hb]
  rfl
theorem WayR.bad {F : List Sn} {L : List Nat} {N : List Sn} {la : Int} {p : Nat} (h : WayR F L N true la p) : ∀ T, rightL T = true → bytesOf (deltaT F T) = L → False := fun T hT hL => by have := (h T hT hL).1; cases this
theorem WayR.done {F : List Sn} {L : List Nat} {N : List Sn} {bad : Bool} {la : Int} {p : Nat} (h : WayR F L N bad la p) {g : Nat × Int × Nat} (hg : g = getM L p 2) (hs : g.2.1 = 3 ∨ (bad || decide (g.1 ≠ 0)) = true) :
    ∀ T, rightL T = true → bytesOf (deltaT F T) = L → (bad || decide (g.1 ≠ 0)) = false ∧ N = T := by
  intro T hT hL
  obtain ⟨hb, R, F1, T1, f, m, pre, pad, eN, eT, _, _, hf, rF, rT, h0, hm, bits, hp⟩ := h T hT hL
  rcases delta_next f F1 T1 la m hf rF rT h0 hm with ⟨e, ed⟩ | ⟨P, F2, T2, id, hx⟩
  · rw [ed, List.nil_append] at bits
    have e1 : getM L p 2 = (0, 3, (pre ++ putB 3 2).length) := gM_at (L := L) (a := pre) (k := 3) (wd := 2) (c := pad) bits hp (by omega) (by omega)
    rw [hg, e1, hb, eN, eT, e]
    exact ⟨rfl, rfl⟩
  · exfalso
    obtain ⟨f', _, eb⟩ := hx.bits
    have hl := hx.lt
    have hle := hx.le
    have hk : ∃ k : Nat, k < 3 ∧ ∃ more, chgB la (takeS id F2) (takeS id T2) = wordB k la id ++ more := by
      unfold chgB
      rw [hx.ne]
      simp only [Bool.false_eq_true, if_false]
      split
      · rename_i e
        have e2 : (takeS id F2).id = id := by rcases hx.some_ with q | q; exact q; omega
        exact ⟨0, by omega, [], by rw [e2, List.append_nil]⟩
      · rename_i e
        have e2 : (takeS id T2).id = id := by rcases takeS_id (id := id) (F := T2) with q | q; exact q; contradiction
        split
        · exact ⟨1, by omega, _, by rw [e2]⟩
        · exact ⟨2, by omega, _, by rw [e2, List.append_assoc]⟩
    obtain ⟨k, hk3, more, ek⟩ := hk
    rw [eb, ek] at bits
    obtain ⟨w1, _⟩ := word_at (L := L) (pre := pre) (rest := more ++ deltaM f' (takeL id F2) (takeL id T2) id ++ putB 3 2 ++ pad) (k := k) (la := la) (id := id) (p := p) (by rw [bits]; simp only [List.append_assoc]) hp (by omega) h0 (by omega) hle
    rw [hg, w1, hb] at hs
    rcases hs with q | q
    · simp only at q; omega
    · simp at q
/-- Where a reader stands ahead of one that is told. -/
structure KeyR (F : List Sn) (L : List Nat) (N : List Sn) (la : Int) (g : Nat × Int × Nat) (n : Nat × Nat × Nat) (T R P F2 T2 : List Sn) (f' : Nat) (pre pad more : List Nat) (id : Int) (k : Nat) : Prop where
  eT : T = R ++ P ++ T2
  eN : N = R ++ P ++ F2
  low : ∀ s ∈ R ++ P, s.id < id
  ge : ∀ s L, F2 = s :: L → id ≤ s.id
  h0 : 0 ≤ la
  h1 : la < id
  hle : id ≤ 1099511627776
  lF : (P ++ F2).length ≤ 60
  hf : (takeL id F2).length + (takeL id T2).length ≤ f'
  rf : Ris id (takeL id F2)
  rt : Ris id (takeL id T2)
  gF : Ok1 la (takeS id F2)
  gT : Ok1 la (takeS id T2)
  hT : T2 = (if (takeS id T2).id = 0 then [] else [takeS id T2]) ++ takeL id T2
  bits : bitsOf L = pre ++ wordB k la id ++ more ++ (deltaM f' (takeL id F2) (takeL id T2) id ++ putB 3 2) ++ pad
  eg : g = (0, (k : Int), (pre ++ putB k 2).length)
  en : n = (0, (id - la - 1).toNat, (pre ++ wordB k la id).length)
  what : (k = 0 ∧ (takeS id F2).id = id ∧ (takeS id T2).id = 0 ∧ more = []) ∨
    (k = 1 ∧ takeS id F2 = zs ∧ (takeS id T2).id = id ∧ more = partsB true true true zs (takeS id T2)) ∨
    (k = 2 ∧ (takeS id F2).id = id ∧ (takeS id T2).id = id ∧ more = putB (pN (d4 (takeS id F2) (takeS id T2)) (d2 (takeS id F2) (takeS id T2)) (d1 (takeS id F2) (takeS id T2))).toNat 3 ++ partsB (d4 (takeS id F2) (takeS id T2)) (d2 (takeS id F2) (takeS id T2)) (d1 (takeS id F2) (takeS id T2)) (takeS id F2) (takeS id T2))
theorem WayR.key {F : List Sn} {L : List Nat} {N : List Sn} {bad : Bool} {la : Int} {p : Nat} (h : WayR F L N bad la p) {g : Nat × Int × Nat} (hg : g = getM L p 2) (h3 : g.2.1 ≠ 3) {n : Nat × Nat × Nat} (hn : n = numM 4611686018427387903 L g.2.2) (T : List Sn) (hT : rightL T = true) (hL : bytesOf (deltaT F T) = L) :
    bad = false ∧ ∃ (R P F2 T2 : List Sn) (f' : Nat) (pre pad more : List Nat) (id : Int) (k : Nat), KeyR F L N la g n T R P F2 T2 f' pre pad more id k := by
  obtain ⟨hb, R, F1, T1, f, m, pre, pad, eN, eT, hlow, hlf, hf, rF, rT, h0, hm, bits, hp⟩ := h T hT hL
  rcases delta_next f F1 T1 la m hf rF rT h0 hm with ⟨e, ed⟩ | ⟨P, F2, T2, id, hx⟩
  · exfalso
    rw [ed, List.nil_append] at bits
    have e1 : getM L p 2 = (0, 3, (pre ++ putB 3 2).length) := gM_at (L := L) (a := pre) (k := 3) (wd := 2) (c := pad) bits hp (by omega) (by omega)
    rw [hg, e1] at h3
    exact h3 rfl
  · refine ⟨hb, ?_⟩
    obtain ⟨f', hf', eb⟩ := hx.bits
    have hl := hx.lt
    have hle := hx.le
    have h1 : la < id := by omega
    have hk : ∃ (k : Nat) (more : List Nat), k < 3 ∧ chgB la (takeS id F2) (takeS id T2) = wordB k la id ++ more ∧ ((k = 0 ∧ (takeS id F2).id = id ∧ (takeS id T2).id = 0 ∧ more = []) ∨
        (k = 1 ∧ takeS id F2 = zs ∧ (takeS id T2).id = id ∧ more = partsB true true true zs (takeS id T2)) ∨
        (k = 2 ∧ (takeS id F2).id = id ∧ (takeS id T2).id = id ∧ more = putB (pN (d4 (takeS id F2) (takeS id T2)) (d2 (takeS id F2) (takeS id T2)) (d1 (takeS id F2) (takeS id T2))).toNat 3 ++ partsB (d4 (takeS id F2) (takeS id T2)) (d2 (takeS id F2) (takeS id T2)) (d1 (takeS id F2) (takeS id T2)) (takeS id F2) (takeS id T2))) := by
      unfold chgB
      rw [hx.ne]
      simp only [Bool.false_eq_true, if_false]
      split
      · rename_i e
        have e2 : (takeS id F2).id = id := by rcases hx.some_ with q | q; exact q; omega
        exact ⟨0, [], by omega, by rw [e2, List.append_nil], Or.inl ⟨rfl, e2, e, rfl⟩⟩
      · rename_i e
        have e2 : (takeS id T2).id = id := by rcases takeS_id (id := id) (F := T2) with q | q; exact q; contradiction
        split
        · rename_i e3
          have e4 : takeS id F2 = zs := hx.gF.none_ e3
          exact ⟨1, _, by omega, by rw [e2, e4], Or.inr (Or.inl ⟨rfl, e4, e2, rfl⟩)⟩
        · rename_i e3
          have e4 : (takeS id F2).id = id := by rcases takeS_id (id := id) (F := F2) with q | q; exact q; contradiction
          exact ⟨2, _, by omega, by rw [e2, List.append_assoc], Or.inr (Or.inr ⟨rfl, e4, e2, rfl⟩)⟩
    obtain ⟨k, more, hk3, ek, hw⟩ := hk
    rw [eb, ek] at bits
    obtain ⟨w1, w2⟩ := word_at (L := L) (pre := pre) (rest := more ++ deltaM f' (takeL id F2) (takeL id T2) id ++ putB 3 2 ++ pad) (k := k) (la := la) (id := id) (p := p) (by rw [bits]; simp only [List.append_assoc]) hp (by omega) h0 h1 hle
    rw [w1] at hg
    rw [hg] at hn
    simp only at hn
    rw [w2] at hn
    refine ⟨R, P, F2, T2, f', pre, pad, more, id, k, by rw [eT, hx.eT, List.append_assoc], by rw [eN, hx.eF, List.append_assoc], fun s hs => ?_, hx.ge, h0, h1, hle, by rw [← hx.eF]; exact hlf, hf', hx.rf, hx.rt, hx.gF, hx.gT, hx.hT, by rw [bits]; simp only [List.append_assoc], hg, hn, hw⟩
    rcases List.mem_append.1 hs with q | q
    · have := hlow s q; omega
    · exact hx.low s q
/-- Where a scan from the front ends. -/
def AtR (N : List Sn) (id : Int) (at_ : Nat) : Prop := at_ ≤ N.length ∧ (∀ j, j < at_ → (N.getD j zs).id < id) ∧ (at_ = N.length ∨ ¬ (N.getD at_ zs).id < id)
def thereR (N : List Sn) (id : Int) (at_ : Nat) : Bool := decide (at_ < N.length) && ((N.getD at_ zs).id == id)
theorem at_is {A F2 : List Sn} {id : Int} {at_ : Nat} (h : AtR (A ++ F2) id at_) (low : ∀ s ∈ A, s.id < id) (ge : ∀ s L, F2 = s :: L → id ≤ s.id) : at_ = A.length := by
  obtain ⟨h1, h2, h3⟩ := h
  rcases Nat.lt_trichotomy at_ A.length with q | q | q
  · exfalso
    rcases h3 with e | e
    · rw [List.length_append] at e; omega
    · have hm : (A ++ F2).getD at_ zs ∈ A := by
        rw [List.getD_eq_getElem?_getD, List.getElem?_append_left q, List.getElem?_eq_getElem q]
        exact List.getElem_mem q
      exact e (low _ hm)
  · exact q
  · exfalso
    cases F2 with
    | nil => simp only [List.append_nil] at h1; omega
    | cons s F2 =>
      have h4 := h2 A.length q
      have h6 : (A ++ s :: F2).getD A.length zs = s := by rw [List.getD_eq_getElem?_getD, List.getElem?_append_right (Nat.le_refl _), Nat.sub_self]; rfl
      rw [h6] at h4
      have := ge s F2 rfl
      omega
theorem there_is {A F2 : List Sn} {id : Int} (h0 : id ≠ 0) : thereR (A ++ F2) id A.length = decide ((takeS id F2).id = id) := by
  unfold thereR
  cases F2 with
  | nil =>
    have e : (takeS id []).id = 0 := rfl
    rw [e]
    simp [h0.symm]
  | cons s F2 =>
    have h6 : (A ++ s :: F2).getD A.length zs = s := by rw [List.getD_eq_getElem?_getD, List.getElem?_append_right (Nat.le_refl _), Nat.sub_self]; rfl
    rw [h6]
    by_cases e : s.id = id
    · simp [takeS, e]
    · have e2 : (takeS id (s :: F2)).id = 0 := by simp [takeS, e, zs]
      rw [e2]
      simp [e, h0.symm]
theorem idR_at {la id : Int} (h0 : 0 ≤ la) (h1 : la < id) (h2 : id ≤ 1099511627776) : wrap64 (la + wrap64 ((((id - la - 1).toNat : Nat) : Int) + 1)) = id := by
  have e1 : wrap64 ((((id - la - 1).toNat : Nat) : Int) + 1) = id - la := by unfold wrap64; omega
  rw [e1]
  unfold wrap64; omega
/-- No more may be wrong. -/
theorem WayR.fine {F : List Sn} {L : List Nat} {N : List Sn} {bad : Bool} {la : Int} {p : Nat} (h : WayR F L N bad la p) {g : Nat × Int × Nat} (hg : g = getM L p 2) (h3 : g.2.1 ≠ 3) {n : Nat × Nat × Nat} (hn : n = numM 4611686018427387903 L g.2.2) (hN : (bad || decide (g.1 ≠ 0) || decide (n.1 ≠ 0)) = true ∨ 1099511627776 < (n.2.1 : Int) ∨ 120 < N.length) :
    ∀ T, rightL T = true → bytesOf (deltaT F T) = L → False := by
  intro T hT hL
  obtain ⟨hb, R, P, F2, T2, f', pre, pad, more, id, k, K⟩ := h.key hg h3 hn T hT hL
  have e1 := K.eg
  have e2 := K.en
  have q1 := K.h0; have q2 := K.h1; have q3 := K.hle
  rw [hb, e1, e2] at hN
  simp only [ne_eq, not_true_eq_false, decide_false, Bool.or_self] at hN
  rcases hN with q | q | q
  · cases q
  · omega
  · have l1 := K.lF
    have l2 := (rightL_ris hT).2
    have l3 := congrArg List.length K.eN
    have l4 := congrArg List.length K.eT
    simp only [List.length_append] at l1 l3 l4
    omega
/-- None of what may be. -/
theorem WayR.none_ {F : List Sn} {L : List Nat} {N : List Sn} {bad : Bool} {la : Int} {p : Nat} (h : WayR F L N bad la p) {g : Nat × Int × Nat} (hg : g = getM L p 2) (h3 : g.2.1 ≠ 3) {n : Nat × Nat × Nat} (hn : n = numM 4611686018427387903 L g.2.2) {idv : Int} (hi : idv = wrap64 (la + wrap64 (((n.2.1 : Nat) : Int) + 1))) {at_ : Nat} (hat : AtR N idv at_)
    (hw : ¬ (g.2.1 = 1 ∧ thereR N idv at_ = false) ∧ ¬ (g.2.1 = 0 ∧ thereR N idv at_ = true) ∧ ¬ (g.2.1 = 2 ∧ thereR N idv at_ = true)) : ∀ T, rightL T = true → bytesOf (deltaT F T) = L → False := by
  intro T hT hL
  obtain ⟨hb, R, P, F2, T2, f', pre, pad, more, id, k, K⟩ := h.key hg h3 hn T hT hL
  have q1 := K.h0; have q2 := K.h1; have q3 := K.hle
  rw [K.en] at hi
  rw [idR_at q1 q2 q3] at hi
  subst hi
  rw [K.eN] at hat
  have ha := at_is hat K.low K.ge
  have ht : thereR N idv at_ = decide ((takeS idv F2).id = idv) := by rw [ha, K.eN]; exact there_is (by omega)
  rw [ht, K.eg] at hw
  simp only at hw
  rcases K.what with ⟨rfl, e1, _⟩ | ⟨rfl, e1, _⟩ | ⟨rfl, e1, _⟩
  · exact hw.2.1 ⟨rfl, by simp [e1]⟩
  · have e2 : (takeS idv F2).id = 0 := by rw [e1]; rfl
    exact hw.1 ⟨rfl, by rw [e2]; simp; omega⟩
  · exact hw.2.2 ⟨rfl, by simp [e1]⟩
theorem low_next {R P : List Sn} {id : Int} (h : ∀ s ∈ R ++ P, s.id < id) : ∀ s ∈ R ++ P, s.id ≤ id := fun s hs => Int.le_of_lt (h s hs)
theorem take_len {id : Int} {P F2 : List Sn} (h : (P ++ F2).length ≤ 60) : (takeL id F2).length ≤ 60 := by
  have := takeL_le id F2
  rw [List.length_append] at h
  omega
/-- One goes. -/
theorem WayR.goes {F : List Sn} {L : List Nat} {N : List Sn} {bad : Bool} {la : Int} {p : Nat} (h : WayR F L N bad la p) {g : Nat × Int × Nat} (hg : g = getM L p 2) {n : Nat × Nat × Nat} (hn : n = numM 4611686018427387903 L g.2.2) {idv : Int} (hi : idv = wrap64 (la + wrap64 (((n.2.1 : Nat) : Int) + 1))) {at_ : Nat} (hat : AtR N idv at_) (hw : g.2.1 = 0) :
    WayR F L (N.take at_ ++ N.drop (at_ + 1)) (bad || decide (g.1 ≠ 0) || decide (n.1 ≠ 0)) idv n.2.2 := by
  intro T hT hL
  obtain ⟨hb, R, P, F2, T2, f', pre, pad, more, id, k, K⟩ := h.key hg (by rw [hw]; decide) hn T hT hL
  have q1 := K.h0; have q2 := K.h1; have q3 := K.hle
  rw [K.en] at hi
  rw [idR_at q1 q2 q3] at hi
  subst hi
  rw [K.eN] at hat
  have ha := at_is hat K.low K.ge
  rw [K.eg] at hw
  simp only at hw
  rcases K.what with ⟨rfl, e1, e2, e3⟩ | ⟨rfl, _⟩ | ⟨rfl, _⟩
  · have c1 := takeS_cons (by omega) rfl e1
    have e4 : N.take at_ ++ N.drop (at_ + 1) = R ++ P ++ takeL idv F2 := by
      rw [ha, K.eN]
      conv => lhs; rw [c1]
      rw [List.take_left, ← List.drop_drop, List.drop_left]
      rfl
    have h6 := K.hT
    rw [if_pos e2, List.nil_append] at h6
    have hbb := K.bits
    rw [e3, List.append_nil] at hbb
    rw [e4, hb, K.eg, K.en]
    refine ⟨rfl, R ++ P, takeL idv F2, takeL idv T2, f', idv, pre ++ wordB 0 la idv, pad, rfl, by rw [K.eT, ← h6], low_next K.low, take_len K.lF, K.hf, K.rf, K.rt, by omega, Int.le_refl _, hbb, rfl⟩
  · omega
  · omega
/-- One comes. -/
theorem WayR.comes {F : List Sn} {L : List Nat} {N : List Sn} {bad : Bool} {la : Int} {p : Nat} (h : WayR F L N bad la p) {g : Nat × Int × Nat} (hg : g = getM L p 2) {n : Nat × Nat × Nat} (hn : n = numM 4611686018427387903 L g.2.2) {idv : Int} (hi : idv = wrap64 (la + wrap64 (((n.2.1 : Nat) : Int) + 1))) {at_ : Nat} (hat : AtR N idv at_) (hw : g.2.1 = 1)
    {s : Sn} {bad1 : Bool} {p1 : Nat} (hs : (s, bad1, p1) = seenM L true true true idv zs (bad || decide (g.1 ≠ 0) || decide (n.1 ≠ 0)) n.2.2) : WayR F L (N.take at_ ++ [s] ++ N.drop at_) bad1 idv p1 := by
  intro T hT hL
  obtain ⟨hb, R, P, F2, T2, f', pre, pad, more, id, k, K⟩ := h.key hg (by rw [hw]; decide) hn T hT hL
  have q1 := K.h0; have q2 := K.h1; have q3 := K.hle
  rw [K.en] at hi
  rw [idR_at q1 q2 q3] at hi
  subst hi
  rw [K.eN] at hat
  have ha := at_is hat K.low K.ge
  rw [K.eg] at hw
  simp only at hw
  rcases K.what with ⟨rfl, _⟩ | ⟨rfl, e1, e2, e3⟩ | ⟨rfl, _⟩
  · omega
  · have hbb := K.bits
    rw [e3] at hbb
    rw [hb, K.eg, K.en] at hs
    simp only [Bool.or_self, ne_eq, not_true_eq_false, decide_false] at hs
    rw [seenM_at (L := L) (pre := pre ++ wordB 1 la idv) (rest := deltaM f' (takeL idv F2) (takeL idv T2) idv ++ putB 3 2 ++ pad) (v := takeS idv T2) (by rw [hbb]; simp only [List.append_assoc]) rfl good_zs K.gT.good e2.symm (fun q => by cases q) (fun q => by cases q) (fun q => by cases q)] at hs
    injection hs with s1 s2
    injection s2 with s2 s3
    have c2 : takeL idv F2 = F2 := takeL_none (by omega) (by rw [e1]; rfl)
    have e4 : N.take at_ ++ [s] ++ N.drop at_ = R ++ P ++ [s] ++ takeL idv F2 := by rw [ha, K.eN, List.take_left, List.drop_left, c2]
    have h6 := K.hT
    rw [if_neg (by omega)] at h6
    rw [e4, s1, s2, s3]
    refine ⟨rfl, R ++ P ++ [takeS idv T2], takeL idv F2, takeL idv T2, f', idv, pre ++ wordB 1 la idv ++ partsB true true true zs (takeS idv T2), pad, rfl, ?_, fun x hx => ?_, take_len K.lF, K.hf, K.rf, K.rt, by omega, Int.le_refl _, by rw [hbb], rfl⟩
    · rw [K.eT]
      conv => lhs; rw [h6]
      simp only [List.append_assoc]
    · rcases List.mem_append.1 hx with q | q
      · exact low_next K.low x q
      · rw [List.mem_singleton.1 q]; omega
  · omega
/-- The three bits, one by one. -/
theorem three_bits (a b c : Bool) : putB (pN a b c).toNat 3 = putB (if a then 1 else 0) 1 ++ putB (if b then 1 else 0) 1 ++ putB (if c then 1 else 0) 1 := by cases a <;> cases b <;> cases c <;> rfl
theorem bit_at {L pre rest : List Nat} {a : Bool} {p : Nat} (h : bitsOf L = pre ++ putB (if a then 1 else 0) 1 ++ rest) (hp : p = pre.length) : getM L p 1 = (0, (if a then 1 else 0), (pre ++ putB (if a then 1 else 0) 1).length) := by
  cases a with
  | true => exact gM_at (L := L) (k := 1) (wd := 1) h hp (by omega) (by omega)
  | false => exact gM_at (L := L) (k := 0) (wd := 1) h hp (by omega) (by omega)
/-- One changes. -/
theorem WayR.turns {F : List Sn} {L : List Nat} {N : List Sn} {bad : Bool} {la : Int} {p : Nat} (h : WayR F L N bad la p) {g : Nat × Int × Nat} (hg : g = getM L p 2) {n : Nat × Nat × Nat} (hn : n = numM 4611686018427387903 L g.2.2) {idv : Int} (hi : idv = wrap64 (la + wrap64 (((n.2.1 : Nat) : Int) + 1))) {at_ : Nat} (hat : AtR N idv at_) (hw : g.2.1 = 2)
    {x1 x2 x3 : Nat × Int × Nat} (h1 : x1 = getM L n.2.2 1) (h2 : x2 = getM L x1.2.2 1) (h3 : x3 = getM L x2.2.2 1)
    {s : Sn} {bad1 : Bool} {p1 : Nat} (hs : (s, bad1, p1) = seenM L (x1.2.1 == 1) (x2.2.1 == 1) (x3.2.1 == 1) idv (N.getD at_ zs) (bad || decide (g.1 ≠ 0) || decide (n.1 ≠ 0) || decide (x1.1 ≠ 0) || decide (x2.1 ≠ 0) || decide (x3.1 ≠ 0)) x3.2.2) : WayR F L (N.take at_ ++ [s] ++ N.drop (at_ + 1)) bad1 idv p1 := by
  intro T hT hL
  obtain ⟨hb, R, P, F2, T2, f', pre, pad, more, id, k, K⟩ := h.key hg (by rw [hw]; decide) hn T hT hL
  have q1 := K.h0; have q2 := K.h1; have q3 := K.hle
  rw [K.en] at hi
  rw [idR_at q1 q2 q3] at hi
  subst hi
  rw [K.eN] at hat
  have ha := at_is hat K.low K.ge
  rw [K.eg] at hw
  simp only at hw
  rcases K.what with ⟨rfl, _⟩ | ⟨rfl, _⟩ | ⟨rfl, e1, e2, e3⟩
  · omega
  · omega
  · have c1 := takeS_cons (by omega) rfl e1
    have hbb := K.bits
    have eu : N.getD at_ zs = takeS idv F2 := by
      rw [ha, K.eN]
      conv => lhs; rw [c1]
      rw [List.getD_eq_getElem?_getD, List.getElem?_append_right (Nat.le_refl _), Nat.sub_self]
      rfl
    rw [eu] at hs
    have gF := K.gF.good; have gT := K.gT.good
    obtain ⟨u, hU⟩ : ∃ u, takeS idv F2 = u := ⟨_, rfl⟩
    obtain ⟨v, hV⟩ : ∃ v, takeS idv T2 = v := ⟨_, rfl⟩
    have h6 := K.hT
    rw [hU] at hs gF e3
    rw [hV] at gT e2 e3 h6
    obtain ⟨a4, ha4⟩ : ∃ a, d4 u v = a := ⟨_, rfl⟩
    obtain ⟨a2, ha2⟩ : ∃ a, d2 u v = a := ⟨_, rfl⟩
    obtain ⟨a1, ha1⟩ : ∃ a, d1 u v = a := ⟨_, rfl⟩
    rw [ha4, ha2, ha1, three_bits] at e3
    rw [e3] at hbb
    have y1 : x1 = (0, (if a4 then 1 else 0), (pre ++ wordB 2 la idv ++ putB (if a4 then 1 else 0) 1).length) := by
      rw [h1, K.en]
      exact bit_at (L := L) (rest := putB (if a2 then 1 else 0) 1 ++ putB (if a1 then 1 else 0) 1 ++ partsB a4 a2 a1 u v ++ (deltaM f' (takeL idv F2) (takeL idv T2) idv ++ putB 3 2) ++ pad) (by rw [hbb]; simp only [List.append_assoc]) rfl
    have y2 : x2 = (0, (if a2 then 1 else 0), (pre ++ wordB 2 la idv ++ putB (if a4 then 1 else 0) 1 ++ putB (if a2 then 1 else 0) 1).length) := by
      rw [h2, y1]
      exact bit_at (L := L) (rest := putB (if a1 then 1 else 0) 1 ++ partsB a4 a2 a1 u v ++ (deltaM f' (takeL idv F2) (takeL idv T2) idv ++ putB 3 2) ++ pad) (by rw [hbb]; simp only [List.append_assoc]) rfl
    have y3 : x3 = (0, (if a1 then 1 else 0), (pre ++ wordB 2 la idv ++ putB (if a4 then 1 else 0) 1 ++ putB (if a2 then 1 else 0) 1 ++ putB (if a1 then 1 else 0) 1).length) := by
      rw [h3, y2]
      exact bit_at (L := L) (rest := partsB a4 a2 a1 u v ++ (deltaM f' (takeL idv F2) (takeL idv T2) idv ++ putB 3 2) ++ pad) (by rw [hbb]; simp only [List.append_assoc]) rfl
    have z : ∀ a : Bool, ((if a then (1 : Int) else 0) == 1) = a := fun a => by cases a <;> rfl
    rw [hb, K.eg, K.en, y1, y2, y3] at hs
    simp only [Bool.or_self, ne_eq, not_true_eq_false, decide_false, z] at hs
    rw [seenM_at (L := L) (pre := pre ++ wordB 2 la idv ++ putB (if a4 then 1 else 0) 1 ++ putB (if a2 then 1 else 0) 1 ++ putB (if a1 then 1 else 0) 1) (rest := deltaM f' (takeL idv F2) (takeL idv T2) idv ++ putB 3 2 ++ pad) (v := v) (by rw [hbb]; simp only [List.append_assoc]) rfl gF gT e2.symm (fun q => d4_no (by rw [ha4, q])) (fun q => neqV_no (show d2 u v = false by rw [ha2, q])) (fun q => neqV_no (show d1 u v = false by rw [ha1, q]))] at hs
    injection hs with s1 s2
    injection s2 with s2 s3
    have e4 : N.take at_ ++ [s] ++ N.drop (at_ + 1) = R ++ P ++ [s] ++ takeL idv F2 := by
      rw [ha, K.eN]
      conv => lhs; rw [c1]
      rw [List.take_left, ← List.drop_drop, List.drop_left]
      rfl
    rw [if_neg (by omega)] at h6
    rw [e4, s1, s2, s3]
    refine ⟨rfl, R ++ P ++ [v], takeL idv F2, takeL idv T2, f', idv, pre ++ wordB 2 la idv ++ putB (if a4 then 1 else 0) 1 ++ putB (if a2 then 1 else 0) 1 ++ putB (if a1 then 1 else 0) 1 ++ partsB a4 a2 a1 u v, pad, rfl, ?_, fun x hx => ?_, take_len K.lF, K.hf, K.rf, K.rt, by omega, Int.le_refl _, by rw [hbb]; simp only [List.append_assoc], rfl⟩
    · rw [K.eT]
      conv => lhs; rw [h6]
      simp only [List.append_assoc]
    · rcases List.mem_append.1 hx with q | q
      · exact low_next K.low x q
      · rw [List.mem_singleton.1 q]; omega
end Go.Proofs.Ytedhdmahdioboaa
/- The closures num and vec of gyreref.Apply: whichever bytes. -/
namespace Go.Proofs.Ytedhdmahdioboaa
open Go.ChangeShapes Go.WideShapes Go.ChangeAt Go.RowKit
set_option linter.unusedVariables false
set_option linter.unusedSimpArgs false

def numF (k7 : Nat) : Value := .func (.func 82) #[] #[.pointer (some ⟨k7, 0, none⟩)]
/-- A Tape behind a variable, a mark that something was wrong, the closure that sets it. -/
structure RZ (w : World) (kt k6 k7 k8 : Nat) (v : Value) (L : List Nat) (b : Bool) (p : Nat) (wr : World) : Prop where
  tp : TpAt wr kt v (bitsOf L) p
  b6 : wr.heap[k6]? = some (.cells #[.pointer (some ⟨kt, 0, none⟩)] 163)
  b7 : wr.heap[k7]? = some (.cells #[.bool b] 4)
  b8 : wr.heap[k8]? = some (.cells #[.func (.func 82) #[] #[.pointer (some ⟨k7, 0, none⟩)]] 167)
  d : kt ≠ k6 ∧ kt ≠ k7 ∧ kt ≠ k8 ∧ k6 ≠ k7 ∧ k6 ≠ k8 ∧ k7 ≠ k8
  dv : k6 ∉ ownL v ∧ k7 ∉ ownL v ∧ k8 ∉ ownL v
  n : w.heap.size ≤ kt ∧ w.heap.size ≤ k6 ∧ w.heap.size ≤ k7 ∧ w.heap.size ≤ k8 ∧ ∀ b ∈ ownL v, w.heap.size ≤ b
  only : Only [] w wr
section
variable {w : World} {kt k6 k7 k8 : Nat} {v : Value} {L : List Nat} {b b' : Bool} {p p' : Nat} {wr w' : World}
theorem RZ.l6 (h : RZ w kt k6 k7 k8 v L b p wr) : k6 < wr.heap.size := (Array.getElem?_eq_some_iff.1 h.b6).1
theorem RZ.l7 (h : RZ w kt k6 k7 k8 v L b p wr) : k7 < wr.heap.size := (Array.getElem?_eq_some_iff.1 h.b7).1
theorem RZ.l8 (h : RZ w kt k6 k7 k8 v L b p wr) : k8 < wr.heap.size := (Array.getElem?_eq_some_iff.1 h.b8).1
theorem RZ.c6 (h : RZ w kt k6 k7 k8 v L b p wr) : wr.cell? ⟨k6, 0, none⟩ = some (.pointer (some ⟨kt, 0, none⟩)) := by have := h.b6; simp [World.cell?, this]
theorem RZ.c7 (h : RZ w kt k6 k7 k8 v L b p wr) : wr.cell? ⟨k7, 0, none⟩ = some (.bool b) := by have := h.b7; simp [World.cell?, this]
theorem RZ.c8 (h : RZ w kt k6 k7 k8 v L b p wr) : wr.cell? ⟨k8, 0, none⟩ = some (.func (.func 82) #[] #[.pointer (some ⟨k7, 0, none⟩)]) := by have := h.b8; simp [World.cell?, this]
theorem RZ.only' (h : RZ w kt k6 k7 k8 v L b p wr) {D : List Nat} (o : Only D wr w') (s : ∀ k ∈ D, w.heap.size ≤ k ∧ k ≠ kt ∧ k ≠ k6 ∧ k ≠ k7 ∧ k ≠ k8 ∧ k ∉ ownL v) : RZ w kt k6 k7 k8 v L b p w' :=
  ⟨h.tp.only o (fun q => (s _ q).2.1 rfl) (fun x hx q => (s _ q).2.2.2.2.2 hx), (o.block k6 h.l6 (fun q => (s _ q).2.2.1 rfl)).trans h.b6, (o.block k7 h.l7 (fun q => (s _ q).2.2.2.1 rfl)).trans h.b7, (o.block k8 h.l8 (fun q => (s _ q).2.2.2.2.1 rfl)).trans h.b8, h.d, h.dv, h.n, h.only.then o (fun x hx => Or.inr (s x hx).1)⟩
theorem RZ.keep (h : RZ w kt k6 k7 k8 v L b p wr) (o : Only [] wr w') : RZ w kt k6 k7 k8 v L b p w' := h.only' o (by simp)
theorem RZ.read (h : RZ w kt k6 k7 k8 v L b p wr) (ht : TpAt w' kt v (bitsOf L) p') (o : Only [kt] wr w') : RZ w kt k6 k7 k8 v L b p' w' := by
  obtain ⟨d1, d2, d3, _⟩ := h.d
  exact ⟨ht, (o.block k6 h.l6 (by simpa using d1.symm)).trans h.b6, (o.block k7 h.l7 (by simpa using d2.symm)).trans h.b7, (o.block k8 h.l8 (by simpa using d3.symm)).trans h.b8, h.d, h.dv, h.n, h.only.then o (fun x hx => by rw [List.mem_singleton.1 hx]; exact Or.inr h.n.1)⟩
theorem RZ.mark (h : RZ w kt k6 k7 k8 v L b p wr) (hb : w'.heap[k7]? = some (.cells #[.bool b'] 4)) (o : Only [k7] wr w') : RZ w kt k6 k7 k8 v L b' p w' := by
  obtain ⟨d1, d2, d3, d4, d5, d6⟩ := h.d
  exact ⟨h.tp.only o (by simpa using d2) (fun x hx => by simp; exact fun e => h.dv.2.1 (e ▸ hx)), (o.block k6 h.l6 (by simpa using d4)).trans h.b6, hb, (o.block k8 h.l8 (by simpa using d6.symm)).trans h.b8, h.d, h.dv, h.n, h.only.then o (fun x hx => by rw [List.mem_singleton.1 hx]; exact Or.inr h.n.2.2.1)⟩
/-- A block that none of these is: made behind them. -/
theorem RZ.far (h : RZ w kt k6 k7 k8 v L b p wr) {k : Nat} (hk : wr.heap.size ≤ k) : w.heap.size ≤ k ∧ k ≠ kt ∧ k ≠ k6 ∧ k ≠ k7 ∧ k ≠ k8 ∧ k ∉ ownL v := by
  have h1 := h.tp.lt; have h2 := h.l6; have h3 := h.l7; have h4 := h.l8; have h5 := h.only.size
  exact ⟨by omega, by omega, by omega, by omega, by omega, fun q => by have := h.tp.sl.lt k q; omega⟩
end
theorem numZ_calls (n : Int) (er : Nat) (b : Bool) (kx : Nat) (w : World) (h : w.heap[kx]? = some (.cells #[.bool b] 4)) :
    Calls Try.prog 82 #[.int .i64 n, .int .i64 ((er : Int)), .pointer (some ⟨kx, 0, none⟩)] w fun e w' => e = .returned (.int .i64 n) ∧ w'.heap[kx]? = some (.cells #[.bool (b || decide (er ≠ 0))] 4) ∧ Only [kx] w w' := by
  have c0 : w.cell? ⟨kx, 0, none⟩ = some (.bool b) := by simp [World.cell?, h]
  have f0 : w.frozen? ⟨kx, 0, none⟩ = false := by simp [World.frozen?, h]
  have HP : Hid (∀ b', (w.setCell ⟨kx, 0, none⟩ (.bool b')).heap[kx]? = some (.cells #[.bool b'] 4) ∧ Only [kx] w (w.setCell ⟨kx, 0, none⟩ (.bool b'))) := fun b' => ⟨by rw [heap_put h]; rfl, (Only.refl _ _).setCell (p := ⟨kx, 0, none⟩) (Or.inl (by simp)) _⟩
  clear h
  cases b with
  | true =>
    go_enter Try.func82, Try.ntmps82
    go_wp2_with fail
    go_ret
    exact ⟨rfl, (HP.out true).1, (HP.out true).2⟩
  | false =>
    by_cases he : er = 0
    · subst he
      go_enter Try.func82, Try.ntmps82
      go_wp2_with fail
      go_ret
      exact ⟨rfl, (HP.out false).1, (HP.out false).2⟩
    · have hb : ((er : Int) == 0) = false := by simp; omega
      have HD : Hid ((false || decide (er ≠ 0)) = true) := by show _ = _; simp [he]
      have HNE : Hid (((er : Int) != 0) = true) := by show _ = _; simp; omega
      clear he
      go_enter Try.func82, Try.ntmps82
      go_wp2_with fail
      go_ret
      refine ⟨rfl, ?_, (HP.out _).2⟩
      have h9 := (HP.out ((er : Int) != 0)).1
      rw [HD.out]
      rw [HNE.out] at h9 ⊢
      exact h9
set_option maxRecDepth 100000 in
theorem ofZ_calls (b : Nat) (x y z : Int) (w : World) (H : IntsIn w b [x, y, z]) : Calls Try.prog 85 #[.slice (some ⟨b, 0, none⟩) 3 3] w fun e w' => e = .returned (.agg #[.int .i64 x, .int .i64 y, .int .i64 z]) ∧ Only [] w w' := by
  have h0 := H 0 (by simp); have h1 := H 1 (by simp); have h2 := H 2 (by simp)
  simp only [List.getElem_cons_zero, List.getElem_cons_succ] at h0 h1 h2
  have hlt := World.block_lt_of_cell? _ _ h0
  have HN : Hid (w.heap.size ≤ w.heap.size ∧ b ≠ w.heap.size) := ⟨Nat.le_refl _, by show b ≠ _; have : b < w.heap.size := hlt; omega⟩
  clear H hlt
  go_enter Try.func85, Try.ntmps85
  go_upto_region 1 with fail
  have HA : Hid ((w.alloc (.cells #[.int .i64 0, .int .i64 0, .int .i64 0] 27)).heap[w.heap.size]? = some (.cells #[.int .i64 0, .int .i64 0, .int .i64 0] 27) ∧ Only [] w (w.alloc (.cells #[.int .i64 0, .int .i64 0, .int .i64 0] 27)) ∧ IntsIn (w.alloc (.cells #[.int .i64 0, .int .i64 0, .int .i64 0] 27)) b [x, y, z]) := by
    have o : Only [] w (w.alloc (.cells #[.int .i64 0, .int .i64 0, .int .i64 0] 27)) := (Only.refl [] w).alloc _
    refine ⟨(MapKept.heap_alloc w _).1, o, fun j hj => ?_⟩
    match j, hj with
    | 0, _ => exact o.cell h0 (by simp)
    | 1, _ => exact o.cell h1 (by simp)
    | 2, _ => exact o.cell h2 (by simp)
  clear h0 h1 h2
  revert HA HN
  generalize hk : w.heap.size = kr
  have HK : Hid (w.heap.size = kr) := hk
  clear hk
  generalize World.alloc w _ = w1
  intro HN HA
  have h0 := HA.out.2.2 0 (by simp); have h1 := HA.out.2.2 1 (by simp); have h2 := HA.out.2.2 2 (by simp)
  simp only [List.getElem_cons_zero, List.getElem_cons_succ] at h0 h1 h2
  have hc := HA.out.1
  have z0 : w1.cell? ⟨kr, 0, none⟩ = some (.int .i64 0) := by simp [World.cell?, hc]
  have z1 : w1.cell? ⟨kr, 1, none⟩ = some (.int .i64 0) := by simp [World.cell?, hc]
  have z2 : w1.cell? ⟨kr, 2, none⟩ = some (.int .i64 0) := by simp [World.cell?, hc]
  have y0 : w1.frozen? ⟨kr, 0, none⟩ = false := by simp [World.frozen?, hc]
  have y1 : w1.frozen? ⟨kr, 1, none⟩ = false := by simp [World.frozen?, hc]
  have y2 : w1.frozen? ⟨kr, 2, none⟩ = false := by simp [World.frozen?, hc]
  have x0 : w1.drew.cell? ⟨kr, 0, none⟩ = some (.int .i64 0) := z0
  have x1 : w1.drew.cell? ⟨kr, 1, none⟩ = some (.int .i64 0) := z1
  have x2 : w1.drew.cell? ⟨kr, 2, none⟩ = some (.int .i64 0) := z2
  have q0 : w1.drew.frozen? ⟨kr, 0, none⟩ = false := y0
  have q1 : w1.drew.frozen? ⟨kr, 1, none⟩ = false := y1
  have q2 : w1.drew.frozen? ⟨kr, 2, none⟩ = false := y2
  clear hc
  refine wp_region_F_drew 10 (fun w' => w'.cell? ⟨b, 0, none⟩ = some (.int .i64 x) ∧ w'.cell? ⟨b, 1, none⟩ = some (.int .i64 y) ∧ w'.cell? ⟨b, 2, none⟩ = some (.int .i64 z)) (by kernel_rfl) ?_ (fun hHeld1 => ?_)
  · (try dsimp only); exact ⟨h0, h1, h2⟩
  refine tkF 0 rfl ?_; refine tkF 1 rfl ?_; refine tkF 2 rfl ?_; refine tkF 3 rfl ?_
  try simp only [Act.put, List.setIfInBounds_toArray, List.set_cons_zero, List.set_cons_succ, List.getElem_toArray, List.getElem_cons_succ, List.getElem_cons_zero]
  refine tkF 4 rfl ?_; refine tkF 5 rfl ?_; refine tkF 6 rfl ?_; refine tkF 7 rfl ?_
  try simp only [Act.put, List.setIfInBounds_toArray, List.set_cons_zero, List.set_cons_succ, List.getElem_toArray, List.getElem_cons_succ, List.getElem_cons_zero]
  refine tkF 8 rfl ?_; refine tkF 9 rfl ?_
  try simp only [Act.put, List.setIfInBounds_toArray, List.set_cons_zero, List.set_cons_succ, List.getElem_toArray, List.getElem_cons_succ, List.getElem_cons_zero]
  refine wpAnyF_ready (rs := [10]) (by kernel_rfl) (by simp) ?_
  refine AllReadyF.fin rfl (by decide) (fun K hK => ?_) AllReadyF.nil
  first | (with_reducible refine iteYes ?hcx ?htx; case hcx => kernel_rfl) | rw [if_pos (by rfl)]
  simp only [List.getElem_toArray, List.getElem_cons_succ, List.getElem_cons_zero]
  go_simp
  skip
  refine hK.out _ _ ?_
  clear hK K
  try simp only [Act.put, List.setIfInBounds_toArray, List.set_cons_zero, List.set_cons_succ, List.getElem_toArray, List.getElem_cons_succ, List.getElem_cons_zero]
  refine wpAnyF_done (by kernel_rfl) ?_ _
  have o9 : Only [] w (((w1.setCell ⟨kr, 0, none⟩ (.int .i64 x)).setCell ⟨kr, 1, none⟩ (.int .i64 y)).setCell ⟨kr, 2, none⟩ (.int .i64 z)) := HA.out.2.1.then (only_put3 kr 0 _ _ _) (fun k hk => by rw [List.mem_singleton.1 hk]; exact Or.inr (by rw [HK.out]; exact Nat.le_refl _))
  go_wp2_with fail
  obtain ⟨e0, e1, e2⟩ := set3_of (v0 := .int .i64 x) (v1 := .int .i64 y) (v2 := .int .i64 z) z0 z1 z2
  exact bodyPost_ret (v := .agg #[.int .i64 x, .int .i64 y, .int .i64 z]) (by simp [results, Try.results85, go_sem, e0, e1, e2]) rfl ⟨rfl, o9.drew⟩
theorem partsZ_calls (x y z : Int) (w : World) : Calls Try.prog 26 #[.agg #[.int .i64 x, .int .i64 y, .int .i64 z]] w fun e w' => ∃ g, e = .returned (.slice (some ⟨g, 0, none⟩) 3 3) ∧ w.heap.size ≤ g ∧ w'.heap[g]? = some (.cells #[.int .i64 x, .int .i64 y, .int .i64 z] 3) ∧ Only [] w w' := by
  go_enter Try.func26, Try.ntmps26
  go_wp2
  go_ret
  exact ⟨_, rfl, by simp, by simpa using (MapKept.heap_alloc (w.alloc (.cells #[.int .i64 x, .int .i64 y, .int .i64 z] 27)) (.cells #[.int .i64 x, .int .i64 y, .int .i64 z] 3)).1, ((Only.refl [] w).alloc _).alloc _⟩
theorem tintN_calls (kt : Nat) (v : Value) (L : List Nat) (p : Nat) (w : World) (h : TpAt w kt v (bitsOf L) p) (m : Nat × Int × Nat) (hm : m = intM L p) :
    Calls Try.prog 84 #[.pointer (some ⟨kt, 0, none⟩)] w fun e w' => e = .returned (.tuple #[.int .i64 (m.2.1), .int .i64 ((m.1 : Int))]) ∧ TpAt w' kt v (bitsOf L) m.2.2 ∧ Only [kt] w w' := by
  subst hm
  exact tint_calls kt v L p w h
/-! Three numbers, one by one. -/
def vQ (L : List Nat) (p : Nat) : Nat → Nat
  | 0 => p
  | i + 1 => (intM L (vQ L p i)).2.2
def vG (L : List Nat) (p : Nat) : Nat → Bool
  | 0 => false
  | i + 1 => vG L p i || decide ((intM L (vQ L p i)).1 ≠ 0)
theorem vQ_3 (L : List Nat) (p : Nat) : vQ L p 3 = vecP L p := rfl
theorem vG_3 (L : List Nat) (p : Nat) : vG L p 3 = vecE L p := by unfold vecE; simp only [vG, vQ, Bool.false_or]; rfl
/-- What lies in the row that is turned: so many of it are. -/
def vR (L : List Nat) (p : Nat) (a b c : Int) (i j : Nat) : Int := if j < i then wrap64 (v3 a b c j + (intM L (vQ L p j)).2.1) else v3 a b c j
structure VZ (w : World) (kt k6 k7 k8 : Nat) (v : Value) (L : List Nat) (b : Bool) (p gp : Nat) (x y z : Int) (i : Nat) (w0 wr : World) : Prop where
  rz : RZ w kt k6 k7 k8 v L (b || vG L p i) (vQ L p i) wr
  row : ∀ j, j < 3 → wr.cell? ⟨gp, j, none⟩ = some (.int .i64 (vR L p x y z i j))
  free : ∀ j, wr.frozen? ⟨gp, j, none⟩ = false
  gp0 : w0.heap.size ≤ gp
  far : w.heap.size ≤ gp ∧ gp ≠ kt ∧ gp ≠ k6 ∧ gp ≠ k7 ∧ gp ≠ k8 ∧ gp ∉ ownL v
  only : Only [kt, k7] w0 wr
set_option maxRecDepth 100000 in
set_option maxHeartbeats 4000000 in
theorem vecZ_calls (w : World) (kt k6 k7 k8 : Nat) (v : Value) (L : List Nat) (b : Bool) (p : Nat) (x y z : Int) (w0 : World) (h : RZ w kt k6 k7 k8 v L b p w0) :
    Calls Try.prog 83 #[.agg #[.int .i64 x, .int .i64 y, .int .i64 z], .pointer (some ⟨k8, 0, none⟩), .pointer (some ⟨k6, 0, none⟩)] w0 fun e w' => e = .returned (.agg #[.int .i64 (wrap64 (x + (vec3 L p).1)), .int .i64 (wrap64 (y + (vec3 L p).2.1)), .int .i64 (wrap64 (z + (vec3 L p).2.2))]) ∧ RZ w kt k6 k7 k8 v L (b || vecE L p) (vecP L p) w' ∧ Only [kt, k7] w0 w' := by
  have H0 : Hid (RZ w kt k6 k7 k8 v L b p w0) := h
  clear h
  go_enter Try.func83, Try.ntmps83
  go_upto_region 1 with fail
  have H1 : Hid (Only [] w0 ((w0.alloc (.cells #[.int .i64 x, .int .i64 y, .int .i64 z] 27)).alloc (.cells #[.int .i64 0, .int .i64 0, .int .i64 0] 27)) ∧ (∀ j (hj : j < 3), ((w0.alloc (.cells #[.int .i64 x, .int .i64 y, .int .i64 z] 27)).alloc (.cells #[.int .i64 0, .int .i64 0, .int .i64 0] 27)).cell? ⟨w0.heap.size, j, none⟩ = some (.int .i64 (v3 x y z j))) ∧ ((w0.alloc (.cells #[.int .i64 x, .int .i64 y, .int .i64 z] 27)).alloc (.cells #[.int .i64 0, .int .i64 0, .int .i64 0] 27)).heap[w0.heap.size + 1]? = some (.cells #[.int .i64 0, .int .i64 0, .int .i64 0] 27)) := by
    have o : Only [] w0 ((w0.alloc (.cells #[.int .i64 x, .int .i64 y, .int .i64 z] 27)).alloc (.cells #[.int .i64 0, .int .i64 0, .int .i64 0] 27)) := ((Only.refl [] w0).alloc _).alloc _
    refine ⟨o, fun j hj => ?_, ?_⟩
    · have hb : ((w0.alloc (.cells #[.int .i64 x, .int .i64 y, .int .i64 z] 27)).alloc (.cells #[.int .i64 0, .int .i64 0, .int .i64 0] 27)).heap[w0.heap.size]? = some (.cells #[.int .i64 x, .int .i64 y, .int .i64 z] 27) := by rw [Below.heap_alloc _ _ _ (by simp)]; exact (MapKept.heap_alloc w0 _).1
      match j, hj with
      | 0, _ => simp [World.cell?, hb, v3]
      | 1, _ => simp [World.cell?, hb, v3]
      | 2, _ => simp [World.cell?, hb, v3]
    · have := (MapKept.heap_alloc (w0.alloc (.cells #[.int .i64 x, .int .i64 y, .int .i64 z] 27)) (.cells #[.int .i64 0, .int .i64 0, .int .i64 0] 27)).1
      simpa using this
  revert H1
  obtain ⟨kr, hkr⟩ : ∃ kr, w0.heap.size + 1 = kr := ⟨_, rfl⟩
  rw [hkr]
  obtain ⟨kv, hkv⟩ : ∃ kv, w0.heap.size = kv := ⟨_, rfl⟩
  have HK : Hid (w0.heap.size = kv ∧ w0.heap.size + 1 = kr) := ⟨hkv, hkr⟩
  rw [hkv]
  clear hkv hkr
  generalize World.alloc (World.alloc w0 _) _ = w1
  intro H1
  have z0 := H1.out.2.1 0 (by omega); have z1 := H1.out.2.1 1 (by omega); have z2 := H1.out.2.1 2 (by omega)
  simp only [v3] at z0 z1 z2
  go_wp2_with fail
  refine (partsZ_calls x y z _).mono ?_
  rintro e w2 ⟨gp, rfl, hg, hblk, o2⟩
  have HR : Hid (w2.heap[kr]? = some (.cells #[.int .i64 0, .int .i64 0, .int .i64 0] 27) ∧ kr < w1.heap.size ∧ w1.heap.size ≤ gp) := ⟨(o2.block kr (Array.getElem?_eq_some_iff.1 H1.out.2.2).1 (by simp)).trans H1.out.2.2, (Array.getElem?_eq_some_iff.1 H1.out.2.2).1, hg⟩
  have H2 : Hid (VZ w kt k6 k7 k8 v L b p gp x y z 0 w0 w2 ∧ gp ≠ kr) := by
    have o : Only [] w0 w2 := H1.out.1.trans o2
    have hs := H1.out.1.size
    have far := H0.out.far (k := gp) (by omega)
    refine ⟨⟨by rw [show (b || vG L p 0) = b from Bool.or_false b]; exact H0.out.keep o, fun j hj => ?_, fun j => ?_, by omega, far, o.mono (by simp)⟩, by have := HR.out.2; omega⟩
    · match j, hj with
      | 0, _ => simp [World.cell?, hblk, vR, v3]
      | 1, _ => simp [World.cell?, hblk, vR, v3]
      | 2, _ => simp [World.cell?, hblk, vR, v3]
    · simp [World.frozen?, hblk]
  clear hg hblk o2 z0 z1 z2 H1
  go_wp2_with fail
  go_loopg [11] 3 (fun k s11 wr => ∃ i : Nat, s11 = .int .i64 (i : Int) ∧ Hid (i ≤ 3 ∧ k = 3 - i) ∧ Hid (VZ w kt k6 k7 k8 v L b p gp x y z i w0 wr ∧ wr.heap[kr]? = some (.cells #[.int .i64 0, .int .i64 0, .int .i64 0] 27)))
  case atStart => exact ⟨0, rfl, ⟨by omega, rfl⟩, ⟨H2.out.1, HR.out.1⟩⟩
  case round =>
    have HGK : Hid (gp ≠ kr ∧ kr ≠ kt ∧ kr ≠ k7 ∧ w0.heap.size ≤ kr) := by
      have h1 := HK.out; have h2 := H0.out.tp.lt; have h3 := H0.out.l7
      exact ⟨H2.out.2, by omega, by omega, by omega⟩
    clear H2
    obtain ⟨i, rfl, HI, HV⟩ := hrel
    by_cases hi : i < 3
    · have hil : (i : Int) < 3 := by omega
      have c1 := HV.out.1.row i hi
      have e1 : vR L p x y z i i = v3 x y z i := if_neg (by omega)
      rw [e1] at c1
      obtain ⟨X, hX⟩ : ∃ X, v3 x y z i = X := ⟨_, rfl⟩
      rw [hX] at c1
      have HX : Hid (v3 x y z i = X) := hX
      obtain ⟨m, hm⟩ : ∃ m, m = intM L (vQ L p i) := ⟨_, rfl⟩
      have HM : Hid (m = intM L (vQ L p i)) := hm
      have c6 := HV.out.1.rz.c6; have c8 := HV.out.1.rz.c8
      have hgf := HV.out.1.far
      have HGF : Hid (w.heap.size ≤ gp ∧ gp ≠ kt ∧ gp ≠ k6 ∧ gp ≠ k7 ∧ gp ≠ k8 ∧ gp ∉ ownL v) := hgf
      clear hX hm e1 hgf
      go_upto_region 5 with fail
      refine wp_region_F_drew 12 (fun w' => w'.cell? ⟨gp, i, none⟩ = some (.int .i64 X) ∧ w'.cell? ⟨k6, 0, none⟩ = some (.pointer (some ⟨kt, 0, none⟩)) ∧ w'.cell? ⟨k8, 0, none⟩ = some (.func (.func 82) #[] #[.pointer (some ⟨k7, 0, none⟩)])) (by kernel_rfl) ?_ (fun hHeld1 => ?_)
      · (try dsimp only); exact ⟨c1, c6, c8⟩
      refine tkF 0 rfl ?_; refine tkF 1 rfl ?_; refine tkF 2 rfl ?_; refine tkF 3 rfl ?_
      try simp only [Act.put, List.setIfInBounds_toArray, List.set_cons_zero, List.set_cons_succ, List.getElem_toArray, List.getElem_cons_succ, List.getElem_cons_zero]
      refine tkF 4 rfl ?_; refine tkF 5 rfl ?_
      try simp only [Act.put, List.setIfInBounds_toArray, List.set_cons_zero, List.set_cons_succ, List.getElem_toArray, List.getElem_cons_succ, List.getElem_cons_zero]
      refine wpAnyF_ready (rs := [6]) (by kernel_rfl) (by simp) ?_
      refine AllReadyF.cons rfl (fun K hK => ?_) AllReadyF.nil
      first | (with_reducible refine iteYes ?hcx ?htx; case hcx => kernel_rfl) | rw [if_pos (by rfl)]
      simp only [List.getElem_toArray, List.getElem_cons_succ, List.getElem_cons_zero]
      go_simp
      (go_at_call 84; refine (tintN_calls kt v L _ _ (HV.out.1.rz.keep (Only.refl _ _).drew).tp m HM.out).mono ?_; rintro e w3 ⟨rfl, h3, o3⟩)
      try go_wp2_with fail
      refine hK.out _ _ ?_ (fun hHeld2 => ?_)
      · (try dsimp only); exact ⟨o3.cell (a := ⟨gp, i, none⟩) (v := .int .i64 X) c1 (by simpa using HGF.out.2.1), o3.cell (a := ⟨k6, 0, none⟩) (v := .pointer (some ⟨kt, 0, none⟩)) c6 (by simpa using HV.out.1.rz.d.1.symm), o3.cell (a := ⟨k8, 0, none⟩) (v := .func (.func 82) #[] #[.pointer (some ⟨k7, 0, none⟩)]) c8 (by simpa using HV.out.1.rz.d.2.2.1.symm)⟩
      clear hK K hHeld1
      try simp only [Act.put, List.setIfInBounds_toArray, List.set_cons_zero, List.set_cons_succ, List.getElem_toArray, List.getElem_cons_succ, List.getElem_cons_zero]
      have H3 : Hid (RZ w kt k6 k7 k8 v L (b || vG L p i) m.2.2 w3 ∧ Only [kt] wr w3) := ⟨(HV.out.1.rz.keep (Only.refl _ _).drew).read h3 o3, (Only.refl [kt] wr).drew.trans o3⟩
      clear h3 o3
      refine tkF 7 rfl ?_; refine tkF 8 rfl ?_
      try simp only [Act.put, List.setIfInBounds_toArray, List.set_cons_zero, List.set_cons_succ, List.getElem_toArray, List.getElem_cons_succ, List.getElem_cons_zero]
      refine wpAnyF_ready (rs := [9]) (by kernel_rfl) (by simp) ?_
      refine AllReadyF.cons rfl (fun K hK => ?_) AllReadyF.nil
      first | (with_reducible refine iteYes ?hcx ?htx; case hcx => kernel_rfl) | rw [if_pos (by rfl)]
      simp only [List.getElem_toArray, List.getElem_cons_succ, List.getElem_cons_zero]
      go_simp
      (go_at_call 82; refine (numZ_calls m.2.1 m.1 _ k7 w3 H3.out.1.b7).mono ?_; rintro e w4 ⟨rfl, h4, o4⟩)
      try go_wp2_with fail
      refine hK.out _ _ ?_ (fun hHeld3 => ?_)
      · (try dsimp only); exact ⟨(H3.out.2.mono (E := [kt, k7]) (by simp) |>.trans (o4.mono (by simp))).cell (a := ⟨gp, i, none⟩) (v := .int .i64 X) c1 (by simp; exact ⟨HGF.out.2.1, HGF.out.2.2.2.1⟩), (H3.out.1.mark h4 o4).c6, (H3.out.1.mark h4 o4).c8⟩
      clear hK K hHeld2
      try simp only [Act.put, List.setIfInBounds_toArray, List.set_cons_zero, List.set_cons_succ, List.getElem_toArray, List.getElem_cons_succ, List.getElem_cons_zero]
      have H4 : Hid (RZ w kt k6 k7 k8 v L (b || vG L p (i + 1)) (vQ L p (i + 1)) w4 ∧ Only [kt, k7] wr w4) := by
        refine ⟨?_, (H3.out.2.mono (by simp)).trans (o4.mono (by simp))⟩
        have h5 := H3.out.1.mark h4 o4
        rw [Bool.or_assoc] at h5
        show RZ w kt k6 k7 k8 v L (b || (vG L p i || decide ((intM L (vQ L p i)).1 ≠ 0))) (intM L (vQ L p i)).2.2 w4
        rw [← HM.out]
        exact h5
      have c4 : w4.cell? ⟨gp, i, none⟩ = some (.int .i64 X) := H4.out.2.cell c1 (by simp; exact ⟨HGF.out.2.1, HGF.out.2.2.2.1⟩)
      have y4 : w4.frozen? ⟨gp, i, none⟩ = false := by
        have hb := H4.out.2.block gp (World.block_lt_of_cell? _ _ c1) (by simp; exact ⟨HGF.out.2.1, HGF.out.2.2.2.1⟩)
        have := HV.out.1.free i
        simpa [World.frozen?, hb] using this
      clear h4 o4 H3
      refine tkF (v := .int .i64 (wrap64 (X + m.2.1))) 10 rfl ?_ (by intro w'' hSw; (try dsimp only at hSw); simp only [List.getElem_toArray, List.getElem_cons_succ, List.getElem_cons_zero]; go_simp; rw [IntWalk.i64_left])
      try simp only [Act.put, List.setIfInBounds_toArray, List.set_cons_zero, List.set_cons_succ, List.getElem_toArray, List.getElem_cons_succ, List.getElem_cons_zero]
      refine tkF 11 rfl ?_
      try simp only [Act.put, List.setIfInBounds_toArray, List.set_cons_zero, List.set_cons_succ, List.getElem_toArray, List.getElem_cons_succ, List.getElem_cons_zero]
      refine wpAnyF_ready (rs := [12]) (by kernel_rfl) (by simp) ?_
      refine AllReadyF.fin rfl (by decide) (fun K hK => ?_) AllReadyF.nil
      first | (with_reducible refine iteYes ?hcx ?htx; case hcx => kernel_rfl) | rw [if_pos (by rfl)]
      simp only [List.getElem_toArray, List.getElem_cons_succ, List.getElem_cons_zero]
      go_simp
      skip
      refine hK.out _ _ ?_
      clear hK K
      try simp only [Act.put, List.setIfInBounds_toArray, List.set_cons_zero, List.set_cons_succ, List.getElem_toArray, List.getElem_cons_succ, List.getElem_cons_zero]
      refine wpAnyF_done (by kernel_rfl) ?_ _
      have H5 : Hid (VZ w kt k6 k7 k8 v L b p gp x y z (i + 1) w0 (w4.setCell ⟨gp, i, none⟩ (.int .i64 (wrap64 (X + m.2.1)))) ∧ (w4.setCell ⟨gp, i, none⟩ (.int .i64 (wrap64 (X + m.2.1)))).heap[kr]? = some (.cells #[.int .i64 0, .int .i64 0, .int .i64 0] 27)) := by
        have o5 : Only [gp] w4 (w4.setCell ⟨gp, i, none⟩ (.int .i64 (wrap64 (X + m.2.1)))) := (Only.refl [gp] w4).setCell (p := ⟨gp, i, none⟩) (Or.inl (by simp)) _
        have hb := H4.out.2.block gp (World.block_lt_of_cell? _ _ c1) (by simp; exact ⟨HGF.out.2.1, HGF.out.2.2.2.1⟩)
        have hg0 := HV.out.1.gp0
        refine ⟨⟨H4.out.1.only' o5 (fun k hk => by rw [List.mem_singleton.1 hk]; exact HGF.out), fun j hj => ?_, fun j => ?_, hg0, HGF.out, (HV.out.1.only.trans H4.out.2).then o5 (fun k hk => by rw [List.mem_singleton.1 hk]; exact Or.inr hg0)⟩, ?_⟩
        · by_cases e : j = i
          · subst e
            rw [World.cell?_setCell_same _ _ _ c4]
            unfold vR
            rw [if_pos (by omega), HX.out, ← HM.out]
          · rw [World.cell?_setCell_other _ _ _ _ (fun q => e (by injection q with _ q; exact q.symm)), cell_same hb, HV.out.1.row j hj]
            unfold vR
            by_cases e2 : j < i
            · rw [if_pos e2, if_pos (by omega)]
            · rw [if_neg e2, if_neg (by omega)]
        · have := HV.out.1.free j
          rw [World.frozen?_setCell]
          simpa [World.frozen?, hb] using this
        · rw [o5.block kr (by have := (Array.getElem?_eq_some_iff.1 HV.out.2).1; have := H4.out.2.size; omega) (by simpa using HGK.out.1.symm), H4.out.2.block kr (Array.getElem?_eq_some_iff.1 HV.out.2).1 (by simp; exact ⟨HGK.out.2.1, HGK.out.2.2.1⟩)]
          exact HV.out.2
      clear c1 c6 c8 c4 y4 H4
      generalize w4.setCell ⟨gp, i, none⟩ (.int .i64 (wrap64 (X + m.2.1))) = w5 at H5 ⊢
      go_wp2_with fail
      go_roundg (3 - (i + 1))
      case measure => have := HI.out.2; omega
      case rel => exact ⟨i + 1, by go_num, ⟨by omega, rfl⟩, H5⟩
    · have hil : ¬ (i : Int) < 3 := by omega
      obtain rfl : i = 3 := by have := HI.out.1; omega
      have HIN : Hid (IntsIn wr gp [wrap64 (x + (vec3 L p).1), wrap64 (y + (vec3 L p).2.1), wrap64 (z + (vec3 L p).2.2)]) := by
        intro j hj
        rw [HV.out.1.row j (by simpa using hj)]
        match j, hj with
        | 0, _ => rfl
        | 1, _ => rfl
        | 2, _ => rfl
      go_wp2_with fail
      refine (ofZ_calls gp _ _ _ wr HIN.out).mono ?_
      rintro e w6 ⟨rfl, o6⟩
      have H6 : Hid (RZ w kt k6 k7 k8 v L (b || vecE L p) (vecP L p) w6 ∧ Only [kt, k7] w0 w6 ∧ w6.heap[kr]? = some (.cells #[.int .i64 0, .int .i64 0, .int .i64 0] 27)) := by
        have h7 := HV.out.1.rz
        rw [vQ_3, vG_3] at h7
        exact ⟨h7.keep o6, HV.out.1.only.then o6 (by simp), (o6.block kr (Array.getElem?_eq_some_iff.1 HV.out.2).1 (by simp)).trans HV.out.2⟩
      clear o6 HIN
      have hc := H6.out.2.2
      have z0 : w6.cell? ⟨kr, 0, none⟩ = some (.int .i64 0) := by simp [World.cell?, hc]
      have z1 : w6.cell? ⟨kr, 1, none⟩ = some (.int .i64 0) := by simp [World.cell?, hc]
      have z2 : w6.cell? ⟨kr, 2, none⟩ = some (.int .i64 0) := by simp [World.cell?, hc]
      have y0 : w6.frozen? ⟨kr, 0, none⟩ = false := by simp [World.frozen?, hc]
      have y1 : w6.frozen? ⟨kr, 1, none⟩ = false := by simp [World.frozen?, hc]
      have y2 : w6.frozen? ⟨kr, 2, none⟩ = false := by simp [World.frozen?, hc]
      clear hc
      go_wp2_with fail
      obtain ⟨e0, e1, e2⟩ := set3_of (v0 := .int .i64 (wrap64 (x + (vec3 L p).1))) (v1 := .int .i64 (wrap64 (y + (vec3 L p).2.1))) (v2 := .int .i64 (wrap64 (z + (vec3 L p).2.2))) z0 z1 z2
      have far := H0.out.far (k := kr) HGK.out.2.2.2
      exact bodyPost_ret (v := .agg #[.int .i64 (wrap64 (x + (vec3 L p).1)), .int .i64 (wrap64 (y + (vec3 L p).2.1)), .int .i64 (wrap64 (z + (vec3 L p).2.2))]) (by simp [results, Try.results83, go_sem, e0, e1, e2]) rfl ⟨rfl, H6.out.1.only' (only_put3 kr 0 _ _ _) (fun k hk => by rw [List.mem_singleton.1 hk]; exact far), H6.out.2.1.then (only_put3 kr 0 _ _ _) (fun k hk => by rw [List.mem_singleton.1 hk]; exact Or.inr HGK.out.2.2.2)⟩
  end Go.Proofs.Ytedhdmahdioboaa
/- What the document's reader of a view holds; a row in which one is turned: whichever. -/
namespace Go.Proofs.Ytedhdmahdioboaa
open Go.ChangeShapes Go.WideShapes Go.ChangeAt Go.RowKit
set_option linter.unusedVariables false
set_option linter.unusedSimpArgs false

structure RA (w : World) (kt k6 k7 k8 : Nat) (v : Value) (L : List Nat) (b : Bool) (p : Nat) (nv : Value) (N : List Sn) (wr : World) : Prop where
  rz : RZ w kt k6 k7 k8 v L b p wr
  own : wr.ownsRow w.heap.size 116 11 nv N.length (rowS N)
  far : ∀ k, nv.ownBlock = some k → k ≠ kt ∧ k ≠ k6 ∧ k ≠ k7 ∧ k ≠ k8 ∧ k ∉ ownL v
section
variable {w : World} {kt k6 k7 k8 : Nat} {v : Value} {L : List Nat} {b b' : Bool} {p p' : Nat} {nv : Value} {N : List Sn} {wr w' : World}
theorem RA.keep (h : RA w kt k6 k7 k8 v L b p nv N wr) (o : Only [] wr w') : RA w kt k6 k7 k8 v L b p nv N w' := ⟨h.rz.keep o, ownS_far h.own o (by simp), h.far⟩
theorem RA.read (h : RA w kt k6 k7 k8 v L b p nv N wr) (ht : TpAt w' kt v (bitsOf L) p') (o : Only [kt] wr w') : RA w kt k6 k7 k8 v L b p' nv N w' := ⟨h.rz.read ht o, ownS_far h.own o (fun k hk => by simpa using (h.far k hk).1), h.far⟩
theorem RA.mark (h : RA w kt k6 k7 k8 v L b p nv N wr) (hb : w'.heap[k7]? = some (.cells #[.bool b'] 4)) (o : Only [k7] wr w') : RA w kt k6 k7 k8 v L b' p nv N w' := ⟨h.rz.mark hb o, ownS_far h.own o (fun k hk => by simpa using (h.far k hk).2.2.1), h.far⟩
theorem RA.vec (h : RA w kt k6 k7 k8 v L b p nv N wr) (hz : RZ w kt k6 k7 k8 v L b' p' w') (o : Only [kt, k7] wr w') : RA w kt k6 k7 k8 v L b' p' nv N w' := ⟨hz, ownS_far h.own o (fun k hk => by have := h.far k hk; simp; exact ⟨this.1, this.2.2.1⟩), h.far⟩
theorem RA.other (h : RA w kt k6 k7 k8 v L b p nv N wr) {k : Nat} (o : Only [k] wr w') (hk : w.heap.size ≤ k ∧ k ≠ kt ∧ k ≠ k6 ∧ k ≠ k7 ∧ k ≠ k8 ∧ k ∉ ownL v) (hn : nv.ownBlock ≠ some k) : RA w kt k6 k7 k8 v L b p nv N w' :=
  ⟨h.rz.only' o (fun x hx => by rw [List.mem_singleton.1 hx]; exact hk), ownS_far h.own o (fun x hx => by simp; exact fun e => hn (e ▸ hx)), h.far⟩
/-- A row that was made behind all that. -/
theorem RA.fresh {nv' : Value} {N' : List Sn} {w1 : World} (h : RZ w kt k6 k7 k8 v L b p w1) (hw : w1.heap.size ≤ w'.heap.size) (hz : RZ w kt k6 k7 k8 v L b p w') (hown : w'.ownsRow w.heap.size 116 11 nv' N'.length (rowS N')) (hn : ∀ k, nv'.ownBlock = some k → w1.heap.size ≤ k) : RA w kt k6 k7 k8 v L b p nv' N' w' :=
  ⟨hz, hown, fun k hk => (h.far (hn k hk)).2⟩
theorem RA.sv (h : RA w kt k6 k7 k8 v L b p nv N wr) : SvAt wr nv N := (own_sv h.own).1
theorem RA.ge (h : RA w kt k6 k7 k8 v L b p nv N wr) {k : Nat} (hk : nv.ownBlock = some k) : k < wr.heap.size := ownS_lt h.own k hk
end
/-- .. and one in a variable of its own. -/
structure RS1 (w : World) (kt k6 k7 k8 : Nat) (v : Value) (L : List Nat) (b : Bool) (p : Nat) (nv : Value) (N : List Sn) (ks : Nat) (s : Sn) (wr : World) : Prop where
  ra : RA w kt k6 k7 k8 v L b p nv N wr
  sn : SnAt 116 wr ks s
  far : w.heap.size ≤ ks ∧ ks ≠ kt ∧ ks ≠ k6 ∧ ks ≠ k7 ∧ ks ≠ k8 ∧ ks ∉ ownL v
  ne : nv.ownBlock ≠ some ks
section
variable {w : World} {kt k6 k7 k8 : Nat} {v : Value} {L : List Nat} {b b' : Bool} {p p' : Nat} {nv : Value} {N : List Sn} {ks : Nat} {s s' : Sn} {wr w' : World}
theorem RS1.keep (h : RS1 w kt k6 k7 k8 v L b p nv N ks s wr) (o : Only [] wr w') : RS1 w kt k6 k7 k8 v L b p nv N ks s w' := ⟨h.ra.keep o, h.sn.only o (by simp), h.far, h.ne⟩
theorem RS1.read (h : RS1 w kt k6 k7 k8 v L b p nv N ks s wr) (ht : TpAt w' kt v (bitsOf L) p') (o : Only [kt] wr w') : RS1 w kt k6 k7 k8 v L b p' nv N ks s w' := ⟨h.ra.read ht o, h.sn.only o (by simpa using h.far.2.1), h.far, h.ne⟩
theorem RS1.mark (h : RS1 w kt k6 k7 k8 v L b p nv N ks s wr) (hb : w'.heap[k7]? = some (.cells #[.bool b'] 4)) (o : Only [k7] wr w') : RS1 w kt k6 k7 k8 v L b' p nv N ks s w' := ⟨h.ra.mark hb o, h.sn.only o (by simpa using h.far.2.2.2.1), h.far, h.ne⟩
theorem RS1.vec (h : RS1 w kt k6 k7 k8 v L b p nv N ks s wr) (hz : RZ w kt k6 k7 k8 v L b' p' w') (o : Only [kt, k7] wr w') : RS1 w kt k6 k7 k8 v L b' p' nv N ks s w' := ⟨h.ra.vec hz o, h.sn.only o (by simp; exact ⟨h.far.2.1, h.far.2.2.2.1⟩), h.far, h.ne⟩
theorem RS1.put (h : RS1 w kt k6 k7 k8 v L b p nv N ks s wr) (hs : SnAt 116 w' ks s') (o : Only [ks] wr w') : RS1 w kt k6 k7 k8 v L b p nv N ks s' w' := ⟨h.ra.other o h.far h.ne, hs, h.far, h.ne⟩
theorem RS1.new (h : RA w kt k6 k7 k8 v L b p nv N wr) (s : Sn) : RS1 w kt k6 k7 k8 v L b p nv N wr.heap.size s (wr.alloc (.cells #[.int .i64 (s.id), .int .i64 (s.kd), .int .i64 (s.sx), .int .i64 (s.sy), .int .i64 (s.sz), .int .i64 (s.ax), .int .i64 (s.ay), .int .i64 (s.az), .int .i64 (s.vx), .int .i64 (s.vy), .int .i64 (s.vz)] 116)) :=
  ⟨h.keep ((Only.refl [] wr).alloc _), SnAt.new _ wr s, h.rz.far (Nat.le_refl _), fun e => by have := h.ge e; omega⟩
end
/-- A row laid anew out of a row. -/
theorem RA.anew {w : World} {kt k6 k7 k8 : Nat} {v : Value} {L : List Nat} {b : Bool} {p : Nat} {wr w' : World} {nv : Value} {M : List Sn} (h : RZ w kt k6 k7 k8 v L b p wr) (o : Only [] wr w') (hown : w'.ownsRow wr.heap.size 116 11 nv M.length (rowS M)) : RA w kt k6 k7 k8 v L b p nv M w' := by
  refine ⟨h.keep o, ?_, fun k hk => (h.far (ownS_ge hown k hk)).2⟩
  obtain ⟨h1, h2 | ⟨g, cap, cur, e, hb, rest⟩⟩ := hown
  · exact ⟨h1, Or.inl h2⟩
  · exact ⟨h1, Or.inr ⟨g, cap, cur, e, Nat.le_trans h.only.size hb, rest⟩⟩
theorem own_empty (w : World) (base : Nat) (hb : base ≤ w.heap.size) : (w.alloc (.cells #[] 116)).ownsRow base 116 11 (.slice (some ⟨w.heap.size, 0, none⟩) 0 0) ([] : List Sn).length (rowS []) :=
  World.ownsRow_lit (base := base) w #[] 0 hb (by decide) (by simp)
/-- Behind cells stored into a block. -/
theorem heap_setCells {g : Nat} : ∀ (vs : List Value) (o : Nat) (w : World) (c : Array Value) (t : TypeId), w.heap[g]? = some (.cells c t) → ∃ c', (w.setCells g o vs).heap[g]? = some (.cells c' t) ∧ c'.size = c.size
  | [], o, w, c, t, h => ⟨c, h, rfl⟩
  | v :: vs, o, w, c, t, h => by
    obtain ⟨c', h1, h2⟩ := heap_setCells vs (o + 1) (w.setCell ⟨g, o, none⟩ v) _ t (heap_put h o v)
    exact ⟨c', h1, by rw [h2, Array.size_setIfInBounds]⟩
theorem only_setCellsS {g : Nat} : ∀ (vs : List Value) (o : Nat) (a w : World), Only [g] a w → Only [g] a (w.setCells g o vs)
  | [], o, a, w, h => h
  | v :: vs, o, a, w, h => only_setCellsS vs (o + 1) a _ (h.setCell (p := ⟨g, o, none⟩) (Or.inl (by simp)) v)
theorem RS1.cells {w : World} {kt k6 k7 k8 : Nat} {v : Value} {L : List Nat} {b : Bool} {p : Nat} {nv : Value} {N : List Sn} {ks : Nat} {s : Sn} {wr : World} (h : RS1 w kt k6 k7 k8 v L b p nv N ks s wr) (s' : Sn) : RS1 w kt k6 k7 k8 v L b p nv N ks s' (wr.setCells ks 0 (snL s')) := h.put (sn_put h.sn s') (only_setCellsS _ _ _ _ (Only.refl _ _))
theorem RS1.there {w : World} {kt k6 k7 k8 : Nat} {v : Value} {L : List Nat} {b : Bool} {p : Nat} {nv : Value} {N : List Sn} {ks : Nat} {s : Sn} {wr : World} (h : RS1 w kt k6 k7 k8 v L b p nv N ks s wr) : wr.there ks 0 11 := fun j hj => by
  rw [Nat.zero_add, h.sn.off j]
  exact ⟨by rw [Array.getElem?_eq_getElem (by simpa using hj)]; rfl, h.sn.free j⟩
theorem snL_at (s : Sn) (k : Nat) (hk : k < 11) : (snL s)[k]? = some (sc s k) := by
  match k, hk with
  | 0, _ => rfl
  | 1, _ => rfl
  | 2, _ => rfl
  | 3, _ => rfl
  | 4, _ => rfl
  | 5, _ => rfl
  | 6, _ => rfl
  | 7, _ => rfl
  | 8, _ => rfl
  | 9, _ => rfl
  | 10, _ => rfl
  | k + 11, h => exact absurd h (by omega)
theorem set_getD (N : List Sn) (i j : Nat) (s : Sn) (hi : i < N.length) : (N.take i ++ [s] ++ N.drop (i + 1)).getD j zs = if j = i then s else N.getD j zs := by
  rw [List.append_assoc, List.getD_eq_getElem?_getD, List.getD_eq_getElem?_getD]
  have hl : (N.take i).length = i := by rw [List.length_take]; omega
  by_cases h : j < i
  · rw [List.getElem?_append_left (by omega), List.getElem?_take, if_pos h, if_neg (by omega)]
  · rw [List.getElem?_append_right (by omega), hl]
    by_cases e : j = i
    · rw [if_pos e, e, Nat.sub_self]; rfl
    · rw [if_neg e]
      obtain ⟨d, hd⟩ : ∃ d, j - i = d + 1 := ⟨j - i - 1, by omega⟩
      rw [hd]
      show ((N.drop (i + 1))[d]?).getD zs = _
      rw [List.getElem?_drop]
      congr 2
      omega
theorem set_len (N : List Sn) (i : Nat) (s : Sn) (hi : i < N.length) : (N.take i ++ [s] ++ N.drop (i + 1)).length = N.length := by
  simp only [List.length_append, List.length_take, List.length_drop, List.length_singleton]; omega
theorem own_put {w : World} {base : Nat} {e : TypeId} {g c : Nat} {N : List Sn} {i : Nat} {s : Sn} (h : w.ownsRow base e 11 (.slice (some ⟨g, 0, none⟩) N.length c) N.length (rowS N)) (hi : i < N.length) :
    (w.setCells g (i * 11) (snL s)).ownsRow base e 11 (.slice (some ⟨g, 0, none⟩) N.length c) N.length (rowS (N.take i ++ [s] ++ N.drop (i + 1))) ∧ w.there g (i * 11) 11 := by
  have h0 := h
  obtain ⟨h1, h2 | ⟨g', cap, cur, e1, hb, hg, hc, hm, hs, ht⟩⟩ := h
  · have := h2.1; cases this
  · injection e1 with e1 _ e3
    injection e1 with e1
    injection e1 with e1 _ _
    subst e1 e3
    have hth : w.there g (i * 11) 11 := fun j hj => by
      refine ⟨?_, by simp [World.frozen?, hg]⟩
      rw [World.ownsRow.cellAt h0 _ (by omega), rowS_at _ _ (by omega)]; rfl
    refine ⟨⟨by rw [rowS_len, set_len _ _ _ hi], Or.inr ?_⟩, hth⟩
    obtain ⟨c', hc', hsz⟩ := heap_setCells (snL s) (i * 11) w cur e hg
    refine ⟨g, c, c', rfl, hb, hc', hc, hm, by rw [hsz, hs], ?_⟩
    apply List.ext_getElem?
    intro j
    by_cases hj : j < N.length * 11
    · have e4 : (c'.toList.take (N.length * 11))[j]? = (w.setCells g (i * 11) (snL s)).cell? ⟨g, j, none⟩ := by
        rw [List.getElem?_take, if_pos hj]
        simp [World.cell?, hc']
      rw [e4, rowS_at _ _ (by rw [set_len _ _ _ hi]; exact hj), set_getD _ _ _ _ hi]
      by_cases hji : j / 11 = i
      · rw [if_pos hji]
        have e5 : j = i * 11 + j % 11 := by omega
        have hlt : j % 11 < (snL s).length := by show _ < 11; omega
        have := World.cell?_setCells_in g (snL s) (i * 11) w (fun k hk => (hth k (by simpa [snL] using hk)).1) (j % 11) hlt
        rw [← e5] at this
        rw [this, ← snL_at s (j % 11) (by omega), List.getElem?_eq_getElem hlt]
      · rw [if_neg hji, World.cell?_setCells_out g (snL s) (i * 11) w ⟨g, j, none⟩ (fun _ _ => by have : (snL s).length = 11 := rfl; rw [this]; show j < i * 11 ∨ i * 11 + 11 ≤ j; omega), World.ownsRow.cellAt h0 _ hj, rowS_at _ _ hj]
    · rw [List.getElem?_take, if_neg hj, rowS_out _ _ (by rw [set_len _ _ _ hi]; exact hj)]
theorem run_loadR {ρ : Operand → Value} {o : Oper} {x : Operand} {g p : Nat} {s : Sn} {w : World} (ho : o.op = .load 116 x) (hx : ρ x = .pointer (some ⟨g, p, none⟩)) (h : ∀ k, k < 11 → w.cell? ⟨g, p + k, none⟩ = some (sc s k)) :
    (execOp ρ o).run Try.prog w = .ok (.value (.agg #[.int .i64 (s.id), .int .i64 (s.kd), .int .i64 (s.sx), .int .i64 (s.sy), .int .i64 (s.sz), .int .i64 (s.ax), .int .i64 (s.ay), .int .i64 (s.az), .int .i64 (s.vx), .int .i64 (s.vy), .int .i64 (s.vz)])) w := by
  have c0 := h 0 (by omega)
  have c1 := h 1 (by omega)
  have c2 := h 2 (by omega)
  have c3 := h 3 (by omega)
  have c4 := h 4 (by omega)
  have c5 := h 5 (by omega)
  have c6 := h 6 (by omega)
  have c7 := h 7 (by omega)
  have c8 := h 8 (by omega)
  have c9 := h 9 (by omega)
  have c10 := h 10 (by omega)
  simp only [sc, Nat.add_zero] at c0 c1 c2 c3 c4 c5 c6 c7 c8 c9 c10
  clear h
  unfold execOp
  rw [ho]
  simp only [hx]
  go_simp
theorem seen_grown {w w' : World} {k kn : Nat} {V : List Sn} (h : SeenAt w (some ⟨k, 0, none⟩) V.length (fun j => V.getD j zs)) (hg : w.grownBy w' (some kn)) (hd : k ≠ kn) : SeenAt w' (some ⟨k, 0, none⟩) V.length (fun j => V.getD j zs) := by
  intro j hj
  obtain ⟨g, o, e, hc⟩ := h j hj
  refine ⟨g, o, e, fun i hi => ?_⟩
  have h1 := hc i hi
  injection e with e
  injection e with e1 _ _
  have hb := hg.block g (World.block_lt_of_cell? _ _ h1) (fun q => by injection q with q; omega)
  rw [← h1]
  simp [World.cell?, hb]
theorem refSize : (Try.prog.info? 116).map (·.size) = some 11 := by kernel_rfl
def RApplyPost (F : List Sn) (L : List Nat) (w : World) (e : Ending) (w' : World) : Prop :=
  Only [] w w' ∧ ((rightL F = false ∧ e = .returned (.tuple #[.slice none 0 0, .int .i64 1])) ∨ (rightL F = true ∧ (∀ T, ¬ Del F L T) ∧ e = .returned (.tuple #[.slice none 0 0, .int .i64 3])) ∨
    (rightL F = true ∧ ∃ T v, Del F L T ∧ (∀ T', Del F L T' → T' = T) ∧ e = .returned (.tuple #[v, .int .i64 0]) ∧ w'.ownsRow w.heap.size 116 11 v T.length (rowS T)))
theorem tgetN_calls (kt : Nat) (v : Value) (L : List Nat) (p : Nat) (wd : Int) (w : World) (h : TpAt w kt v (bitsOf L) p) (m : Nat × Int × Nat) (hm : m = getM L p wd) :
    Calls Try.prog 81 #[.pointer (some ⟨kt, 0, none⟩), .int .i64 wd] w fun e w' => e = .returned (.tuple #[.int .i64 (m.2.1), .int .i64 ((m.1 : Int))]) ∧ TpAt w' kt v (bitsOf L) m.2.2 ∧ Only [kt] w w' := by
  subst hm
  exact tget_getM kt v L p wd w h
theorem tvarN_calls (kt : Nat) (v : Value) (L : List Nat) (p : Nat) (w : World) (h : TpAt w kt v (bitsOf L) p) (m : Nat × Nat × Nat) (hm : m = numM 4611686018427387903 L p) :
    Calls Try.prog 80 #[.pointer (some ⟨kt, 0, none⟩)] w fun e w' => e = .returned (.tuple #[.int .i64 (((m.2.1 : Nat) : Int)), .int .i64 ((m.1 : Int))]) ∧ TpAt w' kt v (bitsOf L) m.2.2 ∧ Only [kt] w w' := by
  subst hm
  exact tvar_calls kt v L p w h
end Go.Proofs.Ytedhdmahdioboaa
/- gyreref.Apply: its switch. -/
namespace Go.Proofs.Ytedhdmahdioboaa
open Go.ChangeShapes Go.WideShapes Go.ChangeAt Go.RowKit
set_option linter.unusedVariables false
set_option linter.unusedSimpArgs false

def blockOf (n : Nat) : Code → Option Code
  | .block k c => if k = n then some (.block k c) else blockOf n c
  | .seq a b => match blockOf n a with
    | some c => some c
    | none => blockOf n b
  | .cond _ a b => match blockOf n a with
    | some c => some c
    | none => blockOf n b
  | .loop c => blockOf n c
  | _ => none
def code4 (f : Func) : Code := ((f.body.bind (blockOf 4)).getD .skip)
/-- A seen one's numbers lie there. -/
def SnC (ks : Nat) (s : Sn) (w' : World) : Prop := ∀ k, k < 11 → w'.cell? ⟨ks, 0 + k, none⟩ = some (sc s k)
theorem SnC.drew {ks : Nat} {s : Sn} {w' : World} (h : SnC ks s w') : SnC ks s w'.drew := fun k hk => h k hk
theorem SnC.only {ks : Nat} {s : Sn} {w' w'' : World} (h : SnC ks s w') (o : Only [] w' w'') : SnC ks s w'' := fun k hk => o.cell (h k hk) (by simp)
theorem step_known {o : Oper} {a : Act} {w w' : World} {v : Value} {K : Act → World → Prop} {Q : Exit → Act → World → Prop} (hr : (execOp a.eval o).run Try.prog w = .ok (.value v) w') (hK : K (a.put o.dst v) w') : Oper.wp Try.prog o a w K Q := by
  unfold Oper.wp
  rw [hr]
  exact hK
theorem run_build0 {ρ : Operand → Value} {o : Oper} (ho : o.op = .buildSlice 56 0 #[]) (w : World) : (execOp ρ o).run Try.prog w = .ok (.value (.slice (some ⟨w.heap.size, 0, none⟩) 0 0)) (w.alloc (.cells #[] 116)) := by
  unfold execOp
  rw [ho]
  go_simp
theorem run_build1 {ρ : Operand → Value} {o : Oper} {x : Operand} {s : Sn} (ho : o.op = .buildSlice 56 1 #[(0, x)]) (hx : ρ x = .agg #[.int .i64 (s.id), .int .i64 (s.kd), .int .i64 (s.sx), .int .i64 (s.sy), .int .i64 (s.sz), .int .i64 (s.ax), .int .i64 (s.ay), .int .i64 (s.az), .int .i64 (s.vx), .int .i64 (s.vy), .int .i64 (s.vz)]) (w : World) : (execOp ρ o).run Try.prog w = .ok (.value (.slice (some ⟨w.heap.size, 0, none⟩) 1 1)) (w.alloc (.cells #[.int .i64 (s.id), .int .i64 (s.kd), .int .i64 (s.sx), .int .i64 (s.sy), .int .i64 (s.sz), .int .i64 (s.ax), .int .i64 (s.ay), .int .i64 (s.az), .int .i64 (s.vx), .int .i64 (s.vy), .int .i64 (s.vz)] 116)) := by
  unfold execOp
  rw [ho]
  simp only [List.map_toArray, List.map_cons, List.map_nil, hx]
  go_simp
/-- What a round leaves. -/
def SwQ (F : List Sn) (L : List Nat) (w : World) (kt k6 k7 k8 : Nat) (v : Value) (idv : Int) (q : Nat) (nv : Value) (wz : World) : Prop := ∃ (N : List Sn) (b : Bool) (p : Nat), RA w kt k6 k7 k8 v L b p nv N wz ∧ WayR F L N b idv p ∧ N.length ≤ 121 ∧ q ≤ p
theorem SwQ.of {F : List Sn} {L : List Nat} {w : World} {kt k6 k7 k8 : Nat} {v : Value} {idv : Int} {q : Nat} {nv : Value} {wz : World} {N : List Sn} {b : Bool} {p : Nat} (h1 : RA w kt k6 k7 k8 v L b p nv N wz) (h2 : WayR F L N b idv p) (h3 : N.length ≤ 121) (h4 : q ≤ p) : SwQ F L w kt k6 k7 k8 v idv q nv wz := ⟨N, b, p, h1, h2, h3, h4⟩
end Go.Proofs.Ytedhdmahdioboaa
/- gyreref.Apply: one that comes. -/
namespace Go.Proofs.Ytedhdmahdioboaa
open Go.ChangeShapes Go.WideShapes Go.ChangeAt Go.RowKit
set_option linter.unusedVariables false
set_option linter.unusedSimpArgs false

set_option maxRecDepth 1000000 in
set_option maxHeartbeats 0 in
theorem sw_A (F : List Sn) (L : List Nat) (w : World) (kt k6 k7 k8 : Nat) (v : Value) (N : List Sn) (la : Int) (p : Nat) (g : Nat × Int × Nat) (nn : Nat × Nat × Nat) (k : Nat) (idv : Int) (at_ : Nat) (th : Bool) (an : Option Addr) (cn : Nat) (wd : World) (c0 c1 c2 c3 c4 c5 c13 c16 c17 c18 c19 c20 c21 c22 c23 c24 c25 c26 c27 c28 c29 c30 c31 c32 c33 c34 c35 c36 c37 c38 c39 c40 c41 c42 c43 c44 c45 c46 c47 c48 c49 c50 c51 c52 c53 c54 c55 c56 c57 c58 c59 c60 c61 c62 c63 c64 c65 c66 c67 c68 c69 c70 c71 c72 c73 c74 c75 c76 c77 c78 c79 c80 c81 c82 c83 c84 c85 c86 c87 c88 c89 c90 c91 c92 c93 c94 c95 c96 c97 c98 c99 c100 c101 c102 c103 c104 c105 c106 c107 c108 c109 c110 c111 c112 c113 c114 c115 c116 c117 c118 c119 c120 c121 c122 c123 c124 c125 c126 c127 c128 c129 c130 c131 c132 c133 c134 c135 c136 c137 c138 c139 c140 c141 c142 c143 c144 c145 c146 c147 c148 c149 c150 c151 c152 c153 c154 c155 c156 c157 c158 c159 c160 c161 c162 c163 c164 c165 c166 c167 c168 c169 c170 c171 c172 c173 c174 c175 c176 c177 c178 c179 c180 c181 c182 c183 c184 c185 c186 c187 c188 c189 c190 c191 c192 c193 c194 c195 c196 c197 c198 c199 c200 c201 c202 c203 c204 c205 c206 c207 c208 c209 c210 c211 c212 c213 c214 c215 c216 c217 c218 c219 c220 c221 c222 c223 c224 c225 c226 c227 c228 c229 c230 c231 c232 : Value) (K K1 : Act → World → Prop) (Pf : Ending → World → Prop)
    (hk : k = 1) (hth : th = false) (HG : Hid (g = getM L p 2)) (HNN : Hid (nn = numM 4611686018427387903 L g.2.2)) (HID : Hid (idv = wrap64 (la + wrap64 (((nn.2.1 : Nat) : Int) + 1)))) (HAT : Hid (AtR N idv at_)) (HK : Hid (k < 4 ∧ g.2.1 = (k : Int) ∧ (g.1 = 0 → g.2.2 = p + 2))) (HB2 : Hid ((false || decide (g.1 ≠ 0) || decide (nn.1 ≠ 0)) = false))
    (HSN : Hid (SeenAt wd an N.length (fun j => N.getD j zs) ∧ N.length ≤ cn)) (HAN : Hid (an = none → cn = 0)) (H2 : Hid (RA w kt k6 k7 k8 v L false nn.2.2 (.slice an N.length cn) N wd)) (HN120 : Hid (N.length ≤ 120)) (HTH : Hid (thereR N idv at_ = th)) (HW : Hid (WayR F L N false la p ∧ N.length ≤ 121)) (hat0 : at_ ≤ N.length)
    (hK : ∀ (u4 u5 u16 u17 u18 u19 u20 u35 u36 u37 u38 u39 u40 u41 u42 u43 u44 u45 u46 u47 u48 u49 u50 u51 u52 u53 u54 u55 u56 u57 u58 u59 u60 u61 u62 u63 u64 u65 u66 u67 u68 u69 u70 u71 u72 u73 u74 u75 u76 u77 u78 u79 u80 u81 u82 u83 u84 u85 u86 u87 u88 u89 u90 u91 u92 u93 u94 u95 u96 u97 u98 u99 u100 u101 u102 u103 u104 u105 u106 u107 u108 u109 u110 u111 u112 u113 u114 u115 u116 u117 u118 u119 u120 u121 u122 u123 u124 u125 u126 u127 u128 u129 u130 u131 u132 u133 u134 u135 u136 u137 u138 u139 u140 u141 u142 u143 u144 u145 u146 u147 u148 u149 u150 u151 u152 u153 u154 u155 u156 u157 u158 u159 u160 u161 u162 u163 u164 u165 u166 u167 u168 u169 u170 u171 u172 u173 u174 u175 u176 u177 u178 u179 u180 u181 u182 u183 u184 u185 u186 u187 u188 u189 u190 u191 u192 u193 u194 u195 u196 u197 u198 u199 u200 u201 u202 u203 u204 u205 u206 u207 u208 u209 u210 u211 u212 u213 : Value) (nv' : Value) (wz : World), SwQ F L w kt k6 k7 k8 v idv nn.2.2 nv' wz → K ⟨#[c0, c1, c2, c3, u4, u5, .pointer (some ⟨k6, 0, none⟩), .pointer (some ⟨k7, 0, none⟩), .pointer (some ⟨k8, 0, none⟩), .func (.func 83) #[] #[.pointer (some ⟨k8, 0, none⟩), .pointer (some ⟨k6, 0, none⟩)], nv', .int .i64 idv, .int .i64 (k : Int), c13, .int .i64 (at_ : Int), .bool th, u16, u17, u18, u19, u20, c21, c22, c23, c24, c25, c26, c27, c28, c29, c30, c31, c32, c33, c34, u35, u36, u37, u38, u39, u40, u41, u42, u43, u44, u45, u46, u47, u48, u49, u50, u51, u52, u53, u54, u55, u56, u57, u58, u59, u60, u61, u62, u63, u64, u65, u66, u67, u68, u69, u70, u71, u72, u73, u74, u75, u76, u77, u78, u79, u80, u81, u82, u83, u84, u85, u86, u87, u88, u89, u90, u91, u92, u93, u94, u95, u96, u97, u98, u99, u100, u101, u102, u103, u104, u105, u106, u107, u108, u109, u110, u111, u112, u113, u114, u115, u116, u117, u118, u119, u120, u121, u122, u123, u124, u125, u126, u127, u128, u129, u130, u131, u132, u133, u134, u135, u136, u137, u138, u139, u140, u141, u142, u143, u144, u145, u146, u147, u148, u149, u150, u151, u152, u153, u154, u155, u156, u157, u158, u159, u160, u161, u162, u163, u164, u165, u166, u167, u168, u169, u170, u171, u172, u173, u174, u175, u176, u177, u178, u179, u180, u181, u182, u183, u184, u185, u186, u187, u188, u189, u190, u191, u192, u193, u194, u195, u196, u197, u198, u199, u200, u201, u202, u203, u204, u205, u206, u207, u208, u209, u210, u211, u212, u213, c214, c215, c216, c217, c218, c219, c220, c221, c222, c223, c224, c225, c226, c227, c228, c229, c230, c231, c232], []⟩ wz) :
    Code.wp Try.prog (code4 Try.f52) (Exit.inBlock 1 (Exit.then K (Exit.inBlock 0 (Exit.then K1 (bodyPost Try.prog Try.f52 Pf))))) ⟨#[c0, c1, c2, c3, c4, c5, .pointer (some ⟨k6, 0, none⟩), .pointer (some ⟨k7, 0, none⟩), .pointer (some ⟨k8, 0, none⟩), .func (.func 83) #[] #[.pointer (some ⟨k8, 0, none⟩), .pointer (some ⟨k6, 0, none⟩)], .slice an N.length cn, .int .i64 idv, .int .i64 (k : Int), c13, .int .i64 (at_ : Int), .bool th, c16, c17, c18, c19, c20, c21, c22, c23, c24, c25, c26, c27, c28, c29, c30, c31, c32, c33, c34, c35, c36, c37, c38, c39, c40, c41, c42, c43, c44, c45, c46, c47, c48, c49, c50, c51, c52, c53, c54, c55, c56, c57, c58, c59, c60, c61, c62, c63, c64, c65, c66, c67, c68, c69, c70, c71, c72, c73, c74, c75, c76, c77, c78, c79, c80, c81, c82, c83, c84, c85, c86, c87, c88, c89, c90, c91, c92, c93, c94, c95, c96, c97, c98, c99, c100, c101, c102, c103, c104, c105, c106, c107, c108, c109, c110, c111, c112, c113, c114, c115, c116, c117, c118, c119, c120, c121, c122, c123, c124, c125, c126, c127, c128, c129, c130, c131, c132, c133, c134, c135, c136, c137, c138, c139, c140, c141, c142, c143, c144, c145, c146, c147, c148, c149, c150, c151, c152, c153, c154, c155, c156, c157, c158, c159, c160, c161, c162, c163, c164, c165, c166, c167, c168, c169, c170, c171, c172, c173, c174, c175, c176, c177, c178, c179, c180, c181, c182, c183, c184, c185, c186, c187, c188, c189, c190, c191, c192, c193, c194, c195, c196, c197, c198, c199, c200, c201, c202, c203, c204, c205, c206, c207, c208, c209, c210, c211, c212, c213, c214, c215, c216, c217, c218, c219, c220, c221, c222, c223, c224, c225, c226, c227, c228, c229, c230, c231, c232], []⟩ wd := by
  have hmf : ∀ (fn : Fn) (first cap : Array Value) (w : World), (Instr.makeFunc fn first cap).run Try.prog w = .ok (.func fn first cap) w := fun _ _ _ _ => rfl
  subst hk hth
  have hN121 := HW.out.2
  conv => arg 2; whnf
  have hac : at_ ≤ cn := by have := HSN.out.2; omega
  have htl : (N.take at_).length = at_ := by rw [List.length_take]; omega
  have han := HAN.out
  obtain ⟨g3, hg3⟩ : ∃ g3, g3 = getM L nn.2.2 3 := ⟨_, rfl⟩
  have HG3 : Hid (g3 = getM L nn.2.2 3) := hg3
  clear hg3
  have hone : (#[.int .i64 idv, .int .i64 (g3.2.1), .int .i64 0, .int .i64 0, .int .i64 0, .int .i64 0, .int .i64 0, .int .i64 0, .int .i64 0, .int .i64 0, .int .i64 0] : Array Value).all (·.oneCell') = true := by simp [Value.oneCell']
  go_upto_region 22 with fail
  go_cut [16] from 35 to 213 (fun s16 wx => ∃ ks, s16 = .pointer (some ⟨ks, 0, none⟩) ∧ Hid (RS1 w kt k6 k7 k8 v L (false || decide (g3.1 ≠ 0)) (g3.2.2) (.slice an N.length cn) N ks ({ zs with id := idv, kd := g3.2.1 }) wx))
  case first =>
    have c6 := H2.out.rz.c6; have c8 := H2.out.rz.c8
    refine wp_region_held_drew (S := (fun w' => w'.cell? ⟨k6, 0, none⟩ = some (.pointer (some ⟨kt, 0, none⟩)) ∧ w'.cell? ⟨k8, 0, none⟩ = some (.func (.func 82) #[] #[.pointer (some ⟨k7, 0, none⟩)]))) (by kernel_rfl) ?_ (fun hHeld1 => ?_)
    · (try dsimp only); exact ⟨c6, c8⟩
    refine tkW 0 rfl ?_; refine tkW 1 rfl ?_; refine tkW 2 rfl ?_
    try simp only [Act.put, List.setIfInBounds_toArray, List.set_cons_zero, List.set_cons_succ, List.getElem_toArray, List.getElem_cons_succ, List.getElem_cons_zero]
    clear c6 c8
    refine wpAnyH_ready (rs := [3, 8]) (by kernel_rfl) (by simp) ?_
    refine AllReadyH.cons rfl (fun K hK => ?_) (AllReadyH.cons rfl (fun K hK => ?_) AllReadyH.nil)
    · skip
      first | (with_reducible refine iteYes ?hcx ?htx; case hcx => kernel_rfl) | rw [if_pos (by rfl)]
      simp only [List.getElem_toArray, List.getElem_cons_succ, List.getElem_cons_zero]
      go_simp
      go_at_call 81
      refine (tgetN_calls kt v L _ 3 _ (H2.out.keep (Only.refl _ _).drew).rz.tp g3 HG3.out).mono ?_
      rintro e x1a ⟨rfl, h3, o3⟩
      try go_wp2_with fail
      have HT : Hid (RA w kt k6 k7 k8 v L (false) (g3.2.2) (.slice an N.length cn) N x1a) := (H2.out.keep (Only.refl _ _).drew).read h3 o3
      refine hK.out _ _ ?_ (fun hHx => ?_)
      · exact ⟨HT.out.rz.c6, HT.out.rz.c8⟩
      clear hK K h3 o3
      try simp only [Act.put, List.setIfInBounds_toArray, List.set_cons_zero, List.set_cons_succ, List.getElem_toArray, List.getElem_cons_succ, List.getElem_cons_zero]
      refine tkW 4 rfl ?_; refine tkW 5 rfl ?_
      try simp only [Act.put, List.setIfInBounds_toArray, List.set_cons_zero, List.set_cons_succ, List.getElem_toArray, List.getElem_cons_succ, List.getElem_cons_zero]
      refine wpAnyH_ready (rs := [6, 8]) (by kernel_rfl) (by simp) ?_
      refine AllReadyH.cons rfl (fun K hK => ?_) (AllReadyH.cons rfl (fun K hK => ?_) AllReadyH.nil)
      · skip
        first | (with_reducible refine iteYes ?hcx ?htx; case hcx => kernel_rfl) | rw [if_pos (by rfl)]
        simp only [List.getElem_toArray, List.getElem_cons_succ, List.getElem_cons_zero]
        go_simp
        go_at_call 82
        refine (numZ_calls g3.2.1 g3.1 _ k7 x1a HT.out.rz.b7).mono ?_
        rintro e x2b ⟨rfl, h4, o4⟩
        try go_wp2_with fail
        have HU : Hid (RA w kt k6 k7 k8 v L (false || decide (g3.1 ≠ 0)) (g3.2.2) (.slice an N.length cn) N x2b) := HT.out.mark h4 o4
        refine hK.out _ _ ?_ (fun hHx => ?_)
        · exact ⟨HU.out.rz.c6, HU.out.rz.c8⟩
        clear hK K h4 o4
        try simp only [Act.put, List.setIfInBounds_toArray, List.set_cons_zero, List.set_cons_succ, List.getElem_toArray, List.getElem_cons_succ, List.getElem_cons_zero]
        refine tkW 7 rfl ?_
        try simp only [Act.put, List.setIfInBounds_toArray, List.set_cons_zero, List.set_cons_succ, List.getElem_toArray, List.getElem_cons_succ, List.getElem_cons_zero]
        refine wpAnyH_ready (rs := [8]) (by kernel_rfl) (by simp) ?_
        refine AllReadyH.cons rfl (fun K hK => ?_) AllReadyH.nil
        first | (with_reducible refine iteYes ?hcx ?htx; case hcx => kernel_rfl) | rw [if_pos (by rfl)]
        simp only [List.getElem_toArray, List.getElem_cons_succ, List.getElem_cons_zero]
        go_simp
        have HS : Hid (RS1 w kt k6 k7 k8 v L (false || decide (g3.1 ≠ 0)) (g3.2.2) (.slice an N.length cn) N x2b.heap.size (zs) (x2b.alloc (.cells #[.int .i64 0, .int .i64 0, .int .i64 0, .int .i64 0, .int .i64 0, .int .i64 0, .int .i64 0, .int .i64 0, .int .i64 0, .int .i64 0, .int .i64 0] 116))) := RS1.new HU.out zs
        refine hK.out _ _ ?_ (fun hHx => ?_)
        · exact ⟨HS.out.ra.rz.c6, HS.out.ra.rz.c8⟩
        clear hK K
        try simp only [Act.put, List.setIfInBounds_toArray, List.set_cons_zero, List.set_cons_succ, List.getElem_toArray, List.getElem_cons_succ, List.getElem_cons_zero]
        revert HS hHx
        generalize x2b.heap.size = ks
        generalize World.alloc x2b _ = x3c
        intro HS hHx
        have HF : Hid (RS1 w kt k6 k7 k8 v L (false || decide (g3.1 ≠ 0)) (g3.2.2) (.slice an N.length cn) N ks ({ zs with id := idv, kd := g3.2.1 }) (x3c.setCells ks 0 (#[.int .i64 idv, .int .i64 (g3.2.1), .int .i64 0, .int .i64 0, .int .i64 0, .int .i64 0, .int .i64 0, .int .i64 0, .int .i64 0, .int .i64 0, .int .i64 0] : Array Value).toList)) := HS.out.cells { zs with id := idv, kd := g3.2.1 }
        have HTHR : Hid (x3c.there ks 0 11) := HS.out.there
        refine wpAnyH_ready (rs := [9]) (by kernel_rfl) (by simp) ?_
        refine AllReadyH.cons rfl (fun K hK => ?_) AllReadyH.nil
        first | (with_reducible refine iteYes ?hcx ?htx; case hcx => kernel_rfl) | rw [if_pos (by rfl)]
        refine wp_store_mid 116 (.tmp 16) (.tmp 110) rfl ks 0 #[.int .i64 idv, .int .i64 (g3.2.1), .int .i64 0, .int .i64 0, .int .i64 0, .int .i64 0, .int .i64 0, .int .i64 0, .int .i64 0, .int .i64 0, .int .i64 0] (by kernel_rfl) (by kernel_rfl) HTHR.out refSize hone ?_
        refine hK.out _ _ ?_ (fun hHx => ?_)
        · exact ⟨HF.out.ra.rz.c6, HF.out.ra.rz.c8⟩
        clear hK K HTHR
        try simp only [Act.put, List.setIfInBounds_toArray, List.set_cons_zero, List.set_cons_succ, List.getElem_toArray, List.getElem_cons_succ, List.getElem_cons_zero]
        refine wpAnyH_done (by kernel_rfl) ?_ _
        generalize World.setCells x3c ks 0 _ = wz at HF ⊢
        go_wp2_with fail
        go_meet
        case rel => exact ⟨ks, rfl, HF⟩
      · skip
        first | (with_reducible refine iteYes ?hcx ?htx; case hcx => kernel_rfl) | rw [if_pos (by rfl)]
        simp only [List.getElem_toArray, List.getElem_cons_succ, List.getElem_cons_zero]
        go_simp
        have HS : Hid (RS1 w kt k6 k7 k8 v L (false) (g3.2.2) (.slice an N.length cn) N x1a.heap.size (zs) (x1a.alloc (.cells #[.int .i64 0, .int .i64 0, .int .i64 0, .int .i64 0, .int .i64 0, .int .i64 0, .int .i64 0, .int .i64 0, .int .i64 0, .int .i64 0, .int .i64 0] 116))) := RS1.new HT.out zs
        refine hK.out _ _ ?_ (fun hHx => ?_)
        · exact ⟨HS.out.ra.rz.c6, HS.out.ra.rz.c8⟩
        clear hK K
        try simp only [Act.put, List.setIfInBounds_toArray, List.set_cons_zero, List.set_cons_succ, List.getElem_toArray, List.getElem_cons_succ, List.getElem_cons_zero]
        revert HS hHx
        generalize x1a.heap.size = ks
        generalize World.alloc x1a _ = x2b
        intro HS hHx
        refine wpAnyH_ready (rs := [6]) (by kernel_rfl) (by simp) ?_
        refine AllReadyH.cons rfl (fun K hK => ?_) AllReadyH.nil
        first | (with_reducible refine iteYes ?hcx ?htx; case hcx => kernel_rfl) | rw [if_pos (by rfl)]
        simp only [List.getElem_toArray, List.getElem_cons_succ, List.getElem_cons_zero]
        go_simp
        go_at_call 82
        refine (numZ_calls g3.2.1 g3.1 _ k7 x2b HS.out.ra.rz.b7).mono ?_
        rintro e x3c ⟨rfl, h4, o4⟩
        try go_wp2_with fail
        have HU : Hid (RS1 w kt k6 k7 k8 v L (false || decide (g3.1 ≠ 0)) (g3.2.2) (.slice an N.length cn) N ks (zs) x3c) := HS.out.mark h4 o4
        refine hK.out _ _ ?_ (fun hHx => ?_)
        · exact ⟨HU.out.ra.rz.c6, HU.out.ra.rz.c8⟩
        clear hK K h4 o4
        try simp only [Act.put, List.setIfInBounds_toArray, List.set_cons_zero, List.set_cons_succ, List.getElem_toArray, List.getElem_cons_succ, List.getElem_cons_zero]
        refine tkW 7 rfl ?_
        try simp only [Act.put, List.setIfInBounds_toArray, List.set_cons_zero, List.set_cons_succ, List.getElem_toArray, List.getElem_cons_succ, List.getElem_cons_zero]
        have HF : Hid (RS1 w kt k6 k7 k8 v L (false || decide (g3.1 ≠ 0)) (g3.2.2) (.slice an N.length cn) N ks ({ zs with id := idv, kd := g3.2.1 }) (x3c.setCells ks 0 (#[.int .i64 idv, .int .i64 (g3.2.1), .int .i64 0, .int .i64 0, .int .i64 0, .int .i64 0, .int .i64 0, .int .i64 0, .int .i64 0, .int .i64 0, .int .i64 0] : Array Value).toList)) := HU.out.cells { zs with id := idv, kd := g3.2.1 }
        have HTHR : Hid (x3c.there ks 0 11) := HU.out.there
        refine wpAnyH_ready (rs := [9]) (by kernel_rfl) (by simp) ?_
        refine AllReadyH.cons rfl (fun K hK => ?_) AllReadyH.nil
        first | (with_reducible refine iteYes ?hcx ?htx; case hcx => kernel_rfl) | rw [if_pos (by rfl)]
        refine wp_store_mid 116 (.tmp 16) (.tmp 110) rfl ks 0 #[.int .i64 idv, .int .i64 (g3.2.1), .int .i64 0, .int .i64 0, .int .i64 0, .int .i64 0, .int .i64 0, .int .i64 0, .int .i64 0, .int .i64 0, .int .i64 0] (by kernel_rfl) (by kernel_rfl) HTHR.out refSize hone ?_
        refine hK.out _ _ ?_ (fun hHx => ?_)
        · exact ⟨HF.out.ra.rz.c6, HF.out.ra.rz.c8⟩
        clear hK K HTHR
        try simp only [Act.put, List.setIfInBounds_toArray, List.set_cons_zero, List.set_cons_succ, List.getElem_toArray, List.getElem_cons_succ, List.getElem_cons_zero]
        refine wpAnyH_done (by kernel_rfl) ?_ _
        generalize World.setCells x3c ks 0 _ = wz at HF ⊢
        go_wp2_with fail
        go_meet
        case rel => exact ⟨ks, rfl, HF⟩
    · skip
      first | (with_reducible refine iteYes ?hcx ?htx; case hcx => kernel_rfl) | rw [if_pos (by rfl)]
      simp only [List.getElem_toArray, List.getElem_cons_succ, List.getElem_cons_zero]
      go_simp
      have HS : Hid (RS1 w kt k6 k7 k8 v L (false) (nn.2.2) (.slice an N.length cn) N wd.heap.size (zs) (wd.alloc (.cells #[.int .i64 0, .int .i64 0, .int .i64 0, .int .i64 0, .int .i64 0, .int .i64 0, .int .i64 0, .int .i64 0, .int .i64 0, .int .i64 0, .int .i64 0] 116)).drew) := (RS1.new H2.out zs).keep (Only.refl _ _).drew
      refine hK.out _ _ ?_ (fun hHx => ?_)
      · exact ⟨HS.out.ra.rz.c6, HS.out.ra.rz.c8⟩
      clear hK K
      try simp only [Act.put, List.setIfInBounds_toArray, List.set_cons_zero, List.set_cons_succ, List.getElem_toArray, List.getElem_cons_succ, List.getElem_cons_zero]
      revert HS hHx
      generalize wd.heap.size = ks
      generalize World.drew (World.alloc wd _) = x1a
      intro HS hHx
      refine wpAnyH_ready (rs := [3]) (by kernel_rfl) (by simp) ?_
      refine AllReadyH.cons rfl (fun K hK => ?_) AllReadyH.nil
      first | (with_reducible refine iteYes ?hcx ?htx; case hcx => kernel_rfl) | rw [if_pos (by rfl)]
      simp only [List.getElem_toArray, List.getElem_cons_succ, List.getElem_cons_zero]
      go_simp
      go_at_call 81
      refine (tgetN_calls kt v L _ 3 _ HS.out.ra.rz.tp g3 HG3.out).mono ?_
      rintro e x2b ⟨rfl, h3, o3⟩
      try go_wp2_with fail
      have HT : Hid (RS1 w kt k6 k7 k8 v L (false) (g3.2.2) (.slice an N.length cn) N ks (zs) x2b) := HS.out.read h3 o3
      refine hK.out _ _ ?_ (fun hHx => ?_)
      · exact ⟨HT.out.ra.rz.c6, HT.out.ra.rz.c8⟩
      clear hK K h3 o3
      try simp only [Act.put, List.setIfInBounds_toArray, List.set_cons_zero, List.set_cons_succ, List.getElem_toArray, List.getElem_cons_succ, List.getElem_cons_zero]
      refine tkW 4 rfl ?_; refine tkW 5 rfl ?_
      try simp only [Act.put, List.setIfInBounds_toArray, List.set_cons_zero, List.set_cons_succ, List.getElem_toArray, List.getElem_cons_succ, List.getElem_cons_zero]
      refine wpAnyH_ready (rs := [6]) (by kernel_rfl) (by simp) ?_
      refine AllReadyH.cons rfl (fun K hK => ?_) AllReadyH.nil
      first | (with_reducible refine iteYes ?hcx ?htx; case hcx => kernel_rfl) | rw [if_pos (by rfl)]
      simp only [List.getElem_toArray, List.getElem_cons_succ, List.getElem_cons_zero]
      go_simp
      go_at_call 82
      refine (numZ_calls g3.2.1 g3.1 _ k7 x2b HT.out.ra.rz.b7).mono ?_
      rintro e x3c ⟨rfl, h4, o4⟩
      try go_wp2_with fail
      have HU : Hid (RS1 w kt k6 k7 k8 v L (false || decide (g3.1 ≠ 0)) (g3.2.2) (.slice an N.length cn) N ks (zs) x3c) := HT.out.mark h4 o4
      refine hK.out _ _ ?_ (fun hHx => ?_)
      · exact ⟨HU.out.ra.rz.c6, HU.out.ra.rz.c8⟩
      clear hK K h4 o4
      try simp only [Act.put, List.setIfInBounds_toArray, List.set_cons_zero, List.set_cons_succ, List.getElem_toArray, List.getElem_cons_succ, List.getElem_cons_zero]
      refine tkW 7 rfl ?_
      try simp only [Act.put, List.setIfInBounds_toArray, List.set_cons_zero, List.set_cons_succ, List.getElem_toArray, List.getElem_cons_succ, List.getElem_cons_zero]
      have HF : Hid (RS1 w kt k6 k7 k8 v L (false || decide (g3.1 ≠ 0)) (g3.2.2) (.slice an N.length cn) N ks ({ zs with id := idv, kd := g3.2.1 }) (x3c.setCells ks 0 (#[.int .i64 idv, .int .i64 (g3.2.1), .int .i64 0, .int .i64 0, .int .i64 0, .int .i64 0, .int .i64 0, .int .i64 0, .int .i64 0, .int .i64 0, .int .i64 0] : Array Value).toList)) := HU.out.cells { zs with id := idv, kd := g3.2.1 }
      have HTHR : Hid (x3c.there ks 0 11) := HU.out.there
      refine wpAnyH_ready (rs := [9]) (by kernel_rfl) (by simp) ?_
      refine AllReadyH.cons rfl (fun K hK => ?_) AllReadyH.nil
      first | (with_reducible refine iteYes ?hcx ?htx; case hcx => kernel_rfl) | rw [if_pos (by rfl)]
      refine wp_store_mid 116 (.tmp 16) (.tmp 110) rfl ks 0 #[.int .i64 idv, .int .i64 (g3.2.1), .int .i64 0, .int .i64 0, .int .i64 0, .int .i64 0, .int .i64 0, .int .i64 0, .int .i64 0, .int .i64 0, .int .i64 0] (by kernel_rfl) (by kernel_rfl) HTHR.out refSize hone ?_
      refine hK.out _ _ ?_ (fun hHx => ?_)
      · exact ⟨HF.out.ra.rz.c6, HF.out.ra.rz.c8⟩
      clear hK K HTHR
      try simp only [Act.put, List.setIfInBounds_toArray, List.set_cons_zero, List.set_cons_succ, List.getElem_toArray, List.getElem_cons_succ, List.getElem_cons_zero]
      refine wpAnyH_done (by kernel_rfl) ?_ _
      generalize World.setCells x3c ks 0 _ = wz at HF ⊢
      go_wp2_with fail
      go_meet
      case rel => exact ⟨ks, rfl, HF⟩
  case rest =>
    obtain ⟨ks, rfl, H6⟩ := hcut
    generalize wc = w6 at H6 ⊢
    obtain ⟨x1, hx1⟩ : ∃ x, x = rKd L ({ zs with id := idv }, false, nn.2.2) := ⟨_, rfl⟩
    have H7 : Hid (RS1 w kt k6 k7 k8 v L (x1.2.1) (x1.2.2) (.slice an N.length cn) N ks (x1.1) w6) := by
      rw [hx1]
      unfold rKd
      rw [← HG3.out]
      exact H6.out
    have Dx1 : Hid (x1 = rKd L ({ zs with id := idv }, false, nn.2.2)) := hx1
    clear hx1 H6
    have z2 := H7.out.sn.off 2
    have z3 := H7.out.sn.off 3
    have z4 := H7.out.sn.off 4
    simp only [List.getElem?_toArray, List.getElem?_cons_succ, List.getElem?_cons_zero] at z2 z3 z4
    go_wp2_with fail
    refine (vecZ_calls w kt k6 k7 k8 v L _ _ _ _ _ _ H7.out.ra.rz).mono ?_
    rintro e wv ⟨rfl, hz, oz⟩
    have HV : Hid (RS1 w kt k6 k7 k8 v L (x1.2.1 || vecE L x1.2.2) (vecP L x1.2.2) (.slice an N.length cn) N ks (x1.1) wv) := H7.out.vec hz oz
    clear hz oz z2 z3 z4
    have z2 := HV.out.sn.off 2; have y2 := HV.out.sn.free 2
    have z3 := HV.out.sn.off 3; have y3 := HV.out.sn.free 3
    have z4 := HV.out.sn.off 4; have y4 := HV.out.sn.free 4
    simp only [List.getElem?_toArray, List.getElem?_cons_succ, List.getElem?_cons_zero] at z2 z3 z4
    go_upto_region 24 with fail
    have H9X : Hid (RS1 w kt k6 k7 k8 v L (x1.2.1 || vecE L x1.2.2) (vecP L x1.2.2) (.slice an N.length cn) N ks ({ x1.1 with sx := wrap64 (x1.1.sx + (vec3 L x1.2.2).1), sy := wrap64 (x1.1.sy + (vec3 L x1.2.2).2.1), sz := wrap64 (x1.1.sz + (vec3 L x1.2.2).2.2) }) (((wv.setCell ⟨ks, 2, none⟩ (.int .i64 (wrap64 (x1.1.sx + (vec3 L x1.2.2).1)))).setCell ⟨ks, 3, none⟩ (.int .i64 (wrap64 (x1.1.sy + (vec3 L x1.2.2).2.1)))).setCell ⟨ks, 4, none⟩ (.int .i64 (wrap64 (x1.1.sz + (vec3 L x1.2.2).2.2))))) := HV.out.put (HV.out.sn.putS _ _ _) (only_put3 ks 2 _ _ _)
    have HN1 : Hid (RS1 w kt k6 k7 k8 v L ((rS L zs x1).2.1) ((rS L zs x1).2.2) (.slice an N.length cn) N ks ((rS L zs x1).1) (((wv.setCell ⟨ks, 2, none⟩ (.int .i64 (wrap64 (x1.1.sx + (vec3 L x1.2.2).1)))).setCell ⟨ks, 3, none⟩ (.int .i64 (wrap64 (x1.1.sy + (vec3 L x1.2.2).2.1)))).setCell ⟨ks, 4, none⟩ (.int .i64 (wrap64 (x1.1.sz + (vec3 L x1.2.2).2.2))))) := by
      have h9 := H9X.out
      obtain ⟨e1, e2, e3⟩ := (show x1.1.sx = zs.sx ∧ x1.1.sy = zs.sy ∧ x1.1.sz = zs.sz by rw [Dx1.out]; exact ⟨rfl, rfl, rfl⟩)
      unfold rS
      rw [← e1, ← e2, ← e3]
      exact h9
    clear HV H9X H7 z2 y2 z3 y3 z4 y4
    generalize (((wv.setCell ⟨ks, 2, none⟩ (.int .i64 (wrap64 (x1.1.sx + (vec3 L x1.2.2).1)))).setCell ⟨ks, 3, none⟩ (.int .i64 (wrap64 (x1.1.sy + (vec3 L x1.2.2).2.1)))).setCell ⟨ks, 4, none⟩ (.int .i64 (wrap64 (x1.1.sz + (vec3 L x1.2.2).2.2)))) = wg at HN1 ⊢
    obtain ⟨x2, hx2⟩ : ∃ x, x = rS L zs x1 := ⟨_, rfl⟩
    rw [← hx2] at HN1
    have Dx2 : Hid (x2 = rS L zs x1) := hx2
    clear hx2
    have H8 := HN1
    clear HN1
    have z5 := H8.out.sn.off 5
    have z6 := H8.out.sn.off 6
    have z7 := H8.out.sn.off 7
    simp only [List.getElem?_toArray, List.getElem?_cons_succ, List.getElem?_cons_zero] at z5 z6 z7
    go_wp2_with fail
    refine (vecZ_calls w kt k6 k7 k8 v L _ _ _ _ _ _ H8.out.ra.rz).mono ?_
    rintro e wv ⟨rfl, hz, oz⟩
    have HV : Hid (RS1 w kt k6 k7 k8 v L (x2.2.1 || vecE L x2.2.2) (vecP L x2.2.2) (.slice an N.length cn) N ks (x2.1) wv) := H8.out.vec hz oz
    clear hz oz z5 z6 z7
    have z5 := HV.out.sn.off 5; have y5 := HV.out.sn.free 5
    have z6 := HV.out.sn.off 6; have y6 := HV.out.sn.free 6
    have z7 := HV.out.sn.off 7; have y7 := HV.out.sn.free 7
    simp only [List.getElem?_toArray, List.getElem?_cons_succ, List.getElem?_cons_zero] at z5 z6 z7
    go_upto_region 25 with fail
    have H9X : Hid (RS1 w kt k6 k7 k8 v L (x2.2.1 || vecE L x2.2.2) (vecP L x2.2.2) (.slice an N.length cn) N ks ({ x2.1 with ax := wrap64 (x2.1.ax + (vec3 L x2.2.2).1), ay := wrap64 (x2.1.ay + (vec3 L x2.2.2).2.1), az := wrap64 (x2.1.az + (vec3 L x2.2.2).2.2) }) (((wv.setCell ⟨ks, 5, none⟩ (.int .i64 (wrap64 (x2.1.ax + (vec3 L x2.2.2).1)))).setCell ⟨ks, 6, none⟩ (.int .i64 (wrap64 (x2.1.ay + (vec3 L x2.2.2).2.1)))).setCell ⟨ks, 7, none⟩ (.int .i64 (wrap64 (x2.1.az + (vec3 L x2.2.2).2.2))))) := HV.out.put (HV.out.sn.putA _ _ _) (only_put3 ks 5 _ _ _)
    have HN1 : Hid (RS1 w kt k6 k7 k8 v L ((rA L zs x2).2.1) ((rA L zs x2).2.2) (.slice an N.length cn) N ks ((rA L zs x2).1) (((wv.setCell ⟨ks, 5, none⟩ (.int .i64 (wrap64 (x2.1.ax + (vec3 L x2.2.2).1)))).setCell ⟨ks, 6, none⟩ (.int .i64 (wrap64 (x2.1.ay + (vec3 L x2.2.2).2.1)))).setCell ⟨ks, 7, none⟩ (.int .i64 (wrap64 (x2.1.az + (vec3 L x2.2.2).2.2))))) := by
      have h9 := H9X.out
      obtain ⟨e1, e2, e3⟩ := (show x2.1.ax = zs.ax ∧ x2.1.ay = zs.ay ∧ x2.1.az = zs.az by rw [Dx2.out, Dx1.out]; exact ⟨rfl, rfl, rfl⟩)
      unfold rA
      rw [← e1, ← e2, ← e3]
      exact h9
    clear HV H9X H8 z5 y5 z6 y6 z7 y7
    generalize (((wv.setCell ⟨ks, 5, none⟩ (.int .i64 (wrap64 (x2.1.ax + (vec3 L x2.2.2).1)))).setCell ⟨ks, 6, none⟩ (.int .i64 (wrap64 (x2.1.ay + (vec3 L x2.2.2).2.1)))).setCell ⟨ks, 7, none⟩ (.int .i64 (wrap64 (x2.1.az + (vec3 L x2.2.2).2.2)))) = wh at HN1 ⊢
    obtain ⟨x3, hx3⟩ : ∃ x, x = rA L zs x2 := ⟨_, rfl⟩
    rw [← hx3] at HN1
    have Dx3 : Hid (x3 = rA L zs x2) := hx3
    clear hx3
    have H9 := HN1
    clear HN1
    have z8 := H9.out.sn.off 8
    have z9 := H9.out.sn.off 9
    have z10 := H9.out.sn.off 10
    simp only [List.getElem?_toArray, List.getElem?_cons_succ, List.getElem?_cons_zero] at z8 z9 z10
    go_wp2_with fail
    refine (vecZ_calls w kt k6 k7 k8 v L _ _ _ _ _ _ H9.out.ra.rz).mono ?_
    rintro e wv ⟨rfl, hz, oz⟩
    have HV : Hid (RS1 w kt k6 k7 k8 v L (x3.2.1 || vecE L x3.2.2) (vecP L x3.2.2) (.slice an N.length cn) N ks (x3.1) wv) := H9.out.vec hz oz
    clear hz oz z8 z9 z10
    have z8 := HV.out.sn.off 8; have y8 := HV.out.sn.free 8
    have z9 := HV.out.sn.off 9; have y9 := HV.out.sn.free 9
    have z10 := HV.out.sn.off 10; have y10 := HV.out.sn.free 10
    simp only [List.getElem?_toArray, List.getElem?_cons_succ, List.getElem?_cons_zero] at z8 z9 z10
    go_upto_region 26 with fail
    have H9X : Hid (RS1 w kt k6 k7 k8 v L (x3.2.1 || vecE L x3.2.2) (vecP L x3.2.2) (.slice an N.length cn) N ks ({ x3.1 with vx := wrap64 (x3.1.vx + (vec3 L x3.2.2).1), vy := wrap64 (x3.1.vy + (vec3 L x3.2.2).2.1), vz := wrap64 (x3.1.vz + (vec3 L x3.2.2).2.2) }) (((wv.setCell ⟨ks, 8, none⟩ (.int .i64 (wrap64 (x3.1.vx + (vec3 L x3.2.2).1)))).setCell ⟨ks, 9, none⟩ (.int .i64 (wrap64 (x3.1.vy + (vec3 L x3.2.2).2.1)))).setCell ⟨ks, 10, none⟩ (.int .i64 (wrap64 (x3.1.vz + (vec3 L x3.2.2).2.2))))) := HV.out.put (HV.out.sn.putV _ _ _) (only_put3 ks 8 _ _ _)
    have HN1 : Hid (RS1 w kt k6 k7 k8 v L ((rV L zs x3).2.1) ((rV L zs x3).2.2) (.slice an N.length cn) N ks ((rV L zs x3).1) (((wv.setCell ⟨ks, 8, none⟩ (.int .i64 (wrap64 (x3.1.vx + (vec3 L x3.2.2).1)))).setCell ⟨ks, 9, none⟩ (.int .i64 (wrap64 (x3.1.vy + (vec3 L x3.2.2).2.1)))).setCell ⟨ks, 10, none⟩ (.int .i64 (wrap64 (x3.1.vz + (vec3 L x3.2.2).2.2))))) := by
      have h9 := H9X.out
      obtain ⟨e1, e2, e3⟩ := (show x3.1.vx = zs.vx ∧ x3.1.vy = zs.vy ∧ x3.1.vz = zs.vz by rw [Dx3.out, Dx2.out, Dx1.out]; exact ⟨rfl, rfl, rfl⟩)
      unfold rV
      rw [← e1, ← e2, ← e3]
      exact h9
    clear HV H9X H9 z8 y8 z9 y9 z10 y10
    generalize (((wv.setCell ⟨ks, 8, none⟩ (.int .i64 (wrap64 (x3.1.vx + (vec3 L x3.2.2).1)))).setCell ⟨ks, 9, none⟩ (.int .i64 (wrap64 (x3.1.vy + (vec3 L x3.2.2).2.1)))).setCell ⟨ks, 10, none⟩ (.int .i64 (wrap64 (x3.1.vz + (vec3 L x3.2.2).2.2)))) = wi at HN1 ⊢
    obtain ⟨x4, hx4⟩ : ∃ x, x = rV L zs x3 := ⟨_, rfl⟩
    rw [← hx4] at HN1
    have Dx4 : Hid (x4 = rV L zs x3) := hx4
    clear hx4
    have H10 := HN1
    clear HN1
    have HSM : Hid (x4 = seenM L true true true idv zs false nn.2.2) := by show _ = _; rw [Dx4.out, Dx3.out, Dx2.out, Dx1.out]; rfl
    clear Dx1 Dx2 Dx3 Dx4
    obtain ⟨s, b4, p4⟩ := x4
    have hld : SnC ks s wi := fun k hk => by
      have h1 := H10.out.sn.off k
      rw [Nat.zero_add]
      exact h1.trans ((List.getElem?_toArray ..).trans (snL_at s k hk))
    have hdl : (N.drop at_).length = N.length - at_ := by rw [List.length_drop]
    have HDL : Hid ((N.drop at_).length ≤ cn - at_ ∧ (N.take at_ ++ [s]).length + (N.drop at_).length ≤ 1000000 ∧ (N.take at_).length + [s].length ≤ 1000000 ∧ (N.take at_).length ≤ cn ∧ ([] : List Sn).length + (N.take at_).length ≤ 1000000) := by have := HSN.out.2; exact ⟨by omega, by simp; omega, by simp; omega, by omega, by simp; omega⟩
    have HSI : Hid (SeenAt wi an N.length (fun j => N.getD j zs) ∧ N.length ≤ cn) := by
      obtain ⟨a', c', e, h1, h2⟩ := H10.out.ra.sv
      injection e with e1 _ e3
      subst e1 e3
      exact ⟨h2, h1⟩
    have HLD : Hid (SnC ks s wi) := hld
    refine wp_region_held_drew (S := (SnC ks s)) (by kernel_rfl) ?_ (fun hHeld1 => ?_)
    · (try dsimp only); exact hld.drew
    refine tkW 1 rfl ?_; refine tkW 2 rfl ?_
    try simp only [Act.put, List.setIfInBounds_toArray, List.set_cons_zero, List.set_cons_succ, List.getElem_toArray, List.getElem_cons_succ, List.getElem_cons_zero]
    refine tkW (v := .slice an at_ cn) 3 rfl ?_ (by intro w'' hSw; (try dsimp only at hSw); simp only [List.getElem_toArray, List.getElem_cons_succ, List.getElem_cons_zero]; exact (run_toS _ (Or.inr rfl) rfl rfl rfl hac))
    try simp only [Act.put, List.setIfInBounds_toArray, List.set_cons_zero, List.set_cons_succ, List.getElem_toArray, List.getElem_cons_succ, List.getElem_cons_zero]
    refine tkW (v := .agg #[.int .i64 (s.id), .int .i64 (s.kd), .int .i64 (s.sx), .int .i64 (s.sy), .int .i64 (s.sz), .int .i64 (s.ax), .int .i64 (s.ay), .int .i64 (s.az), .int .i64 (s.vx), .int .i64 (s.vy), .int .i64 (s.vz)]) 5 rfl ?_ (by intro w'' hSw; (try dsimp only at hSw); simp only [List.getElem_toArray, List.getElem_cons_succ, List.getElem_cons_zero]; exact (run_loadR rfl rfl hSw))
    try simp only [Act.put, List.setIfInBounds_toArray, List.set_cons_zero, List.set_cons_succ, List.getElem_toArray, List.getElem_cons_succ, List.getElem_cons_zero]
    refine tkW 8 rfl ?_; refine tkW 9 rfl ?_
    try simp only [Act.put, List.setIfInBounds_toArray, List.set_cons_zero, List.set_cons_succ, List.getElem_toArray, List.getElem_cons_succ, List.getElem_cons_zero]
    refine tkW (v := .slice (fromS an cn at_) (N.length - at_) (cn - at_)) 10 rfl ?_ (by intro w'' hSw; (try dsimp only at hSw); simp only [List.getElem_toArray, List.getElem_cons_succ, List.getElem_cons_zero]; exact (run_fromS _ (Or.inr rfl) rfl rfl rfl hat0))
    try simp only [Act.put, List.setIfInBounds_toArray, List.set_cons_zero, List.set_cons_succ, List.getElem_toArray, List.getElem_cons_succ, List.getElem_cons_zero]
    clear hld
    have O : Hid (Only [] wi wi.drew) := (Only.refl _ _).drew
    obtain ⟨sz, hsz⟩ : ∃ sz, sz = wi.heap.size := ⟨_, rfl⟩
    have HSZ : Hid (sz = wi.heap.size) := hsz
    clear hsz
    refine wpAnyH_ready (rs := [0, 6]) (by kernel_rfl) (by simp) ?_
    refine AllReadyH.cons rfl (fun K hK => ?_) (AllReadyH.cons rfl (fun K hK => ?_) AllReadyH.nil)
    · skip
      first | (with_reducible refine iteYes ?hcx ?htx; case hcx => kernel_rfl) | rw [if_pos (by rfl)]
      refine step_known (run_build0 rfl _) ?_
      have OX : Hid (Only [] wi (wi.drew.alloc (.cells #[] 116))) := O.out.alloc _
      refine hK.out _ _ ?_ (fun hHx => ?_)
      · exact HLD.out.only OX.out
      clear hK K
      try simp only [Act.put, List.setIfInBounds_toArray, List.set_cons_zero, List.set_cons_succ, List.getElem_toArray, List.getElem_cons_succ, List.getElem_cons_zero]
      have M : Hid ((wi.drew.alloc (.cells #[] 116)).ownsRow sz 116 11 (.slice (some ⟨wi.drew.heap.size, 0, none⟩) 0 0) ([] : List Sn).length (rowS []) ∧ True) := ⟨own_empty wi.drew sz (by rw [HSZ.out]; exact O.out.size), trivial⟩
      clear O
      revert OX hHx M
      generalize wi.drew.heap.size = kn
      generalize World.alloc wi.drew _ = y1a
      intro OX hHx M
      have O := OX
      clear OX
      refine wpAnyH_ready (rs := [4, 6]) (by kernel_rfl) (by simp) ?_
      refine AllReadyH.cons rfl (fun K hK => ?_) (AllReadyH.cons rfl (fun K hK => ?_) AllReadyH.nil)
      · skip
        obtain ⟨v1_, y2b, hr8, hown8, hgr8, _⟩ := run_appendS refT y1a sz 56 _ [] M.out.1 an cn (N.take at_) (seen_take (HSI.out.1.only O.out) at_) han HDL.out.2.2.2.1 HDL.out.2.2.2.2 (by rw [HSZ.out]; exact O.out.size)
        rw [htl] at hr8
        have OX : Hid (Only [] wi y2b) := O.out.grown hgr8 (fun k hk => Or.inr (by rw [← HSZ.out]; exact ownS_ge M.out.1 k hk))
        have R : Hid (y2b.ownsRow sz 116 11 v1_ (N.take at_).length (rowS (N.take at_))) := hown8
        clear hown8 hgr8 M O
        have O := OX
        clear OX
        first | (with_reducible refine iteYes ?hcx ?htx; case hcx => kernel_rfl) | rw [if_pos (by rfl)]
        refine step_append (s := .tmp 126) (x := .tmp 129) (t := 56) rfl (by kernel_rfl) (by kernel_rfl) hr8 ?_
        refine hK.out _ _ ?_ (fun hHx => ?_)
        · exact HLD.out.only O.out
        clear hK K hr8
        try simp only [Act.put, List.setIfInBounds_toArray, List.set_cons_zero, List.set_cons_succ, List.getElem_toArray, List.getElem_cons_succ, List.getElem_cons_zero]
        refine wpAnyH_ready (rs := [6]) (by kernel_rfl) (by simp) ?_
        refine AllReadyH.cons rfl (fun K hK => ?_) AllReadyH.nil
        first | (with_reducible refine iteYes ?hcx ?htx; case hcx => kernel_rfl) | rw [if_pos (by rfl)]
        refine step_known (run_build1 (s := s) rfl (by kernel_rfl) _) ?_
        have OX : Hid (Only [] wi (y2b.alloc (.cells #[.int .i64 (s.id), .int .i64 (s.kd), .int .i64 (s.sx), .int .i64 (s.sy), .int .i64 (s.sz), .int .i64 (s.ax), .int .i64 (s.ay), .int .i64 (s.az), .int .i64 (s.vx), .int .i64 (s.vy), .int .i64 (s.vz)] 116))) := O.out.alloc _
        refine hK.out _ _ ?_ (fun hHx => ?_)
        · exact HLD.out.only OX.out
        clear hK K
        try simp only [Act.put, List.setIfInBounds_toArray, List.set_cons_zero, List.set_cons_succ, List.getElem_toArray, List.getElem_cons_succ, List.getElem_cons_zero]
        have O1 : Hid (SeenAt (y2b.alloc (.cells #[.int .i64 (s.id), .int .i64 (s.kd), .int .i64 (s.sx), .int .i64 (s.sy), .int .i64 (s.sz), .int .i64 (s.ax), .int .i64 (s.ay), .int .i64 (s.az), .int .i64 (s.vx), .int .i64 (s.vy), .int .i64 (s.vz)] 116)) (some ⟨y2b.heap.size, 0, none⟩) [s].length (fun j => [s].getD j zs)) := seen_oneR y2b s
        have Rx : Hid ((y2b.alloc (.cells #[.int .i64 (s.id), .int .i64 (s.kd), .int .i64 (s.sx), .int .i64 (s.sy), .int .i64 (s.sz), .int .i64 (s.ax), .int .i64 (s.ay), .int .i64 (s.az), .int .i64 (s.vx), .int .i64 (s.vy), .int .i64 (s.vz)] 116)).ownsRow sz 116 11 v1_ (N.take at_).length (rowS (N.take at_))) := ownS_keep R.out ((Only.refl [] _).alloc _) (by simp)
        clear R
        have R := Rx
        clear Rx
        clear O
        revert OX hHx O1 R
        generalize y2b.heap.size = km
        generalize World.alloc y2b _ = y3c
        intro OX hHx O1 R
        have O := OX
        clear OX
        obtain ⟨v2, w2_, hr9, hown9, hgr9, _⟩ := run_appendS refT y3c sz 56 v1_ (N.take at_) R.out (some ⟨km, 0, none⟩) 1 [s] O1.out (fun e => by cases e) (by simp) HDL.out.2.2.1 (by rw [HSZ.out]; exact O.out.size)
        have O2 : Hid (Only [] wi w2_) := O.out.grown hgr9 (fun k hk => Or.inr (by rw [← HSZ.out]; exact ownS_ge R.out k hk))
        have R2 : Hid (w2_.ownsRow sz 116 11 v2 (N.take at_ ++ [s]).length (rowS (N.take at_ ++ [s]))) := hown9
        clear hown9 hgr9 R O1 O
        refine wpAnyH_ready (rs := [7]) (by kernel_rfl) (by simp) ?_
        refine AllReadyH.cons rfl (fun K hK => ?_) AllReadyH.nil
        first | (with_reducible refine iteYes ?hcx ?htx; case hcx => kernel_rfl) | rw [if_pos (by rfl)]
        refine step_append (s := .tmp 130) (x := .tmp 132) (t := 56) rfl (by kernel_rfl) (by kernel_rfl) hr9 ?_
        refine hK.out _ _ ?_ (fun hHx => ?_)
        · exact HLD.out.only O2.out
        clear hK K hr9
        try simp only [Act.put, List.setIfInBounds_toArray, List.set_cons_zero, List.set_cons_succ, List.getElem_toArray, List.getElem_cons_succ, List.getElem_cons_zero]
        obtain ⟨v3_, w3_, hr9, hown9, hgr9, _⟩ := run_appendS refT w2_ sz 56 v2 (N.take at_ ++ [s]) R2.out (fromS an cn at_) (cn - at_) (N.drop at_) (seen_drop (HSI.out.1.only O2.out) HSI.out.2) (fun e => nil_drop (n := 0) han 0 _ (by rw [e])) HDL.out.1 HDL.out.2.1 (by rw [HSZ.out]; exact O2.out.size)
        rw [hdl] at hr9
        have O3 : Hid (Only [] wi w3_) := O2.out.grown hgr9 (fun k hk => Or.inr (by rw [← HSZ.out]; exact ownS_ge R2.out k hk))
        have H11 : Hid (RA w kt k6 k7 k8 v L b4 p4 v3_ (N.take at_ ++ [s] ++ N.drop at_) w3_) := RA.anew H10.out.ra.rz O3.out (by rw [← HSZ.out]; exact hown9)
        clear hown9 hgr9 R2 O2
        refine wpAnyH_ready (rs := [11]) (by kernel_rfl) (by simp) ?_
        refine AllReadyH.cons rfl (fun K hK => ?_) AllReadyH.nil
        first | (with_reducible refine iteYes ?hcx ?htx; case hcx => kernel_rfl) | rw [if_pos (by rfl)]
        refine step_append (s := .tmp 133) (x := .tmp 136) (t := 56) rfl (by kernel_rfl) (by kernel_rfl) hr9 ?_
        refine hK.out _ _ ?_ (fun hHx => ?_)
        · exact HLD.out.only O3.out
        clear hK K hr9
        try simp only [Act.put, List.setIfInBounds_toArray, List.set_cons_zero, List.set_cons_succ, List.getElem_toArray, List.getElem_cons_succ, List.getElem_cons_zero]
        refine tkW 12 rfl ?_
        try simp only [Act.put, List.setIfInBounds_toArray, List.set_cons_zero, List.set_cons_succ, List.getElem_toArray, List.getElem_cons_succ, List.getElem_cons_zero]
        refine wpAnyH_done (by kernel_rfl) ?_ _
        have HP4 : Hid (nn.2.2 ≤ p4) := by
          have h1 := seenM_ge L true true true idv zs false nn.2.2
          rw [← HSM.out] at h1
          exact h1
        have HWN : Hid (WayR F L (N.take at_ ++ [s] ++ N.drop at_) (b4) idv (p4) ∧ (N.take at_ ++ [s] ++ N.drop at_).length ≤ 121) := ⟨HW.out.1.comes HG.out HNN.out HID.out HAT.out HK.out.2.1 (by rw [HB2.out]; exact HSM.out), by have := HN120.out; simp only [List.length_append, List.length_take, List.length_drop, List.length_singleton]; omega⟩
        go_wp2_with fail
        exact SwQ.of H11.out HWN.out.1 HWN.out.2 (HP4.out)
      · skip
        first | (with_reducible refine iteYes ?hcx ?htx; case hcx => kernel_rfl) | rw [if_pos (by rfl)]
        refine step_known (run_build1 (s := s) rfl (by kernel_rfl) _) ?_
        have OX : Hid (Only [] wi (y1a.alloc (.cells #[.int .i64 (s.id), .int .i64 (s.kd), .int .i64 (s.sx), .int .i64 (s.sy), .int .i64 (s.sz), .int .i64 (s.ax), .int .i64 (s.ay), .int .i64 (s.az), .int .i64 (s.vx), .int .i64 (s.vy), .int .i64 (s.vz)] 116))) := O.out.alloc _
        refine hK.out _ _ ?_ (fun hHx => ?_)
        · exact HLD.out.only OX.out
        clear hK K
        try simp only [Act.put, List.setIfInBounds_toArray, List.set_cons_zero, List.set_cons_succ, List.getElem_toArray, List.getElem_cons_succ, List.getElem_cons_zero]
        have O1 : Hid (SeenAt (y1a.alloc (.cells #[.int .i64 (s.id), .int .i64 (s.kd), .int .i64 (s.sx), .int .i64 (s.sy), .int .i64 (s.sz), .int .i64 (s.ax), .int .i64 (s.ay), .int .i64 (s.az), .int .i64 (s.vx), .int .i64 (s.vy), .int .i64 (s.vz)] 116)) (some ⟨y1a.heap.size, 0, none⟩) [s].length (fun j => [s].getD j zs)) := seen_oneR y1a s
        have Mx : Hid ((y1a.alloc (.cells #[.int .i64 (s.id), .int .i64 (s.kd), .int .i64 (s.sx), .int .i64 (s.sy), .int .i64 (s.sz), .int .i64 (s.ax), .int .i64 (s.ay), .int .i64 (s.az), .int .i64 (s.vx), .int .i64 (s.vy), .int .i64 (s.vz)] 116)).ownsRow sz 116 11 (.slice (some ⟨kn, 0, none⟩) 0 0) ([] : List Sn).length (rowS []) ∧ True) := ⟨ownS_keep M.out.1 ((Only.refl [] _).alloc _) (by simp), trivial⟩
        have DD : Hid (y1a.heap.size ≠ kn) := by
          have := ownS_lt M.out.1 kn rfl
          show _ ≠ kn
          omega
        clear M
        have M := Mx
        clear Mx
        clear O
        revert OX hHx O1 DD M
        generalize y1a.heap.size = km
        generalize World.alloc y1a _ = y2b
        intro OX hHx O1 DD M
        have O := OX
        clear OX
        refine wpAnyH_ready (rs := [4]) (by kernel_rfl) (by simp) ?_
        refine AllReadyH.cons rfl (fun K hK => ?_) AllReadyH.nil
        obtain ⟨v1_, y3c, hr8, hown8, hgr8, _⟩ := run_appendS refT y2b sz 56 _ [] M.out.1 an cn (N.take at_) (seen_take (HSI.out.1.only O.out) at_) han HDL.out.2.2.2.1 HDL.out.2.2.2.2 (by rw [HSZ.out]; exact O.out.size)
        rw [htl] at hr8
        have OX : Hid (Only [] wi y3c) := O.out.grown hgr8 (fun k hk => Or.inr (by rw [← HSZ.out]; exact ownS_ge M.out.1 k hk))
        have R : Hid (y3c.ownsRow sz 116 11 v1_ (N.take at_).length (rowS (N.take at_))) := hown8
        have O1x : Hid (SeenAt y3c (some ⟨km, 0, none⟩) [s].length (fun j => [s].getD j zs)) := seen_grown (V := [s]) (k := km) (kn := kn) O1.out hgr8 DD.out
        clear O1
        have O1 := O1x
        clear O1x
        clear hown8 hgr8 M O
        have O := OX
        clear OX
        first | (with_reducible refine iteYes ?hcx ?htx; case hcx => kernel_rfl) | rw [if_pos (by rfl)]
        refine step_append (s := .tmp 126) (x := .tmp 129) (t := 56) rfl (by kernel_rfl) (by kernel_rfl) hr8 ?_
        refine hK.out _ _ ?_ (fun hHx => ?_)
        · exact HLD.out.only O.out
        clear hK K hr8
        try simp only [Act.put, List.setIfInBounds_toArray, List.set_cons_zero, List.set_cons_succ, List.getElem_toArray, List.getElem_cons_succ, List.getElem_cons_zero]
        obtain ⟨v2, w2_, hr9, hown9, hgr9, _⟩ := run_appendS refT y3c sz 56 v1_ (N.take at_) R.out (some ⟨km, 0, none⟩) 1 [s] O1.out (fun e => by cases e) (by simp) HDL.out.2.2.1 (by rw [HSZ.out]; exact O.out.size)
        have O2 : Hid (Only [] wi w2_) := O.out.grown hgr9 (fun k hk => Or.inr (by rw [← HSZ.out]; exact ownS_ge R.out k hk))
        have R2 : Hid (w2_.ownsRow sz 116 11 v2 (N.take at_ ++ [s]).length (rowS (N.take at_ ++ [s]))) := hown9
        clear hown9 hgr9 R O1 O
        refine wpAnyH_ready (rs := [7]) (by kernel_rfl) (by simp) ?_
        refine AllReadyH.cons rfl (fun K hK => ?_) AllReadyH.nil
        first | (with_reducible refine iteYes ?hcx ?htx; case hcx => kernel_rfl) | rw [if_pos (by rfl)]
        refine step_append (s := .tmp 130) (x := .tmp 132) (t := 56) rfl (by kernel_rfl) (by kernel_rfl) hr9 ?_
        refine hK.out _ _ ?_ (fun hHx => ?_)
        · exact HLD.out.only O2.out
        clear hK K hr9
        try simp only [Act.put, List.setIfInBounds_toArray, List.set_cons_zero, List.set_cons_succ, List.getElem_toArray, List.getElem_cons_succ, List.getElem_cons_zero]
        obtain ⟨v3_, w3_, hr9, hown9, hgr9, _⟩ := run_appendS refT w2_ sz 56 v2 (N.take at_ ++ [s]) R2.out (fromS an cn at_) (cn - at_) (N.drop at_) (seen_drop (HSI.out.1.only O2.out) HSI.out.2) (fun e => nil_drop (n := 0) han 0 _ (by rw [e])) HDL.out.1 HDL.out.2.1 (by rw [HSZ.out]; exact O2.out.size)
        rw [hdl] at hr9
        have O3 : Hid (Only [] wi w3_) := O2.out.grown hgr9 (fun k hk => Or.inr (by rw [← HSZ.out]; exact ownS_ge R2.out k hk))
        have H11 : Hid (RA w kt k6 k7 k8 v L b4 p4 v3_ (N.take at_ ++ [s] ++ N.drop at_) w3_) := RA.anew H10.out.ra.rz O3.out (by rw [← HSZ.out]; exact hown9)
        clear hown9 hgr9 R2 O2
        refine wpAnyH_ready (rs := [11]) (by kernel_rfl) (by simp) ?_
        refine AllReadyH.cons rfl (fun K hK => ?_) AllReadyH.nil
        first | (with_reducible refine iteYes ?hcx ?htx; case hcx => kernel_rfl) | rw [if_pos (by rfl)]
        refine step_append (s := .tmp 133) (x := .tmp 136) (t := 56) rfl (by kernel_rfl) (by kernel_rfl) hr9 ?_
        refine hK.out _ _ ?_ (fun hHx => ?_)
        · exact HLD.out.only O3.out
        clear hK K hr9
        try simp only [Act.put, List.setIfInBounds_toArray, List.set_cons_zero, List.set_cons_succ, List.getElem_toArray, List.getElem_cons_succ, List.getElem_cons_zero]
        refine tkW 12 rfl ?_
        try simp only [Act.put, List.setIfInBounds_toArray, List.set_cons_zero, List.set_cons_succ, List.getElem_toArray, List.getElem_cons_succ, List.getElem_cons_zero]
        refine wpAnyH_done (by kernel_rfl) ?_ _
        have HP4 : Hid (nn.2.2 ≤ p4) := by
          have h1 := seenM_ge L true true true idv zs false nn.2.2
          rw [← HSM.out] at h1
          exact h1
        have HWN : Hid (WayR F L (N.take at_ ++ [s] ++ N.drop at_) (b4) idv (p4) ∧ (N.take at_ ++ [s] ++ N.drop at_).length ≤ 121) := ⟨HW.out.1.comes HG.out HNN.out HID.out HAT.out HK.out.2.1 (by rw [HB2.out]; exact HSM.out), by have := HN120.out; simp only [List.length_append, List.length_take, List.length_drop, List.length_singleton]; omega⟩
        go_wp2_with fail
        exact SwQ.of H11.out HWN.out.1 HWN.out.2 (HP4.out)
    · skip
      first | (with_reducible refine iteYes ?hcx ?htx; case hcx => kernel_rfl) | rw [if_pos (by rfl)]
      refine step_known (run_build1 (s := s) rfl (by kernel_rfl) _) ?_
      have OX : Hid (Only [] wi (wi.drew.alloc (.cells #[.int .i64 (s.id), .int .i64 (s.kd), .int .i64 (s.sx), .int .i64 (s.sy), .int .i64 (s.sz), .int .i64 (s.ax), .int .i64 (s.ay), .int .i64 (s.az), .int .i64 (s.vx), .int .i64 (s.vy), .int .i64 (s.vz)] 116))) := O.out.alloc _
      refine hK.out _ _ ?_ (fun hHx => ?_)
      · exact HLD.out.only OX.out
      clear hK K
      try simp only [Act.put, List.setIfInBounds_toArray, List.set_cons_zero, List.set_cons_succ, List.getElem_toArray, List.getElem_cons_succ, List.getElem_cons_zero]
      have O1 : Hid (SeenAt (wi.drew.alloc (.cells #[.int .i64 (s.id), .int .i64 (s.kd), .int .i64 (s.sx), .int .i64 (s.sy), .int .i64 (s.sz), .int .i64 (s.ax), .int .i64 (s.ay), .int .i64 (s.az), .int .i64 (s.vx), .int .i64 (s.vy), .int .i64 (s.vz)] 116)) (some ⟨wi.drew.heap.size, 0, none⟩) [s].length (fun j => [s].getD j zs)) := seen_oneR wi.drew s
      clear O
      revert OX hHx O1
      generalize wi.drew.heap.size = km
      generalize World.alloc wi.drew _ = y1a
      intro OX hHx O1
      have O := OX
      clear OX
      refine wpAnyH_ready (rs := [0]) (by kernel_rfl) (by simp) ?_
      refine AllReadyH.cons rfl (fun K hK => ?_) AllReadyH.nil
      first | (with_reducible refine iteYes ?hcx ?htx; case hcx => kernel_rfl) | rw [if_pos (by rfl)]
      refine step_known (run_build0 rfl _) ?_
      have OX : Hid (Only [] wi (y1a.alloc (.cells #[] 116))) := O.out.alloc _
      refine hK.out _ _ ?_ (fun hHx => ?_)
      · exact HLD.out.only OX.out
      clear hK K
      try simp only [Act.put, List.setIfInBounds_toArray, List.set_cons_zero, List.set_cons_succ, List.getElem_toArray, List.getElem_cons_succ, List.getElem_cons_zero]
      have M : Hid ((y1a.alloc (.cells #[] 116)).ownsRow sz 116 11 (.slice (some ⟨y1a.heap.size, 0, none⟩) 0 0) ([] : List Sn).length (rowS []) ∧ True) := ⟨own_empty y1a sz (by rw [HSZ.out]; exact O.out.size), trivial⟩
      have O1x : Hid (SeenAt (y1a.alloc (.cells #[] 116)) (some ⟨km, 0, none⟩) [s].length (fun j => [s].getD j zs)) := O1.out.only ((Only.refl [] _).alloc _)
      have DD : Hid (km ≠ y1a.heap.size) := by
        obtain ⟨g', o', e, hc⟩ := O1.out 0 (by simp)
        injection e with e
        injection e with e1 _ _
        have := World.block_lt_of_cell? _ _ (hc 0 (by omega))
        show km ≠ _
        rw [e1]
        exact Nat.ne_of_lt this
      clear O1
      have O1 := O1x
      clear O1x
      clear O
      revert OX hHx M DD O1
      generalize y1a.heap.size = kn
      generalize World.alloc y1a _ = y2b
      intro OX hHx M DD O1
      have O := OX
      clear OX
      refine wpAnyH_ready (rs := [4]) (by kernel_rfl) (by simp) ?_
      refine AllReadyH.cons rfl (fun K hK => ?_) AllReadyH.nil
      obtain ⟨v1_, y3c, hr8, hown8, hgr8, _⟩ := run_appendS refT y2b sz 56 _ [] M.out.1 an cn (N.take at_) (seen_take (HSI.out.1.only O.out) at_) han HDL.out.2.2.2.1 HDL.out.2.2.2.2 (by rw [HSZ.out]; exact O.out.size)
      rw [htl] at hr8
      have OX : Hid (Only [] wi y3c) := O.out.grown hgr8 (fun k hk => Or.inr (by rw [← HSZ.out]; exact ownS_ge M.out.1 k hk))
      have R : Hid (y3c.ownsRow sz 116 11 v1_ (N.take at_).length (rowS (N.take at_))) := hown8
      have O1x : Hid (SeenAt y3c (some ⟨km, 0, none⟩) [s].length (fun j => [s].getD j zs)) := seen_grown (V := [s]) (k := km) (kn := kn) O1.out hgr8 DD.out
      clear O1
      have O1 := O1x
      clear O1x
      clear hown8 hgr8 M O
      have O := OX
      clear OX
      first | (with_reducible refine iteYes ?hcx ?htx; case hcx => kernel_rfl) | rw [if_pos (by rfl)]
      refine step_append (s := .tmp 126) (x := .tmp 129) (t := 56) rfl (by kernel_rfl) (by kernel_rfl) hr8 ?_
      refine hK.out _ _ ?_ (fun hHx => ?_)
      · exact HLD.out.only O.out
      clear hK K hr8
      try simp only [Act.put, List.setIfInBounds_toArray, List.set_cons_zero, List.set_cons_succ, List.getElem_toArray, List.getElem_cons_succ, List.getElem_cons_zero]
      obtain ⟨v2, w2_, hr9, hown9, hgr9, _⟩ := run_appendS refT y3c sz 56 v1_ (N.take at_) R.out (some ⟨km, 0, none⟩) 1 [s] O1.out (fun e => by cases e) (by simp) HDL.out.2.2.1 (by rw [HSZ.out]; exact O.out.size)
      have O2 : Hid (Only [] wi w2_) := O.out.grown hgr9 (fun k hk => Or.inr (by rw [← HSZ.out]; exact ownS_ge R.out k hk))
      have R2 : Hid (w2_.ownsRow sz 116 11 v2 (N.take at_ ++ [s]).length (rowS (N.take at_ ++ [s]))) := hown9
      clear hown9 hgr9 R O1 O
      refine wpAnyH_ready (rs := [7]) (by kernel_rfl) (by simp) ?_
      refine AllReadyH.cons rfl (fun K hK => ?_) AllReadyH.nil
      first | (with_reducible refine iteYes ?hcx ?htx; case hcx => kernel_rfl) | rw [if_pos (by rfl)]
      refine step_append (s := .tmp 130) (x := .tmp 132) (t := 56) rfl (by kernel_rfl) (by kernel_rfl) hr9 ?_
      refine hK.out _ _ ?_ (fun hHx => ?_)
      · exact HLD.out.only O2.out
      clear hK K hr9
      try simp only [Act.put, List.setIfInBounds_toArray, List.set_cons_zero, List.set_cons_succ, List.getElem_toArray, List.getElem_cons_succ, List.getElem_cons_zero]
      obtain ⟨v3_, w3_, hr9, hown9, hgr9, _⟩ := run_appendS refT w2_ sz 56 v2 (N.take at_ ++ [s]) R2.out (fromS an cn at_) (cn - at_) (N.drop at_) (seen_drop (HSI.out.1.only O2.out) HSI.out.2) (fun e => nil_drop (n := 0) han 0 _ (by rw [e])) HDL.out.1 HDL.out.2.1 (by rw [HSZ.out]; exact O2.out.size)
      rw [hdl] at hr9
      have O3 : Hid (Only [] wi w3_) := O2.out.grown hgr9 (fun k hk => Or.inr (by rw [← HSZ.out]; exact ownS_ge R2.out k hk))
      have H11 : Hid (RA w kt k6 k7 k8 v L b4 p4 v3_ (N.take at_ ++ [s] ++ N.drop at_) w3_) := RA.anew H10.out.ra.rz O3.out (by rw [← HSZ.out]; exact hown9)
      clear hown9 hgr9 R2 O2
      refine wpAnyH_ready (rs := [11]) (by kernel_rfl) (by simp) ?_
      refine AllReadyH.cons rfl (fun K hK => ?_) AllReadyH.nil
      first | (with_reducible refine iteYes ?hcx ?htx; case hcx => kernel_rfl) | rw [if_pos (by rfl)]
      refine step_append (s := .tmp 133) (x := .tmp 136) (t := 56) rfl (by kernel_rfl) (by kernel_rfl) hr9 ?_
      refine hK.out _ _ ?_ (fun hHx => ?_)
      · exact HLD.out.only O3.out
      clear hK K hr9
      try simp only [Act.put, List.setIfInBounds_toArray, List.set_cons_zero, List.set_cons_succ, List.getElem_toArray, List.getElem_cons_succ, List.getElem_cons_zero]
      refine tkW 12 rfl ?_
      try simp only [Act.put, List.setIfInBounds_toArray, List.set_cons_zero, List.set_cons_succ, List.getElem_toArray, List.getElem_cons_succ, List.getElem_cons_zero]
      refine wpAnyH_done (by kernel_rfl) ?_ _
      have HP4 : Hid (nn.2.2 ≤ p4) := by
        have h1 := seenM_ge L true true true idv zs false nn.2.2
        rw [← HSM.out] at h1
        exact h1
      have HWN : Hid (WayR F L (N.take at_ ++ [s] ++ N.drop at_) (b4) idv (p4) ∧ (N.take at_ ++ [s] ++ N.drop at_).length ≤ 121) := ⟨HW.out.1.comes HG.out HNN.out HID.out HAT.out HK.out.2.1 (by rw [HB2.out]; exact HSM.out), by have := HN120.out; simp only [List.length_append, List.length_take, List.length_drop, List.length_singleton]; omega⟩
      go_wp2_with fail
      exact SwQ.of H11.out HWN.out.1 HWN.out.2 (HP4.out)
end Go.Proofs.Ytedhdmahdioboaa
/- gyreref.Apply: one that goes. -/
namespace Go.Proofs.Ytedhdmahdioboaa
open Go.ChangeShapes Go.WideShapes Go.ChangeAt Go.RowKit
set_option linter.unusedVariables false
set_option linter.unusedSimpArgs false

set_option maxRecDepth 1000000 in
set_option maxHeartbeats 0 in
theorem sw_B (F : List Sn) (L : List Nat) (w : World) (kt k6 k7 k8 : Nat) (v : Value) (N : List Sn) (la : Int) (p : Nat) (g : Nat × Int × Nat) (nn : Nat × Nat × Nat) (k : Nat) (idv : Int) (at_ : Nat) (th : Bool) (an : Option Addr) (cn : Nat) (wd : World) (c0 c1 c2 c3 c4 c5 c13 c16 c17 c18 c19 c20 c21 c22 c23 c24 c25 c26 c27 c28 c29 c30 c31 c32 c33 c34 c35 c36 c37 c38 c39 c40 c41 c42 c43 c44 c45 c46 c47 c48 c49 c50 c51 c52 c53 c54 c55 c56 c57 c58 c59 c60 c61 c62 c63 c64 c65 c66 c67 c68 c69 c70 c71 c72 c73 c74 c75 c76 c77 c78 c79 c80 c81 c82 c83 c84 c85 c86 c87 c88 c89 c90 c91 c92 c93 c94 c95 c96 c97 c98 c99 c100 c101 c102 c103 c104 c105 c106 c107 c108 c109 c110 c111 c112 c113 c114 c115 c116 c117 c118 c119 c120 c121 c122 c123 c124 c125 c126 c127 c128 c129 c130 c131 c132 c133 c134 c135 c136 c137 c138 c139 c140 c141 c142 c143 c144 c145 c146 c147 c148 c149 c150 c151 c152 c153 c154 c155 c156 c157 c158 c159 c160 c161 c162 c163 c164 c165 c166 c167 c168 c169 c170 c171 c172 c173 c174 c175 c176 c177 c178 c179 c180 c181 c182 c183 c184 c185 c186 c187 c188 c189 c190 c191 c192 c193 c194 c195 c196 c197 c198 c199 c200 c201 c202 c203 c204 c205 c206 c207 c208 c209 c210 c211 c212 c213 c214 c215 c216 c217 c218 c219 c220 c221 c222 c223 c224 c225 c226 c227 c228 c229 c230 c231 c232 : Value) (K K1 : Act → World → Prop) (Pf : Ending → World → Prop)
    (hk : k = 0) (hth : th = true) (HG : Hid (g = getM L p 2)) (HNN : Hid (nn = numM 4611686018427387903 L g.2.2)) (HID : Hid (idv = wrap64 (la + wrap64 (((nn.2.1 : Nat) : Int) + 1)))) (HAT : Hid (AtR N idv at_)) (HK : Hid (k < 4 ∧ g.2.1 = (k : Int) ∧ (g.1 = 0 → g.2.2 = p + 2))) (HB2 : Hid ((false || decide (g.1 ≠ 0) || decide (nn.1 ≠ 0)) = false))
    (HSN : Hid (SeenAt wd an N.length (fun j => N.getD j zs) ∧ N.length ≤ cn)) (HAN : Hid (an = none → cn = 0)) (H2 : Hid (RA w kt k6 k7 k8 v L false nn.2.2 (.slice an N.length cn) N wd)) (HN120 : Hid (N.length ≤ 120)) (HTH : Hid (thereR N idv at_ = th)) (HW : Hid (WayR F L N false la p ∧ N.length ≤ 121)) (hat0 : at_ ≤ N.length)
    (hK : ∀ (u4 u5 u16 u17 u18 u19 u20 u35 u36 u37 u38 u39 u40 u41 u42 u43 u44 u45 u46 u47 u48 u49 u50 u51 u52 u53 u54 u55 u56 u57 u58 u59 u60 u61 u62 u63 u64 u65 u66 u67 u68 u69 u70 u71 u72 u73 u74 u75 u76 u77 u78 u79 u80 u81 u82 u83 u84 u85 u86 u87 u88 u89 u90 u91 u92 u93 u94 u95 u96 u97 u98 u99 u100 u101 u102 u103 u104 u105 u106 u107 u108 u109 u110 u111 u112 u113 u114 u115 u116 u117 u118 u119 u120 u121 u122 u123 u124 u125 u126 u127 u128 u129 u130 u131 u132 u133 u134 u135 u136 u137 u138 u139 u140 u141 u142 u143 u144 u145 u146 u147 u148 u149 u150 u151 u152 u153 u154 u155 u156 u157 u158 u159 u160 u161 u162 u163 u164 u165 u166 u167 u168 u169 u170 u171 u172 u173 u174 u175 u176 u177 u178 u179 u180 u181 u182 u183 u184 u185 u186 u187 u188 u189 u190 u191 u192 u193 u194 u195 u196 u197 u198 u199 u200 u201 u202 u203 u204 u205 u206 u207 u208 u209 u210 u211 u212 u213 : Value) (nv' : Value) (wz : World), SwQ F L w kt k6 k7 k8 v idv nn.2.2 nv' wz → K ⟨#[c0, c1, c2, c3, u4, u5, .pointer (some ⟨k6, 0, none⟩), .pointer (some ⟨k7, 0, none⟩), .pointer (some ⟨k8, 0, none⟩), .func (.func 83) #[] #[.pointer (some ⟨k8, 0, none⟩), .pointer (some ⟨k6, 0, none⟩)], nv', .int .i64 idv, .int .i64 (k : Int), c13, .int .i64 (at_ : Int), .bool th, u16, u17, u18, u19, u20, c21, c22, c23, c24, c25, c26, c27, c28, c29, c30, c31, c32, c33, c34, u35, u36, u37, u38, u39, u40, u41, u42, u43, u44, u45, u46, u47, u48, u49, u50, u51, u52, u53, u54, u55, u56, u57, u58, u59, u60, u61, u62, u63, u64, u65, u66, u67, u68, u69, u70, u71, u72, u73, u74, u75, u76, u77, u78, u79, u80, u81, u82, u83, u84, u85, u86, u87, u88, u89, u90, u91, u92, u93, u94, u95, u96, u97, u98, u99, u100, u101, u102, u103, u104, u105, u106, u107, u108, u109, u110, u111, u112, u113, u114, u115, u116, u117, u118, u119, u120, u121, u122, u123, u124, u125, u126, u127, u128, u129, u130, u131, u132, u133, u134, u135, u136, u137, u138, u139, u140, u141, u142, u143, u144, u145, u146, u147, u148, u149, u150, u151, u152, u153, u154, u155, u156, u157, u158, u159, u160, u161, u162, u163, u164, u165, u166, u167, u168, u169, u170, u171, u172, u173, u174, u175, u176, u177, u178, u179, u180, u181, u182, u183, u184, u185, u186, u187, u188, u189, u190, u191, u192, u193, u194, u195, u196, u197, u198, u199, u200, u201, u202, u203, u204, u205, u206, u207, u208, u209, u210, u211, u212, u213, c214, c215, c216, c217, c218, c219, c220, c221, c222, c223, c224, c225, c226, c227, c228, c229, c230, c231, c232], []⟩ wz) :
    Code.wp Try.prog (code4 Try.f52) (Exit.inBlock 1 (Exit.then K (Exit.inBlock 0 (Exit.then K1 (bodyPost Try.prog Try.f52 Pf))))) ⟨#[c0, c1, c2, c3, c4, c5, .pointer (some ⟨k6, 0, none⟩), .pointer (some ⟨k7, 0, none⟩), .pointer (some ⟨k8, 0, none⟩), .func (.func 83) #[] #[.pointer (some ⟨k8, 0, none⟩), .pointer (some ⟨k6, 0, none⟩)], .slice an N.length cn, .int .i64 idv, .int .i64 (k : Int), c13, .int .i64 (at_ : Int), .bool th, c16, c17, c18, c19, c20, c21, c22, c23, c24, c25, c26, c27, c28, c29, c30, c31, c32, c33, c34, c35, c36, c37, c38, c39, c40, c41, c42, c43, c44, c45, c46, c47, c48, c49, c50, c51, c52, c53, c54, c55, c56, c57, c58, c59, c60, c61, c62, c63, c64, c65, c66, c67, c68, c69, c70, c71, c72, c73, c74, c75, c76, c77, c78, c79, c80, c81, c82, c83, c84, c85, c86, c87, c88, c89, c90, c91, c92, c93, c94, c95, c96, c97, c98, c99, c100, c101, c102, c103, c104, c105, c106, c107, c108, c109, c110, c111, c112, c113, c114, c115, c116, c117, c118, c119, c120, c121, c122, c123, c124, c125, c126, c127, c128, c129, c130, c131, c132, c133, c134, c135, c136, c137, c138, c139, c140, c141, c142, c143, c144, c145, c146, c147, c148, c149, c150, c151, c152, c153, c154, c155, c156, c157, c158, c159, c160, c161, c162, c163, c164, c165, c166, c167, c168, c169, c170, c171, c172, c173, c174, c175, c176, c177, c178, c179, c180, c181, c182, c183, c184, c185, c186, c187, c188, c189, c190, c191, c192, c193, c194, c195, c196, c197, c198, c199, c200, c201, c202, c203, c204, c205, c206, c207, c208, c209, c210, c211, c212, c213, c214, c215, c216, c217, c218, c219, c220, c221, c222, c223, c224, c225, c226, c227, c228, c229, c230, c231, c232], []⟩ wd := by
  have hmf : ∀ (fn : Fn) (first cap : Array Value) (w : World), (Instr.makeFunc fn first cap).run Try.prog w = .ok (.func fn first cap) w := fun _ _ _ _ => rfl
  subst hk hth
  have hN121 := HW.out.2
  conv => arg 2; whnf
  have hac : at_ ≤ cn := by have := HSN.out.2; omega
  have htl : (N.take at_).length = at_ := by rw [List.length_take]; omega
  have han := HAN.out
  have hlt : at_ < N.length := by have := HTH.out; unfold thereR at this; rw [Bool.and_eq_true] at this; simpa using this.1
  have hak : at_ + 1 ≤ N.length := hlt
  have hdl : (N.drop (at_ + 1)).length = N.length - (at_ + 1) := by rw [List.length_drop]
  have HWR : Hid (IntKind.i64.wrap ((at_ : Int) + 1) = ((at_ + 1 : Nat) : Int)) := by show _ = _; rw [IntWalk.i64_left]; have := HN120.out; unfold wrap64; omega
  have HDL : Hid ((N.drop (at_ + 1)).length ≤ cn - (at_ + 1) ∧ (N.take at_).length + (N.drop (at_ + 1)).length ≤ 1000000) := by have := HSN.out.2; exact ⟨by omega, by omega⟩
  go_upto_region 28 with fail
  refine wp_region_held_drew (S := (fun _ => True)) (by kernel_rfl) ?_ (fun hHeld1 => ?_)
  · (try dsimp only); all_goals trivial
  refine tkW 1 rfl ?_; refine tkW 2 rfl ?_
  try simp only [Act.put, List.setIfInBounds_toArray, List.set_cons_zero, List.set_cons_succ, List.getElem_toArray, List.getElem_cons_succ, List.getElem_cons_zero]
  refine tkW (v := .slice an at_ cn) 3 rfl ?_ (by intro w'' hSw; (try dsimp only at hSw); simp only [List.getElem_toArray, List.getElem_cons_succ, List.getElem_cons_zero]; exact (run_toS _ (Or.inr rfl) rfl rfl rfl hac))
  try simp only [Act.put, List.setIfInBounds_toArray, List.set_cons_zero, List.set_cons_succ, List.getElem_toArray, List.getElem_cons_succ, List.getElem_cons_zero]
  refine tkW 5 rfl ?_; refine tkW 6 rfl ?_
  try simp only [Act.put, List.setIfInBounds_toArray, List.set_cons_zero, List.set_cons_succ, List.getElem_toArray, List.getElem_cons_succ, List.getElem_cons_zero]
  refine tkW (v := .int .i64 ((at_ + 1 : Nat) : Int)) 7 rfl ?_ (by intro w'' hSw; (try dsimp only at hSw); simp only [List.getElem_toArray, List.getElem_cons_succ, List.getElem_cons_zero]; go_simp; (rw [HWR.out]; omega))
  try simp only [Act.put, List.setIfInBounds_toArray, List.set_cons_zero, List.set_cons_succ, List.getElem_toArray, List.getElem_cons_succ, List.getElem_cons_zero]
  refine tkW (v := .slice (fromS an cn (at_ + 1)) (N.length - (at_ + 1)) (cn - (at_ + 1))) 8 rfl ?_ (by intro w'' hSw; (try dsimp only at hSw); simp only [List.getElem_toArray, List.getElem_cons_succ, List.getElem_cons_zero]; exact (run_fromS _ (Or.inr rfl) rfl rfl rfl hak))
  try simp only [Act.put, List.setIfInBounds_toArray, List.set_cons_zero, List.set_cons_succ, List.getElem_toArray, List.getElem_cons_succ, List.getElem_cons_zero]
  refine wpAnyH_ready (rs := [0]) (by kernel_rfl) (by simp) ?_
  refine AllReadyH.cons rfl (fun K hK => ?_) AllReadyH.nil
  first | (with_reducible refine iteYes ?hcx ?htx; case hcx => kernel_rfl) | rw [if_pos (by rfl)]
  simp only [List.getElem_toArray, List.getElem_cons_succ, List.getElem_cons_zero]
  go_simp
  refine hK.out _ _ ?_ (fun hHeld2 => ?_)
  · (try dsimp only); all_goals trivial
  clear hK K
  try simp only [Act.put, List.setIfInBounds_toArray, List.set_cons_zero, List.set_cons_succ, List.getElem_toArray, List.getElem_cons_succ, List.getElem_cons_zero]
  have HM : Hid ((wd.alloc (.cells #[] 116)).drew.ownsRow wd.heap.size 116 11 (.slice (some ⟨wd.heap.size, 0, none⟩) 0 0) ([] : List Sn).length (rowS []) ∧ Only [] wd (wd.alloc (.cells #[] 116)).drew) := ⟨own_empty wd wd.heap.size (Nat.le_refl _), ((Only.refl [] wd).alloc _).drew⟩
  clear hHeld1 hHeld2
  generalize World.drew (World.alloc wd _) = w7 at HM ⊢
  obtain ⟨v8, w8, hr8, hown8, hgr8, _⟩ := run_appendS refT w7 wd.heap.size 56 _ [] HM.out.1 an cn (N.take at_) (seen_take (HSN.out.1.only HM.out.2) at_) han (by omega) (by simp; omega) HM.out.2.size
  rw [htl] at hr8
  have HR8 : Hid (w8.ownsRow wd.heap.size 116 11 v8 (N.take at_).length (rowS (N.take at_)) ∧ Only [] wd w8) := ⟨hown8, HM.out.2.grown hgr8 (fun k hk => Or.inr (ownS_ge HM.out.1 k hk))⟩
  clear hown8 hgr8 HM
  refine wpAnyH_ready (rs := [4]) (by kernel_rfl) (by simp) ?_
  refine AllReadyH.cons rfl (fun K hK => ?_) AllReadyH.nil
  first | (with_reducible refine iteYes ?hcx ?htx; case hcx => kernel_rfl) | rw [if_pos (by rfl)]
  refine step_append (s := .tmp 144) (x := .tmp 147) (t := 56) rfl (by kernel_rfl) (by kernel_rfl) hr8 ?_
  refine hK.out _ _ ?_ (fun hHx => ?_)
  · trivial
  clear hK K hr8
  try simp only [Act.put, List.setIfInBounds_toArray, List.set_cons_zero, List.set_cons_succ, List.getElem_toArray, List.getElem_cons_succ, List.getElem_cons_zero]
  obtain ⟨v9, w9, hr9, hown9, hgr9, _⟩ := run_appendS refT w8 wd.heap.size 56 v8 (N.take at_) HR8.out.1 (fromS an cn (at_ + 1)) (cn - (at_ + 1)) (N.drop (at_ + 1)) (seen_drop (HSN.out.1.only HR8.out.2) HSN.out.2) (fun e => nil_drop (n := 0) han 0 _ (by rw [e])) HDL.out.1 HDL.out.2 HR8.out.2.size
  rw [hdl] at hr9
  have H9 : Hid (RA w kt k6 k7 k8 v L false nn.2.2 v9 (N.take at_ ++ N.drop (at_ + 1)) w9) := RA.anew H2.out.rz (HR8.out.2.grown hgr9 (fun k hk => Or.inr (ownS_ge HR8.out.1 k hk))) hown9
  clear hown9 hgr9 HR8
  refine wpAnyH_ready (rs := [9]) (by kernel_rfl) (by simp) ?_
  refine AllReadyH.cons rfl (fun K hK => ?_) AllReadyH.nil
  first | (with_reducible refine iteYes ?hcx ?htx; case hcx => kernel_rfl) | rw [if_pos (by rfl)]
  refine step_append (s := .tmp 148) (x := .tmp 152) (t := 56) rfl (by kernel_rfl) (by kernel_rfl) hr9 ?_
  refine hK.out _ _ ?_ (fun hHx => ?_)
  · trivial
  clear hK K hr9
  try simp only [Act.put, List.setIfInBounds_toArray, List.set_cons_zero, List.set_cons_succ, List.getElem_toArray, List.getElem_cons_succ, List.getElem_cons_zero]
  refine tkW 10 rfl ?_
  try simp only [Act.put, List.setIfInBounds_toArray, List.set_cons_zero, List.set_cons_succ, List.getElem_toArray, List.getElem_cons_succ, List.getElem_cons_zero]
  refine wpAnyH_done (by kernel_rfl) ?_ _
  have HWN : Hid (WayR F L (N.take at_ ++ N.drop (at_ + 1)) (false) idv (nn.2.2) ∧ (N.take at_ ++ N.drop (at_ + 1)).length ≤ 121) := ⟨by have h1 := HW.out.1.goes HG.out HNN.out HID.out HAT.out HK.out.2.1; rw [HB2.out] at h1; exact h1, by have := HN120.out; simp only [List.length_append, List.length_take, List.length_drop, List.length_singleton]; omega⟩
  go_wp2_with fail
  exact SwQ.of H9.out HWN.out.1 HWN.out.2 (Nat.le_refl _)
end Go.Proofs.Ytedhdmahdioboaa
