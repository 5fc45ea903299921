/- A reader on the way that a Delta wrote: plain facts. -/
import Derived.Test.YtedhdmahdioboaaDoorAp4
namespace Go.Proofs.YtedhdmahdioboaaDoor
open Go.ChangeShapes Go.WideShapes Go.ChangeAt Go.RowKit
set_option linter.unusedVariables false
set_option linter.unusedSimpArgs false

theorem neqV_no {a b c p q r : Int} (h : neqV a b c p q r = false) : a = p ∧ b = q ∧ c = r := by
  unfold neqV at h
  simp only [Bool.not_eq_false', Bool.and_eq_true, beq_iff_eq] at h
  exact h
theorem d4_no {u v : Sn} (h : d4 u v = false) : u.kd = v.kd ∧ u.sx = v.sx ∧ u.sy = v.sy ∧ u.sz = v.sz := by
  unfold d4 at h
  rw [Bool.or_eq_false_iff] at h
  have h1 := neqV_no h.1
  have h2 : u.kd = v.kd := by simpa using h.2
  exact ⟨h2, h1⟩
theorem pN_inj {a b c a' b' c' : Bool} (h : pN a b c = pN a' b' c') : a = a' ∧ b = b' ∧ c = c' := by
  cases a <;> cases b <;> cases c <;> cases a' <;> cases b' <;> cases c' <;> simp [pN] at h ⊢
theorem seen1_at {L pre rest : List Nat} {A : Bool} {u v : Sn} {x : Sn} {p : Nat} (h : bitsOf L = pre ++ (if A then p4B u v else []) ++ rest) (hp : p = pre.length) (hu : Good u) (hv : Good v) (hA : A = false → x.kd = v.kd ∧ x.sx = v.sx ∧ x.sy = v.sy ∧ x.sz = v.sz) :
    seen1 L A u (x, false, p) = ({ x with kd := v.kd, sx := v.sx, sy := v.sy, sz := v.sz }, false, (pre ++ (if A then p4B u v else [])).length) := by
  cases A with
  | false =>
    obtain ⟨h1, h2, h3, h4⟩ := hA rfl
    unfold seen1
    simp only [Bool.false_eq_true, if_false, List.append_nil]
    rw [← h1, ← h2, ← h3, ← h4, hp]
  | true =>
    simp only [if_true] at h ⊢
    unfold p4B at h ⊢
    obtain ⟨k0, k7⟩ := hv.kd
    obtain ⟨kn, hkn⟩ : ∃ kn : Nat, v.kd = (kn : Int) := ⟨v.kd.toNat, by omega⟩
    have hk : v.kd.toNat = kn := by omega
    rw [hk] at h ⊢
    have g := gM_at (L := L) (a := pre) (k := kn) (wd := 3) (c := vecB (v.sx - u.sx) (v.sy - u.sy) (v.sz - u.sz) ++ rest) (p := p) (by rw [h]; simp only [List.append_assoc]) hp (by omega) (by omega)
    have g' : getM L p 3 = (0, (kn : Int), (pre ++ putB kn 3).length) := g
    have s1 := hv.s3; have s2 := hu.s3
    obtain ⟨q1, q2, q3⟩ := vec_at (L := L) (a := pre ++ putB kn 3) (x := v.sx - u.sx) (y := v.sy - u.sy) (z := v.sz - u.sz) (c := rest) (p := (pre ++ putB kn 3).length) (by rw [h]; simp only [List.append_assoc]) rfl (not_badInt s1.1 s2.1) (not_badInt s1.2.1 s2.2.1) (not_badInt s1.2.2 s2.2.2)
    unfold seen1 rS rKd
    simp only [if_true, g', q1, q2, q3]
    rw [wrap_far s1.1 s2.1, wrap_far s1.2.1 s2.2.1, wrap_far s1.2.2 s2.2.2, hkn]
    simp
theorem seen2_at {L pre rest : List Nat} {A : Bool} {u v : Sn} {x : Sn} {p : Nat} (h : bitsOf L = pre ++ (if A then p2B u v else []) ++ rest) (hp : p = pre.length) (hu : Good u) (hv : Good v) (hA : A = false → x.ax = v.ax ∧ x.ay = v.ay ∧ x.az = v.az) :
    seen2 L A u (x, false, p) = ({ x with ax := v.ax, ay := v.ay, az := v.az }, false, (pre ++ (if A then p2B u v else [])).length) := by
  cases A with
  | false =>
    obtain ⟨h2, h3, h4⟩ := hA rfl
    unfold seen2
    simp only [Bool.false_eq_true, if_false, List.append_nil]
    rw [← h2, ← h3, ← h4, hp]
  | true =>
    simp only [if_true] at h ⊢
    unfold p2B at h ⊢
    have s1 := hv.a3; have s2 := hu.a3
    obtain ⟨q1, q2, q3⟩ := vec_at h hp (not_badInt s1.1 s2.1) (not_badInt s1.2.1 s2.2.1) (not_badInt s1.2.2 s2.2.2)
    unfold seen2 rA
    simp only [if_true, q1, q2, q3]
    rw [wrap_far s1.1 s2.1, wrap_far s1.2.1 s2.2.1, wrap_far s1.2.2 s2.2.2]
    simp
theorem seen3_at {L pre rest : List Nat} {A : Bool} {u v : Sn} {x : Sn} {p : Nat} (h : bitsOf L = pre ++ (if A then p1B u v else []) ++ rest) (hp : p = pre.length) (hu : Good u) (hv : Good v) (hA : A = false → x.vx = v.vx ∧ x.vy = v.vy ∧ x.vz = v.vz) :
    seen3 L A u (x, false, p) = ({ x with vx := v.vx, vy := v.vy, vz := v.vz }, false, (pre ++ (if A then p1B u v else [])).length) := by
  cases A with
  | false =>
    obtain ⟨h2, h3, h4⟩ := hA rfl
    unfold seen3
    simp only [Bool.false_eq_true, if_false, List.append_nil]
    rw [← h2, ← h3, ← h4, hp]
  | true =>
    simp only [if_true] at h ⊢
    unfold p1B at h ⊢
    have s1 := hv.v3; have s2 := hu.v3
    obtain ⟨q1, q2, q3⟩ := vec_at h hp (not_badInt s1.1 s2.1) (not_badInt s1.2.1 s2.2.1) (not_badInt s1.2.2 s2.2.2)
    unfold seen3 rV
    simp only [if_true, q1, q2, q3]
    rw [wrap_far s1.1 s2.1, wrap_far s1.2.1 s2.2.1, wrap_far s1.2.2 s2.2.2]
    simp
theorem seenM_at {L pre rest : List Nat} {A B C : Bool} {u v : Sn} {id : Int} {p : Nat} (h : bitsOf L = pre ++ partsB A B C u v ++ rest) (hp : p = pre.length) (hu : Good u) (hv : Good v) (hid : id = v.id) (hA : A = false → u.kd = v.kd ∧ u.sx = v.sx ∧ u.sy = v.sy ∧ u.sz = v.sz) (hB : B = false → u.ax = v.ax ∧ u.ay = v.ay ∧ u.az = v.az) (hC : C = false → u.vx = v.vx ∧ u.vy = v.vy ∧ u.vz = v.vz) :
    seenM L A B C id u false p = (v, false, (pre ++ partsB A B C u v).length) := by
  unfold partsB at h ⊢
  unfold seenM
  rw [seen1_at (L := L) (pre := pre) (rest := (if B then p2B u v else []) ++ (if C then p1B u v else []) ++ rest) (v := v) (x := { u with id := id }) (by rw [h]; simp only [List.append_assoc]) hp hu hv hA]
  dsimp only
  rw [seen2_at (L := L) (pre := pre ++ (if A then p4B u v else [])) (rest := (if C then p1B u v else []) ++ rest) (v := v) (x := ⟨id, v.kd, v.sx, v.sy, v.sz, u.ax, u.ay, u.az, u.vx, u.vy, u.vz⟩) (by rw [h]; simp only [List.append_assoc]) rfl hu hv hB]
  dsimp only
  rw [seen3_at (L := L) (pre := pre ++ (if A then p4B u v else []) ++ (if B then p2B u v else [])) (rest := rest) (v := v) (x := ⟨id, v.kd, v.sx, v.sy, v.sz, v.ax, v.ay, v.az, u.vx, u.vy, u.vz⟩) (by rw [h]; simp only [List.append_assoc]) rfl hu hv hC]
  rw [hid]
  simp only [List.append_assoc]
/-- The way of a reader, if what it reads was written. -/
def Way (F : List Sn) (L : List Nat) (R F1 : List Sn) (bad : Bool) (la : Int) (p : Nat) : Prop :=
  ∀ T, rightL T = true → bytesOf (deltaT F T) = L → bad = false ∧ ∃ (T1 : List Sn) (f : Nat) (m : Int) (pre pad : List Nat), T = R ++ T1 ∧ F1.length + T1.length ≤ f ∧ Ris m F1 ∧ Ris m T1 ∧ 0 ≤ la ∧ la ≤ m ∧ bitsOf L = pre ++ (deltaM f F1 T1 la ++ putB 3 2) ++ pad ∧ p = pre.length
theorem Way.start {F : List Sn} (hF : rightL F = true) (L : List Nat) : Way F L [] F false 0 0 := by
  intro T hT hL
  obtain ⟨pad, hb⟩ := bytes_bits (delta_bits F T)
  refine ⟨rfl, T, F.length + T.length, 0, [], pad, rfl, Nat.le_refl _, (rightL_ris hF).1, (rightL_ris hT).1, Int.le_refl _, Int.le_refl _, ?_, rfl⟩
  rw [← hL, hb]
  rfl
theorem word_at {L pre rest : List Nat} {k : Nat} {la id : Int} {p : Nat} (h : bitsOf L = pre ++ wordB k la id ++ rest) (hp : p = pre.length) (hk : k < 4) (h0 : 0 ≤ la) (h1 : la < id) (h2 : id ≤ 1099511627776) :
    getM L p 2 = (0, (k : Int), (pre ++ putB k 2).length) ∧ numM 4611686018427387903 L (pre ++ putB k 2).length = (0, (id - la - 1).toNat, (pre ++ wordB k la id).length) := by
  unfold wordB at h ⊢
  refine ⟨gM_at (L := L) (a := pre) (k := k) (wd := 2) (c := varB (id - la - 1).toNat ++ rest) (by rw [h]; simp only [List.append_assoc]) hp (by omega) (by omega), ?_⟩
  have e := numM_back 4611686018427387903 (id - la - 1).toNat L (pre ++ putB k 2) rest (by rw [h]; simp only [List.append_assoc]) (by omega) (by decide)
  rw [e]
  simp only [List.length_append, Nat.add_assoc]
/-- At the end. -/
theorem Way.done {F : List Sn} {L : List Nat} {R F1 : List Sn} {bad : Bool} {la : Int} {p : Nat} (h : Way F L R F1 bad la p) {g : Nat × Int × Nat} (hg : g = getM L p 2) (hs : g.2.1 = 3 ∨ (bad || decide (g.1 ≠ 0)) = true) :
    ∀ T, rightL T = true → bytesOf (deltaT F T) = L → (bad || decide (g.1 ≠ 0)) = false ∧ R ++ F1 = T := by
  intro T hT hL
  obtain ⟨hb, T1, f, m, pre, pad, eT, hf, rF, rT, h0, hm, bits, hp⟩ := h T hT hL
  rcases delta_next f F1 T1 la m hf rF rT h0 hm with ⟨e, ed⟩ | ⟨P, F2, T2, id, hx⟩
  · rw [ed, List.nil_append] at bits
    have e1 : getM L p 2 = (0, 3, (pre ++ putB 3 2).length) := gM_at (L := L) (a := pre) (k := 3) (wd := 2) (c := pad) bits hp (by omega) (by omega)
    rw [hg, e1, hb, eT, e]
    exact ⟨rfl, rfl⟩
  · exfalso
    obtain ⟨f', _, eb⟩ := hx.bits
    have hl := hx.lt
    have hle := hx.le
    have hk : ∃ k : Nat, k < 3 ∧ ∃ more, chgB la (takeS id F2) (takeS id T2) = wordB k la id ++ more := by
      unfold chgB
      rw [hx.ne]
      simp only [Bool.false_eq_true, if_false]
      split
      · rename_i e
        have e2 : (takeS id F2).id = id := by rcases hx.some_ with q | q; exact q; omega
        exact ⟨0, by omega, [], by rw [e2, List.append_nil]⟩
      · rename_i e
        have e2 : (takeS id T2).id = id := by rcases takeS_id (id := id) (F := T2) with q | q; exact q; contradiction
        split
        · exact ⟨1, by omega, _, by rw [e2]⟩
        · exact ⟨2, by omega, _, by rw [e2, List.append_assoc]⟩
    obtain ⟨k, hk3, more, ek⟩ := hk
    rw [eb, ek] at bits
    obtain ⟨w1, _⟩ := word_at (L := L) (pre := pre) (rest := more ++ deltaM f' (takeL id F2) (takeL id T2) id ++ putB 3 2 ++ pad) (k := k) (la := la) (id := id) (p := p) (by rw [bits]; simp only [List.append_assoc]) hp (by omega) h0 (by omega) hle
    rw [hg, w1, hb] at hs
    rcases hs with q | q
    · simp only at q; omega
    · simp at q
theorem ris_get {m : Int} {F : List Sn} (h : Ris m F) : ∀ i j : Nat, i ≤ j → j < F.length → (F.getD i zs).id ≤ (F.getD j zs).id := by
  induction F generalizing m with
  | nil => intro i j _ hj; simp at hj
  | cons s F ih =>
    intro i j hij hj
    cases j with
    | zero => obtain rfl : i = 0 := by omega
              exact Int.le_refl _
    | succ j =>
      cases i with
      | succ i => exact ih h.2.2.2 i j (by omega) (by simpa using hj)
      | zero =>
        show s.id ≤ (F.getD j zs).id
        have h1 := ih h.2.2.2 0 j (by omega) (by simpa using hj)
        cases F with
        | nil => simp at hj
        | cons t F => have := h.2.2.2.1; exact Int.le_trans (Int.le_of_lt this) h1
theorem stops_at {m : Int} {P F1 : List Sn} {id : Int} {r : Nat} (h : StopsS (P ++ F1) id r) (hr : Ris m (P ++ F1)) (low : ∀ s ∈ P, s.id < id) (ge : ∀ s L, F1 = s :: L → id ≤ s.id) : r = P.length := by
  obtain ⟨h1, h2, h3⟩ := h
  rcases Nat.lt_trichotomy r P.length with q | q | q
  · exfalso
    rcases h3 with e | e
    · rw [List.length_append] at e; omega
    · have hm : (P ++ F1).getD r zs ∈ P := by
        rw [List.getD_eq_getElem?_getD, List.getElem?_append_left q, List.getElem?_eq_getElem q]
        exact List.getElem_mem q
      have := low _ hm
      omega
  · exact q
  · exfalso
    cases F1 with
    | nil => simp only [List.append_nil] at h1; omega
    | cons s F1 =>
      rcases h2 with e | e
      · omega
      · have h4 := ris_get hr P.length (r - 1) (by omega) (by omega)
        have h5 := ge s F1 rfl
        have h6 : (P ++ s :: F1).getD P.length zs = s := by rw [List.getD_eq_getElem?_getD, List.getElem?_append_right (Nat.le_refl _), Nat.sub_self]; rfl
        rw [h6] at h4
        omega
theorem idv_at {la id : Int} (h0 : 0 ≤ la) (h1 : la < id) (h2 : id ≤ 1099511627776) : wrap64 (wrap64 (la + 1) + (((id - la - 1).toNat : Nat) : Int)) = id := by
  have e1 : wrap64 (la + 1) = la + 1 := by unfold wrap64; omega
  rw [e1]
  have e2 : la + 1 + (((id - la - 1).toNat : Nat) : Int) = id := by omega
  rw [e2]
  unfold wrap64; omega
/-- One that is told: it goes, it comes or it changes. -/
theorem Way.next {F : List Sn} {L : List Nat} {R F1 : List Sn} {bad : Bool} {la : Int} {p : Nat} (h : Way F L R F1 bad la p) {g : Nat × Int × Nat} (hg : g = getM L p 2) (h3 : g.2.1 ≠ 3) {n : Nat × Nat × Nat} (hn : n = numM 4611686018427387903 L g.2.2) {idv : Int} (hi : idv = wrap64 (wrap64 (la + 1) + ((n.2.1 : Nat) : Int))) {r : Nat} (hr : StopsS F1 idv r) :
    (g.2.1 = 0 → Way F L (R ++ F1.take r) (takeL idv (F1.drop r)) (bad || decide (g.1 ≠ 0) || decide (n.1 ≠ 0)) idv n.2.2) ∧
    (∀ A B C bad0 p0 s bad1 p1, PartsR L g.2.1 (bad || decide (g.1 ≠ 0) || decide (n.1 ≠ 0)) n.2.2 A B C bad0 p0 → (s, bad1, p1) = seenM L A B C idv (takeS idv (F1.drop r)) bad0 p0 → Way F L (R ++ F1.take r ++ [s]) (takeL idv (F1.drop r)) bad1 idv p1) := by
  -- what holds of each view that was written
  have key : ∀ T, rightL T = true → bytesOf (deltaT F T) = L → bad = false ∧ ∃ (P F2 T2 : List Sn) (f f' : Nat) (m : Int) (pre pad : List Nat) (id : Int), T = R ++ (P ++ T2) ∧ Nxt f F1 (P ++ T2) la m P F2 T2 id ∧ 0 ≤ la ∧ la < id ∧ (takeL id F2).length + (takeL id T2).length ≤ f' ∧ bitsOf L = pre ++ (chgB la (takeS id F2) (takeS id T2) ++ (deltaM f' (takeL id F2) (takeL id T2) id ++ putB 3 2)) ++ pad ∧ p = pre.length ∧ F1 = P ++ F2 ∧ (∀ r', StopsS F1 id r' → r' = P.length) := by
    intro T hT hL
    obtain ⟨hb, T1, f, m, pre, pad, eT, hf, rF, rT, h0, hm, bits, hp⟩ := h T hT hL
    rcases delta_next f F1 T1 la m hf rF rT h0 hm with ⟨e, ed⟩ | ⟨P, F2, T2, id, hx⟩
    · exfalso
      rw [ed, List.nil_append] at bits
      have e1 : getM L p 2 = (0, 3, (pre ++ putB 3 2).length) := gM_at (L := L) (a := pre) (k := 3) (wd := 2) (c := pad) bits hp (by omega) (by omega)
      rw [hg, e1] at h3
      exact h3 rfl
    · obtain ⟨f', hf', eb⟩ := hx.bits
      have hl := hx.lt
      refine ⟨hb, P, F2, T2, f, f', m, pre, pad, id, by rw [eT, ← hx.eT], by rw [← hx.eT]; exact hx, h0, by omega, hf', by rw [bits, eb]; simp only [List.append_assoc], hp, hx.eF, fun r' hr' => ?_⟩
      rw [hx.eF] at hr' rF
      exact stops_at hr' rF hx.low hx.ge
  constructor
  · intro hw T hT hL
    obtain ⟨hb, P, F2, T2, f, f', m, pre, pad, id, eT, hx, h0, h1, hf', bits, hp, eF, hst⟩ := key T hT hL
    have hle := hx.le
    by_cases hv : (takeS id T2).id = 0
    · have hu : (takeS id F2).id = id := by rcases hx.some_ with q | q; exact q; omega
      have ek : chgB la (takeS id F2) (takeS id T2) = wordB 0 la id := by unfold chgB; rw [hx.ne, hu]; simp [hv]
      rw [ek] at bits
      obtain ⟨w1, w2⟩ := word_at (L := L) (pre := pre) (rest := deltaM f' (takeL id F2) (takeL id T2) id ++ putB 3 2 ++ pad) (k := 0) (la := la) (id := id) (p := p) (by rw [bits]; simp only [List.append_assoc]) hp (by omega) h0 h1 hle
      rw [w1] at hg
      rw [hg] at hn
      simp only at hn
      rw [w2] at hn
      have hid : idv = id := by rw [hi, hn]; exact idv_at h0 h1 hle
      subst hid
      have hrP := hst r hr
      have e1 : F1.drop r = F2 := by rw [hrP, eF, List.drop_left]
      have e2 : F1.take r = P := by rw [hrP, eF, List.take_left]
      rw [e1, e2, hg, hn, hb]
      refine ⟨rfl, takeL idv T2, f', idv, pre ++ wordB 0 la idv, pad, ?_, hf', hx.rf, hx.rt, by omega, Int.le_refl _, by rw [bits]; simp only [List.append_assoc], rfl⟩
      have h6 := hx.hT
      rw [if_pos hv, List.nil_append] at h6
      rw [eT, ← h6, List.append_assoc]
    · exfalso
      have hv2 : (takeS id T2).id = id := by rcases takeS_id (id := id) (F := T2) with q | q; exact q; contradiction
      have ek : ∃ k : Nat, 0 < k ∧ k < 3 ∧ ∃ more, chgB la (takeS id F2) (takeS id T2) = wordB k la id ++ more := by
        unfold chgB
        rw [hx.ne]
        simp only [Bool.false_eq_true, if_false]
        rw [if_neg hv]
        split
        · exact ⟨1, by omega, by omega, _, by rw [hv2]⟩
        · exact ⟨2, by omega, by omega, _, by rw [hv2, List.append_assoc]⟩
      obtain ⟨k, hk0, hk3, more, ek⟩ := ek
      rw [ek] at bits
      obtain ⟨w1, _⟩ := word_at (L := L) (pre := pre) (rest := more ++ deltaM f' (takeL id F2) (takeL id T2) id ++ putB 3 2 ++ pad) (k := k) (la := la) (id := id) (p := p) (by rw [bits]; simp only [List.append_assoc]) hp (by omega) h0 h1 hle
      rw [hg, w1] at hw
      simp only at hw
      omega
  · intro A B C bad0 p0 s bad1 p1 hP hS T hT hL
    obtain ⟨hb, P, F2, T2, f, f', m, pre, pad, id, eT, hx, h0, h1, hf', bits, hp, eF, hst⟩ := key T hT hL
    have hle := hx.le
    by_cases hv : (takeS id T2).id = 0
    · exfalso
      have hu : (takeS id F2).id = id := by rcases hx.some_ with q | q; exact q; omega
      have ek : chgB la (takeS id F2) (takeS id T2) = wordB 0 la id := by unfold chgB; rw [hx.ne, hu]; simp [hv]
      rw [ek] at bits
      obtain ⟨w1, w2⟩ := word_at (L := L) (pre := pre) (rest := deltaM f' (takeL id F2) (takeL id T2) id ++ putB 3 2 ++ pad) (k := 0) (la := la) (id := id) (p := p) (by rw [bits]; simp only [List.append_assoc]) hp (by omega) h0 h1 hle
      rw [hg, w1] at hP
      unfold PartsR at hP
      simp at hP
    · have hv2 : (takeS id T2).id = id := by rcases takeS_id (id := id) (F := T2) with q | q; exact q; contradiction
      have h6 := hx.hT
      rw [if_neg hv] at h6
      have gF := hx.gF.good
      have gT := hx.gT.good
      by_cases hu : (takeS id F2).id = 0
      · have uz : takeS id F2 = zs := hx.gF.none_ hu
        have ek : chgB la (takeS id F2) (takeS id T2) = wordB 1 la id ++ partsB true true true (takeS id F2) (takeS id T2) := by unfold chgB; rw [hx.ne]; simp [hv, hu, hv2]; intro q; omega
        rw [ek] at bits
        obtain ⟨w1, w2⟩ := word_at (L := L) (pre := pre) (rest := partsB true true true (takeS id F2) (takeS id T2) ++ deltaM f' (takeL id F2) (takeL id T2) id ++ putB 3 2 ++ pad) (k := 1) (la := la) (id := id) (p := p) (by rw [bits]; simp only [List.append_assoc]) hp (by omega) h0 h1 hle
        rw [w1] at hg
        rw [hg] at hn
        simp only at hn
        rw [w2] at hn
        have hid : idv = id := by rw [hi, hn]; exact idv_at h0 h1 hle
        subst hid
        have hrP := hst r hr
        have e1 : F1.drop r = F2 := by rw [hrP, eF, List.drop_left]
        have e2 : F1.take r = P := by rw [hrP, eF, List.take_left]
        rw [e1] at hS
        rw [hg, hn, hb] at hP
        rcases hP with ⟨q, _⟩ | ⟨_, rfl, rfl, rfl, q4, q5⟩
        · simp at q
        · rw [q4, q5] at hS
          simp only [Bool.or_self, ne_eq, not_true_eq_false, decide_false] at hS
          rw [seenM_at (L := L) (pre := pre ++ wordB 1 la idv) (rest := deltaM f' (takeL idv F2) (takeL idv T2) idv ++ putB 3 2 ++ pad) (v := takeS idv T2) (by rw [bits]; simp only [List.append_assoc]) rfl gF gT hv2.symm (fun q => by cases q) (fun q => by cases q) (fun q => by cases q)] at hS
          injection hS with s1 s2
          injection s2 with s2 s3
          rw [e1, e2, s1, s2, s3]
          refine ⟨rfl, takeL idv T2, f', idv, pre ++ wordB 1 la idv ++ partsB true true true (takeS idv F2) (takeS idv T2), pad, ?_, hf', hx.rf, hx.rt, by omega, Int.le_refl _, by rw [bits]; simp only [List.append_assoc], rfl⟩
          rw [eT]
          conv => lhs; rw [h6]
          simp only [List.append_assoc]
      · have ek : chgB la (takeS id F2) (takeS id T2) = wordB 2 la id ++ putB (pN (d4 (takeS id F2) (takeS id T2)) (d2 (takeS id F2) (takeS id T2)) (d1 (takeS id F2) (takeS id T2))).toNat 3 ++ partsB (d4 (takeS id F2) (takeS id T2)) (d2 (takeS id F2) (takeS id T2)) (d1 (takeS id F2) (takeS id T2)) (takeS id F2) (takeS id T2) := by
          unfold chgB; rw [hx.ne]; simp only [Bool.false_eq_true, if_false]; rw [if_neg hv, if_neg hu, hv2]
        obtain ⟨u, hU⟩ : ∃ u, takeS id F2 = u := ⟨_, rfl⟩
        obtain ⟨v, hV⟩ : ∃ v, takeS id T2 = v := ⟨_, rfl⟩
        rw [hU, hV] at ek
        have hx_gF := gF; have hx_gT := gT
        rw [hU] at gF hu
        rw [hV] at gT hv hv2 h6
        obtain ⟨a4, ha4⟩ : ∃ a, d4 u v = a := ⟨_, rfl⟩
        obtain ⟨a2, ha2⟩ : ∃ a, d2 u v = a := ⟨_, rfl⟩
        obtain ⟨a1, ha1⟩ : ∃ a, d1 u v = a := ⟨_, rfl⟩
        rw [ha4, ha2, ha1] at ek
        rw [hU, hV, ek] at bits
        obtain ⟨w1, w2⟩ := word_at (L := L) (pre := pre) (rest := putB (pN a4 a2 a1).toNat 3 ++ partsB a4 a2 a1 u v ++ deltaM f' (takeL id F2) (takeL id T2) id ++ putB 3 2 ++ pad) (k := 2) (la := la) (id := id) (p := p) (by rw [bits]; simp only [List.append_assoc]) hp (by omega) h0 h1 hle
        have w3 : getM L (pre ++ wordB 2 la id).length 3 = (0, (((pN a4 a2 a1).toNat : Nat) : Int), (pre ++ wordB 2 la id ++ putB (pN a4 a2 a1).toNat 3).length) := gM_at (L := L) (a := pre ++ wordB 2 la id) (k := (pN a4 a2 a1).toNat) (wd := 3) (c := partsB a4 a2 a1 u v ++ deltaM f' (takeL id F2) (takeL id T2) id ++ putB 3 2 ++ pad) (by rw [bits]; simp only [List.append_assoc]) rfl (by cases a4 <;> cases a2 <;> cases a1 <;> decide) (by omega)
        rw [w1] at hg
        rw [hg] at hn
        simp only at hn
        rw [w2] at hn
        have hid : idv = id := by rw [hi, hn]; exact idv_at h0 h1 hle
        subst hid
        have hrP := hst r hr
        have e1 : F1.drop r = F2 := by rw [hrP, eF, List.drop_left]
        have e2 : F1.take r = P := by rw [hrP, eF, List.take_left]
        rw [e1, hU] at hS
        rw [hg, hn, hb] at hP
        rcases hP with ⟨_, q2, q3, q4⟩ | ⟨q, _⟩
        · simp only at q2 q3 q4
          rw [w3] at q2 q3 q4
          simp only at q2 q3 q4
          have q5 : (((pN a4 a2 a1).toNat : Nat) : Int) = pN a4 a2 a1 := by cases a4 <;> cases a2 <;> cases a1 <;> rfl
          rw [q5] at q2
          obtain ⟨rfl, rfl, rfl⟩ := pN_inj q2
          rw [q3, q4] at hS
          simp only [Bool.or_self, ne_eq, not_true_eq_false, decide_false] at hS
          rw [seenM_at (L := L) (pre := pre ++ wordB 2 la idv ++ putB (pN A B C).toNat 3) (rest := deltaM f' (takeL idv F2) (takeL idv T2) idv ++ putB 3 2 ++ pad) (v := v) (by rw [bits]; simp only [List.append_assoc]) rfl gF gT hv2.symm (fun q => d4_no (by rw [ha4, q])) (fun q => neqV_no (show d2 u v = false by rw [ha2, q])) (fun q => neqV_no (show d1 u v = false by rw [ha1, q]))] at hS
          injection hS with s1 s2
          injection s2 with s2 s3
          rw [e1, e2, s1, s2, s3]
          refine ⟨rfl, takeL idv T2, f', idv, pre ++ wordB 2 la idv ++ putB (pN A B C).toNat 3 ++ partsB A B C u v, pad, ?_, hf', hx.rf, hx.rt, by omega, Int.le_refl _, by rw [bits]; simp only [List.append_assoc], rfl⟩
          rw [eT]
          conv => lhs; rw [h6]
          simp only [List.append_assoc]
        · simp at q
end Go.Proofs.YtedhdmahdioboaaDoor
