/- Var of the reference's Tape: it reads what gather reads. -/
import Derived.Test.YtedhdmahdioboaaSu3
namespace Go.Proofs.Ytedhdmahdioboaa
open Go.ChangeShapes Go.WideShapes Go.ChangeAt Go.RowKit
set_option linter.unusedVariables false
set_option linter.unusedSimpArgs false

theorem valB_app (a b : List Nat) : valB (a ++ b) = valB a * 2 ^ b.length + valB b := by
  have key : ∀ (n : Nat) (b : List Nat), b.length = n → valB (a ++ b) = valB a * 2 ^ n + valB b := by
    intro n
    induction n with
    | zero => intro b hb; rw [List.length_eq_zero_iff.1 hb]; simp [valB]
    | succ n ih =>
      intro b hb
      have hne : b ≠ [] := by intro e; rw [e] at hb; simp at hb
      rw [← List.dropLast_concat_getLast hne, ← List.append_assoc, valB_snoc, valB_snoc, ih b.dropLast (by simp [hb]), Nat.pow_succ]
      rw [Nat.mul_add, ← Nat.mul_assoc, Nat.mul_comm 2 (valB a), Nat.mul_assoc, Nat.mul_comm 2 (2 ^ n)]
      omega
  exact key _ b rfl
theorem val6 (l : List Nat) (p : Nat) (h : p + 6 ≤ l.length) : valB ((l.drop p).take 6) = 32 * valB ((l.drop p).take 1) + valB ((l.drop (p + 1)).take 5) := by
  rw [show (6 : Nat) = 1 + 5 from rfl, List.take_add, valB_app, List.drop_drop]
  have : ((l.drop (p + 1)).take 5).length = 5 := by simp; omega
  rw [this]; omega
/-- Bounds of a piece at place i below 12: all may be; at 12: up to 3. -/
theorem room_low (n i : Nat) (hi : i < 12) (hn : n < 2 ^ (5 * i)) : 31 ≤ (4611686018427387903 - n) / 2 ^ (5 * i) := by
  have hp : 2 ^ (5 * i) ≤ 2 ^ 55 := Nat.pow_le_pow_right (by omega) (by omega)
  rw [Nat.le_div_iff_mul_le (Nat.pow_pos (by omega))]
  have : (2 : Nat) ^ 55 = 36028797018963968 := by decide
  omega
theorem room_12 (n : Nat) (hn : n < 2 ^ 60) : (4611686018427387903 - n) / 2 ^ 60 = 3 := by
  have : (2 : Nat) ^ 60 = 1152921504606846976 := by decide
  rw [this] at hn ⊢
  omega
theorem acc_lt (n u i : Nat) (hn : n < 2 ^ (5 * i)) (hu : u < 32) : n + u * 2 ^ (5 * i) < 2 ^ (5 * (i + 1)) := by
  rw [show 5 * (i + 1) = 5 * i + 5 by omega, Nat.pow_add]
  generalize 2 ^ (5 * i) = B at hn ⊢
  have := Nat.mul_le_mul_right B (show u ≤ 31 by omega)
  omega
/-- What may not be, at a piece. -/
def badP (i more u : Nat) : Prop := (i = 12 ∧ (more = 1 ∨ 3 < u)) ∨ (0 < i ∧ more = 0 ∧ u = 0)
section
variable {l : List Nat} {f i n P more u : Nat}
theorem step_bad (hl : P + 6 ≤ l.length) (hf : 13 - i = f + 1) (hv : valB ((l.drop P).take 6) = 32 * more + u) (hm : more ≤ 1) (hu : u < 32) (hn : n < 2 ^ (5 * i)) (hb : badP i more u) : (gatherM 4611686018427387903 l (f + 1) i n P).1 = 3 := by
  rw [gatherM_succ, if_neg (by omega), hv]
  by_cases q : 0 < i ∧ 32 * more + u = 0
  · rw [if_pos q]
  · rw [if_neg q]
    rcases hb with ⟨rfl, hb⟩ | ⟨h1, h2, h3⟩
    · rw [show (5 * 12 : Nat) = 60 from rfl] at hn ⊢
      rw [room_12 n hn]
      split
      · rfl
      · rw [if_neg (by omega), show f = 0 by omega]; rfl
    · exact absurd ⟨h1, by omega⟩ q
theorem room_good (hi : i ≤ 12) (hm : more ≤ 1) (hu : u < 32) (hn : n < 2 ^ (5 * i)) (hb : ¬ badP i more u) : ¬ (4611686018427387903 - n) / 2 ^ (5 * i) < (32 * more + u) % 32 := by
  rw [show (32 * more + u) % 32 = u by omega]
  by_cases h12 : i = 12
  · subst h12
    rw [show (5 * 12 : Nat) = 60 from rfl] at hn ⊢
    rw [room_12 n hn]
    exact fun q => hb (Or.inl ⟨rfl, Or.inr q⟩)
  · have := room_low n i (by omega) hn
    omega
theorem step_good (hl : P + 6 ≤ l.length) (hi : i ≤ 12) (hv : valB ((l.drop P).take 6) = 32 * more + u) (hm : more ≤ 1) (hu : u < 32) (hn : n < 2 ^ (5 * i)) (hb : ¬ badP i more u) :
    gatherM 4611686018427387903 l (f + 1) i n P = if more = 0 then (0, n + u * 2 ^ (5 * i), P + 6) else gatherM 4611686018427387903 l f (i + 1) (n + u * 2 ^ (5 * i)) (P + 6) := by
  rw [gatherM_succ, if_neg (by omega), hv, if_neg (fun q => hb (Or.inr ⟨q.1, by omega, by omega⟩)), if_neg (room_good hi hm hu hn hb), show (32 * more + u) % 32 = u by omega]
  by_cases h0 : more = 0
  · rw [if_pos h0, if_pos (by omega)]
  · rw [if_neg h0, if_neg (by omega)]
theorem sum_good (hi : i ≤ 12) (hu : u < 32) (hn : n < 2 ^ (5 * i)) (hb : ¬ badP i more u) : n + u * 2 ^ (5 * i) ≤ 4611686018427387903 := by
  by_cases h12 : i = 12
  · subst h12
    have : u ≤ 3 := Nat.not_lt.1 (fun q => hb (Or.inl ⟨rfl, Or.inr q⟩))
    rw [show (2 : Nat) ^ (5 * 12) = 1152921504606846976 by decide] at hn ⊢
    omega
  · have h1 := acc_lt n u i hn hu
    have h2 : 2 ^ (5 * (i + 1)) ≤ 2 ^ 60 := Nat.pow_le_pow_right (by omega) (by omega)
    have : (2 : Nat) ^ 60 = 1152921504606846976 := by decide
    omega
end
/-- As Var's loop goes: the tape, the two variables that fail has. -/
structure TV (kt : Nat) (v : Value) (l : List Nat) (p k1 k2 P : Nat) (w wr : World) : Prop where
  tp : TpAt wr kt v l P
  b1 : wr.heap[k1]? = some (.cells #[.pointer (some ⟨kt, 0, none⟩)] 163)
  b2 : wr.heap[k2]? = some (.cells #[.int .i64 ((p : Nat) : Int)] 3)
  n1 : k1 ≠ kt
  n2 : k2 ≠ kt
  pl : p ≤ l.length
  only : Only [kt] w wr
theorem TV.read {kt : Nat} {v : Value} {l : List Nat} {p k1 k2 P Q : Nat} {w wr w' : World} (h : TV kt v l p k1 k2 P w wr) (hq : TpAt w' kt v l Q) (o : Only [kt] wr w') : TV kt v l p k1 k2 Q w w' :=
  ⟨hq, (o.block k1 (Array.getElem?_eq_some_iff.1 h.b1).1 (by simp only [List.mem_singleton]; exact h.n1)).trans h.b1, (o.block k2 (Array.getElem?_eq_some_iff.1 h.b2).1 (by simp only [List.mem_singleton]; exact h.n2)).trans h.b2, h.n1, h.n2, h.pl, h.only.trans o⟩
theorem TV.c1 {kt : Nat} {v : Value} {l : List Nat} {p k1 k2 P : Nat} {w wr : World} (h : TV kt v l p k1 k2 P w wr) : wr.cell? ⟨k1, 0, none⟩ = some (.pointer (some ⟨kt, 0, none⟩)) := by simp [World.cell?, h.b1]
theorem TV.c2 {kt : Nat} {v : Value} {l : List Nat} {p k1 k2 P : Nat} {w wr : World} (h : TV kt v l p k1 k2 P w wr) : wr.cell? ⟨k2, 0, none⟩ = some (.int .i64 ((p : Nat) : Int)) := by simp [World.cell?, h.b2]
set_option maxRecDepth 100000 in
set_option maxHeartbeats 4000000 in
theorem tfail_calls (kt : Nat) (v : Value) (l : List Nat) (p k1 k2 P : Nat) (er : Int) (w wr : World) (h : TV kt v l p k1 k2 P w wr) :
    Calls Try.prog 119 #[.int .i64 er, .pointer (some ⟨k2, 0, none⟩), .pointer (some ⟨k1, 0, none⟩)] wr (TpPost kt v l er 0 p w) := by
  have c1 := h.c1; have c2 := h.c2; have t1 := h.tp.c1; have f1 := h.tp.free 1
  have H2 : Hid (TpAt (wr.setCell ⟨kt, 1, none⟩ (.int .i64 ((p : Nat) : Int))) kt v l p ∧ Only [kt] w (wr.setCell ⟨kt, 1, none⟩ (.int .i64 ((p : Nat) : Int)))) := ⟨h.tp.put h.pl, h.only.setCell (p := ⟨kt, 1, none⟩) (Or.inl (by simp)) _⟩
  clear h
  go_enter Try.func119, Try.ntmps119
  go_wp2_with fail
  refine bodyPost_ret (v := .tuple #[.int .i64 0, .int .i64 er]) (by simp [results, Try.results119, go_sem]) rfl ?_
  exact ⟨rfl, H2.out.1, H2.out.2⟩
set_option maxRecDepth 100000 in
set_option maxHeartbeats 4000000 in
theorem tvar_calls (kt : Nat) (v : Value) (L : List Nat) (p : Nat) (w : World) (h : TpAt w kt v (bitsOf L) p) :
    Calls Try.prog 80 #[.pointer (some ⟨kt, 0, none⟩)] w (TpPost kt v (bitsOf L) ((numM 4611686018427387903 L p).1 : Nat) ((numM 4611686018427387903 L p).2.1 : Nat) (numM 4611686018427387903 L p).2.2 w) := by
  obtain ⟨a, cv, rfl, _, _⟩ := h.sl.shape
  have c1 := h.c1
  have hc1 : ∀ o, (w.alloc o).cell? ⟨kt, 1, none⟩ = some (.int .i64 ((p : Nat) : Int)) := later c1
  have HT : Hid (TpAt w kt (.slice a (bitsOf L).length cv) (bitsOf L) p) := h
  clear h
  go_enter Try.func80, Try.ntmps80
  go_upto_region 3 with fail
  have H0 : Hid (TV kt (.slice a (bitsOf L).length cv) (bitsOf L) p w.heap.size (w.heap.size + 1) (p + 6 * 0) w ((w.alloc (.cells #[.pointer (some ⟨kt, 0, none⟩)] 163)).alloc (.cells #[.int .i64 ((p : Nat) : Int)] 3))) := by
    have hl := HT.out.lt
    have o : Only [] w ((w.alloc (.cells #[.pointer (some ⟨kt, 0, none⟩)] 163)).alloc (.cells #[.int .i64 ((p : Nat) : Int)] 3)) := ((Only.refl [] w).alloc _).alloc _
    refine ⟨HT.out.keep o, ?_, ?_, by omega, by omega, HT.out.pos, o.mono (by simp)⟩
    · rw [Below.heap_alloc _ _ _ (by simp)]; exact (MapKept.heap_alloc w _).1
    · have := (MapKept.heap_alloc (w.alloc (.cells #[.pointer (some ⟨kt, 0, none⟩)] 163)) (.cells #[.int .i64 ((p : Nat) : Int)] 3)).1
      simpa using this
  clear c1 hc1
  revert H0
  generalize World.alloc (World.alloc w _) _ = w1
  generalize w.heap.size + 1 = k2
  generalize w.heap.size = k1
  intro H0
  obtain ⟨G, hG⟩ : ∃ G, G = gatherM 4611686018427387903 (bitsOf L) 13 0 0 p := ⟨_, rfl⟩
  have HNM : Hid (numM 4611686018427387903 L p = if G.1 = 0 then G else (G.1, 0, p)) := by show _ = _; rw [hG]; rfl
  have HG0 : Hid (G = gatherM 4611686018427387903 (bitsOf L) (13 - 0) 0 0 (p + 6 * 0)) := hG
  clear hG
  go_wp2_with fail
  go_loopg [6, 7] 13 (fun k x idx wr => ∃ i n : Nat, x = .int .i64 (n : Int) ∧ idx = .int .i64 (i : Int) ∧ Hid (k = 13 - i ∧ i ≤ 12 ∧ n < 2 ^ (5 * i) ∧ G = gatherM 4611686018427387903 (bitsOf L) (13 - i) i n (p + 6 * i)) ∧ Hid (TV kt (.slice a (bitsOf L).length cv) (bitsOf L) p k1 k2 (p + 6 * i) w wr))
  case atStart => exact ⟨0, 0, rfl, rfl, ⟨rfl, by omega, by simp, HG0.out⟩, H0⟩
  case round =>
    clear H0 HG0
    obtain ⟨i, n, rfl, rfl, HI, HE⟩ := hrel
    have hi12 := HI.out.2.1
    obtain ⟨f, hf⟩ : ∃ f, 13 - i = f + 1 := ⟨12 - i, by omega⟩
    have HF : Hid (13 - i = f + 1) := hf
    rw [hf] at HI
    clear hf
    obtain ⟨P, hP⟩ : ∃ P, P = p + 6 * i := ⟨_, rfl⟩
    rw [← hP] at HI HE
    have HPP : Hid (P = p + 6 * i) := hP
    clear hP
    have c1 := HE.out.c1; have t0 := HE.out.tp.c0; have t1 := HE.out.tp.c1
    have hlen := HE.out.tp.len; have hpos := HE.out.tp.pos
    have HM : Hid (IntKind.i64.wrap ((P : Int) + 6) = (P : Int) + 6) := wrap_i64 (P + 6) (by omega)
    go_upto_region 6 with fail
    refine wp_region_held_drew (S := (fun w' => w'.cell? ⟨k1, 0, none⟩ = some (.pointer (some ⟨kt, 0, none⟩)) ∧ w'.cell? ⟨kt, 0, none⟩ = some (.slice a (bitsOf L).length cv) ∧ w'.cell? ⟨kt, 1, none⟩ = some (.int .i64 ((P : Nat) : Int)))) (by kernel_rfl) ?_ (fun hHeld1 => ?_)
    · (try dsimp only); exact ⟨c1, t0, t1⟩
    refine tkW 0 rfl ?_; refine tkW 1 rfl ?_; refine tkW 2 rfl ?_; refine tkW 3 rfl ?_
    try simp only [Act.put, List.setIfInBounds_toArray, List.set_cons_zero, List.set_cons_succ, List.getElem_toArray, List.getElem_cons_succ, List.getElem_cons_zero]
    refine tkW (v := .int .i64 ((P : Int) + 6)) 4 rfl ?_ (by intro w'' hSw; (try dsimp only at hSw); simp only [List.getElem_toArray, List.getElem_cons_succ, List.getElem_cons_zero]; go_simp; rw [HM.out])
    try simp only [Act.put, List.setIfInBounds_toArray, List.set_cons_zero, List.set_cons_succ, List.getElem_toArray, List.getElem_cons_succ, List.getElem_cons_zero]
    refine tkW 5 rfl ?_; refine tkW 6 rfl ?_; refine tkW 7 rfl ?_; refine tkW 8 rfl ?_
    try simp only [Act.put, List.setIfInBounds_toArray, List.set_cons_zero, List.set_cons_succ, List.getElem_toArray, List.getElem_cons_succ, List.getElem_cons_zero]
    refine tkW 9 rfl ?_; refine tkW 10 rfl ?_
    try simp only [Act.put, List.setIfInBounds_toArray, List.set_cons_zero, List.set_cons_succ, List.getElem_toArray, List.getElem_cons_succ, List.getElem_cons_zero]
    refine wpAnyH_done (by kernel_rfl) ?_ _
    have H2 : Hid (TV kt (.slice a (bitsOf L).length cv) (bitsOf L) p k1 k2 P w wr.drew) := HE.out.read (HE.out.tp.keep (Only.refl [] wr).drew) (Only.refl _ wr).drew
    clear c1 t0 t1 HE hHeld1
    generalize World.drew wr = w2 at H2 ⊢
    by_cases hgt : (P : Int) + 6 > ((bitsOf L).length : Int)
    · have H5 : Hid (∀ e w', TpPost kt (.slice a (bitsOf L).length cv) (bitsOf L) 8 0 p w e w' → TpPost kt (.slice a (bitsOf L).length cv) (bitsOf L) ((numM 4611686018427387903 L p).1 : Nat) ((numM 4611686018427387903 L p).2.1 : Nat) (numM 4611686018427387903 L p).2.2 w e w') := fun e w' q => by
        have e3 := HI.out.2.2.2
        rw [gatherM_succ, if_pos (by omega)] at e3
        rw [HNM.out, e3]
        exact q
      go_wp2_with fail
      refine (tfail_calls kt _ (bitsOf L) p k1 k2 P 8 w w2 H2.out).mono ?_
      rintro e w3 ⟨rfl, h3⟩
      have H6 : Hid (TpPost kt (.slice a (bitsOf L).length cv) (bitsOf L) 8 0 p w (.returned (.tuple #[.int .i64 0, .int .i64 8])) w3) := ⟨rfl, h3⟩
      clear h3
      go_wp2_with fail
      exact bodyPost_ret (v := .tuple #[.int .i64 0, .int .i64 8]) (by simp [results, Try.results80, go_sem]) rfl (H5.out _ _ H6.out)
    · have c1 := H2.out.c1
      have HLL : Hid (P + 6 ≤ (bitsOf L).length) := by show _ ≤ _; omega
      go_wp2_with fail
      refine (tget_calls kt _ (bitsOf L) P 1 w2 H2.out.tp).mono ?_
      rintro e w3 (⟨hb, _⟩ | ⟨_, hb, _⟩ | ⟨_, _, rfl, hr, o3⟩)
      · omega
      · have := HLL.out; simp at hb; omega
      have H3 : Hid (TV kt (.slice a (bitsOf L).length cv) (bitsOf L) p k1 k2 (P + 1) w w3) := H2.out.read hr o3
      clear hr o3 c1 H2 hgt
      have c1 := H3.out.c1
      simp only [show (1 : Int).toNat = 1 from rfl]
      obtain ⟨more, hmo⟩ : ∃ more, more = valB (((bitsOf L).drop P).take 1) := ⟨_, rfl⟩
      rw [← hmo]
      have HMO : Hid (more = valB (((bitsOf L).drop P).take 1)) := hmo
      clear hmo
      go_wp2_with fail
      refine (tget_calls kt _ (bitsOf L) (P + 1) 5 w3 H3.out.tp).mono ?_
      rintro e w4 (⟨hb, _⟩ | ⟨_, hb, _⟩ | ⟨_, _, rfl, hr, o4⟩)
      · omega
      · have := HLL.out; simp at hb; omega
      have H4 : Hid (TV kt (.slice a (bitsOf L).length cv) (bitsOf L) p k1 k2 (P + 6) w w4) := H3.out.read hr o4
      clear hr o4 c1 H3
      simp only [show (5 : Int).toNat = 5 from rfl]
      obtain ⟨u, huu⟩ : ∃ u, u = valB (((bitsOf L).drop (P + 1)).take 5) := ⟨_, rfl⟩
      rw [← huu]
      have hmo := HMO.out
      have HV : Hid (valB (((bitsOf L).drop P).take 6) = 32 * more + u) := by show _ = _; rw [val6 _ _ HLL.out, ← hmo, ← huu]
      have hb1 : ∀ q k, valB (((bitsOf L).drop q).take k) < 2 ^ k := fun q k => Nat.lt_of_lt_of_le (valB_lt (fun b hb => bitsOf_bits L b (List.mem_of_mem_drop (List.mem_of_mem_take hb)))) (Nat.pow_le_pow_right (by omega) (by rw [List.length_take]; omega))
      have hm1 : more ≤ 1 := by have := hb1 P 1; rw [← hmo] at this; omega
      have hu32 : u < 32 := by have := hb1 (P + 1) 5; rw [← huu] at this; omega
      clear hmo huu hb1
      by_cases hbad : badP i more u
      · have H5 : Hid (∀ e w', TpPost kt (.slice a (bitsOf L).length cv) (bitsOf L) 3 0 p w e w' → TpPost kt (.slice a (bitsOf L).length cv) (bitsOf L) ((numM 4611686018427387903 L p).1 : Nat) ((numM 4611686018427387903 L p).2.1 : Nat) (numM 4611686018427387903 L p).2.2 w e w') := fun e w' q => by
          have e3 := step_bad (l := bitsOf L) HLL.out HF.out HV.out hm1 hu32 HI.out.2.2.1 hbad
          rw [← HI.out.2.2.2] at e3
          rw [HNM.out, if_neg (by rw [e3]; omega), e3]
          exact q
        have hcs : (i = 12 ∧ more = 1) ∨ (i = 12 ∧ more = 0 ∧ (u : Int) > 3) ∨ (i = 12 ∧ more = 0 ∧ u = 0) ∨ (¬ (i : Int) = 12 ∧ (i : Int) > 0 ∧ more = 0 ∧ u = 0) := by unfold badP at hbad; omega
        clear hbad
        rcases hcs with ⟨rfl, rfl⟩ | ⟨rfl, rfl, g3⟩ | ⟨rfl, rfl, rfl⟩ | ⟨g1, g4, rfl, rfl⟩
        all_goals
          go_wp2_with fail
          refine (tfail_calls kt _ (bitsOf L) p k1 k2 (P + 6) 3 w w4 H4.out).mono ?_
          rintro e w5 ⟨rfl, h5⟩
          have H6 : Hid (TpPost kt (.slice a (bitsOf L).length cv) (bitsOf L) 3 0 p w (.returned (.tuple #[.int .i64 0, .int .i64 3])) w5) := ⟨rfl, h5⟩
          clear h5
          go_wp2_with fail
          exact bodyPost_ret (v := .tuple #[.int .i64 0, .int .i64 3]) (by simp [results, Try.results80, go_sem]) rfl (H5.out _ _ H6.out)
      · obtain ⟨S, hS⟩ : ∃ S, S = n + u * 2 ^ (5 * i) := ⟨_, rfl⟩
        have HSE : Hid (S = n + u * 2 ^ (5 * i) ∧ S ≤ 4611686018427387903 ∧ S < 2 ^ (5 * (i + 1))) := ⟨hS, by rw [hS]; exact sum_good HI.out.2.1 hu32 HI.out.2.2.1 hbad, by rw [hS]; exact acc_lt n u i HI.out.2.2.1 hu32⟩
        have HGG : Hid (G = if more = 0 then (0, S, P + 6) else gatherM 4611686018427387903 (bitsOf L) f (i + 1) S (P + 6)) := by
          show _ = _
          rw [HI.out.2.2.2, step_good HLL.out HI.out.2.1 HV.out hm1 hu32 HI.out.2.2.1 hbad, hS]
        clear hS
        have hcs : (i = 12 ∧ more = 0 ∧ ¬ (u : Int) > 3 ∧ ¬ (u : Int) = 0) ∨ (¬ (i : Int) = 12 ∧ (i : Int) > 0 ∧ more = 1) ∨ (¬ (i : Int) = 12 ∧ (i : Int) > 0 ∧ more = 0 ∧ ¬ (u : Int) = 0) ∨ (i = 0 ∧ more = 1) ∨ (i = 0 ∧ more = 0) := by unfold badP at hbad; omega
        clear hbad
        rcases hcs with ⟨rfl, rfl, g3, g4⟩ | ⟨g1, g4, rfl⟩ | ⟨g1, g4, rfl, g3⟩ | ⟨rfl, rfl⟩ | ⟨rfl, rfl⟩
        · go_upto_region 13 with fail
          have hW : wrap64 ((n : Int) + (u : Int) * 1152921504606846976) = (S : Int) := by
            have h1 := HSE.out.1; have h2 := HSE.out.2.1
            rw [show (2 : Nat) ^ (5 * 12) = 1152921504606846976 by decide] at h1
            unfold wrap64; omega
          rw [hW]
          clear hW
          have H6 : Hid (TpPost kt (.slice a (bitsOf L).length cv) (bitsOf L) ((numM 4611686018427387903 L p).1 : Nat) ((numM 4611686018427387903 L p).2.1 : Nat) (numM 4611686018427387903 L p).2.2 w (.returned (.tuple #[.int .i64 ((S : Int)), .int .i64 0])) w4) := by
            have e3 := HGG.out
            rw [if_pos rfl] at e3
            rw [HNM.out, e3]
            exact ⟨rfl, H4.out.tp, H4.out.only⟩
          go_wp2_with fail
          exact bodyPost_ret (v := .tuple #[.int .i64 ((S : Int)), .int .i64 0]) (by simp [results, Try.results80, go_sem]) rfl H6.out
        · go_upto_region 13 with fail
          rw [show wrap64 ((n : Int) + wrap64 ((u : Int) * 2 ^ (5 * i))) = (S : Int) from by have h4 : (u : Int) * 2 ^ (5 * i) = ((u * 2 ^ (5 * i) : Nat) : Int) := by { simp }; rw [h4]; exact wrap_sum HSE.out.1 HSE.out.2.1 (Nat.le_refl _)]
          have e3 := HGG.out
          rw [if_neg (by omega)] at e3
          have H6 : Hid (13 - (i + 1) = 13 - (i + 1) ∧ i + 1 ≤ 12 ∧ S < 2 ^ (5 * (i + 1)) ∧ G = gatherM 4611686018427387903 (bitsOf L) (13 - (i + 1)) (i + 1) S (p + 6 * (i + 1))) :=
            ⟨rfl, by omega, HSE.out.2.2, by rw [e3, show f = 13 - (i + 1) by have := HF.out; omega, show P + 6 = p + 6 * (i + 1) by have := HPP.out; omega]⟩
          have H7 : Hid (TV kt (.slice a (bitsOf L).length cv) (bitsOf L) p k1 k2 (p + 6 * (i + 1)) w w4) := by
            have := H4.out
            rw [show P + 6 = p + 6 * (i + 1) by have := HPP.out; omega] at this
            exact this
          clear e3
          go_wp2_with fail
          go_roundg (13 - (i + 1))
          case measure => have := HI.out.1; have := HF.out; omega
          case rel => exact ⟨i + 1, S, rfl, by first | rfl | go_num, ⟨rfl, H6.out.2⟩, H7⟩
        · go_upto_region 13 with fail
          rw [show wrap64 ((n : Int) + wrap64 ((u : Int) * 2 ^ (5 * i))) = (S : Int) from by have h4 : (u : Int) * 2 ^ (5 * i) = ((u * 2 ^ (5 * i) : Nat) : Int) := by { simp }; rw [h4]; exact wrap_sum HSE.out.1 HSE.out.2.1 (Nat.le_refl _)]
          have H6 : Hid (TpPost kt (.slice a (bitsOf L).length cv) (bitsOf L) ((numM 4611686018427387903 L p).1 : Nat) ((numM 4611686018427387903 L p).2.1 : Nat) (numM 4611686018427387903 L p).2.2 w (.returned (.tuple #[.int .i64 ((S : Int)), .int .i64 0])) w4) := by
            have e3 := HGG.out
            rw [if_pos rfl] at e3
            rw [HNM.out, e3]
            exact ⟨rfl, H4.out.tp, H4.out.only⟩
          go_wp2_with fail
          exact bodyPost_ret (v := .tuple #[.int .i64 ((S : Int)), .int .i64 0]) (by simp [results, Try.results80, go_sem]) rfl H6.out
        · go_upto_region 13 with fail
          have hW : wrap64 ((n : Int) + (u : Int)) = (S : Int) := by
            have h1 := HSE.out.1; have h2 := HSE.out.2.1
            rw [show (2 : Nat) ^ (5 * 0) = 1 by decide] at h1
            unfold wrap64; omega
          rw [hW]
          clear hW
          have e3 := HGG.out
          rw [if_neg (by omega)] at e3
          have H6 : Hid (13 - (0 + 1) = 13 - (0 + 1) ∧ 0 + 1 ≤ 12 ∧ S < 2 ^ (5 * (0 + 1)) ∧ G = gatherM 4611686018427387903 (bitsOf L) (13 - (0 + 1)) (0 + 1) S (p + 6 * (0 + 1))) :=
            ⟨rfl, by omega, HSE.out.2.2, by rw [e3, show f = 13 - (0 + 1) by have := HF.out; omega, show P + 6 = p + 6 * (0 + 1) by have := HPP.out; omega]⟩
          have H7 : Hid (TV kt (.slice a (bitsOf L).length cv) (bitsOf L) p k1 k2 (p + 6 * (0 + 1)) w w4) := by
            have := H4.out
            rw [show P + 6 = p + 6 * (0 + 1) by have := HPP.out; omega] at this
            exact this
          clear e3
          go_wp2_with fail
          go_roundg (13 - (0 + 1))
          case measure => have := HI.out.1; have := HF.out; omega
          case rel => exact ⟨0 + 1, S, rfl, by first | rfl | go_num, ⟨rfl, H6.out.2⟩, H7⟩
        · go_upto_region 13 with fail
          have hW : wrap64 ((n : Int) + (u : Int)) = (S : Int) := by
            have h1 := HSE.out.1; have h2 := HSE.out.2.1
            rw [show (2 : Nat) ^ (5 * 0) = 1 by decide] at h1
            unfold wrap64; omega
          rw [hW]
          clear hW
          have H6 : Hid (TpPost kt (.slice a (bitsOf L).length cv) (bitsOf L) ((numM 4611686018427387903 L p).1 : Nat) ((numM 4611686018427387903 L p).2.1 : Nat) (numM 4611686018427387903 L p).2.2 w (.returned (.tuple #[.int .i64 ((S : Int)), .int .i64 0])) w4) := by
            have e3 := HGG.out
            rw [if_pos rfl] at e3
            rw [HNM.out, e3]
            exact ⟨rfl, H4.out.tp, H4.out.only⟩
          go_wp2_with fail
          exact bodyPost_ret (v := .tuple #[.int .i64 ((S : Int)), .int .i64 0]) (by simp [results, Try.results80, go_sem]) rfl H6.out
end Go.Proofs.Ytedhdmahdioboaa
