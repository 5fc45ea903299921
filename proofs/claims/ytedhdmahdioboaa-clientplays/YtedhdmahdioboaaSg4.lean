/- Of package bits: gather, number, and a Reader's Var and Int: whichever bytes. -/
import Derived.Test.YtedhdmahdioboaaSg3
namespace Go.Proofs.Ytedhdmahdioboaa
open Go.ChangeShapes Go.WideShapes Go.ChangeAt Go.RowKit
set_option linter.unusedVariables false
set_option linter.unusedSimpArgs false

theorem gatherM_succ (most : Nat) (l : List Nat) (f i n p : Nat) : gatherM most l (f + 1) i n p =
    if l.length < p + 6 then (8, 0, p) else
    if 0 < i ∧ valB ((l.drop p).take 6) = 0 then (3, 0, p + 6) else
    if (most - n) / 2 ^ (5 * i) < valB ((l.drop p).take 6) % 32 then (3, 0, p + 6) else
    if valB ((l.drop p).take 6) < 32 then (0, n + valB ((l.drop p).take 6) % 32 * 2 ^ (5 * i), p + 6) else
    gatherM most l f (i + 1) (n + valB ((l.drop p).take 6) % 32 * 2 ^ (5 * i)) (p + 6) := rfl
theorem wrap_sum {n U S most : Nat} (h1 : S = n + U) (h2 : S ≤ most) (h3 : most ≤ 4611686018427387903) : wrap64 ((n : Int) + wrap64 (U : Int)) = (S : Int) := by
  unfold wrap64; omega
/-- As gather's loop goes: what it has, where it stands. -/
structure GA (G : Nat × Nat × Nat) (r : Nat) (a : Option Addr) (c : Nat) (L : List Nat) (most p i n : Nat) (w wr : World) : Prop where
  i13 : i ≤ 13
  nm : n ≤ most
  small : most < 2 ^ 62
  goes : G = gatherM most (bitsOf L) (13 - i) i n (p + 6 * i)
  rd : RdAt wr r a c L (p + 6 * i)
  only : Only [r] w wr
set_option maxRecDepth 100000 in
set_option maxHeartbeats 2000000 in
theorem gather_calls (r : Nat) (a : Option Addr) (c : Nat) (L : List Nat) (p most : Nat) (w : World) (h : RdAt w r a c L p) (hm : most < 2 ^ 62) :
    Calls Try.prog 152 #[.pointer (some ⟨r, 0, none⟩), .int .i64 ((most : Int))] w (RdPost r a c L ((gatherM most (bitsOf L) 13 0 0 p).1 : Nat) ((gatherM most (bitsOf L) 13 0 0 p).2.1 : Nat) (gatherM most (bitsOf L) 13 0 0 p).2.2 w) := by
  generalize hG : gatherM most (bitsOf L) 13 0 0 p = G
  have H0 : Hid (GA G r a c L most p 0 0 w w) := ⟨by omega, by omega, hm, hG.symm, h, Only.refl _ _⟩
  clear h hm hG
  go_enter Try.func152, Try.ntmps152
  go_wp2_with fail
  go_loopg [6, 11] 13 (fun k v idx wr => ∃ i n : Nat, v = .int .i64 (n : Int) ∧ idx = .int .i64 (i : Int) ∧ Hid (k = 13 - i) ∧ Hid (GA G r a c L most p i n w wr))
  case atStart => exact ⟨0, 0, rfl, rfl, rfl, H0⟩
  case round =>
    clear H0
    obtain ⟨i, n, rfl, rfl, H1, HE⟩ := hrel
    by_cases hi : i < 13
    · have hil : (i : Int) < 13 := by omega
      go_wp2_with fail
      refine (get_calls r a c L (p + 6 * i) 6 wr HE.out.rd).mono ?_
      obtain ⟨f, hf⟩ : ∃ f, 13 - i = f + 1 := ⟨12 - i, by omega⟩
      have hg := HE.out.goes
      rw [hf, gatherM_succ] at hg
      rintro e w2 (⟨hb, _⟩ | ⟨_, hl, rfl, hr, o2⟩ | ⟨_, hl, rfl, hr, o2⟩)
      · omega
      · rw [if_pos (by rw [bitsOf_len]; exact (by simpa using hl))] at hg
        have H2 : Hid (RdPost r a c L (G.1 : Nat) (G.2.1 : Nat) G.2.2 w (.returned (.tuple #[.int .i64 0, errV 8])) w2) := by rw [hg]; exact ⟨rfl, hr, HE.out.only.trans o2⟩
        clear hr o2 hl hg HE
        simp only [show ((8 : Int) = 0) = False by simp, if_false, errV]
        go_wp2_with fail
        refine bodyPost_ret (v := .tuple #[.int .i64 0, errV 8]) (by simp [results, Try.results152, go_sem, errV]) rfl H2.out
      · rw [if_neg (by rw [bitsOf_len]; exact Nat.not_lt.2 (by simpa using hl))] at hg
        simp only [show ((6 : Int).toNat) = 6 from rfl] at hr ⊢
        have hv : valB (((bitsOf L).drop (p + 6 * i)).take 6) < 64 := by
          refine Nat.lt_of_lt_of_le (valB_lt (fun b hb => bitsOf_bits L b (List.mem_of_mem_drop (List.mem_of_mem_take hb)))) ?_
          exact Nat.pow_le_pow_right (n := 2) (j := 6) (by omega) (by rw [List.length_take]; omega)
        generalize valB (((bitsOf L).drop (p + 6 * i)).take 6) = v at hv hg ⊢
        have H2 : Hid (RdAt w2 r a c L (p + 6 * i + 6) ∧ Only [r] w w2 ∧ n ≤ most ∧ most < 2 ^ 62) := ⟨hr, HE.out.only.trans o2, HE.out.nm, HE.out.small⟩
        clear hr o2 hl HE
        by_cases hz : 0 < i ∧ v = 0
        · rw [if_pos hz] at hg
          have H3 : Hid (RdPost r a c L (G.1 : Nat) (G.2.1 : Nat) G.2.2 w (.returned (.tuple #[.int .i64 0, errV 3])) w2) := by rw [hg]; exact ⟨rfl, H2.out.1, H2.out.2.1⟩
          clear hg
          obtain ⟨h1, rfl⟩ := hz
          have hi0 : (i : Int) > 0 := by omega
          go_wp2_with fail
          refine bodyPost_ret (v := .tuple #[.int .i64 0, errV 3]) (by simp [results, Try.results152, go_sem, errV]) rfl H3.out
        · rw [if_neg hz] at hg
          have HG : Hid (G = if (most - n) / 2 ^ (5 * i) < v % 32 then (3, 0, p + 6 * i + 6) else if v < 32 then (0, n + v % 32 * 2 ^ (5 * i), p + 6 * i + 6) else gatherM most (bitsOf L) f (i + 1) (n + v % 32 * 2 ^ (5 * i)) (p + 6 * i + 6)) := hg
          clear hg
          have hcs : ((i : Int) > 0 ∧ ((v : Int) == 0) = false) ∨ ¬ (i : Int) > 0 := by
            by_cases q : 0 < i
            · have : ¬ v = 0 := fun e => hz ⟨q, e⟩
              left; refine ⟨by omega, ?_⟩; simp; omega
            · right; omega
          clear hz
          obtain ⟨D, hD⟩ : ∃ D, D = (most - n) / 2 ^ (5 * i) := ⟨_, rfl⟩
          obtain ⟨u, hu⟩ : ∃ u, u = v % 32 := ⟨_, rfl⟩
          obtain ⟨S, hS⟩ : ∃ S, S = n + u * 2 ^ (5 * i) := ⟨_, rfl⟩
          have hnm := H2.out.2.2.1; have hm62 := H2.out.2.2.2
          rw [← hu, ← hD, ← hS] at HG
          have HDD : Hid (((most : Int) - (n : Int)) / 2 ^ (i * 5) = (D : Int)) := by
            show _ = _
            rw [hD, ← Int.natCast_sub hnm, Nat.mul_comm 5 i]; rfl
          have HUU : Hid ((v : Int) % 32 = (u : Int)) := by show _ = _; rw [hu]; rfl
          have HSS : Hid (¬ D < u) → Hid (S ≤ most) := fun q => by
            show S ≤ most
            have h1 : u ≤ D := Nat.not_lt.1 q.out
            rw [hD, Nat.le_div_iff_mul_le (Nat.pow_pos (by omega))] at h1
            omega
          have hnm2 : (n : Int) ≤ (most : Int) := by omega
          have HM62 : Hid (most < 2 ^ 62) := hm62
          have hu32 : u < 32 := by omega
          have HSE : Hid (S = n + u * 2 ^ (5 * i) ∧ v < 64 ∧ (13 - i = f + 1)) := ⟨hS, hv, hf⟩
          clear hD hnm hm62 hu hS
          rcases hcs with ⟨hi0, hv0⟩ | hi0
          all_goals
            go_upto_region 11 with fail
            rw [HUU.out]
            have hm622 : (most : Int) ≤ 4611686018427387903 := by have := HM62.out; omega
            by_cases hlt : D < u
            · have hl2 : ((most : Int) - (n : Int)) / 2 ^ (i * 5) < (u : Int) := by rw [HDD.out]; omega
              have H3 : Hid (RdPost r a c L (G.1 : Nat) (G.2.1 : Nat) G.2.2 w (.returned (.tuple #[.int .i64 0, errV 3])) w2) := by rw [HG.out, if_pos hlt]; exact ⟨rfl, H2.out.1, H2.out.2.1⟩
              clear hlt
              go_wp2_with fail
              exact bodyPost_ret (v := .tuple #[.int .i64 0, errV 3]) (by simp [results, Try.results152, go_sem, errV]) rfl H3.out
            · have hl2 : ¬ ((most : Int) - (n : Int)) / 2 ^ (i * 5) < (u : Int) := by rw [HDD.out]; omega
              have HS2 := HSS hlt
              have HG2 : Hid (G = if v < 32 then (0, S, p + 6 * i + 6) else gatherM most (bitsOf L) f (i + 1) S (p + 6 * i + 6)) := by have := HG.out; rw [if_neg hlt] at this; exact this
              clear hlt
              go_upto_region 14 with fail
              have hW : wrap64 ((n : Int) + wrap64 ((u : Int) * 2 ^ (i * 5))) = (S : Int) := by
                have h1 := HSE.out.1; have h2 := HS2.out; have h3 := HM62.out
                have h4 : (u : Int) * 2 ^ (i * 5) = ((u * 2 ^ (5 * i) : Nat) : Int) := by rw [Nat.mul_comm 5 i]; simp
                rw [h4]
                exact wrap_sum h1 h2 (by omega)
              rw [hW]
              clear hW
              by_cases hv32 : v < 32
              · have hv2 : (v : Int) < 32 := by omega
                have H3 : Hid (RdPost r a c L (G.1 : Nat) (G.2.1 : Nat) G.2.2 w (.returned (.tuple #[.int .i64 ((S : Int)), .nilIface])) w2) := by rw [HG2.out, if_pos hv32]; exact ⟨rfl, H2.out.1, H2.out.2.1⟩
                clear hv32
                go_wp2_with fail
                exact bodyPost_ret (v := .tuple #[.int .i64 ((S : Int)), .nilIface]) (by simp [results, Try.results152, go_sem, errV]) rfl H3.out
              · have hv2 : ¬ (v : Int) < 32 := by omega
                have H3 : Hid (GA G r a c L most p (i + 1) S w w2) := ⟨by omega, HS2.out, HM62.out, by have := HG2.out; rw [if_neg hv32] at this; rw [this, show 13 - (i + 1) = f by have := HSE.out.2.2; omega, show p + 6 * (i + 1) = p + 6 * i + 6 by omega], by rw [show p + 6 * (i + 1) = p + 6 * i + 6 by omega]; exact H2.out.1, H2.out.2.1⟩
                clear hv32
                go_wp2_with fail
                go_roundg (13 - (i + 1))
                case measure => have := H1.out; omega
                case rel => exact ⟨i + 1, S, rfl, by go_num, rfl, H3⟩
    · have hil : ¬ (i : Int) < 13 := by omega
      obtain rfl : i = 13 := by have := HE.out.i13; omega
      go_wp2_with fail
      refine bodyPost_ret (v := .tuple #[.int .i64 0, errV 3]) (by simp [results, Try.results152, go_sem, errV]) rfl ?_
      rw [HE.out.goes]
      exact ⟨rfl, HE.out.rd, HE.out.only⟩
/-- What number reads: with an error nothing. -/
def numM (most : Nat) (L : List Nat) (p : Nat) : Nat × Nat × Nat := if (gatherM most (bitsOf L) 13 0 0 p).1 = 0 then gatherM most (bitsOf L) 13 0 0 p else ((gatherM most (bitsOf L) 13 0 0 p).1, 0, p)
theorem gatherM_err (most : Nat) (l : List Nat) : ∀ (f i n p : Nat), (gatherM most l f i n p).1 ≠ 0 → (gatherM most l f i n p).2.1 = 0 := by
  intro f
  induction f with
  | zero => intro i n p h; rfl
  | succ f ih =>
    intro i n p h
    rw [gatherM_succ] at h ⊢
    split at h <;> rename_i q1
    · rw [if_pos q1]
    · rw [if_neg q1]
      split at h <;> rename_i q2
      · rw [if_pos q2]
      · rw [if_neg q2]
        split at h <;> rename_i q3
        · rw [if_pos q3]
        · rw [if_neg q3]
          split at h <;> rename_i q4
          · exact absurd rfl h
          · rw [if_neg q4]; exact ih _ _ _ h
set_option maxRecDepth 100000 in
set_option maxHeartbeats 2000000 in
theorem number_calls (r : Nat) (a : Option Addr) (c : Nat) (L : List Nat) (p most : Nat) (w : World) (h : RdAt w r a c L p) (hm : most < 2 ^ 62) :
    Calls Try.prog 132 #[.pointer (some ⟨r, 0, none⟩), .int .i64 ((most : Int))] w (RdPost r a c L ((numM most L p).1 : Nat) ((numM most L p).2.1 : Nat) (numM most L p).2.2 w) := by
  have H0 : Hid (RdAt w r a c L p ∧ most < 2 ^ 62) := ⟨h, hm⟩
  have c1 := h.c1
  clear h hm
  go_enter Try.func132, Try.ntmps132
  go_wp2_with fail
  refine (gather_calls r a c L p most w H0.out.1 H0.out.2).mono ?_
  rintro e w1 ⟨rfl, hr, o1⟩
  have HN : Hid (numM most L p = if (gatherM most (bitsOf L) 13 0 0 p).1 = 0 then gatherM most (bitsOf L) 13 0 0 p else ((gatherM most (bitsOf L) 13 0 0 p).1, 0, p)) := rfl
  have HZ : Hid ((gatherM most (bitsOf L) 13 0 0 p).1 ≠ 0 → (gatherM most (bitsOf L) 13 0 0 p).2.1 = 0) := gatherM_err most (bitsOf L) 13 0 0 p
  revert HN HZ hr
  generalize gatherM most (bitsOf L) 13 0 0 p = G
  obtain ⟨er, n, q⟩ := G
  intro hr HN HZ
  simp only at hr ⊢
  by_cases he : er = 0
  · subst he
    have H2 : Hid (RdPost r a c L ((numM most L p).1 : Nat) ((numM most L p).2.1 : Nat) (numM most L p).2.2 w (.returned (.tuple #[.int .i64 ((n : Int)), .nilIface])) w1) := by rw [HN.out, if_pos rfl]; exact ⟨rfl, hr, o1⟩
    clear hr o1 HN
    simp only [show (((0 : Nat) : Int) = 0) = True by simp, if_true]
    go_wp2_with fail
    exact bodyPost_ret (v := .tuple #[.int .i64 ((n : Int)), .nilIface]) (by simp [results, Try.results132, go_sem]) rfl H2.out
  · have hn0 : n = 0 := HZ.out he
    subst hn0
    have c1' := hr.c1
    have f1 := hr.free 1
    have hei : ¬ ((er : Int) = 0) := by omega
    have H2 : Hid (RdPost r a c L ((numM most L p).1 : Nat) ((numM most L p).2.1 : Nat) (numM most L p).2.2 w (.returned (.tuple #[.int .i64 0, errV (er : Int)])) (w1.setCell ⟨r, 1, none⟩ (.int .i64 (p : Int)))) := by
      rw [HN.out, if_neg he]
      refine ⟨?_, hr.put H0.out.1.pos, o1.setCell (p := ⟨r, 1, none⟩) (Or.inl (by simp)) _⟩
      rw [if_neg hei]; rfl
    clear hr o1 HN HZ c1
    simp only [hei, if_false, errV]
    go_wp2_with fail
    exact bodyPost_ret (v := .tuple #[.int .i64 0, errV (er : Int)]) (by simp [results, Try.results132, go_sem, errV]) rfl H2.out
end Go.Proofs.Ytedhdmahdioboaa
