/- gyrekeep.SessionOnce: whichever limits, whichever tries: true. -/
import Derived.Test.YtepgcpcanbekaaaDoorSe7
namespace Go.Proofs.YtepgcpcanbekaaaDoor
open Go.ChangeShapes Go.WideShapes Go.ChangeAt Go.RowKit Go.MapKept Go.ChangeMaps
set_option linter.unusedVariables false
set_option linter.unusedSimpArgs false

structure Tk where
  wt : Int
  n : Int
def tk0 : Tk := ⟨0, 0⟩
def TakesAt (w : World) (a : Option Addr) (len : Nat) (M : Nat → Tk) : Prop :=
  ∀ j, j < len → ∃ b o, a = some ⟨b, o, none⟩ ∧ w.cell? ⟨b, o + j * 2, none⟩ = some (.int .i64 ((M j).wt)) ∧ w.cell? ⟨b, o + j * 2 + 1, none⟩ = some (.int .i64 ((M j).n))
theorem TakesAt.only {w w' : World} {a : Option Addr} {len : Nat} {M : Nat → Tk} (h : TakesAt w a len M) (o : Only [] w w') : TakesAt w' a len M := fun j hj => by
  obtain ⟨b, q, e, h0, h1⟩ := h j hj
  exact ⟨b, q, e, o.cell h0 (by simp), o.cell h1 (by simp)⟩
/-- The session and the map of what it took, ticks Ticks on. -/
structure Once (w : World) (x m : Nat) (most each : Int) (t : Nat) (s : Se) (S R : List Int) (wr : World) : Prop where
  se : SeAt wr x s
  ok : SeOk s
  came : Came s S
  mp : TMap wr m S.length R
  same : ∀ i, i ∈ R ↔ i ∈ S
  hx : w.heap.size ≤ x
  hxm : x ≠ m
  hm : w.heap.size ≤ m
  tk : s.tok = 9
  mo : s.most = most
  ea : s.each = each
  few : (S.length : Int) + s.left ≤ most + (t : Int) * each
  only : Only [] w wr
theorem Once.tick {w : World} {x m : Nat} {most each : Int} {t : Nat} {s : Se} {S R : List Int} {wr w1 : World} (h : Once w x m most each t s S R wr) (h1 : SeAt w1 x { s with left := tickL s }) (o1 : Only [x] wr w1) :
    Once w x m most each (t + 1) { s with left := tickL s } S R w1 := by
  have hxm := h.hxm
  refine ⟨h1, tick_ok h.ok, h.came.left _, h.mp.only o1 (by simp; exact fun e => hxm e.symm), h.same, h.hx, h.hxm, h.hm, h.tk, h.mo, h.ea, ?_, h.only.then o1 (fun b hb => ?_)⟩
  · have := h.few
    have e := h.ea
    have : tickL s ≤ s.left + s.each := by unfold tickL; split <;> omega
    show (S.length : Int) + tickL s ≤ most + ((t + 1 : Nat) : Int) * each
    rw [show ((t + 1 : Nat) : Int) = (t : Int) + 1 by omega, Int.add_mul]
    omega
  · rw [List.mem_singleton.1 hb]; exact Or.inr h.hx
theorem Once.miss {w : World} {x m : Nat} {most each : Int} {t : Nat} {s : Se} {S R : List Int} {wr w1 : World} {n : Int} (h : Once w x m most each t s S R wr) (hc : takeC s 9 n ≠ 0) (h1 : SeAt w1 x (takeM s 9 n)) (o1 : Only [x] wr w1) :
    Once w x m most each t s S R w1 := by
  have hxm := h.hxm
  have e : takeM s 9 n = s := if_neg hc
  rw [e] at h1
  exact ⟨h1, h.ok, h.came, h.mp.only o1 (by simp; exact fun e => hxm e.symm), h.same, h.hx, h.hxm, h.hm, h.tk, h.mo, h.ea, h.few, h.only.then o1 (fun b hb => by rw [List.mem_singleton.1 hb]; exact Or.inr h.hx)⟩
theorem Once.hit {w : World} {x m : Nat} {most each : Int} {t : Nat} {s : Se} {S R : List Int} {wr w1 w2 : World} {n : Int} (h : Once w x m most each t s S R wr) (hc : takeC s 9 n = 0) (h1 : SeAt w1 x (takeM s 9 n)) (o1 : Only [x] wr w1) (o2 : Only [m] w1 w2) (hm : TMap w2 m (S.length + 1) (n :: R)) :
    Once w x m most each t (takeM s 9 n) (S ++ [n]) (n :: R) w2 := by
  have hxm := h.hxm
  have T := take_all h.ok h.came 9 n
  rw [← h.came.take, hc, if_pos rfl, if_pos rfl] at T
  obtain ⟨t1, t2, t3, t4, t5, t6⟩ := T
  refine ⟨h1.only o2 (by simpa using hxm), t1, t2, by rw [List.length_append]; exact hm, fun i => ?_, h.hx, h.hxm, h.hm, t3.trans h.tk, t4.trans h.mo, t5.trans h.ea, ?_, (h.only.then o1 (fun b hb => ?_)).then o2 (fun b hb => ?_)⟩
  · rw [List.mem_cons, h.same i, List.mem_append, List.mem_singleton]
    exact ⟨fun q => q.symm, fun q => q.symm⟩
  · have := h.few
    rw [t6, List.length_append]
    simp only [List.length_singleton]
    omega
  · rw [List.mem_singleton.1 hb]; exact Or.inr h.hx
  · rw [List.mem_singleton.1 hb]; exact Or.inr h.hm
theorem sessionOnce_long (most each : Int) (a : Option Addr) (len cap : Nat) (w : World) (h : 200 < len) :
    Calls Tryd.prog 3 #[.int .i64 most, .int .i64 each, .slice a len cap] w fun e w' => e = .returned (.bool true) ∧ Only [] w w' := by
  have hl : (len : Int) > 200 := by omega
  go_enter Tryd.func3, Tryd.ntmps3
  go_wp2_with fail
  go_ret
  exact ⟨rfl, Only.refl _ _⟩
set_option maxRecDepth 100000 in
set_option maxHeartbeats 4000000 in
theorem sessionOnce_calls (most0 each0 : Int) (a : Option Addr) (len cap : Nat) (M : Nat → Tk) (w : World) (hg : EtIs w) (h : len ≤ 200) (hM : TakesAt w a len M) :
    Calls Tryd.prog 3 #[.int .i64 most0, .int .i64 each0, .slice a len cap] w fun e w' => e = .returned (.bool true) ∧ Only [] w w' := by
  have hl : ¬ (len : Int) > 200 := by omega
  have HG : Hid (EtIs w ∧ TakesAt w a len M) := ⟨hg, hM⟩
  clear hg hM
  go_enter Tryd.func3, Tryd.ntmps3
  go_wp2_with fail
  refine (pick_calls most0 20 w (by omega) (by omega)).mono ?_
  rintro e w0 ⟨most, rfl, hm0, hm1, rfl⟩
  go_wp2_with fail
  refine (pick_calls each0 5 w0 (by omega) (by omega)).mono ?_
  rintro e w0 ⟨each, rfl, he0, he1, rfl⟩
  go_wp2_with fail
  refine (newS_right 9 most each w0 ⟨by omega, by omega, by omega⟩).mono ?_
  rintro e w1 ⟨x, rfl, hx, hs, o1⟩
  have H1 : Hid (w0.heap.size ≤ x ∧ SeAt w1 x ⟨9, most, each, most, -1, 0⟩ ∧ Only [] w0 w1) := ⟨hx, hs, o1⟩
  clear hx hs o1
  go_wp2_with fail
  refine (taken_calls w1 (HG.out.1.only H1.out.2.2)).mono ?_
  rintro e w2 ⟨rfl, o2⟩
  have H2 : Hid (w0.heap.size ≤ x ∧ SeAt w2 x ⟨9, most, each, most, -1, 0⟩ ∧ Only [] w0 w2) := ⟨H1.out.1, H1.out.2.1.only o2 (by simp), H1.out.2.2.trans o2⟩
  clear o2 H1
  have hmm := @run_makeMap Tryd.prog
  go_upto_region 8 with fail
  clear hmm
  have H3 : Hid (Once w0 x w2.heap.size most each 0 ⟨9, most, each, most, -1, 0⟩ [] [] (w2.alloc (.map #[] 0))) := by
    have hlt := H2.out.2.1.lt
    refine ⟨H2.out.2.1.only (D := []) ((Only.refl _ _).alloc _) (by simp), ⟨hm0, by show most ≤ 1000; omega, he0, by show each ≤ 1000; omega, hm0, Int.le_refl _, Int.le_refl _, by show (-1 : Int) ≤ _; decide, by show 0 < 2 ^ 64; decide⟩, Came.start _ _ _ _, TMap.made w2, fun i => Iff.rfl, H2.out.1, by omega, H2.out.2.2.size, rfl, rfl, rfl, ?_, H2.out.2.2.alloc _⟩
    show ((0 : Nat) : Int) + most ≤ most + ((0 : Nat) : Int) * each
    omega
  clear H2
  revert H3
  generalize w2.heap.size = m
  generalize World.alloc w2 _ = w3
  intro H3
  go_wp2_with fail
  go_loopg [10, 11] len (fun k' tv idx wr => ∃ i t : Nat, tv = .int .i64 (t : Int) ∧ idx = .int .i64 (i : Int) ∧ Hid (i ≤ len ∧ k' = len - i ∧ t ≤ i) ∧ Hid (∃ s S R, Once w0 x m most each t s S R wr ∧ S.length ≤ i))
  case atStart => exact ⟨0, 0, rfl, rfl, ⟨by omega, rfl, by omega⟩, ⟨_, [], [], H3.out, by simp⟩⟩
  case round =>
    clear H3
    obtain ⟨i, t, rfl, rfl, HI, HE0⟩ := hrel
    obtain ⟨s, S, R, hB, hSl⟩ := HE0.out
    have HE : Hid (Once w0 x m most each t s S R wr ∧ S.length ≤ i) := ⟨hB, hSl⟩
    clear hB hSl HE0
    by_cases hi : i < len
    case neg =>
      have hil : ¬ (i : Int) < (len : Int) := by omega
      go_wp2_with fail
      go_ret
      exact ⟨rfl, HE.out.1.only⟩
    have hil : (i : Int) < (len : Int) := by omega
    have hti : t ≤ 200 := by have := HI.out.2.2; omega
    obtain ⟨b, o, rfl, c0, c1⟩ := (HG.out.2.only HE.out.1.only) i hi
    have HCB : Hid (b < w0.heap.size ∧ w0.cell? ⟨b, o + i * 2 + 1, none⟩ = some (.int .i64 ((M i).n))) := by
      obtain ⟨b', o', e, h0, h1⟩ := HG.out.2 i hi
      injection e with e; injection e with e1 e2 _; subst e1 e2
      exact ⟨World.block_lt_of_cell? w0 _ h0, h1⟩
    revert HCB
    generalize M i = q at c0 c1
    obtain ⟨qw, qn⟩ := q
    simp only at c0 c1
    intro HCB
    by_cases ht0 : qw = 0
    · subst ht0
      go_wp2_with fail
      refine (tick_calls x s wr HE.out.1.se HE.out.1.ok).mono ?_
      rintro e w4 ⟨rfl, h4, o4⟩
      have H4 : Hid (Once w0 x m most each (t + 1) { s with left := tickL s } S R w4) := HE.out.1.tick h4 o4
      clear h4 o4
      go_wp2_with fail
      go_roundg (len - (i + 1))
      case measure => have := HI.out.2.1; omega
      case rel => exact ⟨i + 1, t + 1, by go_num, by go_num, ⟨by omega, rfl, by have := HI.out.2.2; omega⟩, ⟨_, S, R, H4.out, by have := HE.out.2; omega⟩⟩
    · have hq0 : (qw == 0) = false := by simpa using ht0
      clear ht0
      go_wp2_with fail
      refine (takeS_calls x s 9 qn wr HE.out.1.se HE.out.1.ok).mono ?_
      rintro e w4 ⟨rfl, h4, o4⟩
      by_cases hc : takeC s 9 qn = 0
      · have hz := takeR_zero (by rw [← HE.out.1.came.take]; exact hc)
        have hm4 := HE.out.1.mp.only o4 (by have := HE.out.1.hxm; simp; exact fun e => this e.symm)
        have hin : In64S qn := in64S_of (by omega) (by omega)
        obtain ⟨w5, hr5, o5, hm5⟩ := hm4.put (by unfold maxLen; have := HE.out.2; omega) hin
        have H5 : Hid (Once w0 x m most each t (takeM s 9 qn) (S ++ [qn]) (qn :: R) w5) := HE.out.1.hit hc h4 o4 o5 hm5
        have c1' : w4.cell? ⟨b, o + i * 2 + 1, none⟩ = some (.int .i64 qn) := o4.cell c1 (by simp only [List.mem_singleton]; have := HCB.out.1; have := HE.out.1.hx; omega)
        have hlk := hm4.look hin
        rw [decide_eq_false (fun q => hz.2.2.2.1 ((HE.out.1.same qn).1 q))] at hlk
        rw [hc, show eV 0 = .nilIface from rfl]
        have HL : Hid (S.length ≤ i) := HE.out.2
        clear HE c0 c1 h4 o4 hc hz hm4 hin o5 hm5
        go_upto_region 19 with fail
        obtain ⟨z, hz, hlen⟩ := H5.out.mp.len
        have hq0 : 0 ≤ (t : Int) * each := Int.mul_nonneg (by omega) he0
        have hq1 : (t : Int) * each ≤ 1000 := by
          have := Int.mul_le_mul (show (t : Int) ≤ 200 by omega) (show each ≤ 5 by omega) he0 (by decide)
          omega
        have hfew := H5.out.few
        have b0 := H5.out.ok.l0; have b1 := H5.out.ok.l1; have b2 := H5.out.mo
        have hz1 : ¬ (z : Int) > most + (t : Int) * each := by
          have h1 : (z : Int) ≤ ((S ++ [qn] : List Int).length : Int) := by omega
          omega
        obtain ⟨lf, hlf⟩ : ∃ lf, lf = (takeM s 9 qn).left := ⟨_, rfl⟩
        have HLF : Hid (∀ u, u = w5 → Calls Tryd.prog 10 #[.pointer (some ⟨x, 0, none⟩)] u fun e w' => e = .returned (.int .i64 lf) ∧ w' = u) := by
          rintro u rfl
          rw [hlf]
          exact leftS_calls x _ _ H5.out.se
        have g0 : ¬ lf < 0 := by omega
        have g1 : ¬ lf > most := by omega
        have hz2 : (z : Int) ≤ 2000 := by omega
        clear hlf b0 b1 b2 hfew hz
        go_wp2_with fail
        refine (HLF.out _ rfl).mono ?_
        rintro e w9 ⟨rfl, rfl⟩
        go_wp2_with fail
        refine (HLF.out _ rfl).mono ?_
        rintro e w9 ⟨rfl, rfl⟩
        go_wp2_with fail
        go_roundg (len - (i + 1))
        case measure => have := HI.out.2.1; omega
        case rel => exact ⟨i + 1, t, rfl, by go_num, ⟨by omega, rfl, by have := HI.out.2.2; omega⟩, ⟨_, _, _, H5.out, by rw [List.length_append]; have := HL.out; simp; omega⟩⟩
      · have HC : Hid (takeC s 9 qn ≠ 0) := hc
        have H4 : Hid (Once w0 x m most each t s S R w4) := HE.out.1.miss hc h4 o4
        rw [show eV (takeC s 9 qn) = .iface 40 (.int .i64 (takeC s 9 qn)) from if_neg hc]
        generalize takeC s 9 qn = c
        clear h4 o4 hc
        go_upto_region 19 with fail
        obtain ⟨z, hz, hlen⟩ := H4.out.mp.len
        have hq0 : 0 ≤ (t : Int) * each := Int.mul_nonneg (by omega) he0
        have hq1 : (t : Int) * each ≤ 1000 := by
          have := Int.mul_le_mul (show (t : Int) ≤ 200 by omega) (show each ≤ 5 by omega) he0 (by decide)
          omega
        have hfew := H4.out.few
        have b0 := H4.out.ok.l0; have b1 := H4.out.ok.l1; have b2 := H4.out.mo
        have hz1 : ¬ (z : Int) > most + (t : Int) * each := by
          have h1 : (z : Int) ≤ ((S : List Int).length : Int) := by omega
          omega
        obtain ⟨lf, hlf⟩ : ∃ lf, lf = (s).left := ⟨_, rfl⟩
        have HLF : Hid (∀ u, u = w4 → Calls Tryd.prog 10 #[.pointer (some ⟨x, 0, none⟩)] u fun e w' => e = .returned (.int .i64 lf) ∧ w' = u) := by
          rintro u rfl
          rw [hlf]
          exact leftS_calls x _ _ H4.out.se
        have g0 : ¬ lf < 0 := by omega
        have g1 : ¬ lf > most := by omega
        have hz2 : (z : Int) ≤ 2000 := by omega
        clear hlf b0 b1 b2 hfew hz
        go_wp2_with fail
        refine (HLF.out _ rfl).mono ?_
        rintro e w9 ⟨rfl, rfl⟩
        go_wp2_with fail
        refine (HLF.out _ rfl).mono ?_
        rintro e w9 ⟨rfl, rfl⟩
        go_wp2_with fail
        go_roundg (len - (i + 1))
        case measure => have := HI.out.2.1; omega
        case rel => exact ⟨i + 1, t, rfl, by go_num, ⟨by omega, rfl, by have := HI.out.2.2; omega⟩, ⟨_, _, _, H4.out, by have := HE.out.2; omega⟩⟩
end Go.Proofs.YtepgcpcanbekaaaDoor
