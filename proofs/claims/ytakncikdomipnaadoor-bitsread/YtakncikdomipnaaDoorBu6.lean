/- gyrelaw.BitsRead returns true, whatever bytes and marks it is given. -/
import Derived.Test.YtakncikdomipnaaDoorBu5
import Derived.Test.YtakncikdomipnaaDoorAt3
import Derived.Deep.CutBlock
namespace Go.Proofs.YtakncikdomipnaaDoor
open Go.ChangeShapes Go.WideShapes Go.ChangeAt Go.RowKit
set_option linter.unusedVariables false
set_option linter.unusedSimpArgs false

structure Mk where
  wt : Int
  n : Int
  wd : Int
def mk0 : Mk := ⟨0, 0, 0⟩
/-- Marks that came in. -/
def MarksAt (w : World) (a : Option Addr) (len : Nat) (M : Nat → Mk) : Prop :=
  ∀ j, j < len → ∃ b o, a = some ⟨b, o, none⟩ ∧ w.cell? ⟨b, o + j * 3, none⟩ = some (.int .i64 ((M j).wt)) ∧ w.cell? ⟨b, o + j * 3 + 1, none⟩ = some (.int .i64 ((M j).n)) ∧ w.cell? ⟨b, o + j * 3 + 2, none⟩ = some (.int .i64 ((M j).wd))
theorem MarksAt.only {w w' : World} {a : Option Addr} {len : Nat} {M : Nat → Mk} (h : MarksAt w a len M) (o : Only [] w w') : MarksAt w' a len M := fun j hj => by
  obtain ⟨b, p, e, h0, h1, h2⟩ := h j hj
  exact ⟨b, p, e, o.cell h0 (by simp), o.cell h1 (by simp), o.cell h2 (by simp)⟩
/-- What Get tells. -/
def getM (L : List Nat) (p : Nat) (wd : Int) : Nat × Int × Nat :=
  if ¬ (0 ≤ wd ∧ wd ≤ 62) then (2, 0, p) else if 8 * L.length < p + wd.toNat then (8, 0, p) else (0, ((valB (((bitsOf L).drop p).take wd.toNat) : Nat) : Int), p + wd.toNat)
theorem tget_getM (kt : Nat) (v : Value) (L : List Nat) (p : Nat) (wd : Int) (w : World) (h : TpAt w kt v (bitsOf L) p) :
    Calls Tryd.prog 17 #[.pointer (some ⟨kt, 0, none⟩), .int .i64 wd] w (TpPost kt v (bitsOf L) ((getM L p wd).1 : Nat) (getM L p wd).2.1 (getM L p wd).2.2 w) := by
  refine (tget_calls kt v (bitsOf L) p wd w h).mono ?_
  rintro e w' (⟨h1, h2⟩ | ⟨h1, h2, h3⟩ | ⟨h1, h2, h3⟩)
  · unfold getM; rw [if_pos h1]; exact h2
  · unfold getM; rw [bitsOf_len] at h2; rw [if_neg (by simpa using h1), if_pos h2]; exact h3
  · unfold getM; rw [bitsOf_len] at h2; rw [if_neg (by simpa using h1), if_neg (by omega)]; exact h3
theorem get_getM (r : Nat) (a : Option Addr) (c : Nat) (L : List Nat) (p : Nat) (wd : Int) (w : World) (h : RdAt w r a c L p) :
    Calls Tryd.prog 18 #[.pointer (some ⟨r, 0, none⟩), .int .i64 wd] w (RdPost r a c L ((getM L p wd).1 : Nat) (getM L p wd).2.1 (getM L p wd).2.2 w) := by
  refine (get_calls r a c L p wd w h).mono ?_
  rintro e w' (⟨h1, h2⟩ | ⟨h1, h2, h3⟩ | ⟨h1, h2, h3⟩)
  · unfold getM; rw [if_pos h1]; exact h2
  · unfold getM; rw [if_neg (by simpa using h1), if_pos h2]; exact h3
  · unfold getM; rw [if_neg (by simpa using h1), if_neg (by omega)]; exact h3
/-- A Reader and a Tape that stand at the same place. -/
structure LC (w : World) (r : Nat) (a : Option Addr) (c kt : Nat) (v : Value) (L : List Nat) (p : Nat) (wr : World) : Prop where
  rd : RdAt wr r a c L p
  tp : TpAt wr kt v (bitsOf L) p
  rk : r ≠ kt
  rv : r ∉ ownL v
  ak : ∀ g o, a = some ⟨g, o, none⟩ → L ≠ [] → g ≠ kt
  rnew : w.heap.size ≤ r
  knew : w.heap.size ≤ kt
  only : Only [] w wr
section
variable {w : World} {r : Nat} {a : Option Addr} {c kt : Nat} {v : Value} {L : List Nat} {p q : Nat} {wr w1 w2 : World}
theorem LC.mid (h : LC w r a c kt v L p wr) (o : Only [kt] wr w1) : RdAt w1 r a c L p := h.rd.only o (by simp only [List.mem_singleton]; exact h.rk) (fun g o e hL => by simp only [List.mem_singleton]; exact h.ak g o e hL)
theorem LC.fin (h : LC w r a c kt v L p wr) (hq : TpAt w1 kt v (bitsOf L) q) (o1 : Only [kt] wr w1) (hr : RdAt w2 r a c L q) (o2 : Only [r] w1 w2) : LC w r a c kt v L q w2 :=
  ⟨hr, hq.only o2 (by simp only [List.mem_singleton]; exact fun e => h.rk e.symm) (fun b hb => by simp only [List.mem_singleton]; exact fun e => h.rv (e ▸ hb)), h.rk, h.rv, h.ak, h.rnew, h.knew,
    (h.only.then o1 (fun b hb => by simp only [List.mem_singleton] at hb; rw [hb]; exact Or.inr h.knew)).then o2 (fun b hb => by simp only [List.mem_singleton] at hb; rw [hb]; exact Or.inr h.rnew)⟩
theorem LC.keep (h : LC w r a c kt v L p wr) (o : Only [] wr w1) : LC w r a c kt v L p w1 := ⟨h.rd.only o (by simp) (by simp), h.tp.keep o, h.rk, h.rv, h.ak, h.rnew, h.knew, h.only.trans o⟩
end
theorem EtIs.only {w w' : World} (h : EtIs w) (o : Only [] w w') : EtIs w' := o.cell h (by simp)
def erV (er : Nat) : Value := if (er : Int) = 0 then .nilIface else errV (er : Int)
/-- bare of what a Reader tells. -/
theorem bareSame_calls (er : Nat) (w : World) (hg : EtIs w) : Calls Tryd.prog 11 #[erV er, .int .i64 ((er : Int))] w fun e w' => e = .returned (.bool true) ∧ Only [] w w' := by
  unfold erV
  by_cases h : (er : Int) = 0
  · rw [if_pos h, h]
    refine (bareNil_calls 0 w).mono ?_
    rintro e w' ⟨rfl, k⟩
    exact ⟨rfl, Only.of_kept k⟩
  · rw [if_neg h]
    refine (bareErr_calls (er : Int) (er : Int) w hg).mono ?_
    rintro e w' ⟨rfl, k⟩
    exact ⟨by simp, Only.of_kept k⟩
set_option maxRecDepth 100000 in
set_option maxHeartbeats 4000000 in
theorem bitsRead_calls (a1 : Option Addr) (L : List Nat) (cap1 : Nat) (a2 : Option Addr) (len cap2 : Nat) (M : Nat → Mk) (w : World) (hg : EtIs w) (hs : ∀ x ∈ L, x < 256) (hn : a1 = none → L = [] ∧ cap1 = 0) (hb : ByAt w a1 L) (hm : MarksAt w a2 len M) (hl : L.length ≤ 300) (hlen : len ≤ 80) :
    Calls Tryd.prog 4 #[.slice a1 L.length cap1, .slice a2 len cap2] w fun e w' => e = .returned (.bool true) ∧ Only [] w w' := by
  have HM : Hid (MarksAt w a2 len M ∧ EtIs w ∧ ByAt w a1 L ∧ ∀ x ∈ L, x < 256) := ⟨hm, hg, hb, hs⟩
  have hl1 : ¬ (L.length : Int) > 300 := by omega
  have hl2 : ¬ (len : Int) > 80 := by omega
  have hread : Calls Tryd.prog 15 #[.slice a1 L.length cap1] w fun e w' => ∃ v, e = .returned v ∧ Made w v L w' ∧ Only [] w w' := by
    cases a1 with
    | none =>
      obtain ⟨rfl, rfl⟩ := hn rfl
      exact read_nil w
    | some ad =>
      by_cases hL : L = []
      · subst hL
        exact readA_calls ad cap1 [] w (by simp) (by simp) (by simp)
      · obtain ⟨g, o, e, _⟩ := hb 0 (by cases L with | nil => exact absurd rfl hL | cons x t => simp)
        injection e with e
        subst e
        exact read_calls g o cap1 L w (by omega) hs hb
  clear hm hg hb hs hn
  go_enter Tryd.func4, Tryd.ntmps4
  go_wp2_with fail
  refine hread.mono ?_
  clear hread
  rintro e w1 ⟨v1, rfl, ⟨r, ar, cr, rfl, hr0, hrd, hra⟩, o1⟩
  have H1 : Hid (RdAt w1 r ar cr L 0 ∧ w.heap.size ≤ r ∧ Only [] w w1) := ⟨hrd, hr0, o1⟩
  clear hr0 hrd hra o1
  go_wp2_with fail
  refine (open_calls a1 cap1 L w1 (by omega) HM.out.2.2.2 (HM.out.2.2.1.only H1.out.2.2 (by simp))).mono ?_
  rintro e w2 ⟨v2, rfl, hsl, o2, hnew⟩
  have hkl : ∀ g o, ar = some ⟨g, o, none⟩ → L ≠ [] → g < w2.heap.size := fun g o e hL => by
    obtain ⟨g', o', e', hc⟩ := (H1.out.1.only o2 (by simp) (by simp)).by_ 0 (by cases L with | nil => exact absurd rfl hL | cons x t => simp)
    rw [e] at e'; injection e' with e'; injection e' with e1 _ _
    rw [e1]; exact World.block_lt_of_cell? w2 _ hc
  obtain ⟨a3, c3, rfl, _, _⟩ := hsl.shape
  have hL3 : (bitsOf L).length = 8 * L.length := bitsOf_len L
  have HK : Hid (RdAt w2 r ar cr L 0 ∧ w.heap.size ≤ r ∧ Only [] w w2 ∧ SlB w2 (.slice a3 (bitsOf L).length c3) (bitsOf L) ∧ (∀ b ∈ ownL (.slice a3 (bitsOf L).length c3), w1.heap.size ≤ b) ∧ r < w1.heap.size ∧ (∀ g o, ar = some ⟨g, o, none⟩ → L ≠ [] → g < w2.heap.size)) :=
    ⟨H1.out.1.only o2 (by simp) (by simp), H1.out.2.1, H1.out.2.2.trans o2, hsl, hnew, H1.out.1.lt, hkl⟩
  clear hsl o2 hnew hkl H1
  obtain ⟨m3, hm3⟩ : ∃ m3, m3 = (bitsOf L).length := ⟨_, rfl⟩
  rw [← hm3] at HK ⊢
  have HM3 : Hid (m3 = (bitsOf L).length ∧ m3 = 8 * L.length) := ⟨hm3, by rw [hm3, hL3]⟩
  have hm8 : m3 ≤ 2400 := by omega
  clear hm3 hL3
  go_upto_region 5 with fail
  have H3 : Hid (LC w r ar cr w2.heap.size (.slice a3 m3 c3) L 0 (w2.alloc (.cells #[.slice a3 m3 c3, .int .i64 0] 46))) := by
    have o : Only [] w2 (w2.alloc (.cells #[.slice a3 m3 c3, .int .i64 0] 46)) := (Only.refl [] w2).alloc _
    have hsz := HK.out.1.lt
    refine ⟨HK.out.1.only o (by simp) (by simp), ⟨(MapKept.heap_alloc w2 _).1, HK.out.2.2.2.1.kept o (by simp), fun k => by have := HK.out.2.2.2.1.lt _ k; omega, bitsOf_bits L, by rw [← HM3.out.1]; omega, by omega⟩, by omega, fun k => by have := HK.out.2.2.2.2.1 _ k; have := HK.out.2.2.2.2.2.1; omega, fun g o' e hL => by have := HK.out.2.2.2.2.2.2 g o' e hL; omega, HK.out.2.1, HK.out.2.2.1.size, HK.out.2.2.1.trans o⟩
  clear HK
  revert H3
  generalize World.alloc w2 _ = w3
  generalize w2.heap.size = kt
  intro H3
  go_wp2_with fail
  go_loopg [7] len (fun k idx wr => ∃ i p : Nat, idx = .int .i64 (i : Int) ∧ Hid (i ≤ len ∧ k = len - i) ∧ Hid (LC w r ar cr kt (.slice a3 m3 c3) L p wr))
  case atStart => exact ⟨0, 0, rfl, ⟨by omega, rfl⟩, H3⟩
  case round =>
    clear H3
    obtain ⟨i, p, rfl, HI, HE⟩ := hrel
    by_cases hi : i < len
    · have hil : (i : Int) < (len : Int) := by omega
      obtain ⟨b, o, rfl, c0, c1, c2⟩ := (HM.out.1.only HE.out.only) i hi
      have HCB : Hid (w.cell? ⟨b, o + i * 3, none⟩ = some (.int .i64 ((M i).wt))) := by
        obtain ⟨b', o', e, h0, _⟩ := HM.out.1 i hi
        injection e with e; injection e with e1 e2 _; subst e1 e2
        exact h0
      revert HCB
      generalize M i = q at c0 c1 c2
      obtain ⟨t, qn, qd⟩ := q
      simp only at c0 c1 c2
      intro HCB
      go_upto_block 2 with fail
      go_cut [8, 9, 10, 11] from 39 to 109 (fun s8 s9 s10 s11 wc => ∃ (er q : Nat) (n : Int), s8 = .int .i64 n ∧ s9 = .int .i64 n ∧ s10 = .int .i64 (er : Int) ∧ s11 = erV er ∧ LC w r ar cr kt (.slice a3 m3 c3) L q wc)
      case first =>
        by_cases ht0 : t = 0
        · subst ht0
          go_wp2_with fail
          refine (tget_getM kt _ L p qd wr HE.out.tp).mono ?_
          rintro e w4 ⟨rfl, h4, o4⟩
          have H4 : Hid (TpAt w4 kt (.slice a3 m3 c3) (bitsOf L) (getM L p qd).2.2 ∧ Only [kt] wr w4) := ⟨h4, o4⟩
          have d2 : w4.cell? ⟨b, o + i * 3 + 2, none⟩ = some (.int .i64 qd) := o4.cell c2 (by simp only [List.mem_singleton]; exact fun e => by have h1 : b < w.heap.size := World.block_lt_of_cell? w _ HCB.out; have := HE.out.knew; have e2 : b = kt := e; omega)
          clear h4 o4
          go_wp2_with fail
          refine (get_getM r ar cr L p qd w4 (HE.out.mid H4.out.2)).mono ?_
          rintro e w5 ⟨rfl, h5, o5⟩
          have H5 : Hid (LC w r ar cr kt (.slice a3 m3 c3) L (getM L p qd).2.2 w5) := HE.out.fin H4.out.1 H4.out.2 h5 o5
          clear h5 o5 H4 d2
          have HV : Hid (erV (getM L p qd).1 = (if (((getM L p qd).1 : Nat) : Int) = 0 then .nilIface else errV (((getM L p qd).1 : Nat) : Int))) := rfl
          revert HV
          generalize (if (((getM L p qd).1 : Nat) : Int) = 0 then Value.nilIface else errV (((getM L p qd).1 : Nat) : Int)) = ev
          intro HV
          go_wp2_with fail
          go_meet
          case rel => exact ⟨(getM L p qd).1, (getM L p qd).2.2, _, rfl, rfl, rfl, HV.out.symm, H5.out⟩
        by_cases ht1 : t = 1
        · subst ht1
          go_wp2_with fail
          refine (tvar_calls kt _ L p wr HE.out.tp).mono ?_
          rintro e w4 ⟨rfl, h4, o4⟩
          have H4 : Hid (TpAt w4 kt (.slice a3 m3 c3) (bitsOf L) (numM 4611686018427387903 L p).2.2 ∧ Only [kt] wr w4) := ⟨h4, o4⟩
          have d2 : w4.cell? ⟨b, o + i * 3 + 2, none⟩ = some (.int .i64 qd) := o4.cell c2 (by simp only [List.mem_singleton]; exact fun e => by have h1 : b < w.heap.size := World.block_lt_of_cell? w _ HCB.out; have := HE.out.knew; have e2 : b = kt := e; omega)
          clear h4 o4
          go_wp2_with fail
          refine (rvar_calls r ar cr L p w4 (HE.out.mid H4.out.2)).mono ?_
          rintro e w5 ⟨rfl, h5, o5⟩
          have H5 : Hid (LC w r ar cr kt (.slice a3 m3 c3) L (numM 4611686018427387903 L p).2.2 w5) := HE.out.fin H4.out.1 H4.out.2 h5 o5
          clear h5 o5 H4 d2
          have HV : Hid (erV (numM 4611686018427387903 L p).1 = (if (((numM 4611686018427387903 L p).1 : Nat) : Int) = 0 then .nilIface else errV (((numM 4611686018427387903 L p).1 : Nat) : Int))) := rfl
          revert HV
          generalize (if (((numM 4611686018427387903 L p).1 : Nat) : Int) = 0 then Value.nilIface else errV (((numM 4611686018427387903 L p).1 : Nat) : Int)) = ev
          intro HV
          go_wp2_with fail
          go_meet
          case rel => exact ⟨(numM 4611686018427387903 L p).1, (numM 4611686018427387903 L p).2.2, _, rfl, rfl, rfl, HV.out.symm, H5.out⟩
        by_cases ht2 : t = 2
        · subst ht2
          go_wp2_with fail
          refine (tint_calls kt _ L p wr HE.out.tp).mono ?_
          rintro e w4 ⟨rfl, h4, o4⟩
          have H4 : Hid (TpAt w4 kt (.slice a3 m3 c3) (bitsOf L) (intM L p).2.2 ∧ Only [kt] wr w4) := ⟨h4, o4⟩
          have d2 : w4.cell? ⟨b, o + i * 3 + 2, none⟩ = some (.int .i64 qd) := o4.cell c2 (by simp only [List.mem_singleton]; exact fun e => by have h1 : b < w.heap.size := World.block_lt_of_cell? w _ HCB.out; have := HE.out.knew; have e2 : b = kt := e; omega)
          clear h4 o4
          go_wp2_with fail
          refine (rint_calls r ar cr L p w4 (HE.out.mid H4.out.2)).mono ?_
          rintro e w5 ⟨rfl, h5, o5⟩
          have H5 : Hid (LC w r ar cr kt (.slice a3 m3 c3) L (intM L p).2.2 w5) := HE.out.fin H4.out.1 H4.out.2 h5 o5
          clear h5 o5 H4 d2
          have HV : Hid (erV (intM L p).1 = (if (((intM L p).1 : Nat) : Int) = 0 then .nilIface else errV (((intM L p).1 : Nat) : Int))) := rfl
          revert HV
          generalize (if (((intM L p).1 : Nat) : Int) = 0 then Value.nilIface else errV (((intM L p).1 : Nat) : Int)) = ev
          intro HV
          go_wp2_with fail
          go_meet
          case rel => exact ⟨(intM L p).1, (intM L p).2.2, _, rfl, rfl, rfl, HV.out.symm, H5.out⟩
        go_wp2_with fail
        go_meet
        case rel => exact ⟨0, p, 0, rfl, rfl, rfl, rfl, HE.out⟩
      case rest =>
        clear c0 c1 c2 HE HCB
        obtain ⟨er, q, n, rfl, rfl, rfl, hev, hlc⟩ := hcut
        have HE : Hid (LC w r ar cr kt (.slice a3 m3 c3) L q wc) := hlc
        clear hlc
        have t0 := HE.out.tp.c0; have t1 := HE.out.tp.c1
        obtain ⟨d, hd⟩ : ∃ d, d = 8 * L.length - q := ⟨_, rfl⟩
        have HD : Hid (IntKind.i64.wrap ((m3 : Int) - (q : Int)) = (d : Int) ∧ d = 8 * L.length - q) := by
          refine ⟨?_, hd⟩
          have h1 := HM3.out.2; have h2 := HE.out.rd.pos
          rw [show (m3 : Int) - (q : Int) = (d : Int) by omega]
          exact wrap_i64 d (by omega)
        clear hd
        have HEV : Hid (_ = erV er) := hev
        clear hev
        go_upto_region 23 with fail
        refine wp_region_held_drew (S := (fun w' => w'.cell? ⟨kt, 0, none⟩ = some (.slice a3 m3 c3) ∧ w'.cell? ⟨kt, 1, none⟩ = some (.int .i64 ((q : Nat) : Int)))) (by kernel_rfl) ?_ (fun hHeld1 => ?_)
        · (try dsimp only); exact ⟨t0, t1⟩
        refine tkW 0 rfl ?_; refine tkW 1 rfl ?_
        try simp only [Act.put, List.setIfInBounds_toArray, List.set_cons_zero, List.set_cons_succ, List.getElem_toArray, List.getElem_cons_succ, List.getElem_cons_zero]
        refine wpAnyH_ready (rs := [2]) (by kernel_rfl) (by simp) ?_
        refine AllReadyH.cons rfl (fun K hK => ?_) AllReadyH.nil
        first | (with_reducible refine iteYes ?hcx ?htx; case hcx => kernel_rfl) | rw [if_pos (by rfl)]
        simp only [List.getElem_toArray, List.getElem_cons_succ, List.getElem_cons_zero]
        go_simp
        (go_at_call 11; rw [HEV.out]; refine (bareSame_calls er _ ((HM.out.2.1.only HE.out.only).only (Only.refl [] wc).drew)).mono ?_; rintro e w5 ⟨rfl, o5⟩; have H5 : Hid (LC w r ar cr kt (.slice a3 m3 c3) L q w5) := HE.out.keep ((Only.refl [] wc).drew.trans o5); clear o5)
        try go_wp2_with fail
        refine hK.out _ _ ?_ (fun hHeld2 => ?_)
        · (try dsimp only); exact ⟨H5.out.tp.c0, H5.out.tp.c1⟩
        clear hK K hHeld1
        try simp only [Act.put, List.setIfInBounds_toArray, List.set_cons_zero, List.set_cons_succ, List.getElem_toArray, List.getElem_cons_succ, List.getElem_cons_zero]
        refine tkW 3 rfl ?_; refine tkW 4 rfl ?_; refine tkW 5 rfl ?_; refine tkW 6 rfl ?_
        try simp only [Act.put, List.setIfInBounds_toArray, List.set_cons_zero, List.set_cons_succ, List.getElem_toArray, List.getElem_cons_succ, List.getElem_cons_zero]
        refine tkW 7 rfl ?_; refine tkW 8 rfl ?_; refine tkW 9 rfl ?_; refine tkW 10 rfl ?_
        try simp only [Act.put, List.setIfInBounds_toArray, List.set_cons_zero, List.set_cons_succ, List.getElem_toArray, List.getElem_cons_succ, List.getElem_cons_zero]
        refine tkW 12 rfl ?_; refine tkW 13 rfl ?_; refine tkW 14 rfl ?_; refine tkW 15 rfl ?_
        try simp only [Act.put, List.setIfInBounds_toArray, List.set_cons_zero, List.set_cons_succ, List.getElem_toArray, List.getElem_cons_succ, List.getElem_cons_zero]
        refine tkW 16 rfl ?_; refine tkW 17 rfl ?_; refine tkW 18 rfl ?_; refine tkW 19 rfl ?_
        try simp only [Act.put, List.setIfInBounds_toArray, List.set_cons_zero, List.set_cons_succ, List.getElem_toArray, List.getElem_cons_succ, List.getElem_cons_zero]
        refine tkW 20 rfl ?_
        try simp only [Act.put, List.setIfInBounds_toArray, List.set_cons_zero, List.set_cons_succ, List.getElem_toArray, List.getElem_cons_succ, List.getElem_cons_zero]
        refine tkW (v := .int .i64 (d : Int)) 21 rfl ?_ (by intro w'' hSw; (try dsimp only at hSw); simp only [List.getElem_toArray, List.getElem_cons_succ, List.getElem_cons_zero]; go_simp; rw [HD.out.1])
        try simp only [Act.put, List.setIfInBounds_toArray, List.set_cons_zero, List.set_cons_succ, List.getElem_toArray, List.getElem_cons_succ, List.getElem_cons_zero]
        refine wpAnyH_ready (rs := [11]) (by kernel_rfl) (by simp) ?_
        refine AllReadyH.cons rfl (fun K hK => ?_) AllReadyH.nil
        first | (with_reducible refine iteYes ?hcx ?htx; case hcx => kernel_rfl) | rw [if_pos (by rfl)]
        simp only [List.getElem_toArray, List.getElem_cons_succ, List.getElem_cons_zero]
        go_simp
        (go_at_call 23; refine (left_calls r ar cr L q w5 H5.out.rd).mono ?_; rintro e w6 ⟨rfl, o6⟩; rw [← HD.out.2]; have H6 : Hid (LC w r ar cr kt (.slice a3 m3 c3) L q w6) := H5.out.keep o6; clear o6)
        try go_wp2_with fail
        refine hK.out _ _ ?_ (fun hHeld3 => ?_)
        · (try dsimp only); exact ⟨H6.out.tp.c0, H6.out.tp.c1⟩
        clear hK K hHeld2
        try simp only [Act.put, List.setIfInBounds_toArray, List.set_cons_zero, List.set_cons_succ, List.getElem_toArray, List.getElem_cons_succ, List.getElem_cons_zero]
        refine tkW 22 rfl ?_; refine tkW 23 rfl ?_
        try simp only [Act.put, List.setIfInBounds_toArray, List.set_cons_zero, List.set_cons_succ, List.getElem_toArray, List.getElem_cons_succ, List.getElem_cons_zero]
        refine wpAnyH_done (by kernel_rfl) ?_ _
        go_wp2_with fail
        go_roundg (len - (i + 1))
        case measure => have := HI.out.2; omega
        case rel => exact ⟨i + 1, q, by go_num, ⟨by omega, rfl⟩, H6⟩
    · have hil : ¬ (i : Int) < (len : Int) := by omega
      go_wp2_with fail
      go_ret
      exact ⟨rfl, HE.out.only⟩
theorem bitsRead_long (a1 : Option Addr) (len1 cap1 : Nat) (a2 : Option Addr) (len cap2 : Nat) (w : World) (h : 300 < len1 ∨ 80 < len) :
    Calls Tryd.prog 4 #[.slice a1 len1 cap1, .slice a2 len cap2] w fun e w' => e = .returned (.bool true) ∧ Only [] w w' := by
  by_cases h1 : (len1 : Int) > 300
  · go_enter Tryd.func4, Tryd.ntmps4
    go_wp2_with fail
    go_ret
    exact ⟨rfl, Only.refl _ _⟩
  · have h2 : (len : Int) > 80 := by omega
    clear h
    go_enter Tryd.func4, Tryd.ntmps4
    go_wp2_with fail
    go_ret
    exact ⟨rfl, Only.refl _ _⟩
end Go.Proofs.YtakncikdomipnaaDoor
