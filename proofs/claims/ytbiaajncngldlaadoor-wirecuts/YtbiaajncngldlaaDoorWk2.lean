/- wire.Cut: whichever step, base and bytes. -/
import Derived.Test.YtbiaajncngldlaaDoorWk1
namespace Go.Proofs.YtbiaajncngldlaaDoor
open Go.ChangeShapes Go.WideShapes Go.ChangeAt Go.RowKit
set_option linter.unusedVariables false
set_option linter.unusedSimpArgs false

theorem pieceSize : (Tryd.prog.info? 39).map (·.size) = some 5 := by kernel_rfl
theorem PcsAt.new (w : World) (M : Nat) (st ba : Int) (L : List Nat) : PcsAt (w.alloc (.cells (madeCells #[.int .i64 0, .int .i64 0, .int .i64 0, .int .i64 0, .slice none 0 0] (M * 5)) 39)) w.heap.size M st ba L 0 := by
  refine ⟨fun j hj => ?_, fun j hj => by omega⟩
  have h := (MapKept.heap_alloc w (.cells (madeCells #[.int .i64 0, .int .i64 0, .int .i64 0, .int .i64 0, .slice none 0 0] (M * 5)) 39)).1
  have hs : j < (madeCells #[.int .i64 0, .int .i64 0, .int .i64 0, .int .i64 0, Value.slice none 0 0] (M * 5)).size := by rw [size_madeCells]; omega
  rw [Nat.zero_add]
  constructor
  · simp only [World.cell?, h, Option.isSome_none, Bool.false_eq_true, if_false, Array.getElem?_eq_getElem hs]; rfl
  · revert h
    generalize w.heap.size = g
    generalize World.alloc w _ = X
    intro h
    simp [World.frozen?, h]
/-- While bytes are cut. -/
structure CS (w : World) (gl M : Nat) (st ba : Int) (L : List Nat) (i : Nat) (a : Option Addr) (c : Nat) (wr : World) : Prop where
  by_ : ByAt wr a (L.drop (100 * i))
  nn : a = none → L.drop (100 * i) = [] ∧ c = 0
  lc : (L.drop (100 * i)).length ≤ c
  pcs : PcsAt wr gl M st ba L i
  only : Only [] w wr
  new : w.heap.size ≤ gl
  old : ∀ g o, a = some ⟨g, o, none⟩ → L.drop (100 * i) ≠ [] → g ≠ gl
theorem fromA_none {a : Option Addr} {c k : Nat} (h : fromA a c k = none) : a = none := by
  unfold fromA at h
  split at h
  · exact h
  · cases a with
    | none => rfl
    | some x => simp at h
theorem fromA_block {a : Option Addr} {c k g o : Nat} (h : fromA a c k = some ⟨g, o, none⟩) : ∃ o', a = some ⟨g, o', none⟩ ∨ ∃ s, a = some ⟨g, o', some s⟩ := by
  unfold fromA at h
  split at h
  · exact ⟨o, Or.inl h⟩
  · cases a with
    | none => simp at h
    | some x =>
      obtain ⟨b, p, sp⟩ := x
      simp only [Option.map_some, Option.some.injEq] at h
      cases sp with
      | none => rw [Addr.add_mid] at h; injection h with h1 _ _; exact ⟨p, Or.inl (by rw [h1])⟩
      | some s => unfold Addr.add at h; split at h <;> (injection h with h1 _ _; exact ⟨p, Or.inr ⟨s, by have h2 : b = g := h1; rw [h2]⟩⟩)
theorem drop_next (L : List Nat) (i : Nat) : L.drop (100 * (i + 1)) = (L.drop (100 * i)).drop (min 100 (L.drop (100 * i)).length) := by
  rw [List.drop_drop, List.length_drop]
  by_cases h : L.length ≤ 100 * (i + 1)
  · rw [List.drop_of_length_le h, List.drop_of_length_le (by omega)]
  · congr 1; omega
theorem CS.next {w : World} {gl M : Nat} {st ba : Int} {L : List Nat} {i : Nat} {a : Option Addr} {c : Nat} {wr w' : World} {v : Value} (h : CS w gl M st ba L i a c wr) (hi : i < M) (hv : SBn w' v (chunk L i) gl) (o : Only [] wr w') {k : Nat} (hk : k = min 100 (L.drop (100 * i)).length) :
    CS w gl M st ba L (i + 1) (fromA a c k) (c - k) (w'.setCells gl (i * 5) [.int .i64 st, .int .i64 ba, .int .i64 ((i : Int)), .int .i64 ((M : Int)), v]) := by
  have og : Only [gl] w' (w'.setCells gl (i * 5) [.int .i64 st, .int .i64 ba, .int .i64 ((i : Int)), .int .i64 ((M : Int)), v]) := only_setCells (by simp) _ _ _ _ (Only.refl _ _)
  have e := drop_next L i
  rw [← hk] at e
  have hb : ByAt w' (fromA a c k) (L.drop (100 * (i + 1))) := by rw [e]; exact (h.by_.only o (by simp)).drop h.lc
  have hold : ∀ g p, fromA a c k = some ⟨g, p, none⟩ → L.drop (100 * (i + 1)) ≠ [] → g ≠ gl := fun g p e1 hL => by
    have hne : L.drop (100 * i) ≠ [] := fun q => by rw [e, q] at hL; simp at hL
    obtain ⟨g', p', ea, _⟩ := h.by_ 0 (List.length_pos_iff.2 hne)
    obtain ⟨o', q | ⟨s, q⟩⟩ := fromA_block e1
    · exact h.old g o' q hne
    · rw [ea] at q; injection q with q; injection q with _ _ q; cases q
  refine ⟨hb.only og (fun g p e1 hL => by simpa using hold g p e1 hL), fun q => ?_, ?_, ((h.pcs.keep o).put hi hv), (h.only.trans o).then og (fun b hb => by rw [List.mem_singleton.1 hb]; exact Or.inr h.new), h.new, hold⟩
  · have := h.nn (fromA_none q)
    rw [e, this.1, this.2]
    simp
  · rw [e, List.length_drop]
    have := h.lc
    omega
set_option maxRecDepth 100000 in
set_option maxHeartbeats 1000000 in
theorem cut_calls (st ba : Int) (a : Option Addr) (c : Nat) (L : List Nat) (w : World) (hl : L.length ≤ 100000) (hb : ByAt w a L) (hn : a = none → L = [] ∧ c = 0) (hc : L.length ≤ c) :
    Calls Tryd.prog 19 #[.int .i64 st, .int .i64 ba, .slice a L.length c] w (CutPost st ba L w) := by
  obtain ⟨i0, hi0, hz0, hz1, hz2⟩ := info_parts pieceInfo
  have HB : Hid (ByAt w a L ∧ (a = none → L = [] ∧ c = 0) ∧ L.length ≤ c) := ⟨hb, hn, hc⟩
  clear hb hn hc
  go_enter Tryd.func19, Tryd.ntmps19
  go_wp2_with fail
  refine (mayFollow_calls st ba w).mono ?_
  rintro e w1 ⟨rfl, o1⟩
  have H1 : Hid (Only [] w w1) := o1
  clear o1
  cases hF : followM st ba with
  | false =>
    have HF : Hid (followM st ba = false) := hF
    clear hF
    go_wp2_with fail
    go_ret2
    exact ⟨H1.out, Or.inl ⟨HF.out, rfl⟩⟩
  | true =>
    have HF : Hid (followM st ba = true) := hF
    clear hF
    by_cases hbig : (L.length : Int) > 4000
    · go_wp2_with fail
      go_ret2
      exact ⟨H1.out, Or.inr (Or.inl ⟨HF.out, by omega, rfl⟩)⟩
    have hL4 : L.length ≤ 4000 := by omega
    obtain ⟨n, hnl⟩ : ∃ n, n = L.length := ⟨_, rfl⟩
    have HN : Hid (n = L.length) := hnl
    obtain ⟨q, hq⟩ : ∃ q : Nat, q = (n + 99) / 100 := ⟨_, rfl⟩
    rw [← hnl] at hbig hL4 ⊢
    have hm : manyM L = max 1 q := by unfold manyM; rw [hq, hnl]
    have hq40 : q ≤ 40 := by omega
    clear hnl
    obtain ⟨M, hM⟩ : ∃ M, M = manyM L := ⟨_, rfl⟩
    have HM : Hid (M = manyM L) := hM
    have hM40 : M ≤ 40 := by rw [hM, hm]; omega
    have hM1 : 1 ≤ M := by rw [hM, hm]; omega
    have HMV : Hid ((if 1 < ((n : Int) + 100 - 1) / 100 then ((n : Int) + 100 - 1) / 100 else 1) = (M : Int)) := by
      show _ = _
      rw [hM, hm, hq]
      split <;> omega
    have hmk := run_makeSlice (P := Tryd.prog) w1 58 39 i0 _ Tryd.underlying58 hi0 hz0 .i64 .i64 (M : Int) (M : Int) (by omega) (Int.le_refl _) (by rw [hz1, Int.toNat_natCast]; omega) (by rw [hz2]; omega) (by omega)
    rw [Int.toNat_natCast, hz1] at hmk
    have hzc : (Value.agg #[.int .i64 0, .int .i64 0, .int .i64 0, .int .i64 0, .slice none 0 0]).cells = #[.int .i64 0, .int .i64 0, .int .i64 0, .int .i64 0, .slice none 0 0] := rfl
    rw [hzc] at hmk
    clear hM hm hq hq40 hz0 hz1 hz2 hi0
    go_upto_region 6 with fail
    simp only [HMV.out]
    clear HMV
    go_upto_region 7 with fail
    have H2 : Hid (CS w w1.heap.size M st ba L 0 a c (w1.alloc (.cells (madeCells #[.int .i64 0, .int .i64 0, .int .i64 0, .int .i64 0, .slice none 0 0] (M * 5)) 39))) := by
      have hlt := H1.out.size
      refine ⟨by rw [Nat.mul_zero, List.drop_zero]; exact HB.out.1.only (H1.out.alloc _) (by simp), by rw [Nat.mul_zero, List.drop_zero]; exact HB.out.2.1, by rw [Nat.mul_zero, List.drop_zero]; exact HB.out.2.2, PcsAt.new w1 M st ba L, H1.out.alloc _, hlt, fun g o e hL => ?_⟩
      rw [Nat.mul_zero, List.drop_zero] at hL
      have := byAt_lt HB.out.1 e hL
      omega
    clear hmk H1 HB
    revert H2
    generalize w1.heap.size = gl
    generalize World.alloc w1 _ = w2
    intro H2
    go_wp2_with fail
    go_loopg [2, 31] M (fun k' bv idx wr => ∃ (i : Nat) (ai : Option Addr) (ci mi : Nat), bv = .slice ai mi ci ∧ idx = .int .i64 (i : Int) ∧ Hid (i ≤ M ∧ k' = M - i ∧ mi = (L.drop (100 * i)).length) ∧ Hid (CS w gl M st ba L i ai ci wr))
    case atStart => exact ⟨0, a, c, n, rfl, rfl, ⟨by omega, rfl, by rw [Nat.mul_zero, List.drop_zero]; exact HN.out⟩, H2⟩
    case round =>
      clear H2
      obtain ⟨i, ai, ci, mi, rfl, rfl, HI, HE⟩ := hrel
      by_cases hi : i < M
      case neg =>
        have hil : ¬ (i : Int) < (M : Int) := by omega
        obtain rfl : i = M := by have := HI.out.1; omega
        go_wp2_with fail
        go_ret2
        exact ⟨HE.out.only, Or.inr (Or.inr ⟨HF.out, by rw [← HN.out]; exact hL4, gl, by rw [← HM.out]; rfl, HE.out.new, by rw [← HM.out]; exact HE.out.pcs⟩)⟩
      have hil : (i : Int) < (M : Int) := by omega
      obtain ⟨k, hk⟩ : ∃ k, k = min 100 mi := ⟨_, rfl⟩
      have hmc : mi ≤ ci := by rw [HI.out.2.2]; exact HE.out.lc
      have hmL : mi ≤ 4000 := by rw [HI.out.2.2, List.length_drop, ← HN.out]; omega
      have HK : Hid (k = min 100 (L.drop (100 * i)).length ∧ (chunk L i).length = k) := ⟨by rw [hk, HI.out.2.2], by unfold chunk; rw [List.length_take, hk, HI.out.2.2]⟩
      have hkm : k ≤ mi := by omega
      have hkc : k ≤ ci := by omega
      have HKV : Hid ((if (mi : Int) < 100 then (mi : Int) else 100) = (k : Int)) := by
        show _ = _
        split <;> omega
      clear hk
      have CL : Hid (∀ u, Only [] wr u → Calls Tryd.prog 47 #[.slice ai k ci] u fun e w' => ∃ a2 c2, e = .returned (.slice a2 k c2) ∧ SBn w' (.slice a2 k c2) (chunk L i) gl ∧ Only [] u w') := by
        intro u ou
        have h1 : ByAt u ai (chunk L i) := (HE.out.by_.only ou (by simp)).take 100
        have := cloneS_calls ai ci (chunk L i) u (by rw [HK.out.2]; omega) h1 (fun q => by have := HE.out.nn q; refine ⟨?_, this.2⟩; unfold chunk; rw [this.1]; rfl)
        rw [HK.out.2] at this
        refine this.mono ?_
        rintro e w' ⟨v, rfl, hs, o⟩
        have hgl : gl < u.heap.size := Nat.lt_of_lt_of_le (HE.out.pcs.lt (by omega)) ou.size
        obtain ⟨a2, c2, e2, r⟩ := hs gl hgl
        rw [HK.out.2] at e2
        subst e2
        exact ⟨a2, c2, rfl, ⟨a2, c2, by rw [HK.out.2], r⟩, o⟩
      go_upto_region 10 with fail
      go_wp2_with (first | (simp only [HKV.out]; refine wpList_to rfl (.tmp 34) (.tmp 37) ai mi ci k rfl rfl rfl hkc ?_))
      refine (CL.out _ (Only.refl _ _)).mono ?_
      rintro e w3 ⟨a2, c2, rfl, hs3, o3⟩
      have H3 : Hid (CS w gl M st ba L (i + 1) (fromA ai ci k) (ci - k) (w3.setCells gl (i * 5) [.int .i64 st, .int .i64 ba, .int .i64 ((i : Int)), .int .i64 ((M : Int)), .slice a2 k c2])) := HE.out.next hi hs3 o3 HK.out.1
      have HTH : Hid (w3.there gl (i * 5) 5) := fun j hj => by have := (HE.out.pcs.keep o3).1 (i * 5 + j) (by omega); rw [Nat.zero_add] at this; exact this
      clear hs3 o3
      have hone : (#[.int .i64 st, .int .i64 ba, .int .i64 ((i : Int)), .int .i64 ((M : Int)), Value.slice a2 k c2] : Array Value).all (·.oneCell') = true := by simp [Value.oneCell']
      clear HE CL HKV
      go_upto_region 12 with (first | (refine wpList_store_mid rfl 39 (.tmp 48) (.tmp 47) rfl gl (i * 5) #[.int .i64 st, .int .i64 ba, .int .i64 ((i : Int)), .int .i64 ((M : Int)), .slice a2 k c2] rfl rfl HTH.out pieceSize hone ?_))
      generalize World.setCells w3 _ _ _ = w4 at H3 ⊢
      clear HTH hone
      try simp only [Act.put]
      go_wp2_with (first | (refine wpList_from rfl (.tmp 49) (.tmp 51) ai mi ci k rfl rfl rfl hkm ?_))
      go_roundg (M - (i + 1))
      case measure => have := HI.out.2.1; omega
      case rel => exact ⟨i + 1, fromA ai ci k, ci - k, mi - k, rfl, by go_num, ⟨by omega, rfl, by rw [drop_next, ← HK.out.1, List.length_drop, ← HI.out.2.2]⟩, H3⟩
end Go.Proofs.YtbiaajncngldlaaDoor
