/- snap.Apply: whichever view and bytes. -/
import Derived.Test.YtedhdmahdioboaaApM
import Derived.Test.YtedhdmahdioboaaStr2
namespace Go.Proofs.Ytedhdmahdioboaa
open Go.ChangeShapes Go.WideShapes Go.ChangeAt Go.RowKit
set_option linter.unusedVariables false
set_option linter.unusedSimpArgs false

theorem strB_inj {A B : List Nat} (hA : ∀ x ∈ A, x < 256) (hB : ∀ x ∈ B, x < 256) (h : strB A = strB B) : A = B := by
  have h1 : (strB A).data.toList = (strB B).data.toList := by rw [h]
  unfold strB at h1
  rw [strOfNums_data, strOfNums_data, List.map_map, List.map_map] at h1
  have hl : A.length = B.length := by have := congrArg List.length h1; simpa using this
  apply List.ext_getElem hl
  intro i hi hj
  have h2 := congrArg (fun l => l[i]?) h1
  simp only [List.getElem?_map, List.getElem?_eq_getElem hi, List.getElem?_eq_getElem hj, Option.map_some, Option.some.injEq, Function.comp, Int.toNat_natCast] at h2
  have h3 := congrArg UInt8.toNat h2
  have q1 := hA _ (List.getElem_mem hi)
  have q2 := hB _ (List.getElem_mem hj)
  rw [UInt8.toNat_ofNat', UInt8.toNat_ofNat'] at h3
  rwa [Nat.mod_eq_of_lt (by simpa using q1), Nat.mod_eq_of_lt (by simpa using q2)] at h3
theorem sameB_eq {A B : List Nat} (hA : ∀ x ∈ A, x < 256) (hB : ∀ x ∈ B, x < 256) : sameB A B = true ↔ A = B := by
  constructor
  · intro h
    unfold sameB at h
    have h1 : (strB A).toList = (strB B).toList := by simpa using h
    apply strB_inj hA hB
    have h2 : (strB A).data.toList = (strB B).data.toList := by rw [ByteArray.toList_eq, ByteArray.toList_eq] at h1; exact h1
    cases hx : strB A with
    | mk dx =>
      cases hy : strB B with
      | mk dy =>
        rw [hx, hy] at h2
        congr 1
        exact Array.toList_inj.1 h2
  · rintro rfl; exact sameB_refl A
theorem bytesOf_small {l : List Nat} (h : Bits l) : ∀ x ∈ bytesOf l, x < 256 := by
  intro x hx
  obtain ⟨k, _, rfl⟩ := List.mem_map.1 hx
  exact byteAt_lt h k
/-- Bytes that tell a view out of another one. -/
def Del (F : List Sn) (L : List Nat) (T : List Sn) : Prop := rightL T = true ∧ (deltaT F T).length ≤ 31872 ∧ bytesOf (deltaT F T) = L
theorem Del.len {F : List Sn} {L : List Nat} {T : List Sn} (h : Del F L T) : L.length ≤ 3984 := by
  rw [← h.2.2, bytesOf_len]; have := h.2.1; omega
def ApplyPost (F : List Sn) (L : List Nat) (w : World) (e : Ending) (w' : World) : Prop :=
  Only [] w w' ∧ ((rightL F = false ∧ e = .returned (.tuple #[.slice none 0 0, errV 1])) ∨ (rightL F = true ∧ (∀ T, ¬ Del F L T) ∧ e = .returned (.tuple #[.slice none 0 0, errV 3])) ∨
    (rightL F = true ∧ ∃ T v, Del F L T ∧ (∀ T', Del F L T' → T' = T) ∧ e = .returned (.tuple #[v, .nilIface]) ∧ w'.ownsRow w.heap.size 120 11 v T.length (rowS T)))
theorem rightS_calls (u : Value) (F : List Sn) (w : World) (h : SvAt w u F) (hl : F.length ≤ 100000) : Calls Try.prog 116 #[u] w fun e w' => e = .returned (.bool (rightL F)) ∧ Only [] w w' := by
  obtain ⟨a, c, rfl, _, h⟩ := h
  have := right_calls a F.length c _ w (by omega) h
  rw [right_same] at this
  exact this
theorem SvAt.grow {w w' : World} {v : Value} {L : List Sn} (h : SvAt w v L) (o : Only [] w w') : SvAt w' v L := by
  obtain ⟨a, c, e, hc, hs⟩ := h
  exact ⟨a, c, e, hc, hs.only o⟩
set_option maxRecDepth 100000 in
set_option maxHeartbeats 4000000 in
theorem apply_calls (F : List Sn) (fv : Value) (a : Option Addr) (c : Nat) (L : List Nat) (w : World) (hv : SvAt w fv F) (hn : NilOk fv) (hf : F.length ≤ 100000) (hl : L.length ≤ 100000) (hs : ∀ x ∈ L, x < 256) (hb : ByAt w a L) (hnb : a = none → L = [] ∧ c = 0) :
    Calls Try.prog 75 #[fv, .slice a L.length c] w (ApplyPost F L w) := by
  have HB : Hid (SvAt w fv F ∧ NilOk fv ∧ F.length ≤ 100000 ∧ L.length ≤ 100000 ∧ (∀ x ∈ L, x < 256) ∧ ByAt w a L ∧ (a = none → L = [] ∧ c = 0)) := ⟨hv, hn, hf, hl, hs, hb, hnb⟩
  clear hv hn hf hl hs hb hnb
  go_enter Try.func75, Try.ntmps75
  go_wp2_with fail
  refine (rightS_calls fv F w HB.out.1 HB.out.2.2.1).mono ?_
  rintro e w1 ⟨rfl, o1⟩
  have H1 : Hid (Only [] w w1) := o1
  clear o1
  cases hr : rightL F with
  | false =>
    have HR : Hid (rightL F = false) := hr
    clear hr
    go_wp2_with fail
    exact bodyPost_ret (v := .tuple #[.slice none 0 0, errV 1]) (by simp [results, Try.results75, go_sem, errV]) rfl ⟨H1.out, Or.inl ⟨HR.out, rfl⟩⟩
  | true =>
    have HR : Hid (rightL F = true) := hr
    clear hr
    by_cases hlen : 3984 < L.length
    · have hd : decide ((3984 : Int) < (L.length : Int)) = true := decide_eq_true (by omega)
      have HN : Hid (∀ T, ¬ Del F L T) := fun T h => by have := h.len; omega
      clear hlen
      go_wp2_with fail
      exact bodyPost_ret (v := .tuple #[.slice none 0 0, errV 3]) (by simp [results, Try.results75, go_sem, errV]) rfl ⟨H1.out, Or.inr (Or.inl ⟨HR.out, HN.out, rfl⟩)⟩
    · have hd : decide ((3984 : Int) < (L.length : Int)) = false := decide_eq_false (by omega)
      have HLE : Hid (L.length ≤ 3984) := by show _ ≤ _; omega
      clear hlen
      go_wp2_with fail
      refine (readB_calls a c L w1 HB.out.2.2.2.1 HB.out.2.2.2.2.1 (HB.out.2.2.2.2.2.1.only H1.out (by simp)) HB.out.2.2.2.2.2.2).mono ?_
      rintro e w2 ⟨v, rfl, ⟨r, ar, cr, rfl, hr1, hr2, hr3⟩, o2⟩
      have H2 : Hid (Only [] w w2 ∧ w1.heap.size ≤ r ∧ RdAt w2 r ar cr L 0 ∧ ∀ g o, ar = some ⟨g, o, none⟩ → L ≠ [] → w1.heap.size ≤ g) := ⟨H1.out.trans o2, hr1, hr2, hr3⟩
      clear hr1 hr2 hr3 o2
      go_upto_region 6 with fail
      have H3 : Hid (SR (w2.alloc (.cells #[.pointer (some ⟨r, 0, none⟩), .nilIface, .int .i64 0] 212)) w2.heap.size r ar cr L false 0 0 ∧ VwC w (w2.alloc (.cells #[.pointer (some ⟨r, 0, none⟩), .nilIface, .int .i64 0] 212)) w2.heap.size r ar L F ∧ Only [] w (w2.alloc (.cells #[.pointer (some ⟨r, 0, none⟩), .nilIface, .int .i64 0] 212))) := by
        have o : Only [] w2 (w2.alloc (.cells #[.pointer (some ⟨r, 0, none⟩), .nilIface, .int .i64 0] 212)) := (Only.refl _ _).alloc _
        obtain ⟨q1, q2, q3, q4⟩ := H2.out
        have hrl := q3.lt
        have hs1 := H1.out.size
        have hs2 := q1.size
        have hsz : (w2.alloc (.cells #[.pointer (some ⟨r, 0, none⟩), .nilIface, .int .i64 0] 212)).heap.size = w2.heap.size + 1 := by simp
        refine ⟨⟨q3.only o (by simp) (by simp), ⟨0, rfl, (MapKept.heap_alloc w2 _).1⟩, by omega, fun g o' e hL => by have := q3.blt e hL; omega⟩, ⟨q1.trans o, ⟨by omega, by omega⟩, ⟨by omega, by omega, fun g o' e hL => by have := q3.blt e hL; omega⟩, (rightL_ris HR.out).2, by have := HLE.out; omega⟩, q1.trans o⟩
      clear H2
      revert H3
      generalize w2.heap.size = kr
      generalize World.alloc w2 _ = w3
      intro H3
      go_wp2_with fail
      refine (view_calls w kr r ar cr L F fv w3 H3.out.1 H3.out.2.1 HB.out.1 HB.out.2.1 HR.out).mono ?_
      rintro e w4 ⟨v, R, bad, la, p, rfl, hown, hRl, hsr, o4, htr⟩
      have H4 : Hid (w4.ownsRow w3.heap.size 120 11 v R.length (rowS R) ∧ R.length ≤ 100000 ∧ SR w4 kr r ar cr L bad la p ∧ Only [] w w4 ∧ (∀ T, rightL T = true → bytesOf (deltaT F T) = L → bad = false ∧ R = T)) := ⟨hown, hRl, hsr, H3.out.2.1.from0 o4, htr⟩
      have HS3 : Hid (w.heap.size ≤ w3.heap.size) := H3.out.2.2.size
      clear hown hRl hsr o4 htr H3
      go_wp2_with fail
      refine (delta_calls F R fv v w4 (HB.out.1.grow H4.out.2.2.2.1) (own_sv H4.out.1).1 HB.out.2.2.1 H4.out.2.1).mono ?_
      rintro e w5 ⟨o5, hcase⟩
      have H5 : Hid (w5.ownsRow w3.heap.size 120 11 v R.length (rowS R) ∧ SR w5 kr r ar cr L bad la p ∧ Only [] w w5) := ⟨ownS_keep H4.out.1 o5 (by simp), H4.out.2.2.1.keep o5, H4.out.2.2.2.1.trans o5⟩
      clear o5
      obtain ⟨er, heb, hce⟩ := H5.out.2.1.er
      have HEB : Hid (bad = decide (er ≠ 0)) := heb
      clear heb
      have HFAIL : Hid (∀ T, ¬ Del F L T) → Hid (ApplyPost F L w (.returned (.tuple #[.slice none 0 0, errV 3])) w5) := fun h => ⟨H5.out.2.2, Or.inr (Or.inl ⟨HR.out, h, rfl⟩)⟩
      rcases hcase with ⟨hno, rfl⟩ | ⟨_, _, hgt, rfl⟩ | ⟨_, hRR, hle, v5, rfl, hfresh⟩
      · have HNO : Hid (¬ (rightL F = true ∧ rightL R = true)) := hno
        clear hno
        by_cases he : er = 0
        · rw [he, eN_zero] at hce
          clear he
          simp only [errV]
          have HD : Hid (∀ T, ¬ Del F L T) := fun T h => by
            obtain ⟨g1, g2⟩ := H4.out.2.2.2.2 T h.1 h.2.2
            exact HNO.out ⟨HR.out, by rw [g2]; exact h.1⟩
          go_wp2_with fail
          exact bodyPost_ret (v := .tuple #[.slice none 0 0, errV 3]) (by simp [results, Try.results75, go_sem, errV]) rfl (HFAIL HD).out
        · rw [eN_pos he] at hce
          clear he
          simp only [errV]
          have HD : Hid (∀ T, ¬ Del F L T) := fun T h => by
            obtain ⟨g1, g2⟩ := H4.out.2.2.2.2 T h.1 h.2.2
            exact HNO.out ⟨HR.out, by rw [g2]; exact h.1⟩
          go_wp2_with fail
          exact bodyPost_ret (v := .tuple #[.slice none 0 0, errV 3]) (by simp [results, Try.results75, go_sem, errV]) rfl (HFAIL HD).out
      · have HGT : Hid (31872 < (deltaT F R).length) := hgt
        clear hgt
        by_cases he : er = 0
        · rw [he, eN_zero] at hce
          clear he
          simp only [errV]
          have HD : Hid (∀ T, ¬ Del F L T) := fun T h => by
            obtain ⟨g1, g2⟩ := H4.out.2.2.2.2 T h.1 h.2.2
            have h1 := HGT.out; rw [g2] at h1; have h2 := h.2.1; omega
          go_wp2_with fail
          exact bodyPost_ret (v := .tuple #[.slice none 0 0, errV 3]) (by simp [results, Try.results75, go_sem, errV]) rfl (HFAIL HD).out
        · rw [eN_pos he] at hce
          clear he
          simp only [errV]
          have HD : Hid (∀ T, ¬ Del F L T) := fun T h => by
            obtain ⟨g1, g2⟩ := H4.out.2.2.2.2 T h.1 h.2.2
            have h1 := HGT.out; rw [g2] at h1; have h2 := h.2.1; omega
          go_wp2_with fail
          exact bodyPost_ret (v := .tuple #[.slice none 0 0, errV 3]) (by simp [results, Try.results75, go_sem, errV]) rfl (HFAIL HD).out
      · have HF : Hid (rightL R = true ∧ (deltaT F R).length ≤ 31872 ∧ ReadsAs w5 v5 (bytesOf (deltaT F R)) ∧ ReadsAs w5 (.slice a L.length c) L) := ⟨hRR, hle, hfresh.reads, arg_reads (HB.out.2.2.2.2.2.1.only H5.out.2.2 (by simp)) HB.out.2.2.2.2.2.2⟩
        clear hRR hle hfresh
        by_cases he : er = 0
        · rw [he, eN_zero] at hce
          clear he
          go_wp2_with fail
          refine (equalB_calls v5 (.slice a L.length c) (bytesOf (deltaT F R)) L _ HF.out.2.2.1 HF.out.2.2.2).mono ?_
          rintro e w6 ⟨rfl, rfl⟩
          have hiff := sameB_eq (bytesOf_small (delta_bits F R)) HB.out.2.2.2.2.1
          cases hsm : sameB (bytesOf (deltaT F R)) L with
          | true =>
            have HD : Hid (Del F L R) := ⟨HF.out.1, HF.out.2.1, hiff.1 hsm⟩
            clear hsm hiff
            go_wp2_with fail
            refine bodyPost_ret (v := .tuple #[v, .nilIface]) (by simp [results, Try.results75, go_sem]) rfl ⟨H5.out.2.2, Or.inr (Or.inr ⟨HR.out, R, v, HD.out, (fun T' h => (H4.out.2.2.2.2 T' h.1 h.2.2).2.symm), rfl, ?_⟩)⟩
            obtain ⟨h1, h2 | ⟨g, cap, cur, e, hb, rest⟩⟩ := H5.out.1
            · exact ⟨h1, Or.inl h2⟩
            · exact ⟨h1, Or.inr ⟨g, cap, cur, e, Nat.le_trans HS3.out hb, rest⟩⟩
          | false =>
            have HNE : Hid (¬ bytesOf (deltaT F R) = L) := fun h => by rw [hiff.2 h] at hsm; cases hsm
            clear hsm hiff
            have HD : Hid (∀ T, ¬ Del F L T) := fun T h => by
              obtain ⟨g1, g2⟩ := H4.out.2.2.2.2 T h.1 h.2.2
              exact HNE.out (by rw [g2]; exact h.2.2)
            go_wp2_with fail
            exact bodyPost_ret (v := .tuple #[.slice none 0 0, errV 3]) (by simp [results, Try.results75, go_sem, errV]) rfl (HFAIL HD).out
        · have HBAD : Hid (bad = true) := by show _ = _; rw [HEB.out]; simp [he]
          rw [eN_pos he] at hce
          clear he
          have HD : Hid (∀ T, ¬ Del F L T) := fun T h => by
            obtain ⟨g1, g2⟩ := H4.out.2.2.2.2 T h.1 h.2.2
            rw [HBAD.out] at g1; cases g1
          go_wp2_with fail
          exact bodyPost_ret (v := .tuple #[.slice none 0 0, errV 3]) (by simp [results, Try.results75, go_sem, errV]) rfl (HFAIL HD).out
end Go.Proofs.Ytedhdmahdioboaa
