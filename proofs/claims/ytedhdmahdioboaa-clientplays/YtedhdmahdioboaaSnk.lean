/- gyreref.Delta: whatever the views. -/
import Derived.Test.YtedhdmahdioboaaSnl
import Derived.Test.YtedhdmahdioboaaSu7
namespace Go.Proofs.Ytedhdmahdioboaa
open Go.ChangeShapes Go.WideShapes Go.ChangeAt Go.RowKit
set_option linter.unusedVariables false
set_option linter.unusedSimpArgs false

def RDeltaPost (F T : List Sn) (w : World) (e : Ending) (w' : World) : Prop :=
  Only [] w w' ∧ ((¬ (rightL F = true ∧ rightL T = true) ∧ e = .returned (.tuple #[.slice none 0 0, .int .i64 1])) ∨
    (rightL F = true ∧ rightL T = true ∧ 31872 < (deltaT F T).length ∧ e = .returned (.tuple #[.slice none 0 0, .int .i64 4])) ∨
    (rightL F = true ∧ rightL T = true ∧ (deltaT F T).length ≤ 31872 ∧ ∃ v, e = .returned (.tuple #[v, .int .i64 0]) ∧ SlB w' v (bytesOf (deltaT F T))))
theorem SvAt.at {w : World} {a : Option Addr} {L : List Sn} (h : SeenAt w a L.length (fun j => L.getD j zs)) {i : Nat} (hi : i < L.length) : ∃ g o, a = some ⟨g, o, none⟩ ∧ w.cell? ⟨g, o + i * 11, none⟩ = some (.int .i64 ((L.getD i zs).id)) := by
  obtain ⟨g, o, rfl, hc⟩ := h i hi
  exact ⟨g, o, rfl, by have := hc 0 (by omega); simpa [sc] using this⟩
set_option maxRecDepth 100000 in
set_option maxHeartbeats 8000000 in
theorem refDelta_calls (F T : List Sn) (u v : Value) (w : World) (hu : SvAt w u F) (hv : SvAt w v T) (hf : F.length ≤ 1000) (ht : T.length ≤ 1000) :
    Calls Try.prog 16 #[u, v] w (RDeltaPost F T w) := by
  have hmf : ∀ (fn : Fn) (first cap : Array Value) (w : World), (Instr.makeFunc fn first cap).run Try.prog w = .ok (.func fn first cap) w := fun _ _ _ _ => rfl
  obtain ⟨i0, hi0, hz0, hz1, hz2⟩ := info_parts intInfo
  obtain ⟨a, c, rfl, hc, hu⟩ := hu
  obtain ⟨b, d, rfl, hd, hv⟩ := hv
  have HU : Hid (SeenAt w a F.length (fun j => F.getD j zs) ∧ SeenAt w b T.length (fun j => T.getD j zs) ∧ F.length ≤ 1000 ∧ T.length ≤ 1000 ∧ F.length ≤ c ∧ T.length ≤ d) := ⟨hu, hv, hf, ht, hc, hd⟩
  clear hu hv hf ht hc hd
  go_enter Try.func16, Try.ntmps16
  go_wp2_with fail
  refine (rightView_calls a F.length c _ w (by have := HU.out.2.2.1; omega) HU.out.1).mono ?_
  rintro e w1 ⟨rfl, o1⟩
  have O1 : Hid (Only [] w w1) := o1
  clear o1
  rw [show rightR (fun j => F.getD j zs) F.length = rightL F from rfl]
  cases hF : rightL F with
  | false =>
    have HF : Hid (rightL F = false) := hF
    clear hF
    go_wp2_with fail
    exact bodyPost_ret (v := .tuple #[.slice none 0 0, .int .i64 1]) (by simp [results, Try.results16, go_sem]) rfl ⟨O1.out, Or.inl ⟨(fun h => by rw [HF.out] at h; cases h.1), rfl⟩⟩
  | true =>
    have HF : Hid (rightL F = true) := hF
    clear hF
    go_wp2_with fail
    refine (rightView_calls b T.length d _ w1 (by have := HU.out.2.2.2.1; omega) (HU.out.2.1.only O1.out)).mono ?_
    rintro e w2 ⟨rfl, o2⟩
    have O2 : Hid (Only [] w w2) := O1.out.trans o2
    clear o2 O1
    rw [show rightR (fun j => T.getD j zs) T.length = rightL T from rfl]
    cases hT : rightL T with
    | false =>
      have HT : Hid (rightL T = false) := hT
      clear hT
      go_wp2_with fail
      exact bodyPost_ret (v := .tuple #[.slice none 0 0, .int .i64 1]) (by simp [results, Try.results16, go_sem]) rfl ⟨O2.out, Or.inl ⟨(fun h => by rw [HT.out] at h; cases h.2), rfl⟩⟩
    | true =>
      have HT : Hid (rightL T = true) := hT
      clear hT
      go_wp2_with fail
      have H0 : Hid (PA w w2.heap.size (.slice none 0 0) [] (w2.alloc (.cells #[.slice none 0 0] 111))) :=
        ⟨World.ownsRow_nil _ 0 _ _, O2.out.alloc _, (MapKept.heap_alloc w2 _).1, O2.out.size, by simp [ownL, Value.ownBlock]⟩
      clear O2
      revert H0
      generalize w2.heap.size = kb
      generalize World.alloc w2 _ = w3
      intro H0
      go_loopg [9, 10, 11] (F.length + T.length) (fun m s9 s10 s11 wr => ∃ (i k : Nat) (xs : List Int) (f : Nat), s10 = .int .i64 (i : Int) ∧ s11 = .int .i64 (k : Int) ∧ Hid (i ≤ F.length ∧ k ≤ T.length ∧ m = (F.length - i) + (T.length - k) ∧ m ≤ f ∧ xs.length ≤ i + k ∧ xs ++ idsM f (F.drop i) (T.drop k) = idsM (F.length + T.length) F T) ∧ Hid (PA w kb s9 xs wr))
      case atStart => exact ⟨0, 0, [], F.length + T.length, rfl, rfl, ⟨by omega, by omega, by omega, by omega, by simp, rfl⟩, H0⟩
      case round =>
        clear H0
        obtain ⟨i, k, xs, f, rfl, rfl, H1, HP⟩ := hrel
        have hn := HU.out.2.2
        by_cases hi : i < F.length
        · obtain ⟨g, o, rfl, c1⟩ := SvAt.at (HU.out.1.only HP.out.only) hi
          obtain ⟨A, hA⟩ : ∃ A, (F.getD i zs).id = A := ⟨_, rfl⟩
          rw [hA] at c1
          have HA : Hid ((F.getD i zs).id = A) := hA
          clear hA
          by_cases hk : k < T.length
          · obtain ⟨g', o', rfl, c2⟩ := SvAt.at (HU.out.2.1.only HP.out.only) hk
            obtain ⟨B, hB⟩ : ∃ B, (T.getD k zs).id = B := ⟨_, rfl⟩
            rw [hB] at c2
            have HB : Hid ((T.getD k zs).id = B) := hB
            clear hB
            have hk1 : (k == T.length) = false := by simp; omega
            have hk2 : ¬ k = T.length := by omega
            have hk3 : ((k : Int) == (T.length : Int)) = false := beq_false_of_ne (by omega)
            have hk4 : (k : Int) < (T.length : Int) := by omega
            have hi4 : (i : Int) < (F.length : Int) := by omega
            rcases Int.lt_trichotomy A B with he | he | he
            · have HE : Hid ((F.getD i zs).id < (T.getD k zs).id) := by show _ < _; rw [HA.out, HB.out]; exact he
              have b1 : decide (A ≤ B) = true := decide_eq_true (by omega)
              have b2 : (A == B) = false := beq_false_of_ne (by omega)
              clear he
              go_wp2_with fail
              go_quiet (fail)
              have HP1 : Hid (PA w kb u9 xs (wr.drewN nq)) := HP.out.keep (Only.drewN _ _)
              have c12 : (wr.drewN nq).cell? _ = _ := c1
              clear c1
              have c1 := c12
              clear c12
              have c22 : (wr.drewN nq).cell? _ = _ := c2
              clear c2
              have c2 := c22
              clear c22
              clear HP
              generalize wr.drewN nq = w5 at HP1 c1 c2 ⊢
              go_wp2_with fail
              go_quiet (fail)
              have HP2 : Hid (PA w kb u9 xs (w5.drewN nq)) := HP1.out.keep (Only.drewN _ _)
              have c12 : (w5.drewN nq).cell? _ = _ := c1
              clear c1
              have c1 := c12
              clear c12
              have c22 : (w5.drewN nq).cell? _ = _ := c2
              clear c2
              have c2 := c22
              clear c22
              clear HP1
              generalize w5.drewN nq = w6 at HP2 c1 c2 ⊢
              have hs := HP2.out.own
              have hx : xs.length ≤ 2000 := by have h1 := H1.out; have h2 := HU.out; omega
              go_wp2_with (first | (at_builtin; refine wpList_append_own_at _ rfl _ _ 42 rfl 0 3 i0 (.int .i64 0) 1 8 Try.underlying42 hi0 hz0 hz1 hz2 rfl (by decide) u9 xs.length (xs.map (Value.int .i64)) rfl (World.ownsRow.alloc hs _) ⟨w6.heap.size, 0, none⟩ 1 1 [.int .i64 A] rfl rfl (cell_one_new _ _ _) (by simp [Value.oneCell']) (by unfold maxLen; omega) (by omega) (by simp) ?_; intro v9 w9 hown hgrow hnil hloc; have H9 : Hid (PA w kb v9 (xs ++ [A]) w9) := HP2.out.more hown hgrow hloc; clear hown hgrow hnil hloc))
              go_roundg ((F.length - (i + 1)) + (T.length - (k)))
              case measure => have h1 := H1.out; omega
              case rel => exact ⟨i + 1, k, xs ++ [_], f - 1, by go_num, by go_num, ⟨by omega, by omega, rfl, by have h1 := H1.out; omega, by have h1 := H1.out; simp only [List.length_append, List.length_singleton]; omega, by
                have h1 := H1.out
                obtain ⟨f', rfl⟩ : ∃ f', f = f' + 1 := ⟨f - 1, by omega⟩
                rw [← h1.2.2.2.2.2, ids_lt hi hk HE.out, HA.out, List.append_assoc]
                rfl⟩, H9⟩
            · have HE : Hid ((F.getD i zs).id = (T.getD k zs).id) := by show _ = _; rw [HA.out, HB.out]; exact he
              subst he
              go_wp2_with fail
              go_quiet (fail)
              have HP1 : Hid (PA w kb u9 xs (wr.drewN nq)) := HP.out.keep (Only.drewN _ _)
              have c12 : (wr.drewN nq).cell? _ = _ := c1
              clear c1
              have c1 := c12
              clear c12
              have c22 : (wr.drewN nq).cell? _ = _ := c2
              clear c2
              have c2 := c22
              clear c22
              clear HP
              generalize wr.drewN nq = w5 at HP1 c1 c2 ⊢
              go_wp2_with fail
              go_quiet (fail)
              have HP2 : Hid (PA w kb u9 xs (w5.drewN nq)) := HP1.out.keep (Only.drewN _ _)
              have c12 : (w5.drewN nq).cell? _ = _ := c1
              clear c1
              have c1 := c12
              clear c12
              have c22 : (w5.drewN nq).cell? _ = _ := c2
              clear c2
              have c2 := c22
              clear c22
              clear HP1
              generalize w5.drewN nq = w6 at HP2 c1 c2 ⊢
              have hs := HP2.out.own
              have hx : xs.length ≤ 2000 := by have h1 := H1.out; have h2 := HU.out; omega
              go_wp2_with (first | (at_builtin; refine wpList_append_own_at _ rfl _ _ 42 rfl 0 3 i0 (.int .i64 0) 1 8 Try.underlying42 hi0 hz0 hz1 hz2 rfl (by decide) u9 xs.length (xs.map (Value.int .i64)) rfl (World.ownsRow.alloc hs _) ⟨w6.heap.size, 0, none⟩ 1 1 [.int .i64 A] rfl rfl (cell_one_new _ _ _) (by simp [Value.oneCell']) (by unfold maxLen; omega) (by omega) (by simp) ?_; intro v9 w9 hown hgrow hnil hloc; have H9 : Hid (PA w kb v9 (xs ++ [A]) w9) := HP2.out.more hown hgrow hloc; clear hown hgrow hnil hloc))
              go_roundg ((F.length - (i + 1)) + (T.length - (k + 1)))
              case measure => have h1 := H1.out; omega
              case rel => exact ⟨i + 1, k + 1, xs ++ [_], f - 1, by go_num, by go_num, ⟨by omega, by omega, rfl, by have h1 := H1.out; omega, by have h1 := H1.out; simp only [List.length_append, List.length_singleton]; omega, by
                have h1 := H1.out
                obtain ⟨f', rfl⟩ : ∃ f', f = f' + 1 := ⟨f - 1, by omega⟩
                rw [← h1.2.2.2.2.2, ids_eq hi hk HE.out, HA.out, List.append_assoc]
                rfl⟩, H9⟩
            · have HE : Hid ((T.getD k zs).id < (F.getD i zs).id) := by show _ < _; rw [HA.out, HB.out]; exact he
              have b1 : decide (A ≤ B) = false := decide_eq_false (by omega)
              clear he
              go_wp2_with fail
              go_quiet (fail)
              have HP1 : Hid (PA w kb u9 xs (wr.drewN nq)) := HP.out.keep (Only.drewN _ _)
              have c12 : (wr.drewN nq).cell? _ = _ := c1
              clear c1
              have c1 := c12
              clear c12
              have c22 : (wr.drewN nq).cell? _ = _ := c2
              clear c2
              have c2 := c22
              clear c22
              clear HP
              generalize wr.drewN nq = w5 at HP1 c1 c2 ⊢
              have hs := HP1.out.own
              have hx : xs.length ≤ 2000 := by have h1 := H1.out; have h2 := HU.out; omega
              go_wp2_with (first | (at_builtin; refine wpList_append_own_at _ rfl _ _ 42 rfl 0 3 i0 (.int .i64 0) 1 8 Try.underlying42 hi0 hz0 hz1 hz2 rfl (by decide) u9 xs.length (xs.map (Value.int .i64)) rfl (World.ownsRow.alloc hs _) ⟨w5.heap.size, 0, none⟩ 1 1 [.int .i64 B] rfl rfl (cell_one_new _ _ _) (by simp [Value.oneCell']) (by unfold maxLen; omega) (by omega) (by simp) ?_; intro v9 w9 hown hgrow hnil hloc; have H9 : Hid (PA w kb v9 (xs ++ [B]) w9) := HP1.out.more hown hgrow hloc; clear hown hgrow hnil hloc))
              go_roundg ((F.length - (i)) + (T.length - (k + 1)))
              case measure => have h1 := H1.out; omega
              case rel => exact ⟨i, k + 1, xs ++ [_], f - 1, by go_num, by go_num, ⟨by omega, by omega, rfl, by have h1 := H1.out; omega, by have h1 := H1.out; simp only [List.length_append, List.length_singleton]; omega, by
                have h1 := H1.out
                obtain ⟨f', rfl⟩ : ∃ f', f = f' + 1 := ⟨f - 1, by omega⟩
                rw [← h1.2.2.2.2.2, ids_gt hi hk HE.out, HB.out, List.append_assoc]
                rfl⟩, H9⟩
          · obtain rfl : k = T.length := by have := H1.out.2.1; omega
            clear hk
            go_wp2_with fail
            go_quiet (fail)
            have HP1 : Hid (PA w kb u9 xs (wr.drewN nq)) := HP.out.keep (Only.drewN _ _)
            have c12 : (wr.drewN nq).cell? _ = _ := c1
            clear c1
            have c1 := c12
            clear c12
            clear HP
            generalize wr.drewN nq = w5 at HP1 c1 ⊢
            go_wp2_with fail
            go_quiet (fail)
            have HP2 : Hid (PA w kb u9 xs (w5.drewN nq)) := HP1.out.keep (Only.drewN _ _)
            have c12 : (w5.drewN nq).cell? _ = _ := c1
            clear c1
            have c1 := c12
            clear c12
            clear HP1
            generalize w5.drewN nq = w6 at HP2 c1 ⊢
            have hs := HP2.out.own
            have hx : xs.length ≤ 2000 := by have h1 := H1.out; have h2 := HU.out; omega
            go_wp2_with (first | (at_builtin; refine wpList_append_own_at _ rfl _ _ 42 rfl 0 3 i0 (.int .i64 0) 1 8 Try.underlying42 hi0 hz0 hz1 hz2 rfl (by decide) u9 xs.length (xs.map (Value.int .i64)) rfl (World.ownsRow.alloc hs _) ⟨w6.heap.size, 0, none⟩ 1 1 [.int .i64 A] rfl rfl (cell_one_new _ _ _) (by simp [Value.oneCell']) (by unfold maxLen; omega) (by omega) (by simp) ?_; intro v9 w9 hown hgrow hnil hloc; have H9 : Hid (PA w kb v9 (xs ++ [A]) w9) := HP2.out.more hown hgrow hloc; clear hown hgrow hnil hloc))
            go_roundg ((F.length - (i + 1)) + (T.length - (T.length)))
            case measure => have h1 := H1.out; omega
            case rel => exact ⟨i + 1, T.length, xs ++ [_], f - 1, by go_num, by go_num, ⟨by omega, by omega, rfl, by have h1 := H1.out; omega, by have h1 := H1.out; simp only [List.length_append, List.length_singleton]; omega, by
              have h1 := H1.out
              obtain ⟨f', rfl⟩ : ∃ f', f = f' + 1 := ⟨f - 1, by omega⟩
              rw [← h1.2.2.2.2.2, ids_from hi rfl, HA.out, List.append_assoc]
              rfl⟩, H9⟩
        · obtain rfl : i = F.length := by have := H1.out.1; omega
          by_cases hk : k < T.length
          · obtain ⟨g', o', rfl, c2⟩ := SvAt.at (HU.out.2.1.only HP.out.only) hk
            obtain ⟨B, hB⟩ : ∃ B, (T.getD k zs).id = B := ⟨_, rfl⟩
            rw [hB] at c2
            have HB : Hid ((T.getD k zs).id = B) := hB
            clear hB
            have hk1 : (k == T.length) = false := by simp; omega
            have hk2 : ¬ k = T.length := by omega
            have hk3 : ((k : Int) == (T.length : Int)) = false := beq_false_of_ne (by omega)
            have hk4 : (k : Int) < (T.length : Int) := by omega
            clear hi
            go_wp2_with fail
            go_quiet (fail)
            have HP1 : Hid (PA w kb u9 xs (wr.drewN nq)) := HP.out.keep (Only.drewN _ _)
            have c22 : (wr.drewN nq).cell? _ = _ := c2
            clear c2
            have c2 := c22
            clear c22
            clear HP
            generalize wr.drewN nq = w5 at HP1 c2 ⊢
            have hs := HP1.out.own
            have hx : xs.length ≤ 2000 := by have h1 := H1.out; have h2 := HU.out; omega
            go_wp2_with (first | (at_builtin; refine wpList_append_own_at _ rfl _ _ 42 rfl 0 3 i0 (.int .i64 0) 1 8 Try.underlying42 hi0 hz0 hz1 hz2 rfl (by decide) u9 xs.length (xs.map (Value.int .i64)) rfl (World.ownsRow.alloc hs _) ⟨w5.heap.size, 0, none⟩ 1 1 [.int .i64 B] rfl rfl (cell_one_new _ _ _) (by simp [Value.oneCell']) (by unfold maxLen; omega) (by omega) (by simp) ?_; intro v9 w9 hown hgrow hnil hloc; have H9 : Hid (PA w kb v9 (xs ++ [B]) w9) := HP1.out.more hown hgrow hloc; clear hown hgrow hnil hloc))
            go_roundg ((F.length - (F.length)) + (T.length - (k + 1)))
            case measure => have h1 := H1.out; omega
            case rel => exact ⟨F.length, k + 1, xs ++ [_], f - 1, by go_num, by go_num, ⟨by omega, by omega, rfl, by have h1 := H1.out; omega, by have h1 := H1.out; simp only [List.length_append, List.length_singleton]; omega, by
              have h1 := H1.out
              obtain ⟨f', rfl⟩ : ∃ f', f = f' + 1 := ⟨f - 1, by omega⟩
              rw [← h1.2.2.2.2.2, ids_to rfl hk, HB.out, List.append_assoc]
              rfl⟩, H9⟩
          · obtain rfl : k = T.length := by have := H1.out.2.1; omega
            have HX : Hid (xs = idsM (F.length + T.length) F T) := by have h1 := H1.out.2.2.2.2.2; rw [List.drop_length, List.drop_length, idsM_nil, List.append_nil] at h1; exact h1
            have HLEN : Hid (xs.length ≤ 120) := by have h1 := idsM_len (F.length + T.length) F T; have h2 := (rightL_ris HF.out).2; have h3 := (rightL_ris HT.out).2; show xs.length ≤ 120; rw [HX.out]; omega
            clear hi hk H1
            obtain ⟨a9, c9, e9, hids⟩ := ints_shape HP.out.own
            subst e9
            have HID : Hid (∀ j (hj : j < xs.length), ∃ g, a9 = some ⟨g, 0, none⟩ ∧ wr.cell? ⟨g, j, none⟩ = some (.int .i64 (xs[j]))) := hids
            have HB0 : Hid (PB w kb (ownL (.slice a9 xs.length c9)) xs F T 0 F T (F.length + T.length) [] 0 0 wr wr) := by
              obtain ⟨r1, r2⟩ := rightL_ris HF.out
              obtain ⟨r3, r4⟩ := rightL_ris HT.out
              refine ⟨⟨⟨.slice none 0 0, ⟨HP.out.bit, SlB.nil _, by simp [ownL, Value.ownBlock]⟩, by simp [ownL, Value.ownBlock], fun k hk => ⟨fun e => ?_, by simp [ownL, Value.ownBlock], own_lt HP.out.own k hk⟩⟩, HP.out.only, HP.out.new⟩, fun _ _ => rfl, by rw [List.drop_zero, HX.out], Finds.refl _ _, Finds.refl _ _, r1, r3, Int.le_refl _, Int.le_refl _, r2, r4, Nat.le_refl _, by simp, rfl⟩
              have := HP.out.apart k hk
              omega
            clear hids HP HX
            revert HID HB0
            generalize wr = w4
            intro HID HB0
            go_wp2_with fail
            go_loopg [12, 105] xs.length (fun k s12 s105 w5 => ∃ (j : Nat) (F1 T1 : List Sn) (f : Nat) (l : List Nat) (la m : Int), s12 = .int .i64 la ∧ s105 = .int .i64 (j : Int) ∧ Hid (j ≤ xs.length ∧ k = xs.length - j) ∧ Hid (PB w kb (ownL (.slice a9 xs.length c9)) xs F T j F1 T1 f l la m w4 w5))
            case atStart => exact ⟨0, F, T, _, [], 0, 0, rfl, rfl, ⟨by omega, rfl⟩, HB0⟩
            case round =>
              clear HB0
              obtain ⟨j, F1, T1, f, l, la, m, rfl, rfl, H2, HD⟩ := hrel
              have hxl := HLEN.out
              by_cases hj : j < xs.length
              · have hjl : (j : Int) < (xs.length : Int) := by omega
                obtain ⟨g, e9, hc0⟩ := HID.out j hj
                have hc : wr.cell? ⟨g, j, none⟩ = some (.int .i64 (lowId F1 T1)) := by
                  rw [cell_same (HD.out.same g (by rw [e9]; simp [ownL, Value.ownBlock])), hc0, (HD.out.low hj).2.1]
                have HL : Hid (j < xs.length) := hj
                subst e9
                clear hc0
                go_wp2_with fail
                refine (refSeen_calls F (lowId F1 T1) _ _ ⟨a, c, rfl, HU.out.2.2.2.2.1, HU.out.1.only HD.out.rb.only⟩ HU.out.2.2.1).mono ?_
                rintro e wa ⟨rfl, oa⟩
                have hlow := HD.out.low HL.out
                rw [hlow.2.2.2.2.2.1, hlow.2.2.2.2.2.2.1]
                obtain ⟨U, hU⟩ : ∃ U, takeS (lowId F1 T1) F1 = U := ⟨_, rfl⟩
                have HUU : Hid (takeS (lowId F1 T1) F1 = U) := hU
                rw [hU]
                clear hU hlow hc
                obtain ⟨p, hp⟩ : ∃ p, decide (U.id ≠ 0) = p := ⟨_, rfl⟩
                have HPP : Hid (decide (U.id ≠ 0) = p) := hp
                rw [hp]
                clear hp
                go_upto_region 21 with fail
                have HX : Hid (RB w kb (wa.heap.size :: (ownL (.slice (some ⟨g, 0, none⟩) xs.length c9))) l (wa.alloc (.cells #[.int .i64 (U.id), .int .i64 (U.kd), .int .i64 (U.sx), .int .i64 (U.sy), .int .i64 (U.sz), .int .i64 (U.ax), .int .i64 (U.ay), .int .i64 (U.az), .int .i64 (U.vx), .int .i64 (U.vy), .int .i64 (U.vz)] 116)) ∧ SnAt 116 (wa.alloc (.cells #[.int .i64 (U.id), .int .i64 (U.kd), .int .i64 (U.sx), .int .i64 (U.sy), .int .i64 (U.sz), .int .i64 (U.ax), .int .i64 (U.ay), .int .i64 (U.az), .int .i64 (U.vx), .int .i64 (U.vy), .int .i64 (U.vz)] 116)) wa.heap.size U ∧ ∀ k ∈ (ownL (.slice (some ⟨g, 0, none⟩) xs.length c9)), (wa.alloc (.cells #[.int .i64 (U.id), .int .i64 (U.kd), .int .i64 (U.sx), .int .i64 (U.sy), .int .i64 (U.sz), .int .i64 (U.ax), .int .i64 (U.ay), .int .i64 (U.az), .int .i64 (U.vx), .int .i64 (U.vy), .int .i64 (U.vz)] 116)).heap[k]? = w4.heap[k]?) := by
                  have o : Only [] wr (wa.alloc (.cells #[.int .i64 (U.id), .int .i64 (U.kd), .int .i64 (U.sx), .int .i64 (U.sy), .int .i64 (U.sz), .int .i64 (U.ax), .int .i64 (U.ay), .int .i64 (U.az), .int .i64 (U.vx), .int .i64 (U.vy), .int .i64 (U.vz)] 116)) := oa.alloc _
                  refine ⟨HD.out.rb.add o oa.size (by simp), SnAt.new _ wa U, fun k hk => ?_⟩
                  obtain ⟨_, _, _, h3⟩ := HD.out.rb.ex
                  rw [o.block k (h3 k hk).2.2 (by simp)]
                  exact HD.out.same k hk
                clear oa
                revert HX
                generalize wa.heap.size = kx
                generalize World.alloc wa _ = wb
                intro HX
                go_wp2_with fail
                refine (refSeen_calls T (lowId F1 T1) _ _ ⟨b, d, rfl, HU.out.2.2.2.2.2, HU.out.2.1.only HX.out.1.only⟩ HU.out.2.2.2.1).mono ?_
                rintro e wc ⟨rfl, oc⟩
                have hlow := HD.out.low HL.out
                rw [hlow.2.2.2.2.2.2.2.1, hlow.2.2.2.2.2.2.2.2]
                obtain ⟨V, hV⟩ : ∃ V, takeS (lowId F1 T1) T1 = V := ⟨_, rfl⟩
                have HVV : Hid (takeS (lowId F1 T1) T1 = V) := hV
                rw [hV]
                clear hV hlow
                obtain ⟨q, hq⟩ : ∃ q, decide (V.id ≠ 0) = q := ⟨_, rfl⟩
                have HQQ : Hid (decide (V.id ≠ 0) = q) := hq
                rw [hq]
                clear hq
                go_upto_region 22 with fail
                have HY : Hid (RB w kb (wc.heap.size :: kx :: (ownL (.slice (some ⟨g, 0, none⟩) xs.length c9))) l (wc.alloc (.cells #[.int .i64 (V.id), .int .i64 (V.kd), .int .i64 (V.sx), .int .i64 (V.sy), .int .i64 (V.sz), .int .i64 (V.ax), .int .i64 (V.ay), .int .i64 (V.az), .int .i64 (V.vx), .int .i64 (V.vy), .int .i64 (V.vz)] 116)) ∧ SnAt 116 (wc.alloc (.cells #[.int .i64 (V.id), .int .i64 (V.kd), .int .i64 (V.sx), .int .i64 (V.sy), .int .i64 (V.sz), .int .i64 (V.ax), .int .i64 (V.ay), .int .i64 (V.az), .int .i64 (V.vx), .int .i64 (V.vy), .int .i64 (V.vz)] 116)) wc.heap.size V ∧ SnAt 116 (wc.alloc (.cells #[.int .i64 (V.id), .int .i64 (V.kd), .int .i64 (V.sx), .int .i64 (V.sy), .int .i64 (V.sz), .int .i64 (V.ax), .int .i64 (V.ay), .int .i64 (V.az), .int .i64 (V.vx), .int .i64 (V.vy), .int .i64 (V.vz)] 116)) kx U ∧ ∀ k ∈ (ownL (.slice (some ⟨g, 0, none⟩) xs.length c9)), (wc.alloc (.cells #[.int .i64 (V.id), .int .i64 (V.kd), .int .i64 (V.sx), .int .i64 (V.sy), .int .i64 (V.sz), .int .i64 (V.ax), .int .i64 (V.ay), .int .i64 (V.az), .int .i64 (V.vx), .int .i64 (V.vy), .int .i64 (V.vz)] 116)).heap[k]? = w4.heap[k]?) := by
                  have o : Only [] wb (wc.alloc (.cells #[.int .i64 (V.id), .int .i64 (V.kd), .int .i64 (V.sx), .int .i64 (V.sy), .int .i64 (V.sz), .int .i64 (V.ax), .int .i64 (V.ay), .int .i64 (V.az), .int .i64 (V.vx), .int .i64 (V.vy), .int .i64 (V.vz)] 116)) := oc.alloc _
                  refine ⟨HX.out.1.add o oc.size (by simp), SnAt.new _ wc V, HX.out.2.1.only o (by simp), fun k hk => ?_⟩
                  obtain ⟨_, _, _, h3⟩ := HX.out.1.ex
                  rw [o.block k (h3 k (by simp [hk])).2.2 (by simp)]
                  exact HX.out.2.2 k hk
                clear oc HX
                revert HY
                generalize wc.heap.size = ky
                generalize World.alloc wc _ = wd
                intro HY
                have HOK : Hid (Ok1 la U ∧ Ok1 la V ∧ 0 ≤ la ∧ la < lowId F1 T1 ∧ lowId F1 T1 ≤ 1099511627776 ∧ (U.id = lowId F1 T1 ∨ U.id = 0) ∧ (V.id = lowId F1 T1 ∨ V.id = 0) ∧ l.length ≤ 39360 ∧ (U.id = lowId F1 T1 ∨ V.id = lowId F1 T1)) := by
                  have hlow := HD.out.low HL.out
                  have h1 := HD.out.lam
                  have h2 := HD.out.len
                  have h3 := (rightL_ris HF.out).2
                  have h4 := (rightL_ris HT.out).2
                  rw [← HUU.out, ← HVV.out]
                  exact ⟨ok_take HD.out.la0 (HD.out.rf.mono h1), ok_take HD.out.la0 (HD.out.rt.mono h1), HD.out.la0, by omega, hlow.2.2.2.1, takeS_id, takeS_id, by omega, low_some hlow.1⟩
                have HNX : Hid (∀ K' w', RB w kb K' (l ++ chgB la U V) w' → (∀ k ∈ (ownL (.slice (some ⟨g, 0, none⟩) xs.length c9)), k ∈ K') → (∀ k ∈ (ownL (.slice (some ⟨g, 0, none⟩) xs.length c9)), w'.heap[k]? = w4.heap[k]?) → PB w kb (ownL (.slice (some ⟨g, 0, none⟩) xs.length c9)) xs F T (j + 1) (takeL (lowId F1 T1) F1) (takeL (lowId F1 T1) T1) (f - 1) (l ++ chgB la U V) (chgL la U V) (lowId F1 T1) w4 w') := by
                  intro K' w' hr hk hs
                  have hn := (HD.out.low HL.out).1
                  have h1 := HD.out.lam
                  have s := take_shorter hn
                  have := HD.out.next HL.out (by rw [HUU.out, HVV.out]; exact hr) hk hs (chg_len HD.out.la0 (ok_take HD.out.la0 (HD.out.rf.mono h1)) (ok_take HD.out.la0 (HD.out.rt.mono h1)) s.2.1 s.2.2)
                  rw [HUU.out, HVV.out] at this
                  exact this
                clear HD HUU HVV
                cases q with
                | false =>
                  have hv0 : V.id = 0 := by have := HQQ.out; simpa using this
                  have HE : Hid (chgB la U V = wordB 0 la (lowId F1 T1) ∧ chgL la U V = lowId F1 T1) := by
                    have hu0 : U.id = lowId F1 T1 := by have := HOK.out; omega
                    have hq : eqS U V = false := by
                      cases e : eqS U V with
                      | false => rfl
                      | true => have e1 := (eqS_iff U V).1 e; rw [e1] at hu0; have := HOK.out; omega
                    show chgB la U V = _ ∧ chgL la U V = _
                    unfold chgB chgL
                    rw [hq, hu0]
                    simp [hv0]
                  clear hv0
                  go_wp2_with fail
                  refine (putR_calls w kb (ky :: kx :: (ownL (.slice (some ⟨g, 0, none⟩) xs.length c9))) l 0 2 _ HY.out.1 (by omega) (by omega) (by have := HOK.out.2.2.2.2.2.2.2.1; omega)).mono ?_
                  rintro e wq0 ⟨rfl, hr, hs⟩
                  have S0 : Hid (RB w kb (ky :: kx :: (ownL (.slice (some ⟨g, 0, none⟩) xs.length c9))) (l ++ putB 0 2) wq0 ∧ SnAt 116 wq0 ky V ∧ SnAt 116 wq0 kx U ∧ ∀ k ∈ (ownL (.slice (some ⟨g, 0, none⟩) xs.length c9)), wq0.heap[k]? = w4.heap[k]?) := ⟨hr, (hs ky (by simp)).trans HY.out.2.1, (hs kx (by simp)).trans HY.out.2.2.1, fun k hk => (hs k (by simp [hk])).trans (HY.out.2.2.2 k hk)⟩
                  clear hr hs HY 
                  obtain ⟨nn, hnn⟩ : ∃ nn : Nat, (nn : Int) = lowId F1 T1 - la - 1 := ⟨(lowId F1 T1 - la - 1).toNat, by have := HOK.out; omega⟩
                  have HNN : Hid (nn = (lowId F1 T1 - la - 1).toNat ∧ nn < 2 ^ 62) := by have := HOK.out; exact ⟨by omega, by omega⟩
                  have hb0 := HOK.out.2.2.1; have hb1 := HOK.out.2.2.2.1; have hb2 := HOK.out.2.2.2.2.1
                  go_wp2_with fail
                  rw [← hnn]
                  refine (varR_calls w kb (ky :: kx :: (ownL (.slice (some ⟨g, 0, none⟩) xs.length c9))) (l ++ putB 0 2) nn _ S0.out.1 HNN.out.2 (by have := HOK.out.2.2.2.2.2.2.2.1; rw [List.length_append, putB_len]; omega)).mono ?_
                  rintro e wq1 ⟨rfl, hr, hs⟩
                  have S1 : Hid (RB w kb (ky :: kx :: (ownL (.slice (some ⟨g, 0, none⟩) xs.length c9))) (l ++ wordB 0 la (lowId F1 T1)) wq1 ∧ SnAt 116 wq1 ky V ∧ SnAt 116 wq1 kx U ∧ ∀ k ∈ (ownL (.slice (some ⟨g, 0, none⟩) xs.length c9)), wq1.heap[k]? = w4.heap[k]?) := ⟨by unfold wordB; rw [← HNN.out.1, ← List.append_assoc]; exact hr, (hs ky (by simp)).trans S0.out.2.1, (hs kx (by simp)).trans S0.out.2.2.1, fun k hk => (hs k (by simp [hk])).trans (S0.out.2.2.2 k hk)⟩
                  clear hr hs S0 
                  have HFIN : Hid (PB w kb (ownL (.slice (some ⟨g, 0, none⟩) xs.length c9)) xs F T (j + 1) (takeL (lowId F1 T1) F1) (takeL (lowId F1 T1) T1) (f - 1) (l ++ chgB la U V) (chgL la U V) (lowId F1 T1) w4 _) := HNX.out _ _ (by rw [HE.out.1]; first | exact S1.out.1 | (rw [← List.append_assoc]; exact S1.out.1) | (rw [← List.append_assoc, ← List.append_assoc]; exact S1.out.1)) (fun k hk => by simp [hk]) S1.out.2.2.2
                  go_wp2_with fail
                  go_roundg (xs.length - (j + 1))
                  case measure => have := H2.out.2; omega
                  case rel => exact ⟨j + 1, _, _, _, _, _, _, by rw [HE.out.2], by go_num, ⟨by omega, rfl⟩, HFIN⟩
                | true =>
                  have hv0 : V.id = lowId F1 T1 := by have h1 := HQQ.out; have h2 := HOK.out; simp at h1; omega
                  have HV0 : Hid (V.id = lowId F1 T1 ∧ V.id ≠ 0) := ⟨hv0, by have := HOK.out; omega⟩
                  clear hv0
                  have HLW : Hid (∀ k, (wordB k la (lowId F1 T1)).length ≤ 56) := fun k => word_len HOK.out.2.2.1 HOK.out.2.2.2.1 HOK.out.2.2.2.2.1
                  cases p with
                  | false =>
                    have hu0 : U = zs := HOK.out.1.none_ (by have := HPP.out; simpa using this)
                    subst hu0
                    have HE : Hid (chgB la zs V = wordB 1 la (lowId F1 T1) ++ partsB true true true zs V ∧ chgL la zs V = lowId F1 T1) := by
                      have hq : eqS zs V = false := by
                        cases e : eqS zs V with
                        | false => rfl
                        | true => have e1 := (eqS_iff zs V).1 e; exact absurd (by rw [← e1]; rfl) HV0.out.2
                      show chgB la zs V = _ ∧ chgL la zs V = _
                      unfold chgB chgL
                      rw [hq]
                      have hl0 : lowId F1 T1 ≠ 0 := HV0.out.1 ▸ HV0.out.2
                      simp [HV0.out.1, hl0, zs]
                    have HLV : Hid ((vecB (V.sx - 0) (V.sy - 0) (V.sz - 0)).length ≤ 162 ∧ (vecB (V.ax - 0) (V.ay - 0) (V.az - 0)).length ≤ 162) := ⟨vec_len HOK.out.2.1.good.s3 ⟨rfl, rfl, rfl⟩, vec_len HOK.out.2.1.good.a3 ⟨rfl, rfl, rfl⟩⟩
                    go_wp2_with fail
                    refine (putR_calls w kb (ky :: kx :: (ownL (.slice (some ⟨g, 0, none⟩) xs.length c9))) l 1 2 _ HY.out.1 (by omega) (by omega) (by have := HOK.out.2.2.2.2.2.2.2.1; omega)).mono ?_
                    rintro e wq100 ⟨rfl, hr, hs⟩
                    have S100 : Hid (RB w kb (ky :: kx :: (ownL (.slice (some ⟨g, 0, none⟩) xs.length c9))) (l ++ putB 1 2) wq100 ∧ SnAt 116 wq100 ky V ∧ SnAt 116 wq100 kx zs ∧ ∀ k ∈ (ownL (.slice (some ⟨g, 0, none⟩) xs.length c9)), wq100.heap[k]? = w4.heap[k]?) := ⟨hr, (hs ky (by simp)).trans HY.out.2.1, (hs kx (by simp)).trans HY.out.2.2.1, fun k hk => (hs k (by simp [hk])).trans (HY.out.2.2.2 k hk)⟩
                    clear hr hs HY 
                    obtain ⟨nn, hnn⟩ : ∃ nn : Nat, (nn : Int) = lowId F1 T1 - la - 1 := ⟨(lowId F1 T1 - la - 1).toNat, by have := HOK.out; omega⟩
                    have HNN : Hid (nn = (lowId F1 T1 - la - 1).toNat ∧ nn < 2 ^ 62) := by have := HOK.out; exact ⟨by omega, by omega⟩
                    have hb0 := HOK.out.2.2.1; have hb1 := HOK.out.2.2.2.1; have hb2 := HOK.out.2.2.2.2.1
                    go_wp2_with fail
                    rw [← hnn]
                    refine (varR_calls w kb (ky :: kx :: (ownL (.slice (some ⟨g, 0, none⟩) xs.length c9))) (l ++ putB 1 2) nn _ S100.out.1 HNN.out.2 (by have := HOK.out.2.2.2.2.2.2.2.1; rw [List.length_append, putB_len]; omega)).mono ?_
                    rintro e wq101 ⟨rfl, hr, hs⟩
                    have S101 : Hid (RB w kb (ky :: kx :: (ownL (.slice (some ⟨g, 0, none⟩) xs.length c9))) (l ++ wordB 1 la (lowId F1 T1)) wq101 ∧ SnAt 116 wq101 ky V ∧ SnAt 116 wq101 kx zs ∧ ∀ k ∈ (ownL (.slice (some ⟨g, 0, none⟩) xs.length c9)), wq101.heap[k]? = w4.heap[k]?) := ⟨by unfold wordB; rw [← HNN.out.1, ← List.append_assoc]; exact hr, (hs ky (by simp)).trans S100.out.2.1, (hs kx (by simp)).trans S100.out.2.2.1, fun k hk => (hs k (by simp [hk])).trans (S100.out.2.2.2 k hk)⟩
                    clear hr hs S100 
                    have gy1 := S101.out.2.1.off 1
                    simp only [List.getElem?_toArray, List.getElem?_cons_succ, List.getElem?_cons_zero] at gy1
                    obtain ⟨kn, hkn⟩ : ∃ kn : Nat, (kn : Int) = V.kd := ⟨V.kd.toNat, by have := HOK.out.2.1.good.kd; omega⟩
                    have HKN : Hid (kn = V.kd.toNat ∧ kn < 8) := by have := HOK.out.2.1.good.kd; exact ⟨by omega, by omega⟩
                    go_wp2_with fail
                    rw [← hkn]
                    refine (putR_calls w kb (ky :: kx :: (ownL (.slice (some ⟨g, 0, none⟩) xs.length c9))) _ kn 3 _ S101.out.1 (by omega) (by have := HKN.out.2; omega) (by have h1 := HOK.out.2.2.2.2.2.2.2.1; have h2 := HLW.out 1; have h3 := HLV.out; simp only [List.length_append, putB_len, List.length_singleton]; omega)).mono ?_
                    rintro e wq102 ⟨rfl, hr, hs⟩
                    have S102 : Hid (RB w kb (ky :: kx :: (ownL (.slice (some ⟨g, 0, none⟩) xs.length c9))) (l ++ wordB 1 la (lowId F1 T1) ++ putB V.kd.toNat 3) wq102 ∧ SnAt 116 wq102 ky V ∧ SnAt 116 wq102 kx zs ∧ ∀ k ∈ (ownL (.slice (some ⟨g, 0, none⟩) xs.length c9)), wq102.heap[k]? = w4.heap[k]?) := ⟨by rw [← HKN.out.1]; exact hr, (hs ky (by simp)).trans S101.out.2.1, (hs kx (by simp)).trans S101.out.2.2.1, fun k hk => (hs k (by simp [hk])).trans (S101.out.2.2.2 k hk)⟩
                    clear hr hs S101 gy1 hkn
                    have gy2 := S102.out.2.1.off 2
                    have gy3 := S102.out.2.1.off 3
                    have gy4 := S102.out.2.1.off 4
                    simp only [List.getElem?_toArray, List.getElem?_cons_succ, List.getElem?_cons_zero] at gy2 gy3 gy4
                    go_wp2_with fail
                    refine (vecR_calls w kb (ky :: kx :: (ownL (.slice (some ⟨g, 0, none⟩) xs.length c9))) _ _ _ _ _ _ _ _ S102.out.1 HOK.out.2.1.good.s3 ⟨rfl, rfl, rfl⟩ (by have h1 := HOK.out.2.2.2.2.2.2.2.1; have h2 := HLW.out 1; have h3 := HLV.out; simp only [List.length_append, putB_len, List.length_singleton]; omega)).mono ?_
                    rintro e wq103 ⟨rfl, hr, hs⟩
                    have S103 : Hid (RB w kb (ky :: kx :: (ownL (.slice (some ⟨g, 0, none⟩) xs.length c9))) (l ++ wordB 1 la (lowId F1 T1) ++ putB V.kd.toNat 3 ++ vecB (V.sx - 0) (V.sy - 0) (V.sz - 0)) wq103 ∧ SnAt 116 wq103 ky V ∧ SnAt 116 wq103 kx zs ∧ ∀ k ∈ (ownL (.slice (some ⟨g, 0, none⟩) xs.length c9)), wq103.heap[k]? = w4.heap[k]?) := ⟨hr, (hs ky (by simp)).trans S102.out.2.1, (hs kx (by simp)).trans S102.out.2.2.1, fun k hk => (hs k (by simp [hk])).trans (S102.out.2.2.2 k hk)⟩
                    clear hr hs S102 gy2 gy3 gy4
                    have gy5 := S103.out.2.1.off 5
                    have gy6 := S103.out.2.1.off 6
                    have gy7 := S103.out.2.1.off 7
                    simp only [List.getElem?_toArray, List.getElem?_cons_succ, List.getElem?_cons_zero] at gy5 gy6 gy7
                    go_wp2_with fail
                    refine (vecR_calls w kb (ky :: kx :: (ownL (.slice (some ⟨g, 0, none⟩) xs.length c9))) _ _ _ _ _ _ _ _ S103.out.1 HOK.out.2.1.good.a3 ⟨rfl, rfl, rfl⟩ (by have h1 := HOK.out.2.2.2.2.2.2.2.1; have h2 := HLW.out 1; have h3 := HLV.out; simp only [List.length_append, putB_len, List.length_singleton]; omega)).mono ?_
                    rintro e wq104 ⟨rfl, hr, hs⟩
                    have S104 : Hid (RB w kb (ky :: kx :: (ownL (.slice (some ⟨g, 0, none⟩) xs.length c9))) (l ++ wordB 1 la (lowId F1 T1) ++ putB V.kd.toNat 3 ++ vecB (V.sx - 0) (V.sy - 0) (V.sz - 0) ++ vecB (V.ax - 0) (V.ay - 0) (V.az - 0)) wq104 ∧ SnAt 116 wq104 ky V ∧ SnAt 116 wq104 kx zs ∧ ∀ k ∈ (ownL (.slice (some ⟨g, 0, none⟩) xs.length c9)), wq104.heap[k]? = w4.heap[k]?) := ⟨hr, (hs ky (by simp)).trans S103.out.2.1, (hs kx (by simp)).trans S103.out.2.2.1, fun k hk => (hs k (by simp [hk])).trans (S103.out.2.2.2 k hk)⟩
                    clear hr hs S103 gy5 gy6 gy7
                    have gy8 := S104.out.2.1.off 8
                    have gy9 := S104.out.2.1.off 9
                    have gy10 := S104.out.2.1.off 10
                    simp only [List.getElem?_toArray, List.getElem?_cons_succ, List.getElem?_cons_zero] at gy8 gy9 gy10
                    go_wp2_with fail
                    refine (vecR_calls w kb (ky :: kx :: (ownL (.slice (some ⟨g, 0, none⟩) xs.length c9))) _ _ _ _ _ _ _ _ S104.out.1 HOK.out.2.1.good.v3 ⟨rfl, rfl, rfl⟩ (by have h1 := HOK.out.2.2.2.2.2.2.2.1; have h2 := HLW.out 1; have h3 := HLV.out; simp only [List.length_append, putB_len, List.length_singleton]; omega)).mono ?_
                    rintro e wq105 ⟨rfl, hr, hs⟩
                    have S105 : Hid (RB w kb (ky :: kx :: (ownL (.slice (some ⟨g, 0, none⟩) xs.length c9))) (l ++ wordB 1 la (lowId F1 T1) ++ putB V.kd.toNat 3 ++ vecB (V.sx - 0) (V.sy - 0) (V.sz - 0) ++ vecB (V.ax - 0) (V.ay - 0) (V.az - 0) ++ vecB (V.vx - 0) (V.vy - 0) (V.vz - 0)) wq105 ∧ SnAt 116 wq105 ky V ∧ SnAt 116 wq105 kx zs ∧ ∀ k ∈ (ownL (.slice (some ⟨g, 0, none⟩) xs.length c9)), wq105.heap[k]? = w4.heap[k]?) := ⟨hr, (hs ky (by simp)).trans S104.out.2.1, (hs kx (by simp)).trans S104.out.2.2.1, fun k hk => (hs k (by simp [hk])).trans (S104.out.2.2.2 k hk)⟩
                    clear hr hs S104 gy8 gy9 gy10
                    have HFIN : Hid (PB w kb (ownL (.slice (some ⟨g, 0, none⟩) xs.length c9)) xs F T (j + 1) (takeL (lowId F1 T1) F1) (takeL (lowId F1 T1) T1) (f - 1) (l ++ chgB la zs V) (chgL la zs V) (lowId F1 T1) w4 _) := HNX.out _ _ (by rw [HE.out.1]; have hh := S105.out.1; simp only [List.append_assoc, List.append_nil, List.nil_append] at hh ⊢; unfold partsB p4B p2B p1B; simp only [zs, if_true, List.append_assoc] at hh ⊢; exact hh) (fun k hk => by simp [hk]) S105.out.2.2.2
                    go_wp2_with fail
                    go_roundg (xs.length - (j + 1))
                    case measure => have := H2.out.2; omega
                    case rel => exact ⟨j + 1, _, _, _, _, _, _, by rw [HE.out.2], by go_num, ⟨by omega, rfl⟩, HFIN⟩
                  | true =>
                    have hu0 : U.id = lowId F1 T1 := by have h1 := HPP.out; have h2 := HOK.out; simp at h1; omega
                    have HU0 : Hid (U.id = lowId F1 T1 ∧ U.id ≠ 0) := ⟨hu0, by have := HOK.out; omega⟩
                    clear hu0
                    have gy0 := HY.out.2.1.off 0
                    have gy1 := HY.out.2.1.off 1
                    have gy2 := HY.out.2.1.off 2
                    have gy3 := HY.out.2.1.off 3
                    have gy4 := HY.out.2.1.off 4
                    have gy5 := HY.out.2.1.off 5
                    have gy6 := HY.out.2.1.off 6
                    have gy7 := HY.out.2.1.off 7
                    have gy8 := HY.out.2.1.off 8
                    have gy9 := HY.out.2.1.off 9
                    have gy10 := HY.out.2.1.off 10
                    have gx0 := HY.out.2.2.1.off 0
                    have gx1 := HY.out.2.2.1.off 1
                    have gx2 := HY.out.2.2.1.off 2
                    have gx3 := HY.out.2.2.1.off 3
                    have gx4 := HY.out.2.2.1.off 4
                    have gx5 := HY.out.2.2.1.off 5
                    have gx6 := HY.out.2.2.1.off 6
                    have gx7 := HY.out.2.2.1.off 7
                    have gx8 := HY.out.2.2.1.off 8
                    have gx9 := HY.out.2.2.1.off 9
                    have gx10 := HY.out.2.2.1.off 10
                    simp only [List.getElem?_toArray, List.getElem?_cons_succ, List.getElem?_cons_zero] at gy0 gy1 gy2 gy3 gy4 gy5 gy6 gy7 gy8 gy9 gy10 gx0 gx1 gx2 gx3 gx4 gx5 gx6 gx7 gx8 gx9 gx10
                    cases hq : eqS U V with
                    | true =>
                      have HE : Hid (chgB la U V = [] ∧ chgL la U V = la) := by unfold chgB chgL; rw [hq]; exact ⟨rfl, rfl⟩
                      have HFIN : Hid (PB w kb (ownL (.slice (some ⟨g, 0, none⟩) xs.length c9)) xs F T (j + 1) (takeL (lowId F1 T1) F1) (takeL (lowId F1 T1) T1) (f - 1) (l ++ chgB la U V) (chgL la U V) (lowId F1 T1) w4 wd) := HNX.out _ _ (by rw [HE.out.1, List.append_nil]; exact HY.out.1) (fun k hk => by simp [hk]) HY.out.2.2.2
                      go_wp2_with (first | (refine wpList_eqR _ hq rfl (.tmp 128) (.tmp 129) rfl rfl rfl ?_))
                      go_roundg (xs.length - (j + 1))
                      case measure => have := H2.out.2; omega
                      case rel => exact ⟨j + 1, _, _, _, _, _, _, by rw [HE.out.2], by go_num, ⟨by omega, rfl⟩, HFIN⟩
                    | false =>
                      have HLV : Hid ((vecB (V.sx - U.sx) (V.sy - U.sy) (V.sz - U.sz)).length ≤ 162 ∧ (vecB (V.ax - U.ax) (V.ay - U.ay) (V.az - U.az)).length ≤ 162) := ⟨vec_len HOK.out.2.1.good.s3 HOK.out.1.good.s3, vec_len HOK.out.2.1.good.a3 HOK.out.1.good.a3⟩
                      have HQ0 : Hid (eqS U V = false) := hq
                      go_wp2_with (first | (refine wpList_eqR _ hq rfl (.tmp 128) (.tmp 129) rfl rfl rfl ?_))
                      refine (putR_calls w kb (ky :: kx :: (ownL (.slice (some ⟨g, 0, none⟩) xs.length c9))) l 2 2 _ HY.out.1 (by omega) (by omega) (by have := HOK.out.2.2.2.2.2.2.2.1; omega)).mono ?_
                      rintro e wq300 ⟨rfl, hr, hs⟩
                      have S300 : Hid (RB w kb (ky :: kx :: (ownL (.slice (some ⟨g, 0, none⟩) xs.length c9))) (l ++ putB 2 2) wq300 ∧ SnAt 116 wq300 ky V ∧ SnAt 116 wq300 kx U ∧ ∀ k ∈ (ownL (.slice (some ⟨g, 0, none⟩) xs.length c9)), wq300.heap[k]? = w4.heap[k]?) := ⟨hr, (hs ky (by simp)).trans HY.out.2.1, (hs kx (by simp)).trans HY.out.2.2.1, fun k hk => (hs k (by simp [hk])).trans (HY.out.2.2.2 k hk)⟩
                      clear hr hs HY 
                      obtain ⟨nn, hnn⟩ : ∃ nn : Nat, (nn : Int) = lowId F1 T1 - la - 1 := ⟨(lowId F1 T1 - la - 1).toNat, by have := HOK.out; omega⟩
                      have HNN : Hid (nn = (lowId F1 T1 - la - 1).toNat ∧ nn < 2 ^ 62) := by have := HOK.out; exact ⟨by omega, by omega⟩
                      have hb0 := HOK.out.2.2.1; have hb1 := HOK.out.2.2.2.1; have hb2 := HOK.out.2.2.2.2.1
                      go_wp2_with fail
                      rw [← hnn]
                      refine (varR_calls w kb (ky :: kx :: (ownL (.slice (some ⟨g, 0, none⟩) xs.length c9))) (l ++ putB 2 2) nn _ S300.out.1 HNN.out.2 (by have := HOK.out.2.2.2.2.2.2.2.1; rw [List.length_append, putB_len]; omega)).mono ?_
                      rintro e wq301 ⟨rfl, hr, hs⟩
                      have S301 : Hid (RB w kb (ky :: kx :: (ownL (.slice (some ⟨g, 0, none⟩) xs.length c9))) (l ++ wordB 2 la (lowId F1 T1)) wq301 ∧ SnAt 116 wq301 ky V ∧ SnAt 116 wq301 kx U ∧ ∀ k ∈ (ownL (.slice (some ⟨g, 0, none⟩) xs.length c9)), wq301.heap[k]? = w4.heap[k]?) := ⟨by unfold wordB; rw [← HNN.out.1, ← List.append_assoc]; exact hr, (hs ky (by simp)).trans S300.out.2.1, (hs kx (by simp)).trans S300.out.2.2.1, fun k hk => (hs k (by simp [hk])).trans (S300.out.2.2.2 k hk)⟩
                      clear hr hs S300 
                      clear hq gy0 gy1 gy2 gy3 gy4 gy5 gy6 gy7 gy8 gy9 gy10 gx0 gx1 gx2 gx3 gx4 gx5 gx6 gx7 gx8 gx9 gx10
                      obtain ⟨b2, h2⟩ : ∃ b, neqV U.ax U.ay U.az V.ax V.ay V.az = b := ⟨_, rfl⟩
                      obtain ⟨b1, h1⟩ : ∃ b, neqV U.vx U.vy U.vz V.vx V.vy V.vz = b := ⟨_, rfl⟩
                      obtain ⟨b4, h4⟩ : ∃ b, d4 U V = b := ⟨_, rfl⟩
                      have HB : Hid (d4 U V = b4 ∧ d2 U V = b2 ∧ d1 U V = b1) := ⟨h4, h2, h1⟩
                      clear h4
                      have HE : Hid (chgB la U V = wordB 2 la (lowId F1 T1) ++ putB (pN b4 b2 b1).toNat 3 ++ partsB b4 b2 b1 U V ∧ chgL la U V = lowId F1 T1) := by
                        show chgB la U V = _ ∧ chgL la U V = _
                        unfold chgB chgL
                        rw [HQ0.out, HB.out.1, HB.out.2.1, HB.out.2.2]
                        simp [HV0.out.2, HU0.out.2]
                        exact ⟨by rw [HV0.out.1], HV0.out.1⟩
                      have HL4 : Hid ((if b4 then p4B U V else []).length ≤ 165) := by
                        have h3 := HLV.out.1
                        show _ ≤ _
                        split
                        · unfold p4B; rw [List.length_append, putB_len]; omega
                        · exact Nat.zero_le _
                      have HL2 : Hid ((if b2 then p2B U V else []).length ≤ 162) := by
                        have h3 := HLV.out.2
                        show _ ≤ _
                        split
                        · exact h3
                        · exact Nat.zero_le _
                      go_upto_region 38 with fail
                      go_cut [20] from 106 to 223 (fun s20 wc => s20 = .bool b4 ∧ wc = wq301)
                      case first =>
                        have gy1 := S301.out.2.1.off 1
                        have gy2 := S301.out.2.1.off 2
                        have gy3 := S301.out.2.1.off 3
                        have gy4 := S301.out.2.1.off 4
                        have gx1 := S301.out.2.2.1.off 1
                        have gx2 := S301.out.2.2.1.off 2
                        have gx3 := S301.out.2.2.1.off 3
                        have gx4 := S301.out.2.2.1.off 4
                        simp only [List.getElem?_toArray, List.getElem?_cons_succ, List.getElem?_cons_zero] at gy1 gy2 gy3 gy4 gx1 gx2 gx3 gx4
                        cases h4 : neqV U.sx U.sy U.sz V.sx V.sy V.sz with
                        | true =>
                          have e4 : b4 = true := by rw [← HB.out.1]; unfold d4; rw [h4]; rfl
                          go_wp2_with (first | (refine wpList_neqV2 _ h4 rfl (.tmp 163) (.tmp 165) rfl rfl rfl ?_))
                          go_meet
                          case rel => exact ⟨by rw [e4], rfl⟩
                        | false =>
                          have e4 : b4 = (U.kd != V.kd) := by rw [← HB.out.1]; unfold d4; rw [h4]; rfl
                          have E4 : Hid (b4 = (U.kd != V.kd)) := e4
                          clear e4
                          go_wp2_with (first | (refine wpList_neqV2 _ h4 rfl (.tmp 163) (.tmp 165) rfl rfl rfl ?_))
                          go_meet
                          case rel => exact ⟨by rw [E4.out], rfl⟩
                      case rest =>
                        obtain ⟨rfl, rfl⟩ := hcut
                        go_wp2_with fail
                        refine (yes_calls w kb (ky :: kx :: (ownL (.slice (some ⟨g, 0, none⟩) xs.length c9))) _ b4 _ S301.out.1 (by have h1 := HOK.out.2.2.2.2.2.2.2.1; have h2 := HLW.out 2; have h3 := HLV.out; have h5 := HL4.out; have h6 := HL2.out; simp only [List.length_append, putB_len, List.length_singleton]; omega)).mono ?_
                        rintro e wq302 ⟨rfl, hr, hs⟩
                        have S302 : Hid (RB w kb (ky :: kx :: (ownL (.slice (some ⟨g, 0, none⟩) xs.length c9))) (l ++ wordB 2 la (lowId F1 T1) ++ [if b4 then 1 else 0]) wq302 ∧ SnAt 116 wq302 ky V ∧ SnAt 116 wq302 kx U ∧ ∀ k ∈ (ownL (.slice (some ⟨g, 0, none⟩) xs.length c9)), wq302.heap[k]? = w4.heap[k]?) := ⟨hr, (hs ky (by simp)).trans S301.out.2.1, (hs kx (by simp)).trans S301.out.2.2.1, fun k hk => (hs k (by simp [hk])).trans (S301.out.2.2.2 k hk)⟩
                        clear hr hs S301
                        have gy5 := S302.out.2.1.off 5
                        have gy6 := S302.out.2.1.off 6
                        have gy7 := S302.out.2.1.off 7
                        have gx5 := S302.out.2.2.1.off 5
                        have gx6 := S302.out.2.2.1.off 6
                        have gx7 := S302.out.2.2.1.off 7
                        simp only [List.getElem?_toArray, List.getElem?_cons_succ, List.getElem?_cons_zero] at gy5 gy6 gy7 gx5 gx6 gx7
                        go_wp2_with (first | (refine wpList_neqV2 _ h2 rfl (.tmp 179) (.tmp 181) rfl rfl rfl ?_))
                        refine (yes_calls w kb (ky :: kx :: (ownL (.slice (some ⟨g, 0, none⟩) xs.length c9))) _ b2 _ S302.out.1 (by have h1 := HOK.out.2.2.2.2.2.2.2.1; have h2 := HLW.out 2; have h3 := HLV.out; have h5 := HL4.out; have h6 := HL2.out; simp only [List.length_append, putB_len, List.length_singleton]; omega)).mono ?_
                        rintro e wq303 ⟨rfl, hr, hs⟩
                        have S303 : Hid (RB w kb (ky :: kx :: (ownL (.slice (some ⟨g, 0, none⟩) xs.length c9))) (l ++ wordB 2 la (lowId F1 T1) ++ [if b4 then 1 else 0] ++ [if b2 then 1 else 0]) wq303 ∧ SnAt 116 wq303 ky V ∧ SnAt 116 wq303 kx U ∧ ∀ k ∈ (ownL (.slice (some ⟨g, 0, none⟩) xs.length c9)), wq303.heap[k]? = w4.heap[k]?) := ⟨hr, (hs ky (by simp)).trans S302.out.2.1, (hs kx (by simp)).trans S302.out.2.2.1, fun k hk => (hs k (by simp [hk])).trans (S302.out.2.2.2 k hk)⟩
                        clear hr hs S302 gy5 gy6 gy7 gx5 gx6 gx7
                        have gy8 := S303.out.2.1.off 8
                        have gy9 := S303.out.2.1.off 9
                        have gy10 := S303.out.2.1.off 10
                        have gx8 := S303.out.2.2.1.off 8
                        have gx9 := S303.out.2.2.1.off 9
                        have gx10 := S303.out.2.2.1.off 10
                        simp only [List.getElem?_toArray, List.getElem?_cons_succ, List.getElem?_cons_zero] at gy8 gy9 gy10 gx8 gx9 gx10
                        go_wp2_with (first | (refine wpList_neqV2 _ h1 rfl (.tmp 186) (.tmp 188) rfl rfl rfl ?_))
                        refine (yes_calls w kb (ky :: kx :: (ownL (.slice (some ⟨g, 0, none⟩) xs.length c9))) _ b1 _ S303.out.1 (by have h1 := HOK.out.2.2.2.2.2.2.2.1; have h2 := HLW.out 2; have h3 := HLV.out; have h5 := HL4.out; have h6 := HL2.out; simp only [List.length_append, putB_len, List.length_singleton]; omega)).mono ?_
                        rintro e wq304 ⟨rfl, hr, hs⟩
                        have S304 : Hid (RB w kb (ky :: kx :: (ownL (.slice (some ⟨g, 0, none⟩) xs.length c9))) (l ++ wordB 2 la (lowId F1 T1) ++ [if b4 then 1 else 0] ++ [if b2 then 1 else 0] ++ [if b1 then 1 else 0]) wq304 ∧ SnAt 116 wq304 ky V ∧ SnAt 116 wq304 kx U ∧ ∀ k ∈ (ownL (.slice (some ⟨g, 0, none⟩) xs.length c9)), wq304.heap[k]? = w4.heap[k]?) := ⟨hr, (hs ky (by simp)).trans S303.out.2.1, (hs kx (by simp)).trans S303.out.2.2.1, fun k hk => (hs k (by simp [hk])).trans (S303.out.2.2.2 k hk)⟩
                        clear hr hs S303 gy8 gy9 gy10 gx8 gx9 gx10
                        go_upto_if 191 with fail
                        go_cut [20] from 106 to 223 (fun s20 wc => s20 = .bool b4 ∧ Hid (RB w kb (ky :: kx :: (ownL (.slice (some ⟨g, 0, none⟩) xs.length c9))) (l ++ wordB 2 la (lowId F1 T1) ++ [if b4 then 1 else 0] ++ [if b2 then 1 else 0] ++ [if b1 then 1 else 0] ++ (if b4 then p4B U V else [])) wc ∧ SnAt 116 wc ky V ∧ SnAt 116 wc kx U ∧ ∀ k ∈ (ownL (.slice (some ⟨g, 0, none⟩) xs.length c9)), wc.heap[k]? = w4.heap[k]?))
                        case first =>
                          cases b4 with
                          | true =>
                            have gy1 := S304.out.2.1.off 1
                            simp only [List.getElem?_toArray, List.getElem?_cons_succ, List.getElem?_cons_zero] at gy1
                            obtain ⟨kn, hkn⟩ : ∃ kn : Nat, (kn : Int) = V.kd := ⟨V.kd.toNat, by have := HOK.out.2.1.good.kd; omega⟩
                            have HKN : Hid (kn = V.kd.toNat ∧ kn < 8) := by have := HOK.out.2.1.good.kd; exact ⟨by omega, by omega⟩
                            go_wp2_with fail
                            rw [← hkn]
                            refine (putR_calls w kb (ky :: kx :: (ownL (.slice (some ⟨g, 0, none⟩) xs.length c9))) _ kn 3 _ S304.out.1 (by omega) (by have := HKN.out.2; omega) (by have h1 := HOK.out.2.2.2.2.2.2.2.1; have h2 := HLW.out 2; have h3 := HLV.out; have h5 := HL4.out; have h6 := HL2.out; simp only [List.length_append, putB_len, List.length_singleton]; omega)).mono ?_
                            rintro e wq305 ⟨rfl, hr, hs⟩
                            have S305 : Hid (RB w kb (ky :: kx :: (ownL (.slice (some ⟨g, 0, none⟩) xs.length c9))) (l ++ wordB 2 la (lowId F1 T1) ++ [if true then 1 else 0] ++ [if b2 then 1 else 0] ++ [if b1 then 1 else 0] ++ putB V.kd.toNat 3) wq305 ∧ SnAt 116 wq305 ky V ∧ SnAt 116 wq305 kx U ∧ ∀ k ∈ (ownL (.slice (some ⟨g, 0, none⟩) xs.length c9)), wq305.heap[k]? = w4.heap[k]?) := ⟨(by rw [← HKN.out.1]; exact hr), (hs ky (by simp)).trans S304.out.2.1, (hs kx (by simp)).trans S304.out.2.2.1, fun k hk => (hs k (by simp [hk])).trans (S304.out.2.2.2 k hk)⟩
                            clear hr hs S304 hkn gy1
                            have gy2 := S305.out.2.1.off 2
                            have gy3 := S305.out.2.1.off 3
                            have gy4 := S305.out.2.1.off 4
                            have gx2 := S305.out.2.2.1.off 2
                            have gx3 := S305.out.2.2.1.off 3
                            have gx4 := S305.out.2.2.1.off 4
                            simp only [List.getElem?_toArray, List.getElem?_cons_succ, List.getElem?_cons_zero] at gy2 gy3 gy4 gx2 gx3 gx4
                            go_wp2_with fail
                            refine (vecR_calls w kb (ky :: kx :: (ownL (.slice (some ⟨g, 0, none⟩) xs.length c9))) _ _ _ _ _ _ _ _ S305.out.1 HOK.out.2.1.good.s3 HOK.out.1.good.s3 (by have h1 := HOK.out.2.2.2.2.2.2.2.1; have h2 := HLW.out 2; have h3 := HLV.out; have h5 := HL4.out; have h6 := HL2.out; simp only [List.length_append, putB_len, List.length_singleton]; omega)).mono ?_
                            rintro e wq306 ⟨rfl, hr, hs⟩
                            have S306 : Hid (RB w kb (ky :: kx :: (ownL (.slice (some ⟨g, 0, none⟩) xs.length c9))) (l ++ wordB 2 la (lowId F1 T1) ++ [if true then 1 else 0] ++ [if b2 then 1 else 0] ++ [if b1 then 1 else 0] ++ (if true then p4B U V else [])) wq306 ∧ SnAt 116 wq306 ky V ∧ SnAt 116 wq306 kx U ∧ ∀ k ∈ (ownL (.slice (some ⟨g, 0, none⟩) xs.length c9)), wq306.heap[k]? = w4.heap[k]?) := ⟨(by unfold p4B; simp only [if_true, ← List.append_assoc] at hr ⊢; exact hr), (hs ky (by simp)).trans S305.out.2.1, (hs kx (by simp)).trans S305.out.2.2.1, fun k hk => (hs k (by simp [hk])).trans (S305.out.2.2.2 k hk)⟩
                            clear hr hs S305 gy2 gy3 gy4 gx2 gx3 gx4
                            go_wp2_with fail
                            go_meet
                            case rel => exact ⟨rfl, S306⟩
                          | false =>
                            have S306 : Hid (RB w kb (ky :: kx :: (ownL (.slice (some ⟨g, 0, none⟩) xs.length c9))) (l ++ wordB 2 la (lowId F1 T1) ++ [if false then 1 else 0] ++ [if b2 then 1 else 0] ++ [if b1 then 1 else 0] ++ (if false then p4B U V else [])) wq304 ∧ SnAt 116 wq304 ky V ∧ SnAt 116 wq304 kx U ∧ ∀ k ∈ (ownL (.slice (some ⟨g, 0, none⟩) xs.length c9)), wq304.heap[k]? = w4.heap[k]?) := ⟨by have := S304.out.1; simpa using this, S304.out.2⟩
                            go_wp2_with fail
                            go_meet
                            case rel => exact ⟨rfl, S306⟩
                        case rest =>
                          obtain ⟨rfl, S4⟩ := hcut
                          clear S304
                          generalize wc = wq307 at S4 ⊢
                          have gy5 := S4.out.2.1.off 5
                          have gy6 := S4.out.2.1.off 6
                          have gy7 := S4.out.2.1.off 7
                          have gx5 := S4.out.2.2.1.off 5
                          have gx6 := S4.out.2.2.1.off 6
                          have gx7 := S4.out.2.2.1.off 7
                          simp only [List.getElem?_toArray, List.getElem?_cons_succ, List.getElem?_cons_zero] at gy5 gy6 gy7 gx5 gx6 gx7
                          go_upto_if 205 with (first | (refine wpList_neqV2 _ h2 rfl (.tmp 202) (.tmp 204) rfl rfl rfl ?_))
                          simp only [Act.put, List.setIfInBounds_toArray, List.set_cons_zero, List.set_cons_succ, List.getElem_toArray, List.getElem_cons_succ, List.getElem_cons_zero]
                          go_cut [20] from 106 to 223 (fun s20 wc => s20 = .bool b4 ∧ Hid (RB w kb (ky :: kx :: (ownL (.slice (some ⟨g, 0, none⟩) xs.length c9))) (l ++ wordB 2 la (lowId F1 T1) ++ [if b4 then 1 else 0] ++ [if b2 then 1 else 0] ++ [if b1 then 1 else 0] ++ (if b4 then p4B U V else []) ++ (if b2 then p2B U V else [])) wc ∧ SnAt 116 wc ky V ∧ SnAt 116 wc kx U ∧ ∀ k ∈ (ownL (.slice (some ⟨g, 0, none⟩) xs.length c9)), wc.heap[k]? = w4.heap[k]?))
                          case first =>
                            cases b2 with
                            | true =>
                              go_wp2_with fail
                              refine (vecR_calls w kb (ky :: kx :: (ownL (.slice (some ⟨g, 0, none⟩) xs.length c9))) _ _ _ _ _ _ _ _ S4.out.1 HOK.out.2.1.good.a3 HOK.out.1.good.a3 (by have h1 := HOK.out.2.2.2.2.2.2.2.1; have h2 := HLW.out 2; have h3 := HLV.out; have h5 := HL4.out; have h6 := HL2.out; simp only [List.length_append, putB_len, List.length_singleton]; omega)).mono ?_
                              rintro e wq308 ⟨rfl, hr, hs⟩
                              have S5 : Hid (RB w kb (ky :: kx :: (ownL (.slice (some ⟨g, 0, none⟩) xs.length c9))) (l ++ wordB 2 la (lowId F1 T1) ++ [if b4 then 1 else 0] ++ [if true then 1 else 0] ++ [if b1 then 1 else 0] ++ (if b4 then p4B U V else []) ++ (if true then p2B U V else [])) wq308 ∧ SnAt 116 wq308 ky V ∧ SnAt 116 wq308 kx U ∧ ∀ k ∈ (ownL (.slice (some ⟨g, 0, none⟩) xs.length c9)), wq308.heap[k]? = w4.heap[k]?) := ⟨(by unfold p2B; simp only [if_true] at hr ⊢; exact hr), (hs ky (by simp)).trans S4.out.2.1, (hs kx (by simp)).trans S4.out.2.2.1, fun k hk => (hs k (by simp [hk])).trans (S4.out.2.2.2 k hk)⟩
                              clear hr hs
                              go_wp2_with fail
                              go_meet
                              case rel => exact ⟨rfl, S5⟩
                            | false =>
                              have S5 : Hid (RB w kb (ky :: kx :: (ownL (.slice (some ⟨g, 0, none⟩) xs.length c9))) (l ++ wordB 2 la (lowId F1 T1) ++ [if b4 then 1 else 0] ++ [if false then 1 else 0] ++ [if b1 then 1 else 0] ++ (if b4 then p4B U V else []) ++ (if false then p2B U V else [])) wq307 ∧ SnAt 116 wq307 ky V ∧ SnAt 116 wq307 kx U ∧ ∀ k ∈ (ownL (.slice (some ⟨g, 0, none⟩) xs.length c9)), wq307.heap[k]? = w4.heap[k]?) := ⟨by have := S4.out.1; simpa using this, S4.out.2⟩
                              go_wp2_with fail
                              go_meet
                              case rel => exact ⟨rfl, S5⟩
                          case rest =>
                            obtain ⟨rfl, S5⟩ := hcut
                            clear S4 gy5 gy6 gy7 gx5 gx6 gx7
                            generalize wc = wq309 at S5 ⊢
                            have gy8 := S5.out.2.1.off 8
                            have gy9 := S5.out.2.1.off 9
                            have gy10 := S5.out.2.1.off 10
                            have gx8 := S5.out.2.2.1.off 8
                            have gx9 := S5.out.2.2.1.off 9
                            have gx10 := S5.out.2.2.1.off 10
                            simp only [List.getElem?_toArray, List.getElem?_cons_succ, List.getElem?_cons_zero] at gy8 gy9 gy10 gx8 gx9 gx10
                            go_upto_if 216 with (first | (refine wpList_neqV2 _ h1 rfl (.tmp 213) (.tmp 215) rfl rfl rfl ?_))
                            simp only [Act.put, List.setIfInBounds_toArray, List.set_cons_zero, List.set_cons_succ, List.getElem_toArray, List.getElem_cons_succ, List.getElem_cons_zero]
                            cases b1 with
                            | true =>
                              go_wp2_with fail
                              refine (vecR_calls w kb (ky :: kx :: (ownL (.slice (some ⟨g, 0, none⟩) xs.length c9))) _ _ _ _ _ _ _ _ S5.out.1 HOK.out.2.1.good.v3 HOK.out.1.good.v3 (by have h1 := HOK.out.2.2.2.2.2.2.2.1; have h2 := HLW.out 2; have h3 := HLV.out; have h5 := HL4.out; have h6 := HL2.out; simp only [List.length_append, putB_len, List.length_singleton]; omega)).mono ?_
                              rintro e wq310 ⟨rfl, hr, hs⟩
                              have S6 : Hid (RB w kb (ky :: kx :: (ownL (.slice (some ⟨g, 0, none⟩) xs.length c9))) (l ++ wordB 2 la (lowId F1 T1) ++ [if b4 then 1 else 0] ++ [if b2 then 1 else 0] ++ [if true then 1 else 0] ++ (if b4 then p4B U V else []) ++ (if b2 then p2B U V else []) ++ (if true then p1B U V else [])) wq310 ∧ SnAt 116 wq310 ky V ∧ SnAt 116 wq310 kx U ∧ ∀ k ∈ (ownL (.slice (some ⟨g, 0, none⟩) xs.length c9)), wq310.heap[k]? = w4.heap[k]?) := ⟨(by unfold p1B; simp only [if_true] at hr ⊢; exact hr), (hs ky (by simp)).trans S5.out.2.1, (hs kx (by simp)).trans S5.out.2.2.1, fun k hk => (hs k (by simp [hk])).trans (S5.out.2.2.2 k hk)⟩
                              clear hr hs
                              have HFIN : Hid (PB w kb (ownL (.slice (some ⟨g, 0, none⟩) xs.length c9)) xs F T (j + 1) (takeL (lowId F1 T1) F1) (takeL (lowId F1 T1) T1) (f - 1) (l ++ chgB la U V) (chgL la U V) (lowId F1 T1) w4 wq310) := HNX.out _ _ (by rw [HE.out.1, ← yes3]; have hh := S6.out.1; unfold partsB; simp only [List.append_assoc] at hh ⊢; exact hh) (fun k hk => by simp [hk]) S6.out.2.2.2
                              go_wp2_with fail
                              go_roundg (xs.length - (j + 1))
                              case measure => have := H2.out.2; omega
                              case rel => exact ⟨j + 1, _, _, _, _, _, _, by rw [HE.out.2], by go_num, ⟨by omega, rfl⟩, HFIN⟩
                            | false =>
                              have S6 : Hid (RB w kb (ky :: kx :: (ownL (.slice (some ⟨g, 0, none⟩) xs.length c9))) (l ++ wordB 2 la (lowId F1 T1) ++ [if b4 then 1 else 0] ++ [if b2 then 1 else 0] ++ [if false then 1 else 0] ++ (if b4 then p4B U V else []) ++ (if b2 then p2B U V else []) ++ (if false then p1B U V else [])) wq309 ∧ SnAt 116 wq309 ky V ∧ SnAt 116 wq309 kx U ∧ ∀ k ∈ (ownL (.slice (some ⟨g, 0, none⟩) xs.length c9)), wq309.heap[k]? = w4.heap[k]?) := ⟨by have := S5.out.1; simpa using this, S5.out.2⟩
                              have HFIN : Hid (PB w kb (ownL (.slice (some ⟨g, 0, none⟩) xs.length c9)) xs F T (j + 1) (takeL (lowId F1 T1) F1) (takeL (lowId F1 T1) T1) (f - 1) (l ++ chgB la U V) (chgL la U V) (lowId F1 T1) w4 wq309) := HNX.out _ _ (by rw [HE.out.1, ← yes3]; have hh := S6.out.1; unfold partsB; simp only [List.append_assoc] at hh ⊢; exact hh) (fun k hk => by simp [hk]) S6.out.2.2.2
                              go_wp2_with fail
                              go_roundg (xs.length - (j + 1))
                              case measure => have := H2.out.2; omega
                              case rel => exact ⟨j + 1, _, _, _, _, _, _, by rw [HE.out.2], by go_num, ⟨by omega, rfl⟩, HFIN⟩
              · have hjl : ¬ (j : Int) < (xs.length : Int) := by omega
                have HZ : Hid (RB w kb [] (deltaM (F.length + T.length) F T 0) wr ∧ (deltaM (F.length + T.length) F T 0).length ≤ 39360) := by
                  have h1 := HD.out.rest
                  have h2 : j = xs.length := by have := H2.out.1; omega
                  rw [h2, List.drop_length] at h1
                  have hn : F1 = [] ∧ T1 = [] := by
                    refine Classical.byContradiction fun hn => ?_
                    have h3 := HD.out.fuel
                    cases f with
                    | zero =>
                      have e1 : F1.length = 0 := by omega
                      have e2 : T1.length = 0 := by omega
                      exact hn ⟨List.length_eq_zero_iff.1 e1, List.length_eq_zero_iff.1 e2⟩
                    | succ f => rw [idsM_step hn] at h1; cases h1
                  have h4 := HD.out.all
                  have h5 := HD.out.len
                  have h6 := (rightL_ris HF.out).2
                  have h7 := (rightL_ris HT.out).2
                  rw [hn.1, hn.2, deltaM_nil, List.append_nil] at h4
                  rw [← h4]
                  exact ⟨HD.out.rb.less (by simp), by omega⟩
                clear HD hj H2
                go_wp2_with fail
                refine (putR_calls w kb [] _ 3 2 _ HZ.out.1 (by omega) (by omega) (by have := HZ.out.2; omega)).mono ?_
                rintro e wq ⟨rfl, hr, _⟩
                have HW : Hid (RB w kb [] (deltaT F T) wq) := hr
                clear hr
                obtain ⟨vb, hbt, _, _⟩ := HW.out.ex
                have HBT : Hid (BtAt wq kb vb (deltaT F T)) := hbt
                obtain ⟨ab, cb, eb, _, _⟩ := hbt.sl.shape
                have hc0 := hbt.c0
                clear hbt
                subst eb
                by_cases hl : 31872 < (deltaT F T).length
                · have d1 : decide (31872 < ((deltaT F T).length : Int)) = true := decide_eq_true (by omega)
                  have HLL : Hid (31872 < (deltaT F T).length) := hl
                  clear hl
                  go_wp2_with fail
                  exact bodyPost_ret (v := .tuple #[.slice none 0 0, .int .i64 4]) (by simp [results, Try.results16, go_sem]) rfl ⟨HW.out.only, Or.inr (Or.inl ⟨HF.out, HT.out, HLL.out, rfl⟩)⟩
                · have d1 : decide (31872 < ((deltaT F T).length : Int)) = false := decide_eq_false (by omega)
                  have HLL : Hid (¬ 31872 < (deltaT F T).length) := hl
                  clear hl
                  go_wp2_with fail
                  refine (refBytes_calls _ _ _ HBT.out.sl (delta_bits F T) (by have := HLL.out; omega)).mono ?_
                  rintro e wz ⟨vz, rfl, hz, oz⟩
                  have HZZ : Hid (SlB wz vz (bytesOf (deltaT F T)) ∧ Only [] w wz) := ⟨hz, HW.out.only.trans oz⟩
                  clear hz oz
                  go_wp2_with fail
                  exact bodyPost_ret (v := .tuple #[vz, .int .i64 0]) (by simp [results, Try.results16, go_sem]) rfl ⟨HZZ.out.2, Or.inr (Or.inr ⟨HF.out, HT.out, by have := HLL.out; omega, vz, rfl, HZZ.out.1⟩)⟩
end Go.Proofs.Ytedhdmahdioboaa
