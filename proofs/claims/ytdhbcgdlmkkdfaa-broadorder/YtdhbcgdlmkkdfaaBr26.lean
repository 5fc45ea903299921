/- gyrekeep.BroadOrder answers true: whatever the boxes, the fat and the turn. -/
import Derived.Test.YtdhbcgdlmkkdfaaBr25
namespace Go.Proofs.Ytdhbcgdlmkkdfaa
open Go.ChangeShapes Go.WideShapes Go.ChangeAt Go.RowKit
set_option linter.unusedVariables false
set_option linter.unusedSimpArgs false

/-- The boxes of a slice, as they lie. -/
def BoxesAt (w : World) (a : Option Addr) (n : Nat) (Bf : Nat → Bx) : Prop := ∀ j, j < n → ∃ b o, a = some ⟨b, o, none⟩ ∧ w.cell? ⟨b, o + j * 6, none⟩ = some (.int .i64 ((Bf j).x0)) ∧ w.cell? ⟨b, o + j * 6 + 1, none⟩ = some (.int .i64 ((Bf j).x1)) ∧ w.cell? ⟨b, o + j * 6 + 2, none⟩ = some (.int .i64 ((Bf j).x2)) ∧ w.cell? ⟨b, o + j * 6 + 3, none⟩ = some (.int .i64 ((Bf j).x3)) ∧ w.cell? ⟨b, o + j * 6 + 4, none⟩ = some (.int .i64 ((Bf j).x4)) ∧ w.cell? ⟨b, o + j * 6 + 5, none⟩ = some (.int .i64 ((Bf j).x5))
theorem old_cell {w w' : World} (o : Only [] w w') {a : Addr} {v : Value} (h : w.cell? a = some v) : w'.cell? a = some v := by
  rw [World.cell?_of_block (w := w) (o.block a.block (World.block_lt_of_cell? w a h) (by simp))]; exact h
theorem BoxesAt.only {w w' : World} {a : Option Addr} {n : Nat} {Bf : Nat → Bx} (h : BoxesAt w a n Bf) (o : Only [] w w') : BoxesAt w' a n Bf := by
  intro j hj
  obtain ⟨b, of, e, h0, h1, h2, h3, h4, h5⟩ := h j hj
  exact ⟨b, of, e, old_cell o h0, old_cell o h1, old_cell o h2, old_cell o h3, old_cell o h4, old_cell o h5⟩

theorem SlPairs.le {w : World} {v : Value} {P : List (Int × Int)} (h : SlPairs w v P) : P.length ≤ 9223372036854775807 := by
  obtain ⟨_, ⟨_, h2⟩ | ⟨g, cap, cur, _, _, _, hn, hc, _⟩⟩ := h
  · omega
  · unfold maxLen at hc; omega
theorem order_long (a : Option Addr) (n c : Nat) (fat turn : Int) (w : World) (hn : 50 < n) : Calls Try.prog 3 #[.slice a n c, .int .i64 fat, .int .i64 turn] w fun e w' => e = .returned (.bool true) ∧ Only [] w w' := by
  have t0 : decide ((50 : Int) < (n : Int)) = true := by simp; omega
  go_enter Try.func3, Try.ntmps3
  go_wp2_with fail
  go_ret
  exact ⟨rfl, Only.refl _ _⟩

set_option maxRecDepth 100000 in
set_option maxHeartbeats 1000000 in
theorem order_short (a : Option Addr) (n c : Nat) (Bf : Nat → Bx) (fat turn : Int) (w : World) (hn : n ≤ 50) (hb : BoxesAt w a n Bf) : Calls Try.prog 3 #[.slice a n c, .int .i64 fat, .int .i64 turn] w fun e w' => e = .returned (.bool true) ∧ Only [] w w' := by
  have t0 : decide ((50 : Int) < (n : Int)) = false := by simp; omega
  have HB : Hid (BoxesAt w a n Bf) := hb
  clear hb
  go_enter Try.func3, Try.ntmps3
  go_wp2_with fail
  refine (hung_calls _).mono ?_
  rintro e w1 ⟨rfl, o1⟩
  have O1 : Hid (Only [] w w1) := o1
  clear o1 t0
  go_wp2_with fail
  refine (pick_calls fat 1000 _ (by omega) (by omega)).mono ?_
  rintro e w1' ⟨fa, rfl, hf0, hf1, rfl⟩
  go_wp2_with fail
  refine (new_calls fa _ hf0 (by omega)).mono ?_
  rintro e w2 ⟨ta, rfl, ha2, hta, o2⟩
  have H2 : Hid (TreeIs w2 ta fa [ta] [] ∧ w.heap.size ≤ ta ∧ Only [] w w2) := ⟨ha2, Nat.le_trans O1.out.size hta, O1.out.trans o2⟩
  clear ha2 hta o2 O1 hf0 hf1
  go_wp2_with fail
  refine (new_calls 0 _ (by omega) (by omega)).mono ?_
  rintro e w3 ⟨tb, rfl, hb3, htb, o3⟩
  have H3 : Hid (Two w w3 ta fa tb 0 [] []) := ⟨⟨[ta], [tb], H2.out.1.only o3 (by simp), hb3, by have := H2.out.1.lt ta (by simp); simp; omega, by simp [H2.out.2.1], by simp; exact Nat.le_trans H2.out.2.2.size htb⟩, H2.out.2.2.trans o3⟩
  clear hb3 htb o3 H2
  go_wp2_with fail
  go_loopg [11] n (fun k idx wr => ∃ j : Nat, ∃ Ma Mb, idx = .int .i64 (j : Int) ∧ k = n - j ∧ j ≤ n ∧ Two w wr ta fa tb 0 Ma Mb ∧ At Bf (fun _ => true) j Ma ∧ At Bf (fun _ => false) j Mb)
  case atStart => exact ⟨0, [], [], rfl, rfl, Nat.zero_le _, H3.out, fun p => by simp, fun p => by simp⟩
  case round =>
    obtain ⟨j, Ma, Mb, rfl, hk, hjn, htw, hA, hBB⟩ := hrel
    have HI : Hid (gk = n - j ∧ Two w wr ta fa tb 0 Ma Mb ∧ At Bf (fun _ => true) j Ma ∧ At Bf (fun _ => false) j Mb) := ⟨hk, htw, hA, hBB⟩
    clear hk htw hA hBB H3
    by_cases hj : j < n
    · obtain ⟨b, o, ha, c0, c1, c2, c3, c4, c5⟩ := (HB.out.only HI.out.2.1.only) j hj
      subst ha
      have hjl : (j : Int) < (n : Int) := by omega
      go_wp2_with fail
      refine (two_put HI.out.2.1 (j : Int) (Bf j) (in64_of (by omega) (by omega))).mono ?_
      rintro e w4 ⟨rfl, ht4⟩
      have H4 : Hid (Two w w4 ta fa tb 0 (putM Ma j (Bf j)) Mb) := ht4
      clear ht4 c0 c1 c2 c3 c4 c5
      obtain ⟨b', o', ha', c0, c1, c2, c3, c4, c5⟩ := (HB.out.only H4.out.only) j hj
      injection ha' with ha'; injection ha' with e1 e2; subst e1 e2
      go_wp2_with fail
      refine (two_put H4.out.swap ((j : Int) + 100) (Bf j) (in64_of (by omega) (by omega))).mono ?_
      rintro e w5 ⟨rfl, ht5⟩
      have H5 : Hid (Two w w5 tb 0 ta fa (putM Mb ((j : Int) + 100) (Bf j)) (putM Ma j (Bf j))) := ht5
      clear ht5 c0 c1 c2 c3 c4 c5
      go_wp2_with fail
      go_roundg (n - (j + 1))
      case measure => have := HI.out.1; omega
      case rel =>
        refine ⟨j + 1, _, _, by go_num, rfl, by omega, H5.out.swap, ?_, ?_⟩
        · simpa using HI.out.2.2.1.first (two_keys HI.out.2.1).1 (by omega)
        · simpa using HI.out.2.2.2.first (two_keys HI.out.2.1.swap).1 (by omega)
    · have hjl : ¬ (j : Int) < (n : Int) := by omega
      obtain rfl : j = n := by omega
      have H6 : Hid (Two w wr ta fa tb 0 Ma Mb ∧ At Bf (fun _ => true) j Ma ∧ At Bf (fun _ => false) j Mb) := HI.out.2
      clear HI hj
      go_wp2_with fail
      go_loopg [12] j (fun k idx wr => ∃ i : Nat, ∃ Ma Mb mv, idx = .int .i64 (i : Int) ∧ k = j - i ∧ i ≤ j ∧ Two w wr ta fa tb 0 Ma Mb ∧ At Bf (fun _ => true) j Ma ∧ At Bf mv j Mb)
      case atStart => exact ⟨0, Ma, Mb, _, rfl, rfl, Nat.zero_le _, H6.out⟩
      case round =>
        obtain ⟨i, Mc, Md, mv, rfl, hk, hij, htw, hA, hBB⟩ := hrel
        have HI : Hid (gk = j - i ∧ Two w wr ta fa tb 0 Mc Md ∧ At Bf (fun _ => true) j Mc ∧ At Bf mv j Md) := ⟨hk, htw, hA, hBB⟩
        clear hk htw hA hBB H6 hjl hjn
        by_cases hi : i < j
        · have hil : (i : Int) < (j : Int) := by omega
          have hj0 : (0 : Int) < (j : Int) := by omega
          go_wp2_with fail
          refine (pick_calls turn 50 _ (by omega) (by omega)).mono ?_
          rintro e w7 ⟨p, rfl, hp0, hp1, rfl⟩
          obtain ⟨m, hm⟩ : ∃ m : Nat, ((i : Int) * 7 + p) % (j : Int) = (m : Int) := ⟨_, (Int.toNat_of_nonneg (Int.emod_nonneg _ (by omega))).symm⟩
          have hmj : m < j := by have := Int.emod_lt_of_pos ((i : Int) * 7 + p) hj0; omega
          have hml : (m : Int) < (j : Int) := by omega
          obtain ⟨b, o, ha, c0, c1, c2, c3, c4, c5⟩ := (HB.out.only HI.out.2.1.only) m hmj
          subst ha
          have hlA := HI.out.2.2.1.len (two_keys HI.out.2.1).1
          go_wp2_with fail
          simp only [hm]
          clear hm hp0 hp1 hil
          by_cases hr : rightC (Bf m) = 0
          · refine (two_put HI.out.2.1 (m : Int) (Bf m) (in64_of (by omega) (by omega))).mono ?_
            rw [errV_nil (show putC Mc m (Bf m) = 0 by rw [putC_small (by omega)]; exact hr)]
            rintro e w8 ⟨rfl, ht8⟩
            have H8 : Hid (Two w w8 ta fa tb 0 (putM Mc m (Bf m)) Md) := ht8
            have HR : Hid (rightC (Bf m) = 0) := hr
            clear ht8 c0 c1 c2 c3 c4 c5 hr hlA
            go_wp2_with fail
            refine (two_del H8.out.swap ((m : Int) + 100) (in64_of (by omega) (by omega))).mono ?_
            rintro e w9 ⟨rfl, ht9⟩
            have H9 : Hid (Two w w9 tb 0 ta fa (del Md ((m : Int) + 100)) (putM Mc m (Bf m))) := ht9
            clear ht9
            obtain ⟨b', o', ha', c0, c1, c2, c3, c4, c5⟩ := (HB.out.only H9.out.only) m hmj
            injection ha' with ha'; injection ha' with e1 e2; subst e1 e2
            go_wp2_with fail
            refine (two_put H9.out (m : Int) (Bf m) (in64_of (by omega) (by omega))).mono ?_
            rintro e w10 ⟨rfl, ht10⟩
            have H10 : Hid (Two w w10 tb 0 ta fa (putM (del Md ((m : Int) + 100)) m (Bf m)) (putM Mc m (Bf m))) := ht10
            clear ht10 c0 c1 c2 c3 c4 c5
            go_wp2_with fail
            go_roundg (j - (i + 1))
            case measure => have := HI.out.1; omega
            case rel => exact ⟨i + 1, _, _, moved mv m, by go_num, rfl, by omega, H10.out.swap, HI.out.2.2.1.again (two_keys HI.out.2.1).1 hn hmj, HI.out.2.2.2.move (two_keys HI.out.2.1.swap).1 hn hmj⟩
          · refine (two_put HI.out.2.1 (m : Int) (Bf m) (in64_of (by omega) (by omega))).mono ?_
            rw [errV_not (show putC Mc m (Bf m) ≠ 0 by rw [putC_small (by omega)]; exact hr)]
            rintro e w8 ⟨rfl, ht8⟩
            have H8 : Hid (Two w w8 ta fa tb 0 (putM Mc m (Bf m)) Md) := ht8
            clear ht8 c0 c1 c2 c3 c4 c5 hr hlA
            go_wp2_with fail
            go_roundg (j - (i + 1))
            case measure => have := HI.out.1; omega
            case rel => exact ⟨i + 1, _, _, mv, by go_num, rfl, by omega, H8.out, HI.out.2.2.1.again (two_keys HI.out.2.1).1 hn hmj, HI.out.2.2.2⟩
        · have hil : ¬ (i : Int) < (j : Int) := by omega
          have H6 : Hid (Two w wr ta fa tb 0 Mc Md ∧ At Bf (fun _ => true) j Mc ∧ At Bf mv j Md) := HI.out.2
          clear HI hi hij
          go_wp2_with fail
          clear hil
          go_loopg [14] j (fun k idx wr => ∃ i : Nat, ∃ Ma Mb mv, idx = .int .i64 (i : Int) ∧ k = j - i ∧ i ≤ j ∧ Two w wr ta fa tb 0 Ma Mb ∧ At Bf (fun _ => true) j Ma ∧ At Bf mv j Mb ∧ (∀ x, x < i → mv x = true))
          case atStart => exact ⟨0, Mc, Md, mv, rfl, rfl, Nat.zero_le _, H6.out.1, H6.out.2.1, H6.out.2.2, fun x hx => by omega⟩
          case round =>
            obtain ⟨m, Me, Mf, mw, rfl, hk, hmj, htw, hA, hBB, hmv⟩ := hrel
            have HI : Hid (gk = j - m ∧ Two w wr ta fa tb 0 Me Mf ∧ At Bf (fun _ => true) j Me ∧ At Bf mw j Mf ∧ (∀ x, x < m → mw x = true)) := ⟨hk, htw, hA, hBB, hmv⟩
            clear hk htw hA hBB hmv H6
            by_cases hm : m < j
            · have hml : (m : Int) < (j : Int) := by omega
              go_wp2_with fail
              refine (two_del HI.out.2.1.swap ((m : Int) + 100) (in64_of (by omega) (by omega))).mono ?_
              rintro e w9 ⟨rfl, ht9⟩
              have H9 : Hid (Two w w9 tb 0 ta fa (del Mf ((m : Int) + 100)) Me) := ht9
              clear ht9
              obtain ⟨b, o, ha, c0, c1, c2, c3, c4, c5⟩ := (HB.out.only H9.out.only) m hm
              subst ha
              have hlA : (del Mf ((m : Int) + 100)).length < 60 := by have h1 := HI.out.2.2.2.1.len (two_keys HI.out.2.1.swap).1; have := List.length_filter_le (fun p : Int × Bx => p.1 != (m : Int) + 100) Mf; unfold del; omega
              go_wp2_with fail
              by_cases hr : rightC (Bf m) = 0
              · refine (two_put H9.out (m : Int) (Bf m) (in64_of (by omega) (by omega))).mono ?_
                rw [errV_nil (show putC (del Mf ((m : Int) + 100)) m (Bf m) = 0 by rw [putC_small hlA]; exact hr)]
                rintro e w10 ⟨rfl, ht10⟩
                have H10 : Hid (Two w w10 tb 0 ta fa (putM (del Mf ((m : Int) + 100)) m (Bf m)) Me) := ht10
                clear ht10 c0 c1 c2 c3 c4 c5 hr hlA
                obtain ⟨b', o', ha', c0, c1, c2, c3, c4, c5⟩ := (HB.out.only H10.out.only) m hm
                injection ha' with ha'; injection ha' with e1 e2; subst e1 e2
                go_wp2_with fail
                refine (two_put H10.out.swap (m : Int) (Bf m) (in64_of (by omega) (by omega))).mono ?_
                rintro e w11 ⟨rfl, ht11⟩
                have H11 : Hid (Two w w11 ta fa tb 0 (putM Me m (Bf m)) (putM (del Mf ((m : Int) + 100)) m (Bf m))) := ht11
                clear ht11 c0 c1 c2 c3 c4 c5
                go_wp2_with fail
                go_roundg (j - (m + 1))
                case measure => have := HI.out.1; omega
                case rel => exact ⟨m + 1, _, _, moved mw m, by go_num, rfl, by omega, H11.out, HI.out.2.2.1.again (two_keys HI.out.2.1).1 hn hm, HI.out.2.2.2.1.move (two_keys HI.out.2.1.swap).1 hn hm, fun x hx => by unfold moved; split; rfl; exact HI.out.2.2.2.2 x (by omega)⟩
              · refine (two_put H9.out (m : Int) (Bf m) (in64_of (by omega) (by omega))).mono ?_
                rw [errV_not (show putC (del Mf ((m : Int) + 100)) m (Bf m) ≠ 0 by rw [putC_small hlA]; exact hr)]
                rintro e w10 ⟨rfl, ht10⟩
                have H10 : Hid (Two w w10 tb 0 ta fa (putM (del Mf ((m : Int) + 100)) m (Bf m)) Me) := ht10
                clear ht10 c0 c1 c2 c3 c4 c5 hr hlA
                go_wp2_with fail
                go_roundg (j - (m + 1))
                case measure => have := HI.out.1; omega
                case rel => exact ⟨m + 1, _, _, moved mw m, by go_num, rfl, by omega, H10.out.swap, HI.out.2.2.1, HI.out.2.2.2.1.move (two_keys HI.out.2.1.swap).1 hn hm, fun x hx => by unfold moved; split; rfl; exact HI.out.2.2.2.2 x (by omega)⟩
            · have hml : ¬ (m : Int) < (j : Int) := by omega
              have H6 : Hid (Two w wr ta fa tb 0 Me Mf ∧ Me.Perm Mf) := ⟨HI.out.2.1, HI.out.2.2.1.perm HI.out.2.2.2.1 (fun x hx => HI.out.2.2.2.2 x (by omega)) (two_keys HI.out.2.1).1 (two_keys HI.out.2.1.swap).1⟩
              clear HI hm hmj
              go_wp2_with fail
              clear hml
              refine (two_pairs H6.out.1).mono ?_
              rintro e w12 ⟨v1, rfl, hs1, ht12, o12, hn12⟩
              have H12 : Hid (SlPairs w12 v1 (pairsM Me) ∧ Two w w12 ta fa tb 0 Me Mf) := ⟨hs1, ht12⟩
              clear hs1 ht12 o12 hn12
              go_wp2_with fail
              refine (two_pairs H12.out.2.swap).mono ?_
              rintro e w13 ⟨v2, rfl, hs2, ht13, o13, hn13⟩
              obtain ⟨a1, c1, hv1, hsh1⟩ := (H12.out.1.kept o13 (by simp)).shape
              obtain ⟨a2, c2, hv2, hsh2⟩ := hs2.shape
              rw [← pairsM_perm H6.out.2] at hv2 hsh2
              subst hv1 hv2
              have H13 : Hid (Only [] w w13) := ht13.only
              have hPl := H12.out.1.le
              generalize pairsM Me = P at hsh1 hsh2 H12 hPl ⊢
              have HS : Hid ((∀ j (hj : j < P.length), ∃ g, a1 = some ⟨g, 0, none⟩ ∧ w13.cell? ⟨g, j * 2, none⟩ = some (.int .i64 (P[j].1)) ∧ w13.cell? ⟨g, j * 2 + 1, none⟩ = some (.int .i64 (P[j].2))) ∧ (∀ j (hj : j < P.length), ∃ g, a2 = some ⟨g, 0, none⟩ ∧ w13.cell? ⟨g, j * 2, none⟩ = some (.int .i64 (P[j].1)) ∧ w13.cell? ⟨g, j * 2 + 1, none⟩ = some (.int .i64 (P[j].2)))) := ⟨hsh1, hsh2⟩
              clear hsh1 hsh2 hs2 ht13 o13 hn13 H12 H6 HB
              go_wp2_with fail
              go_loopg [17] P.length (fun k idx wr => ∃ x : Nat, idx = .int .i64 (x : Int) ∧ k = P.length - x ∧ x ≤ P.length ∧ Only [] w13 wr)
              case atStart => exact ⟨0, rfl, rfl, Nat.zero_le _, Only.refl _ _⟩
              case round =>
                obtain ⟨x, rfl, hk, hxl, hO⟩ := hrel
                have HI : Hid (gk = P.length - x ∧ Only [] w13 wr) := ⟨hk, hO⟩
                clear hk hO
                by_cases hx : x < P.length
                · obtain ⟨g1, ha1, d0, d1⟩ := HS.out.1 x hx
                  obtain ⟨g2, ha2, f0, f1⟩ := HS.out.2 x hx
                  subst ha1 ha2
                  have d0 := old_cell HI.out.2 d0
                  have d1 := old_cell HI.out.2 d1
                  have f0 := old_cell HI.out.2 f0
                  have f1 := old_cell HI.out.2 f1
                  generalize P[x].1 = u1 at d0 f0
                  generalize P[x].2 = u2 at d1 f1
                  have heq := pair_equal u1 u2 u1 u2
                  simp only [beq_self_eq_true, Bool.and_true] at heq
                  have hxi : (x : Int) < (P.length : Int) := by omega
                  go_wp2_with fail
                  go_quiet (fail)
                  go_wp2_with fail
                  go_roundg (P.length - (x + 1))
                  case measure => have := HI.out.1; omega
                  case rel => exact ⟨x + 1, by go_num, rfl, by omega, HI.out.2.trans (Only.drewN _ _)⟩
                · have hxi : ¬ (x : Int) < (P.length : Int) := by omega
                  go_wp2_with fail
                  go_ret
                  exact ⟨rfl, H13.out.trans HI.out.2⟩
end Go.Proofs.Ytdhbcgdlmkkdfaa
