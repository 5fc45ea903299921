/- gyrelaw.ClientPlays: its walk. -/
import Derived.Test.YtedhdmahdioboaaClG
import Derived.Lib.SmallJoins
import Derived.Carry
import Derived.Deep.Slices
import Derived.WalkKit
import Derived.ProofKit
import Derived.OpenShut
namespace Go.Proofs.Ytedhdmahdioboaa
open Go.ChangeShapes Go.WideShapes Go.ChangeAt Go.RowKit
set_option linter.unusedVariables false
set_option linter.unusedSimpArgs false
variable {ora : Ora}

set_option maxRecDepth 100000 in
set_option maxHeartbeats 0 in
theorem clientPlays_calls (al : Option Addr) (c : Nat) (S : List Sd) (w : World) (h : SdAt w al S) (hl : S.length ≤ 60) : Calls Try.prog 4 #[.slice al S.length c] w fun e w' => e = .returned (.bool true) ∧ Only [] w w' := by
  obtain ⟨ora⟩ := ora_ex
  have HB : Hid (SdAt w al S) := h
  have h1 : ¬ (60 : Int) < (S.length : Int) := by omega
  have h2 : decide ((60 : Int) < (S.length : Int)) = false := decide_eq_false h1
  clear h
  go_enter Try.func4, Try.ntmps4
  go_wp2_with fail
  refine (cnew_calls w).mono ?_
  rintro e w1 ⟨x, mv, b, rfl, hx, hmv, hcl, hmap, o1⟩
  have H1 : Hid (w.heap.size ≤ x ∧ w.heap.size ≤ mv ∧ ClAt w1 x (some mv) 0 0 0 0 none ∧ MapV w1 (some mv) [(0, .slice b 0 0)] ∧ Only [] w w1) := ⟨hx, hmv, hcl, hmap, o1⟩
  clear hx hmv hcl hmap o1
  go_wp2_with fail
  refine (refNew_calls w1).mono ?_
  rintro e w2 ⟨y, yv, rfl, hy, hyv, hcl, hmap, o2⟩
  have H2 : Hid (Duo w 1 x y w2) := ⟨_, _, _, _, _, _, _, _, _, _, DC.start H1.out.1 H1.out.2.1 H1.out.2.2.1 H1.out.2.2.2.1 H1.out.2.2.2.2 hy hyv hcl hmap o2 (Or.inr trivial)⟩
  clear hy hyv hcl hmap o2 H1
  go_wp2_with fail
  go_loopg [5] S.length (fun k s5 wr => ∃ i : Nat, s5 = .int .i64 (i : Int) ∧ Hid (i ≤ S.length ∧ k = S.length - i) ∧ Hid (Duo w (i + 1) x y wr))
  case atStart => exact ⟨0, rfl, ⟨by omega, rfl⟩, H2⟩
  case round =>
    obtain ⟨i, rfl, HI, HD⟩ := hrel
    by_cases hi : i < S.length
    · have hil : (i : Int) < (S.length : Int) := by omega
      obtain ⟨g, o, at_, ct, ab, cb, hal, ⟨z0, z1, z2, z3, z4, z5, z6⟩, hsv, hby, hnil, hsm, hba⟩ := HB.out i hi
      have on := HD.out.on
      replace z0 := on.cell z0 (by simp); replace z1 := on.cell z1 (by simp); replace z2 := on.cell z2 (by simp); replace z3 := on.cell z3 (by simp); replace z4 := on.cell z4 (by simp); replace z5 := on.cell z5 (by simp); replace z6 := on.cell z6 (by simp)
      obtain ⟨q, hq⟩ : ∃ q, S[i] = q := ⟨_, rfl⟩
      rw [hq] at z0 z1 z2 z3 z4 z5 z6 hsv hby hnil hsm hba
      have HQ : Hid (SvAt w (.slice at_ q.tv.length ct) q.tv ∧ ByAt w ab q.by_ ∧ (ab = none → q.by_ = [] ∧ cb = 0) ∧ (∀ c ∈ q.by_, c < 256) ∧ In64V q.ba) := ⟨hsv, hby, hnil, hsm, hba⟩
      subst hal
      clear hq hsv hby hnil hsm hba on
      go_upto_region 11 with fail
      have H3 : Hid _ := S7At.new wr q (.slice at_ q.tv.length ct) (.slice ab q.by_.length cb)
      clear z0 z1 z2 z3 z4 z5 z6
      revert H3
      generalize wr.heap.size = ks
      generalize World.alloc wr _ = w3
      intro H3
      have HD3 : Hid (Duo w (i + 1) x y w3) := HD.out.keep H3.out.2
      obtain ⟨z0, z1, z2, z3, z4, z5, z6⟩ := H3.out.1.cells
      by_cases hn1 : 80 < q.tv.length
      · have t1 : decide ((80 : Int) < (q.tv.length : Int)) = true := decide_eq_true (by omega)
        clear hn1
        go_wp2_with fail
        exact bodyPost_ret (v := .bool true) (by simp [results, Try.results4, go_sem]) rfl ⟨rfl, HD3.out.on⟩
      by_cases hn2 : 300 < q.by_.length
      · have t1 : decide ((80 : Int) < (q.tv.length : Int)) = false := decide_eq_false (by omega)
        have t2 : decide ((300 : Int) < (q.by_.length : Int)) = true := decide_eq_true (by omega)
        clear hn1 hn2
        go_wp2_with fail
        exact bodyPost_ret (v := .bool true) (by simp [results, Try.results4, go_sem]) rfl ⟨rfl, HD3.out.on⟩
      have t1 : decide ((80 : Int) < (q.tv.length : Int)) = false := decide_eq_false (by omega)
      have t2 : decide ((300 : Int) < (q.by_.length : Int)) = false := decide_eq_false (by omega)
      have HF0 : Hid (FedB w w3 ab cb q.by_) := FedB.arg HQ.out.2.1 HQ.out.2.2.1 (by omega) HQ.out.2.2.2.1 HD3.out.on
      obtain ⟨an, han⟩ : ∃ an, q.any = an := ⟨_, rfl⟩
      rw [han] at z6
      go_upto_if 47 with fail
      clear t1 t2
      go_cut [7] from 24 to 159 (fun s7 wx => ∃ ab cb Lb, s7 = .slice ab Lb.length cb ∧ Hid (FedB w wx ab cb Lb ∧ Only [] w3 wx))
      case first =>
        cases an with
        | true =>
          go_wp2_with fail
          go_meet
          case rel => exact ⟨ab, cb, q.by_, rfl, HF0.out, Only.refl _ _⟩
        | false =>
          obtain ⟨E, mv, mp, J1, K1, yv, vg, J2, K2, nw, hd⟩ := HD3.out
          obtain ⟨fv, ok, F, hF, hFl, hlk⟩ := hd.b.base HQ.out.2.2.2.2
          have hlkn : ∀ n, _ := fun n => hlk _ (hd.b.vm.only (only_drewN w3 n) (by simp))
          obtain ⟨y0, y1, y2⟩ := hd.b.cl.cells
          have HF : Hid (SvAt w3 fv F ∧ F.length ≤ 121) := ⟨hF, hFl⟩
          clear hlk hF hFl hd
          go_upto_region 15 with fail
          go_quiet (fail)
          clear hlkn y0 y1 y2
          obtain ⟨w4, hw4⟩ : ∃ w4, w4 = w3.drewN nq := ⟨_, rfl⟩
          rw [← hw4]
          have H4 : Hid (Only [] w3 w4 ∧ S7At w4 ks q (.slice at_ q.tv.length ct) (.slice ab q.by_.length cb)) := ⟨by rw [hw4]; exact only_drewN w3 nq, by rw [hw4]; exact H3.out.1.only (only_drewN w3 nq) (by simp)⟩
          clear hw4 z0 z1 z2 z3 z4 z5 z6
          obtain ⟨z0, z1, z2, z3, z4, z5, z6⟩ := H4.out.2.cells
          have HT4 : Hid (SvAt w4 (.slice at_ q.tv.length ct) q.tv) := (HQ.out.1.only HD3.out.on).only H4.out.1
          go_wp2_with fail
          refine (seenG_calls q.tv (.slice at_ q.tv.length ct) w4 HT4.out (by omega)).mono ?_
          rintro e w5 ⟨v5, rfl, hown5, o5⟩
          have H5 : Hid (Only [] w3 w5 ∧ SvAt w5 v5 q.tv ∧ SvAt w5 fv F ∧ S7At w5 ks q (.slice at_ q.tv.length ct) (.slice ab q.by_.length cb)) := ⟨H4.out.1.trans o5, (own_sv hown5).1, HF.out.1.only (H4.out.1.trans o5), H4.out.2.only o5 (by simp)⟩
          clear hown5 o5 z0 z1 z2 z3 z4 z5 z6
          go_wp2_with fail
          refine (refDelta_calls F q.tv fv v5 w5 H5.out.2.2.1 H5.out.2.1 (by have := HF.out.2; omega) (by omega)).mono ?_
          rintro e w6 ⟨o6, hcase⟩
          have H6 : Hid (Only [] w3 w6 ∧ S7At w6 ks q (.slice at_ q.tv.length ct) (.slice ab q.by_.length cb) ∧ FedB w w6 ab cb q.by_) := ⟨H5.out.1.trans o6, H5.out.2.2.2.only o6 (by simp), HF0.out.keep (H5.out.1.trans o6)⟩
          clear o6
          rcases hcase with ⟨_, rfl⟩ | ⟨_, _, _, rfl⟩ | ⟨_, _, hle, vd, rfl, hsl⟩
          · cases ok with
            | false =>
              go_wp2_with fail
              go_meet
              case rel => exact ⟨ab, cb, q.by_, rfl, H6.out.2.2, H6.out.1⟩
            | true =>
              go_wp2_with fail
              go_meet
              case rel => exact ⟨ab, cb, q.by_, rfl, H6.out.2.2, H6.out.1⟩
          · cases ok with
            | false =>
              go_wp2_with fail
              go_meet
              case rel => exact ⟨ab, cb, q.by_, rfl, H6.out.2.2, H6.out.1⟩
            | true =>
              go_wp2_with fail
              go_meet
              case rel => exact ⟨ab, cb, q.by_, rfl, H6.out.2.2, H6.out.1⟩
          · cases ok with
            | false =>
              go_wp2_with fail
              go_meet
              case rel => exact ⟨ab, cb, q.by_, rfl, H6.out.2.2, H6.out.1⟩
            | true =>
              obtain ⟨ad, cd, rfl, hby, hnil⟩ := ownB_at hsl
              have HSL : Hid (ByAt w6 ad (bytesOf (deltaT F q.tv)) ∧ (ad = none → bytesOf (deltaT F q.tv) = [] ∧ cd = 0) ∧ (bytesOf (deltaT F q.tv)).length ≤ 3984 ∧ (bytesOf (deltaT F q.tv)).length ≤ cd) := ⟨hby, hnil, by rw [bytesOf_len]; omega, own_le hsl⟩
              obtain ⟨z0, z1, z2, z3, z4, z5, z6⟩ := H6.out.2.1.cells
              have HSM : Hid (∀ c ∈ bytesOf (deltaT F q.tv), c < 256) := bytesOf_small (delta_bits F q.tv)
              clear hsl hby hnil hle
              generalize bytesOf (deltaT F q.tv) = D at *
              obtain ⟨q1, hq1, he1⟩ := remN q.mn 5 (by omega) (by omega)
              have e5 : ((5 : Nat) : Int) = 5 := rfl
              rw [e5] at he1
              obtain ⟨n, hn⟩ : ∃ n, n = max 1 q1 := ⟨_, rfl⟩
              have hn1 : 1 ≤ n := by omega
              have hn2 : n ≤ 4 := by omega
              go_upto_region 18 with fail
              go_cut [12] from 71 to 159 (fun s12 wx => s12 = .int .i64 (n : Int) ∧ Hid (w6 = wx))
              case first =>
                by_cases hq : 1 < q1
                · have hq' : (1 : Int) < (q1 : Int) := by omega
                  have HE : Hid (n = q1) := by show n = q1; omega
                  clear hn hq hn1 hn2
                  go_wp2_with fail
                  go_meet
                  case rel => exact ⟨by rw [HE.out], rfl⟩
                · have hq' : ¬ (1 : Int) < (q1 : Int) := by omega
                  have HE : Hid (n = 1) := by show n = 1; omega
                  clear hn hq hn1 hn2
                  go_wp2_with fail
                  go_meet
                  case rel => exact ⟨by rw [HE.out]; rfl, rfl⟩
              case rest =>
              obtain ⟨rfl, HWX⟩ := hcut
              have hwx := HWX.out
              subst hwx
              clear he1 e5 hq1 hn
              obtain ⟨k, hk, hek⟩ := remN q.ix n (by omega) (by omega)
              have hun : IntKind.u64.wrap (n : Int) = (n : Int) := by show (n : Int) % _ = _; exact Int.emod_eq_of_lt (by omega) (show (n : Int) < 18446744073709551616 by omega)
              have hnz : ¬ (n : Int) = 0 := by omega
              have hnb : ((n : Int) == 0) = false := by simpa using hnz
              have hD := HSL.out.2.2.1
              obtain ⟨sz, hsz⟩ : ∃ sz, sz = (D.length + n - 1) / n := ⟨_, rfl⟩
              have htd : ((D.length + n - 1 : Nat) : Int).tdiv (n : Int) = (sz : Int) := by rw [hsz]; rfl
              go_upto_region 20 with fail
              simp only [hek]
              clear hek hun z0 z1 z2 z3 z4 z5 z6
              go_upto_region 21 with fail
              have hdv : ((D.length : Int) + (n : Int) - 1) / (n : Int) = (sz : Int) := by
                rw [show (D.length : Int) + (n : Int) - 1 = ((D.length + n - 1 : Nat) : Int) by omega, hsz]
                rfl
              simp only [hdv]
              have hszl : sz ≤ 3990 := by
                have := Nat.div_le_self (D.length + n - 1) n
                omega
              obtain ⟨l0, hl0⟩ : ∃ l0, k * sz = l0 := ⟨_, rfl⟩
              obtain ⟨l1, hl1⟩ : ∃ l1, (k + 1) * sz = l1 := ⟨_, rfl⟩
              have hb0 : l0 ≤ 4 * 3990 := by rw [← hl0]; exact Nat.mul_le_mul (by omega) hszl
              have h01 : l1 = l0 + sz := by rw [← hl0, ← hl1, Nat.add_mul, Nat.one_mul]
              have hw0 : (k : Int) * (sz : Int) = (l0 : Int) := by rw [← hl0]; exact (Int.natCast_mul k sz).symm
              have hw1 : ((k : Int) + 1) * (sz : Int) = (l1 : Int) := by rw [← hl1, Int.natCast_mul]; rfl
              have HL : Hid (l0 ≤ l1 ∧ D.length ≤ cd) := ⟨by omega, HSL.out.2.2.2⟩
              have hb1 : l1 ≤ 20000 := by omega
              clear htd hdv hsz hl0 hl1 h01 hnz hnb
              go_cut [10] from 91 to 159 (fun s10 wx => s10 = .slice (fromA ad cd (min D.length l0)) (min D.length l1 - min D.length l0) (cd - min D.length l0) ∧ Hid (w6 = wx))
              case first =>
                by_cases a0 : l0 < D.length
                · by_cases a1 : l1 < D.length
                  · have a0' : (l0 : Int) < (D.length : Int) := by omega
                    have a1' : (l1 : Int) < (D.length : Int) := by omega
                    have HE : Hid (min D.length l0 = l0 ∧ min D.length l1 = l1) := ⟨by omega, by omega⟩
                    have HC : Hid (l0 ≤ l1 ∧ l1 ≤ cd) := by have := HL.out; exact ⟨by omega, by omega⟩
                    go_wp2_with (first | (refine wpList_midB rfl (.tmp 91) (.tmp 97) (.tmp 104) ad D.length cd l0 l1 rfl rfl rfl rfl HC.out.1 HC.out.2 ?_))
                    go_meet
                    case rel => exact ⟨by rw [HE.out.1, HE.out.2], rfl⟩
                  · have a0' : (l0 : Int) < (D.length : Int) := by omega
                    have a1' : ¬ (l1 : Int) < (D.length : Int) := by omega
                    have HE : Hid (min D.length l0 = l0 ∧ min D.length l1 = D.length) := ⟨by omega, by omega⟩
                    have HC : Hid (l0 ≤ D.length ∧ D.length ≤ cd) := by have := HL.out; exact ⟨by omega, by omega⟩
                    go_wp2_with (first | (refine wpList_midB rfl (.tmp 91) (.tmp 97) (.tmp 104) ad D.length cd l0 D.length rfl rfl rfl rfl HC.out.1 HC.out.2 ?_))
                    go_meet
                    case rel => exact ⟨by rw [HE.out.1, HE.out.2], rfl⟩
                · have a0' : ¬ (l0 : Int) < (D.length : Int) := by omega
                  have a1' : ¬ (l1 : Int) < (D.length : Int) := by have := HL.out.1; omega
                  have HE : Hid (min D.length l0 = D.length ∧ min D.length l1 = D.length) := by have := HL.out.1; exact ⟨by omega, by omega⟩
                  have HC : Hid (D.length ≤ D.length ∧ D.length ≤ cd) := ⟨Nat.le_refl _, HL.out.2⟩
                  go_wp2_with (first | (refine wpList_midB rfl (.tmp 91) (.tmp 97) (.tmp 104) ad D.length cd D.length D.length rfl rfl rfl rfl HC.out.1 HC.out.2 ?_))
                  go_meet
                  case rel => exact ⟨by rw [HE.out.1, HE.out.2]; simp, rfl⟩
              case rest =>
              obtain ⟨rfl, HWX2⟩ := hcut
              have hwx := HWX2.out
              subst hwx
              obtain ⟨lo, hlo⟩ : ∃ lo, min D.length l0 = lo := ⟨_, rfl⟩
              obtain ⟨hi_, hhi⟩ : ∃ hi_, min D.length l1 = hi_ := ⟨_, rfl⟩
              rw [hlo, hhi]
              have hlh : lo ≤ hi_ ∧ hi_ ≤ D.length := by have := HL.out.1; omega
              have hlen : ((D.drop lo).take (hi_ - lo)).length = hi_ - lo := by rw [List.length_take, List.length_drop]; omega
              have HD' : Hid (ByAt w6 (fromA ad cd lo) ((D.drop lo).take (hi_ - lo)) ∧ (∀ c ∈ (D.drop lo).take (hi_ - lo), c < 256) ∧ ((D.drop lo).take (hi_ - lo)).length ≤ 100000) := ⟨(HSL.out.1.drop HSL.out.2.2.2).take _, fun c hc => HSM.out c (List.mem_of_mem_drop (List.mem_of_mem_take hc)), by rw [hlen]; omega⟩
              rw [← hlen]
              clear hlo hhi hlh hlen hw0 hw1 hb0 hb1 hszl
              generalize (D.drop lo).take (hi_ - lo) = D' at HD' ⊢
              obtain ⟨z0, z1, z2, z3, z4, z5, z6⟩ := H6.out.2.1.cells
              go_wp2_with fail
              refine (refTell_calls ⟨q.st, q.ba, (k : Int), (n : Int)⟩ (fromA ad cd lo) (cd - lo) D' w6 HD'.out.2.1 HD'.out.2.2 HD'.out.1).mono ?_
              rintro e w7 ⟨o7, hcase⟩
              have HO7 : Hid (Only [] w3 w7) := H6.out.1.trans o7
              clear o7 z0 z1 z2 z3 z4 z5 z6
              rcases hcase with ⟨_, rfl⟩ | ⟨htok, v7, rfl, hsl7⟩
              · go_wp2_with fail
                go_meet
                case rel => exact ⟨none, 0, [], rfl, ⟨fun j hj => by simp at hj, fun _ => ⟨rfl, rfl⟩, by simp, by simp, fun g p e => by cases e⟩, HO7.out⟩
              · obtain ⟨ab7, cb7, rfl, hfed⟩ := FedB.own (w0 := w) hsl7 (by rw [bytesOf_len]; have := tellT_len _ _ htok; omega) (bytesOf_small (tellT_bits _ _))
                have HFD : Hid (FedB w w7 ab7 cb7 (bytesOf (tellT ⟨q.st, q.ba, (k : Int), (n : Int)⟩ D'))) := hfed
                clear hsl7 hfed htok
                generalize bytesOf (tellT ⟨q.st, q.ba, (k : Int), (n : Int)⟩ D') = L7 at HFD ⊢
                go_wp2_with fail
                go_meet
                case rel => exact ⟨ab7, cb7, L7, rfl, HFD.out, HO7.out⟩
      case rest =>
        obtain ⟨ab, cb, Lb, rfl, H4⟩ := hcut
        generalize wc = w4 at H4 ⊢
        obtain ⟨E, mv, mp, J1, K1, yv, vg, J2, K2, nw, hd⟩ := HD3.out.keep H4.out.2
        have HX : Hid (DC w (i + 1) E x mv mp J1 K1 y yv vg J2 K2 nw w4) := hd
        clear hd
        go_wp2_with fail
        refine (feed_calls (ora := ora) E x mv mp J1 nw K1 ab cb Lb w4 HX.out.a (by have := H4.out.1.2.2.1; omega) H4.out.1.2.2.2.1 H4.out.1.1 H4.out.1.2.1 (by have := HX.out.n1; omega)).mono ?_
        intro e1 w5 hf1
        have HF1 : Hid (FeedPost ora E x mv mp J1 nw K1 Lb w4 e1 w5) := hf1
        obtain ⟨o5, r1, _, _, _, _, rfl, _⟩ := hf1
        have hfst := HX.out.first o5
        have HR5 : Hid (RCA E w5 y yv vg J2 nw K2 ∧ ByAt w5 ab Lb) := ⟨hfst.1, hfst.2.2 ab Lb H4.out.1.2.2.2.2 H4.out.1.1⟩
        clear o5 hfst
        go_wp2_with fail
        refine (refFeed_calls (ora := ora) E y yv vg J2 nw K2 ab cb Lb w5 HR5.out.1 H4.out.1.2.2.1 H4.out.1.2.2.2.1 HR5.out.2 H4.out.1.2.1 (by have := HX.out.n2; omega) HX.out.z).mono ?_
        intro e2 w6 hf2
        obtain ⟨r, E', mp', J1', K1', yv', vg', J2', K2', nw', he1, rfl, hdc⟩ := HX.out.second HF1.out hf2
        injection he1 with he1
        injection he1 with he1
        subst he1
        have H6 : Hid (DC w (i + 1 + 1) E' x mv mp' J1' K1' y yv' vg' J2' K2' nw' w6) := hdc
        clear hf2 hdc HF1 HR5 HX
        have tr : (r1 != r1) = false := by simp
        go_wp2_with fail
        refine (newest_calls E' x mv mp' J1' nw' K1' w6 H6.out.a).mono ?_
        rintro e w7 ⟨v7, rfl, hsv7, o7⟩
        have H7 : Hid (DC w (i + 1 + 1) E' x mv mp' J1' K1' y yv' vg' J2' K2' nw' w7 ∧ SvAt w7 v7 (viewOf (stC J1' nw' K1'))) := ⟨H6.out.keep o7, hsv7⟩
        clear hsv7 o7 H6
        obtain ⟨v8, hsv8, hl8, hlk8⟩ := H7.out.1.b.look
        rw [← H7.out.1.s] at hsv8 hl8
        have HLK : Hid (∀ w', MapV w' (some yv') (mpJ J2') → (Instr.lookup 58 (.map (some yv')) (.int .i64 nw') false).run Try.prog w' = .ok v8 w') := hlk8
        have H8 : Hid (SvAt w7 v8 (viewOf (stC J1' nw' K1')) ∧ (viewOf (stC J1' nw' K1')).length ≤ 121) := ⟨hsv8.1, hl8⟩
        obtain ⟨z0, z1, z2⟩ := H7.out.1.b.cl.cells
        have hvm := H7.out.1.b.vm
        clear hsv8 hl8 hlk8
        go_upto_region 26 with fail
        refine wp_region_held_drew (S := (fun w' => w'.cell? ⟨y, 0, none⟩ = some (.map (some yv')) ∧ w'.cell? ⟨y, 1, none⟩ = some (.int .i64 nw') ∧ Hid (MapV w' (some yv') (mpJ J2')))) (by kernel_rfl) ?_ (fun hHeld1 => ?_)
        · (try dsimp only); exact ⟨z0, z1, hvm.only (Only.refl [] w7).drew (by simp)⟩
        clear z0 z1 z2 hvm
        refine tkW 0 rfl ?_; refine tkW 1 rfl ?_; refine tkW 2 rfl ?_; refine tkW 3 rfl ?_
        try simp only [Act.put, List.setIfInBounds_toArray, List.set_cons_zero, List.set_cons_succ, List.getElem_toArray, List.getElem_cons_succ, List.getElem_cons_zero]
        refine tkW 4 rfl ?_
        try simp only [Act.put, List.setIfInBounds_toArray, List.set_cons_zero, List.set_cons_succ, List.getElem_toArray, List.getElem_cons_succ, List.getElem_cons_zero]
        refine tkW (v := .bool false) 5 rfl ?_ (by intro w'' hSw; (try dsimp only at hSw); simp only [List.getElem_toArray, List.getElem_cons_succ, List.getElem_cons_zero]; (go_simp <;> rfl))
        try simp only [Act.put, List.setIfInBounds_toArray, List.set_cons_zero, List.set_cons_succ, List.getElem_toArray, List.getElem_cons_succ, List.getElem_cons_zero]
        refine tkW 6 rfl ?_; refine tkW 7 rfl ?_; refine tkW 8 rfl ?_; refine tkW 9 rfl ?_
        try simp only [Act.put, List.setIfInBounds_toArray, List.set_cons_zero, List.set_cons_succ, List.getElem_toArray, List.getElem_cons_succ, List.getElem_cons_zero]
        refine tkW 10 rfl ?_; refine tkW 11 rfl ?_; refine tkW 12 rfl ?_; refine tkW 13 rfl ?_
        try simp only [Act.put, List.setIfInBounds_toArray, List.set_cons_zero, List.set_cons_succ, List.getElem_toArray, List.getElem_cons_succ, List.getElem_cons_zero]
        refine tkW 14 rfl ?_; refine tkW 15 rfl ?_
        try simp only [Act.put, List.setIfInBounds_toArray, List.set_cons_zero, List.set_cons_succ, List.getElem_toArray, List.getElem_cons_succ, List.getElem_cons_zero]
        refine tkW (v := v8) 16 rfl ?_ (by intro w'' hSw; (try dsimp only at hSw); simp only [List.getElem_toArray, List.getElem_cons_succ, List.getElem_cons_zero]; go_simp; (rw [HLK.out _ hSw.2.2.out]; rfl))
        try simp only [Act.put, List.setIfInBounds_toArray, List.set_cons_zero, List.set_cons_succ, List.getElem_toArray, List.getElem_cons_succ, List.getElem_cons_zero]
        refine wpAnyH_ready (rs := [17]) (by kernel_rfl) (by simp) ?_
        refine AllReadyH.cons rfl (fun K hK => ?_) AllReadyH.nil
        first | (with_reducible refine iteYes ?hcx ?htx; case hcx => kernel_rfl) | rw [if_pos (by rfl)]
        simp only [List.getElem_toArray, List.getElem_cons_succ, List.getElem_cons_zero]
        go_simp
        (go_at_call 22; refine (sameV_calls v7 v8 (viewOf (stC J1' nw' K1')) _ (H7.out.2.only (Only.refl [] w7).drew) (H8.out.1.only (Only.refl [] w7).drew) (by have := H8.out.2; omega)).mono ?_; rintro e w9 ⟨rfl, o9⟩; have H9 : Hid (DC w (i + 1 + 1) E' x mv mp' J1' K1' y yv' vg' J2' K2' nw' w9) := H7.out.1.keep (((Only.refl [] w7).drew).trans o9); clear o9)
        try go_wp2_with fail
        refine hK.out _ _ ?_ (fun hHeld2 => ?_)
        · (try dsimp only); exact ⟨H9.out.b.cl.cells.1, H9.out.b.cl.cells.2.1, H9.out.b.vm⟩
        clear hK K hHeld1
        try simp only [Act.put, List.setIfInBounds_toArray, List.set_cons_zero, List.set_cons_succ, List.getElem_toArray, List.getElem_cons_succ, List.getElem_cons_zero]
        refine tkW 18 rfl ?_; refine tkW 19 rfl ?_; refine tkW 20 rfl ?_; refine tkW 21 rfl ?_
        try simp only [Act.put, List.setIfInBounds_toArray, List.set_cons_zero, List.set_cons_succ, List.getElem_toArray, List.getElem_cons_succ, List.getElem_cons_zero]
        refine tkW 23 rfl ?_; refine tkW 24 rfl ?_; refine tkW 25 rfl ?_; refine tkW 26 rfl ?_
        try simp only [Act.put, List.setIfInBounds_toArray, List.set_cons_zero, List.set_cons_succ, List.getElem_toArray, List.getElem_cons_succ, List.getElem_cons_zero]
        refine wpAnyH_ready (rs := [22]) (by kernel_rfl) (by simp) ?_
        refine AllReadyH.cons rfl (fun K hK => ?_) AllReadyH.nil
        first | (with_reducible refine iteYes ?hcx ?htx; case hcx => kernel_rfl) | rw [if_pos (by rfl)]
        simp only [List.getElem_toArray, List.getElem_cons_succ, List.getElem_cons_zero]
        go_simp
        (go_at_call 23; refine (cmany_calls x (some mv) nw' _ _ _ mp' (mpJ J1') w9 H9.out.a.cl H9.out.a.vm).mono ?_; rintro e wA ⟨rfl, rfl⟩)
        try go_wp2_with fail
        refine hK.out _ _ ?_ (fun hHeld3 => ?_)
        · (try dsimp only); exact ⟨H9.out.b.cl.cells.1, H9.out.b.cl.cells.2.1, H9.out.b.vm⟩
        clear hK K hHeld2
        try simp only [Act.put, List.setIfInBounds_toArray, List.set_cons_zero, List.set_cons_succ, List.getElem_toArray, List.getElem_cons_succ, List.getElem_cons_zero]
        refine tkW (v := .int .i64 ((mpJ J1').length : Int)) 27 rfl ?_ (by intro w'' hSw; (try dsimp only at hSw); simp only [List.getElem_toArray, List.getElem_cons_succ, List.getElem_cons_zero]; go_simp; (rw [hSw.2.2.out.len Try.underlying58, H9.out.lens]; rfl))
        try simp only [Act.put, List.setIfInBounds_toArray, List.set_cons_zero, List.set_cons_succ, List.getElem_toArray, List.getElem_cons_succ, List.getElem_cons_zero]
        refine tkW (v := .bool false) 28 rfl ?_ (by intro w'' hSw; (try dsimp only at hSw); simp only [List.getElem_toArray, List.getElem_cons_succ, List.getElem_cons_zero]; (go_simp <;> rfl))
        try simp only [Act.put, List.setIfInBounds_toArray, List.set_cons_zero, List.set_cons_succ, List.getElem_toArray, List.getElem_cons_succ, List.getElem_cons_zero]
        refine tkW 29 rfl ?_
        try simp only [Act.put, List.setIfInBounds_toArray, List.set_cons_zero, List.set_cons_succ, List.getElem_toArray, List.getElem_cons_succ, List.getElem_cons_zero]
        refine wpAnyH_done (by kernel_rfl) ?_ _
        have HDN : Hid (Duo w (i + 1 + 1) x y wA) := ⟨_, _, _, _, _, _, _, _, _, _, H9.out⟩
        go_wp2_with fail
        go_roundg (S.length - (i + 1))
        case measure => have := HI.out; omega
        case rel => exact ⟨i + 1, by go_num, ⟨by omega, rfl⟩, HDN⟩
    · have hil : ¬ (i : Int) < (S.length : Int) := by omega
      have hib : decide ((i : Int) < (S.length : Int)) = false := decide_eq_false hil
      go_wp2_with fail
      exact bodyPost_ret (v := .bool true) (by simp [results, Try.results4, go_sem]) rfl ⟨rfl, HD.out.on⟩
end Go.Proofs.Ytedhdmahdioboaa
/- Whatever is sent, in whichever order, ClientPlays returns true: what a client has is the document's. -/
namespace Go.Proofs.Ytedhdmahdioboaa.clientPlays
open Go.ChangeShapes Go.WideShapes Go.ChangeAt Go.RowKit Go.Joins Go.Deep
set_option linter.unusedVariables false
set_option linter.unusedSimpArgs false

theorem own : ownKnob Try.prog.godebug = none := by kernel_rfl
theorem laidOut : laidOutB Try.prog = true := by kernel_rfl
theorem cellsInt : Try.prog.cellsOf 3 = 1 := by kernel_rfl
section
variable {H : Type} {enc : TypeId × Value → H} {w : World} {base : Nat} {sp : Nat → Bool} {held : Bool}
theorem int_open {fuel : Nat} {cs : List Value} {x : DataW H × List MemPlace} (h : DataW.trod enc Try.prog w base sp held fuel 3 cs = some x) : ∃ a, cs = [.int .i64 a] := by
  obtain ⟨a, e, _⟩ := DataW.trod_int Try.underlying3 h
  exact ⟨a, e⟩
theorem cellsByte : Try.prog.cellsOf 5 = 1 := by kernel_rfl
theorem byte_open {fuel : Nat} {cs : List Value} {x : DataW H × List MemPlace} (h : DataW.trod enc Try.prog w base sp held fuel 5 cs = some x) : ∃ a : Nat, a < 256 ∧ cs = [.int .u8 (a : Int)] := by
  obtain ⟨a, e, _, hw⟩ := DataW.trod_int Try.underlying5 h
  have hw1 : (decide ((0 : Int) ≤ a) && decide (a ≤ 255)) = true := hw
  have hw2 : 0 ≤ a ∧ a ≤ 255 := by simpa using hw1
  exact ⟨a.toNat, by omega, by rw [e, show ((a.toNat : Nat) : Int) = a by omega]⟩
set_option maxRecDepth 100000 in
/-- The bytes of a slice that came in. -/
theorem bytes_open {fuel : Nat} {a : Option Addr} {len cap : Nat} {x : DataW H × List MemPlace} (h : DataW.trod enc Try.prog w 0 (fun _ => true) true fuel 53 [.slice a len cap] = some x) : ∃ L : List Nat, L.length = len ∧ (∀ y ∈ L, y < 256) ∧ ByAt w a L ∧ (a = none → L = [] ∧ cap = 0) ∧ len ≤ cap := by
  rcases open_slice Try.underlying53 h with ⟨e, _⟩ | ⟨ad, len', cap', m, n, D, Pl, e, hb, hl, hm, hmm, _, hx⟩
  · simp at e
    obtain ⟨rfl, rfl, rfl⟩ := e
    exact ⟨[], rfl, by simp, fun j hj => by simp at hj, fun _ => ⟨rfl, rfl⟩, Nat.le_refl _⟩
  · simp at e
    obtain ⟨rfl, rfl, rfl⟩ := e
    simp only [if_true] at hmm
    subst hmm
    have key : ∀ j, ∃ q : Nat, j < len → q < 256 ∧ ∃ b o, some ad = some ⟨b, o, none⟩ ∧ w.cell? ⟨b, o + j, none⟩ = some (.int .u8 (q : Int)) := by
      intro j
      by_cases hj : j < len
      · obtain ⟨cs, hc, ht⟩ := hx j (by omega)
        rw [cellsByte] at hc
        obtain ⟨q, hq, rfl⟩ := byte_open ht
        obtain ⟨_, _, hcell⟩ := World.cells?_some hc
        refine ⟨q, fun _ => ⟨hq, ?_⟩⟩
        obtain ⟨b, o, spot⟩ := ad
        cases spot with
        | some s =>
          exfalso
          obtain ⟨cs0, hc0, ht0⟩ := hx 0 (by omega)
          rw [cellsByte] at hc0
          obtain ⟨q', _, rfl⟩ := byte_open ht0
          obtain ⟨_, _, hcell0⟩ := World.cells?_some hc0
          have k := hcell0 0 (by omega)
          simp only [Addr.add, Nat.zero_mul, if_true, World.cell?, Option.isSome_some, List.getElem?_cons_zero] at k
          split at k <;> cases k
        | none =>
          refine ⟨b, o, rfl, ?_⟩
          have k0 := hcell 0 (by omega)
          rw [add_plain, add_plain, Nat.mul_one] at k0
          exact k0
      · exact ⟨0, fun h => absurd h hj⟩
    refine ⟨(List.range len).map (fun j => (key j).choose), by simp, ?_, ?_, fun e => (by cases e), by omega⟩
    · intro y hy
      obtain ⟨j, hj, rfl⟩ := List.mem_map.1 hy
      exact ((key j).choose_spec (List.mem_range.1 hj)).1
    · intro j hj
      have hj2 : j < len := by simpa using hj
      obtain ⟨b, o, e, hc⟩ := ((key j).choose_spec hj2).2
      refine ⟨b, o, e, ?_⟩
      rw [hc, List.getD_eq_getElem?_getD, List.getElem?_map, List.getElem?_range hj2]; rfl
theorem cellsVec : Try.prog.cellsOf 27 = 3 := by kernel_rfl
set_option maxRecDepth 100000 in
theorem vec_open {fuel : Nat} {cs : List Value} {x : DataW H × List MemPlace} (h : DataW.trod enc Try.prog w base sp held fuel 27 cs = some x) : ∃ a b c, cs = [.int .i64 a, .int .i64 b, .int .i64 c] := by
  obtain ⟨y0, y1, y2, n, rfl, hl, h0, h1, h2⟩ := trod_struct3 Try.underlying27 h
  rw [cellsVec] at hl
  match cs, hl with
  | [c0, c1, c2], _ =>
    simp only [cellsInt] at h0 h1 h2
    obtain ⟨a, e0⟩ := int_open h0
    obtain ⟨b, e1⟩ := int_open h1
    obtain ⟨c, e2⟩ := int_open h2
    simp at e0 e1 e2
    subst e0 e1 e2
    exact ⟨a, b, c, rfl⟩
theorem trod_structN5 {P : Program} {t : TypeId} {f0 f1 f2 f3 f4 : Field} {fuel : Nat} {cs : List Value} {x : DataW H × List MemPlace} (ht : P.underlying t = some (.struct #[f0, f1, f2, f3, f4])) (h : DataW.trod enc P w base sp held fuel t cs = some x) :
    ∃ y0 y1 y2 y3 y4 n, cs.length = P.cellsOf t ∧ DataW.trod enc P w base sp held n f0.type ((cs.drop f0.offset).take (P.cellsOf f0.type)) = some y0 ∧ DataW.trod enc P w base sp held n f1.type ((cs.drop f1.offset).take (P.cellsOf f1.type)) = some y1 ∧ DataW.trod enc P w base sp held n f2.type ((cs.drop f2.offset).take (P.cellsOf f2.type)) = some y2 ∧ DataW.trod enc P w base sp held n f3.type ((cs.drop f3.offset).take (P.cellsOf f3.type)) = some y3 ∧ DataW.trod enc P w base sp held n f4.type ((cs.drop f4.offset).take (P.cellsOf f4.type)) = some y4 := by
  obtain ⟨xs, n, _, rfl, hl, hlen, hf⟩ := DataW.trod_struct ht h
  match xs, hlen with
  | [y0, y1, y2, y3, y4], _ => exact ⟨y0, y1, y2, y3, y4, n, hl, by simpa using hf 0 f0 rfl, by simpa using hf 1 f1 rfl, by simpa using hf 2 f2 rfl, by simpa using hf 3 f3 rfl, by simpa using hf 4 f4 rfl⟩
theorem cellsSeen : Try.prog.cellsOf 120 = 11 := by kernel_rfl
set_option maxRecDepth 100000 in
theorem seen_open {fuel : Nat} {cs : List Value} {x : DataW H × List MemPlace} (h : DataW.trod enc Try.prog w base sp held fuel 120 cs = some x) : ∃ s : Sn, cs = [.int .i64 (s.id), .int .i64 (s.kd), .int .i64 (s.sx), .int .i64 (s.sy), .int .i64 (s.sz), .int .i64 (s.ax), .int .i64 (s.ay), .int .i64 (s.az), .int .i64 (s.vx), .int .i64 (s.vy), .int .i64 (s.vz)] := by
  obtain ⟨y0, y1, y2, y3, y4, n, hl, h0, h1, h2, h3, h4⟩ := trod_structN5 Try.underlying120 h
  rw [cellsSeen] at hl
  match cs, hl with
  | [c0, c1, c2, c3, c4, c5, c6, c7, c8, c9, c10], _ =>
    simp only [cellsInt, cellsVec] at h0 h1 h2 h3 h4
    obtain ⟨a0, e0⟩ := int_open h0
    obtain ⟨a1, e1⟩ := int_open h1
    obtain ⟨a2, a3, a4, e2⟩ := vec_open h2
    obtain ⟨a5, a6, a7, e3⟩ := vec_open h3
    obtain ⟨a8, a9, a10, e4⟩ := vec_open h4
    simp at e0 e1 e2 e3 e4
    obtain ⟨rfl, rfl, rfl⟩ := e2
    obtain ⟨rfl, rfl, rfl⟩ := e3
    obtain ⟨rfl, rfl, rfl⟩ := e4
    subst e0 e1
    exact ⟨⟨a0, a1, a2, a3, a4, a5, a6, a7, a8, a9, a10⟩, rfl⟩
set_option maxRecDepth 100000 in
/-- A view that came in. -/
theorem view_open {fuel : Nat} {a : Option Addr} {len cap : Nat} {x : DataW H × List MemPlace} (h : DataW.trod enc Try.prog w 0 (fun _ => true) true fuel 52 [.slice a len cap] = some x) : ∃ V : List Sn, V.length = len ∧ SeenAt w a V.length (fun j => V.getD j zs) ∧ (a = none → cap = 0) ∧ len ≤ cap ∧ ((x.1.weights Try.prog 52).all (· ≤ reachBytes) = true → len < 1537228672809129301) := by
  rcases open_slice Try.underlying52 h with ⟨e, _⟩ | ⟨ad, len', cap', m, n, D, Pl, e, hb, hl, hm, hmm, hxe, hx⟩
  · simp at e
    obtain ⟨rfl, rfl, rfl⟩ := e
    exact ⟨[], rfl, fun j hj => by simp at hj, fun _ => rfl, Nat.le_refl _, fun _ => by omega⟩
  · simp at e
    obtain ⟨rfl, rfl, rfl⟩ := e
    simp only [if_true] at hmm
    subst hmm
    have hwx : (x.1.weights Try.prog 52).all (· ≤ reachBytes) = true → len < 1537228672809129301 := by
      intro hw
      rw [hxe] at hw
      have hby : Try.prog.bytesOf 120 = 88 := by kernel_rfl
      simp only [DataW.weights, Try.underlying52, List.all_cons, Bool.and_eq_true, decide_eq_true_eq, List.length_map, List.length_range, hby] at hw
      have := hw.1
      unfold reachBytes at this
      omega
    have key : ∀ j, ∃ q : Sn, j < len → ∃ b o, some ad = some ⟨b, o, none⟩ ∧ ∀ k, k < 11 → w.cell? ⟨b, o + j * 11 + k, none⟩ = some (sc q k) := by
      intro j
      by_cases hj : j < len
      · obtain ⟨cs, hc, ht⟩ := hx j (by omega)
        rw [cellsSeen] at hc
        obtain ⟨q, rfl⟩ := seen_open ht
        obtain ⟨_, _, hcell⟩ := World.cells?_some hc
        refine ⟨q, fun _ => ?_⟩
        obtain ⟨b, o, spot⟩ := ad
        cases spot with
        | some s =>
          exfalso
          obtain ⟨cs0, hc0, ht0⟩ := hx 0 (by omega)
          rw [cellsSeen] at hc0
          obtain ⟨q', rfl⟩ := seen_open ht0
          obtain ⟨_, _, hcell0⟩ := World.cells?_some hc0
          have k := hcell0 0 (by omega)
          simp only [Addr.add, Nat.zero_mul, if_true, World.cell?, Option.isSome_some, List.getElem?_cons_zero] at k
          split at k <;> cases k
        | none =>
          refine ⟨b, o, rfl, fun k hk => ?_⟩
          have k0 := hcell k (by simpa using hk)
          rw [add_plain, add_plain] at k0
          rw [k0]
          match k, hk with
          | 0, _ => rfl
          | 1, _ => rfl
          | 2, _ => rfl
          | 3, _ => rfl
          | 4, _ => rfl
          | 5, _ => rfl
          | 6, _ => rfl
          | 7, _ => rfl
          | 8, _ => rfl
          | 9, _ => rfl
          | 10, _ => rfl
          | k + 11, h => exact absurd h (by omega)
      · exact ⟨zs, fun h => absurd h hj⟩
    refine ⟨(List.range len).map (fun j => (key j).choose), by simp, fun j hj => ?_, fun e => (by cases e), by omega, hwx⟩
    have hj2 : j < len := by simpa using hj
    obtain ⟨b, o, e, hc⟩ := (key j).choose_spec hj2
    refine ⟨b, o, e, fun k hk => ?_⟩
    rw [hc k hk]
    simp only [List.getD_eq_getElem?_getD, List.getElem?_map, List.getElem?_range hj2]
    rfl
theorem trod_structN7 {P : Program} {t : TypeId} {f0 f1 f2 f3 f4 f5 f6 : Field} {fuel : Nat} {cs : List Value} {x : DataW H × List MemPlace} (ht : P.underlying t = some (.struct #[f0, f1, f2, f3, f4, f5, f6])) (h : DataW.trod enc P w base sp held fuel t cs = some x) :
    ∃ y0 y1 y2 y3 y4 y5 y6 n, cs.length = P.cellsOf t ∧ DataW.trod enc P w base sp held n f0.type ((cs.drop f0.offset).take (P.cellsOf f0.type)) = some y0 ∧ DataW.trod enc P w base sp held n f1.type ((cs.drop f1.offset).take (P.cellsOf f1.type)) = some y1 ∧ DataW.trod enc P w base sp held n f2.type ((cs.drop f2.offset).take (P.cellsOf f2.type)) = some y2 ∧ DataW.trod enc P w base sp held n f3.type ((cs.drop f3.offset).take (P.cellsOf f3.type)) = some y3 ∧ DataW.trod enc P w base sp held n f4.type ((cs.drop f4.offset).take (P.cellsOf f4.type)) = some y4 ∧ DataW.trod enc P w base sp held n f5.type ((cs.drop f5.offset).take (P.cellsOf f5.type)) = some y5 ∧ DataW.trod enc P w base sp held n f6.type ((cs.drop f6.offset).take (P.cellsOf f6.type)) = some y6 := by
  obtain ⟨xs, n, _, rfl, hl, hlen, hf⟩ := DataW.trod_struct ht h
  match xs, hlen with
  | [y0, y1, y2, y3, y4, y5, y6], _ => exact ⟨y0, y1, y2, y3, y4, y5, y6, n, hl, by simpa using hf 0 f0 rfl, by simpa using hf 1 f1 rfl, by simpa using hf 2 f2 rfl, by simpa using hf 3 f3 rfl, by simpa using hf 4 f4 rfl, by simpa using hf 5 f5 rfl, by simpa using hf 6 f6 rfl⟩
theorem cellsSend : Try.prog.cellsOf 55 = 7 := by kernel_rfl
theorem cellsView : Try.prog.cellsOf 52 = 1 := by kernel_rfl
theorem cellsBytes : Try.prog.cellsOf 53 = 1 := by kernel_rfl
theorem cellsBool : Try.prog.cellsOf 4 = 1 := by kernel_rfl
theorem int_open64 {fuel : Nat} {cs : List Value} {x : DataW H × List MemPlace} (h : DataW.trod enc Try.prog w base sp held fuel 3 cs = some x) : ∃ a, cs = [.int .i64 a] ∧ In64V a := by
  obtain ⟨a, e, _, hw⟩ := DataW.trod_int Try.underlying3 h
  exact ⟨a, e, hw⟩
theorem slice_one {t e : TypeId} {fuel : Nat} {c : Value} {x : DataW H × List MemPlace} (ht : Try.prog.underlying t = some (.slice e)) (h : DataW.trod enc Try.prog w base sp held fuel t [c] = some x) : ∃ a len cap, c = .slice a len cap := by
  rcases open_slice ht h with ⟨e, _⟩ | ⟨ad, len', cap', m, n, D, Pl, e, _⟩
  · simp at e; exact ⟨_, _, _, e⟩
  · simp at e; exact ⟨_, _, _, e⟩
/-- What one reads as. -/
def SendIs (w : World) (cs : List Value) (q : Sd) : Prop := ∃ at_ ct ab cb, cs = [.int .i64 (q.st), .int .i64 (q.ba), .int .i64 (q.ix), .int .i64 (q.mn), .slice at_ q.tv.length ct, .slice ab q.by_.length cb, .bool q.any] ∧ SvAt w (.slice at_ q.tv.length ct) q.tv ∧ ByAt w ab q.by_ ∧ (ab = none → q.by_ = [] ∧ cb = 0) ∧ (∀ c ∈ q.by_, c < 256) ∧ In64V q.ba
set_option maxRecDepth 100000 in
theorem send_open {fuel : Nat} {cs : List Value} {x : DataW H × List MemPlace} (h : DataW.trod enc Try.prog w 0 (fun _ => true) true fuel 55 cs = some x) : ∃ q : Sd, SendIs w cs q := by
  obtain ⟨y0, y1, y2, y3, y4, y5, y6, n, hl, h0, h1, h2, h3, h4, h5, h6⟩ := trod_structN7 Try.underlying55 h
  rw [cellsSend] at hl
  match cs, hl with
  | [c0, c1, c2, c3, c4, c5, c6], _ =>
    simp only [cellsInt, cellsView, cellsBytes, cellsBool] at h0 h1 h2 h3 h4 h5 h6
    obtain ⟨a0, e0⟩ := int_open h0
    obtain ⟨a1, e1, hba⟩ := int_open64 h1
    obtain ⟨a2, e2⟩ := int_open h2
    obtain ⟨a3, e3⟩ := int_open h3
    obtain ⟨b6, e6, _⟩ := DataW.trod_bool Try.underlying4 h6
    simp at e0 e1 e2 e3 e6
    obtain ⟨at_, n4, ct, e4⟩ := slice_one Try.underlying52 (by simpa using h4)
    obtain ⟨ab, n5, cb, e5⟩ := slice_one Try.underlying53 (by simpa using h5)
    subst e0 e1 e2 e3 e4 e5 e6
    obtain ⟨V, hV, hs, hn, hc, _⟩ := view_open (fuel := n) (x := y4) (by simpa using h4)
    obtain ⟨B, hB, hsm, hb, hnn, _⟩ := bytes_open (fuel := n) (x := y5) (by simpa using h5)
    subst hV hB
    exact ⟨⟨a0, a1, a2, a3, V, B, b6⟩, at_, ct, ab, cb, rfl, ⟨at_, ct, rfl, hc, hs⟩, hb, hnn, hsm, hba⟩
set_option maxRecDepth 100000 in
theorem sends_open {fuel : Nat} {a : Option Addr} {len cap : Nat} {x : DataW H × List MemPlace} (h : DataW.trod enc Try.prog w 0 (fun _ => true) true fuel 46 [.slice a len cap] = some x) : ∃ S : List Sd, S.length = len ∧ SdAt w a S := by
  rcases open_slice Try.underlying46 h with ⟨e, _⟩ | ⟨ad, len', cap', m, n, D, Pl, e, hb, hl, hm, hmm, hxe, hx⟩
  · simp at e
    obtain ⟨rfl, rfl, rfl⟩ := e
    exact ⟨[], rfl, fun j hj => by simp at hj⟩
  · simp at e
    obtain ⟨rfl, rfl, rfl⟩ := e
    simp only [if_true] at hmm
    subst hmm
    have key : ∀ j, ∃ q : Sd, j < len → ∃ b o at_ ct ab cb, some ad = some ⟨b, o, none⟩ ∧ (w.cell? ⟨b, o + j * 7, none⟩ = some (.int .i64 (q.st)) ∧ w.cell? ⟨b, o + j * 7 + 1, none⟩ = some (.int .i64 (q.ba)) ∧ w.cell? ⟨b, o + j * 7 + 2, none⟩ = some (.int .i64 (q.ix)) ∧ w.cell? ⟨b, o + j * 7 + 3, none⟩ = some (.int .i64 (q.mn)) ∧ w.cell? ⟨b, o + j * 7 + 4, none⟩ = some (.slice at_ q.tv.length ct) ∧ w.cell? ⟨b, o + j * 7 + 5, none⟩ = some (.slice ab q.by_.length cb) ∧ w.cell? ⟨b, o + j * 7 + 6, none⟩ = some (.bool q.any)) ∧
        SvAt w (.slice at_ q.tv.length ct) q.tv ∧ ByAt w ab q.by_ ∧ (ab = none → q.by_ = [] ∧ cb = 0) ∧ (∀ c ∈ q.by_, c < 256) ∧ In64V q.ba := by
      intro j
      by_cases hj : j < len
      · obtain ⟨cs, hc, ht⟩ := hx j (by omega)
        rw [cellsSend] at hc
        obtain ⟨q, at_, ct, ab, cb, rfl, hrest⟩ := send_open ht
        obtain ⟨_, _, hcell⟩ := World.cells?_some hc
        refine ⟨q, fun _ => ?_⟩
        obtain ⟨b, o, spot⟩ := ad
        cases spot with
        | some s =>
          exfalso
          obtain ⟨cs0, hc0, ht0⟩ := hx 0 (by omega)
          rw [cellsSend] at hc0
          obtain ⟨q', _, _, _, _, rfl, _⟩ := send_open ht0
          obtain ⟨_, _, hcell0⟩ := World.cells?_some hc0
          have k := hcell0 0 (by omega)
          simp only [Addr.add, Nat.zero_mul, if_true, World.cell?, Option.isSome_some, List.getElem?_cons_zero] at k
          split at k <;> cases k
        | none =>
          refine ⟨b, o, at_, ct, ab, cb, rfl, ?_, hrest⟩
          have kk : ∀ k, k < 7 → w.cell? ⟨b, o + j * 7 + k, none⟩ = ([.int .i64 (q.st), .int .i64 (q.ba), .int .i64 (q.ix), .int .i64 (q.mn), .slice at_ q.tv.length ct, .slice ab q.by_.length cb, .bool q.any] : List Value)[k]? := fun k hk => by
            have k0 := hcell k (by simpa using hk)
            rw [add_plain, add_plain] at k0
            exact k0
          exact ⟨kk 0 (by omega), kk 1 (by omega), kk 2 (by omega), kk 3 (by omega), kk 4 (by omega), kk 5 (by omega), kk 6 (by omega)⟩
      · exact ⟨⟨0, 0, 0, 0, [], [], false⟩, fun h => absurd h hj⟩
    refine ⟨(List.range len).map (fun j => (key j).choose), by simp, fun j hj => ?_⟩
    have hj2 : j < len := by simpa using hj
    have hk := (key j).choose_spec hj2
    have he : ((List.range len).map (fun j => (key j).choose))[j] = (key j).choose := by simp
    rw [he]
    exact hk
end
section
variable {H : Type} {enc : TypeId × Value → H} {P : Program} {w : World} {base : Nat} {spare : Nat → Bool} {held : Bool}
theorem trodAll_n {t0 : TypeId} {args : Array Value} {ds : List (DataW H)} {ps : List MemPlace} (h : DataW.TrodAll enc P w base spare held [t0] args.toList ds ps) :
    ∃ v0 d0 q0, args = #[v0] ∧ ds = [d0] ∧ ps = q0 ∧ DataW.Trod enc P w base spare held t0 v0 d0 q0 := by
  obtain ⟨v0, vs0, d0, ds0, q0, ps0, hargs, rfl, rfl, hd0, hr0⟩ := trodAll_cons h
  obtain ⟨rfl, rfl, rfl⟩ := trodAll_nil hr0
  exact ⟨v0, d0, q0, by cases args; simp_all, rfl, by simp, hd0⟩
theorem mkN {t0 : TypeId} {v0 : Value} {d0 : DataW H} {q0 : List MemPlace} (h0 : DataW.Trod enc P w base spare held t0 v0 d0 q0) :
    DataW.TrodAll enc P w base spare held [t0] [v0] [d0] (q0) := by
  exact trodAll_mk1 h0
end
set_option maxHeartbeats 800000 in
set_option maxRecDepth 100000 in
theorem lifted (os : Os) (started : os.Started) (H : Type) (enc : TypeId × Value → H) :
    ReturnsInHanded {} Try.checked os 4 .any (Rows.clientPlaysSpec.pre6 enc Try.prog Try.f4 Rows.clientPlaysRow.domain false) (Rows.clientPlaysSpec.post enc Try.prog Try.f4 false true false false) := by
  refine returnsInHanded_of_change (C := Try.checked) own started (by kernel_rfl) Try.func4
    (ChangeSpec.witness6 (enc := enc) (C := Try.checked) false ⟨#[], #[.slice none 0 0], []⟩ 8 (by kernel_rfl) (by kernel_rfl) (by kernel_rfl) (by kernel_rfl)) ?_
  intro W base args ds gs before hval0 hW hcnd _
  have hval : ∀ (j : Nat) t v, Try.f4.params[j]? = some t → args[j]? = some v → Value.okWide Try.prog W .any base t v := hval0
  have hW' := hW
  obtain ⟨p, q, hA0, hV0, rfl, hfz, hnd⟩ := hW
  have hA : DataW.TrodAll enc Try.prog W 0 (fun _ => true) true Try.f4.params.toList args.toList ds p := hA0
  rw [Try.params4] at hA hval
  obtain ⟨v0, d0, q0, hargs, rfl, hps, h0⟩ := trodAll_n hA
  subst hargs
  have hps2 := hps.symm
  clear hps
  subst hps2
  obtain ⟨rfl, rfl⟩ := trodVars_none hV0
  have h0k := h0
  obtain ⟨a0, len0, cap0, rfl⟩ := okWide_slice Try.underlying46 (hval 0 46 v0 rfl rfl)
  obtain ⟨fuel0, hf0⟩ := h0
  clear hA0 hval0
  simp only [List.append_nil, List.nil_append, List.append_assoc] at hW'
  have hlt0 : ∀ y ∈ q0, y.block < W.heap.size := fun y hy => by simpa using hW'.lt y (by simp [hy])
  have harg0 : ∀ W' : World, Below W.heap.size W W' → DataW.Trod enc Try.prog W' 0 (fun b => decide (b < W.heap.size)) true 46 (.slice a0 len0 cap0) d0 q0 :=
    fun W' hn => Below.trod laidOut (by kernel_rfl) (of_decide_eq_true (by kernel_rfl)) h0k hn hlt0
  have hc : Calls Try.prog 4 #[.slice a0 len0 cap0] W fun e w' => e = .returned (.bool true) ∧ Only [] W w' := by
    obtain ⟨S, hS, hsd⟩ := sends_open (fuel := fuel0) (by simpa [Value.cells] using hf0)
    subst hS
    by_cases hl : 60 < S.length
    · exact plays_long a0 S.length cap0 W hl
    · exact clientPlays_calls a0 cap0 S W hsd (by omega)
  refine hc.mono fun e W' ⟨he, ho⟩ => ?_
  have hn : Below W.heap.size W W' := ho.below (by simp) (Nat.le_refl _)
  subst he
  exact ⟨_, rfl, _, _, _, [], _, [], hW', trodAll_mk1 (shut_bool Try.underlying4 _), mkN (harg0 _ hn), rfl, hn.frame _, fun h => by cases h⟩

theorem row : Rows.ClientPlaysSaid :=
  OpenClaim.holds_of_wide 4 Try.f4 rfl rfl rfl rfl rfl rfl rfl ⟨rfl, rfl, rfl, rfl, rfl⟩ rfl rfl rfl rfl rfl (by kernel_rfl) Try.func4 (by kernel_rfl)
    (of_decide_eq_true (by kernel_rfl)) (by unfold Func.isWrapper; first | (rw [if_pos (by decide +kernel)]; kernel_rfl) | (rw [if_neg (by decide +kernel)]; exact ⟨rfl, rfl⟩))
    (fun os started H enc _ => lifted os started H enc)
end Go.Proofs.Ytedhdmahdioboaa.clientPlays
namespace Go.Proofs.Ytedhdmahdioboaa
theorem clientPlays_holds : Rows.ClientPlaysSaid := clientPlays.row
#print axioms clientPlays_holds
end Go.Proofs.Ytedhdmahdioboaa
