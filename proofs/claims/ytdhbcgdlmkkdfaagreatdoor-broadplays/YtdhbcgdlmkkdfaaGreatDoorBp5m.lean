/- gyrelaw.BroadPlays: its walk. -/
import Derived.Test.YtdhbcgdlmkkdfaaGreatDoorBpA
import Derived.Test.YtdhbcgdlmkkdfaaGreatDoorBq3
import Derived.Deep.CutRange
import Derived.Deep.CutBlock
namespace Go.Proofs.YtdhbcgdlmkkdfaaGreatDoor
open Go.ChangeShapes Go.WideShapes Go.ChangeAt Go.RowKit
set_option linter.unusedVariables false
set_option linter.unusedSimpArgs false

set_option maxRecDepth 100000 in
set_option maxHeartbeats 40000000 in
theorem plays_main (a : Option Addr) (n c : Nat) (Kf If : Nat → Int) (Bf : Nat → Bx) (fat : Int) (w : World) (hn : n ≤ 150) (hg : EtIs w) (hs : SetsAt w a n Kf If Bf) (hf0 : 0 ≤ fat) (hf1 : fat ≤ 3276800) :
    Calls Tryz.prog 3 #[.int .i64 fat, .slice a n c] w fun e w' => e = .returned (.bool true) ∧ Only [] w w' := by
  have t0 : decide ((150 : Int) < (n : Int)) = false := by simp; omega
  have t1 : decide (fat < 0) = false := by simp; omega
  have t2 : decide (3276800 < fat) = false := by simp; omega
  have HG : Hid (EtIs w ∧ SetsAt w a n Kf If Bf ∧ n ≤ 150 ∧ 0 ≤ fat ∧ fat ≤ 3276800) := ⟨hg, hs, hn, hf0, hf1⟩
  clear hg hs hn hf0 hf1
  go_enter Tryz.func3, Tryz.ntmps3
  go_wp2_with fail
  refine (new_calls fat _ HG.out.2.2.2.1 HG.out.2.2.2.2).mono ?_
  rintro e w2 ⟨t, rfl, ht2, htn, o2⟩
  have H2 : Hid (TreeIs w2 t fat [t] [] ∧ w.heap.size ≤ t ∧ Only [] w w2) := ⟨ht2, htn, o2⟩
  clear ht2 htn o2
  have hmm := @run_makeMap Tryz.prog
  go_wp2_with fail
  clear hmm t0 t1 t2
  have H3 : Hid (LS w t w2.heap.size fat [] (w2.alloc (.map #[] 0))) := by
    have o3 : Only [] w2 (w2.alloc (.map #[] 0)) := (Only.refl [] w2).alloc _
    refine ⟨(show TS w t [] fat [] w2 from ⟨⟨[t], H2.out.1, by simp [H2.out.2.1]⟩, by simp⟩).more o3 (Nat.le_refl _) (by simp), ⟨_, World.ownsMap_made w2 Tryz.prog 3 boxElem, BookM.empty⟩, H2.out.2.2.size, H2.out.2.2.trans o3⟩
  clear H2
  revert H3
  generalize w2.heap.size = m
  generalize World.alloc w2 _ = w3
  intro H3
  go_loopg [8] n (fun k idx wr => ∃ j : Nat, ∃ M, idx = .int .i64 (j : Int) ∧ k = n - j ∧ j ≤ n ∧ LS w t m fat M wr)
  case atStart => exact ⟨0, [], rfl, rfl, Nat.zero_le _, H3.out⟩
  case round =>
    obtain ⟨j, M, rfl, hk, hjn, hls⟩ := hrel
    have HI : Hid (gk = n - j ∧ LS w t m fat M wr) := ⟨hk, hls⟩
    clear hk hls H3
    by_cases hj : j < n
    · obtain ⟨hid, b, o, ha, c0, c1, c2, c3, c4, c5, c6, c7⟩ := (HG.out.2.1.only HI.out.2.old) j hj
      subst ha
      have HD : Hid (In64 (If j)) := hid
      clear hid
      have hjl : (j : Int) < (n : Int) := by omega
      generalize hq : Bf j = q at c2 c3 c4 c5 c6 c7
      generalize hkd : Kf j = kd at c0
      generalize hii : If j = i at c1 HD
      clear hq hkd hii
      go_upto_region 13 with fail
      have H4 : Hid (LX w t m wr.heap.size fat M kd i q (wr.alloc (.cells #[.int .i64 kd, .int .i64 i, .int .i64 (q.x0), .int .i64 (q.x1), .int .i64 (q.x2), .int .i64 (q.x3), .int .i64 (q.x4), .int .i64 (q.x5)] 36))) :=
        HI.out.2.start ((Only.refl [] wr).alloc _) (Nat.le_refl _) (MapKept.heap_alloc wr _).1
      clear c0 c1 c2 c3 c4 c5 c6 c7
      revert H4
      generalize hkx : wr.heap.size = kx
      clear hkx
      generalize World.alloc wr _ = w4
      intro H4
      obtain ⟨qv, th, hth, hl⟩ : ∃ qv : Bx, ∃ th : Bool, Hid (th = decide (i ∈ M.map Prod.fst)) ∧ (Instr.lookup 30 (.map (some m)) (.int .i64 i) true).run Tryz.prog w4 = .ok (.tuple #[.agg #[.int .i64 (qv.x0), .int .i64 (qv.x1), .int .i64 (qv.x2), .int .i64 (qv.x3), .int .i64 (qv.x4), .int .i64 (qv.x5)], .bool th]) w4 := by
        by_cases hin : i ∈ M.map Prod.fst
        · obtain ⟨p, hp, rfl⟩ := List.mem_map.1 hin
          exact ⟨p.2, true, (by simp [hin] : true = _), H4.out.map.look_some HD.out (by simpa using hp)⟩
        · exact ⟨bx0, false, (by simp [hin] : false = _), H4.out.map.look_none HD.out hin⟩
      have x1 := H4.out.set.off 1
      simp only [List.getElem?_toArray, List.getElem?_cons_succ, List.getElem?_cons_zero] at x1
      go_upto_region 14 with fail
      have H5 : Hid (LX w t m kx fat M kd i q (w4.alloc (.cells #[.int .i64 (qv.x0), .int .i64 (qv.x1), .int .i64 (qv.x2), .int .i64 (qv.x3), .int .i64 (qv.x4), .int .i64 (qv.x5)] 37))) := H4.out.keep ((Only.refl [] w4).alloc _)
      clear hl x1 H4
      revert H5
      generalize w4.heap.size = kz
      generalize World.alloc w4 _ = w5
      intro H5
      have x0 := H5.out.set.off 0
      simp only [List.getElem?_toArray, List.getElem?_cons_succ, List.getElem?_cons_zero] at x0
      go_upto_block 2 with fail
      clear x0
      go_cut [12, 13, 14, 15, 16, 17] from 63 to 242 (fun s12 s13 s14 s15 s16 s17 wc => ∃ M', LX w t m kx fat M' kd i q wc)
      case first =>
        refine play_switch w t m kx fat M kd i q th w5 _ _ _ _ _ _ _ _ _ _ _ _ _ _ _ _ _ _ _ _ _ _ _ _ _ _ _ _ _ _ _ _ _ _ _ _ _ _ _ _ _ _ _ _ _ _ _ _ _ _ _ _ _ _ _ _ _ _ _ _ _ _ _ _ _ _ _ _ _ _ _ _ _ _ _ _ _ _ _ _ _ _ _ _ _ _ _ _ _ _ _ _ _ _ _ _ _ _ _ _ _ _ _ _ _ _ _ _ _ _ _ _ _ _ _ _ _ _ _ _ _ _ _ _ _ _ _ _ _ _ _ _ _ _ _ _ _ _ _ _ _ _ _ _ _ _ _ _ _ _ _ _ _ _ _ _ _ _ _ _ _ _ _ _ _ _ _ _ _ _ _ _ _ _ _ _ _ _ _ _ _ _ _ _ _ _ _ _ _ _ _ _ _ _ _ _ _ _ _ _ _ _ _ _ _ _ _ _ _ _ _ _ _ _ _ _ _ _ _ _ _ _ _ _ _ _ _ _ _ _ _ _ _ _ _ _ _ _ _ _ _ _ _ _ _ _ _ _ _ _ _ _ _ _ _ _ _ _ _ _ _ _ _ _ _ _ _ _ _ _ _ _ _ _ _ _ _ _ _ _ _ _ _ _ _ _ _ _ _ _ _ _ _ _ _ _ _ _ _ _ _ _ _ _ _ _ _ _ _ _ _ _ _ _ _ _ _ _ _ _ _ _ _ _ _ _ _ _ _ _ _ _ _ _ _ _ _ _ _ _ _ _ _ _ _ _ _ _ _ _ _ _ _ _ _ _ _ _ _ _ _ _ _ _ _ _ _ _ _ ⟨HG.out.1, trivial⟩ HD hth H5 ?_
        intro u4 u12 u13 u14 u15 u16 u17 u63 u64 u65 u66 u67 u68 u69 u70 u71 u72 u73 u74 u75 u76 u77 u78 u79 u80 u81 u82 u83 u84 u85 u86 u87 u88 u89 u90 u91 u92 u93 u94 u95 u96 u97 u98 u99 u100 u101 u102 u103 u104 u105 u106 u107 u108 u109 u110 u111 u112 u113 u114 u115 u116 u117 u118 u119 u120 u121 u122 u123 u124 u125 u126 u127 u128 u129 u130 u131 u132 u133 u134 u135 u136 u137 u138 u139 u140 u141 u142 u143 u144 u145 u146 u147 u148 u149 u150 u151 u152 u153 u154 u155 u156 u157 u158 u159 u160 u161 u162 u163 u164 u165 u166 u167 u168 u169 u170 u171 u172 u173 u174 u175 u176 u177 u178 u179 u180 u181 u182 u183 u184 u185 u186 u187 u188 u189 u190 u191 u192 u193 u194 u195 u196 u197 u198 u199 u200 u201 u202 u203 u204 u205 u206 u207 u208 u209 u210 u211 u212 u213 u214 u215 u216 u217 u218 u219 u220 u221 u222 u223 u224 u225 u226 u227 u228 u229 u230 u231 u232 u233 u234 u235 u236 u237 u238 u239 u240 u241 u242 wc hrel
        have HRL : Hid (∃ M', LX w t m kx fat M' kd i q wc) := hrel
        clear hrel
        go_wp2_with fail
        go_meet
        case rel => exact HRL.out
      case rest =>
        obtain ⟨M2, hlx⟩ := hcut
        have HX : Hid (LX w t m kx fat M2 kd i q wc) := hlx
        have HI2 : Hid (gk = n - j) := HI.out.1
        clear hlx H5 hth HI
        have z := HX.out.set
        have z2 := z.off 2; have z3 := z.off 3; have z4 := z.off 4; have z5 := z.off 5; have z6 := z.off 6; have z7 := z.off 7
        simp only [List.getElem?_toArray, List.getElem?_cons_succ, List.getElem?_cons_zero] at z2 z3 z4 z5 z6 z7
        clear z
        go_wp2_with fail
        refine (show Calls Tryz.prog 10 #[.pointer (some ⟨t, 0, none⟩), .agg #[.int .i64 (q.x0), .int .i64 (q.x1), .int .i64 (q.x2), .int .i64 (q.x3), .int .i64 (q.x4), .int .i64 (q.x5)]] wc (QueryPost wc q M2) from (by obtain ⟨D, hT, _⟩ := HX.out.tree.ex; exact query_calls t fat D M2 q wc hT)).mono ?_
        rintro e wq ⟨v, xs, rfl, hsl, hxp, hxs, oq, hvn⟩
        obtain ⟨a2, cp2, rfl, hsh⟩ := hsl.shape
        have HQ : Hid (LX w t m kx fat M2 kd i q wq ∧ SlInts wq (.slice a2 xs.length cp2) xs ∧ xs.Perm (meetM M2 q) ∧ xs.Pairwise (fun x y => x < y)) := ⟨HX.out.keep oq, hsl, hxp, hxs⟩
        have HL : Hid (xs.length = cntM M2 q ∧ xs.length ≤ 60) := by
          have h1 : xs.length = cntM M2 q := by rw [hxp.length_eq, cntM_meet]
          have h2 := cntM_le M2 q
          have h3 := HX.out.len
          exact ⟨h1, by omega⟩
        clear hsl hxp hxs oq hvn hsh z2 z3 z4 z5 z6 z7 HX
        go_upto_block 7 with fail
        go_cut [20, 21, 22] from 63 to 242 (fun s20 s21 s22 wc => LX w t m kx fat M2 kd i q wc)
        case first =>
          as_aux_lemma =>
            go_wp2_with fail
            have HQ2 : Hid (xs.Perm (meetM M2 q) ∧ xs.Pairwise (fun x y => x < y)) := HQ.out.2.2
            go_loopg [20] xs.length (fun k idx wr => ∃ x : Nat, idx = .int .i64 (x : Int) ∧ Hid (x ≤ xs.length ∧ k = xs.length - x) ∧ Hid (LX w t m kx fat M2 kd i q wr ∧ SlInts wr (.slice a2 xs.length cp2) xs))
            case atStart => exact ⟨0, rfl, ⟨by omega, rfl⟩, HQ.out.1, HQ.out.2.1⟩
            case round =>
              obtain ⟨x, rfl, H8, HP⟩ := hrel
              clear HQ
              by_cases hx : x < xs.length
              · have hxl : (x : Int) < (xs.length : Int) := by omega
                obtain ⟨g, ha2, hcell⟩ := HP.out.2.at x hx
                obtain ⟨p, hpM, hmt⟩ := meetM_get HQ2.out.1 hx
                have hl := HP.out.1.map.look_some (HP.out.1.id hpM) hpM
                unfold boxV at hl
                have HM : Hid (meetX p q = true) := hmt
                clear hpM hmt
                subst ha2
                go_upto_region 47 with fail
                have H6 : Hid (LX w t m kx fat M2 kd i q (wr.alloc (.cells #[.int .i64 (p.x0), .int .i64 (p.x1), .int .i64 (p.x2), .int .i64 (p.x3), .int .i64 (p.x4), .int .i64 (p.x5)] 37)) ∧ SlInts (wr.alloc (.cells #[.int .i64 (p.x0), .int .i64 (p.x1), .int .i64 (p.x2), .int .i64 (p.x3), .int .i64 (p.x4), .int .i64 (p.x5)] 37)) (.slice (some ⟨g, 0, none⟩) xs.length cp2) xs ∧ (wr.alloc (.cells #[.int .i64 (p.x0), .int .i64 (p.x1), .int .i64 (p.x2), .int .i64 (p.x3), .int .i64 (p.x4), .int .i64 (p.x5)] 37)).heap[wr.heap.size]? = some (.cells #[.int .i64 (p.x0), .int .i64 (p.x1), .int .i64 (p.x2), .int .i64 (p.x3), .int .i64 (p.x4), .int .i64 (p.x5)] 37)) :=
                  ⟨HP.out.1.keep ((Only.refl [] wr).alloc _), HP.out.2.kept ((Only.refl [] wr).alloc _) (by simp), (MapKept.heap_alloc wr _).1⟩
                clear hl hcell
                revert H6
                generalize wr.heap.size = kb
                generalize World.alloc wr _ = w6
                intro H6
                by_cases hx0 : 0 < x
                · obtain ⟨y, hy⟩ : ∃ y, x = y + 1 := ⟨x - 1, by omega⟩
                  have hx1 : (0 : Int) < (x : Int) := by omega
                  have hyx : (x : Int) - 1 = (y : Int) := by omega
                  have hyl : (y : Int) < (xs.length : Int) := by omega
                  have hy2 : y < xs.length := by omega
                  have hwr : IntKind.i64.wrap (y : Int) = (y : Int) := wrap_in (by omega) (by have := HL.out.2; omega)
                  have hlt : ¬ xs[x] ≤ xs[y] := by have := pair_lt HQ2.out.2 (y := y) (by omega); subst hy; omega
                  clear hy
                  have HK : Hid (∀ w', Kept w6 w' → (Kept w6 w' ∧ w'.cell? ⟨kx, 2, none⟩ = some (.int .i64 q.x0) ∧ w'.cell? ⟨kx, 3, none⟩ = some (.int .i64 q.x1) ∧ w'.cell? ⟨kx, 4, none⟩ = some (.int .i64 q.x2) ∧ w'.cell? ⟨kx, 5, none⟩ = some (.int .i64 q.x3) ∧ w'.cell? ⟨kx, 6, none⟩ = some (.int .i64 q.x4) ∧ w'.cell? ⟨kx, 7, none⟩ = some (.int .i64 q.x5)) ∧ w'.cell? ⟨kb, 0, none⟩ = some (.int .i64 p.x0) ∧ w'.cell? ⟨kb, 1, none⟩ = some (.int .i64 p.x1) ∧ w'.cell? ⟨kb, 2, none⟩ = some (.int .i64 p.x2) ∧ w'.cell? ⟨kb, 3, none⟩ = some (.int .i64 p.x3) ∧ w'.cell? ⟨kb, 4, none⟩ = some (.int .i64 p.x4) ∧ w'.cell? ⟨kb, 5, none⟩ = some (.int .i64 p.x5) ∧ w'.cell? ⟨g, x, none⟩ = some (.int .i64 (xs[x])) ∧ w'.cell? ⟨g, y, none⟩ = some (.int .i64 (xs[y]))) := fun w' k => by
                    obtain ⟨g1, e1, c1⟩ := H6.out.2.1.at x hx
                    obtain ⟨g2, e2, c2⟩ := H6.out.2.1.at y hy2
                    injection e1 with e1; injection e1 with e1; injection e2 with e2; injection e2 with e2
                    subst e1
                    rw [← e2] at c2
                    obtain ⟨h1, h2, h3, h4, h5, h6, h7⟩ := VX.of k H6.out.1.set H6.out.2.2
                    exact ⟨h1, h2, h3, h4, h5, h6, h7, kept_cell k c1, kept_cell k c2⟩
                  generalize xs[x] = vx at HK hlt
                  generalize xs[y] = vy at HK hlt
                  refine wp_region_held_drew (S := (fun w' => (Kept w6 w' ∧ w'.cell? ⟨kx, 2, none⟩ = some (.int .i64 q.x0) ∧ w'.cell? ⟨kx, 3, none⟩ = some (.int .i64 q.x1) ∧ w'.cell? ⟨kx, 4, none⟩ = some (.int .i64 q.x2) ∧ w'.cell? ⟨kx, 5, none⟩ = some (.int .i64 q.x3) ∧ w'.cell? ⟨kx, 6, none⟩ = some (.int .i64 q.x4) ∧ w'.cell? ⟨kx, 7, none⟩ = some (.int .i64 q.x5)) ∧ w'.cell? ⟨kb, 0, none⟩ = some (.int .i64 p.x0) ∧ w'.cell? ⟨kb, 1, none⟩ = some (.int .i64 p.x1) ∧ w'.cell? ⟨kb, 2, none⟩ = some (.int .i64 p.x2) ∧ w'.cell? ⟨kb, 3, none⟩ = some (.int .i64 p.x3) ∧ w'.cell? ⟨kb, 4, none⟩ = some (.int .i64 p.x4) ∧ w'.cell? ⟨kb, 5, none⟩ = some (.int .i64 p.x5) ∧ w'.cell? ⟨g, x, none⟩ = some (.int .i64 vx) ∧ w'.cell? ⟨g, y, none⟩ = some (.int .i64 vy))) (by kernel_rfl) ?_ (fun hHeld1 => ?_)
                  · (try dsimp only); exact HK.out _ (Kept.refl _).drew
                  refine tkW 0 rfl ?_; refine tkW 1 rfl ?_; refine tkW 2 rfl ?_; refine tkW 3 rfl ?_
                  try simp only [Act.put, List.setIfInBounds_toArray, List.set_cons_zero, List.set_cons_succ, List.getElem_toArray, List.getElem_cons_succ, List.getElem_cons_zero]
                  refine tkW 4 rfl ?_; refine tkW 5 rfl ?_
                  try simp only [Act.put, List.setIfInBounds_toArray, List.set_cons_zero, List.set_cons_succ, List.getElem_toArray, List.getElem_cons_succ, List.getElem_cons_zero]
                  refine wpAnyH_ready (rs := [6]) (by kernel_rfl) (by simp) ?_
                  refine AllReadyH.cons rfl (fun K hK => ?_) AllReadyH.nil
                  first | (with_reducible refine iteYes ?hcx ?htx; case hcx => kernel_rfl) | rw [if_pos (by rfl)]
                  simp only [List.getElem_toArray, List.getElem_cons_succ, List.getElem_cons_zero]
                  go_simp
                  (go_at_call 7; refine (box_calls _ _ _ _ _ _ _).mono ?_; rintro e w7 ⟨rfl, k7⟩)
                  try go_wp2_with fail
                  refine hK.out _ _ ?_ (fun hHeld2 => ?_)
                  · (try dsimp only); exact HK.out _ ((Kept.refl w6).drew.trans k7)
                  clear hK K hHeld1
                  try simp only [Act.put, List.setIfInBounds_toArray, List.set_cons_zero, List.set_cons_succ, List.getElem_toArray, List.getElem_cons_succ, List.getElem_cons_zero]
                  refine wpAnyH_ready (rs := [7]) (by kernel_rfl) (by simp) ?_
                  refine AllReadyH.cons rfl (fun K hK => ?_) AllReadyH.nil
                  first | (with_reducible refine iteYes ?hcx ?htx; case hcx => kernel_rfl) | rw [if_pos (by rfl)]
                  simp only [List.getElem_toArray, List.getElem_cons_succ, List.getElem_cons_zero]
                  go_simp
                  (go_at_call 11; refine (meet_true p q _ HM.out).mono ?_; rintro e w8 ⟨rfl, k8⟩)
                  try go_wp2_with fail
                  refine hK.out _ _ ?_ (fun hHeld3 => ?_)
                  · (try dsimp only); exact HK.out _ (((Kept.refl w6).drew.trans k7).trans k8)
                  clear hK K hHeld2
                  try simp only [Act.put, List.setIfInBounds_toArray, List.set_cons_zero, List.set_cons_succ, List.getElem_toArray, List.getElem_cons_succ, List.getElem_cons_zero]
                  refine tkW 8 rfl ?_; refine tkW 9 rfl ?_; refine tkW 10 rfl ?_; refine tkW 11 rfl ?_
                  try simp only [Act.put, List.setIfInBounds_toArray, List.set_cons_zero, List.set_cons_succ, List.getElem_toArray, List.getElem_cons_succ, List.getElem_cons_zero]
                  refine tkW 12 rfl ?_; refine tkW 13 rfl ?_
                  try simp only [Act.put, List.setIfInBounds_toArray, List.set_cons_zero, List.set_cons_succ, List.getElem_toArray, List.getElem_cons_succ, List.getElem_cons_zero]
                  refine tkW 14 rfl ?_; refine tkW 15 rfl ?_; refine tkW 16 rfl ?_; refine tkW 17 rfl ?_
                  try simp only [Act.put, List.setIfInBounds_toArray, List.set_cons_zero, List.set_cons_succ, List.getElem_toArray, List.getElem_cons_succ, List.getElem_cons_zero]
                  refine tkW 18 rfl ?_; refine tkW 19 rfl ?_
                  try simp only [Act.put, List.setIfInBounds_toArray, List.set_cons_zero, List.set_cons_succ, List.getElem_toArray, List.getElem_cons_succ, List.getElem_cons_zero]
                  refine tkW (v := .int .i64 (y : Int)) 20 rfl ?_ (by intro w'' hSw; (try dsimp only at hSw); simp only [List.getElem_toArray, List.getElem_cons_succ, List.getElem_cons_zero]; (go_simp <;> rfl))
                  try simp only [Act.put, List.setIfInBounds_toArray, List.set_cons_zero, List.set_cons_succ, List.getElem_toArray, List.getElem_cons_succ, List.getElem_cons_zero]
                  refine tkW 21 rfl ?_; refine tkW 22 rfl ?_; refine tkW 23 rfl ?_
                  try simp only [Act.put, List.setIfInBounds_toArray, List.set_cons_zero, List.set_cons_succ, List.getElem_toArray, List.getElem_cons_succ, List.getElem_cons_zero]
                  refine tkW 24 rfl ?_; refine tkW 25 rfl ?_
                  try simp only [Act.put, List.setIfInBounds_toArray, List.set_cons_zero, List.set_cons_succ, List.getElem_toArray, List.getElem_cons_succ, List.getElem_cons_zero]
                  refine wpAnyH_done (by kernel_rfl) ?_ _
                  have HP9 : Hid (LX w t m kx fat M2 kd i q w8 ∧ SlInts w8 (.slice (some ⟨g, 0, none⟩) xs.length cp2) xs) := by
                    have o8 : Only [] w6 w8 := Only.of_kept (((Kept.refl w6).drew.trans k7).trans k8)
                    exact ⟨H6.out.1.keep o8, H6.out.2.1.kept o8 (by simp)⟩
                  clear HK hHeld3 k7 k8 H6 HP
                  have hl60 := HL.out.2
                  go_wp2_with fail
                  go_roundg (xs.length - (x + 1))
                  case measure => have := H8.out.2; omega
                  case rel => exact ⟨x + 1, by go_num, ⟨by omega, rfl⟩, HP9.out⟩
                · have hx1 : ¬ (0 : Int) < (x : Int) := by omega
                  have HK : Hid (∀ w', Kept w6 w' → VX kx kb q p w6 w') := fun w' k => VX.of k H6.out.1.set H6.out.2.2
                  refine wp_region_held_drew (S := (fun w' => (Kept w6 w' ∧ w'.cell? ⟨kx, 2, none⟩ = some (.int .i64 q.x0) ∧ w'.cell? ⟨kx, 3, none⟩ = some (.int .i64 q.x1) ∧ w'.cell? ⟨kx, 4, none⟩ = some (.int .i64 q.x2) ∧ w'.cell? ⟨kx, 5, none⟩ = some (.int .i64 q.x3) ∧ w'.cell? ⟨kx, 6, none⟩ = some (.int .i64 q.x4) ∧ w'.cell? ⟨kx, 7, none⟩ = some (.int .i64 q.x5)) ∧ w'.cell? ⟨kb, 0, none⟩ = some (.int .i64 p.x0) ∧ w'.cell? ⟨kb, 1, none⟩ = some (.int .i64 p.x1) ∧ w'.cell? ⟨kb, 2, none⟩ = some (.int .i64 p.x2) ∧ w'.cell? ⟨kb, 3, none⟩ = some (.int .i64 p.x3) ∧ w'.cell? ⟨kb, 4, none⟩ = some (.int .i64 p.x4) ∧ w'.cell? ⟨kb, 5, none⟩ = some (.int .i64 p.x5))) (by kernel_rfl) ?_ (fun hHeld1 => ?_)
                  · (try dsimp only); exact HK.out _ (Kept.refl _).drew
                  refine tkW 0 rfl ?_; refine tkW 1 rfl ?_; refine tkW 2 rfl ?_; refine tkW 3 rfl ?_
                  try simp only [Act.put, List.setIfInBounds_toArray, List.set_cons_zero, List.set_cons_succ, List.getElem_toArray, List.getElem_cons_succ, List.getElem_cons_zero]
                  refine tkW 4 rfl ?_; refine tkW 5 rfl ?_
                  try simp only [Act.put, List.setIfInBounds_toArray, List.set_cons_zero, List.set_cons_succ, List.getElem_toArray, List.getElem_cons_succ, List.getElem_cons_zero]
                  refine wpAnyH_ready (rs := [6]) (by kernel_rfl) (by simp) ?_
                  refine AllReadyH.cons rfl (fun K hK => ?_) AllReadyH.nil
                  first | (with_reducible refine iteYes ?hcx ?htx; case hcx => kernel_rfl) | rw [if_pos (by rfl)]
                  simp only [List.getElem_toArray, List.getElem_cons_succ, List.getElem_cons_zero]
                  go_simp
                  (go_at_call 7; refine (box_calls _ _ _ _ _ _ _).mono ?_; rintro e w7 ⟨rfl, k7⟩)
                  try go_wp2_with fail
                  refine hK.out _ _ ?_ (fun hHeld2 => ?_)
                  · (try dsimp only); exact HK.out _ ((Kept.refl w6).drew.trans k7)
                  clear hK K hHeld1
                  try simp only [Act.put, List.setIfInBounds_toArray, List.set_cons_zero, List.set_cons_succ, List.getElem_toArray, List.getElem_cons_succ, List.getElem_cons_zero]
                  refine wpAnyH_ready (rs := [7]) (by kernel_rfl) (by simp) ?_
                  refine AllReadyH.cons rfl (fun K hK => ?_) AllReadyH.nil
                  first | (with_reducible refine iteYes ?hcx ?htx; case hcx => kernel_rfl) | rw [if_pos (by rfl)]
                  simp only [List.getElem_toArray, List.getElem_cons_succ, List.getElem_cons_zero]
                  go_simp
                  (go_at_call 11; refine (meet_true p q _ HM.out).mono ?_; rintro e w8 ⟨rfl, k8⟩)
                  try go_wp2_with fail
                  refine hK.out _ _ ?_ (fun hHeld3 => ?_)
                  · (try dsimp only); exact HK.out _ (((Kept.refl w6).drew.trans k7).trans k8)
                  clear hK K hHeld2
                  try simp only [Act.put, List.setIfInBounds_toArray, List.set_cons_zero, List.set_cons_succ, List.getElem_toArray, List.getElem_cons_succ, List.getElem_cons_zero]
                  refine tkW 8 rfl ?_; refine tkW 9 rfl ?_; refine tkW 10 rfl ?_; refine tkW 11 rfl ?_
                  try simp only [Act.put, List.setIfInBounds_toArray, List.set_cons_zero, List.set_cons_succ, List.getElem_toArray, List.getElem_cons_succ, List.getElem_cons_zero]
                  refine tkW 12 rfl ?_; refine tkW 13 rfl ?_
                  try simp only [Act.put, List.setIfInBounds_toArray, List.set_cons_zero, List.set_cons_succ, List.getElem_toArray, List.getElem_cons_succ, List.getElem_cons_zero]
                  refine skW 14 rfl ?_; refine skW 15 rfl ?_; refine skW 16 rfl ?_; refine skW 17 rfl ?_
                  try simp only [Act.put, List.setIfInBounds_toArray, List.set_cons_zero, List.set_cons_succ, List.getElem_toArray, List.getElem_cons_succ, List.getElem_cons_zero]
                  refine skW 18 rfl ?_; refine skW 19 rfl ?_; refine skW 20 rfl ?_; refine skW 21 rfl ?_
                  try simp only [Act.put, List.setIfInBounds_toArray, List.set_cons_zero, List.set_cons_succ, List.getElem_toArray, List.getElem_cons_succ, List.getElem_cons_zero]
                  refine skW 22 rfl ?_; refine skW 23 rfl ?_
                  try simp only [Act.put, List.setIfInBounds_toArray, List.set_cons_zero, List.set_cons_succ, List.getElem_toArray, List.getElem_cons_succ, List.getElem_cons_zero]
                  refine tkW 24 rfl ?_; refine tkW 25 rfl ?_
                  try simp only [Act.put, List.setIfInBounds_toArray, List.set_cons_zero, List.set_cons_succ, List.getElem_toArray, List.getElem_cons_succ, List.getElem_cons_zero]
                  refine wpAnyH_done (by kernel_rfl) ?_ _
                  have HP9 : Hid (LX w t m kx fat M2 kd i q w8 ∧ SlInts w8 (.slice (some ⟨g, 0, none⟩) xs.length cp2) xs) := by
                    have o8 : Only [] w6 w8 := Only.of_kept (((Kept.refl w6).drew.trans k7).trans k8)
                    exact ⟨H6.out.1.keep o8, H6.out.2.1.kept o8 (by simp)⟩
                  clear HK hHeld3 k7 k8 H6 HP
                  have hl60 := HL.out.2
                  go_wp2_with fail
                  go_roundg (xs.length - (x + 1))
                  case measure => have := H8.out.2; omega
                  case rel => exact ⟨x + 1, by go_num, ⟨by omega, rfl⟩, HP9.out⟩
              · have hxl : ¬ (x : Int) < (xs.length : Int) := by omega
                go_wp2_with fail
                go_meet
                case rel => exact HP.out.1
        case rest =>
          clear HQ
          have HX : Hid (LX w t m kx fat M2 kd i q wc) := hcut
          clear hcut
          obtain ⟨MD, hown, hbk⟩ := HX.out.map
          have HB : Hid (BookM MD M2) := hbk
          clear hbk
          go_upto_block 9 with (first | (at_range; refine wpList_range_own _ rfl _ 30 rfl 3 37 intKey Tryz.underlying30 _ m _ MD rfl hown ?_; intro w0 hrg0 hg0 hs0))
          have H0 : Hid (RG m wc.heap.size M2 MD (Maps.size MD) [] M2 (Maps.has MD) w0 ∧ Only [] wc w0) := ⟨RG.start HB.out hrg0, (Only.refl [] wc).grown hg0 (fun k hk => by cases hk)⟩
          clear hrg0 hg0 hs0 hown
          go_frame
          generalize hr : wc.heap.size = r at H0 ⊢
          have HR : Hid (wc.heap.size = r) := hr
          clear hr
          go_cut [18, 24] from 63 to 242 (fun s18 s24 wd => s18 = .int .i64 (xs.length : Int) ∧ LX w t m kx fat M2 kd i q wd)
          case first =>
            as_aux_lemma =>
              go_wp2_with fail
              go_loopg [18] (Maps.size MD) (fun k nv wr => ∃ nn : Nat, ∃ dn rem left, nv = .int .i64 (nn : Int) ∧ Hid (nn = cntM dn q ∧ RG m r M2 MD k dn rem left wr ∧ Only [] wc wr))
              case atStart => exact ⟨0, _, _, _, rfl, rfl, H0.out.1, H0.out.2⟩
              case round =>
                obtain ⟨nn, dn, rem, left, rfl, HP⟩ := hrel
                have hrg := HP.out.2.1.rng
                clear H0
                go_wp2_with (first | (at_next; refine wpList_next_ranges _ rfl _ rfl 3 intKey boxElem (Value.int .i64) boxV key_int boxElem_box m r _ MD _ _ rfl hrg ?_ ?_))
                · intro hc0 hl0
                  have HE : Hid (nn = xs.length) := by
                    show nn = xs.length
                    rw [HP.out.1, HL.out.1, cntM_perm (HP.out.2.1.done hl0)]
                  clear hrg hl0 hc0
                  go_wp2_with fail
                  go_meet
                  case rel => exact ⟨by rw [HE.out], HX.out.keep HP.out.2.2⟩
                · intro x p kl y1 y2 w1 cnt1 hkey hlk hv hat hrg1 hlt hg1 hs1 hen
                  obtain ⟨rem', hzM, hRG⟩ := HP.out.2.1.came HB.out (y := (y1, y2)) hkey hlk hv hat hrg1
                  have ho1 : Only [] wc w1 := HP.out.2.2.then ((Only.refl [r] wr).grown hg1 (fun k hk => by injection hk with hk; exact Or.inl (by simp [hk]))) (fun b hb => by simp only [List.mem_singleton] at hb; subst hb; exact Or.inr (Nat.le_of_eq HR.out))
                  have HN : Hid (RG m r M2 MD cnt1 (dn ++ [(x, p)]) rem' (fun z => left z && !z.sameKey kl) w1 ∧ Only [] wc w1 ∧ cnt1 < gk) := ⟨hRG, ho1, hlt⟩
                  have hnn : nn < 60 := by
                    have h1 := hRG.perm.length_eq
                    have h2 := HX.out.len
                    have h3 := cntM_le dn q
                    have h4 := HP.out.1
                    simp only [List.length_append, List.length_cons, List.length_nil] at h1
                    omega
                  unfold boxV at hen ⊢
                  clear hrg hkey hlk hv hat hrg1 hlt hg1 hs1 hzM hRG ho1
                  go_upto_region 52 with fail
                  clear hen
                  have H6 : Hid (Only [] w1 (w1.alloc (.cells #[.int .i64 (p.x0), .int .i64 (p.x1), .int .i64 (p.x2), .int .i64 (p.x3), .int .i64 (p.x4), .int .i64 (p.x5)] 37)) ∧ (w1.alloc (.cells #[.int .i64 (p.x0), .int .i64 (p.x1), .int .i64 (p.x2), .int .i64 (p.x3), .int .i64 (p.x4), .int .i64 (p.x5)] 37)).heap[w1.heap.size]? = some (.cells #[.int .i64 (p.x0), .int .i64 (p.x1), .int .i64 (p.x2), .int .i64 (p.x3), .int .i64 (p.x4), .int .i64 (p.x5)] 37)) := ⟨(Only.refl [] w1).alloc _, (MapKept.heap_alloc w1 _).1⟩
                  revert H6
                  generalize w1.heap.size = kb
                  generalize World.alloc w1 _ = w6
                  intro H6
                  have HK : Hid (∀ w', Kept w6 w' → VX kx kb q p w6 w') := fun w' k => VX.of k (HX.out.keep (HN.out.2.1.trans H6.out.1)).set H6.out.2
                  obtain ⟨mv, hmv⟩ : ∃ mv, meetX p q = mv := ⟨_, rfl⟩
                  have HM : Hid (meetX p q = mv) := hmv
                  clear hmv
                  refine wp_region_held_drew (S := (fun w' => (Kept w6 w' ∧ w'.cell? ⟨kx, 2, none⟩ = some (.int .i64 q.x0) ∧ w'.cell? ⟨kx, 3, none⟩ = some (.int .i64 q.x1) ∧ w'.cell? ⟨kx, 4, none⟩ = some (.int .i64 q.x2) ∧ w'.cell? ⟨kx, 5, none⟩ = some (.int .i64 q.x3) ∧ w'.cell? ⟨kx, 6, none⟩ = some (.int .i64 q.x4) ∧ w'.cell? ⟨kx, 7, none⟩ = some (.int .i64 q.x5)) ∧ w'.cell? ⟨kb, 0, none⟩ = some (.int .i64 p.x0) ∧ w'.cell? ⟨kb, 1, none⟩ = some (.int .i64 p.x1) ∧ w'.cell? ⟨kb, 2, none⟩ = some (.int .i64 p.x2) ∧ w'.cell? ⟨kb, 3, none⟩ = some (.int .i64 p.x3) ∧ w'.cell? ⟨kb, 4, none⟩ = some (.int .i64 p.x4) ∧ w'.cell? ⟨kb, 5, none⟩ = some (.int .i64 p.x5))) (by kernel_rfl) ?_ (fun hHeld1 => ?_)
                  · (try dsimp only); exact HK.out _ (Kept.refl _).drew
                  refine tkW 0 rfl ?_; refine tkW 1 rfl ?_; refine tkW 2 rfl ?_
                  try simp only [Act.put, List.setIfInBounds_toArray, List.set_cons_zero, List.set_cons_succ, List.getElem_toArray, List.getElem_cons_succ, List.getElem_cons_zero]
                  refine wpAnyH_ready (rs := [3]) (by kernel_rfl) (by simp) ?_
                  refine AllReadyH.cons rfl (fun K hK => ?_) AllReadyH.nil
                  first | (with_reducible refine iteYes ?hcx ?htx; case hcx => kernel_rfl) | rw [if_pos (by rfl)]
                  simp only [List.getElem_toArray, List.getElem_cons_succ, List.getElem_cons_zero]
                  go_simp
                  (go_at_call 7; refine (box_calls _ _ _ _ _ _ _).mono ?_; rintro e w7 ⟨rfl, k7⟩)
                  try go_wp2_with fail
                  refine hK.out _ _ ?_ (fun hHeld2 => ?_)
                  · (try dsimp only); exact HK.out _ ((Kept.refl w6).drew.trans k7)
                  clear hK K hHeld1
                  try simp only [Act.put, List.setIfInBounds_toArray, List.set_cons_zero, List.set_cons_succ, List.getElem_toArray, List.getElem_cons_succ, List.getElem_cons_zero]
                  refine wpAnyH_ready (rs := [4]) (by kernel_rfl) (by simp) ?_
                  refine AllReadyH.cons rfl (fun K hK => ?_) AllReadyH.nil
                  first | (with_reducible refine iteYes ?hcx ?htx; case hcx => kernel_rfl) | rw [if_pos (by rfl)]
                  simp only [List.getElem_toArray, List.getElem_cons_succ, List.getElem_cons_zero]
                  go_simp
                  (go_at_call 11; refine (meet_bool p q mv _ HM.out).mono ?_; rintro e w8 ⟨rfl, k8⟩)
                  try go_wp2_with fail
                  refine hK.out _ _ ?_ (fun hHeld3 => ?_)
                  · (try dsimp only); exact HK.out _ (((Kept.refl w6).drew.trans k7).trans k8)
                  clear hK K hHeld2
                  try simp only [Act.put, List.setIfInBounds_toArray, List.set_cons_zero, List.set_cons_succ, List.getElem_toArray, List.getElem_cons_succ, List.getElem_cons_zero]
                  refine wpAnyH_done (by kernel_rfl) ?_ _
                  have H9 : Hid (Only [] w1 w8) := H6.out.1.trans (Only.of_kept (((Kept.refl w6).drew.trans k7).trans k8))
                  clear HK hHeld3 k7 k8 H6
                  cases mv with
                  | true =>
                    go_wp2_with fail
                    go_roundg cnt1
                    case measure => exact HN.out.2.2
                    case rel => exact ⟨nn + 1, _, _, _, by go_num, by rw [cntM_snoc, if_pos HM.out, HP.out.1], HN.out.1.only H9.out (by simp) (by simp), HN.out.2.1.trans H9.out⟩
                  | false =>
                    go_wp2_with fail
                    go_roundg cnt1
                    case measure => exact HN.out.2.2
                    case rel => exact ⟨nn, _, _, _, rfl, by rw [cntM_snoc, if_neg (by rw [HM.out]; simp), HP.out.1]; rfl, HN.out.1.only H9.out (by simp) (by simp), HN.out.2.1.trans H9.out⟩
          case rest =>
            clear HX HB H0 HR
            obtain ⟨rfl, hlx⟩ := hcut
            have HX : Hid (LX w t m kx fat M2 kd i q wc) := hlx
            clear hlx
            have hlen := HX.out.map.len
            go_wp2_with fail
            refine (show Calls Tryz.prog 12 #[.pointer (some ⟨t, 0, none⟩)] wc _ from (by obtain ⟨D, hT, _⟩ := HX.out.tree.ex; exact many_calls t fat D M2 wc hT)).mono ?_
            rintro e w9 ⟨rfl, hw9⟩
            subst hw9
            go_wp2_with fail
            refine (show Calls Tryz.prog 14 #[.pointer (some ⟨t, 0, none⟩)] w9 _ from (by obtain ⟨D, hT, _⟩ := HX.out.tree.ex; exact high_calls t fat D M2 w9 hT)).mono ?_
            rintro e w10 ⟨⟨hh, rfl, hok⟩, hw10⟩
            subst hw10
            have HH : Hid (HighOk hh M2.length) := hok
            clear hok
            go_wp2_with fail
            refine (lawHigh_calls hh M2.length _ HH.out).mono ?_
            rintro e w11 ⟨rfl, hw11⟩
            subst hw11
            clear hlen
            have hn150 := HG.out.2.2.1
            go_wp2_with fail
            go_roundg (n - (j + 1))
            case measure => have := HI2.out; omega
            case rel => exact ⟨j + 1, M2, by go_num, rfl, by omega, HX.out.stop⟩
    · skip
      as_aux_lemma =>
        have hjl : ¬ (j : Int) < (n : Int) := by omega
        obtain ⟨wB, hwB⟩ : ∃ wB, wB = wr := ⟨wr, rfl⟩
        subst hwB
        have HS : Hid (LS w t m fat M wB) := HI.out.2
        clear HI
        obtain ⟨MD, hown, hbk⟩ := HS.out.map
        have HB : Hid (BookM MD M ∧ M.length ≤ 60) := ⟨hbk, by obtain ⟨D, hT, _⟩ := HS.out.tree.ex; exact hT.small⟩
        clear hbk
        go_wp2_with (first | (at_range; refine wpList_range_own _ rfl _ 30 rfl 3 37 intKey Tryz.underlying30 _ m _ MD rfl hown ?_; intro w0 hrg0 hg0 hs0))
        have H0 : Hid (RG m wB.heap.size M MD (Maps.size MD) [] M (Maps.has MD) w0 ∧ Only [] wB w0) := ⟨RG.start HB.out.1 hrg0, (Only.refl [] wB).grown hg0 (fun k hk => by cases hk)⟩
        clear hrg0 hg0 hs0 hown
        generalize hr : wB.heap.size = r at H0 ⊢
        have HR : Hid (wB.heap.size = r) := hr
        clear hr
        go_loopg [25] (Maps.size MD) (fun k nv wx => ∃ nn : Nat, ∃ dn rem left, nv = .int .i64 (nn : Int) ∧ Hid (nn = crossS dn M ∧ RG m r M MD k dn rem left wx ∧ Only [] wB wx))
        case atStart => exact ⟨0, _, _, _, rfl, rfl, H0.out.1, H0.out.2⟩
        case round =>
          obtain ⟨nn, dn, rem, left, rfl, HP⟩ := hrel
          have hrg := HP.out.2.1.rng
          clear H0
          obtain ⟨wx, hwB⟩ : ∃ wx, wx = wr := ⟨wr, rfl⟩
          subst hwB
          go_wp2_with (first | (at_next; refine wpList_next_ranges _ rfl _ rfl 3 intKey boxElem (Value.int .i64) boxV key_int boxElem_box m r _ MD _ _ rfl hrg ?_ ?_))
          · skip
            as_aux_lemma =>
              intro hc0 hl0
              have HE : Hid (nn = (pairsM M).length) := by
                show nn = (pairsM M).length
                rw [HP.out.1, pairsM_len, crossS_perm (HP.out.2.1.done hl0)]
              clear hrg hl0 hc0
              have HT : Hid (TS w t [m] fat M wx ∧ BMap wx m M ∧ Only [] w wx) := ⟨HS.out.tree.keep HP.out.2.2 (by simp), HS.out.map.only HP.out.2.2 (by simp), HS.out.old.trans HP.out.2.2⟩
              have HM : Hid ((M.map Prod.fst).Nodup ∧ M.length ≤ 60 ∧ (∀ z ∈ M, In64 z.1)) := by obtain ⟨D, hT, _⟩ := HS.out.tree.ex; exact ⟨hT.keys, hT.small, hT.ids⟩
              obtain rfl : nn = (pairsM M).length := HE.out
              clear HE HP HR
              go_wp2_with fail
              refine (show Calls Tryz.prog 15 #[.pointer (some ⟨t, 0, none⟩)] wx _ from (by obtain ⟨D, hT, _⟩ := HT.out.1.ex; exact pairs_calls t fat D M wx hT)).mono ?_
              rintro e w4 ⟨v, rfl, hsp, o4, hn4⟩
              obtain ⟨a4, c4, rfl, hsh⟩ := hsp.shape
              have HQ : Hid (BMap w4 m M ∧ Only [] w w4) := ⟨HT.out.2.1.only o4 (by simp), HT.out.2.2.trans o4⟩
              have HPP : Hid ((∀ c ∈ pairsM M, ∃ a b, (c.1, a) ∈ M ∧ (c.2, b) ∈ M ∧ c.1 < c.2 ∧ meetX a b = true) ∧ (pairsM M).Pairwise (fun x y => x.1 < y.1 ∨ (x.1 = y.1 ∧ x.2 < y.2)) ∧ (pairsM M).length ≤ 3600) := by
                refine ⟨fun c hc => pairsM_mem hc, pairsM_rise HM.out.1, ?_⟩
                rw [pairsM_len]
                have h3 := crossS_le M M
                have h5 : M.length * M.length ≤ 60 * 60 := Nat.mul_le_mul HM.out.2.1 HM.out.2.1
                omega
              clear HT hsp o4 hn4
              generalize pairsM M = P at HPP hsh ⊢
              have HSH : Hid (∀ j (hj : j < P.length), ∃ g, a4 = some ⟨g, 0, none⟩ ∧ w4.cell? ⟨g, j * 2, none⟩ = some (.int .i64 (P[j].1)) ∧ w4.cell? ⟨g, j * 2 + 1, none⟩ = some (.int .i64 (P[j].2))) := hsh
              clear hsh
              go_upto_block 15 with fail
              refine play_last w4 m c4 a4 M P _ _ _ _ _ _ _ _ _ _ _ _ _ _ _ _ _ _ _ _ _ _ _ _ _ _ _ _ _ _ _ _ _ _ _ _ _ _ _ _ _ _ _ _ _ _ _ _ _ _ _ _ _ _ _ _ _ _ _ _ _ _ _ _ _ _ _ _ _ _ _ _ _ _ _ _ _ _ _ _ _ _ _ _ _ _ _ _ _ _ _ _ _ _ _ _ _ _ _ _ _ _ _ _ _ _ _ _ _ _ _ _ _ _ _ _ _ _ _ _ _ _ _ _ _ _ _ _ _ _ _ _ _ _ _ _ _ _ _ _ _ _ _ _ _ _ _ _ _ _ _ _ _ _ _ _ _ _ _ _ _ _ _ _ _ _ _ _ _ _ _ _ _ _ _ _ _ _ _ _ _ _ _ _ _ _ _ _ _ _ _ _ _ _ _ _ _ _ _ _ _ _ _ _ _ _ _ _ _ _ _ _ _ _ _ _ _ _ _ _ _ _ _ _ _ _ _ _ _ _ _ _ _ _ _ _ _ _ _ _ _ _ _ _ _ _ _ _ _ _ _ _ _ _ _ _ _ _ _ _ _ _ _ _ _ _ _ _ _ _ _ _ _ _ _ _ _ _ _ _ _ _ _ _ _ _ _ _ _ _ _ _ _ _ _ _ _ _ _ _ _ _ _ _ _ _ _ _ _ _ _ _ _ _ _ _ _ _ _ _ _ _ _ _ _ _ _ _ _ _ _ _ _ _ _ _ _ _ _ _ _ _ _ _ _ _ _ _ _ _ _ _ _ _ _ _ _ _ _ _ _ _ _ _ _ _ _ _ HQ.out.1 HM.out.2.2 HPP HSH ?_
              intro u4 u31 u32 u33 u34 u35 u269 u270 u271 u272 u273 u274 u275 u276 u277 u278 u279 u280 u281 u282 u283 u284 u285 u286 u287 u288 u289 u290 u291 u292 u293 u294 u295 u296 u297 u298 u299 u300 u301 u302 u303 u304 u305 u306 u307 u308 u309 u310 u311 u312 u313 u314 u315 u316 u317 u318 u319 u320 u321 u322 u323 u324 u325 u326 u327 u328 u329 u330 u331 u332 u333 u334 u335 u336 u337 u338 u339 u340 u341 u342 u343 u344 u345 u346 u347 u348 u349 u350 u351 u352 u353 u354 u355 u356 u357 u358 u359 u360 u361 u362 u363 u364 u365 wz ho
              have HO : Hid (Only [] w4 wz) := ho
              clear ho
              go_wp2_with fail
              go_ret
              exact ⟨rfl, HQ.out.2.trans HO.out⟩
          · skip
            as_aux_lemma =>
              intro x p kl y1 y2 w1 cnt1 hkey hlk hv hat hrg1 hlt hg1 hs1 hen
              obtain ⟨rem', hzM, hRG⟩ := HP.out.2.1.came HB.out.1 (y := (y1, y2)) hkey hlk hv hat hrg1
              have ho1 : Only [] wB w1 := HP.out.2.2.then ((Only.refl [r] wx).grown hg1 (fun k hk => by injection hk with hk; exact Or.inl (by simp [hk]))) (fun b hb => by simp only [List.mem_singleton] at hb; subst hb; exact Or.inr (Nat.le_of_eq HR.out))
              have HN : Hid (RG m r M MD cnt1 (dn ++ [(x, p)]) rem' (fun z => left z && !z.sameKey kl) w1 ∧ Only [] wB w1 ∧ cnt1 < gk) := ⟨hRG, ho1, hlt⟩
              have hown := hRG.rng.owns
              have HC : Hid (nn ≤ 3600) := by
                have h1 := hRG.perm.length_eq
                have h2 := HB.out.2
                have h3 := crossS_le M dn
                have h4 := HP.out.1
                simp only [List.length_append, List.length_cons, List.length_nil] at h1
                have h5 : dn.length * M.length ≤ 60 * 60 := Nat.mul_le_mul (by omega) h2
                show nn ≤ 3600
                omega
              have hn4 := HC.out
              unfold boxV at hen ⊢
              clear hrg hkey hlk hv hat hrg1 hlt hg1 hs1 hzM hRG ho1
              have hown1 := hown.alloc (.cells #[.int .i64 (p.x0), .int .i64 (p.x1), .int .i64 (p.x2), .int .i64 (p.x3), .int .i64 (p.x4), .int .i64 (p.x5)] 37)
              go_wp2_with (first | (at_range; refine wpList_range_own _ rfl _ 30 rfl 3 37 intKey Tryz.underlying30 _ m _ MD rfl hown1 ?_; intro w2 hrg2 hg2 hs2))
              go_frame
              have H2 : Hid (∃ r2, r2 = (w1.alloc (.cells #[.int .i64 (p.x0), .int .i64 (p.x1), .int .i64 (p.x2), .int .i64 (p.x3), .int .i64 (p.x4), .int .i64 (p.x5)] 37)).heap.size ∧ w1.heap.size < r2 ∧ RG m r2 M MD (Maps.size MD) [] M (Maps.has MD) w2 ∧ Only [] w1 w2 ∧ BoxAt2 w2 w1.heap.size p) := by
                have o2 : Only [] (w1.alloc (.cells #[.int .i64 (p.x0), .int .i64 (p.x1), .int .i64 (p.x2), .int .i64 (p.x3), .int .i64 (p.x4), .int .i64 (p.x5)] 37)) w2 := (Only.refl [] _).grown hg2 (fun k hk => by cases hk)
                have o1 : Only [] w1 (w1.alloc (.cells #[.int .i64 (p.x0), .int .i64 (p.x1), .int .i64 (p.x2), .int .i64 (p.x3), .int .i64 (p.x4), .int .i64 (p.x5)] 37)) := (Only.refl [] w1).alloc _
                exact ⟨_, rfl, (Array.getElem?_eq_some_iff.1 (MapKept.heap_alloc w1 _).1).1, RG.start HB.out.1 hrg2, o1.trans o2, BoxAt2.only (MapKept.heap_alloc w1 _).1 o2⟩
              clear hrg2 hg2 hs2 hown hown1 hen
              obtain ⟨r2, hr2, h21, h22, h23, h24⟩ := H2.out
              have HR2 : Hid (w1.heap.size < r2 ∧ RG m r2 M MD (Maps.size MD) [] M (Maps.has MD) w2 ∧ Only [] w1 w2 ∧ BoxAt2 w2 w1.heap.size p) := ⟨h21, h22, h23, h24⟩
              simp only [← hr2]
              clear H2 hr2 h21 h22 h23 h24
              generalize hkb : w1.heap.size = kb at HR2 ⊢
              have HKB : Hid (w1.heap.size = kb) := hkb
              clear hkb
              go_loopg [25] (Maps.size MD) (fun k nv wy => ∃ n2 : Nat, ∃ dn2 rem2 left2, nv = .int .i64 (n2 : Int) ∧ Hid (n2 = nn + crossC (x, p) dn2 ∧ RG m r2 M MD k dn2 rem2 left2 wy ∧ Only [] w1 wy ∧ BoxAt2 wy kb p))
              case atStart => exact ⟨nn, _, _, _, rfl, rfl, HR2.out.2.1, HR2.out.2.2.1, HR2.out.2.2.2⟩
              case round =>
                obtain ⟨n2, dn2, rem2, left2, rfl, HP2⟩ := hrel
                have hrg := HP2.out.2.1.rng
                obtain ⟨wy, hwB⟩ : ∃ wy, wy = wr := ⟨wr, rfl⟩
                subst hwB
                go_wp2_with (first | (at_next; refine wpList_next_ranges _ rfl _ rfl 3 intKey boxElem (Value.int .i64) boxV key_int boxElem_box m r2 _ MD _ _ rfl hrg ?_ ?_))
                · intro hc0 hl0
                  have HE : Hid (n2 = crossS (dn ++ [(x, p)]) M) := by
                    show n2 = _
                    rw [HP2.out.1, crossS_snoc, HP.out.1, crossC_perm _ (HP2.out.2.1.done hl0)]
                  clear hrg hl0 hc0
                  go_wp2_with fail
                  go_roundg cnt1
                  case measure => exact HN.out.2.2
                  case rel => exact ⟨n2, _, _, _, rfl, HE.out, HN.out.1.only HP2.out.2.2.1 (by simp) (by simp), HN.out.2.1.trans HP2.out.2.2.1⟩
                · intro x2 p2 kl2 y3 y4 w3 cnt2 hkey hlk hv hat hrg1 hlt hg1 hs1 hen
                  obtain ⟨rem3, hzM, hRG⟩ := HP2.out.2.1.came HB.out.1 (y := (y3, y4)) hkey hlk hv hat hrg1
                  have hy3 : Only [r2] wy w3 := (Only.refl [r2] wy).grown hg1 (fun k hk => by injection hk with hk; exact Or.inl (by simp [hk]))
                  have hb3 : BoxAt2 w3 kb p := HP2.out.2.2.2.only hy3 (by have := HR2.out.1; simp; omega)
                  have ho3 : Only [] w1 w3 := HP2.out.2.2.1.then hy3 (fun b hb => by simp only [List.mem_singleton] at hb; subst hb; exact Or.inr (by have := HKB.out; have := HR2.out.1; omega))
                  have HN2 : Hid (RG m r2 M MD cnt2 (dn2 ++ [(x2, p2)]) rem3 (fun z => left2 z && !z.sameKey kl2) w3 ∧ Only [] w1 w3 ∧ BoxAt2 w3 kb p ∧ cnt2 < gk) := ⟨hRG, ho3, hb3, hlt⟩
                  have hn2 : n2 ≤ 3660 := by
                    have h1 := hRG.perm.length_eq
                    have h2 := HB.out.2
                    have h3 := crossC_le (x, p) dn2
                    have h4 := HP2.out.1
                    have h5 := HC.out
                    simp only [List.length_append, List.length_cons, List.length_nil] at h1
                    omega
                  unfold boxV at hen ⊢
                  clear hrg hkey hlk hv hat hrg1 hlt hg1 hs1 hzM hRG ho3 hb3 hy3
                  by_cases hlt2 : x < x2
                  · obtain ⟨mv, hmv⟩ : ∃ mv, meetX p p2 = mv := ⟨_, rfl⟩
                    have HM : Hid (meetX p p2 = mv) := hmv
                    clear hmv
                    go_upto_region 63 with fail
                    clear hen
                    have H6 : Hid (Only [] w3 (w3.alloc (.cells #[.int .i64 (p2.x0), .int .i64 (p2.x1), .int .i64 (p2.x2), .int .i64 (p2.x3), .int .i64 (p2.x4), .int .i64 (p2.x5)] 37)) ∧ BoxAt2 (w3.alloc (.cells #[.int .i64 (p2.x0), .int .i64 (p2.x1), .int .i64 (p2.x2), .int .i64 (p2.x3), .int .i64 (p2.x4), .int .i64 (p2.x5)] 37)) w3.heap.size p2) := ⟨(Only.refl [] w3).alloc _, (MapKept.heap_alloc w3 _).1⟩
                    revert H6
                    generalize w3.heap.size = kc
                    generalize World.alloc w3 _ = w6
                    intro H6
                    have u0 := (HN2.out.2.2.1.only H6.out.1).off 0; have u1 := (HN2.out.2.2.1.only H6.out.1).off 1; have u2 := (HN2.out.2.2.1.only H6.out.1).off 2; have u3 := (HN2.out.2.2.1.only H6.out.1).off 3; have u4 := (HN2.out.2.2.1.only H6.out.1).off 4; have u5 := (HN2.out.2.2.1.only H6.out.1).off 5
                    simp only [List.getElem?_toArray, List.getElem?_cons_succ, List.getElem?_cons_zero] at u0 u1 u2 u3 u4 u5
                    have v0 := (H6.out.2).off 0; have v1 := (H6.out.2).off 1; have v2 := (H6.out.2).off 2; have v3 := (H6.out.2).off 3; have v4 := (H6.out.2).off 4; have v5 := (H6.out.2).off 5
                    simp only [List.getElem?_toArray, List.getElem?_cons_succ, List.getElem?_cons_zero] at v0 v1 v2 v3 v4 v5
                    go_wp2_with fail
                    refine (meet_bool p p2 mv _ HM.out).mono ?_
                    rintro e w7 ⟨rfl, k7⟩
                    have H7 : Hid (Only [] w3 w7) := H6.out.1.trans (Only.of_kept k7)
                    clear k7 H6 u0 u1 u2 u3 u4 u5 v0 v1 v2 v3 v4 v5
                    cases mv with
                    | true =>
                      go_wp2_with fail
                      go_roundg cnt2
                      case measure => exact HN2.out.2.2.2
                      case rel => exact ⟨n2 + 1, _, _, _, by go_num, by rw [crossC_snoc, if_pos ⟨hlt2, HM.out⟩, HP2.out.1]; rfl, HN2.out.1.only H7.out (by simp) (by simp), HN2.out.2.1.trans H7.out, HN2.out.2.2.1.only H7.out⟩
                    | false =>
                      go_wp2_with fail
                      go_roundg cnt2
                      case measure => exact HN2.out.2.2.2
                      case rel => exact ⟨n2, _, _, _, rfl, by rw [crossC_snoc, if_neg (by rw [HM.out]; simp), HP2.out.1]; rfl, HN2.out.1.only H7.out (by simp) (by simp), HN2.out.2.1.trans H7.out, HN2.out.2.2.1.only H7.out⟩
                  · go_upto_region 63 with fail
                    clear hen
                    have H7 : Hid (Only [] w3 (w3.alloc (.cells #[.int .i64 (p2.x0), .int .i64 (p2.x1), .int .i64 (p2.x2), .int .i64 (p2.x3), .int .i64 (p2.x4), .int .i64 (p2.x5)] 37))) := (Only.refl [] w3).alloc _
                    revert H7
                    generalize w3.heap.size = kc
                    generalize World.alloc w3 _ = w7
                    intro H7
                    go_wp2_with fail
                    go_roundg cnt2
                    case measure => exact HN2.out.2.2.2
                    case rel => exact ⟨n2, _, _, _, rfl, by rw [crossC_snoc, if_neg (by intro h; have h1 : x < x2 := h.1; omega), HP2.out.1]; rfl, HN2.out.1.only H7.out (by simp) (by simp), HN2.out.2.1.trans H7.out, HN2.out.2.2.1.only H7.out⟩
end Go.Proofs.YtdhbcgdlmkkdfaaGreatDoor
