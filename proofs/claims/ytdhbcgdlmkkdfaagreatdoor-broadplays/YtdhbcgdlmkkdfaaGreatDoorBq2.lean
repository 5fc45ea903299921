/- gyrelaw.BroadPlays: its switch (Put, Remove, Query): whatever step comes. -/
import Derived.Test.YtdhbcgdlmkkdfaaGreatDoorBpr
import Derived.Deep.CutRange
import Derived.Deep.CutBlock
namespace Go.Proofs.YtdhbcgdlmkkdfaaGreatDoor
open Go.ChangeShapes Go.WideShapes Go.ChangeAt Go.RowKit
set_option linter.unusedVariables false
set_option linter.unusedSimpArgs false

def blockOf (n : Nat) : Code → Option Code
  | .block k c => if k = n then some (.block k c) else blockOf n c
  | .seq a b => match blockOf n a with
    | some c => some c
    | none => blockOf n b
  | .cond _ a b => match blockOf n a with
    | some c => some c
    | none => blockOf n b
  | .loop c => blockOf n c
  | _ => none
def code2 (f : Func) : Code := ((f.body.bind (blockOf 2)).getD .skip)
set_option maxRecDepth 1000000 in
set_option maxHeartbeats 40000000 in
theorem play_switch (w : World) (t m kx : Nat) (fat : Int) (M : List (Int × Bx)) (kd i : Int) (q : Bx) (th : Bool) (w5 : World) (c1 c2 c3 c4 c6 c8 c10 c12 c13 c14 c15 c16 c17 c18 c19 c20 c21 c22 c23 c24 c25 c26 c27 c28 c29 c30 c31 c32 c33 c34 c35 c36 c37 c38 c39 c40 c41 c42 c43 c44 c45 c46 c47 c48 c49 c50 c51 c52 c53 c54 c55 c56 c57 c58 c59 c60 c61 c62 c63 c64 c65 c66 c67 c68 c69 c70 c71 c72 c73 c74 c75 c76 c77 c78 c79 c80 c82 c83 c84 c85 c86 c87 c88 c89 c90 c91 c92 c93 c94 c95 c96 c97 c98 c99 c100 c101 c102 c103 c104 c105 c106 c107 c108 c109 c110 c111 c112 c113 c114 c115 c116 c117 c118 c119 c120 c121 c122 c123 c124 c125 c126 c127 c128 c129 c130 c131 c132 c133 c134 c135 c136 c137 c138 c139 c140 c141 c142 c143 c144 c145 c146 c147 c148 c149 c150 c151 c152 c153 c154 c155 c156 c157 c158 c159 c160 c161 c162 c163 c164 c165 c166 c167 c168 c169 c170 c171 c172 c173 c174 c175 c176 c177 c178 c179 c180 c181 c182 c183 c184 c185 c186 c187 c188 c189 c190 c191 c192 c193 c194 c195 c196 c197 c198 c199 c200 c201 c202 c203 c204 c205 c206 c207 c208 c209 c210 c211 c212 c213 c214 c215 c216 c217 c218 c219 c220 c221 c222 c223 c224 c225 c226 c227 c228 c229 c230 c231 c232 c233 c234 c235 c236 c237 c238 c239 c240 c241 c242 c243 c244 c245 c246 c247 c248 c249 c250 c251 c252 c253 c254 c255 c256 c257 c258 c259 c260 c261 c262 c263 c264 c265 c266 c267 c268 c269 c270 c271 c272 c273 c274 c275 c276 c277 c278 c279 c280 c281 c282 c283 c284 c285 c286 c287 c288 c289 c290 c291 c292 c293 c294 c295 c296 c297 c298 c299 c300 c301 c302 c303 c304 c305 c306 c307 c308 c309 c310 c311 c312 c313 c314 c315 c316 c317 c318 c319 c320 c321 c322 c323 c324 c325 c326 c327 c328 c329 c330 c331 c332 c333 c334 c335 c336 c337 c338 c339 c340 c341 c342 c343 c344 c345 c346 c347 c348 c349 c350 c351 c352 c353 c354 c355 c356 c357 c358 c359 c360 c361 c362 c363 c364 c365 c366 c367 c368 c369 : Value) (K K1 K2 K3 : Act → World → Prop) (Pf : Ending → World → Prop)
    (HG : Hid (EtIs w ∧ True)) (HD : Hid (In64 i)) (hth : Hid (th = decide (i ∈ M.map Prod.fst))) (H5 : Hid (LX w t m kx fat M kd i q w5))
    (hK : ∀ (u4 u12 u13 u14 u15 u16 u17 u63 u64 u65 u66 u67 u68 u69 u70 u71 u72 u73 u74 u75 u76 u77 u78 u79 u80 u81 u82 u83 u84 u85 u86 u87 u88 u89 u90 u91 u92 u93 u94 u95 u96 u97 u98 u99 u100 u101 u102 u103 u104 u105 u106 u107 u108 u109 u110 u111 u112 u113 u114 u115 u116 u117 u118 u119 u120 u121 u122 u123 u124 u125 u126 u127 u128 u129 u130 u131 u132 u133 u134 u135 u136 u137 u138 u139 u140 u141 u142 u143 u144 u145 u146 u147 u148 u149 u150 u151 u152 u153 u154 u155 u156 u157 u158 u159 u160 u161 u162 u163 u164 u165 u166 u167 u168 u169 u170 u171 u172 u173 u174 u175 u176 u177 u178 u179 u180 u181 u182 u183 u184 u185 u186 u187 u188 u189 u190 u191 u192 u193 u194 u195 u196 u197 u198 u199 u200 u201 u202 u203 u204 u205 u206 u207 u208 u209 u210 u211 u212 u213 u214 u215 u216 u217 u218 u219 u220 u221 u222 u223 u224 u225 u226 u227 u228 u229 u230 u231 u232 u233 u234 u235 u236 u237 u238 u239 u240 u241 u242 : Value) (wc : World), (∃ M', LX w t m kx fat M' kd i q wc) → K ⟨#[.int .i64 fat, c1, c2, c3, u4, .pointer (some ⟨t, 0, none⟩), c6, .map (some m), c8, .pointer (some ⟨kx, 0, none⟩), c10, .bool th, u12, u13, u14, u15, u16, u17, c18, c19, c20, c21, c22, c23, c24, c25, c26, c27, c28, c29, c30, c31, c32, c33, c34, c35, c36, c37, c38, c39, c40, c41, c42, c43, c44, c45, c46, c47, c48, c49, c50, c51, c52, c53, c54, c55, c56, c57, c58, c59, c60, c61, c62, u63, u64, u65, u66, u67, u68, u69, u70, u71, u72, u73, u74, u75, u76, u77, u78, u79, u80, u81, u82, u83, u84, u85, u86, u87, u88, u89, u90, u91, u92, u93, u94, u95, u96, u97, u98, u99, u100, u101, u102, u103, u104, u105, u106, u107, u108, u109, u110, u111, u112, u113, u114, u115, u116, u117, u118, u119, u120, u121, u122, u123, u124, u125, u126, u127, u128, u129, u130, u131, u132, u133, u134, u135, u136, u137, u138, u139, u140, u141, u142, u143, u144, u145, u146, u147, u148, u149, u150, u151, u152, u153, u154, u155, u156, u157, u158, u159, u160, u161, u162, u163, u164, u165, u166, u167, u168, u169, u170, u171, u172, u173, u174, u175, u176, u177, u178, u179, u180, u181, u182, u183, u184, u185, u186, u187, u188, u189, u190, u191, u192, u193, u194, u195, u196, u197, u198, u199, u200, u201, u202, u203, u204, u205, u206, u207, u208, u209, u210, u211, u212, u213, u214, u215, u216, u217, u218, u219, u220, u221, u222, u223, u224, u225, u226, u227, u228, u229, u230, u231, u232, u233, u234, u235, u236, u237, u238, u239, u240, u241, u242, c243, c244, c245, c246, c247, c248, c249, c250, c251, c252, c253, c254, c255, c256, c257, c258, c259, c260, c261, c262, c263, c264, c265, c266, c267, c268, c269, c270, c271, c272, c273, c274, c275, c276, c277, c278, c279, c280, c281, c282, c283, c284, c285, c286, c287, c288, c289, c290, c291, c292, c293, c294, c295, c296, c297, c298, c299, c300, c301, c302, c303, c304, c305, c306, c307, c308, c309, c310, c311, c312, c313, c314, c315, c316, c317, c318, c319, c320, c321, c322, c323, c324, c325, c326, c327, c328, c329, c330, c331, c332, c333, c334, c335, c336, c337, c338, c339, c340, c341, c342, c343, c344, c345, c346, c347, c348, c349, c350, c351, c352, c353, c354, c355, c356, c357, c358, c359, c360, c361, c362, c363, c364, c365, c366, c367, c368, c369], []⟩ wc) :
    Code.wp Tryz.prog (code2 Tryz.f3) (Exit.then K (Exit.inBlock 1 (Exit.then K1 (Exit.then K2 (Exit.inBlock 0 (Exit.then K3 (bodyPost Tryz.prog Tryz.f3 Pf))))))) ⟨#[.int .i64 fat, c1, c2, c3, c4, .pointer (some ⟨t, 0, none⟩), c6, .map (some m), c8, .pointer (some ⟨kx, 0, none⟩), c10, .bool th, c12, c13, c14, c15, c16, c17, c18, c19, c20, c21, c22, c23, c24, c25, c26, c27, c28, c29, c30, c31, c32, c33, c34, c35, c36, c37, c38, c39, c40, c41, c42, c43, c44, c45, c46, c47, c48, c49, c50, c51, c52, c53, c54, c55, c56, c57, c58, c59, c60, c61, c62, c63, c64, c65, c66, c67, c68, c69, c70, c71, c72, c73, c74, c75, c76, c77, c78, c79, c80, .int .i64 kd, c82, c83, c84, c85, c86, c87, c88, c89, c90, c91, c92, c93, c94, c95, c96, c97, c98, c99, c100, c101, c102, c103, c104, c105, c106, c107, c108, c109, c110, c111, c112, c113, c114, c115, c116, c117, c118, c119, c120, c121, c122, c123, c124, c125, c126, c127, c128, c129, c130, c131, c132, c133, c134, c135, c136, c137, c138, c139, c140, c141, c142, c143, c144, c145, c146, c147, c148, c149, c150, c151, c152, c153, c154, c155, c156, c157, c158, c159, c160, c161, c162, c163, c164, c165, c166, c167, c168, c169, c170, c171, c172, c173, c174, c175, c176, c177, c178, c179, c180, c181, c182, c183, c184, c185, c186, c187, c188, c189, c190, c191, c192, c193, c194, c195, c196, c197, c198, c199, c200, c201, c202, c203, c204, c205, c206, c207, c208, c209, c210, c211, c212, c213, c214, c215, c216, c217, c218, c219, c220, c221, c222, c223, c224, c225, c226, c227, c228, c229, c230, c231, c232, c233, c234, c235, c236, c237, c238, c239, c240, c241, c242, c243, c244, c245, c246, c247, c248, c249, c250, c251, c252, c253, c254, c255, c256, c257, c258, c259, c260, c261, c262, c263, c264, c265, c266, c267, c268, c269, c270, c271, c272, c273, c274, c275, c276, c277, c278, c279, c280, c281, c282, c283, c284, c285, c286, c287, c288, c289, c290, c291, c292, c293, c294, c295, c296, c297, c298, c299, c300, c301, c302, c303, c304, c305, c306, c307, c308, c309, c310, c311, c312, c313, c314, c315, c316, c317, c318, c319, c320, c321, c322, c323, c324, c325, c326, c327, c328, c329, c330, c331, c332, c333, c334, c335, c336, c337, c338, c339, c340, c341, c342, c343, c344, c345, c346, c347, c348, c349, c350, c351, c352, c353, c354, c355, c356, c357, c358, c359, c360, c361, c362, c363, c364, c365, c366, c367, c368, c369], []⟩ w5 := by
  conv => arg 2; whnf
  by_cases h0 : kd = 0
  · subst h0
    go_upto_region 17 with fail
    have HK : Hid (∀ w', Kept w5 w' → SX kx q w5 w') := fun w' k => SX.of k H5.out.set
    refine wp_region_held_drew (S := (fun w' => Kept w5 w' ∧ w'.cell? ⟨kx, 2, none⟩ = some (.int .i64 q.x0) ∧ w'.cell? ⟨kx, 3, none⟩ = some (.int .i64 q.x1) ∧ w'.cell? ⟨kx, 4, none⟩ = some (.int .i64 q.x2) ∧ w'.cell? ⟨kx, 5, none⟩ = some (.int .i64 q.x3) ∧ w'.cell? ⟨kx, 6, none⟩ = some (.int .i64 q.x4) ∧ w'.cell? ⟨kx, 7, none⟩ = some (.int .i64 q.x5))) (by kernel_rfl) ?_ (fun hHeld1 => ?_)
    · (try dsimp only); exact HK.out _ (Kept.refl _).drew
    refine tkW 0 rfl ?_; refine tkW 1 rfl ?_; refine tkW 2 rfl ?_; refine tkW 4 rfl ?_
    try simp only [Act.put, List.setIfInBounds_toArray, List.set_cons_zero, List.set_cons_succ, List.getElem_toArray, List.getElem_cons_succ, List.getElem_cons_zero]
    refine tkW 5 rfl ?_; refine tkW 6 rfl ?_
    try simp only [Act.put, List.setIfInBounds_toArray, List.set_cons_zero, List.set_cons_succ, List.getElem_toArray, List.getElem_cons_succ, List.getElem_cons_zero]
    refine wpAnyH_ready (rs := [3]) (by kernel_rfl) (by simp) ?_
    refine AllReadyH.cons rfl (fun K hK => ?_) AllReadyH.nil
    first | (with_reducible refine iteYes ?hcx ?htx; case hcx => kernel_rfl) | rw [if_pos (by rfl)]
    simp only [List.getElem_toArray, List.getElem_cons_succ, List.getElem_cons_zero]
    go_simp
    (go_at_call 6; refine (refParts_calls _ _ _ _).mono ?_; rintro e w6 ⟨b1, rfl, k6, r6⟩)
    try go_wp2_with fail
    refine hK.out _ _ ?_ (fun hHeld2 => ?_)
    · (try dsimp only); exact HK.out _ ((Kept.refl w5).drew.trans k6)
    clear hK K hHeld1
    try simp only [Act.put, List.setIfInBounds_toArray, List.set_cons_zero, List.set_cons_succ, List.getElem_toArray, List.getElem_cons_succ, List.getElem_cons_zero]
    refine wpAnyH_ready (rs := [7]) (by kernel_rfl) (by simp) ?_
    refine AllReadyH.cons rfl (fun K hK => ?_) AllReadyH.nil
    first | (with_reducible refine iteYes ?hcx ?htx; case hcx => kernel_rfl) | rw [if_pos (by rfl)]
    simp only [List.getElem_toArray, List.getElem_cons_succ, List.getElem_cons_zero]
    go_simp
    (go_at_call 6; refine (refParts_calls _ _ _ _).mono ?_; rintro e w7 ⟨b2, rfl, k7, r7⟩)
    try go_wp2_with fail
    refine hK.out _ _ ?_ (fun hHeld3 => ?_)
    · (try dsimp only); exact HK.out _ (((Kept.refl w5).drew.trans k6).trans k7)
    clear hK K hHeld2
    try simp only [Act.put, List.setIfInBounds_toArray, List.set_cons_zero, List.set_cons_succ, List.getElem_toArray, List.getElem_cons_succ, List.getElem_cons_zero]
    refine tkW 8 rfl ?_; refine tkW 9 rfl ?_
    try simp only [Act.put, List.setIfInBounds_toArray, List.set_cons_zero, List.set_cons_succ, List.getElem_toArray, List.getElem_cons_succ, List.getElem_cons_zero]
    refine wpAnyH_done (by kernel_rfl) ?_ _
    have H7 : Hid (PH w t m kx fat M 0 i q b1 b2 w7) := ⟨H5.out.keep (Only.of_kept (((Kept.refl w5).drew.trans k6).trans k7)), row_lo (r6.step k7), row_hi r7⟩
    clear HK hHeld3 k6 k7 r6 r7 H5
    go_upto_block 3 with fail
    go_cut [12, 15] from 63 to 242 (fun s12 s15 wc => s12 = .int .i64 (outC q 3) ∧ PH w t m kx fat M 0 i q b1 b2 wc)
    case first =>
      go_wp2_with fail
      go_loopg [12, 15] 3 (fun k e idx wr => ∃ kk : Nat, ∃ ev : Int, e = .int .i64 ev ∧ idx = .int .i64 (kk : Int) ∧ Hid (kk ≤ 3 ∧ ev = outC q kk ∧ k = 3 - kk) ∧ Hid (PH w t m kx fat M 0 i q b1 b2 wr))
      case atStart => exact ⟨0, 0, rfl, rfl, ⟨by omega, rfl, rfl⟩, H7.out⟩
      case round =>
        obtain ⟨kk, ev, rfl, rfl, H8, HP⟩ := hrel
        clear H7
        by_cases hk3 : kk < 3
        · have hkl : (kk : Int) < 3 := by omega
          have cl := HP.out.2.1 kk hk3
          have ch := HP.out.2.2 kk hk3
          have hev : ev = 0 ∨ ev = 2 := by have := outC_cases q kk; rw [← H8.out.2.1] at this; exact this
          rcases hev with rfl | rfl
          · by_cases d1 : qlo q kk < -70368744177664
            · go_wp2_with fail
              go_roundg (3 - (kk + 1))
              case measure => have := H8.out.2.2; omega
              case rel => exact ⟨kk + 1, 2, rfl, by go_num, ⟨by omega, by simp [outC, ← H8.out.2.1, d1], rfl⟩, HP.out⟩
            · by_cases d2 : 70368744177664 < qhi q kk
              · go_wp2_with fail
                go_roundg (3 - (kk + 1))
                case measure => have := H8.out.2.2; omega
                case rel => exact ⟨kk + 1, 2, rfl, by go_num, ⟨by omega, by simp [outC, ← H8.out.2.1, d2], rfl⟩, HP.out⟩
              · go_wp2_with fail
                go_roundg (3 - (kk + 1))
                case measure => have := H8.out.2.2; omega
                case rel => exact ⟨kk + 1, 0, rfl, by go_num, ⟨by omega, by simp [outC, ← H8.out.2.1, d1, d2], rfl⟩, HP.out⟩
          · go_wp2_with fail
            go_roundg (3 - (kk + 1))
            case measure => have := H8.out.2.2; omega
            case rel => exact ⟨kk + 1, 2, rfl, by go_num, ⟨by omega, by simp [outC, ← H8.out.2.1], rfl⟩, HP.out⟩
        · have hkl : ¬ (kk : Int) < 3 := by omega
          obtain rfl : kk = 3 := by have := H8.out.1; omega
          go_wp2_with fail
          go_meet
          case rel => exact ⟨by rw [H8.out.2.1], HP.out⟩
    case rest =>
      clear H7
      obtain ⟨rfl, hph⟩ := hcut
      have HP : Hid (PH w t m kx fat M 0 i q b1 b2 wc) := hph
      clear hph
      generalize hoc : outC q 3 = e1
      have HOC : Hid (outC q 3 = e1) := hoc
      clear hoc
      go_upto_block 5 with fail
      go_cut [12, 16] from 63 to 242 (fun s12 s16 wd => s12 = .int .i64 (argC q e1 3) ∧ PH w t m kx fat M 0 i q b1 b2 wd)
      case first =>
        go_wp2_with fail
        go_loopg [12, 16] 3 (fun k e idx wr => ∃ kk : Nat, ∃ ev : Int, e = .int .i64 ev ∧ idx = .int .i64 (kk : Int) ∧ Hid (kk ≤ 3 ∧ ev = argC q e1 kk ∧ k = 3 - kk) ∧ Hid (PH w t m kx fat M 0 i q b1 b2 wr))
        case atStart => exact ⟨0, e1, rfl, rfl, ⟨by omega, rfl, rfl⟩, HP.out⟩
        case round =>
          clear HP
          obtain ⟨kk, ev, rfl, rfl, H8, HP⟩ := hrel
          by_cases hk3 : kk < 3
          · have hkl : (kk : Int) < 3 := by omega
            have cl := HP.out.2.1 kk hk3
            have ch := HP.out.2.2 kk hk3
            by_cases d1 : qhi q kk < qlo q kk
            · go_wp2_with fail
              go_quiet (fail)
              go_wp2_with fail
              go_roundg (3 - (kk + 1))
              case measure => have := H8.out.2.2; omega
              case rel => exact ⟨kk + 1, 1, rfl, by go_num, ⟨by omega, by simp [argC, d1], rfl⟩, HP.out.keep (Only.drewN _ _)⟩
            · go_wp2_with fail
              go_quiet (fail)
              go_wp2_with fail
              go_roundg (3 - (kk + 1))
              case measure => have := H8.out.2.2; omega
              case rel => exact ⟨kk + 1, ev, rfl, by go_num, ⟨by omega, by rw [argC, if_neg (by omega)]; exact H8.out.2.1, rfl⟩, HP.out.keep (Only.drewN _ _)⟩
          · have hkl : ¬ (kk : Int) < 3 := by omega
            obtain rfl : kk = 3 := by have := H8.out.1; omega
            go_wp2_with fail
            go_meet
            case rel => exact ⟨by rw [H8.out.2.1], HP.out⟩
      case rest =>
        clear HP
        obtain ⟨rfl, hph⟩ := hcut
        have HX : Hid (LX w t m kx fat M 0 i q wc) := hph.1
        clear hph
        rw [← HOC.out, law_right]
        by_cases hr : rightC q = 0
        · rw [hr]
          have HR : Hid (rightC q = 0) := hr
          clear hr
          cases th with
          | true =>
            have hc : Hid (putC M i q = 0) := by
              show putC M i q = 0
              unfold putC; rw [if_pos HR.out, if_neg]; intro h; exact h.1 (by simpa using hth.out.symm)
            go_upto_region 31 with fail
            have HK : Hid (∀ w', Only [m] wc w' → UX kx m i q wc w') := fun w' o => UX.of o HX.out.ne HX.out.set
            refine wp_region_held_drew (S := (fun w' => Only [m] wc w' ∧ w'.cell? ⟨kx, 1, none⟩ = some (.int .i64 i) ∧ w'.cell? ⟨kx, 2, none⟩ = some (.int .i64 q.x0) ∧ w'.cell? ⟨kx, 3, none⟩ = some (.int .i64 q.x1) ∧ w'.cell? ⟨kx, 4, none⟩ = some (.int .i64 q.x2) ∧ w'.cell? ⟨kx, 5, none⟩ = some (.int .i64 q.x3) ∧ w'.cell? ⟨kx, 6, none⟩ = some (.int .i64 q.x4) ∧ w'.cell? ⟨kx, 7, none⟩ = some (.int .i64 q.x5))) (by kernel_rfl) ?_ (fun hHeld1 => ?_)
            · (try dsimp only); exact HK.out _ (Only.refl _ _).drew
            refine tkW 0 rfl ?_; refine tkW 1 rfl ?_; refine tkW 2 rfl ?_; refine tkW 3 rfl ?_
            try simp only [Act.put, List.setIfInBounds_toArray, List.set_cons_zero, List.set_cons_succ, List.getElem_toArray, List.getElem_cons_succ, List.getElem_cons_zero]
            refine tkW 4 rfl ?_
            try simp only [Act.put, List.setIfInBounds_toArray, List.set_cons_zero, List.set_cons_succ, List.getElem_toArray, List.getElem_cons_succ, List.getElem_cons_zero]
            refine wpAnyH_ready (rs := [5]) (by kernel_rfl) (by simp) ?_
            refine AllReadyH.cons rfl (fun K hK => ?_) AllReadyH.nil
            first | (with_reducible refine iteYes ?hcx ?htx; case hcx => kernel_rfl) | rw [if_pos (by rfl)]
            simp only [List.getElem_toArray, List.getElem_cons_succ, List.getElem_cons_zero]
            go_simp
            (go_at_call 7; refine (box_calls _ _ _ _ _ _ _).mono ?_; rintro e wb ⟨rfl, kb⟩; have HW : Hid (Only [] wc wb) := (Only.refl [] wc).drew.trans (Only.of_kept kb); clear kb; obtain ⟨MD, hown, hbk⟩ := HX.out.map.only HW.out (by simp); obtain ⟨wu, hrun, hown2, hturn⟩ := hown.store intKey Tryz.underlying30 (by have := HX.out.len; unfold maxLen; omega) (keyIs HD.out) (boxElem_of q); unfold boxV at hrun; have HU : Hid (Only [m] wc wu ∧ BMap wu m (put M i q)) := ⟨(HW.out.mono (by simp)).trans (Only.turned hturn), bmap_fit hown2 (hbk.put i q)⟩; clear hown hbk hown2 hturn)
            try go_wp2_with fail
            refine hK.out _ _ ?_ (fun hHeld2 => ?_)
            · (try dsimp only); exact HK.out _ (HW.out.mono (by simp))
            clear hK K hHeld1
            try simp only [Act.put, List.setIfInBounds_toArray, List.set_cons_zero, List.set_cons_succ, List.getElem_toArray, List.getElem_cons_succ, List.getElem_cons_zero]
            refine wpAnyH_ready (rs := [6]) (by kernel_rfl) (by simp) ?_
            refine AllReadyH.cons rfl (fun K hK => ?_) AllReadyH.nil
            first | (with_reducible refine iteYes ?hcx ?htx; case hcx => kernel_rfl) | rw [if_pos (by rfl)]
            simp only [List.getElem_toArray, List.getElem_cons_succ, List.getElem_cons_zero]
            go_simp
            skip
            try go_wp2_with fail
            refine hK.out _ _ ?_ (fun hHeld3 => ?_)
            · (try dsimp only); exact HK.out _ HU.out.1
            clear hK K hHeld2
            try simp only [Act.put, List.setIfInBounds_toArray, List.set_cons_zero, List.set_cons_succ, List.getElem_toArray, List.getElem_cons_succ, List.getElem_cons_zero]
            refine wpAnyH_done (by kernel_rfl) ?_ _
            clear hHeld3 HK hrun
            have z := HX.out.set.only HU.out.1 (by simp [HX.out.ne])
            have z1 := z.off 1; have z2 := z.off 2; have z3 := z.off 3; have z4 := z.off 4; have z5 := z.off 5; have z6 := z.off 6; have z7 := z.off 7
            simp only [List.getElem?_toArray, List.getElem?_cons_succ, List.getElem?_cons_zero] at z1 z2 z3 z4 z5 z6 z7
            clear z
            go_wp2_with fail
            refine ((HX.out.tree.keep HU.out.1 (by simp)).put i q HD.out).mono ?_
            rintro e wp ⟨rfl, ht, hturn⟩
            have HP2 : Hid (LX w t m kx fat (put M i q) 0 i q wp) := HX.out.after (HU.out.1) (HU.out.2) (by rw [← putM_yes hc.out]; exact ht) hturn
            clear ht hturn z1 z2 z3 z4 z5 z6 z7
            go_wp2_with fail
            refine (bare_same _ _ wp (HG.out.1.only HP2.out.old) hc.out).mono ?_
            rintro e wb ⟨rfl, kb⟩
            have HP3 : Hid (LX w t m kx fat (put M i q) 0 i q wb) := HP2.out.keep (Only.of_kept kb)
            clear kb HP2
            go_wp2_with fail
            exact ⟨_, HP3.out⟩
          | false =>
            by_cases hfull : 60 ≤ M.length
            · have hc : Hid (putC M i q = 4) := by
                show putC M i q = 4
                unfold putC; rw [if_pos HR.out, if_pos ⟨by simpa using hth.out.symm, hfull⟩]
              have hlen := HX.out.map.len
              have hfl : (60 : Int) ≤ (M.length : Int) := by omega
              clear hfull
              have z := HX.out.set
              have z1 := z.off 1; have z2 := z.off 2; have z3 := z.off 3; have z4 := z.off 4; have z5 := z.off 5; have z6 := z.off 6; have z7 := z.off 7
              simp only [List.getElem?_toArray, List.getElem?_cons_succ, List.getElem?_cons_zero] at z1 z2 z3 z4 z5 z6 z7
              clear z
              go_wp2_with fail
              refine (HX.out.tree.put i q HD.out).mono ?_
              rintro e wp ⟨rfl, ht, hturn⟩
              have HP2 : Hid (LX w t m kx fat (M) 0 i q wp) := HX.out.after (Only.refl _ _) (HX.out.map) (by have e := putM_no (M := M) (i := i) (q := q) (by rw [hc.out]; decide); rw [e] at ht; exact ht) hturn
              clear ht hturn z1 z2 z3 z4 z5 z6 z7
              go_wp2_with fail
              refine (bare_same _ _ wp (HG.out.1.only HP2.out.old) hc.out).mono ?_
              rintro e wb ⟨rfl, kb⟩
              have HP3 : Hid (LX w t m kx fat (M) 0 i q wb) := HP2.out.keep (Only.of_kept kb)
              clear kb HP2
              go_wp2_with fail
              exact ⟨_, HP3.out⟩
            · have hc : Hid (putC M i q = 0) := by
                show putC M i q = 0
                unfold putC; rw [if_pos HR.out, if_neg (fun h => hfull h.2)]
              have hlen := HX.out.map.len
              have hfl : ¬ (60 : Int) ≤ (M.length : Int) := by omega
              clear hfull
              go_upto_region 31 with fail
              have HK : Hid (∀ w', Only [m] wc w' → UX kx m i q wc w') := fun w' o => UX.of o HX.out.ne HX.out.set
              refine wp_region_held_drew (S := (fun w' => Only [m] wc w' ∧ w'.cell? ⟨kx, 1, none⟩ = some (.int .i64 i) ∧ w'.cell? ⟨kx, 2, none⟩ = some (.int .i64 q.x0) ∧ w'.cell? ⟨kx, 3, none⟩ = some (.int .i64 q.x1) ∧ w'.cell? ⟨kx, 4, none⟩ = some (.int .i64 q.x2) ∧ w'.cell? ⟨kx, 5, none⟩ = some (.int .i64 q.x3) ∧ w'.cell? ⟨kx, 6, none⟩ = some (.int .i64 q.x4) ∧ w'.cell? ⟨kx, 7, none⟩ = some (.int .i64 q.x5))) (by kernel_rfl) ?_ (fun hHeld1 => ?_)
              · (try dsimp only); exact HK.out _ (Only.refl _ _).drew
              refine tkW 0 rfl ?_; refine tkW 1 rfl ?_; refine tkW 2 rfl ?_; refine tkW 3 rfl ?_
              try simp only [Act.put, List.setIfInBounds_toArray, List.set_cons_zero, List.set_cons_succ, List.getElem_toArray, List.getElem_cons_succ, List.getElem_cons_zero]
              refine tkW 4 rfl ?_
              try simp only [Act.put, List.setIfInBounds_toArray, List.set_cons_zero, List.set_cons_succ, List.getElem_toArray, List.getElem_cons_succ, List.getElem_cons_zero]
              refine wpAnyH_ready (rs := [5]) (by kernel_rfl) (by simp) ?_
              refine AllReadyH.cons rfl (fun K hK => ?_) AllReadyH.nil
              first | (with_reducible refine iteYes ?hcx ?htx; case hcx => kernel_rfl) | rw [if_pos (by rfl)]
              simp only [List.getElem_toArray, List.getElem_cons_succ, List.getElem_cons_zero]
              go_simp
              (go_at_call 7; refine (box_calls _ _ _ _ _ _ _).mono ?_; rintro e wb ⟨rfl, kb⟩; have HW : Hid (Only [] wc wb) := (Only.refl [] wc).drew.trans (Only.of_kept kb); clear kb; obtain ⟨MD, hown, hbk⟩ := HX.out.map.only HW.out (by simp); obtain ⟨wu, hrun, hown2, hturn⟩ := hown.store intKey Tryz.underlying30 (by have := HX.out.len; unfold maxLen; omega) (keyIs HD.out) (boxElem_of q); unfold boxV at hrun; have HU : Hid (Only [m] wc wu ∧ BMap wu m (put M i q)) := ⟨(HW.out.mono (by simp)).trans (Only.turned hturn), bmap_fit hown2 (hbk.put i q)⟩; clear hown hbk hown2 hturn)
              try go_wp2_with fail
              refine hK.out _ _ ?_ (fun hHeld2 => ?_)
              · (try dsimp only); exact HK.out _ (HW.out.mono (by simp))
              clear hK K hHeld1
              try simp only [Act.put, List.setIfInBounds_toArray, List.set_cons_zero, List.set_cons_succ, List.getElem_toArray, List.getElem_cons_succ, List.getElem_cons_zero]
              refine wpAnyH_ready (rs := [6]) (by kernel_rfl) (by simp) ?_
              refine AllReadyH.cons rfl (fun K hK => ?_) AllReadyH.nil
              first | (with_reducible refine iteYes ?hcx ?htx; case hcx => kernel_rfl) | rw [if_pos (by rfl)]
              simp only [List.getElem_toArray, List.getElem_cons_succ, List.getElem_cons_zero]
              go_simp
              skip
              try go_wp2_with fail
              refine hK.out _ _ ?_ (fun hHeld3 => ?_)
              · (try dsimp only); exact HK.out _ HU.out.1
              clear hK K hHeld2
              try simp only [Act.put, List.setIfInBounds_toArray, List.set_cons_zero, List.set_cons_succ, List.getElem_toArray, List.getElem_cons_succ, List.getElem_cons_zero]
              refine wpAnyH_done (by kernel_rfl) ?_ _
              clear hHeld3 HK hrun
              have z := HX.out.set.only HU.out.1 (by simp [HX.out.ne])
              have z1 := z.off 1; have z2 := z.off 2; have z3 := z.off 3; have z4 := z.off 4; have z5 := z.off 5; have z6 := z.off 6; have z7 := z.off 7
              simp only [List.getElem?_toArray, List.getElem?_cons_succ, List.getElem?_cons_zero] at z1 z2 z3 z4 z5 z6 z7
              clear z
              go_wp2_with fail
              refine ((HX.out.tree.keep HU.out.1 (by simp)).put i q HD.out).mono ?_
              rintro e wp ⟨rfl, ht, hturn⟩
              have HP2 : Hid (LX w t m kx fat (put M i q) 0 i q wp) := HX.out.after (HU.out.1) (HU.out.2) (by rw [← putM_yes hc.out]; exact ht) hturn
              clear ht hturn z1 z2 z3 z4 z5 z6 z7
              go_wp2_with fail
              refine (bare_same _ _ wp (HG.out.1.only HP2.out.old) hc.out).mono ?_
              rintro e wb ⟨rfl, kb⟩
              have HP3 : Hid (LX w t m kx fat (put M i q) 0 i q wb) := HP2.out.keep (Only.of_kept kb)
              clear kb HP2
              go_wp2_with fail
              exact ⟨_, HP3.out⟩
        · have hc : Hid (putC M i q = rightC q ∧ rightC q ≠ 0) := by
            refine ⟨?_, hr⟩
            unfold putC; rw [if_neg hr]
          generalize hre : rightC q = er at hr hc
          have hr2 : (er == 0) = false := by simpa using hr
          clear hr hre
          have z := HX.out.set
          have z1 := z.off 1; have z2 := z.off 2; have z3 := z.off 3; have z4 := z.off 4; have z5 := z.off 5; have z6 := z.off 6; have z7 := z.off 7
          simp only [List.getElem?_toArray, List.getElem?_cons_succ, List.getElem?_cons_zero] at z1 z2 z3 z4 z5 z6 z7
          clear z
          go_wp2_with fail
          refine (HX.out.tree.put i q HD.out).mono ?_
          rintro e wp ⟨rfl, ht, hturn⟩
          have HP2 : Hid (LX w t m kx fat (M) 0 i q wp) := HX.out.after (Only.refl _ _) (HX.out.map) (by have e := putM_no (M := M) (i := i) (q := q) (by rw [hc.out.1]; exact hc.out.2); rw [e] at ht; exact ht) hturn
          clear ht hturn z1 z2 z3 z4 z5 z6 z7
          go_wp2_with fail
          refine (bare_same _ _ wp (HG.out.1.only HP2.out.old) hc.out.1).mono ?_
          rintro e wb ⟨rfl, kb⟩
          have HP3 : Hid (LX w t m kx fat (M) 0 i q wb) := HP2.out.keep (Only.of_kept kb)
          clear kb HP2
          go_wp2_with fail
          exact ⟨_, HP3.out⟩
  · have h0' : (kd == 0) = false := by simpa using h0
    by_cases h1 : kd = 1
    · subst h1
      clear h0
      cases th with
      | true =>
        have hin : Hid (i ∈ M.map Prod.fst) := by show i ∈ M.map Prod.fst; simpa using hth.out.symm
        obtain ⟨MD, hown, hbk⟩ := H5.out.map
        have HB : Hid (BookM MD M) := hbk
        clear hbk
        have hi64 := HD.out
        have z1 := H5.out.set.off 1
        simp only [List.getElem?_toArray, List.getElem?_cons_succ, List.getElem?_cons_zero] at z1
        go_upto_region 39 with (first | (at_delete; refine wpList_delete_own _ rfl _ _ 30 3 rfl 37 intKey Tryz.underlying30 _ m _ MD rfl hown _ _ rfl (keyIs hi64) ?_; intro wu hown2 hturn2; have HU : Hid (Only [m] w5 wu ∧ BMap wu m (del M i)) := ⟨Only.turned hturn2, bmap_fit hown2 (HB.out.del hin.out)⟩; clear hown2 hturn2 hown z1))
        have z := H5.out.set.only HU.out.1 (by simp [H5.out.ne])
        have z1 := z.off 1
        simp only [List.getElem?_toArray, List.getElem?_cons_succ, List.getElem?_cons_zero] at z1
        clear z
        go_wp2_with fail
        refine ((H5.out.tree.keep HU.out.1 (by simp)).remove i HD.out).mono ?_
        rintro e wp ⟨rfl, ht, hturn⟩
        have HP2 : Hid (LX w t m kx fat (del M i) 1 i q wp) := H5.out.after HU.out.1 HU.out.2 ht hturn
        clear ht hturn z1
        go_wp2_with fail
        refine (bare_same _ _ wp (HG.out.1.only HP2.out.old) (if_pos hin.out)).mono ?_
        rintro e wb ⟨rfl, kb⟩
        have HP3 : Hid (LX w t m kx fat (del M i) 1 i q wb) := HP2.out.keep (Only.of_kept kb)
        clear kb HP2
        go_wp2_with fail
        exact ⟨_, HP3.out⟩
      | false =>
        have hin : Hid (i ∉ M.map Prod.fst) := by show i ∉ M.map Prod.fst; simpa using hth.out.symm
        have z1 := H5.out.set.off 1
        simp only [List.getElem?_toArray, List.getElem?_cons_succ, List.getElem?_cons_zero] at z1
        go_wp2_with fail
        refine (H5.out.tree.remove i HD.out).mono ?_
        rintro e wp ⟨rfl, ht, hturn⟩
        have HP2 : Hid (LX w t m kx fat M 1 i q wp) := H5.out.after (Only.refl _ _) H5.out.map (by rw [del_none hin.out] at ht; exact ht) hturn
        clear ht hturn z1
        go_wp2_with fail
        refine (bare_same _ _ wp (HG.out.1.only HP2.out.old) (if_neg hin.out)).mono ?_
        rintro e wb ⟨rfl, kb⟩
        have HP3 : Hid (LX w t m kx fat M 1 i q wb) := HP2.out.keep (Only.of_kept kb)
        clear kb HP2
        go_wp2_with fail
        exact ⟨_, HP3.out⟩
    · have h1' : (kd == 1) = false := by simpa using h1
      clear h0 h1
      go_wp2_with fail
      exact ⟨_, H5.out⟩

end Go.Proofs.YtdhbcgdlmkkdfaaGreatDoor
