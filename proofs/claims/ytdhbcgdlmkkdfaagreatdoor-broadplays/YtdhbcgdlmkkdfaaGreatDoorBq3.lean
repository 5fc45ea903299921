/- gyrelaw.BroadPlays: its last loop: what Pairs tells, pair by pair. -/
import Derived.Test.YtdhbcgdlmkkdfaaGreatDoorBq2
import Derived.Deep.CutRange
import Derived.Deep.CutBlock
namespace Go.Proofs.YtdhbcgdlmkkdfaaGreatDoor
open Go.ChangeShapes Go.WideShapes Go.ChangeAt Go.RowKit
set_option linter.unusedVariables false
set_option linter.unusedSimpArgs false

theorem iteYes {c : Prop} {inst : Decidable c} {a b : Prop} (hc : c) (h : a) : @ite Prop c inst a b := by rw [if_pos hc]; exact h
def code15 (f : Func) : Code := ((f.body.bind (blockOf 15)).getD .skip)
set_option maxRecDepth 1000000 in
set_option maxHeartbeats 40000000 in
theorem play_last (w4 : World) (m cp4 : Nat) (a4 : Option Addr) (M : List (Int × Bx)) (P : List (Int × Int)) (c0 c1 c2 c3 c4 c5 c6 c8 c9 c10 c11 c12 c13 c14 c15 c16 c17 c18 c19 c20 c21 c22 c23 c24 c26 c27 c28 c29 c32 c33 c34 c35 c36 c37 c38 c39 c40 c41 c42 c43 c44 c45 c46 c47 c48 c49 c50 c51 c52 c53 c54 c55 c56 c57 c58 c59 c60 c61 c62 c63 c64 c65 c66 c67 c68 c69 c70 c71 c72 c73 c74 c75 c76 c77 c78 c79 c80 c81 c82 c83 c84 c85 c86 c87 c88 c89 c90 c91 c92 c93 c94 c95 c96 c97 c98 c99 c100 c101 c102 c103 c104 c105 c106 c107 c108 c109 c110 c111 c112 c113 c114 c115 c116 c117 c118 c119 c120 c121 c122 c123 c124 c125 c126 c127 c128 c129 c130 c131 c132 c133 c134 c135 c136 c137 c138 c139 c140 c141 c142 c143 c144 c145 c146 c147 c148 c149 c150 c151 c152 c153 c154 c155 c156 c157 c158 c159 c160 c161 c162 c163 c164 c165 c166 c167 c168 c169 c170 c171 c172 c173 c174 c175 c176 c177 c178 c179 c180 c181 c182 c183 c184 c185 c186 c187 c188 c189 c190 c191 c192 c193 c194 c195 c196 c197 c198 c199 c200 c201 c202 c203 c204 c205 c206 c207 c208 c209 c210 c211 c212 c213 c214 c215 c216 c217 c218 c219 c220 c221 c222 c223 c224 c225 c226 c227 c228 c229 c230 c231 c232 c233 c234 c235 c236 c237 c238 c239 c240 c241 c242 c243 c244 c245 c246 c247 c248 c249 c250 c251 c252 c253 c254 c255 c256 c257 c258 c259 c260 c261 c262 c263 c264 c265 c266 c267 c268 c269 c270 c271 c272 c273 c274 c275 c276 c277 c278 c279 c280 c281 c282 c283 c284 c285 c286 c287 c288 c289 c290 c291 c292 c293 c294 c295 c296 c297 c298 c299 c300 c301 c302 c303 c304 c305 c306 c307 c308 c309 c310 c311 c312 c313 c314 c315 c316 c317 c318 c319 c320 c321 c322 c323 c324 c325 c326 c327 c328 c329 c330 c331 c332 c333 c334 c335 c336 c337 c338 c339 c340 c341 c342 c343 c344 c345 c346 c347 c348 c349 c350 c351 c352 c353 c354 c355 c356 c357 c358 c359 c360 c361 c362 c363 c364 c365 c366 c367 c368 c369 : Value) (K : Act → World → Prop) (Pf : Ending → World → Prop)
    (HQ : Hid (BMap w4 m M)) (HM : Hid (∀ z ∈ M, In64 z.1))
    (HPP : Hid ((∀ c ∈ P, ∃ a b, (c.1, a) ∈ M ∧ (c.2, b) ∈ M ∧ c.1 < c.2 ∧ meetX a b = true) ∧ P.Pairwise (fun x y => x.1 < y.1 ∨ (x.1 = y.1 ∧ x.2 < y.2)) ∧ P.length ≤ 3600))
    (HSH : Hid (∀ j (hj : j < P.length), ∃ g, a4 = some ⟨g, 0, none⟩ ∧ w4.cell? ⟨g, j * 2, none⟩ = some (.int .i64 (P[j].1)) ∧ w4.cell? ⟨g, j * 2 + 1, none⟩ = some (.int .i64 (P[j].2))))
    (hK : ∀ (u4 u31 u32 u33 u34 u35 u269 u270 u271 u272 u273 u274 u275 u276 u277 u278 u279 u280 u281 u282 u283 u284 u285 u286 u287 u288 u289 u290 u291 u292 u293 u294 u295 u296 u297 u298 u299 u300 u301 u302 u303 u304 u305 u306 u307 u308 u309 u310 u311 u312 u313 u314 u315 u316 u317 u318 u319 u320 u321 u322 u323 u324 u325 u326 u327 u328 u329 u330 u331 u332 u333 u334 u335 u336 u337 u338 u339 u340 u341 u342 u343 u344 u345 u346 u347 u348 u349 u350 u351 u352 u353 u354 u355 u356 u357 u358 u359 u360 u361 u362 u363 u364 u365 : Value) (wz : World), Only [] w4 wz → K ⟨#[c0, c1, c2, c3, u4, c5, c6, .map (some m), c8, c9, c10, c11, c12, c13, c14, c15, c16, c17, c18, c19, c20, c21, c22, c23, c24, .int .i64 ((P.length : Int)), c26, c27, c28, c29, .slice a4 P.length cp4, u31, u32, u33, u34, u35, c36, c37, c38, c39, c40, c41, c42, c43, c44, c45, c46, c47, c48, c49, c50, c51, c52, c53, c54, c55, c56, c57, c58, c59, c60, c61, c62, c63, c64, c65, c66, c67, c68, c69, c70, c71, c72, c73, c74, c75, c76, c77, c78, c79, c80, c81, c82, c83, c84, c85, c86, c87, c88, c89, c90, c91, c92, c93, c94, c95, c96, c97, c98, c99, c100, c101, c102, c103, c104, c105, c106, c107, c108, c109, c110, c111, c112, c113, c114, c115, c116, c117, c118, c119, c120, c121, c122, c123, c124, c125, c126, c127, c128, c129, c130, c131, c132, c133, c134, c135, c136, c137, c138, c139, c140, c141, c142, c143, c144, c145, c146, c147, c148, c149, c150, c151, c152, c153, c154, c155, c156, c157, c158, c159, c160, c161, c162, c163, c164, c165, c166, c167, c168, c169, c170, c171, c172, c173, c174, c175, c176, c177, c178, c179, c180, c181, c182, c183, c184, c185, c186, c187, c188, c189, c190, c191, c192, c193, c194, c195, c196, c197, c198, c199, c200, c201, c202, c203, c204, c205, c206, c207, c208, c209, c210, c211, c212, c213, c214, c215, c216, c217, c218, c219, c220, c221, c222, c223, c224, c225, c226, c227, c228, c229, c230, c231, c232, c233, c234, c235, c236, c237, c238, c239, c240, c241, c242, c243, c244, c245, c246, c247, c248, c249, c250, c251, c252, c253, c254, c255, c256, c257, c258, c259, c260, c261, c262, c263, c264, c265, c266, c267, c268, u269, u270, u271, u272, u273, u274, u275, u276, u277, u278, u279, u280, u281, u282, u283, u284, u285, u286, u287, u288, u289, u290, u291, u292, u293, u294, u295, u296, u297, u298, u299, u300, u301, u302, u303, u304, u305, u306, u307, u308, u309, u310, u311, u312, u313, u314, u315, u316, u317, u318, u319, u320, u321, u322, u323, u324, u325, u326, u327, u328, u329, u330, u331, u332, u333, u334, u335, u336, u337, u338, u339, u340, u341, u342, u343, u344, u345, u346, u347, u348, u349, u350, u351, u352, u353, u354, u355, u356, u357, u358, u359, u360, u361, u362, u363, u364, u365, c366, c367, c368, c369], []⟩ wz) :
    Code.wp Tryz.prog (code15 Tryz.f3) (Exit.then K (bodyPost Tryz.prog Tryz.f3 Pf)) ⟨#[c0, c1, c2, c3, c4, c5, c6, .map (some m), c8, c9, c10, c11, c12, c13, c14, c15, c16, c17, c18, c19, c20, c21, c22, c23, c24, .int .i64 ((P.length : Int)), c26, c27, c28, c29, .slice a4 P.length cp4, .int .i64 0, c32, c33, c34, c35, c36, c37, c38, c39, c40, c41, c42, c43, c44, c45, c46, c47, c48, c49, c50, c51, c52, c53, c54, c55, c56, c57, c58, c59, c60, c61, c62, c63, c64, c65, c66, c67, c68, c69, c70, c71, c72, c73, c74, c75, c76, c77, c78, c79, c80, c81, c82, c83, c84, c85, c86, c87, c88, c89, c90, c91, c92, c93, c94, c95, c96, c97, c98, c99, c100, c101, c102, c103, c104, c105, c106, c107, c108, c109, c110, c111, c112, c113, c114, c115, c116, c117, c118, c119, c120, c121, c122, c123, c124, c125, c126, c127, c128, c129, c130, c131, c132, c133, c134, c135, c136, c137, c138, c139, c140, c141, c142, c143, c144, c145, c146, c147, c148, c149, c150, c151, c152, c153, c154, c155, c156, c157, c158, c159, c160, c161, c162, c163, c164, c165, c166, c167, c168, c169, c170, c171, c172, c173, c174, c175, c176, c177, c178, c179, c180, c181, c182, c183, c184, c185, c186, c187, c188, c189, c190, c191, c192, c193, c194, c195, c196, c197, c198, c199, c200, c201, c202, c203, c204, c205, c206, c207, c208, c209, c210, c211, c212, c213, c214, c215, c216, c217, c218, c219, c220, c221, c222, c223, c224, c225, c226, c227, c228, c229, c230, c231, c232, c233, c234, c235, c236, c237, c238, c239, c240, c241, c242, c243, c244, c245, c246, c247, c248, c249, c250, c251, c252, c253, c254, c255, c256, c257, c258, c259, c260, c261, c262, c263, c264, c265, c266, c267, c268, c269, c270, c271, c272, c273, c274, c275, c276, c277, c278, c279, c280, c281, c282, c283, c284, c285, c286, c287, c288, c289, c290, c291, c292, c293, c294, c295, c296, c297, c298, c299, c300, c301, c302, c303, c304, c305, c306, c307, c308, c309, c310, c311, c312, c313, c314, c315, c316, c317, c318, c319, c320, c321, c322, c323, c324, c325, c326, c327, c328, c329, c330, c331, c332, c333, c334, c335, c336, c337, c338, c339, c340, c341, c342, c343, c344, c345, c346, c347, c348, c349, c350, c351, c352, c353, c354, c355, c356, c357, c358, c359, c360, c361, c362, c363, c364, c365, c366, c367, c368, c369], []⟩ w4 := by
  conv => arg 2; whnf
  go_wp2_with fail
  go_loopg [31] P.length (fun k idx wz => ∃ x : Nat, idx = .int .i64 (x : Int) ∧ Hid (x ≤ P.length ∧ k = P.length - x) ∧ Hid (Only [] w4 wz))
  case atStart => exact ⟨0, rfl, ⟨by omega, rfl⟩, Only.refl _ _⟩
  case round =>
    obtain ⟨x, rfl, H8, HO⟩ := hrel
    obtain ⟨wz, hwB⟩ : ∃ wz, wz = wr := ⟨wr, rfl⟩
    subst hwB
    by_cases hx : x < P.length
    · have hxl : (x : Int) < (P.length : Int) := by omega
      obtain ⟨g, ha4, hc1, hc2⟩ := HSH.out x hx
      have hd1 := cell_old HO.out hc1
      have hd2 := cell_old HO.out hc2
      obtain ⟨pa, pb, hma, hmb, hab, hmt⟩ := HPP.out.1 P[x] (List.getElem_mem hx)
      have HMT : Hid (meetX pa pb = true ∧ (P[x].2, pb) ∈ M) := ⟨hmt, hmb⟩
      have l1 := (HQ.out.only HO.out (by simp)).look_some (HM.out _ hma) hma
      unfold boxV at l1
      clear hmt hma hmb
      subst ha4
      go_upto_region 70 with fail
      clear hd1 hd2 l1
      have H5 : Hid (Only [] wz (wz.alloc (.cells #[.int .i64 (pa.x0), .int .i64 (pa.x1), .int .i64 (pa.x2), .int .i64 (pa.x3), .int .i64 (pa.x4), .int .i64 (pa.x5)] 37)) ∧ BoxAt2 (wz.alloc (.cells #[.int .i64 (pa.x0), .int .i64 (pa.x1), .int .i64 (pa.x2), .int .i64 (pa.x3), .int .i64 (pa.x4), .int .i64 (pa.x5)] 37)) wz.heap.size pa) := ⟨(Only.refl [] wz).alloc _, (MapKept.heap_alloc wz _).1⟩
      revert H5
      generalize wz.heap.size = ka
      generalize World.alloc wz _ = w5
      intro H5
      have hd1 := cell_old (HO.out.trans H5.out.1) hc1
      have hd2 := cell_old (HO.out.trans H5.out.1) hc2
      have l2 := (HQ.out.only (HO.out.trans H5.out.1) (by simp)).look_some (HM.out _ HMT.out.2) HMT.out.2
      unfold boxV at l2
      go_upto_region 71 with fail
      clear hd1 hd2 l2
      have H6 : Hid (Only [] w4 (w5.alloc (.cells #[.int .i64 (pb.x0), .int .i64 (pb.x1), .int .i64 (pb.x2), .int .i64 (pb.x3), .int .i64 (pb.x4), .int .i64 (pb.x5)] 37)) ∧ BoxAt2 (w5.alloc (.cells #[.int .i64 (pb.x0), .int .i64 (pb.x1), .int .i64 (pb.x2), .int .i64 (pb.x3), .int .i64 (pb.x4), .int .i64 (pb.x5)] 37)) w5.heap.size pb ∧ BoxAt2 (w5.alloc (.cells #[.int .i64 (pb.x0), .int .i64 (pb.x1), .int .i64 (pb.x2), .int .i64 (pb.x3), .int .i64 (pb.x4), .int .i64 (pb.x5)] 37)) ka pa) := ⟨(HO.out.trans H5.out.1).alloc _, (MapKept.heap_alloc w5 _).1, H5.out.2.only ((Only.refl [] w5).alloc _)⟩
      revert H6
      generalize w5.heap.size = kc
      generalize World.alloc w5 _ = w6
      intro H6
      have hd1 := cell_old H6.out.1 hc1
      have hd2 := cell_old H6.out.1 hc2
      have u0 := (H6.out.2.2).off 0; have u1 := (H6.out.2.2).off 1; have u2 := (H6.out.2.2).off 2; have u3 := (H6.out.2.2).off 3; have u4 := (H6.out.2.2).off 4; have u5 := (H6.out.2.2).off 5
      simp only [List.getElem?_toArray, List.getElem?_cons_succ, List.getElem?_cons_zero] at u0 u1 u2 u3 u4 u5
      have v0 := (H6.out.2.1).off 0; have v1 := (H6.out.2.1).off 1; have v2 := (H6.out.2.1).off 2; have v3 := (H6.out.2.1).off 3; have v4 := (H6.out.2.1).off 4; have v5 := (H6.out.2.1).off 5
      simp only [List.getElem?_toArray, List.getElem?_cons_succ, List.getElem?_cons_zero] at v0 v1 v2 v3 v4 v5
      clear hc1 hc2 H5 HO
      obtain ⟨y, hy⟩ : ∃ y, y = x - 1 := ⟨_, rfl⟩
      have hy2 : y < P.length := by omega
      have HRS : Hid (0 < x → P[y].1 < P[x].1 ∨ (P[y].1 = P[x].1 ∧ P[y].2 < P[x].2)) := fun h0 => by
        have h1 := rise_lt HPP.out.2.1 (y := y) (by omega)
        have e : y + 1 = x := by omega
        simp only [e] at h1
        exact h1
      obtain ⟨g', eg, hy1, hy3⟩ := HSH.out y hy2
      injection eg with eg; injection eg with eg
      subst eg
      have he1 := cell_old H6.out.1 hy1
      have he2 := cell_old H6.out.1 hy3
      have HY : Hid (0 < x → (x : Int) - 1 = (y : Int)) := fun h0 => by omega
      have hyl : (y : Int) < (P.length : Int) := by omega
      have hwr : IntKind.i64.wrap (y : Int) = (y : Int) := wrap_in (by omega) (by have := HPP.out.2.2; omega)
      clear hy hy1 hy3
      generalize P[x].1 = a1 at hd1 hab HRS
      generalize P[x].2 = a2 at hd2 hab HRS
      generalize P[y].1 = b1 at he1 HRS
      generalize P[y].2 = b2 at he2 HRS
      have t3 : decide (a2 ≤ a1) = false := by simp; omega
      have HK : Hid (∀ w', Kept w6 w' → Kept w6 w' ∧ w'.cell? ⟨ka, 0, none⟩ = some (.int .i64 pa.x0) ∧ w'.cell? ⟨ka, 1, none⟩ = some (.int .i64 pa.x1) ∧ w'.cell? ⟨ka, 2, none⟩ = some (.int .i64 pa.x2) ∧ w'.cell? ⟨ka, 3, none⟩ = some (.int .i64 pa.x3) ∧ w'.cell? ⟨ka, 4, none⟩ = some (.int .i64 pa.x4) ∧ w'.cell? ⟨ka, 5, none⟩ = some (.int .i64 pa.x5) ∧ w'.cell? ⟨kc, 0, none⟩ = some (.int .i64 pb.x0) ∧ w'.cell? ⟨kc, 1, none⟩ = some (.int .i64 pb.x1) ∧ w'.cell? ⟨kc, 2, none⟩ = some (.int .i64 pb.x2) ∧ w'.cell? ⟨kc, 3, none⟩ = some (.int .i64 pb.x3) ∧ w'.cell? ⟨kc, 4, none⟩ = some (.int .i64 pb.x4) ∧ w'.cell? ⟨kc, 5, none⟩ = some (.int .i64 pb.x5) ∧ w'.cell? ⟨g, x * 2, none⟩ = some (.int .i64 a1) ∧ w'.cell? ⟨g, x * 2 + 1, none⟩ = some (.int .i64 a2) ∧ w'.cell? ⟨g, y * 2, none⟩ = some (.int .i64 b1) ∧ w'.cell? ⟨g, y * 2 + 1, none⟩ = some (.int .i64 b2)) := fun w' k => ⟨k, kept_cell k u0, kept_cell k u1, kept_cell k u2, kept_cell k u3, kept_cell k u4, kept_cell k u5, kept_cell k v0, kept_cell k v1, kept_cell k v2, kept_cell k v3, kept_cell k v4, kept_cell k v5, kept_cell k hd1, kept_cell k hd2, kept_cell k he1, kept_cell k he2⟩
      clear u0 u1 u2 u3 u4 u5 v0 v1 v2 v3 v4 v5 hd1 hd2 he1 he2
      refine wp_region_held_drew (S := (fun w' => Kept w6 w' ∧ w'.cell? ⟨ka, 0, none⟩ = some (.int .i64 pa.x0) ∧ w'.cell? ⟨ka, 1, none⟩ = some (.int .i64 pa.x1) ∧ w'.cell? ⟨ka, 2, none⟩ = some (.int .i64 pa.x2) ∧ w'.cell? ⟨ka, 3, none⟩ = some (.int .i64 pa.x3) ∧ w'.cell? ⟨ka, 4, none⟩ = some (.int .i64 pa.x4) ∧ w'.cell? ⟨ka, 5, none⟩ = some (.int .i64 pa.x5) ∧ w'.cell? ⟨kc, 0, none⟩ = some (.int .i64 pb.x0) ∧ w'.cell? ⟨kc, 1, none⟩ = some (.int .i64 pb.x1) ∧ w'.cell? ⟨kc, 2, none⟩ = some (.int .i64 pb.x2) ∧ w'.cell? ⟨kc, 3, none⟩ = some (.int .i64 pb.x3) ∧ w'.cell? ⟨kc, 4, none⟩ = some (.int .i64 pb.x4) ∧ w'.cell? ⟨kc, 5, none⟩ = some (.int .i64 pb.x5) ∧ w'.cell? ⟨g, x * 2, none⟩ = some (.int .i64 a1) ∧ w'.cell? ⟨g, x * 2 + 1, none⟩ = some (.int .i64 a2) ∧ w'.cell? ⟨g, y * 2, none⟩ = some (.int .i64 b1) ∧ w'.cell? ⟨g, y * 2 + 1, none⟩ = some (.int .i64 b2))) (by kernel_rfl) ?_ (fun hHeld1 => ?_)
      · (try dsimp only); exact HK.out _ (Kept.refl _).drew
      refine tkW 0 rfl ?_; refine tkW 1 rfl ?_; refine tkW 2 rfl ?_; refine tkW 3 rfl ?_
      try simp only [Act.put, List.setIfInBounds_toArray, List.set_cons_zero, List.set_cons_succ, List.getElem_toArray, List.getElem_cons_succ, List.getElem_cons_zero]
      refine tkW 4 rfl ?_; refine tkW 5 rfl ?_; refine tkW 6 rfl ?_; refine tkW 7 rfl ?_
      try simp only [Act.put, List.setIfInBounds_toArray, List.set_cons_zero, List.set_cons_succ, List.getElem_toArray, List.getElem_cons_succ, List.getElem_cons_zero]
      refine tkW 8 rfl ?_; refine tkW 9 rfl ?_; refine tkW 10 rfl ?_; refine tkW 11 rfl ?_
      try simp only [Act.put, List.setIfInBounds_toArray, List.set_cons_zero, List.set_cons_succ, List.getElem_toArray, List.getElem_cons_succ, List.getElem_cons_zero]
      refine tkW 12 rfl ?_; refine tkW 13 rfl ?_; refine tkW 14 rfl ?_; refine tkW 15 rfl ?_
      try simp only [Act.put, List.setIfInBounds_toArray, List.set_cons_zero, List.set_cons_succ, List.getElem_toArray, List.getElem_cons_succ, List.getElem_cons_zero]
      refine tkW 16 rfl ?_; refine tkW 17 rfl ?_; refine tkW 18 rfl ?_; refine tkW 19 rfl ?_
      try simp only [Act.put, List.setIfInBounds_toArray, List.set_cons_zero, List.set_cons_succ, List.getElem_toArray, List.getElem_cons_succ, List.getElem_cons_zero]
      refine tkW 20 rfl ?_; refine tkW 21 rfl ?_
      try simp only [Act.put, List.setIfInBounds_toArray, List.set_cons_zero, List.set_cons_succ, List.getElem_toArray, List.getElem_cons_succ, List.getElem_cons_zero]
      refine wpAnyH_ready (rs := [22]) (by kernel_rfl) (by simp) ?_
      refine AllReadyH.cons rfl (fun K hK => ?_) AllReadyH.nil
      first | (with_reducible refine iteYes ?hcx ?htx; case hcx => kernel_rfl) | rw [if_pos (by rfl)]
      simp only [List.getElem_toArray, List.getElem_cons_succ, List.getElem_cons_zero]
      go_simp
      (go_at_call 11; refine (meet_true pa pb _ HMT.out.1).mono ?_; rintro e w7 ⟨rfl, k7⟩)
      try go_wp2_with fail
      refine hK.out _ _ ?_ (fun hHeld2 => ?_)
      · (try dsimp only); exact HK.out _ ((Kept.refl w6).drew.trans k7)
      clear hK K hHeld1
      try simp only [Act.put, List.setIfInBounds_toArray, List.set_cons_zero, List.set_cons_succ, List.getElem_toArray, List.getElem_cons_succ, List.getElem_cons_zero]
      refine tkW 23 rfl ?_; refine tkW 24 rfl ?_; refine tkW 25 rfl ?_; refine tkW 26 rfl ?_
      try simp only [Act.put, List.setIfInBounds_toArray, List.set_cons_zero, List.set_cons_succ, List.getElem_toArray, List.getElem_cons_succ, List.getElem_cons_zero]
      by_cases hx0 : 0 < x
      · have hx1 : (0 : Int) < (x : Int) := by omega
        have hyx := HY.out hx0
        have t1 : decide (a1 < b1) = false := by have := HRS.out hx0; simp; omega
        refine tkW 27 rfl ?_; refine tkW 28 rfl ?_; refine tkW 29 rfl ?_; refine tkW 30 rfl ?_
        try simp only [Act.put, List.setIfInBounds_toArray, List.set_cons_zero, List.set_cons_succ, List.getElem_toArray, List.getElem_cons_succ, List.getElem_cons_zero]
        refine tkW 31 rfl ?_; refine tkW 32 rfl ?_; refine tkW 33 rfl ?_; refine tkW 34 rfl ?_
        try simp only [Act.put, List.setIfInBounds_toArray, List.set_cons_zero, List.set_cons_succ, List.getElem_toArray, List.getElem_cons_succ, List.getElem_cons_zero]
        refine tkW 35 rfl ?_
        try simp only [Act.put, List.setIfInBounds_toArray, List.set_cons_zero, List.set_cons_succ, List.getElem_toArray, List.getElem_cons_succ, List.getElem_cons_zero]
        refine tkW (v := .int .i64 (y : Int)) 36 rfl ?_ (by intro w'' hSw; (try dsimp only at hSw); simp only [List.getElem_toArray, List.getElem_cons_succ, List.getElem_cons_zero]; (go_simp <;> rfl))
        try simp only [Act.put, List.setIfInBounds_toArray, List.set_cons_zero, List.set_cons_succ, List.getElem_toArray, List.getElem_cons_succ, List.getElem_cons_zero]
        refine tkW 37 rfl ?_; refine tkW 38 rfl ?_; refine tkW 39 rfl ?_; refine tkW 40 rfl ?_
        try simp only [Act.put, List.setIfInBounds_toArray, List.set_cons_zero, List.set_cons_succ, List.getElem_toArray, List.getElem_cons_succ, List.getElem_cons_zero]
        refine tkW 41 rfl ?_; refine tkW 42 rfl ?_; refine tkW 43 rfl ?_; refine tkW 44 rfl ?_
        try simp only [Act.put, List.setIfInBounds_toArray, List.set_cons_zero, List.set_cons_succ, List.getElem_toArray, List.getElem_cons_succ, List.getElem_cons_zero]
        refine tkW 45 rfl ?_; refine tkW 46 rfl ?_; refine tkW 47 rfl ?_; refine tkW 48 rfl ?_
        try simp only [Act.put, List.setIfInBounds_toArray, List.set_cons_zero, List.set_cons_succ, List.getElem_toArray, List.getElem_cons_succ, List.getElem_cons_zero]
        refine tkW (v := .int .i64 (y : Int)) 49 rfl ?_ (by intro w'' hSw; (try dsimp only at hSw); simp only [List.getElem_toArray, List.getElem_cons_succ, List.getElem_cons_zero]; (go_simp <;> rfl))
        try simp only [Act.put, List.setIfInBounds_toArray, List.set_cons_zero, List.set_cons_succ, List.getElem_toArray, List.getElem_cons_succ, List.getElem_cons_zero]
        refine tkW 50 rfl ?_; refine tkW 51 rfl ?_; refine tkW 52 rfl ?_
        try simp only [Act.put, List.setIfInBounds_toArray, List.set_cons_zero, List.set_cons_succ, List.getElem_toArray, List.getElem_cons_succ, List.getElem_cons_zero]
        by_cases hab1 : a1 = b1
        · have t4 : (a1 == b1) = true := by simpa using hab1
          have t5 : decide (a2 ≤ b2) = false := by have := HRS.out hx0; simp; omega
          clear hab1
          refine tkW 53 rfl ?_; refine tkW 54 rfl ?_; refine tkW 55 rfl ?_; refine tkW 56 rfl ?_
          try simp only [Act.put, List.setIfInBounds_toArray, List.set_cons_zero, List.set_cons_succ, List.getElem_toArray, List.getElem_cons_succ, List.getElem_cons_zero]
          refine tkW 57 rfl ?_; refine tkW 58 rfl ?_; refine tkW 59 rfl ?_; refine tkW 60 rfl ?_
          try simp only [Act.put, List.setIfInBounds_toArray, List.set_cons_zero, List.set_cons_succ, List.getElem_toArray, List.getElem_cons_succ, List.getElem_cons_zero]
          refine tkW 61 rfl ?_
          try simp only [Act.put, List.setIfInBounds_toArray, List.set_cons_zero, List.set_cons_succ, List.getElem_toArray, List.getElem_cons_succ, List.getElem_cons_zero]
          refine tkW (v := .int .i64 (y : Int)) 62 rfl ?_ (by intro w'' hSw; (try dsimp only at hSw); simp only [List.getElem_toArray, List.getElem_cons_succ, List.getElem_cons_zero]; (go_simp <;> rfl))
          try simp only [Act.put, List.setIfInBounds_toArray, List.set_cons_zero, List.set_cons_succ, List.getElem_toArray, List.getElem_cons_succ, List.getElem_cons_zero]
          refine tkW 63 rfl ?_; refine tkW 64 rfl ?_; refine tkW 65 rfl ?_; refine tkW 66 rfl ?_
          try simp only [Act.put, List.setIfInBounds_toArray, List.set_cons_zero, List.set_cons_succ, List.getElem_toArray, List.getElem_cons_succ, List.getElem_cons_zero]
          refine tkW 67 rfl ?_; refine tkW 68 rfl ?_; refine tkW 69 rfl ?_; refine tkW 70 rfl ?_
          try simp only [Act.put, List.setIfInBounds_toArray, List.set_cons_zero, List.set_cons_succ, List.getElem_toArray, List.getElem_cons_succ, List.getElem_cons_zero]
          refine wpAnyH_done (by kernel_rfl) ?_ _
          have H7 : Hid (Only [] w4 w7) := H6.out.1.trans (Only.of_kept ((Kept.refl w6).drew.trans k7))
          clear HK hHeld2 k7 H6
          have hpl := HPP.out.2.2
          go_wp2_with fail
          go_roundg (P.length - (x + 1))
          case measure => have := H8.out.2; omega
          case rel => exact ⟨x + 1, by go_num, ⟨by omega, rfl⟩, H7.out⟩
        · have t4 : (a1 == b1) = false := by simpa using hab1
          clear hab1
          refine tkW 53 rfl ?_; refine tkW 54 rfl ?_
          try simp only [Act.put, List.setIfInBounds_toArray, List.set_cons_zero, List.set_cons_succ, List.getElem_toArray, List.getElem_cons_succ, List.getElem_cons_zero]
          refine skW 55 rfl ?_; refine skW 56 rfl ?_; refine skW 57 rfl ?_; refine skW 58 rfl ?_
          try simp only [Act.put, List.setIfInBounds_toArray, List.set_cons_zero, List.set_cons_succ, List.getElem_toArray, List.getElem_cons_succ, List.getElem_cons_zero]
          refine skW 59 rfl ?_; refine skW 60 rfl ?_; refine skW 61 rfl ?_; refine skW 62 rfl ?_
          try simp only [Act.put, List.setIfInBounds_toArray, List.set_cons_zero, List.set_cons_succ, List.getElem_toArray, List.getElem_cons_succ, List.getElem_cons_zero]
          refine skW 63 rfl ?_; refine skW 64 rfl ?_; refine skW 65 rfl ?_; refine skW 66 rfl ?_
          try simp only [Act.put, List.setIfInBounds_toArray, List.set_cons_zero, List.set_cons_succ, List.getElem_toArray, List.getElem_cons_succ, List.getElem_cons_zero]
          refine tkW 67 rfl ?_; refine tkW 68 rfl ?_; refine tkW 69 rfl ?_; refine tkW 70 rfl ?_
          try simp only [Act.put, List.setIfInBounds_toArray, List.set_cons_zero, List.set_cons_succ, List.getElem_toArray, List.getElem_cons_succ, List.getElem_cons_zero]
          refine wpAnyH_done (by kernel_rfl) ?_ _
          have H7 : Hid (Only [] w4 w7) := H6.out.1.trans (Only.of_kept ((Kept.refl w6).drew.trans k7))
          clear HK hHeld2 k7 H6
          have hpl := HPP.out.2.2
          go_wp2_with fail
          go_roundg (P.length - (x + 1))
          case measure => have := H8.out.2; omega
          case rel => exact ⟨x + 1, by go_num, ⟨by omega, rfl⟩, H7.out⟩
      · have hx1 : ¬ (0 : Int) < (x : Int) := by omega
        refine tkW 27 rfl ?_; refine tkW 28 rfl ?_
        try simp only [Act.put, List.setIfInBounds_toArray, List.set_cons_zero, List.set_cons_succ, List.getElem_toArray, List.getElem_cons_succ, List.getElem_cons_zero]
        refine skW 29 rfl ?_; refine skW 30 rfl ?_; refine skW 31 rfl ?_; refine skW 32 rfl ?_
        try simp only [Act.put, List.setIfInBounds_toArray, List.set_cons_zero, List.set_cons_succ, List.getElem_toArray, List.getElem_cons_succ, List.getElem_cons_zero]
        refine skW 33 rfl ?_; refine skW 34 rfl ?_; refine skW 35 rfl ?_; refine skW 36 rfl ?_
        try simp only [Act.put, List.setIfInBounds_toArray, List.set_cons_zero, List.set_cons_succ, List.getElem_toArray, List.getElem_cons_succ, List.getElem_cons_zero]
        refine skW 37 rfl ?_; refine skW 38 rfl ?_; refine skW 39 rfl ?_; refine skW 40 rfl ?_
        try simp only [Act.put, List.setIfInBounds_toArray, List.set_cons_zero, List.set_cons_succ, List.getElem_toArray, List.getElem_cons_succ, List.getElem_cons_zero]
        refine skW 41 rfl ?_; refine skW 42 rfl ?_; refine skW 43 rfl ?_; refine skW 44 rfl ?_
        try simp only [Act.put, List.setIfInBounds_toArray, List.set_cons_zero, List.set_cons_succ, List.getElem_toArray, List.getElem_cons_succ, List.getElem_cons_zero]
        refine skW 45 rfl ?_; refine skW 46 rfl ?_; refine skW 47 rfl ?_; refine skW 48 rfl ?_
        try simp only [Act.put, List.setIfInBounds_toArray, List.set_cons_zero, List.set_cons_succ, List.getElem_toArray, List.getElem_cons_succ, List.getElem_cons_zero]
        refine skW 49 rfl ?_; refine skW 50 rfl ?_; refine skW 51 rfl ?_; refine skW 52 rfl ?_
        try simp only [Act.put, List.setIfInBounds_toArray, List.set_cons_zero, List.set_cons_succ, List.getElem_toArray, List.getElem_cons_succ, List.getElem_cons_zero]
        refine skW 53 rfl ?_; refine skW 54 rfl ?_; refine skW 55 rfl ?_; refine skW 56 rfl ?_
        try simp only [Act.put, List.setIfInBounds_toArray, List.set_cons_zero, List.set_cons_succ, List.getElem_toArray, List.getElem_cons_succ, List.getElem_cons_zero]
        refine skW 57 rfl ?_; refine skW 58 rfl ?_; refine skW 59 rfl ?_; refine skW 60 rfl ?_
        try simp only [Act.put, List.setIfInBounds_toArray, List.set_cons_zero, List.set_cons_succ, List.getElem_toArray, List.getElem_cons_succ, List.getElem_cons_zero]
        refine skW 61 rfl ?_; refine skW 62 rfl ?_; refine skW 63 rfl ?_; refine skW 64 rfl ?_
        try simp only [Act.put, List.setIfInBounds_toArray, List.set_cons_zero, List.set_cons_succ, List.getElem_toArray, List.getElem_cons_succ, List.getElem_cons_zero]
        refine skW 65 rfl ?_; refine skW 66 rfl ?_; refine skW 67 rfl ?_; refine skW 68 rfl ?_
        try simp only [Act.put, List.setIfInBounds_toArray, List.set_cons_zero, List.set_cons_succ, List.getElem_toArray, List.getElem_cons_succ, List.getElem_cons_zero]
        refine tkW 69 rfl ?_; refine tkW 70 rfl ?_
        try simp only [Act.put, List.setIfInBounds_toArray, List.set_cons_zero, List.set_cons_succ, List.getElem_toArray, List.getElem_cons_succ, List.getElem_cons_zero]
        refine wpAnyH_done (by kernel_rfl) ?_ _
        have H7 : Hid (Only [] w4 w7) := H6.out.1.trans (Only.of_kept ((Kept.refl w6).drew.trans k7))
        clear HK hHeld2 k7 H6
        have hpl := HPP.out.2.2
        go_wp2_with fail
        go_roundg (P.length - (x + 1))
        case measure => have := H8.out.2; omega
        case rel => exact ⟨x + 1, by go_num, ⟨by omega, rfl⟩, H7.out⟩
    · have hxl : ¬ (x : Int) < (P.length : Int) := by omega
      go_wp2_with fail
      exact HO.out

end Go.Proofs.YtdhbcgdlmkkdfaaGreatDoor
