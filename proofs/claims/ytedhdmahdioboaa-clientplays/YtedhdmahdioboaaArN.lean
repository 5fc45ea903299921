/- gyreref.Apply: one that changes. -/
import Derived.Test.YtedhdmahdioboaaArM
import Derived.Deep.CutBlock
import Derived.Test.YtedhdmahdioboaaSnk
import Derived.Test.YtedhdmahdioboaaStrl
namespace Go.Proofs.Ytedhdmahdioboaa
open Go.ChangeShapes Go.WideShapes Go.ChangeAt Go.RowKit
set_option linter.unusedVariables false
set_option linter.unusedSimpArgs false

set_option maxRecDepth 1000000 in
set_option maxHeartbeats 0 in
theorem sw_C (F : List Sn) (L : List Nat) (w : World) (kt k6 k7 k8 : Nat) (v : Value) (N : List Sn) (la : Int) (p : Nat) (g : Nat × Int × Nat) (nn : Nat × Nat × Nat) (k : Nat) (idv : Int) (at_ : Nat) (th : Bool) (an : Option Addr) (cn : Nat) (wd : World) (c0 c1 c2 c3 c4 c5 c13 c16 c17 c18 c19 c20 c21 c22 c23 c24 c25 c26 c27 c28 c29 c30 c31 c32 c33 c34 c35 c36 c37 c38 c39 c40 c41 c42 c43 c44 c45 c46 c47 c48 c49 c50 c51 c52 c53 c54 c55 c56 c57 c58 c59 c60 c61 c62 c63 c64 c65 c66 c67 c68 c69 c70 c71 c72 c73 c74 c75 c76 c77 c78 c79 c80 c81 c82 c83 c84 c85 c86 c87 c88 c89 c90 c91 c92 c93 c94 c95 c96 c97 c98 c99 c100 c101 c102 c103 c104 c105 c106 c107 c108 c109 c110 c111 c112 c113 c114 c115 c116 c117 c118 c119 c120 c121 c122 c123 c124 c125 c126 c127 c128 c129 c130 c131 c132 c133 c134 c135 c136 c137 c138 c139 c140 c141 c142 c143 c144 c145 c146 c147 c148 c149 c150 c151 c152 c153 c154 c155 c156 c157 c158 c159 c160 c161 c162 c163 c164 c165 c166 c167 c168 c169 c170 c171 c172 c173 c174 c175 c176 c177 c178 c179 c180 c181 c182 c183 c184 c185 c186 c187 c188 c189 c190 c191 c192 c193 c194 c195 c196 c197 c198 c199 c200 c201 c202 c203 c204 c205 c206 c207 c208 c209 c210 c211 c212 c213 c214 c215 c216 c217 c218 c219 c220 c221 c222 c223 c224 c225 c226 c227 c228 c229 c230 c231 c232 : Value) (K K1 : Act → World → Prop) (Pf : Ending → World → Prop)
    (hk : k = 2) (hth : th = true) (HG : Hid (g = getM L p 2)) (HNN : Hid (nn = numM 4611686018427387903 L g.2.2)) (HID : Hid (idv = wrap64 (la + wrap64 (((nn.2.1 : Nat) : Int) + 1)))) (HAT : Hid (AtR N idv at_)) (HK : Hid (k < 4 ∧ g.2.1 = (k : Int) ∧ (g.1 = 0 → g.2.2 = p + 2))) (HB2 : Hid ((false || decide (g.1 ≠ 0) || decide (nn.1 ≠ 0)) = false))
    (HSN : Hid (SeenAt wd an N.length (fun j => N.getD j zs) ∧ N.length ≤ cn)) (HAN : Hid (an = none → cn = 0)) (H2 : Hid (RA w kt k6 k7 k8 v L false nn.2.2 (.slice an N.length cn) N wd)) (HN120 : Hid (N.length ≤ 120)) (HTH : Hid (thereR N idv at_ = th)) (HW : Hid (WayR F L N false la p ∧ N.length ≤ 121)) (hat0 : at_ ≤ N.length)
    (hK : ∀ (u4 u5 u16 u17 u18 u19 u20 u35 u36 u37 u38 u39 u40 u41 u42 u43 u44 u45 u46 u47 u48 u49 u50 u51 u52 u53 u54 u55 u56 u57 u58 u59 u60 u61 u62 u63 u64 u65 u66 u67 u68 u69 u70 u71 u72 u73 u74 u75 u76 u77 u78 u79 u80 u81 u82 u83 u84 u85 u86 u87 u88 u89 u90 u91 u92 u93 u94 u95 u96 u97 u98 u99 u100 u101 u102 u103 u104 u105 u106 u107 u108 u109 u110 u111 u112 u113 u114 u115 u116 u117 u118 u119 u120 u121 u122 u123 u124 u125 u126 u127 u128 u129 u130 u131 u132 u133 u134 u135 u136 u137 u138 u139 u140 u141 u142 u143 u144 u145 u146 u147 u148 u149 u150 u151 u152 u153 u154 u155 u156 u157 u158 u159 u160 u161 u162 u163 u164 u165 u166 u167 u168 u169 u170 u171 u172 u173 u174 u175 u176 u177 u178 u179 u180 u181 u182 u183 u184 u185 u186 u187 u188 u189 u190 u191 u192 u193 u194 u195 u196 u197 u198 u199 u200 u201 u202 u203 u204 u205 u206 u207 u208 u209 u210 u211 u212 u213 : Value) (nv' : Value) (wz : World), SwQ F L w kt k6 k7 k8 v idv nn.2.2 nv' wz → K ⟨#[c0, c1, c2, c3, u4, u5, .pointer (some ⟨k6, 0, none⟩), .pointer (some ⟨k7, 0, none⟩), .pointer (some ⟨k8, 0, none⟩), .func (.func 83) #[] #[.pointer (some ⟨k8, 0, none⟩), .pointer (some ⟨k6, 0, none⟩)], nv', .int .i64 idv, .int .i64 (k : Int), c13, .int .i64 (at_ : Int), .bool th, u16, u17, u18, u19, u20, c21, c22, c23, c24, c25, c26, c27, c28, c29, c30, c31, c32, c33, c34, u35, u36, u37, u38, u39, u40, u41, u42, u43, u44, u45, u46, u47, u48, u49, u50, u51, u52, u53, u54, u55, u56, u57, u58, u59, u60, u61, u62, u63, u64, u65, u66, u67, u68, u69, u70, u71, u72, u73, u74, u75, u76, u77, u78, u79, u80, u81, u82, u83, u84, u85, u86, u87, u88, u89, u90, u91, u92, u93, u94, u95, u96, u97, u98, u99, u100, u101, u102, u103, u104, u105, u106, u107, u108, u109, u110, u111, u112, u113, u114, u115, u116, u117, u118, u119, u120, u121, u122, u123, u124, u125, u126, u127, u128, u129, u130, u131, u132, u133, u134, u135, u136, u137, u138, u139, u140, u141, u142, u143, u144, u145, u146, u147, u148, u149, u150, u151, u152, u153, u154, u155, u156, u157, u158, u159, u160, u161, u162, u163, u164, u165, u166, u167, u168, u169, u170, u171, u172, u173, u174, u175, u176, u177, u178, u179, u180, u181, u182, u183, u184, u185, u186, u187, u188, u189, u190, u191, u192, u193, u194, u195, u196, u197, u198, u199, u200, u201, u202, u203, u204, u205, u206, u207, u208, u209, u210, u211, u212, u213, c214, c215, c216, c217, c218, c219, c220, c221, c222, c223, c224, c225, c226, c227, c228, c229, c230, c231, c232], []⟩ wz) :
    Code.wp Try.prog (code4 Try.f52) (Exit.inBlock 1 (Exit.then K (Exit.inBlock 0 (Exit.then K1 (bodyPost Try.prog Try.f52 Pf))))) ⟨#[c0, c1, c2, c3, c4, c5, .pointer (some ⟨k6, 0, none⟩), .pointer (some ⟨k7, 0, none⟩), .pointer (some ⟨k8, 0, none⟩), .func (.func 83) #[] #[.pointer (some ⟨k8, 0, none⟩), .pointer (some ⟨k6, 0, none⟩)], .slice an N.length cn, .int .i64 idv, .int .i64 (k : Int), c13, .int .i64 (at_ : Int), .bool th, c16, c17, c18, c19, c20, c21, c22, c23, c24, c25, c26, c27, c28, c29, c30, c31, c32, c33, c34, c35, c36, c37, c38, c39, c40, c41, c42, c43, c44, c45, c46, c47, c48, c49, c50, c51, c52, c53, c54, c55, c56, c57, c58, c59, c60, c61, c62, c63, c64, c65, c66, c67, c68, c69, c70, c71, c72, c73, c74, c75, c76, c77, c78, c79, c80, c81, c82, c83, c84, c85, c86, c87, c88, c89, c90, c91, c92, c93, c94, c95, c96, c97, c98, c99, c100, c101, c102, c103, c104, c105, c106, c107, c108, c109, c110, c111, c112, c113, c114, c115, c116, c117, c118, c119, c120, c121, c122, c123, c124, c125, c126, c127, c128, c129, c130, c131, c132, c133, c134, c135, c136, c137, c138, c139, c140, c141, c142, c143, c144, c145, c146, c147, c148, c149, c150, c151, c152, c153, c154, c155, c156, c157, c158, c159, c160, c161, c162, c163, c164, c165, c166, c167, c168, c169, c170, c171, c172, c173, c174, c175, c176, c177, c178, c179, c180, c181, c182, c183, c184, c185, c186, c187, c188, c189, c190, c191, c192, c193, c194, c195, c196, c197, c198, c199, c200, c201, c202, c203, c204, c205, c206, c207, c208, c209, c210, c211, c212, c213, c214, c215, c216, c217, c218, c219, c220, c221, c222, c223, c224, c225, c226, c227, c228, c229, c230, c231, c232], []⟩ wd := by
  have hmf : ∀ (fn : Fn) (first cap : Array Value) (w : World), (Instr.makeFunc fn first cap).run Try.prog w = .ok (.func fn first cap) w := fun _ _ _ _ => rfl
  subst hk hth
  have hN121 := HW.out.2
  conv => arg 2; whnf
  have hac : at_ ≤ cn := by have := HSN.out.2; omega
  have htl : (N.take at_).length = at_ := by rw [List.length_take]; omega
  have han := HAN.out
  have hlt : at_ < N.length := by have := HTH.out; unfold thereR at this; rw [Bool.and_eq_true] at this; simpa using this.1
  have HLT : Hid (at_ < N.length) := hlt
  obtain ⟨u, hu⟩ : ∃ u, N.getD at_ zs = u := ⟨_, rfl⟩
  have HUQ : Hid (N.getD at_ zs = u ∧ u.id = idv) := by
    have h1 := HTH.out
    unfold thereR at h1
    rw [Bool.and_eq_true, hu] at h1
    exact ⟨hu, by simpa using h1.2⟩
  obtain ⟨g9, hg9⟩ : ∃ g9, an = some ⟨g9, 0, none⟩ := by
    obtain ⟨_, ⟨_, e0⟩ | ⟨g', cap, cur, e, _⟩⟩ := H2.out.own
    · omega
    · injection e with e _ _
      exact ⟨g', e⟩
  subst hg9
  obtain ⟨g', o', e', hcell⟩ := HSN.out.1 at_ hlt
  injection e' with e'
  injection e' with e1 e2 _
  subst e1 e2
  simp only [hu, Nat.zero_add] at hcell
  clear hu
  have z0 := hcell 0 (by omega)
  have z1 := hcell 1 (by omega)
  have z2 := hcell 2 (by omega)
  have z3 := hcell 3 (by omega)
  have z4 := hcell 4 (by omega)
  have z5 := hcell 5 (by omega)
  have z6 := hcell 6 (by omega)
  have z7 := hcell 7 (by omega)
  have z8 := hcell 8 (by omega)
  have z9 := hcell 9 (by omega)
  have z10 := hcell 10 (by omega)
  simp only [sc, Nat.add_zero] at z0 z1 z2 z3 z4 z5 z6 z7 z8 z9 z10
  clear hcell
  have hatl : (at_ : Int) < (N.length : Int) := by omega
  go_upto_region 31 with fail
  have HS : Hid (RS1 w kt k6 k7 k8 v L (false) (nn.2.2) (.slice (some ⟨g9, 0, none⟩) N.length cn) N wd.heap.size (u) (wd.alloc (.cells #[.int .i64 (u.id), .int .i64 (u.kd), .int .i64 (u.sx), .int .i64 (u.sy), .int .i64 (u.sz), .int .i64 (u.ax), .int .i64 (u.ay), .int .i64 (u.az), .int .i64 (u.vx), .int .i64 (u.vy), .int .i64 (u.vz)] 116))) := RS1.new H2.out u
  clear z0 z1 z2 z3 z4 z5 z6 z7 z8 z9 z10
  revert HS
  generalize wd.heap.size = ks
  generalize World.alloc wd _ = w6
  intro HS
  obtain ⟨y1, hy1⟩ : ∃ y, y = getM L nn.2.2 1 := ⟨_, rfl⟩
  obtain ⟨y2, hy2⟩ : ∃ y, y = getM L y1.2.2 1 := ⟨_, rfl⟩
  obtain ⟨y3, hy3⟩ : ∃ y, y = getM L y2.2.2 1 := ⟨_, rfl⟩
  have HY1 : Hid (y1 = getM L nn.2.2 1) := hy1
  have HY2 : Hid (y2 = getM L y1.2.2 1) := hy2
  have HY3 : Hid (y3 = getM L y2.2.2 1) := hy3
  clear hy1 hy2 hy3
  have c6 := HS.out.ra.rz.c6; have c8 := HS.out.ra.rz.c8
  refine wp_region_held_drew (S := (fun w' => w'.cell? ⟨k6, 0, none⟩ = some (.pointer (some ⟨kt, 0, none⟩)) ∧ w'.cell? ⟨k8, 0, none⟩ = some (.func (.func 82) #[] #[.pointer (some ⟨k7, 0, none⟩)]))) (by kernel_rfl) ?_ (fun hHeld1 => ?_)
  · (try dsimp only); exact ⟨c6, c8⟩
  refine tkW 0 rfl ?_; refine tkW 1 rfl ?_; refine tkW 6 rfl ?_; refine tkW 7 rfl ?_
  try simp only [Act.put, List.setIfInBounds_toArray, List.set_cons_zero, List.set_cons_succ, List.getElem_toArray, List.getElem_cons_succ, List.getElem_cons_zero]
  refine tkW 12 rfl ?_; refine tkW 13 rfl ?_
  try simp only [Act.put, List.setIfInBounds_toArray, List.set_cons_zero, List.set_cons_succ, List.getElem_toArray, List.getElem_cons_succ, List.getElem_cons_zero]
  refine wpAnyH_ready (rs := [2]) (by kernel_rfl) (by simp) ?_
  refine AllReadyH.cons rfl (fun K hK => ?_) AllReadyH.nil
  first | (with_reducible refine iteYes ?hcx ?htx; case hcx => kernel_rfl) | rw [if_pos (by rfl)]
  simp only [List.getElem_toArray, List.getElem_cons_succ, List.getElem_cons_zero]
  go_simp
  (go_at_call 81; refine (tgetN_calls kt v L _ 1 _ (HS.out.keep (Only.refl _ _).drew).ra.rz.tp y1 HY1.out).mono ?_; rintro e wa1 ⟨rfl, h3, o3⟩)
  try go_wp2_with fail
  refine hK.out _ _ ?_ (fun hHeld2 => ?_)
  · (try dsimp only); exact ⟨o3.cell (a := ⟨k6, 0, none⟩) (v := .pointer (some ⟨kt, 0, none⟩)) c6 (by simpa using HS.out.ra.rz.d.1.symm), o3.cell (a := ⟨k8, 0, none⟩) (v := .func (.func 82) #[] #[.pointer (some ⟨k7, 0, none⟩)]) c8 (by simpa using HS.out.ra.rz.d.2.2.1.symm)⟩
  clear hK K hHeld1
  try simp only [Act.put, List.setIfInBounds_toArray, List.set_cons_zero, List.set_cons_succ, List.getElem_toArray, List.getElem_cons_succ, List.getElem_cons_zero]
  have HT : Hid (RS1 w kt k6 k7 k8 v L (false) (y1.2.2) (.slice (some ⟨g9, 0, none⟩) N.length cn) N ks (u) wa1) := (HS.out.keep (Only.refl _ _).drew).read h3 o3
  clear h3 o3
  refine tkW 3 rfl ?_; refine tkW 4 rfl ?_
  try simp only [Act.put, List.setIfInBounds_toArray, List.set_cons_zero, List.set_cons_succ, List.getElem_toArray, List.getElem_cons_succ, List.getElem_cons_zero]
  refine wpAnyH_ready (rs := [5]) (by kernel_rfl) (by simp) ?_
  refine AllReadyH.cons rfl (fun K hK => ?_) AllReadyH.nil
  first | (with_reducible refine iteYes ?hcx ?htx; case hcx => kernel_rfl) | rw [if_pos (by rfl)]
  simp only [List.getElem_toArray, List.getElem_cons_succ, List.getElem_cons_zero]
  go_simp
  (go_at_call 82; refine (numZ_calls y1.2.1 y1.1 _ k7 wa1 HT.out.ra.rz.b7).mono ?_; rintro e wb1 ⟨rfl, h4, o4⟩)
  try go_wp2_with fail
  refine hK.out _ _ ?_ (fun hHeld3 => ?_)
  · (try dsimp only); exact ⟨(HT.out.mark h4 o4).ra.rz.c6, (HT.out.mark h4 o4).ra.rz.c8⟩
  clear hK K hHeld2
  try simp only [Act.put, List.setIfInBounds_toArray, List.set_cons_zero, List.set_cons_succ, List.getElem_toArray, List.getElem_cons_succ, List.getElem_cons_zero]
  have HS1 : Hid (RS1 w kt k6 k7 k8 v L (false || decide (y1.1 ≠ 0)) (y1.2.2) (.slice (some ⟨g9, 0, none⟩) N.length cn) N ks (u) wb1) := HT.out.mark h4 o4
  clear h4 o4 HT
  clear c6 c8
  have c6 := HS1.out.ra.rz.c6; have c8 := HS1.out.ra.rz.c8
  refine wpAnyH_ready (rs := [8]) (by kernel_rfl) (by simp) ?_
  refine AllReadyH.cons rfl (fun K hK => ?_) AllReadyH.nil
  first | (with_reducible refine iteYes ?hcx ?htx; case hcx => kernel_rfl) | rw [if_pos (by rfl)]
  simp only [List.getElem_toArray, List.getElem_cons_succ, List.getElem_cons_zero]
  go_simp
  (go_at_call 81; refine (tgetN_calls kt v L _ 1 _ HS1.out.ra.rz.tp y2 HY2.out).mono ?_; rintro e wa2 ⟨rfl, h3, o3⟩)
  try go_wp2_with fail
  refine hK.out _ _ ?_ (fun hHeld4 => ?_)
  · (try dsimp only); exact ⟨o3.cell (a := ⟨k6, 0, none⟩) (v := .pointer (some ⟨kt, 0, none⟩)) c6 (by simpa using HS1.out.ra.rz.d.1.symm), o3.cell (a := ⟨k8, 0, none⟩) (v := .func (.func 82) #[] #[.pointer (some ⟨k7, 0, none⟩)]) c8 (by simpa using HS1.out.ra.rz.d.2.2.1.symm)⟩
  clear hK K hHeld3
  try simp only [Act.put, List.setIfInBounds_toArray, List.set_cons_zero, List.set_cons_succ, List.getElem_toArray, List.getElem_cons_succ, List.getElem_cons_zero]
  have HT : Hid (RS1 w kt k6 k7 k8 v L (false || decide (y1.1 ≠ 0)) (y2.2.2) (.slice (some ⟨g9, 0, none⟩) N.length cn) N ks (u) wa2) := HS1.out.read h3 o3
  clear h3 o3
  refine tkW 9 rfl ?_; refine tkW 10 rfl ?_
  try simp only [Act.put, List.setIfInBounds_toArray, List.set_cons_zero, List.set_cons_succ, List.getElem_toArray, List.getElem_cons_succ, List.getElem_cons_zero]
  refine wpAnyH_ready (rs := [11]) (by kernel_rfl) (by simp) ?_
  refine AllReadyH.cons rfl (fun K hK => ?_) AllReadyH.nil
  first | (with_reducible refine iteYes ?hcx ?htx; case hcx => kernel_rfl) | rw [if_pos (by rfl)]
  simp only [List.getElem_toArray, List.getElem_cons_succ, List.getElem_cons_zero]
  go_simp
  (go_at_call 82; refine (numZ_calls y2.2.1 y2.1 _ k7 wa2 HT.out.ra.rz.b7).mono ?_; rintro e wb2 ⟨rfl, h4, o4⟩)
  try go_wp2_with fail
  refine hK.out _ _ ?_ (fun hHeld5 => ?_)
  · (try dsimp only); exact ⟨(HT.out.mark h4 o4).ra.rz.c6, (HT.out.mark h4 o4).ra.rz.c8⟩
  clear hK K hHeld4
  try simp only [Act.put, List.setIfInBounds_toArray, List.set_cons_zero, List.set_cons_succ, List.getElem_toArray, List.getElem_cons_succ, List.getElem_cons_zero]
  have HS2 : Hid (RS1 w kt k6 k7 k8 v L (false || decide (y1.1 ≠ 0) || decide (y2.1 ≠ 0)) (y2.2.2) (.slice (some ⟨g9, 0, none⟩) N.length cn) N ks (u) wb2) := HT.out.mark h4 o4
  clear h4 o4 HT
  clear c6 c8
  have c6 := HS2.out.ra.rz.c6; have c8 := HS2.out.ra.rz.c8
  refine wpAnyH_ready (rs := [14]) (by kernel_rfl) (by simp) ?_
  refine AllReadyH.cons rfl (fun K hK => ?_) AllReadyH.nil
  first | (with_reducible refine iteYes ?hcx ?htx; case hcx => kernel_rfl) | rw [if_pos (by rfl)]
  simp only [List.getElem_toArray, List.getElem_cons_succ, List.getElem_cons_zero]
  go_simp
  (go_at_call 81; refine (tgetN_calls kt v L _ 1 _ HS2.out.ra.rz.tp y3 HY3.out).mono ?_; rintro e wa3 ⟨rfl, h3, o3⟩)
  try go_wp2_with fail
  refine hK.out _ _ ?_ (fun hHeld6 => ?_)
  · (try dsimp only); exact ⟨o3.cell (a := ⟨k6, 0, none⟩) (v := .pointer (some ⟨kt, 0, none⟩)) c6 (by simpa using HS2.out.ra.rz.d.1.symm), o3.cell (a := ⟨k8, 0, none⟩) (v := .func (.func 82) #[] #[.pointer (some ⟨k7, 0, none⟩)]) c8 (by simpa using HS2.out.ra.rz.d.2.2.1.symm)⟩
  clear hK K hHeld5
  try simp only [Act.put, List.setIfInBounds_toArray, List.set_cons_zero, List.set_cons_succ, List.getElem_toArray, List.getElem_cons_succ, List.getElem_cons_zero]
  have HT : Hid (RS1 w kt k6 k7 k8 v L (false || decide (y1.1 ≠ 0) || decide (y2.1 ≠ 0)) (y3.2.2) (.slice (some ⟨g9, 0, none⟩) N.length cn) N ks (u) wa3) := HS2.out.read h3 o3
  clear h3 o3
  refine tkW 15 rfl ?_; refine tkW 16 rfl ?_
  try simp only [Act.put, List.setIfInBounds_toArray, List.set_cons_zero, List.set_cons_succ, List.getElem_toArray, List.getElem_cons_succ, List.getElem_cons_zero]
  refine wpAnyH_ready (rs := [17]) (by kernel_rfl) (by simp) ?_
  refine AllReadyH.cons rfl (fun K hK => ?_) AllReadyH.nil
  first | (with_reducible refine iteYes ?hcx ?htx; case hcx => kernel_rfl) | rw [if_pos (by rfl)]
  simp only [List.getElem_toArray, List.getElem_cons_succ, List.getElem_cons_zero]
  go_simp
  (go_at_call 82; refine (numZ_calls y3.2.1 y3.1 _ k7 wa3 HT.out.ra.rz.b7).mono ?_; rintro e wb3 ⟨rfl, h4, o4⟩)
  try go_wp2_with fail
  refine hK.out _ _ ?_ (fun hHeld7 => ?_)
  · (try dsimp only); exact ⟨(HT.out.mark h4 o4).ra.rz.c6, (HT.out.mark h4 o4).ra.rz.c8⟩
  clear hK K hHeld6
  try simp only [Act.put, List.setIfInBounds_toArray, List.set_cons_zero, List.set_cons_succ, List.getElem_toArray, List.getElem_cons_succ, List.getElem_cons_zero]
  have HS3 : Hid (RS1 w kt k6 k7 k8 v L (false || decide (y1.1 ≠ 0) || decide (y2.1 ≠ 0) || decide (y3.1 ≠ 0)) (y3.2.2) (.slice (some ⟨g9, 0, none⟩) N.length cn) N ks (u) wb3) := HT.out.mark h4 o4
  clear h4 o4 HT
  clear c6 c8
  refine tkW 18 rfl ?_; refine tkW 19 rfl ?_; refine tkW 20 rfl ?_
  try simp only [Act.put, List.setIfInBounds_toArray, List.set_cons_zero, List.set_cons_succ, List.getElem_toArray, List.getElem_cons_succ, List.getElem_cons_zero]
  refine wpAnyH_done (by kernel_rfl) ?_ _
  obtain ⟨x0, hx0⟩ : ∃ x0 : Sn × Bool × Nat, x0 = ({ u with id := idv }, false || decide (y1.1 ≠ 0) || decide (y2.1 ≠ 0) || decide (y3.1 ≠ 0), y3.2.2) := ⟨_, rfl⟩
  have H0 : Hid (RS1 w kt k6 k7 k8 v L (x0.2.1) (x0.2.2) (.slice (some ⟨g9, 0, none⟩) N.length cn) N ks (x0.1) wb3) := by
    have hu' : ({ u with id := idv } : Sn) = u := by rw [← HUQ.out.2]
    rw [hx0, hu']
    exact HS3.out
  have Dx0 : Hid (x0 = ({ u with id := idv }, false || decide (y1.1 ≠ 0) || decide (y2.1 ≠ 0) || decide (y3.1 ≠ 0), y3.2.2)) := hx0
  clear hx0 HS HS1 HS2 HS3
  obtain ⟨A, hA⟩ : ∃ A, (y1.2.1 == 1) = A := ⟨_, rfl⟩
  obtain ⟨B, hB⟩ : ∃ B, (y2.2.1 == 1) = B := ⟨_, rfl⟩
  obtain ⟨C, hC⟩ : ∃ C, (y3.2.1 == 1) = C := ⟨_, rfl⟩
  have HABC : Hid ((y1.2.1 == 1) = A ∧ (y2.2.1 == 1) = B ∧ (y3.2.1 == 1) = C) := ⟨hA, hB, hC⟩
  generalize wb3 = w7 at H0 ⊢
  go_upto_if 183 with fail
  go_cut [18] from 35 to 213 (fun s18 wx => s18 = .int .i64 (y1.2.1) ∧ Hid (RS1 w kt k6 k7 k8 v L ((seen1 L A u x0).2.1) ((seen1 L A u x0).2.2) (.slice (some ⟨g9, 0, none⟩) N.length cn) N ks ((seen1 L A u x0).1) wx))
  case first =>
    cases A with
    | false =>
      go_wp2_with fail
      go_meet
      case rel => exact ⟨rfl, H0⟩
    | true =>
      obtain ⟨g4, hg4⟩ : ∃ g, g = getM L x0.2.2 3 := ⟨_, rfl⟩
      have HG4 : Hid (g4 = getM L x0.2.2 3) := hg4
      clear hg4
      have c6 := H0.out.ra.rz.c6; have c8 := H0.out.ra.rz.c8
      go_upto_region 33 with fail
      refine wp_region_held_drew (S := (fun w' => w'.cell? ⟨k6, 0, none⟩ = some (.pointer (some ⟨kt, 0, none⟩)) ∧ w'.cell? ⟨k8, 0, none⟩ = some (.func (.func 82) #[] #[.pointer (some ⟨k7, 0, none⟩)]))) (by kernel_rfl) ?_ (fun hHeld1 => ?_)
      · (try dsimp only); exact ⟨c6, c8⟩
      refine tkW 0 rfl ?_; refine tkW 1 rfl ?_
      try simp only [Act.put, List.setIfInBounds_toArray, List.set_cons_zero, List.set_cons_succ, List.getElem_toArray, List.getElem_cons_succ, List.getElem_cons_zero]
      refine wpAnyH_ready (rs := [2]) (by kernel_rfl) (by simp) ?_
      refine AllReadyH.cons rfl (fun K hK => ?_) AllReadyH.nil
      first | (with_reducible refine iteYes ?hcx ?htx; case hcx => kernel_rfl) | rw [if_pos (by rfl)]
      simp only [List.getElem_toArray, List.getElem_cons_succ, List.getElem_cons_zero]
      go_simp
      (go_at_call 81; refine (tgetN_calls kt v L _ 3 _ (H0.out.keep (Only.refl _ _).drew).ra.rz.tp g4 HG4.out).mono ?_; rintro e wa4 ⟨rfl, h3, o3⟩)
      try go_wp2_with fail
      refine hK.out _ _ ?_ (fun hHeld2 => ?_)
      · (try dsimp only); exact ⟨o3.cell (a := ⟨k6, 0, none⟩) (v := .pointer (some ⟨kt, 0, none⟩)) c6 (by simpa using H0.out.ra.rz.d.1.symm), o3.cell (a := ⟨k8, 0, none⟩) (v := .func (.func 82) #[] #[.pointer (some ⟨k7, 0, none⟩)]) c8 (by simpa using H0.out.ra.rz.d.2.2.1.symm)⟩
      clear hK K hHeld1
      try simp only [Act.put, List.setIfInBounds_toArray, List.set_cons_zero, List.set_cons_succ, List.getElem_toArray, List.getElem_cons_succ, List.getElem_cons_zero]
      have HT : Hid (RS1 w kt k6 k7 k8 v L (x0.2.1) (g4.2.2) (.slice (some ⟨g9, 0, none⟩) N.length cn) N ks (x0.1) wa4) := (H0.out.keep (Only.refl _ _).drew).read h3 o3
      clear h3 o3
      refine tkW 3 rfl ?_; refine tkW 4 rfl ?_
      try simp only [Act.put, List.setIfInBounds_toArray, List.set_cons_zero, List.set_cons_succ, List.getElem_toArray, List.getElem_cons_succ, List.getElem_cons_zero]
      refine wpAnyH_ready (rs := [5]) (by kernel_rfl) (by simp) ?_
      refine AllReadyH.cons rfl (fun K hK => ?_) AllReadyH.nil
      first | (with_reducible refine iteYes ?hcx ?htx; case hcx => kernel_rfl) | rw [if_pos (by rfl)]
      simp only [List.getElem_toArray, List.getElem_cons_succ, List.getElem_cons_zero]
      go_simp
      (go_at_call 82; refine (numZ_calls g4.2.1 g4.1 _ k7 wa4 HT.out.ra.rz.b7).mono ?_; rintro e wb4 ⟨rfl, h4, o4⟩)
      try go_wp2_with fail
      refine hK.out _ _ ?_ (fun hHeld3 => ?_)
      · (try dsimp only); exact ⟨(HT.out.mark h4 o4).ra.rz.c6, (HT.out.mark h4 o4).ra.rz.c8⟩
      clear hK K hHeld2
      try simp only [Act.put, List.setIfInBounds_toArray, List.set_cons_zero, List.set_cons_succ, List.getElem_toArray, List.getElem_cons_succ, List.getElem_cons_zero]
      have HK4 : Hid (RS1 w kt k6 k7 k8 v L (x0.2.1 || decide (g4.1 ≠ 0)) (g4.2.2) (.slice (some ⟨g9, 0, none⟩) N.length cn) N ks (x0.1) wb4) := HT.out.mark h4 o4
      clear h4 o4 HT
      have HP4 : Hid (RS1 w kt k6 k7 k8 v L (x0.2.1 || decide (g4.1 ≠ 0)) (g4.2.2) (.slice (some ⟨g9, 0, none⟩) N.length cn) N ks ({ x0.1 with kd := g4.2.1 }) (wb4.setCell ⟨ks, 1, none⟩ (.int .i64 (g4.2.1)))) := HK4.out.put (HK4.out.sn.put1 g4.2.1) ((Only.refl [ks] wb4).setCell (p := ⟨ks, 1, none⟩) (Or.inl (by simp)) _)
      have z1 := HK4.out.sn.off 1; have f1 := HK4.out.sn.free 1
      simp only [List.getElem?_toArray, List.getElem?_cons_succ, List.getElem?_cons_zero] at z1
      refine tkW 6 rfl ?_
      try simp only [Act.put, List.setIfInBounds_toArray, List.set_cons_zero, List.set_cons_succ, List.getElem_toArray, List.getElem_cons_succ, List.getElem_cons_zero]
      refine wpAnyH_ready (rs := [7]) (by kernel_rfl) (by simp) ?_
      refine AllReadyH.cons rfl (fun K hK => ?_) AllReadyH.nil
      first | (with_reducible refine iteYes ?hcx ?htx; case hcx => kernel_rfl) | rw [if_pos (by rfl)]
      simp only [List.getElem_toArray, List.getElem_cons_succ, List.getElem_cons_zero]
      go_simp
      refine hK.out _ _ ?_ (fun hHeld4 => ?_)
      · (try dsimp only); exact ⟨HP4.out.ra.rz.c6, HP4.out.ra.rz.c8⟩
      clear hK K
      try simp only [Act.put, List.setIfInBounds_toArray, List.set_cons_zero, List.set_cons_succ, List.getElem_toArray, List.getElem_cons_succ, List.getElem_cons_zero]
      refine wpAnyH_done (by kernel_rfl) ?_ _
      clear z1 f1 c6 c8
      generalize wb4.setCell ⟨ks, 1, none⟩ (.int .i64 (g4.2.1)) = w8 at HP4 ⊢
      obtain ⟨xk, hxk⟩ : ∃ x, x = rKd L x0 := ⟨_, rfl⟩
      have HK5 : Hid (RS1 w kt k6 k7 k8 v L (xk.2.1) (xk.2.2) (.slice (some ⟨g9, 0, none⟩) N.length cn) N ks (xk.1) w8) := by
        rw [hxk]
        unfold rKd
        rw [← HG4.out]
        exact HP4.out
      have Dxk : Hid (xk = rKd L x0) := hxk
      clear hxk HK4 HP4
      have z2 := HK5.out.sn.off 2
      have z3 := HK5.out.sn.off 3
      have z4 := HK5.out.sn.off 4
      simp only [List.getElem?_toArray, List.getElem?_cons_succ, List.getElem?_cons_zero] at z2 z3 z4
      go_wp2_with fail
      refine (vecZ_calls w kt k6 k7 k8 v L _ _ _ _ _ _ HK5.out.ra.rz).mono ?_
      rintro e wv ⟨rfl, hz, oz⟩
      have HV : Hid (RS1 w kt k6 k7 k8 v L (xk.2.1 || vecE L xk.2.2) (vecP L xk.2.2) (.slice (some ⟨g9, 0, none⟩) N.length cn) N ks (xk.1) wv) := HK5.out.vec hz oz
      clear hz oz z2 z3 z4
      have z2 := HV.out.sn.off 2; have y2 := HV.out.sn.free 2
      have z3 := HV.out.sn.off 3; have y3 := HV.out.sn.free 3
      have z4 := HV.out.sn.off 4; have y4 := HV.out.sn.free 4
      simp only [List.getElem?_toArray, List.getElem?_cons_succ, List.getElem?_cons_zero] at z2 z3 z4
      go_wp2_with fail
      have H9X : Hid (RS1 w kt k6 k7 k8 v L (xk.2.1 || vecE L xk.2.2) (vecP L xk.2.2) (.slice (some ⟨g9, 0, none⟩) N.length cn) N ks ({ xk.1 with sx := wrap64 (xk.1.sx + (vec3 L xk.2.2).1), sy := wrap64 (xk.1.sy + (vec3 L xk.2.2).2.1), sz := wrap64 (xk.1.sz + (vec3 L xk.2.2).2.2) }) (((wv.setCell ⟨ks, 2, none⟩ (.int .i64 (wrap64 (xk.1.sx + (vec3 L xk.2.2).1)))).setCell ⟨ks, 3, none⟩ (.int .i64 (wrap64 (xk.1.sy + (vec3 L xk.2.2).2.1)))).setCell ⟨ks, 4, none⟩ (.int .i64 (wrap64 (xk.1.sz + (vec3 L xk.2.2).2.2))))) := HV.out.put (HV.out.sn.putS _ _ _) (only_put3 ks 2 _ _ _)
      have HN1 : Hid (RS1 w kt k6 k7 k8 v L ((rS L u xk).2.1) ((rS L u xk).2.2) (.slice (some ⟨g9, 0, none⟩) N.length cn) N ks ((rS L u xk).1) (((wv.setCell ⟨ks, 2, none⟩ (.int .i64 (wrap64 (xk.1.sx + (vec3 L xk.2.2).1)))).setCell ⟨ks, 3, none⟩ (.int .i64 (wrap64 (xk.1.sy + (vec3 L xk.2.2).2.1)))).setCell ⟨ks, 4, none⟩ (.int .i64 (wrap64 (xk.1.sz + (vec3 L xk.2.2).2.2))))) := by
        have h9 := H9X.out
        obtain ⟨e1, e2, e3⟩ := (show xk.1.sx = u.sx ∧ xk.1.sy = u.sy ∧ xk.1.sz = u.sz by rw [Dxk.out, Dx0.out]; exact ⟨rfl, rfl, rfl⟩)
        unfold rS
        rw [← e1, ← e2, ← e3]
        exact h9
      clear HV H9X HK5 z2 y2 z3 y3 z4 y4
      generalize (((wv.setCell ⟨ks, 2, none⟩ (.int .i64 (wrap64 (xk.1.sx + (vec3 L xk.2.2).1)))).setCell ⟨ks, 3, none⟩ (.int .i64 (wrap64 (xk.1.sy + (vec3 L xk.2.2).2.1)))).setCell ⟨ks, 4, none⟩ (.int .i64 (wrap64 (xk.1.sz + (vec3 L xk.2.2).2.2)))) = w9 at HN1 ⊢
      obtain ⟨xs, hxs⟩ : ∃ x, x = rS L u xk := ⟨_, rfl⟩
      rw [← hxs] at HN1
      have Dxs : Hid (xs = rS L u xk) := hxs
      clear hxs
      have HK6 := HN1
      clear HN1
      go_meet
      case rel => exact ⟨rfl, by rw [show seen1 L true u x0 = rS L u (rKd L x0) from rfl, ← Dxk.out, ← Dxs.out]; exact HK6⟩
  case rest =>
    obtain ⟨rfl, Ha⟩ := hcut
    clear H0
    generalize wc = w10 at Ha ⊢
    obtain ⟨xa, hxa⟩ : ∃ x, x = seen1 L A u x0 := ⟨_, rfl⟩
    rw [← hxa] at Ha
    have Dxa : Hid (xa = seen1 L A u x0) := hxa
    clear hxa
    go_upto_if 197 with fail
    go_cut [19] from 35 to 213 (fun s19 wx => s19 = .int .i64 (y2.2.1) ∧ Hid (RS1 w kt k6 k7 k8 v L ((seen2 L B u xa).2.1) ((seen2 L B u xa).2.2) (.slice (some ⟨g9, 0, none⟩) N.length cn) N ks ((seen2 L B u xa).1) wx))
    case first =>
      cases B with
      | false =>
        go_wp2_with fail
        go_meet
        case rel => exact ⟨rfl, Ha⟩
      | true =>
        have z5 := Ha.out.sn.off 5
        have z6 := Ha.out.sn.off 6
        have z7 := Ha.out.sn.off 7
        simp only [List.getElem?_toArray, List.getElem?_cons_succ, List.getElem?_cons_zero] at z5 z6 z7
        go_wp2_with fail
        refine (vecZ_calls w kt k6 k7 k8 v L _ _ _ _ _ _ Ha.out.ra.rz).mono ?_
        rintro e wv ⟨rfl, hz, oz⟩
        have HV : Hid (RS1 w kt k6 k7 k8 v L (xa.2.1 || vecE L xa.2.2) (vecP L xa.2.2) (.slice (some ⟨g9, 0, none⟩) N.length cn) N ks (xa.1) wv) := Ha.out.vec hz oz
        clear hz oz z5 z6 z7
        have z5 := HV.out.sn.off 5; have y5 := HV.out.sn.free 5
        have z6 := HV.out.sn.off 6; have y6 := HV.out.sn.free 6
        have z7 := HV.out.sn.off 7; have y7 := HV.out.sn.free 7
        simp only [List.getElem?_toArray, List.getElem?_cons_succ, List.getElem?_cons_zero] at z5 z6 z7
        go_wp2_with fail
        have H9X : Hid (RS1 w kt k6 k7 k8 v L (xa.2.1 || vecE L xa.2.2) (vecP L xa.2.2) (.slice (some ⟨g9, 0, none⟩) N.length cn) N ks ({ xa.1 with ax := wrap64 (xa.1.ax + (vec3 L xa.2.2).1), ay := wrap64 (xa.1.ay + (vec3 L xa.2.2).2.1), az := wrap64 (xa.1.az + (vec3 L xa.2.2).2.2) }) (((wv.setCell ⟨ks, 5, none⟩ (.int .i64 (wrap64 (xa.1.ax + (vec3 L xa.2.2).1)))).setCell ⟨ks, 6, none⟩ (.int .i64 (wrap64 (xa.1.ay + (vec3 L xa.2.2).2.1)))).setCell ⟨ks, 7, none⟩ (.int .i64 (wrap64 (xa.1.az + (vec3 L xa.2.2).2.2))))) := HV.out.put (HV.out.sn.putA _ _ _) (only_put3 ks 5 _ _ _)
        have HN1 : Hid (RS1 w kt k6 k7 k8 v L ((rA L u xa).2.1) ((rA L u xa).2.2) (.slice (some ⟨g9, 0, none⟩) N.length cn) N ks ((rA L u xa).1) (((wv.setCell ⟨ks, 5, none⟩ (.int .i64 (wrap64 (xa.1.ax + (vec3 L xa.2.2).1)))).setCell ⟨ks, 6, none⟩ (.int .i64 (wrap64 (xa.1.ay + (vec3 L xa.2.2).2.1)))).setCell ⟨ks, 7, none⟩ (.int .i64 (wrap64 (xa.1.az + (vec3 L xa.2.2).2.2))))) := by
          have h9 := H9X.out
          obtain ⟨e1, e2, e3⟩ := (show xa.1.ax = u.ax ∧ xa.1.ay = u.ay ∧ xa.1.az = u.az by rw [Dxa.out, Dx0.out]; cases A <;> exact ⟨rfl, rfl, rfl⟩)
          unfold rA
          rw [← e1, ← e2, ← e3]
          exact h9
        clear HV H9X Ha z5 y5 z6 y6 z7 y7
        generalize (((wv.setCell ⟨ks, 5, none⟩ (.int .i64 (wrap64 (xa.1.ax + (vec3 L xa.2.2).1)))).setCell ⟨ks, 6, none⟩ (.int .i64 (wrap64 (xa.1.ay + (vec3 L xa.2.2).2.1)))).setCell ⟨ks, 7, none⟩ (.int .i64 (wrap64 (xa.1.az + (vec3 L xa.2.2).2.2)))) = w9_ at HN1 ⊢
        obtain ⟨xs, hxs⟩ : ∃ x, x = rA L u xa := ⟨_, rfl⟩
        rw [← hxs] at HN1
        have Dxs : Hid (xs = rA L u xa) := hxs
        clear hxs
        have HK6 := HN1
        clear HN1
        go_meet
        case rel => exact ⟨rfl, by rw [show seen2 L true u xa = rA L u xa from rfl, ← Dxs.out]; exact HK6⟩
    case rest =>
      obtain ⟨rfl, Hb⟩ := hcut
      clear Ha
      generalize wc = w11 at Hb ⊢
      obtain ⟨xb, hxb⟩ : ∃ x, x = seen2 L B u xa := ⟨_, rfl⟩
      rw [← hxb] at Hb
      have Dxb : Hid (xb = seen2 L B u xa) := hxb
      clear hxb
      go_upto_if 204 with fail
      go_cut [20] from 35 to 213 (fun s20 wx => s20 = .int .i64 (y3.2.1) ∧ Hid (RS1 w kt k6 k7 k8 v L ((seen3 L C u xb).2.1) ((seen3 L C u xb).2.2) (.slice (some ⟨g9, 0, none⟩) N.length cn) N ks ((seen3 L C u xb).1) wx))
      case first =>
        cases C with
        | false =>
          go_wp2_with fail
          go_meet
          case rel => exact ⟨rfl, Hb⟩
        | true =>
          have z8 := Hb.out.sn.off 8
          have z9 := Hb.out.sn.off 9
          have z10 := Hb.out.sn.off 10
          simp only [List.getElem?_toArray, List.getElem?_cons_succ, List.getElem?_cons_zero] at z8 z9 z10
          go_wp2_with fail
          refine (vecZ_calls w kt k6 k7 k8 v L _ _ _ _ _ _ Hb.out.ra.rz).mono ?_
          rintro e wv ⟨rfl, hz, oz⟩
          have HV : Hid (RS1 w kt k6 k7 k8 v L (xb.2.1 || vecE L xb.2.2) (vecP L xb.2.2) (.slice (some ⟨g9, 0, none⟩) N.length cn) N ks (xb.1) wv) := Hb.out.vec hz oz
          clear hz oz z8 z9 z10
          have z8 := HV.out.sn.off 8; have y8 := HV.out.sn.free 8
          have z9 := HV.out.sn.off 9; have y9 := HV.out.sn.free 9
          have z10 := HV.out.sn.off 10; have y10 := HV.out.sn.free 10
          simp only [List.getElem?_toArray, List.getElem?_cons_succ, List.getElem?_cons_zero] at z8 z9 z10
          go_wp2_with fail
          have H9X : Hid (RS1 w kt k6 k7 k8 v L (xb.2.1 || vecE L xb.2.2) (vecP L xb.2.2) (.slice (some ⟨g9, 0, none⟩) N.length cn) N ks ({ xb.1 with vx := wrap64 (xb.1.vx + (vec3 L xb.2.2).1), vy := wrap64 (xb.1.vy + (vec3 L xb.2.2).2.1), vz := wrap64 (xb.1.vz + (vec3 L xb.2.2).2.2) }) (((wv.setCell ⟨ks, 8, none⟩ (.int .i64 (wrap64 (xb.1.vx + (vec3 L xb.2.2).1)))).setCell ⟨ks, 9, none⟩ (.int .i64 (wrap64 (xb.1.vy + (vec3 L xb.2.2).2.1)))).setCell ⟨ks, 10, none⟩ (.int .i64 (wrap64 (xb.1.vz + (vec3 L xb.2.2).2.2))))) := HV.out.put (HV.out.sn.putV _ _ _) (only_put3 ks 8 _ _ _)
          have HN1 : Hid (RS1 w kt k6 k7 k8 v L ((rV L u xb).2.1) ((rV L u xb).2.2) (.slice (some ⟨g9, 0, none⟩) N.length cn) N ks ((rV L u xb).1) (((wv.setCell ⟨ks, 8, none⟩ (.int .i64 (wrap64 (xb.1.vx + (vec3 L xb.2.2).1)))).setCell ⟨ks, 9, none⟩ (.int .i64 (wrap64 (xb.1.vy + (vec3 L xb.2.2).2.1)))).setCell ⟨ks, 10, none⟩ (.int .i64 (wrap64 (xb.1.vz + (vec3 L xb.2.2).2.2))))) := by
            have h9 := H9X.out
            obtain ⟨e1, e2, e3⟩ := (show xb.1.vx = u.vx ∧ xb.1.vy = u.vy ∧ xb.1.vz = u.vz by rw [Dxb.out, Dxa.out, Dx0.out]; cases A <;> cases B <;> exact ⟨rfl, rfl, rfl⟩)
            unfold rV
            rw [← e1, ← e2, ← e3]
            exact h9
          clear HV H9X Hb z8 y8 z9 y9 z10 y10
          generalize (((wv.setCell ⟨ks, 8, none⟩ (.int .i64 (wrap64 (xb.1.vx + (vec3 L xb.2.2).1)))).setCell ⟨ks, 9, none⟩ (.int .i64 (wrap64 (xb.1.vy + (vec3 L xb.2.2).2.1)))).setCell ⟨ks, 10, none⟩ (.int .i64 (wrap64 (xb.1.vz + (vec3 L xb.2.2).2.2)))) = w9_ at HN1 ⊢
          obtain ⟨xs, hxs⟩ : ∃ x, x = rV L u xb := ⟨_, rfl⟩
          rw [← hxs] at HN1
          have Dxs : Hid (xs = rV L u xb) := hxs
          clear hxs
          have HK6 := HN1
          clear HN1
          go_meet
          case rel => exact ⟨rfl, by rw [show seen3 L true u xb = rV L u xb from rfl, ← Dxs.out]; exact HK6⟩
      case rest =>
        obtain ⟨rfl, Hc⟩ := hcut
        clear Hb
        generalize wc = w12 at Hc ⊢
        obtain ⟨xc, hxc⟩ : ∃ x, x = seen3 L C u xb := ⟨_, rfl⟩
        rw [← hxc] at Hc
        have Dxc : Hid (xc = seen3 L C u xb) := hxc
        clear hxc
        have HSM : Hid (xc = seenM L A B C idv u (false || decide (y1.1 ≠ 0) || decide (y2.1 ≠ 0) || decide (y3.1 ≠ 0)) y3.2.2) := by show _ = _; rw [Dxc.out, Dxb.out, Dxa.out, Dx0.out]; rfl
        obtain ⟨s, b9, p9⟩ := xc
        clear Dxc
        have z0 := Hc.out.sn.off 0
        have z1 := Hc.out.sn.off 1
        have z2 := Hc.out.sn.off 2
        have z3 := Hc.out.sn.off 3
        have z4 := Hc.out.sn.off 4
        have z5 := Hc.out.sn.off 5
        have z6 := Hc.out.sn.off 6
        have z7 := Hc.out.sn.off 7
        have z8 := Hc.out.sn.off 8
        have z9 := Hc.out.sn.off 9
        have z10 := Hc.out.sn.off 10
        simp only [List.getElem?_toArray, List.getElem?_cons_succ, List.getElem?_cons_zero] at z0 z1 z2 z3 z4 z5 z6 z7 z8 z9 z10
        have hput := own_put (s := s) Hc.out.ra.own HLT.out
        have HTHR : Hid (w12.there g9 (at_ * 11) 11) := hput.2
        have hone : (#[.int .i64 (s.id), .int .i64 (s.kd), .int .i64 (s.sx), .int .i64 (s.sy), .int .i64 (s.sz), .int .i64 (s.ax), .int .i64 (s.ay), .int .i64 (s.az), .int .i64 (s.vx), .int .i64 (s.vy), .int .i64 (s.vz)] : Array Value).all (·.oneCell') = true := by simp [Value.oneCell']
        have H13 : Hid (RA w kt k6 k7 k8 v L b9 p9 (.slice (some ⟨g9, 0, none⟩) N.length cn) (N.take at_ ++ [s] ++ N.drop (at_ + 1)) (w12.setCells g9 (at_ * 11) (#[.int .i64 (s.id), .int .i64 (s.kd), .int .i64 (s.sx), .int .i64 (s.sy), .int .i64 (s.sz), .int .i64 (s.ax), .int .i64 (s.ay), .int .i64 (s.az), .int .i64 (s.vx), .int .i64 (s.vy), .int .i64 (s.vz)] : Array Value).toList)) := by
          have o : Only [g9] w12 (w12.setCells g9 (at_ * 11) (snL s)) := only_setCellsS _ _ _ _ (Only.refl _ _)
          have hfar := Hc.out.ra.far g9 rfl
          have hge := ownS_ge Hc.out.ra.own g9 rfl
          have hl := set_len N at_ s HLT.out
          refine ⟨Hc.out.ra.rz.only' o (fun k hk => by rw [List.mem_singleton.1 hk]; exact ⟨hge, hfar⟩), ?_, Hc.out.ra.far⟩
          have h1 := hput.1
          rw [hl]
          exact h1
        clear hput
        go_upto_region 39 with fail
        go_wp2_with (first | (refine wpList_store_mid rfl 116 (.tmp 213) (.tmp 212) rfl g9 (at_ * 11) #[.int .i64 (s.id), .int .i64 (s.kd), .int .i64 (s.sx), .int .i64 (s.sy), .int .i64 (s.sz), .int .i64 (s.ax), .int .i64 (s.ay), .int .i64 (s.az), .int .i64 (s.vx), .int .i64 (s.vy), .int .i64 (s.vz)] rfl rfl HTHR.out refSize hone ?_; generalize World.setCells w12 g9 (at_ * 11) _ = w13 at H13 ⊢))
        have HP9 : Hid (nn.2.2 ≤ p9) := by
          have h1 := seenM_ge L A B C idv u (false || decide (y1.1 ≠ 0) || decide (y2.1 ≠ 0) || decide (y3.1 ≠ 0)) y3.2.2
          rw [← HSM.out] at h1
          have q1 := getM_ge L nn.2.2 1; rw [← HY1.out] at q1
          have q2 := getM_ge L y1.2.2 1; rw [← HY2.out] at q2
          have q3 := getM_ge L y2.2.2 1; rw [← HY3.out] at q3
          have h2 : y3.2.2 ≤ p9 := h1
          show _ ≤ _
          omega
        have HWN : Hid (WayR F L (N.take at_ ++ [s] ++ N.drop (at_ + 1)) b9 idv p9 ∧ (N.take at_ ++ [s] ++ N.drop (at_ + 1)).length ≤ 121) := by
          refine ⟨HW.out.1.turns HG.out HNN.out HID.out HAT.out HK.out.2.1 HY1.out HY2.out HY3.out (by rw [HB2.out, HABC.out.1, HABC.out.2.1, HABC.out.2.2, HUQ.out.1]; exact HSM.out), ?_⟩
          rw [set_len N at_ s HLT.out]; have := HN120.out; omega
        exact SwQ.of H13.out HWN.out.1 HWN.out.2 HP9.out
end Go.Proofs.Ytedhdmahdioboaa
/- gyreref.Apply: whichever view and bytes. -/
namespace Go.Proofs.Ytedhdmahdioboaa
open Go.ChangeShapes Go.WideShapes Go.ChangeAt Go.RowKit
set_option linter.unusedVariables false
set_option linter.unusedSimpArgs false

set_option maxRecDepth 100000 in
set_option maxHeartbeats 0 in
theorem refApply_calls (F : List Sn) (fv : Value) (a : Option Addr) (c : Nat) (L : List Nat) (w : World) (hv : SvAt w fv F) (hn : NilOk fv) (hf : F.length ≤ 1000) (hl : L.length ≤ 4000) (hs : ∀ x ∈ L, x < 256) (hb : ByAt w a L) (hnb : a = none → L = [] ∧ c = 0) :
    Calls Try.prog 52 #[fv, .slice a L.length c] w (RApplyPost F L w) := by
  have hmf : ∀ (fn : Fn) (first cap : Array Value) (w : World), (Instr.makeFunc fn first cap).run Try.prog w = .ok (.func fn first cap) w := fun _ _ _ _ => rfl
  have HB : Hid (SvAt w fv F ∧ NilOk fv ∧ F.length ≤ 1000 ∧ L.length ≤ 4000 ∧ (∀ x ∈ L, x < 256) ∧ ByAt w a L ∧ (a = none → L = [] ∧ c = 0)) := ⟨hv, hn, hf, hl, hs, hb, hnb⟩
  have HRV : Hid (∀ w' v', SvAt w' v' F → Calls Try.prog 39 #[v'] w' (fun e w'' => e = .returned (.bool (rightL F)) ∧ Only [] w' w'')) := fun w' v' h => by
    obtain ⟨a, c, rfl, _, h⟩ := h
    exact rightView_calls a F.length c _ w' (by omega) h
  obtain ⟨af, cf, rfl, hcf, _⟩ := hv
  have HNF : Hid (af = none → cf = 0) := fun e => hn F.length cf (by rw [e])
  clear hn hf hl hs hb hnb
  go_enter Try.func52, Try.ntmps52
  go_wp2_with fail
  refine (HRV.out w _ HB.out.1).mono ?_
  rintro e w1 ⟨rfl, o1⟩
  have H1 : Hid (Only [] w w1) := o1
  clear o1 HRV
  cases hr : rightL F with
  | false =>
    have HR : Hid (rightL F = false) := hr
    clear hr
    go_wp2_with fail
    exact bodyPost_ret (v := .tuple #[.slice none 0 0, .int .i64 1]) (by simp [results, Try.results52, go_sem]) rfl ⟨H1.out, Or.inl ⟨HR.out, rfl⟩⟩
  | true =>
    have HR : Hid (rightL F = true) := hr
    clear hr
    go_wp2_with fail
    refine (open_calls a c L w1 HB.out.2.2.2.1 HB.out.2.2.2.2.1 (HB.out.2.2.2.2.2.1.only H1.out (by simp))).mono ?_
    rintro e w2 ⟨v, rfl, hsl, o2, hnew⟩
    have H2 : Hid (SlB w2 v (bitsOf L) ∧ Only [] w w2 ∧ ∀ b ∈ ownL v, w.heap.size ≤ b) := ⟨hsl, H1.out.trans o2, fun b hb => Nat.le_trans H1.out.size (hnew b hb)⟩
    obtain ⟨av, cv, rfl, _, _⟩ := hsl.shape
    clear hsl o2 hnew
    go_upto_region 7 with fail
    obtain ⟨v, hvv⟩ : ∃ v, v = Value.slice av (bitsOf L).length cv := ⟨_, rfl⟩
    rw [← hvv] at H2 ⊢
    clear hvv
    have H3 : Hid (RZ w w2.heap.size (w2.heap.size + 1) (w2.heap.size + 1 + 1) (w2.heap.size + 1 + 1 + 1) v L false 0 ((((w2.alloc (.cells #[v, .int .i64 0] 166)).alloc (.cells #[.pointer (some ⟨w2.heap.size, 0, none⟩)] 163)).alloc (.cells #[.bool false] 4)).alloc (.cells #[.func (.func 82) #[] #[.pointer (some ⟨w2.heap.size + 1 + 1, 0, none⟩)]] 167))) := by
      have o : Only [] w2 ((((w2.alloc (.cells #[v, .int .i64 0] 166)).alloc (.cells #[.pointer (some ⟨w2.heap.size, 0, none⟩)] 163)).alloc (.cells #[.bool false] 4)).alloc (.cells #[.func (.func 82) #[] #[.pointer (some ⟨w2.heap.size + 1 + 1, 0, none⟩)]] 167)) := ((((Only.refl [] w2).alloc _).alloc _).alloc _).alloc _
      obtain ⟨q1, q2, q3⟩ := H2.out
      have hz := q2.size
      have hlt := q1.lt
      have g3 := (MapKept.heap_alloc w2 (.cells #[v, .int .i64 0] 166)).1
      have g4 := (MapKept.heap_alloc (w2.alloc (.cells #[v, .int .i64 0] 166)) (.cells #[.pointer (some ⟨w2.heap.size, 0, none⟩)] 163)).1
      have g5 := (MapKept.heap_alloc ((w2.alloc (.cells #[v, .int .i64 0] 166)).alloc (.cells #[.pointer (some ⟨w2.heap.size, 0, none⟩)] 163)) (.cells #[.bool false] 4)).1
      have g6 := (MapKept.heap_alloc (((w2.alloc (.cells #[v, .int .i64 0] 166)).alloc (.cells #[.pointer (some ⟨w2.heap.size, 0, none⟩)] 163)).alloc (.cells #[.bool false] 4)) (.cells #[.func (.func 82) #[] #[.pointer (some ⟨w2.heap.size + 1 + 1, 0, none⟩)]] 167)).1
      refine ⟨⟨?_, q1.kept o (by simp), fun h => by have := hlt _ h; omega, bitsOf_bits L, by rw [bitsOf_len]; have := HB.out.2.2.2.1; omega, Nat.zero_le _⟩, ?_, ?_, ?_, ⟨by omega, by omega, by omega, by omega, by omega, by omega⟩, ⟨fun h => by have := hlt _ h; omega, fun h => by have := hlt _ h; omega, fun h => by have := hlt _ h; omega⟩, ⟨by omega, by omega, by omega, by omega, q3⟩, q2.trans o⟩
      · rw [Below.heap_alloc _ _ _ (by simp <;> omega), Below.heap_alloc _ _ _ (by simp <;> omega), Below.heap_alloc _ _ _ (by simp <;> omega)]; exact g3
      · rw [Below.heap_alloc _ _ _ (by simp <;> omega), Below.heap_alloc _ _ _ (by simp)]; simpa using g4
      · rw [Below.heap_alloc _ _ _ (by simp)]; simpa using g5
      · simpa using g6
    clear H2
    revert H3
    generalize hk8 : w2.heap.size + 1 + 1 + 1 = k8
    generalize hk7 : w2.heap.size + 1 + 1 = k7
    generalize hk6 : w2.heap.size + 1 = k6
    generalize hkt : w2.heap.size = kt
    clear hk8 hk7 hk6 hkt
    generalize World.alloc (World.alloc (World.alloc (World.alloc w2 _) _) _) _ = w3
    intro H3
    have hown0 := own_empty w3 w3.heap.size (Nat.le_refl _)
    have hsf3 : SeenAt (w3.alloc (.cells #[] 116)) af F.length (fun j => F.getD j zs) := by
      obtain ⟨a', c', e, _, h⟩ := HB.out.1.grow (H3.out.only.alloc (.cells #[] 116))
      injection e with e1 _ _
      subst e1
      exact h
    have hnf := HNF.out
    have hb3 : w3.heap.size ≤ (w3.alloc (.cells #[] 116)).heap.size := by simp
    have hlf : ([] : List Sn).length + F.length ≤ 1000000 := by have := HB.out.2.2.1; simp; omega
    go_upto_region 8 with (first | (at_builtin; refine wpList_appendS refT rfl _ _ rfl w3.heap.size (.slice (some ⟨w3.heap.size, 0, none⟩) 0 0) [] rfl hown0 af F.length cf F rfl rfl hsf3 hnf hcf hlf hb3 ?_; intro nv0 w4 hown hgrow hloc; have H4 : Hid (RA w kt k6 k7 k8 v L false 0 nv0 F w4) := RA.anew H3.out (((Only.refl [] w3).alloc _).grown hgrow (fun k hk => Or.inr (by simp only [Value.ownBlock, Option.some.injEq] at hk; omega))) hown; clear hown hgrow hloc hown0 hsf3 hb3 hlf))
    clear H3 hnf
    have HW0 : Hid (WayR F L F false 0 0 ∧ F.length ≤ 121) := ⟨WayR.start HR.out L, by have := (rightL_ris HR.out).2; omega⟩
    go_wp2_with fail
    go_loopg [10, 11] (8 * L.length) (fun k s10 s11 wr => ∃ (nv : Value) (N : List Sn) (b : Bool) (la : Int) (p : Nat), nv = s10 ∧ s11 = .int .i64 la ∧ Hid (k = 8 * L.length - p) ∧ Hid (RA w kt k6 k7 k8 v L b p nv N wr) ∧ Hid (WayR F L N b la p ∧ N.length ≤ 121))
    case atStart => exact ⟨nv0, F, false, 0, 0, rfl, rfl, rfl, H4, HW0⟩
    case round =>
      clear H4 HW0
      obtain ⟨nv, N, b, la, p, rfl, rfl, HI, HA, HW⟩ := hrel
      have HPOS : Hid (p ≤ 8 * L.length) := by have := HA.out.rz.tp.pos; rw [bitsOf_len] at this; exact this
      cases b with
      | true =>
        have c7 := HA.out.rz.c7
        have HEND : Hid (∀ T, rightL T = true → bytesOf (deltaT F T) = L → true = false ∧ N = T) := fun T hT hL => (HW.out.1.bad T hT hL).elim
        have HA2 := HA
        go_upto_region 40 with fail
        clear c7
        have HSV : Hid (SvAt _ nv N) := HA.out.sv
        go_wp2_with fail
        refine (refDelta_calls F N _ _ _ (HB.out.1.grow HA.out.rz.only) HSV.out (by have := HB.out.2.2.1; omega) (by have := HW.out.2; omega)).mono ?_
        rintro e wd ⟨od, hcase⟩
        have HD : Hid (RA w kt k6 k7 k8 v L true _ nv N wd) := HA.out.keep od
        clear od HSV
        have c7 := HD.out.rz.c7
        rcases hcase with ⟨hno, rfl⟩ | ⟨_, _, hgt, rfl⟩ | ⟨_, hTT, hle, vd, rfl, hsl⟩
        · have HX : Hid (∀ T, ¬ Del F L T) := fun T h => by
            obtain ⟨g1, g2⟩ := HEND.out T h.1 h.2.2
            exact hno ⟨HR.out, by rw [g2]; exact h.1⟩
          clear hno
          go_wp2_with fail
          exact bodyPost_ret (v := .tuple #[.slice none 0 0, .int .i64 3]) (by simp [results, Try.results52, go_sem]) rfl ⟨HD.out.rz.only, Or.inr (Or.inl ⟨HR.out, HX.out, rfl⟩)⟩
        · have HX : Hid (∀ T, ¬ Del F L T) := fun T h => by
            obtain ⟨g1, g2⟩ := HEND.out T h.1 h.2.2
            rw [g2] at hgt; have h2 := h.2.1; omega
          clear hgt
          go_wp2_with fail
          exact bodyPost_ret (v := .tuple #[.slice none 0 0, .int .i64 3]) (by simp [results, Try.results52, go_sem]) rfl ⟨HD.out.rz.only, Or.inr (Or.inl ⟨HR.out, HX.out, rfl⟩)⟩
        · have HX : Hid (∀ T, ¬ Del F L T) := fun T h => by
            have := (HEND.out T h.1 h.2.2).1
            cases this
          clear hTT hle hsl
          go_wp2_with fail
          exact bodyPost_ret (v := .tuple #[.slice none 0 0, .int .i64 3]) (by simp [results, Try.results52, go_sem]) rfl ⟨HD.out.rz.only, Or.inr (Or.inl ⟨HR.out, HX.out, rfl⟩)⟩
      | false =>
        have c7 := HA.out.rz.c7; have c6 := HA.out.rz.c6; have c8 := HA.out.rz.c8
        obtain ⟨g, hg⟩ : ∃ g, g = getM L p 2 := ⟨_, rfl⟩
        have HG : Hid (g = getM L p 2) := hg
        clear hg
        go_upto_region 10 with fail
        clear c7
        refine wp_region_held_drew (S := (fun w' => w'.cell? ⟨k6, 0, none⟩ = some (.pointer (some ⟨kt, 0, none⟩)) ∧ w'.cell? ⟨k8, 0, none⟩ = some (.func (.func 82) #[] #[.pointer (some ⟨k7, 0, none⟩)]))) (by kernel_rfl) ?_ (fun hHeld1 => ?_)
        · (try dsimp only); exact ⟨c6, c8⟩
        refine tkW 0 rfl ?_; refine tkW 1 rfl ?_
        try simp only [Act.put, List.setIfInBounds_toArray, List.set_cons_zero, List.set_cons_succ, List.getElem_toArray, List.getElem_cons_succ, List.getElem_cons_zero]
        refine wpAnyH_ready (rs := [2]) (by kernel_rfl) (by simp) ?_
        refine AllReadyH.cons rfl (fun K hK => ?_) AllReadyH.nil
        first | (with_reducible refine iteYes ?hcx ?htx; case hcx => kernel_rfl) | rw [if_pos (by rfl)]
        simp only [List.getElem_toArray, List.getElem_cons_succ, List.getElem_cons_zero]
        go_simp
        (go_at_call 81; refine (tgetN_calls kt v L _ 2 _ (HA.out.keep (Only.refl _ _).drew).rz.tp g HG.out).mono ?_; rintro e wa ⟨rfl, h3, o3⟩)
        try go_wp2_with fail
        refine hK.out _ _ ?_ (fun hHeld2 => ?_)
        · (try dsimp only); exact ⟨o3.cell (a := ⟨k6, 0, none⟩) (v := .pointer (some ⟨kt, 0, none⟩)) c6 (by simpa using HA.out.rz.d.1.symm), o3.cell (a := ⟨k8, 0, none⟩) (v := .func (.func 82) #[] #[.pointer (some ⟨k7, 0, none⟩)]) c8 (by simpa using HA.out.rz.d.2.2.1.symm)⟩
        clear hK K hHeld1
        try simp only [Act.put, List.setIfInBounds_toArray, List.set_cons_zero, List.set_cons_succ, List.getElem_toArray, List.getElem_cons_succ, List.getElem_cons_zero]
        have HT : Hid (RA w kt k6 k7 k8 v L (false) (g.2.2) nv N wa) := (HA.out.keep (Only.refl _ _).drew).read h3 o3
        clear h3 o3
        refine tkW 3 rfl ?_; refine tkW 4 rfl ?_
        try simp only [Act.put, List.setIfInBounds_toArray, List.set_cons_zero, List.set_cons_succ, List.getElem_toArray, List.getElem_cons_succ, List.getElem_cons_zero]
        refine wpAnyH_ready (rs := [5]) (by kernel_rfl) (by simp) ?_
        refine AllReadyH.cons rfl (fun K hK => ?_) AllReadyH.nil
        first | (with_reducible refine iteYes ?hcx ?htx; case hcx => kernel_rfl) | rw [if_pos (by rfl)]
        simp only [List.getElem_toArray, List.getElem_cons_succ, List.getElem_cons_zero]
        go_simp
        (go_at_call 82; refine (numZ_calls g.2.1 g.1 _ k7 wa HT.out.rz.b7).mono ?_; rintro e wb ⟨rfl, h4, o4⟩)
        try go_wp2_with fail
        refine hK.out _ _ ?_ (fun hHeld3 => ?_)
        · (try dsimp only); exact ⟨(HT.out.mark h4 o4).rz.c6, (HT.out.mark h4 o4).rz.c8⟩
        clear hK K hHeld2
        try simp only [Act.put, List.setIfInBounds_toArray, List.set_cons_zero, List.set_cons_succ, List.getElem_toArray, List.getElem_cons_succ, List.getElem_cons_zero]
        have H1 : Hid (RA w kt k6 k7 k8 v L (false || decide (g.1 ≠ 0)) (g.2.2) nv N wb) := HT.out.mark h4 o4
        clear h4 o4 HT
        refine tkW 6 rfl ?_
        try simp only [Act.put, List.setIfInBounds_toArray, List.set_cons_zero, List.set_cons_succ, List.getElem_toArray, List.getElem_cons_succ, List.getElem_cons_zero]
        refine wpAnyH_done (by kernel_rfl) ?_ _
        clear c6 c8
        obtain ⟨k, hk4, hkg, hk2⟩ := get2 L p
        rw [← HG.out] at hkg hk2
        rw [hkg]
        have HK : Hid (k < 4 ∧ g.2.1 = (k : Int) ∧ (g.1 = 0 → g.2.2 = p + 2)) := ⟨hk4, hkg, hk2⟩
        clear hk4 hkg hk2
        obtain ⟨b1, hb1⟩ : ∃ b1, (false || decide (g.1 ≠ 0)) = b1 := ⟨_, rfl⟩
        have HB1 : Hid ((false || decide (g.1 ≠ 0)) = b1) := hb1
        rw [hb1] at H1
        clear hb1
        have c7 := H1.out.rz.c7
        cases b1 with
        | true =>
          have HEND : Hid (∀ T, rightL T = true → bytesOf (deltaT F T) = L → true = false ∧ N = T) := fun T hT hL => by
            have h1 := HW.out.1.done HG.out (Or.inr HB1.out) T hT hL
            rw [HB1.out] at h1
            exact h1
          go_upto_region 40 with fail
          clear c7
          have HSV : Hid (SvAt _ nv N) := H1.out.sv
          go_wp2_with fail
          refine (refDelta_calls F N _ _ _ (HB.out.1.grow H1.out.rz.only) HSV.out (by have := HB.out.2.2.1; omega) (by have := HW.out.2; omega)).mono ?_
          rintro e wd ⟨od, hcase⟩
          have HD : Hid (RA w kt k6 k7 k8 v L true _ nv N wd) := H1.out.keep od
          clear od HSV
          have c7 := HD.out.rz.c7
          rcases hcase with ⟨hno, rfl⟩ | ⟨_, _, hgt, rfl⟩ | ⟨_, hTT, hle, vd, rfl, hsl⟩
          · have HX : Hid (∀ T, ¬ Del F L T) := fun T h => by
              obtain ⟨g1, g2⟩ := HEND.out T h.1 h.2.2
              exact hno ⟨HR.out, by rw [g2]; exact h.1⟩
            clear hno
            go_wp2_with fail
            exact bodyPost_ret (v := .tuple #[.slice none 0 0, .int .i64 3]) (by simp [results, Try.results52, go_sem]) rfl ⟨HD.out.rz.only, Or.inr (Or.inl ⟨HR.out, HX.out, rfl⟩)⟩
          · have HX : Hid (∀ T, ¬ Del F L T) := fun T h => by
              obtain ⟨g1, g2⟩ := HEND.out T h.1 h.2.2
              rw [g2] at hgt; have h2 := h.2.1; omega
            clear hgt
            go_wp2_with fail
            exact bodyPost_ret (v := .tuple #[.slice none 0 0, .int .i64 3]) (by simp [results, Try.results52, go_sem]) rfl ⟨HD.out.rz.only, Or.inr (Or.inl ⟨HR.out, HX.out, rfl⟩)⟩
          · have HX : Hid (∀ T, ¬ Del F L T) := fun T h => by
              have := (HEND.out T h.1 h.2.2).1
              cases this
            clear hTT hle hsl
            go_wp2_with fail
            exact bodyPost_ret (v := .tuple #[.slice none 0 0, .int .i64 3]) (by simp [results, Try.results52, go_sem]) rfl ⟨HD.out.rz.only, Or.inr (Or.inl ⟨HR.out, HX.out, rfl⟩)⟩
        | false =>
          by_cases hk3 : k = 3
          · subst hk3
            have HEND : Hid (∀ T, rightL T = true → bytesOf (deltaT F T) = L → false = false ∧ N = T) := fun T hT hL => ⟨rfl, (HW.out.1.done HG.out (Or.inl HK.out.2.1) T hT hL).2⟩
            go_upto_region 40 with fail
            clear c7
            have HSV : Hid (SvAt _ nv N) := H1.out.sv
            go_wp2_with fail
            refine (refDelta_calls F N _ _ _ (HB.out.1.grow H1.out.rz.only) HSV.out (by have := HB.out.2.2.1; omega) (by have := HW.out.2; omega)).mono ?_
            rintro e wd ⟨od, hcase⟩
            have HD : Hid (RA w kt k6 k7 k8 v L false _ nv N wd) := H1.out.keep od
            clear od HSV
            have c7 := HD.out.rz.c7
            rcases hcase with ⟨hno, rfl⟩ | ⟨_, _, hgt, rfl⟩ | ⟨_, hTT, hle, vd, rfl, hsl⟩
            · have HX : Hid (∀ T, ¬ Del F L T) := fun T h => by
                obtain ⟨g1, g2⟩ := HEND.out T h.1 h.2.2
                exact hno ⟨HR.out, by rw [g2]; exact h.1⟩
              clear hno
              go_wp2_with fail
              exact bodyPost_ret (v := .tuple #[.slice none 0 0, .int .i64 3]) (by simp [results, Try.results52, go_sem]) rfl ⟨HD.out.rz.only, Or.inr (Or.inl ⟨HR.out, HX.out, rfl⟩)⟩
            · have HX : Hid (∀ T, ¬ Del F L T) := fun T h => by
                obtain ⟨g1, g2⟩ := HEND.out T h.1 h.2.2
                rw [g2] at hgt; have h2 := h.2.1; omega
              clear hgt
              go_wp2_with fail
              exact bodyPost_ret (v := .tuple #[.slice none 0 0, .int .i64 3]) (by simp [results, Try.results52, go_sem]) rfl ⟨HD.out.rz.only, Or.inr (Or.inl ⟨HR.out, HX.out, rfl⟩)⟩
            · have hr1 := hsl.reads wd (Only.refl _ _)
              have hr2 := (arg_reads (HB.out.2.2.2.2.2.1.only HD.out.rz.only (by simp)) HB.out.2.2.2.2.2.2) wd (Only.refl _ _)
              have hiff := sameB_eq (bytesOf_small (delta_bits F N)) HB.out.2.2.2.2.1
              have HF2 : Hid (rightL N = true ∧ (deltaT F N).length ≤ 31872) := ⟨hTT, hle⟩
              clear hTT hle hsl
              cases hsm : sameB (bytesOf (deltaT F N)) L with
              | true =>
                have HD2 : Hid (Del F L N) := ⟨HF2.out.1, HF2.out.2, hiff.1 hsm⟩
                have q1 : ((strB (bytesOf (deltaT F N))).toList == (strB L).toList) = true := hsm
                have q2 : ((strB (bytesOf (deltaT F N))).toList != (strB L).toList) = false := by rw [bne, q1]; rfl
                clear hsm hiff
                generalize strB (bytesOf (deltaT F N)) = sa at hr1 q1 q2
                generalize strB L = sb at hr2 q1 q2
                go_wp2_with fail
                exact bodyPost_ret (v := .tuple #[nv, .int .i64 0]) (by simp [results, Try.results52, go_sem]) rfl ⟨HD.out.rz.only, Or.inr (Or.inr ⟨HR.out, N, nv, HD2.out, fun T' h => (HEND.out T' h.1 h.2.2).2.symm, rfl, HD.out.own⟩)⟩
              | false =>
                have HX : Hid (∀ T, ¬ Del F L T) := fun T h => by
                  have g2 := (HEND.out T h.1 h.2.2).2
                  rw [hiff.2 (by rw [g2]; exact h.2.2)] at hsm
                  cases hsm
                have q1 : ((strB (bytesOf (deltaT F N))).toList == (strB L).toList) = false := hsm
                have q2 : ((strB (bytesOf (deltaT F N))).toList != (strB L).toList) = true := by rw [bne, q1]; rfl
                clear hsm hiff
                generalize strB (bytesOf (deltaT F N)) = sa at hr1 q1 q2
                generalize strB L = sb at hr2 q1 q2
                go_wp2_with fail
                exact bodyPost_ret (v := .tuple #[.slice none 0 0, .int .i64 3]) (by simp [results, Try.results52, go_sem]) rfl ⟨HD.out.rz.only, Or.inr (Or.inl ⟨HR.out, HX.out, rfl⟩)⟩
          · have hk3b : ((k : Int) == 3) = false := by simp; omega
            have HK3 : Hid (g.2.1 ≠ 3) := by show g.2.1 ≠ 3; rw [HK.out.2.1]; omega
            have HKL : Hid (k < 3) := by show k < 3; have := HK.out.1; omega
            clear hk3
            have HP : Hid (g.2.2 = p + 2) := HK.out.2.2 (by have := HB1.out; simpa using this)
            obtain ⟨nn, hnn⟩ : ∃ n, n = numM 4611686018427387903 L g.2.2 := ⟨_, rfl⟩
            have HNN : Hid (nn = numM 4611686018427387903 L g.2.2) := hnn
            clear hnn
            have HGE : Hid (p + 2 ≤ nn.2.2) := by show _ ≤ _; rw [← HP.out, HNN.out]; exact numM_ge _ _ _
            have c6 := H1.out.rz.c6; have c8 := H1.out.rz.c8
            go_upto_region 12 with fail
            clear c7
            refine wp_region_held_drew (S := (fun w' => w'.cell? ⟨k6, 0, none⟩ = some (.pointer (some ⟨kt, 0, none⟩)) ∧ w'.cell? ⟨k8, 0, none⟩ = some (.func (.func 82) #[] #[.pointer (some ⟨k7, 0, none⟩)]))) (by kernel_rfl) ?_ (fun hHeld1 => ?_)
            · (try dsimp only); exact ⟨c6, c8⟩
            refine tkW 0 rfl ?_; refine tkW 1 rfl ?_
            try simp only [Act.put, List.setIfInBounds_toArray, List.set_cons_zero, List.set_cons_succ, List.getElem_toArray, List.getElem_cons_succ, List.getElem_cons_zero]
            refine wpAnyH_ready (rs := [2]) (by kernel_rfl) (by simp) ?_
            refine AllReadyH.cons rfl (fun K hK => ?_) AllReadyH.nil
            first | (with_reducible refine iteYes ?hcx ?htx; case hcx => kernel_rfl) | rw [if_pos (by rfl)]
            simp only [List.getElem_toArray, List.getElem_cons_succ, List.getElem_cons_zero]
            go_simp
            (go_at_call 80; refine (tvarN_calls kt v L _ _ (H1.out.keep (Only.refl _ _).drew).rz.tp nn HNN.out).mono ?_; rintro e wc ⟨rfl, h3, o3⟩)
            try go_wp2_with fail
            refine hK.out _ _ ?_ (fun hHeld2 => ?_)
            · (try dsimp only); exact ⟨o3.cell (a := ⟨k6, 0, none⟩) (v := .pointer (some ⟨kt, 0, none⟩)) c6 (by simpa using H1.out.rz.d.1.symm), o3.cell (a := ⟨k8, 0, none⟩) (v := .func (.func 82) #[] #[.pointer (some ⟨k7, 0, none⟩)]) c8 (by simpa using H1.out.rz.d.2.2.1.symm)⟩
            clear hK K hHeld1
            try simp only [Act.put, List.setIfInBounds_toArray, List.set_cons_zero, List.set_cons_succ, List.getElem_toArray, List.getElem_cons_succ, List.getElem_cons_zero]
            have HT : Hid (RA w kt k6 k7 k8 v L (false) (nn.2.2) nv N wc) := (H1.out.keep (Only.refl _ _).drew).read h3 o3
            clear h3 o3
            refine tkW 3 rfl ?_; refine tkW 4 rfl ?_
            try simp only [Act.put, List.setIfInBounds_toArray, List.set_cons_zero, List.set_cons_succ, List.getElem_toArray, List.getElem_cons_succ, List.getElem_cons_zero]
            refine wpAnyH_ready (rs := [5]) (by kernel_rfl) (by simp) ?_
            refine AllReadyH.cons rfl (fun K hK => ?_) AllReadyH.nil
            first | (with_reducible refine iteYes ?hcx ?htx; case hcx => kernel_rfl) | rw [if_pos (by rfl)]
            simp only [List.getElem_toArray, List.getElem_cons_succ, List.getElem_cons_zero]
            go_simp
            (go_at_call 82; refine (numZ_calls ((nn.2.1 : Nat) : Int) nn.1 _ k7 wc HT.out.rz.b7).mono ?_; rintro e wd ⟨rfl, h4, o4⟩)
            try go_wp2_with fail
            refine hK.out _ _ ?_ (fun hHeld3 => ?_)
            · (try dsimp only); exact ⟨(HT.out.mark h4 o4).rz.c6, (HT.out.mark h4 o4).rz.c8⟩
            clear hK K hHeld2
            try simp only [Act.put, List.setIfInBounds_toArray, List.set_cons_zero, List.set_cons_succ, List.getElem_toArray, List.getElem_cons_succ, List.getElem_cons_zero]
            have H2 : Hid (RA w kt k6 k7 k8 v L (false || decide (nn.1 ≠ 0)) (nn.2.2) nv N wd) := HT.out.mark h4 o4
            clear h4 o4 HT
            refine tkW 6 rfl ?_
            try simp only [Act.put, List.setIfInBounds_toArray, List.set_cons_zero, List.set_cons_succ, List.getElem_toArray, List.getElem_cons_succ, List.getElem_cons_zero]
            refine wpAnyH_done (by kernel_rfl) ?_ _
            clear c6 c8
            obtain ⟨b2, hb2⟩ : ∃ b2, (false || decide (nn.1 ≠ 0)) = b2 := ⟨_, rfl⟩
            have HB2 : Hid ((false || decide (g.1 ≠ 0) || decide (nn.1 ≠ 0)) = b2) := by show _ = _; rw [HB1.out]; exact hb2
            rw [hb2] at H2
            clear hb2
            obtain ⟨d, hd⟩ : ∃ d, d = nn.2.1 := ⟨_, rfl⟩
            have HD0 : Hid (d = nn.2.1) := hd
            rw [← hd]
            clear hd
            have c7 := H2.out.rz.c7
            have hsv := H2.out.sv
            obtain ⟨an, cn, rfl, hcn, hsn⟩ := hsv
            have HSN : Hid (SeenAt wd an N.length (fun j => N.getD j zs) ∧ N.length ≤ cn) := ⟨hsn, hcn⟩
            have HAN : Hid (an = none → cn = 0) := fun e => (own_sv H2.out.own).2 N.length cn (by rw [e])
            clear hsn hcn
            have hN121 := HW.out.2
            cases b2 with
            | true =>
              have HX : Hid (∀ T, ¬ Del F L T) := fun T h => HW.out.1.fine HG.out HK3.out HNN.out (Or.inl HB2.out) T h.1 h.2.2
              go_wp2_with fail
              exact bodyPost_ret (v := .tuple #[.slice none 0 0, .int .i64 3]) (by simp [results, Try.results52, go_sem]) rfl ⟨H2.out.rz.only, Or.inr (Or.inl ⟨HR.out, HX.out, rfl⟩)⟩
            | false =>
              by_cases hdl : 1099511627776 < (d : Int)
              · have HX : Hid (∀ T, ¬ Del F L T) := fun T h => HW.out.1.fine HG.out HK3.out HNN.out (Or.inr (Or.inl (by rw [← HD0.out]; exact hdl))) T h.1 h.2.2
                have hdb : decide ((1099511627776 : Int) < (d : Int)) = true := decide_eq_true hdl
                clear hdl
                go_wp2_with fail
                exact bodyPost_ret (v := .tuple #[.slice none 0 0, .int .i64 3]) (by simp [results, Try.results52, go_sem]) rfl ⟨H2.out.rz.only, Or.inr (Or.inl ⟨HR.out, HX.out, rfl⟩)⟩
              · by_cases hnl : 120 < N.length
                · have HX : Hid (∀ T, ¬ Del F L T) := fun T h => HW.out.1.fine HG.out HK3.out HNN.out (Or.inr (Or.inr hnl)) T h.1 h.2.2
                  have hdb : decide ((1099511627776 : Int) < (d : Int)) = false := decide_eq_false hdl
                  have hnb : decide ((120 : Int) < (N.length : Int)) = true := decide_eq_true (by omega)
                  clear hdl hnl
                  go_wp2_with fail
                  exact bodyPost_ret (v := .tuple #[.slice none 0 0, .int .i64 3]) (by simp [results, Try.results52, go_sem]) rfl ⟨H2.out.rz.only, Or.inr (Or.inl ⟨HR.out, HX.out, rfl⟩)⟩
                · have hdb : decide ((1099511627776 : Int) < (d : Int)) = false := decide_eq_false hdl
                  have hnb : decide ((120 : Int) < (N.length : Int)) = false := decide_eq_false (by omega)
                  have HN120 : Hid (N.length ≤ 120) := by show _ ≤ _; omega
                  clear hdl hnl
                  go_upto_region 16 with fail
                  obtain ⟨idv, hidv⟩ : ∃ x, x = wrap64 (la + wrap64 ((d : Int) + 1)) := ⟨_, rfl⟩
                  rw [← hidv]
                  have HID : Hid (idv = wrap64 (la + wrap64 (((nn.2.1 : Nat) : Int) + 1))) := by show _ = _; rw [← HD0.out]; exact hidv
                  clear hidv c7 hdb hnb
                  go_upto_block 2 with fail
                  go_cut [14] from 35 to 213 (fun s14 wx => ∃ at_ : Nat, s14 = .int .i64 (at_ : Int) ∧ Hid (AtR N idv at_) ∧ Hid (wd = wx))
                  case first =>
                    go_wp2_with fail
                    go_loopg [14] N.length (fun k' s14 wx => ∃ at_ : Nat, s14 = .int .i64 (at_ : Int) ∧ Hid (at_ ≤ N.length ∧ k' = N.length - at_ ∧ ∀ j, j < at_ → (N.getD j zs).id < idv) ∧ Hid (wd = wx))
                    case atStart => exact ⟨0, rfl, ⟨by omega, rfl, fun j hj => by omega⟩, rfl⟩
                    case round =>
                      obtain ⟨at_, rfl, HJ, HWX⟩ := hrel
                      have hwx := HWX.out
                      subst hwx
                      by_cases hat : at_ < N.length
                      · have hatl : (at_ : Int) < (N.length : Int) := by omega
                        obtain ⟨g9, o9, rfl, hcell⟩ := HSN.out.1 at_ hat
                        have z0 := hcell 0 (by omega)
                        clear hcell
                        obtain ⟨X, hX⟩ : ∃ X, (N.getD at_ zs).id = X := ⟨_, rfl⟩
                        simp only [sc, Nat.add_zero] at z0
                        rw [hX] at z0
                        have HX9 : Hid ((N.getD at_ zs).id = X) := hX
                        clear hX
                        by_cases hlt : X < idv
                        · have hlb : decide (X < idv) = true := decide_eq_true hlt
                          have HLT : Hid (X < idv) := hlt
                          clear hlt
                          go_wp2_with fail
                          go_roundg (N.length - (at_ + 1))
                          case measure => have := HJ.out.2.1; omega
                          case rel => exact ⟨at_ + 1, by go_num, ⟨by omega, rfl, fun j hj => by
                            rcases Nat.lt_or_ge j at_ with q | q
                            · exact HJ.out.2.2 j q
                            · obtain rfl : j = at_ := by omega
                              rw [HX9.out]; exact HLT.out⟩, rfl⟩
                        · have hlb : decide (X < idv) = false := decide_eq_false hlt
                          have HLT : Hid (¬ X < idv) := hlt
                          clear hlt
                          go_wp2_with fail
                          go_meet
                          case rel => exact ⟨at_, rfl, ⟨HJ.out.1, HJ.out.2.2, Or.inr (by rw [HX9.out]; have := HLT.out; omega)⟩, rfl⟩
                      · have hatl : ¬ (at_ : Int) < (N.length : Int) := by omega
                        have hatb : decide ((at_ : Int) < (N.length : Int)) = false := decide_eq_false hatl
                        go_wp2_with fail
                        go_meet
                        case rel => exact ⟨at_, rfl, ⟨HJ.out.1, HJ.out.2.2, Or.inl (by have := HJ.out.1; omega)⟩, rfl⟩
                  case rest =>
                    obtain ⟨at_, rfl, HAT, HWX⟩ := hcut
                    have hwx := HWX.out
                    subst hwx
                    have hat0 := HAT.out.1
                    go_upto_region 19 with fail
                    go_cut [15] from 35 to 213 (fun s15 wx => s15 = .bool (thereR N idv at_) ∧ Hid (wd = wx))
                    case first =>
                      by_cases hat : at_ < N.length
                      · have hatl : (at_ : Int) < (N.length : Int) := by omega
                        obtain ⟨g9, o9, rfl, hcell⟩ := HSN.out.1 at_ hat
                        have z0 := hcell 0 (by omega)
                        clear hcell
                        have HTR : Hid (thereR N idv at_ = ((N.getD at_ zs).id == idv)) := by show _ = _; unfold thereR; rw [decide_eq_true hat, Bool.true_and]
                        obtain ⟨X, hX⟩ : ∃ X, (N.getD at_ zs).id = X := ⟨_, rfl⟩
                        simp only [sc, Nat.add_zero] at z0
                        rw [hX] at z0 HTR
                        clear hX
                        go_wp2_with fail
                        go_meet
                        case rel => exact ⟨by rw [HTR.out], rfl⟩
                      · have hatl : ¬ (at_ : Int) < (N.length : Int) := by omega
                        have hatb : decide ((at_ : Int) < (N.length : Int)) = false := decide_eq_false hatl
                        have HTR : Hid (thereR N idv at_ = false) := by show _ = _; unfold thereR; rw [decide_eq_false hat]; rfl
                        go_wp2_with fail
                        go_meet
                        case rel => exact ⟨by rw [HTR.out], rfl⟩
                    case rest =>
                      obtain ⟨rfl, HWX2⟩ := hcut
                      have hwx := HWX2.out
                      subst hwx
                      obtain ⟨th, hth⟩ : ∃ th, thereR N idv at_ = th := ⟨_, rfl⟩
                      have HTH : Hid (thereR N idv at_ = th) := hth
                      rw [hth]
                      clear hth
                      have hkl := HKL.out
                      have HX0 : Hid ((¬ (g.2.1 = 1 ∧ thereR N idv at_ = false) ∧ ¬ (g.2.1 = 0 ∧ thereR N idv at_ = true) ∧ ¬ (g.2.1 = 2 ∧ thereR N idv at_ = true)) → ∀ T, ¬ Del F L T) := fun hw T h => HW.out.1.none_ HG.out HK3.out HNN.out HID.out HAT.out hw T h.1 h.2.2
                      rcases (show k = 0 ∨ k = 1 ∨ k = 2 by omega) with rfl | rfl | rfl
                      · cases th with
                        | false =>
                          have HX : Hid (∀ T, ¬ Del F L T) := HX0.out (by rw [HK.out.2.1, HTH.out]; simp)
                          go_wp2_with fail
                          exact bodyPost_ret (v := .tuple #[.slice none 0 0, .int .i64 3]) (by simp [results, Try.results52, go_sem]) rfl ⟨H2.out.rz.only, Or.inr (Or.inl ⟨HR.out, HX.out, rfl⟩)⟩
                        | true =>
                          go_upto_block 4 with fail
                          refine sw_B F L w kt k6 k7 k8 v N la p g nn 0 idv at_ true an cn wd _ _ _ _ _ _ _ _ _ _ _ _ _ _ _ _ _ _ _ _ _ _ _ _ _ _ _ _ _ _ _ _ _ _ _ _ _ _ _ _ _ _ _ _ _ _ _ _ _ _ _ _ _ _ _ _ _ _ _ _ _ _ _ _ _ _ _ _ _ _ _ _ _ _ _ _ _ _ _ _ _ _ _ _ _ _ _ _ _ _ _ _ _ _ _ _ _ _ _ _ _ _ _ _ _ _ _ _ _ _ _ _ _ _ _ _ _ _ _ _ _ _ _ _ _ _ _ _ _ _ _ _ _ _ _ _ _ _ _ _ _ _ _ _ _ _ _ _ _ _ _ _ _ _ _ _ _ _ _ _ _ _ _ _ _ _ _ _ _ _ _ _ _ _ _ _ _ _ _ _ _ _ _ _ _ _ _ _ _ _ _ _ _ _ _ _ _ _ _ _ _ _ _ _ _ _ _ _ _ _ _ _ _ _ _ _ _ _ _ _ _ _ _ _ _ _ _ rfl rfl HG HNN HID HAT HK HB2 HSN HAN H2 HN120 HTH HW hat0 ?_
                          intro u4 u5 u16 u17 u18 u19 u20 u35 u36 u37 u38 u39 u40 u41 u42 u43 u44 u45 u46 u47 u48 u49 u50 u51 u52 u53 u54 u55 u56 u57 u58 u59 u60 u61 u62 u63 u64 u65 u66 u67 u68 u69 u70 u71 u72 u73 u74 u75 u76 u77 u78 u79 u80 u81 u82 u83 u84 u85 u86 u87 u88 u89 u90 u91 u92 u93 u94 u95 u96 u97 u98 u99 u100 u101 u102 u103 u104 u105 u106 u107 u108 u109 u110 u111 u112 u113 u114 u115 u116 u117 u118 u119 u120 u121 u122 u123 u124 u125 u126 u127 u128 u129 u130 u131 u132 u133 u134 u135 u136 u137 u138 u139 u140 u141 u142 u143 u144 u145 u146 u147 u148 u149 u150 u151 u152 u153 u154 u155 u156 u157 u158 u159 u160 u161 u162 u163 u164 u165 u166 u167 u168 u169 u170 u171 u172 u173 u174 u175 u176 u177 u178 u179 u180 u181 u182 u183 u184 u185 u186 u187 u188 u189 u190 u191 u192 u193 u194 u195 u196 u197 u198 u199 u200 u201 u202 u203 u204 u205 u206 u207 u208 u209 u210 u211 u212 u213 nv' wz hp9
                          obtain ⟨N', b', p', hA9, hw9, hl9, hp9⟩ := hp9
                          have HA9 : Hid (RA w kt k6 k7 k8 v L b' p' nv' N' wz) := hA9
                          have HWN : Hid (WayR F L N' b' idv p' ∧ N'.length ≤ 121) := ⟨hw9, hl9⟩
                          have HPP : Hid (nn.2.2 ≤ p') := hp9
                          clear hA9 hw9 hl9 hp9
                          go_wp2_with fail
                          go_roundg (8 * L.length - p')
                          case measure => have h1 := HI.out; have h2 := HGE.out; have h3 := HA9.out.rz.tp.pos; rw [bitsOf_len] at h3; have h4 := HPP.out; omega
                          case rel => exact ⟨nv', N', b', idv, p', rfl, rfl, rfl, HA9, HWN⟩
                      · cases th with
                        | true =>
                          have HX : Hid (∀ T, ¬ Del F L T) := HX0.out (by rw [HK.out.2.1, HTH.out]; simp)
                          go_wp2_with fail
                          exact bodyPost_ret (v := .tuple #[.slice none 0 0, .int .i64 3]) (by simp [results, Try.results52, go_sem]) rfl ⟨H2.out.rz.only, Or.inr (Or.inl ⟨HR.out, HX.out, rfl⟩)⟩
                        | false =>
                          go_upto_block 4 with fail
                          refine sw_A F L w kt k6 k7 k8 v N la p g nn 1 idv at_ false an cn wd _ _ _ _ _ _ _ _ _ _ _ _ _ _ _ _ _ _ _ _ _ _ _ _ _ _ _ _ _ _ _ _ _ _ _ _ _ _ _ _ _ _ _ _ _ _ _ _ _ _ _ _ _ _ _ _ _ _ _ _ _ _ _ _ _ _ _ _ _ _ _ _ _ _ _ _ _ _ _ _ _ _ _ _ _ _ _ _ _ _ _ _ _ _ _ _ _ _ _ _ _ _ _ _ _ _ _ _ _ _ _ _ _ _ _ _ _ _ _ _ _ _ _ _ _ _ _ _ _ _ _ _ _ _ _ _ _ _ _ _ _ _ _ _ _ _ _ _ _ _ _ _ _ _ _ _ _ _ _ _ _ _ _ _ _ _ _ _ _ _ _ _ _ _ _ _ _ _ _ _ _ _ _ _ _ _ _ _ _ _ _ _ _ _ _ _ _ _ _ _ _ _ _ _ _ _ _ _ _ _ _ _ _ _ _ _ _ _ _ _ _ _ _ _ _ _ _ rfl rfl HG HNN HID HAT HK HB2 HSN HAN H2 HN120 HTH HW hat0 ?_
                          intro u4 u5 u16 u17 u18 u19 u20 u35 u36 u37 u38 u39 u40 u41 u42 u43 u44 u45 u46 u47 u48 u49 u50 u51 u52 u53 u54 u55 u56 u57 u58 u59 u60 u61 u62 u63 u64 u65 u66 u67 u68 u69 u70 u71 u72 u73 u74 u75 u76 u77 u78 u79 u80 u81 u82 u83 u84 u85 u86 u87 u88 u89 u90 u91 u92 u93 u94 u95 u96 u97 u98 u99 u100 u101 u102 u103 u104 u105 u106 u107 u108 u109 u110 u111 u112 u113 u114 u115 u116 u117 u118 u119 u120 u121 u122 u123 u124 u125 u126 u127 u128 u129 u130 u131 u132 u133 u134 u135 u136 u137 u138 u139 u140 u141 u142 u143 u144 u145 u146 u147 u148 u149 u150 u151 u152 u153 u154 u155 u156 u157 u158 u159 u160 u161 u162 u163 u164 u165 u166 u167 u168 u169 u170 u171 u172 u173 u174 u175 u176 u177 u178 u179 u180 u181 u182 u183 u184 u185 u186 u187 u188 u189 u190 u191 u192 u193 u194 u195 u196 u197 u198 u199 u200 u201 u202 u203 u204 u205 u206 u207 u208 u209 u210 u211 u212 u213 nv' wz hp9
                          obtain ⟨N', b', p', hA9, hw9, hl9, hp9⟩ := hp9
                          have HA9 : Hid (RA w kt k6 k7 k8 v L b' p' nv' N' wz) := hA9
                          have HWN : Hid (WayR F L N' b' idv p' ∧ N'.length ≤ 121) := ⟨hw9, hl9⟩
                          have HPP : Hid (nn.2.2 ≤ p') := hp9
                          clear hA9 hw9 hl9 hp9
                          go_wp2_with fail
                          go_roundg (8 * L.length - p')
                          case measure => have h1 := HI.out; have h2 := HGE.out; have h3 := HA9.out.rz.tp.pos; rw [bitsOf_len] at h3; have h4 := HPP.out; omega
                          case rel => exact ⟨nv', N', b', idv, p', rfl, rfl, rfl, HA9, HWN⟩
                      · cases th with
                        | false =>
                          have HX : Hid (∀ T, ¬ Del F L T) := HX0.out (by rw [HK.out.2.1, HTH.out]; simp)
                          go_wp2_with fail
                          exact bodyPost_ret (v := .tuple #[.slice none 0 0, .int .i64 3]) (by simp [results, Try.results52, go_sem]) rfl ⟨H2.out.rz.only, Or.inr (Or.inl ⟨HR.out, HX.out, rfl⟩)⟩
                        | true =>
                          go_upto_block 4 with fail
                          refine sw_C F L w kt k6 k7 k8 v N la p g nn 2 idv at_ true an cn wd _ _ _ _ _ _ _ _ _ _ _ _ _ _ _ _ _ _ _ _ _ _ _ _ _ _ _ _ _ _ _ _ _ _ _ _ _ _ _ _ _ _ _ _ _ _ _ _ _ _ _ _ _ _ _ _ _ _ _ _ _ _ _ _ _ _ _ _ _ _ _ _ _ _ _ _ _ _ _ _ _ _ _ _ _ _ _ _ _ _ _ _ _ _ _ _ _ _ _ _ _ _ _ _ _ _ _ _ _ _ _ _ _ _ _ _ _ _ _ _ _ _ _ _ _ _ _ _ _ _ _ _ _ _ _ _ _ _ _ _ _ _ _ _ _ _ _ _ _ _ _ _ _ _ _ _ _ _ _ _ _ _ _ _ _ _ _ _ _ _ _ _ _ _ _ _ _ _ _ _ _ _ _ _ _ _ _ _ _ _ _ _ _ _ _ _ _ _ _ _ _ _ _ _ _ _ _ _ _ _ _ _ _ _ _ _ _ _ _ _ _ _ _ _ _ _ _ rfl rfl HG HNN HID HAT HK HB2 HSN HAN H2 HN120 HTH HW hat0 ?_
                          intro u4 u5 u16 u17 u18 u19 u20 u35 u36 u37 u38 u39 u40 u41 u42 u43 u44 u45 u46 u47 u48 u49 u50 u51 u52 u53 u54 u55 u56 u57 u58 u59 u60 u61 u62 u63 u64 u65 u66 u67 u68 u69 u70 u71 u72 u73 u74 u75 u76 u77 u78 u79 u80 u81 u82 u83 u84 u85 u86 u87 u88 u89 u90 u91 u92 u93 u94 u95 u96 u97 u98 u99 u100 u101 u102 u103 u104 u105 u106 u107 u108 u109 u110 u111 u112 u113 u114 u115 u116 u117 u118 u119 u120 u121 u122 u123 u124 u125 u126 u127 u128 u129 u130 u131 u132 u133 u134 u135 u136 u137 u138 u139 u140 u141 u142 u143 u144 u145 u146 u147 u148 u149 u150 u151 u152 u153 u154 u155 u156 u157 u158 u159 u160 u161 u162 u163 u164 u165 u166 u167 u168 u169 u170 u171 u172 u173 u174 u175 u176 u177 u178 u179 u180 u181 u182 u183 u184 u185 u186 u187 u188 u189 u190 u191 u192 u193 u194 u195 u196 u197 u198 u199 u200 u201 u202 u203 u204 u205 u206 u207 u208 u209 u210 u211 u212 u213 nv' wz hp9
                          obtain ⟨N', b', p', hA9, hw9, hl9, hp9⟩ := hp9
                          have HA9 : Hid (RA w kt k6 k7 k8 v L b' p' nv' N' wz) := hA9
                          have HWN : Hid (WayR F L N' b' idv p' ∧ N'.length ≤ 121) := ⟨hw9, hl9⟩
                          have HPP : Hid (nn.2.2 ≤ p') := hp9
                          clear hA9 hw9 hl9 hp9
                          go_wp2_with fail
                          go_roundg (8 * L.length - p')
                          case measure => have h1 := HI.out; have h2 := HGE.out; have h3 := HA9.out.rz.tp.pos; rw [bitsOf_len] at h3; have h4 := HPP.out; omega
                          case rel => exact ⟨nv', N', b', idv, p', rfl, rfl, rfl, HA9, HWN⟩
end Go.Proofs.Ytedhdmahdioboaa
