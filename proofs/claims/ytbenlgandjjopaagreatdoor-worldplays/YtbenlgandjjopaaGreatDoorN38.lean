/- . -/
import Derived.Test.YtbenlgandjjopaaGreatDoorN37
open Go.Value renaming int → J
open Go.IntKind renaming i64 → U
open List renaming mem_singleton → zrc
namespace Go.Proofs.YtbenlgandjjopaaGreatDoor
set_option maxRecDepth 1000000
set_option maxHeartbeats 40000000
open Go.ChangeShapes Go.WideShapes Go.ChangeAt Go.RowKit
set_option linter.unusedVariables false
set_option linter.unusedSimpArgs false
variable {w w' : World} {kx n : Nat} {kd id v1 v2 v3 i : Int} {q : Bd} {B : Nat → Bd} {p : Bx} {D : List Nat} {xs : List Int}
def ActAt (w : World) (kx : Nat) (kd id : Int) (q : Bd) (v1 v2 v3 : Int) : Prop := w.heap[kx]? = some (.cells #[J U kd,J U id,J U q.id,J U q.ow,J U q.kd,J U q.sx,J U q.sy,J U q.sz,J U q.ax,J U q.ay,J U q.az,J U q.vx,J U q.vy,J U q.vz,J U q.px,J U q.py,J U q.pz,J U q.ms,J U q.tm,J U v1,J U v2,J U v3] 47)
theorem ActAt.lt (h : ActAt w kx kd id q v1 v2 v3) : kx < w.heap.size := (Array.getElem?_eq_some_iff.1 h).1
theorem ActAt.only (h : ActAt w kx kd id q v1 v2 v3) (o : Only D w w') (s : kx ∉ D) : ActAt w' kx kd id q v1 v2 v3 := (o.block kx h.lt s).trans h
theorem ActAt.off (h : ActAt w kx kd id q v1 v2 v3) (j : Nat) : w.cell? (Y kx j) = (#[I kd,I id,I q.id,I q.ow,I q.kd,I q.sx,I q.sy,I q.sz,I q.ax,I q.ay,I q.az,I q.vx,I q.vy,I q.vz,I q.px,I q.py,I q.pz,I q.ms,I q.tm,I v1,I v2,I v3] : Array Value)[j]? := by
 unfold ActAt at h; simp [World.cell?,h]
theorem ActAt.body (h : ActAt w kx kd id q v1 v2 v3) : ∀ k,k < 17 → w.cell? (Y kx (2 + k)) = some (bc q k) := fun k hk => by
 have h1 := h.off (2 + k);rw [h1]
 match k,hk with
 | 0,_ => rfl
 | 1,_ => rfl
 | 2,_ => rfl
 | 3,_ => rfl
 | 4,_ => rfl
 | 5,_ => rfl
 | 6,_ => rfl
 | 7,_ => rfl
 | 8,_ => rfl
 | 9,_ => rfl
 | 10,_ => rfl
 | 11,_ => rfl
 | 12,_ => rfl
 | 13,_ => rfl
 | 14,_ => rfl
 | 15,_ => rfl
 | 16,_ => rfl
 | k + 17,h => exact absurd h (by omega)
theorem EtIs.onlyD (h : EtIs w) (o : Only D w w') (s : 0 ∉ D) : EtIs w' := y03 o h s
theorem y6w (c : Int) (w : World) (hg : EtIs w) : Calls Tryz.prog 6 #[errV c,I c] w fun e w' => e = .returned (.bool true) ∧ Kept w w' := by
 refine (yii c c w hg).mono ?_;rintro e w' ⟨rfl,k⟩;exact ⟨by simp,k⟩
def blockOf (n : Nat) : Code → Option Code
 | .block k c => if k = n then some (.block k c) else blockOf n c
 | .seq a b => match blockOf n a with
  | some c => some c
  | none => blockOf n b
 | .cond _ a b => match blockOf n a with
  | some c => some c
  | none => blockOf n b
 | .loop c => blockOf n c
 | _ => none
def codeW (f : Func) : Code := ((f.body.bind (blockOf 2)).getD .skip)
def ActGoal (E : List Nat) (wb : World) (x y kx : Nat) (c : Wc) (n k : Nat) (la st : Int) (B : Nat → Bd) (M : List (Int × Bx)) (kd id : Int) (q : Bd) (v1 v2 v3 : Int) (w5 : World) : Prop :=
  Hid (EtIs wb ∧ 0 ∉ E) → Hid (ActAt wb kx kd id q v1 v2 v3 ∧ kx ∉ E ∧ In64 id) → Hid (Pair E wb x y c n la st B M n la st B w5) → Hid (M.Perm (boxesB B n) ∧ Fine la st n B k ∧ k ≤ 100) → ∀ (c0 c1 c2 c3 c4 c6 c8 c9 c11 c12 c13 c14 c15 c16 c17 c18 c19 c20 c21 c22 c23 c24 c25 c26 c27 c28 c29 c30 c31 c32 c33 c34 c35 c36 c37 c38 c39 c40 c41 c42 c43 c44 c45 c46 c47 c48 c49 c50 c51 c52 c53 c54 c55 c56 c57 c58 c59 c60 c61 c62 c63 c64 c65 c66 c67 c68 c69 c70 c71 c72 c73 c74 c75 c76 c78 c79 c80 c81 c82 c83 c84 c85 c86 c87 c88 c89 c90 c91 c92 c93 c94 c95 c96 c97 c98 c99 c100 c101 c102 c103 c104 c105 c106 c107 c108 c109 c110 c111 c112 c113 c114 c115 c116 c117 c118 c119 c120 c121 c122 c123 c124 c125 c126 c127 c128 c129 c130 c131 c132 c133 c134 c135 c136 c137 c138 c139 c140 c141 c142 c143 c144 c145 c146 c147 c148 c149 c150 c151 c152 c153 c154 c155 c156 c157 c158 c159 c160 c161 c162 c163 c164 c165 c166 c167 c168 c169 c170 c171 c172 c173 c174 c175 c176 c177 c178 c179 c180 c181 c182 c183 c184 c185 c186 c187 c188 c189 c190 c191 c192 c193 c194 c195 c196 c197 c198 c199 c200 c201 c202 c203 c204 c205 c206 c207 c208 c209 c210 c211 c212 c213 c214 c215 c216 c217 c218 c219 c220 c221 c222 c223 c224 c225 c226 c227 c228 c229 c230 c231 c232 c233 c234 c235 c236 c237 c238 c239 c240 c241 c242 c243 c244 c245 c246 c247 c248 c249 c250 c251 c252 c253 c254 c255 c256 c257 c258 c259 c260 c261 c262 c263 c264 : Value) (K K1 K2 K3 : Act → World → Prop) (Pf : Ending → World → Prop),
  (∀ (u4 u11 u12 u13 u14 u15 u16 u17 u18 u19 u20 u78 u79 u80 u81 u82 u83 u84 u85 u86 u87 u88 u89 u90 u91 u92 u93 u94 u95 u96 u97 u98 u99 u100 u101 u102 u103 u104 u105 u106 u107 u108 u109 u110 u111 u112 u113 u114 u115 u116 u117 u118 u119 u120 u121 u122 u123 u124 u125 u126 u127 u128 u129 u130 u131 u132 u133 u134 u135 u136 u137 u138 u139 u140 u141 u142 u143 u144 u145 u146 u147 u148 u149 u150 u151 u152 u153 u154 u155 u156 u157 u158 u159 u160 u161 u162 u163 u164 u165 u166 u167 u168 u169 u170 u171 u172 u173 u174 u175 u176 u177 u178 u179 u180 u181 u182 u183 u184 u185 u186 u187 u188 u189 u190 u191 u192 u193 u194 u195 u196 u197 u198 u199 u200 u201 u202 u203 u204 u205 u206 u207 u208 u209 u210 u211 u212 u213 u214 u215 u216 : Value) (wc : World),Duo E wb x y c (k + 1) wc → K ⟨#[c0,c1,c2,c3,u4,.pointer (some ⟨x,0,none⟩),c6,.pointer (some ⟨y,0,none⟩),c8,c9,.pointer (some ⟨kx,0,none⟩),u11,u12,u13,u14,u15,u16,u17,u18,u19,u20,c21,c22,c23,c24,c25,c26,c27,c28,c29,c30,c31,c32,c33,c34,c35,c36,c37,c38,c39,c40,c41,c42,c43,c44,c45,c46,c47,c48,c49,c50,c51,c52,c53,c54,c55,c56,c57,c58,c59,c60,c61,c62,c63,c64,c65,c66,c67,c68,c69,c70,c71,c72,c73,c74,c75,c76,J U kd,u78,u79,u80,u81,u82,u83,u84,u85,u86,u87,u88,u89,u90,u91,u92,u93,u94,u95,u96,u97,u98,u99,u100,u101,u102,u103,u104,u105,u106,u107,u108,u109,u110,u111,u112,u113,u114,u115,u116,u117,u118,u119,u120,u121,u122,u123,u124,u125,u126,u127,u128,u129,u130,u131,u132,u133,u134,u135,u136,u137,u138,u139,u140,u141,u142,u143,u144,u145,u146,u147,u148,u149,u150,u151,u152,u153,u154,u155,u156,u157,u158,u159,u160,u161,u162,u163,u164,u165,u166,u167,u168,u169,u170,u171,u172,u173,u174,u175,u176,u177,u178,u179,u180,u181,u182,u183,u184,u185,u186,u187,u188,u189,u190,u191,u192,u193,u194,u195,u196,u197,u198,u199,u200,u201,u202,u203,u204,u205,u206,u207,u208,u209,u210,u211,u212,u213,u214,u215,u216,c217,c218,c219,c220,c221,c222,c223,c224,c225,c226,c227,c228,c229,c230,c231,c232,c233,c234,c235,c236,c237,c238,c239,c240,c241,c242,c243,c244,c245,c246,c247,c248,c249,c250,c251,c252,c253,c254,c255,c256,c257,c258,c259,c260,c261,c262,c263,c264],[]⟩ wc) →
  Code.wp Tryz.prog (codeW Tryz.f3) (Exit.then K (Exit.inBlock 1 (Exit.then K1 (Exit.then K2 (Exit.inBlock 0 (Exit.then K3 (bodyPost Tryz.prog Tryz.f3 Pf))))))) ⟨#[c0,c1,c2,c3,c4,.pointer (some ⟨x,0,none⟩),c6,.pointer (some ⟨y,0,none⟩),c8,c9,.pointer (some ⟨kx,0,none⟩),c11,c12,c13,c14,c15,c16,c17,c18,c19,c20,c21,c22,c23,c24,c25,c26,c27,c28,c29,c30,c31,c32,c33,c34,c35,c36,c37,c38,c39,c40,c41,c42,c43,c44,c45,c46,c47,c48,c49,c50,c51,c52,c53,c54,c55,c56,c57,c58,c59,c60,c61,c62,c63,c64,c65,c66,c67,c68,c69,c70,c71,c72,c73,c74,c75,c76,J U kd,c78,c79,c80,c81,c82,c83,c84,c85,c86,c87,c88,c89,c90,c91,c92,c93,c94,c95,c96,c97,c98,c99,c100,c101,c102,c103,c104,c105,c106,c107,c108,c109,c110,c111,c112,c113,c114,c115,c116,c117,c118,c119,c120,c121,c122,c123,c124,c125,c126,c127,c128,c129,c130,c131,c132,c133,c134,c135,c136,c137,c138,c139,c140,c141,c142,c143,c144,c145,c146,c147,c148,c149,c150,c151,c152,c153,c154,c155,c156,c157,c158,c159,c160,c161,c162,c163,c164,c165,c166,c167,c168,c169,c170,c171,c172,c173,c174,c175,c176,c177,c178,c179,c180,c181,c182,c183,c184,c185,c186,c187,c188,c189,c190,c191,c192,c193,c194,c195,c196,c197,c198,c199,c200,c201,c202,c203,c204,c205,c206,c207,c208,c209,c210,c211,c212,c213,c214,c215,c216,c217,c218,c219,c220,c221,c222,c223,c224,c225,c226,c227,c228,c229,c230,c231,c232,c233,c234,c235,c236,c237,c238,c239,c240,c241,c242,c243,c244,c245,c246,c247,c248,c249,c250,c251,c252,c253,c254,c255,c256,c257,c258,c259,c260,c261,c262,c263,c264],[]⟩ w5
theorem yj1 (E : List Nat) (wb : World) (x y kx : Nat) (c : Wc) (n k : Nat) (la st : Int) (B : Nat → Bd) (M : List (Int × Bx)) (kd id : Int) (q : Bd) (v1 v2 v3 : Int) (w5 : World) : ActGoal E wb x y kx c n k la st B M 0 id q v1 v2 v3 w5 := by
 intro HG HA HP HF;intros;rename_i hK;conv => arg 2; whnf
 have HX : Hid (∀ w',Only E wb w' → ActAt w' kx 0 id q v1 v2 v3 ∧ EtIs w') := fun w' o => ⟨HA.out.1.only o HA.out.2.1,HG.out.1.onlyD o HG.out.2⟩;have HS : Hid (spawnC c B n M la q = spawnR c B n q ∧ (spawnR c B n q = 0 → (putM M (la + 1) (boxB (numB q (la + 1)))).Perm (boxesB (upd B n (numB q (la + 1))) (n + 1)) ∧ Fine (la + 1) st (n + 1) (upd B n (numB q (la + 1))) (k + 1))) := yhq HF.out.2.1 (by have := HF.out.2.2; omega) HF.out.1 q;have HL : Hid (n ≤ 60 ∧ 0 ≤ la ∧ la ≤ 1000000) := ⟨HF.out.2.1.n60,HF.out.2.1.la0,by have := HF.out.2.1.la1; have := HF.out.2.2; omega⟩;go_upto_region 16 with fail
 have hc := (HX.out _ HP.out.only).1.body;go_wp2_with (first | (refine wpList_load_mid rfl 45 (.tmp 82) rfl kx 2 rfl [I q.id,I q.ow,I q.kd,I q.sx,I q.sy,I q.sz,I q.ax,I q.ay,I q.az,I q.vx,I q.vy,I q.vz,I q.px,I q.py,I q.pz,I q.ms,I q.tm] _ (range17 hc) Tryz.underlying45 rfl bodySize ?_))
 refine (ydz HP.out q HL.out.1 HL.out.2.1 HL.out.2.2).mono ?_;rintro e w6 ⟨p1,p2⟩;clear hc;by_cases h0 : spawnR c B n q = 0
 ·obtain ⟨rfl,hp⟩ := p1 h0
  have H6 : Hid (Pair E wb x y c n la st B M (n + 1) (la + 1) st (upd B n (numB q (la + 1))) w6 ∧ spawnR c B n q = 0) := ⟨hp,h0⟩;clear p1 p2 hp h0;go_upto_region 17 with fail
  have hc := (HX.out _ H6.out.1.only).1.body;go_wp2_with (first | (refine wpList_load_mid rfl 45 (.tmp 89) rfl kx 2 rfl [I q.id,I q.ow,I q.kd,I q.sx,I q.sy,I q.sz,I q.ax,I q.ay,I q.az,I q.vx,I q.vy,I q.vz,I q.px,I q.py,I q.pz,I q.ms,I q.tm] _ (range17 hc) Tryz.underlying45 rfl bodySize ?_))
  refine (y76 H6.out.1 q HL.out.1 HL.out.2.1 HL.out.2.2).mono ?_;rintro e w7 ⟨p1,_⟩;obtain ⟨rfl,hp⟩ := p1 (HS.out.1.trans H6.out.2);have H7 : Hid (Pair E wb x y c (n + 1) (la + 1) st (upd B n (numB q (la + 1))) (putM M (la + 1) (boxB (numB q (la + 1)))) (n + 1) (la + 1) st (upd B n (numB q (la + 1))) w7) := hp;clear p1 hp hc;go_wp2_with fail
  refine (show Calls Tryz.prog 6 #[.nilIface,I 0] w7 (fun e w' => e = .returned (.bool true) ∧ Kept w7 w') from y6w 0 w7 (HX.out _ H7.out.only).2).mono ?_;rintro e w8 ⟨rfl,k8⟩;have H8 : Hid (Duo E wb x y c (k + 1) w8) := ⟨_,_,_,_,_,H7.out.keep (Only.of_kept k8),(HS.out.2 H6.out.2).1,(HS.out.2 H6.out.2).2⟩;clear k8;go_wp2_with fail
  exact H8.out
 ·obtain ⟨rfl,hp⟩ := p2 h0
  have H6 : Hid (Pair E wb x y c n la st B M n la st B w6 ∧ spawnC c B n M la q ≠ 0) := ⟨hp,fun e => h0 (HS.out.1.symm.trans e)⟩;clear p1 p2 hp h0;obtain ⟨z,hz⟩ : ∃ z,z = spawnR c B n q := ⟨_,rfl⟩;have HZ : Hid (spawnC c B n M la q = z) := HS.out.1.trans hz.symm;rw [← hz];clear hz;go_upto_region 17 with fail
  have hc := (HX.out _ H6.out.1.only).1.body;go_wp2_with (first | (refine wpList_load_mid rfl 45 (.tmp 89) rfl kx 2 rfl [I q.id,I q.ow,I q.kd,I q.sx,I q.sy,I q.sz,I q.ax,I q.ay,I q.az,I q.vx,I q.vy,I q.vz,I q.px,I q.py,I q.pz,I q.ms,I q.tm] _ (range17 hc) Tryz.underlying45 rfl bodySize ?_))
  refine (y76 H6.out.1 q HL.out.1 HL.out.2.1 HL.out.2.2).mono ?_;rintro e w7 ⟨_,p2⟩;obtain ⟨rfl,hp⟩ := p2 H6.out.2;rw [HZ.out];have H7 : Hid (Pair E wb x y c n la st B M n la st B w7) := hp;clear p2 hp hc;go_wp2_with fail
  refine (y6w z w7 (HX.out _ H7.out.only).2).mono ?_;rintro e w8 ⟨rfl,k8⟩;have H8 : Hid (Duo E wb x y c (k + 1) w8) := ⟨_,_,_,_,_,H7.out.keep (Only.of_kept k8),HF.out.1,HF.out.2.1.more⟩;clear k8;go_wp2_with fail
  exact H8.out
theorem yik (E : List Nat) (wb : World) (x y kx : Nat) (c : Wc) (n k : Nat) (la st : Int) (B : Nat → Bd) (M : List (Int × Bx)) (kd id : Int) (q : Bd) (v1 v2 v3 : Int) (w5 : World) : ActGoal E wb x y kx c n k la st B M 1 id q v1 v2 v3 w5 := by
 intro HG HA HP HF;intros;rename_i hK;conv => arg 2; whnf
 have HX : Hid (∀ w',Only E wb w' → ActAt w' kx 1 id q v1 v2 v3 ∧ EtIs w') := fun w' o => ⟨HA.out.1.only o HA.out.2.1,HG.out.1.onlyD o HG.out.2⟩;have HM : Hid (∀ j,j < n → (B j).id ∈ M.map Prod.fst) := fun j hj => ((HF.out.1.map Prod.fst).mem_iff).2 (y91.2 ⟨j,hj,rfl⟩);go_upto_region 21 with fail
 cases hfx : findX B id n with
 | none =>
  have HC1 : Hid (∀ w',Pair E wb x y c n la st B M n la st B w' → Calls Tryz.prog 9 #[.pointer (some (Y x 0)),I id] w' fun e w'' => e = .returned (errV 7) ∧ Pair E wb x y c n la st B M n la st B w'') := fun w' h => (y6d h id HF.out.2.1.n60 HA.out.2.2 HM.out HF.out.2.1.rise).mono fun e w'' hh => hh.1 hfx;have HC2 : Hid (∀ w',Pair E wb x y c n la st B M n la st B w' → Calls Tryz.prog 10 #[.pointer (some (Y y 0)),I id] w' fun e w'' => e = .returned (I 7) ∧ Pair E wb x y c n la st B M n la st B w'') := fun w' h => (y64 h id HF.out.2.1.n60).mono fun e w'' hh => hh.1 hfx;have HFN : Hid (∀ w',Pair E wb x y c n la st B M n la st B w' → Duo E wb x y c (k + 1) w') := fun w' h => ⟨_,_,_,_,_,h,HF.out.1,HF.out.2.1.more⟩;clear hfx;refine wp_region_held_drew (S := (fun w' => Zc w' kx 1 id)) (by kernel_rfl) ?_ (fun hJ1 => ?_)
  ·exact (HX.out _ (HP.out.keep (Only.refl [] w5).drew).only).1.off 1
  refine tkU 0 (h:=tkU 1 (h:=tkU 2 (h:=tkV 4 ?_)));try simp only [zP]
  refine tkU 5 (h:=tkV 6 ?_);try simp only [zP]
  refine rdW 3 rfl fun K hK => ?_;simp only [zQ];go_simp
  (go_at_call 9; refine (HC1.out _ (HP.out.keep (Only.refl [] w5).drew)).mono ?_; rintro e w6 ⟨rfl,hp⟩; have H6 : Hid (Pair E wb x y c n la st B M n la st B w6) := hp; clear hp)
  try go_wp2_with fail
  refine hK.out _ _ ?_ fun hJ2 => ?_
  ·exact (HX.out _ H6.out.only).1.off 1
  clear hK K hJ1;try simp only [zP]
  refine rdW 7 rfl fun K hK => ?_;simp only [zQ];go_simp
  (go_at_call 10; refine (HC2.out _ H6.out).mono ?_; rintro e w7 ⟨rfl,hp⟩; have H7 : Hid (Pair E wb x y c n la st B M n la st B w7) := hp; clear hp)
  try go_wp2_with fail
  refine hK.out _ _ ?_ fun hJ3 => ?_
  ·exact (HX.out _ H7.out.only).1.off 1
  clear hK K hJ2;try simp only [zP]
  refine rdW 8 rfl fun K hK => ?_;simp only [zQ];go_simp
  (go_at_call 6; refine (y6w 7 w7 (HX.out _ H7.out.only).2).mono ?_; rintro e w8 ⟨rfl,k8⟩; have H8 : Hid (Pair E wb x y c n la st B M n la st B w8) := H7.out.keep (Only.of_kept k8); clear k8)
  try go_wp2_with fail
  refine hK.out _ _ ?_ fun hJ4 => ?_
  ·exact (HX.out _ H8.out.only).1.off 1
  clear hK K hJ3;try simp only [zP]
  refine tkV 9 ?_;try simp only [zP]
  refine wpAnyH_done (by kernel_rfl) ?_ _;have H9 : Hid (Duo E wb x y c (k + 1) w8) := HFN.out _ H8.out;clear hJ4;go_wp2_with fail
  exact H9.out
 | some r =>
  have HC1 : Hid (∀ w',Pair E wb x y c n la st B M n la st B w' → Calls Tryz.prog 9 #[.pointer (some (Y x 0)),I id] w' fun e w'' => e = .returned (errV 0) ∧ Pair E wb x y c (n - 1) la st (delB B r) (del M id) n la st B w'') := fun w' h => (y6d h id HF.out.2.1.n60 HA.out.2.2 HM.out HF.out.2.1.rise).mono fun e w'' hh => hh.2 r hfx;have HC2 : Hid (∀ w',Pair E wb x y c (n - 1) la st (delB B r) (del M id) n la st B w' → Calls Tryz.prog 10 #[.pointer (some (Y y 0)),I id] w' fun e w'' => e = .returned (I 0) ∧ Pair E wb x y c (n - 1) la st (delB B r) (del M id) (n - 1) la st (delB B r) w'') := fun w' h => (y64 h id HF.out.2.1.n60).mono fun e w'' hh => hh.2 r hfx;have HFN : Hid (∀ w',Pair E wb x y c (n - 1) la st (delB B r) (del M id) (n - 1) la st (delB B r) w' → Duo E wb x y c (k + 1) w') := fun w' h => ⟨_,_,_,_,_,h,by have := (y8l HF.out.2.1 HF.out.1 (y0c hfx).1).1; rw [(y0c hfx).2] at this; exact this,(y8l HF.out.2.1 HF.out.1 (y0c hfx).1).2.more⟩;clear hfx;refine wp_region_held_drew (S := (fun w' => Zc w' kx 1 id)) (by kernel_rfl) ?_ (fun hJ1 => ?_)
  ·exact (HX.out _ (HP.out.keep (Only.refl [] w5).drew).only).1.off 1
  refine tkU 0 (h:=tkU 1 (h:=tkU 2 (h:=tkV 4 ?_)));try simp only [zP]
  refine tkU 5 (h:=tkV 6 ?_);try simp only [zP]
  refine rdW 3 rfl fun K hK => ?_;simp only [zQ];go_simp
  (go_at_call 9; refine (HC1.out _ (HP.out.keep (Only.refl [] w5).drew)).mono ?_; rintro e w6 ⟨rfl,hp⟩; have H6 : Hid (Pair E wb x y c (n - 1) la st (delB B r) (del M id) n la st B w6) := hp; clear hp)
  try go_wp2_with fail
  refine hK.out _ _ ?_ fun hJ2 => ?_
  ·exact (HX.out _ H6.out.only).1.off 1
  clear hK K hJ1;try simp only [zP]
  refine rdW 7 rfl fun K hK => ?_;simp only [zQ];go_simp
  (go_at_call 10; refine (HC2.out _ H6.out).mono ?_; rintro e w7 ⟨rfl,hp⟩; have H7 : Hid (Pair E wb x y c (n - 1) la st (delB B r) (del M id) (n - 1) la st (delB B r) w7) := hp; clear hp)
  try go_wp2_with fail
  refine hK.out _ _ ?_ fun hJ3 => ?_
  ·exact (HX.out _ H7.out.only).1.off 1
  clear hK K hJ2;try simp only [zP]
  refine rdW 8 rfl fun K hK => ?_;simp only [zQ];go_simp
  (go_at_call 6; refine (y6w 0 w7 (HX.out _ H7.out.only).2).mono ?_; rintro e w8 ⟨rfl,k8⟩; have H8 : Hid (Pair E wb x y c (n - 1) la st (delB B r) (del M id) (n - 1) la st (delB B r) w8) := H7.out.keep (Only.of_kept k8); clear k8)
  try go_wp2_with fail
  refine hK.out _ _ ?_ fun hJ4 => ?_
  ·exact (HX.out _ H8.out.only).1.off 1
  clear hK K hJ3;try simp only [zP]
  refine tkV 9 ?_;try simp only [zP]
  refine wpAnyH_done (by kernel_rfl) ?_ _;have H9 : Hid (Duo E wb x y c (k + 1) w8) := HFN.out _ H8.out;clear hJ4;go_wp2_with fail
  exact H9.out
theorem act_push (E : List Nat) (wb : World) (x y kx : Nat) (c : Wc) (n k : Nat) (la st : Int) (B : Nat → Bd) (M : List (Int × Bx)) (kd id : Int) (q : Bd) (v1 v2 v3 : Int) (w5 : World) : ActGoal E wb x y kx c n k la st B M 2 id q v1 v2 v3 w5 := by
 intro HG HA HP HF;intros;rename_i hK;conv => arg 2; whnf
 have HX : Hid (∀ w',Only E wb w' → ActAt w' kx 2 id q v1 v2 v3 ∧ EtIs w') := fun w' o => ⟨HA.out.1.only o HA.out.2.1,HG.out.1.onlyD o HG.out.2⟩;have HW : Hid (∀ w',Only E wb w' → w'.cell? (Y kx 1) = some (I id) ∧ w'.cell? (Y kx 19) = some (I v1) ∧ w'.cell? (Y kx 20) = some (I v2) ∧ w'.cell? (Y kx 21) = some (I v3)) := fun w' o => ⟨(HX.out w' o).1.off 1,(HX.out w' o).1.off 19,(HX.out w' o).1.off 20,(HX.out w' o).1.off 21⟩
 have HPF : Hid (boxesB (pushX B n id v1 v2 v3) n = boxesB B n ∧ Fine la st n (pushX B n id v1 v2 v3) k) := by
  unfold pushX;split
  ·exact ⟨rfl,HF.out.2.1⟩
  ·split
   ·exact ⟨rfl,HF.out.2.1⟩
   ·exact yje HF.out.2.1 v1 v2 v3
 go_upto_region 24 with fail
 have HC1 : Hid (∀ w',Pair E wb x y c n la st B M n la st B w' → Calls Tryz.prog 11 #[.pointer (some (Y x 0)),I id,.agg #[I v1,I v2,I v3]] w' fun e w'' => e = .returned (errV (pushR B n id v1 v2 v3)) ∧ Pair E wb x y c n la st (pushX B n id v1 v2 v3) M n la st B w'') := fun w' h => ygg h id v1 v2 v3 HF.out.2.1.n60 HF.out.2.1.rise;have HC2 : Hid (∀ w',Pair E wb x y c n la st (pushX B n id v1 v2 v3) M n la st B w' → Calls Tryz.prog 12 #[.pointer (some (Y y 0)),I id,.agg #[I v1,I v2,I v3]] w' fun e w'' => e = .returned (I (pushR B n id v1 v2 v3)) ∧ Pair E wb x y c n la st (pushX B n id v1 v2 v3) M n la st (pushX B n id v1 v2 v3) w'') := fun w' h => yfj h id v1 v2 v3 HF.out.2.1.n60;generalize pushR B n id v1 v2 v3 = z at HC1 HC2;generalize pushX B n id v1 v2 v3 = B2 at HC1 HC2 HPF;refine wp_region_held_drew (S := (fun w' => Zc w' kx 1 id ∧ Zc w' kx 19 v1 ∧ Zc w' kx 20 v2 ∧ Zc w' kx 21 v3)) (by kernel_rfl) ?_ (fun hJ1 => ?_)
 ·exact HW.out _ (HP.out.keep (Only.refl [] w5).drew).only
 refine tkU 0 (h:=tkU 1 (h:=tkU 2 (h:=tkV 3 ?_)));try simp only [zP]
 refine tkU 4 (h:=tkU 6 (h:=tkU 7 (h:=tkV 8 ?_)));try simp only [zP]
 refine tkU 9 (h:=tkV 10 ?_);try simp only [zP]
 refine rdW 5 rfl fun K hK => ?_;simp only [zQ];go_simp
 (go_at_call 11; refine (HC1.out _ (HP.out.keep (Only.refl [] w5).drew)).mono ?_; rintro e w6 ⟨rfl,hp⟩; have H6 : Hid (Pair E wb x y c n la st B2 M n la st B w6) := hp; clear hp)
 try go_wp2_with fail
 refine hK.out _ _ ?_ fun hJ2 => ?_
 ·exact HW.out _ H6.out.only
 clear hK K hJ1;try simp only [zP]
 refine rdW 11 rfl fun K hK => ?_;simp only [zQ];go_simp
 (go_at_call 12; refine (HC2.out _ H6.out).mono ?_; rintro e w7 ⟨rfl,hp⟩; have H7 : Hid (Pair E wb x y c n la st B2 M n la st B2 w7) := hp; clear hp)
 try go_wp2_with fail
 refine hK.out _ _ ?_ fun hJ3 => ?_
 ·exact HW.out _ H7.out.only
 clear hK K hJ2;try simp only [zP]
 refine rdW 12 rfl fun K hK => ?_;simp only [zQ];go_simp
 (go_at_call 6; refine (y6w z w7 (HX.out _ H7.out.only).2).mono ?_; rintro e w8 ⟨rfl,k8⟩; have H8 : Hid (Pair E wb x y c n la st B2 M n la st B2 w8) := H7.out.keep (Only.of_kept k8); clear k8)
 try go_wp2_with fail
 refine hK.out _ _ ?_ fun hJ4 => ?_
 ·exact HW.out _ H8.out.only
 clear hK K hJ3;try simp only [zP]
 refine tkV 13 ?_;try simp only [zP]
 refine wpAnyH_done (by kernel_rfl) ?_ _;have H9 : Hid (Duo E wb x y c (k + 1) w8) := ⟨_,_,_,_,_,H8.out,by rw [HPF.out.1]; exact HF.out.1,HPF.out.2.more⟩;clear hJ4;go_wp2_with fail
 exact H9.out
theorem act_step (E : List Nat) (wb : World) (x y kx : Nat) (c : Wc) (n k : Nat) (la st : Int) (B : Nat → Bd) (M : List (Int × Bx)) (kd id : Int) (q : Bd) (v1 v2 v3 : Int) (w5 : World) : ActGoal E wb x y kx c n k la st B M 3 id q v1 v2 v3 w5 := by
 intro HG HA HP HF;intros;rename_i hK;conv => arg 2; whnf
 have HFS : Hid (stepW c B n M = stepT c B n (tchL B n (allP B n n)) ∧ (hangM (stepW c B n M) M n).Perm (boxesB (stepT c B n (tchL B n (allP B n n))) n) ∧ Fine la (st + 1) n (stepT c B n (tchL B n (allP B n n))) (k + 1)) := yjd HF.out.2.1 HF.out.1;have HL : Hid (0 ≤ st ∧ st ≤ 1000000) := ⟨HF.out.2.1.st0,by have := HF.out.2.1.st1; have := HF.out.2.2; omega⟩;go_wp2_with fail
 refine (yg4 HP.out HF.out.2.1.n60 HF.out.2.1.rise HF.out.2.1.ids HL.out.1 HL.out.2).mono ?_;rintro e w6 ⟨rfl,hp⟩;have H6 : Hid (Pair E wb x y c n la (st + 1) (stepT c B n (tchL B n (allP B n n))) (hangM (stepW c B n M) M n) n la st B w6) := by rw [← HFS.out.1]; exact hp
 clear hp;go_wp2_with fail
 refine (yf2 H6.out HF.out.2.1.n60 HF.out.2.1.rise HF.out.2.1.ids HF.out.2.1.sh HL.out.1 HL.out.2).mono ?_;rintro e w7 ⟨rfl,hp⟩;have H7 : Hid (Duo E wb x y c (k + 1) w7) := ⟨_,_,_,_,_,hp,HFS.out.2.1,HFS.out.2.2⟩;clear hp;go_wp2_with fail
 exact H7.out
theorem yis (E : List Nat) (wb : World) (x y kx : Nat) (c : Wc) (n k : Nat) (la st : Int) (B : Nat → Bd) (M : List (Int × Bx)) (kd id : Int) (q : Bd) (v1 v2 v3 : Int) (w5 : World) (HO : Hid (kd ≠ 0 ∧ kd ≠ 1 ∧ kd ≠ 2 ∧ kd ≠ 3 ∧ kd ≠ 4 ∧ kd ≠ 5)) : ActGoal E wb x y kx c n k la st B M kd id q v1 v2 v3 w5 := by
 intro HG HA HP HF;intros;rename_i hK;conv => arg 2; whnf
 have H9 : Hid (Duo E wb x y c (k + 1) w5) := ⟨_,_,_,_,_,HP.out,HF.out.1,HF.out.2.1.more⟩;have b0 : (kd == 0) = false := by simpa using HO.out.1
 have b1 : (kd == 1) = false := by simpa using HO.out.2.1
 have b2 : (kd == 2) = false := by simpa using HO.out.2.2.1
 have b3 : (kd == 3) = false := by simpa using HO.out.2.2.2.1
 have b4 : (kd == 4) = false := by simpa using HO.out.2.2.2.2.1
 have b5 : (kd == 5) = false := by simpa using HO.out.2.2.2.2.2
 go_wp2_with fail
 exact H9.out
theorem y9p (a0 a1 a2 a3 a4 a5 : Int) (w : World) :
  Calls Tryz.prog 17 #[.agg #[I a0,I a1,I a2,I a3,I a4,I a5]] w fun e w' => e = .returned (.agg #[I a0,I a1,I a2,I a3,I a4,I a5]) ∧ Kept w w' := by
 go_enter Tryz.func17,Tryz.ntmps17
 go_wp2
 exact bodyPost_ret (v := .agg #[I a0,I a1,I a2,I a3,I a4,I a5]) (by simp [results,Tryz.results17,go_sem]) rfl ⟨rfl,((Kept.refl _).alloc _ _).alloc _ _⟩
theorem ydg (r : Bd) (p : Bx) (v : Bool) (w : World) (h : meetX (boxB r) p = v) : Calls Tryz.prog 15 #[.agg #[I (sub r.ax r.sx),I (sub r.ay (hf r.kd r.sx r.sy)),I (sub r.az (hf r.kd r.sx r.sz)),I (add r.ax r.sx),I (add r.ay (hf r.kd r.sx r.sy)),I (add r.az (hf r.kd r.sx r.sz))],.agg #[I p.x0,I p.x1,I p.x2,I p.x3,I p.x4,I p.x5]] w fun e w' => e = .returned (.bool v) ∧ Kept w w' := by
 refine (y2i _ _ _ _ _ _ _ _ _ _ _ _ w).mono ?_;rintro e w' ⟨rfl,k⟩;exact ⟨y0i h,k⟩
def wantL (B : Nat → Bd) (p : Bx) : Nat → List Int
 | 0 => []
 | j + 1 => wantL B p j ++ (if meetX (boxB (B j)) p = true then [(B j).id] else [])
theorem y92 (B : Nat → Bd) (p : Bx) : ∀ j,(wantL B p j).length ≤ j
 | 0 => by simp [wantL]
 | j + 1 => by
  have := y92 B p j;rw [wantL,List.length_append];split <;> simp <;> omega
theorem ydw {B : Nat → Bd} {p : Bx} {i : Int} : ∀ {j : Nat},i ∈ wantL B p j ↔ ∃ k,k < j ∧ meetX (boxB (B k)) p = true ∧ i = (B k).id
 | 0 => by simp [wantL]
 | j + 1 => by
  rw [wantL,List.mem_append,ydw];constructor
  ·rintro (⟨k,hk,h1,h2⟩ | h)
   ·exact ⟨k,by omega,h1,h2⟩
   ·split at h
    ·rename_i hm
     simp only [zrc] at h;exact ⟨j,by omega,hm,h⟩
    ·simp at h
  ·rintro ⟨k,hk,h1,h2⟩
   by_cases e : k = j
   ·subst e
    right;rw [if_pos h1,h2]; simp
   ·exact Or.inl ⟨k,by omega,h1,h2⟩
theorem yan {B : Nat → Bd} {p : Bx} {n : Nat} (h : Rises B n) : ∀ {j : Nat},j ≤ n → (wantL B p j).Pairwise (fun x y => x < y)
 | 0,_ => List.Pairwise.nil
 | j + 1,hj => by
  rw [wantL,List.pairwise_append];refine ⟨yan h (by omega),by split <;> simp,fun x hx y hy => ?_⟩;obtain ⟨k,hk,_,rfl⟩ := ydw.1 hx;split at hy
  ·simp only [zrc] at hy
   subst hy;exact h _ _ (by omega) (by omega)
  ·simp at hy
theorem want_is {M : List (Int × Bx)} (h : Rises B n) (hM : M.Perm (boxesB B n)) (hx : xs.Perm (meetM M p)) (hs : xs.Pairwise (fun x y => x < y)) : xs = wantL B p n := by
 have nd : ∀ {R : List Int},R.Pairwise (fun x y => x < y) → R.Nodup := fun hR => hR.imp (fun hab e => by omega);have hw := yan (p := p) h (Nat.le_refl n)
 have pp : xs.Perm (wantL B p n) := (List.perm_ext_iff_of_nodup (nd hs) (nd hw)).2 (fun i => by
  rw [hx.mem_iff,ydw];unfold meetM;rw [List.mem_map];constructor
  ·rintro ⟨b,hb,rfl⟩
   obtain ⟨h1,h2⟩ := List.mem_filter.1 hb;obtain ⟨k,hk,e⟩ := y6m.1 (hM.mem_iff.1 h1);subst e;exact ⟨k,hk,h2,rfl⟩
  ·rintro ⟨k,hk,h1,rfl⟩
   exact ⟨((B k).id,boxB (B k)),List.mem_filter.2 ⟨hM.mem_iff.2 (y6m.2 ⟨k,hk,rfl⟩),h1⟩,rfl⟩)
 exact pp.eq_of_pairwise (fun a b _ _ h1 h2 => by omega) hs hw
theorem ints_put {w2 w3 : World} {v v' : Value} {T : TypeId} (hown : w3.ownsRow 0 3 1 v' (xs.length + 1) (xs.map (Value.int .i64) ++ [I i])) (hgrow : (w2.alloc (.cells #[I i] T)).grownBy w3 v.ownBlock)
  (hloc : v'.ownBlock = v.ownBlock ∨ v'.ownBlock = some (w2.alloc (.cells #[I i] T)).heap.size) : SlInts w3 v' (xs ++ [i]) ∧ Only (ownL v) w2 w3 ∧ (∀ b ∈ ownL v',b ∈ ownL v ∨ w2.heap.size ≤ b) := by
 refine ⟨?_,?_,?_⟩
 ·unfold SlInts; rw [List.map_append,List.length_append]; simpa using hown
 ·refine ((Only.refl _ _).alloc _).grown hgrow (fun k hk => Or.inl ?_)
  simp [ownL,hk]
 ·intro x hx
  rcases hloc with e | e
  ·left; simpa [ownL,e] using hx
  ·right
   simp only [ownL,e,Option.toList_some,zrc] at hx;simp at hx; omega
theorem act_near (E : List Nat) (wb : World) (x y kx : Nat) (c : Wc) (n k : Nat) (la st : Int) (B : Nat → Bd) (M : List (Int × Bx)) (kd id : Int) (q : Bd) (v1 v2 v3 : Int) (w5 : World) : ActGoal E wb x y kx c n k la st B M 4 id q v1 v2 v3 w5 := by
 intro HG HA HP HF;intros;rename_i hK;conv => arg 2; whnf
 have HX : Hid (∀ w',Only E wb w' → ActAt w' kx 4 id q v1 v2 v3 ∧ EtIs w') := fun w' o => ⟨HA.out.1.only o HA.out.2.1,HG.out.1.onlyD o HG.out.2⟩;have a8 := (HX.out _ HP.out.only).1.off 8; have a9 := (HX.out _ HP.out.only).1.off 9; have a10 := (HX.out _ HP.out.only).1.off 10;have a19 := (HX.out _ HP.out.only).1.off 19; have a20 := (HX.out _ HP.out.only).1.off 20; have a21 := (HX.out _ HP.out.only).1.off 21;simp only [zR] at a8 a9 a10 a19 a20 a21;go_upto_region 31 with fail
 clear a8 a9 a10 a19 a20 a21;obtain ⟨p,hp⟩ : ∃ p : Bx,p = ⟨q.ax,q.ay,q.az,v1,v2,v3⟩ := ⟨_,rfl⟩;have H6 : Hid (Pair E wb x y c n la st B M n la st B (w5.alloc (.cells #[I q.ax,I q.ay,I q.az,I v1,I v2,I v3] 57)) ∧ BoxAt (w5.alloc (.cells #[I q.ax,I q.ay,I q.az,I v1,I v2,I v3] 57)) w5.heap.size p) := ⟨HP.out.keep ((Only.refl [] w5).alloc _),by rw [hp]; exact (MapKept.heap_alloc w5 _).1⟩;clear hp;revert H6;generalize w5.heap.size = kb;generalize World.alloc w5 _ = w6;intro H6;go_wp2_with fail
 go_loopg [16,17] n (fun m sv idx wr => ∃ (v : Value) (j : Nat),v = sv ∧ idx = I (j : Int) ∧ Hid (j ≤ n ∧ m = n - j) ∧ Hid (SlInts wr v (wantL B p j) ∧ Only [] w6 wr ∧ ∀ b ∈ ownL v,w6.heap.size ≤ b))
 case atStart => exact ⟨_,0,rfl,rfl,⟨by omega,rfl⟩,World.ownsRow_nil _ _ _ _,Only.refl _ _,by simp [ownL,Value.ownBlock]⟩
 case round =>
  obtain ⟨v,j,rfl,rfl,H7,HV⟩ := hrel;obtain ⟨a',cap',hra,hba,hsa,hnc⟩ := (H6.out.1.keep HV.out.2.1).ref;have s7 := hra.off 7;simp only [zR] at s7;have hn := HF.out.2.1.n60;by_cases hj : j < n
  ·have hjl : (j : Int) < (n : Int) := by omega
   obtain ⟨g2,o2,rfl,hc⟩ := hba j hj;obtain ⟨r,hr⟩ : ∃ r,B j = r := ⟨_,rfl⟩;rw [hr] at hc;have HC : Hid (RwAt wr y c (some (Y g2 o2)) n cap' la st ∧ (∀ k,k < 17 → wr.cell? (Y g2 (o2 + j * 17 + k)) = some (bc r k)) ∧ BoxAt wr kb p) := ⟨hra,hc,HV.out.2.1.box (by simp) H6.out.2⟩;have HW1 : Hid (wantL B p (j + 1) = wantL B p j ++ (if meetX (boxB r) p = true then [r.id] else []) ∧ (wantL B p j).length ≤ 60) := ⟨by rw [wantL,hr],Nat.le_trans (y92 B p j) (by omega)⟩;have HK : Hid (∀ w',Kept wr w' → Kept wr w' ∧ w'.cell? (Y y 7) = some (.slice (some (Y g2 o2)) n cap') ∧ w'.cell? (Y g2 (o2 + j * 17 + 2)) = some (I r.kd) ∧ w'.cell? (Y g2 (o2 + j * 17 + 3)) = some (I r.sx) ∧ w'.cell? (Y g2 (o2 + j * 17 + 4)) = some (I r.sy) ∧ w'.cell? (Y g2 (o2 + j * 17 + 5)) = some (I r.sz) ∧ w'.cell? (Y g2 (o2 + j * 17 + 6)) = some (I r.ax) ∧ w'.cell? (Y g2 (o2 + j * 17 + 7)) = some (I r.ay) ∧ w'.cell? (Y g2 (o2 + j * 17 + 8)) = some (I r.az) ∧ w'.cell? (Y kb 0) = some (I p.x0) ∧ w'.cell? (Y kb 1) = some (I p.x1) ∧ w'.cell? (Y kb 2) = some (I p.x2) ∧ w'.cell? (Y kb 3) = some (I p.x3) ∧ w'.cell? (Y kb 4) = some (I p.x4) ∧ w'.cell? (Y kb 5) = some (I p.x5)) := fun w' o => ⟨o,y00 o (HC.out.1.off 7),y00 o (HC.out.2.1 2 (by omega)),y00 o (HC.out.2.1 3 (by omega)),y00 o (HC.out.2.1 4 (by omega)),y00 o (HC.out.2.1 5 (by omega)),y00 o (HC.out.2.1 6 (by omega)),y00 o (HC.out.2.1 7 (by omega)),y00 o (HC.out.2.1 8 (by omega)),y00 o (HC.out.2.2.off 0),y00 o (HC.out.2.2.off 1),y00 o (HC.out.2.2.off 2),y00 o (HC.out.2.2.off 3),y00 o (HC.out.2.2.off 4),y00 o (HC.out.2.2.off 5)⟩;clear hra hba hsa hnc hc hr;go_upto_region 35 with fail
   clear s7
   cases hmt : meetX (boxB r) p with
   | false =>
    have HE : Hid (wantL B p (j + 1) = wantL B p j) := by show _ = _; rw [HW1.out.1,hmt]; simp
    have HMT : Hid (∀ w',Calls Tryz.prog 15 #[.agg #[I (sub r.ax r.sx),I (sub r.ay (hf r.kd r.sx r.sy)),I (sub r.az (hf r.kd r.sx r.sz)),I (add r.ax r.sx),I (add r.ay (hf r.kd r.sx r.sy)),I (add r.az (hf r.kd r.sx r.sz))],.agg #[I p.x0,I p.x1,I p.x2,I p.x3,I p.x4,I p.x5]] w' fun e w'' => e = .returned (.bool false) ∧ Kept w' w'') := fun w' => ydg r p false w' hmt;clear hmt;refine wp_region_held_drew (S := (fun w' => Kept wr w' ∧ w'.cell? (Y y 7) = some (.slice (some (Y g2 o2)) n cap') ∧ Zc w' g2 (o2 + j * 17 + 2) r.kd ∧ Zc w' g2 (o2 + j * 17 + 3) r.sx ∧ Zc w' g2 (o2 + j * 17 + 4) r.sy ∧ Zc w' g2 (o2 + j * 17 + 5) r.sz ∧ Zc w' g2 (o2 + j * 17 + 6) r.ax ∧ Zc w' g2 (o2 + j * 17 + 7) r.ay ∧ Zc w' g2 (o2 + j * 17 + 8) r.az ∧ Zc w' kb 0 p.x0 ∧ Zc w' kb 1 p.x1 ∧ Zc w' kb 2 p.x2 ∧ Zc w' kb 3 p.x3 ∧ Zc w' kb 4 p.x4 ∧ Zc w' kb 5 p.x5)) (by kernel_rfl) ?_ (fun hJ1 => ?_)
    ·exact HK.out _ (Kept.refl wr).drew
    refine tkU 0 (h:=tkU 1 (h:=tkU 2 (h:=tkV 3 ?_)));try simp only [zP]
    refine tkU 4 (h:=tkU 5 (h:=tkU 6 (h:=tkV 7 ?_)));try simp only [zP]
    refine tkU 8 (h:=tkU 9 (h:=tkU 10 (h:=tkV 11 ?_)));try simp only [zP]
    refine tkU 12 (h:=tkU 13 (h:=tkU 14 (h:=tkV 15 ?_)));try simp only [zP]
    refine tkV 17 ?_;try simp only [zP]
    refine rdW 16 rfl fun K hK => ?_;simp only [zQ];go_simp
    (go_at_call 16; refine (y0p _ _ _ _ _ _ _ _).mono ?_; rintro e w7 ⟨rfl,k7⟩)
    try go_wp2_with fail
    refine hK.out _ _ ?_ fun hJ2 => ?_
    ·exact HK.out _ ((Kept.refl wr).drew.trans k7)
    clear hK K hJ1;try simp only [zP]
    refine rdW 18 rfl fun K hK => ?_;simp only [zQ];go_simp
    (go_at_call 17; refine (y9p _ _ _ _ _ _ _).mono ?_; rintro e w8 ⟨rfl,k8⟩)
    try go_wp2_with fail
    refine hK.out _ _ ?_ fun hJ3 => ?_
    ·exact HK.out _ (((Kept.refl wr).drew.trans k7).trans k8)
    clear hK K hJ2;try simp only [zP]
    refine rdW 19 rfl fun K hK => ?_;simp only [zQ];go_simp
    (go_at_call 15; refine (HMT.out _).mono ?_; rintro e w9 ⟨rfl,k9⟩)
    try go_wp2_with fail
    refine hK.out _ _ ?_ fun hJ4 => ?_
    ·exact HK.out _ ((((Kept.refl wr).drew.trans k7).trans k8).trans k9)
    clear hK K hJ3;try simp only [zP]
    refine wpAnyH_done (by kernel_rfl) ?_ _;have HK9 : Hid (Only [] wr w9) := Only.of_kept ((((Kept.refl wr).drew.trans k7).trans k8).trans k9);clear hJ4 k7 k8 k9;go_wp2_with fail
    go_roundg (n - (j + 1))
    case measure => have := H7.out.2; omega
    case rel => exact ⟨v,j + 1,rfl,by go_num,⟨by omega,rfl⟩,by rw [HE.out]; exact ⟨HV.out.1.kept HK9.out (by simp),HV.out.2.1.trans HK9.out,HV.out.2.2⟩⟩
   | true =>
    have HE : Hid (wantL B p (j + 1) = wantL B p j ++ [r.id]) := by show _ = _; rw [HW1.out.1,hmt]; simp
    have HMT : Hid (∀ w',Calls Tryz.prog 15 #[.agg #[I (sub r.ax r.sx),I (sub r.ay (hf r.kd r.sx r.sy)),I (sub r.az (hf r.kd r.sx r.sz)),I (add r.ax r.sx),I (add r.ay (hf r.kd r.sx r.sy)),I (add r.az (hf r.kd r.sx r.sz))],.agg #[I p.x0,I p.x1,I p.x2,I p.x3,I p.x4,I p.x5]] w' fun e w'' => e = .returned (.bool true) ∧ Kept w' w'') := fun w' => ydg r p true w' hmt;clear hmt;refine wp_region_held_drew (S := (fun w' => Kept wr w' ∧ w'.cell? (Y y 7) = some (.slice (some (Y g2 o2)) n cap') ∧ Zc w' g2 (o2 + j * 17 + 2) r.kd ∧ Zc w' g2 (o2 + j * 17 + 3) r.sx ∧ Zc w' g2 (o2 + j * 17 + 4) r.sy ∧ Zc w' g2 (o2 + j * 17 + 5) r.sz ∧ Zc w' g2 (o2 + j * 17 + 6) r.ax ∧ Zc w' g2 (o2 + j * 17 + 7) r.ay ∧ Zc w' g2 (o2 + j * 17 + 8) r.az ∧ Zc w' kb 0 p.x0 ∧ Zc w' kb 1 p.x1 ∧ Zc w' kb 2 p.x2 ∧ Zc w' kb 3 p.x3 ∧ Zc w' kb 4 p.x4 ∧ Zc w' kb 5 p.x5)) (by kernel_rfl) ?_ (fun hJ1 => ?_)
    ·exact HK.out _ (Kept.refl wr).drew
    refine tkU 0 (h:=tkU 1 (h:=tkU 2 (h:=tkV 3 ?_)));try simp only [zP]
    refine tkU 4 (h:=tkU 5 (h:=tkU 6 (h:=tkV 7 ?_)));try simp only [zP]
    refine tkU 8 (h:=tkU 9 (h:=tkU 10 (h:=tkV 11 ?_)));try simp only [zP]
    refine tkU 12 (h:=tkU 13 (h:=tkU 14 (h:=tkV 15 ?_)));try simp only [zP]
    refine tkV 17 ?_;try simp only [zP]
    refine rdW 16 rfl fun K hK => ?_;simp only [zQ];go_simp
    (go_at_call 16; refine (y0p _ _ _ _ _ _ _ _).mono ?_; rintro e w7 ⟨rfl,k7⟩)
    try go_wp2_with fail
    refine hK.out _ _ ?_ fun hJ2 => ?_
    ·exact HK.out _ ((Kept.refl wr).drew.trans k7)
    clear hK K hJ1;try simp only [zP]
    refine rdW 18 rfl fun K hK => ?_;simp only [zQ];go_simp
    (go_at_call 17; refine (y9p _ _ _ _ _ _ _).mono ?_; rintro e w8 ⟨rfl,k8⟩)
    try go_wp2_with fail
    refine hK.out _ _ ?_ fun hJ3 => ?_
    ·exact HK.out _ (((Kept.refl wr).drew.trans k7).trans k8)
    clear hK K hJ2;try simp only [zP]
    refine rdW 19 rfl fun K hK => ?_;simp only [zQ];go_simp
    (go_at_call 15; refine (HMT.out _).mono ?_; rintro e w9 ⟨rfl,k9⟩)
    try go_wp2_with fail
    refine hK.out _ _ ?_ fun hJ4 => ?_
    ·exact HK.out _ ((((Kept.refl wr).drew.trans k7).trans k8).trans k9)
    clear hK K hJ3;try simp only [zP]
    refine wpAnyH_done (by kernel_rfl) ?_ _;have HK9 : Hid (Only [] wr w9) := Only.of_kept ((((Kept.refl wr).drew.trans k7).trans k8).trans k9);have c0 := y00 ((((Kept.refl wr).drew.trans k7).trans k8).trans k9) (HC.out.2.1 0 (by omega));have s7 := y00 ((((Kept.refl wr).drew.trans k7).trans k8).trans k9) (HC.out.1.off 7);simp only [bc,Nat.add_zero] at c0;clear hJ4 k7 k8 k9;have hsl : SlInts w9 v (wantL B p j) := HV.out.1.kept HK9.out (by simp);unfold SlInts at hsl;have hml := HW1.out.2;obtain ⟨i0,hi0,hz0,hz1,hz2⟩ := y0k intInfo;go_wp2_with (first | (at_builtin; refine wpList_append_own_at _ rfl _ _ 58 rfl 0 3 i0 (I 0) 1 8 Tryz.underlying58 hi0 hz0 hz1 hz2 rfl (by decide) v _ _ rfl (World.ownsRow.alloc hsl _) (Y w9.heap.size 0) 1 1 [I r.id] rfl rfl (cell_one_new _ _ _) (by simp [Value.oneCell']) (by unfold maxLen; omega) (by omega) (by simp) ?_; intro v' wa hown hgrow hnil hloc; have HA2 : Hid (_ ∧ _ ∧ _) := ints_put hown hgrow hloc; clear hown hgrow hnil hloc hsl))
    go_roundg (n - (j + 1))
    case measure => have := H7.out.2; omega
    case rel =>
     refine ⟨v',j + 1,rfl,by go_num,⟨by omega,rfl⟩,?_⟩;rw [HE.out];obtain ⟨h1,h2,h3⟩ := HA2.out
     exact ⟨h1,(HV.out.2.1.trans HK9.out).then h2 (fun b hb => Or.inr (HV.out.2.2 b hb)),fun b hb => by
      rcases h3 b hb with e | e
      ·exact HV.out.2.2 b e
      ·exact Nat.le_trans (HV.out.2.1.trans HK9.out).size e⟩
  ·have hjl : ¬ (j : Int) < (n : Int) := by omega
   obtain rfl : j = n := by have := H7.out.1; omega
   have HR : Hid (Pair E wb x y c j la st B M j la st B wr ∧ BoxAt wr kb p) := ⟨H6.out.1.keep HV.out.2.1,HV.out.2.1.box (by simp) H6.out.2⟩;clear hra hba hsa hnc;have b0 := HR.out.2.off 0; have b1 := HR.out.2.off 1; have b2 := HR.out.2.off 2; have b3 := HR.out.2.off 3; have b4 := HR.out.2.off 4; have b5 := HR.out.2.off 5;simp only [zR] at b0 b1 b2 b3 b4 b5;go_wp2_with fail
   clear s7;refine (yg0 HR.out.1 p).mono ?_;rintro e w9 ⟨v2,xs,rfl,hs2,hp2,hs3,o9,hn9⟩;clear b0 b1 b2 b3 b4 b5;have hxs : xs = wantL B p j := want_is HF.out.2.1.rise HF.out.1 hp2 hs3;subst hxs;obtain ⟨a1,c1,rfl,hi1⟩ := (HV.out.1.kept o9 (by simp)).shape;obtain ⟨a2,c2,rfl,hi2⟩ := hs2.shape;have HI : Hid (IntsAt w9 a1 (wantL B p j) ∧ IntsAt w9 a2 (wantL B p j) ∧ (wantL B p j).length ≤ 60) := ⟨hi1,hi2,Nat.le_trans (y92 B p j) hn⟩;have H9 : Hid (Pair E wb x y c j la st B M j la st B w9) := HR.out.1.keep o9;clear hi1 hi2 hs2 hp2 hs3 o9 hn9;go_wp2_with fail
   refine (y9h a2 a1 c2 c1 (wantL B p j) _ w9 rfl (by have := HI.out.2.2; omega) HI.out.2.1 HI.out.1).mono ?_;rintro e w10 ⟨rfl,o10⟩;have HZ : Hid (Duo E wb x y c (k + 1) w10) := ⟨_,_,_,_,_,H9.out.keep o10,HF.out.1,HF.out.2.1.more⟩;clear o10;go_wp2_with fail
   exact HZ.out
theorem ygi (E : List Nat) (wb : World) (x y kx : Nat) (c : Wc) (n k : Nat) (la st : Int) (B : Nat → Bd) (M : List (Int × Bx)) (kd id : Int) (q : Bd) (v1 v2 v3 : Int) (w5 : World) : ActGoal E wb x y kx c n k la st B M 5 id q v1 v2 v3 w5 := by
 intro HG HA HP HF;intros;rename_i hK;conv => arg 2; whnf
 have HL : Hid ((∀ t ∈ tchL B n (allP B n n),In64S t.a ∧ In64S t.b) ∧ (tchL B n (allP B n n)).length ≤ 3600) := ⟨yfh HF.out.2.1.ids,Nat.le_trans (y4w B n _) (Nat.le_trans (y7r B n n) (Nat.mul_le_mul HF.out.2.1.n60 HF.out.2.1.n60))⟩;go_wp2_with fail
 refine (y9g HP.out HF.out.2.1.n60 HF.out.2.1.rise HF.out.1).mono ?_;rintro e w6 ⟨v,rfl,hT⟩;have H6 : Hid (Pair E wb x y c n la st B M n la st B w6 ∧ TW w5 v (tchL B n (allP B n n)) w6) := ⟨HP.out.keep hT.only,hT⟩;clear hT;go_wp2_with fail
 refine (y9e H6.out.1 HF.out.2.1.n60 HF.out.2.1.rise HF.out.2.1.sh).mono ?_;rintro e w7 ⟨v',rfl,hT⟩;generalize tchL B n (allP B n n) = ts at H6 hT HL;obtain ⟨a1,d1,rfl,ht1,_⟩ := (H6.out.2.sl.only hT.only (by simp)).touches HL.out.1;obtain ⟨a2,d2,rfl,ht2,_⟩ := hT.sl.touches HL.out.1;have H7 : Hid (Pair E wb x y c n la st B M n la st B w7 ∧ TouchesAt w7 a1 ts.length (fun j => ts.getD j tc0) ∧ TouchesAt w7 a2 ts.length (fun j => ts.getD j tc0)) := ⟨H6.out.1.keep hT.only,ht1,ht2⟩;clear ht1 ht2 hT H6;obtain ⟨m,hm⟩ : ∃ m,m = ts.length := ⟨_,rfl⟩;rw [← hm] at H7 HL ⊢;clear hm;go_wp2_with fail
 go_loopg [20] m (fun g idx wr => ∃ j : Nat,idx = I (j : Int) ∧ Hid (j ≤ m ∧ g = m - j) ∧ Hid (Only [] w7 wr))
 case atStart => exact ⟨0,rfl,⟨by omega,rfl⟩,Only.refl _ _⟩
 case round =>
  obtain ⟨j,rfl,H8,HO⟩ := hrel;have hm36 := HL.out.2;by_cases hj : j < m
  ·have hjl : (j : Int) < (m : Int) := by omega
   obtain ⟨_,_,g1,o1,rfl,s0,s1,s2,s3,s4,s5⟩ := (H7.out.2.1.only HO.out) j hj;obtain ⟨_,_,g2,o2,rfl,t0,t1,t2,t3,t4,t5⟩ := (H7.out.2.2.only HO.out) j hj;generalize (fun j => ts.getD j tc0) j = tt at s0 s1 s2 s3 s4 s5 t0 t1 t2 t3 t4 t5;go_upto_region 46 with fail
   go_quiet (fail)
   go_wp2_with fail
   go_roundg (m - (j + 1))
   case measure => have := H8.out.2; omega
   case rel => exact ⟨j + 1,by go_num,⟨by omega,rfl⟩,HO.out.trans (Only.drewN _ _)⟩
  ·have hjl : ¬ (j : Int) < (m : Int) := by omega
   have HZ : Hid (Duo E wb x y c (k + 1) wr) := ⟨_,_,_,_,_,H7.out.1.keep HO.out,HF.out.1,HF.out.2.1.more⟩;go_wp2_with fail
   exact HZ.out
end Go.Proofs.YtbenlgandjjopaaGreatDoor
