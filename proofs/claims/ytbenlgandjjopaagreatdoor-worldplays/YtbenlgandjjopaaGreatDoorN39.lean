/- . -/
import Derived.Test.YtbenlgandjjopaaGreatDoorN38
import Derived.Lib.SmallJoins
import Derived.Deep.Slices
open Go.Value renaming int → J
open Go.IntKind renaming i64 → U
open List renaming mem_cons → zrd
namespace Go.Proofs.YtbenlgandjjopaaGreatDoor
set_option maxRecDepth 1000000
set_option maxHeartbeats 40000000
open Go.ChangeShapes Go.WideShapes Go.ChangeAt Go.RowKit
set_option linter.unusedVariables false
set_option linter.unusedSimpArgs false
variable {w : World}
theorem yja (E : List Nat) (wb : World) (x y kx : Nat) (c : Wc) (n k : Nat) (la st : Int) (B : Nat → Bd) (M : List (Int × Bx)) (kd id : Int) (q : Bd) (v1 v2 v3 : Int) (w5 : World) : ActGoal E wb x y kx c n k la st B M kd id q v1 v2 v3 w5 := by
 by_cases k0 : kd = 0
 ·subst k0
  exact yj1 E wb x y kx c n k la st B M 0 id q v1 v2 v3 w5
 by_cases k1 : kd = 1
 ·subst k1
  exact yik E wb x y kx c n k la st B M 1 id q v1 v2 v3 w5
 by_cases k2 : kd = 2
 ·subst k2
  exact act_push E wb x y kx c n k la st B M 2 id q v1 v2 v3 w5
 by_cases k3 : kd = 3
 ·subst k3
  exact act_step E wb x y kx c n k la st B M 3 id q v1 v2 v3 w5
 by_cases k4 : kd = 4
 ·subst k4
  exact act_near E wb x y kx c n k la st B M 4 id q v1 v2 v3 w5
 by_cases k5 : kd = 5
 ·subst k5
  exact ygi E wb x y kx c n k la st B M 5 id q v1 v2 v3 w5
 exact yis E wb x y kx c n k la st B M kd id q v1 v2 v3 w5 ⟨k0,k1,k2,k3,k4,k5⟩
structure Ac where
 (kd id : Int) (q : Bd) (v1 v2 v3 : Int)
def acL (a : Ac) : List Value := [J U a.kd,J U a.id,J U a.q.id,J U a.q.ow,J U a.q.kd,J U a.q.sx,J U a.q.sy,J U a.q.sz,J U a.q.ax,J U a.q.ay,J U a.q.az,J U a.q.vx,J U a.q.vy,J U a.q.vz,J U a.q.px,J U a.q.py,J U a.q.pz,J U a.q.ms,J U a.q.tm,J U a.v1,J U a.v2,J U a.v3]
def ActsAt (w : World) (a : Option Addr) (n : Nat) (L : Nat → Ac) : Prop := ∀ j,j < n → In64 (L j).id ∧ ∃ g o,a = some ⟨g,o,none⟩ ∧ w.rangeAt g (o + j * 22) (acL (L j))
theorem ye8 {w' : World} {g o : Nat} {vs : List Value} (h : w.rangeAt g o vs) (k : Only [] w w') : w'.rangeAt g o vs := fun j v hv => y09 k (h j v hv)
theorem actSize : (Tryz.prog.info? 47).map (·.size) = some 22 := by kernel_rfl
theorem ygy (w : World) (t : TypeId) : ∀ (cs zs pre : List Value),zs.length = cs.length → (w.alloc (.cells (pre ++ zs).toArray t)).setCells w.heap.size pre.length cs = w.alloc (.cells (pre ++ cs).toArray t)
 | [],zs,pre,h => by simp [List.length_eq_zero_iff.1 h,World.setCells]
 | c :: cs,[],pre,h => by simp at h
 | c :: cs,z :: zs,pre,h => by
  rw [World.setCells,World.setCell_alloc_new];have e : (pre ++ z :: zs).toArray.setIfInBounds pre.length c = ((pre ++ [c]) ++ zs).toArray := by simp
  rw [e];have := ygy w t cs zs (pre ++ [c]) (by simpa using h);simpa using this
theorem fill_act (w : World) (t : TypeId) (cs : List Value) (zs : Array Value) (h : zs.size = cs.length) : (w.alloc (.cells zs t)).setCells w.heap.size 0 cs = w.alloc (.cells cs.toArray t) := by
 have := ygy w t cs zs.toList [] (by simpa using h);simpa using this
theorem thereNew (w : World) (t : TypeId) (zs : Array Value) (n : Nat) (hs : zs.size = n) : (w.alloc (.cells zs t)).there w.heap.size 0 n := fun j hj => by
 have h1 : j < zs.size := by omega
 rw [World.cell?_alloc_at _ _ _ _ rfl,World.frozen?_alloc_at _ _ _ _ rfl];simp [h1]
theorem oneAct (kd id : Int) (q : Bd) (v1 v2 v3 : Int) : (#[I kd,I id,I q.id,I q.ow,I q.kd,I q.sx,I q.sy,I q.sz,I q.ax,I q.ay,I q.az,I q.vx,I q.vy,I q.vz,I q.px,I q.py,I q.pz,I q.ms,I q.tm,I v1,I v2,I v3] : Array Value).all (·.oneCell') = true := all_oneCell_toArray (cs := [I kd,I id,I q.id,I q.ow,I q.kd,I q.sx,I q.sy,I q.sz,I q.ax,I q.ay,I q.az,I q.vx,I q.vy,I q.vz,I q.px,I q.py,I q.pz,I q.ms,I q.tm,I v1,I v2,I v3]) (fun v hv => by
 simp only [zrd,List.not_mem_nil,or_false] at hv
 rcases hv with rfl | rfl | rfl | rfl | rfl | rfl | rfl | rfl | rfl | rfl | rfl | rfl | rfl | rfl | rfl | rfl | rfl | rfl | rfl | rfl | rfl | rfl <;> rfl)
def zeroAct : Array Value := #[J U 0,J U 0,J U 0,J U 0,J U 0,J U 0,J U 0,J U 0,J U 0,J U 0,J U 0,J U 0,J U 0,J U 0,J U 0,J U 0,J U 0,J U 0,J U 0,J U 0,J U 0,J U 0]
theorem yi5 (ρ : Operand → Value) (o : Oper) (w : World) (h : o.op = .alloc 47) : (execOp ρ o).run Tryz.prog w = .ok (.value (.pointer (some (Y w.heap.size 0)))) (w.alloc (.cells zeroAct 47)) := by
 unfold execOp;rw [h];go_simp;rfl
theorem yba {ops : Array Oper} {rest : List Oper} {o1 o2 : Oper} {a : Act} {Q : Exit → Act → World → Prop} (kd id : Int) (q : Bd) (v1 v2 v3 : Int) (g1 : o1.guard = none) (g2 : o2.guard = none) (h1 : o1.op = .alloc 47) (d1 : o1.dst = some 10) (h2 : o2.op = .store 47 (.tmp 10) (.tmp 75)) (d2 : o2.dst = none)
  (hx : ∀ v,(a.put (some 10) v).eval (.tmp 10) = v) (hy : ∀ v,(a.put (some 10) v).eval (.tmp 75) = .agg #[I kd,I id,I q.id,I q.ow,I q.kd,I q.sx,I q.sy,I q.sz,I q.ax,I q.ay,I q.az,I q.vx,I q.vy,I q.vz,I q.px,I q.py,I q.pz,I q.ms,I q.tm,I v1,I v2,I v3])
  (h : wpList Tryz.prog ops Q rest (a.put (some 10) (.pointer (some (Y w.heap.size 0)))) (w.alloc (.cells #[I kd,I id,I q.id,I q.ow,I q.kd,I q.sx,I q.sy,I q.sz,I q.ax,I q.ay,I q.az,I q.vx,I q.vy,I q.vz,I q.px,I q.py,I q.pz,I q.ms,I q.tm,I v1,I v2,I v3] 47))) : wpList Tryz.prog ops Q (o1 :: o2 :: rest) a w := by
 refine wpList_plain g1 fun K hK => ?_;unfold Oper.wp;rw [yi5 _ _ _ h1,Oper.upon_value,d1];refine hK _ _ ?_;refine wpList_store_mid g2 47 (.tmp 10) (.tmp 75) h2 w.heap.size 0 #[I kd,I id,I q.id,I q.ow,I q.kd,I q.sx,I q.sy,I q.sz,I q.ax,I q.ay,I q.az,I q.vx,I q.vy,I q.vz,I q.px,I q.py,I q.pz,I q.ms,I q.tm,I v1,I v2,I v3] (hx _) (hy _) (thereNew w _ _ 22 rfl) actSize (oneAct kd id q v1 v2 v3) ?_;rw [d2,fill_act w 47 [I kd,I id,I q.id,I q.ow,I q.kd,I q.sx,I q.sy,I q.sz,I q.ax,I q.ay,I q.az,I q.vx,I q.vy,I q.vz,I q.px,I q.py,I q.pz,I q.ms,I q.tm,I v1,I v2,I v3] zeroAct rfl];exact h
def codeR (f : Func) : Code := ((f.body.bind (blockOf 1)).getD .skip)
theorem yi0 (a : Option Addr) (n cap i x y : Nat) (L : Nat → Ac) (c : Wc) (w wr : World) (c0 c2 c3 c4 c6 c8 c10 c11 c12 c13 c14 c15 c16 c17 c18 c19 c20 c21 c22 c23 c24 c25 c26 c27 c28 c29 c30 c31 c32 c33 c34 c35 c36 c37 c38 c39 c40 c41 c42 c43 c44 c45 c46 c47 c48 c49 c50 c51 c52 c53 c54 c55 c56 c57 c58 c59 c60 c61 c62 c63 c64 c65 c66 c67 c68 c69 c70 c71 c72 c73 c74 c75 c76 c77 c78 c79 c80 c81 c82 c83 c84 c85 c86 c87 c88 c89 c90 c91 c92 c93 c94 c95 c96 c97 c98 c99 c100 c101 c102 c103 c104 c105 c106 c107 c108 c109 c110 c111 c112 c113 c114 c115 c116 c117 c118 c119 c120 c121 c122 c123 c124 c125 c126 c127 c128 c129 c130 c131 c132 c133 c134 c135 c136 c137 c138 c139 c140 c141 c142 c143 c144 c145 c146 c147 c148 c149 c150 c151 c152 c153 c154 c155 c156 c157 c158 c159 c160 c161 c162 c163 c164 c165 c166 c167 c168 c169 c170 c171 c172 c173 c174 c175 c176 c177 c178 c179 c180 c181 c182 c183 c184 c185 c186 c187 c188 c189 c190 c191 c192 c193 c194 c195 c196 c197 c198 c199 c200 c201 c202 c203 c204 c205 c206 c207 c208 c209 c210 c211 c212 c213 c214 c215 c216 c217 c218 c219 c220 c221 c222 c223 c224 c225 c226 c227 c228 c229 c230 c231 c232 c233 c234 c235 c236 c237 c238 c239 c240 c241 c242 c243 c244 c245 c246 c247 c248 c249 c250 c251 c252 c253 c254 c255 c256 c257 c258 c259 c260 c261 c262 c263 c264 : Value) (K1 K2 K3 : Act → World → Prop) (Pf : Ending → World → Prop)
  (HG : Hid (EtIs w ∧ newW c = 0 ∧ ActsAt w a n L ∧ n ≤ 80)) (hi : i < n) (HD : Hid (Duo [] w x y c i wr))
  (hK : ∀ (u4 u10 u11 u12 u13 u14 u15 u16 u17 u18 u19 u20 u21 u22 u23 u24 u72 u73 u74 u75 u76 u77 u78 u79 u80 u81 u82 u83 u84 u85 u86 u87 u88 u89 u90 u91 u92 u93 u94 u95 u96 u97 u98 u99 u100 u101 u102 u103 u104 u105 u106 u107 u108 u109 u110 u111 u112 u113 u114 u115 u116 u117 u118 u119 u120 u121 u122 u123 u124 u125 u126 u127 u128 u129 u130 u131 u132 u133 u134 u135 u136 u137 u138 u139 u140 u141 u142 u143 u144 u145 u146 u147 u148 u149 u150 u151 u152 u153 u154 u155 u156 u157 u158 u159 u160 u161 u162 u163 u164 u165 u166 u167 u168 u169 u170 u171 u172 u173 u174 u175 u176 u177 u178 u179 u180 u181 u182 u183 u184 u185 u186 u187 u188 u189 u190 u191 u192 u193 u194 u195 u196 u197 u198 u199 u200 u201 u202 u203 u204 u205 u206 u207 u208 u209 u210 u211 u212 u213 u214 u215 u216 u217 u218 u219 u220 u221 u222 u223 u224 u225 u226 u227 u228 u229 u230 u231 u232 u233 u234 u235 u236 u237 u238 u239 u240 u241 u242 u243 u244 u245 u246 u247 u248 u249 u250 u251 u252 u253 u254 u255 u256 u257 u258 u259 u260 u261 u262 u263 u264 : Value) (wc : World),Duo [] w x y c (i + 1) wc → K1 ⟨#[c0,.slice a n cap,c2,c3,u4,.pointer (some (Y x 0)),c6,.pointer (some (Y y 0)),c8,I ((i : Int)),u10,u11,u12,u13,u14,u15,u16,u17,u18,u19,u20,u21,u22,u23,u24,c25,c26,c27,c28,c29,c30,c31,c32,c33,c34,c35,c36,c37,c38,c39,c40,c41,c42,c43,c44,c45,c46,c47,c48,c49,c50,c51,c52,c53,c54,c55,c56,c57,c58,c59,c60,c61,c62,c63,c64,c65,c66,c67,c68,c69,c70,c71,u72,u73,u74,u75,u76,u77,u78,u79,u80,u81,u82,u83,u84,u85,u86,u87,u88,u89,u90,u91,u92,u93,u94,u95,u96,u97,u98,u99,u100,u101,u102,u103,u104,u105,u106,u107,u108,u109,u110,u111,u112,u113,u114,u115,u116,u117,u118,u119,u120,u121,u122,u123,u124,u125,u126,u127,u128,u129,u130,u131,u132,u133,u134,u135,u136,u137,u138,u139,u140,u141,u142,u143,u144,u145,u146,u147,u148,u149,u150,u151,u152,u153,u154,u155,u156,u157,u158,u159,u160,u161,u162,u163,u164,u165,u166,u167,u168,u169,u170,u171,u172,u173,u174,u175,u176,u177,u178,u179,u180,u181,u182,u183,u184,u185,u186,u187,u188,u189,u190,u191,u192,u193,u194,u195,u196,u197,u198,u199,u200,u201,u202,u203,u204,u205,u206,u207,u208,u209,u210,u211,u212,u213,u214,u215,u216,u217,u218,u219,u220,u221,u222,u223,u224,u225,u226,u227,u228,u229,u230,u231,u232,u233,u234,u235,u236,u237,u238,u239,u240,u241,u242,u243,u244,u245,u246,u247,u248,u249,u250,u251,u252,u253,u254,u255,u256,u257,u258,u259,u260,u261,u262,u263,u264],[]⟩ wc) :
  Code.wp Tryz.prog (codeR Tryz.f3) (Exit.then K1 (Exit.then K2 (Exit.inBlock 0 (Exit.then K3 (bodyPost Tryz.prog Tryz.f3 Pf))))) ⟨#[c0,.slice a n cap,c2,c3,c4,.pointer (some (Y x 0)),c6,.pointer (some (Y y 0)),c8,I ((i : Int)),c10,c11,c12,c13,c14,c15,c16,c17,c18,c19,c20,c21,c22,c23,c24,c25,c26,c27,c28,c29,c30,c31,c32,c33,c34,c35,c36,c37,c38,c39,c40,c41,c42,c43,c44,c45,c46,c47,c48,c49,c50,c51,c52,c53,c54,c55,c56,c57,c58,c59,c60,c61,c62,c63,c64,c65,c66,c67,c68,c69,c70,c71,c72,c73,c74,c75,c76,c77,c78,c79,c80,c81,c82,c83,c84,c85,c86,c87,c88,c89,c90,c91,c92,c93,c94,c95,c96,c97,c98,c99,c100,c101,c102,c103,c104,c105,c106,c107,c108,c109,c110,c111,c112,c113,c114,c115,c116,c117,c118,c119,c120,c121,c122,c123,c124,c125,c126,c127,c128,c129,c130,c131,c132,c133,c134,c135,c136,c137,c138,c139,c140,c141,c142,c143,c144,c145,c146,c147,c148,c149,c150,c151,c152,c153,c154,c155,c156,c157,c158,c159,c160,c161,c162,c163,c164,c165,c166,c167,c168,c169,c170,c171,c172,c173,c174,c175,c176,c177,c178,c179,c180,c181,c182,c183,c184,c185,c186,c187,c188,c189,c190,c191,c192,c193,c194,c195,c196,c197,c198,c199,c200,c201,c202,c203,c204,c205,c206,c207,c208,c209,c210,c211,c212,c213,c214,c215,c216,c217,c218,c219,c220,c221,c222,c223,c224,c225,c226,c227,c228,c229,c230,c231,c232,c233,c234,c235,c236,c237,c238,c239,c240,c241,c242,c243,c244,c245,c246,c247,c248,c249,c250,c251,c252,c253,c254,c255,c256,c257,c258,c259,c260,c261,c262,c263,c264],[]⟩ wr := by
 conv => arg 2; whnf
 have hn := HG.out.2.2.2;have hil : (i : Int) < (n : Int) := by omega
 obtain ⟨n2,la,st,B,M,hp,hperm,hf⟩ := HD.out.ex;obtain ⟨hid,ga,oa,rfl,hra⟩ := HG.out.2.2.1 i hi;have hra := ye8 hra hp.only;obtain ⟨kd,id,q,v1,v2,v3,hL⟩ : ∃ kd id q v1 v2 v3,L i = ⟨kd,id,q,v1,v2,v3⟩ := ⟨_,_,_,_,_,_,rfl⟩;rw [hL] at hra hid;obtain ⟨E,hpE,hE,hkx⟩ := hp.round (.cells #[I kd,I id,I q.id,I q.ow,I q.kd,I q.sx,I q.sy,I q.sz,I q.ax,I q.ay,I q.az,I q.vx,I q.vy,I q.vz,I q.px,I q.py,I q.pz,I q.ms,I q.tm,I v1,I v2,I v3] 47);have H5 : Hid (Pair E (wr.alloc (.cells #[I kd,I id,I q.id,I q.ow,I q.kd,I q.sx,I q.sy,I q.sz,I q.ax,I q.ay,I q.az,I q.vx,I q.vy,I q.vz,I q.px,I q.py,I q.pz,I q.ms,I q.tm,I v1,I v2,I v3] 47)) x y c n2 la st B M n2 la st B (wr.alloc (.cells #[I kd,I id,I q.id,I q.ow,I q.kd,I q.sx,I q.sy,I q.sz,I q.ax,I q.ay,I q.az,I q.vx,I q.vy,I q.vz,I q.px,I q.py,I q.pz,I q.ms,I q.tm,I v1,I v2,I v3] 47)) ∧ ActAt (wr.alloc (.cells #[I kd,I id,I q.id,I q.ow,I q.kd,I q.sx,I q.sy,I q.sz,I q.ax,I q.ay,I q.az,I q.vx,I q.vy,I q.vz,I q.px,I q.py,I q.pz,I q.ms,I q.tm,I v1,I v2,I v3] 47)) wr.heap.size kd id q v1 v2 v3 ∧ wr.heap.size ∉ E ∧ Only [] w (wr.alloc (.cells #[I kd,I id,I q.id,I q.ow,I q.kd,I q.sx,I q.sy,I q.sz,I q.ax,I q.ay,I q.az,I q.vx,I q.vy,I q.vz,I q.px,I q.py,I q.pz,I q.ms,I q.tm,I v1,I v2,I v3] 47))) := ⟨hpE,(MapKept.heap_alloc wr _).1,hkx,hp.only.alloc _⟩
 have HE : Hid ((∀ b ∈ E,b ∈ ([] : List Nat) ∨ w.heap.size ≤ b) ∧ 0 ∉ E) := ⟨hE,fun h0 => by
  have h1 := World.block_lt_of_cell? _ _ HG.out.1;rcases hE 0 h0 with q | q
  ·simp at q
  ·simp at h1; omega⟩
 have HF2 : Hid (M.Perm (boxesB B n2) ∧ Fine la st n2 B i ∧ i ≤ 100) := ⟨hperm,hf,by omega⟩;have HID : Hid (In64 id) := hid;clear hp hperm hf hid hL hpE hE hkx HD;go_upto_region 14 with (first | (refine wpList_load_mid rfl 47 (.tmp 74) rfl ga (oa + i * 22) rfl [I kd,I id,I q.id,I q.ow,I q.kd,I q.sx,I q.sy,I q.sz,I q.ax,I q.ay,I q.az,I q.vx,I q.vy,I q.vz,I q.px,I q.py,I q.pz,I q.ms,I q.tm,I v1,I v2,I v3] _ hra Tryz.underlying47 rfl actSize ?_) | (refine yba kd id q v1 v2 v3 rfl rfl rfl rfl rfl rfl (fun _ => rfl) (fun _ => rfl) ?_))
 clear hra;revert H5;generalize wr.heap.size = kx;generalize World.alloc wr _ = wb;intro H5;have HG2 : Hid (EtIs wb ∧ 0 ∉ E) := ⟨HG.out.1.onlyD H5.out.2.2.2 (by simp),HE.out.2⟩;have HA : Hid (ActAt wb kx kd id q v1 v2 v3 ∧ kx ∉ E ∧ In64 id) := ⟨H5.out.2.1,H5.out.2.2.1,HID.out⟩;have HP2 : Hid (Pair E wb x y c n2 la st B M n2 la st B wb) := H5.out.1;have a0 := HA.out.1.off 0;simp only [zR] at a0;go_upto_block 2 with fail
 clear a0;refine yja E wb x y kx c n2 i la st B M kd id q v1 v2 v3 wb HG2 HA HP2 HF2 _ _ _ _ _ _ _ _ _ _ _ _ _ _ _ _ _ _ _ _ _ _ _ _ _ _ _ _ _ _ _ _ _ _ _ _ _ _ _ _ _ _ _ _ _ _ _ _ _ _ _ _ _ _ _ _ _ _ _ _ _ _ _ _ _ _ _ _ _ _ _ _ _ _ _ _ _ _ _ _ _ _ _ _ _ _ _ _ _ _ _ _ _ _ _ _ _ _ _ _ _ _ _ _ _ _ _ _ _ _ _ _ _ _ _ _ _ _ _ _ _ _ _ _ _ _ _ _ _ _ _ _ _ _ _ _ _ _ _ _ _ _ _ _ _ _ _ _ _ _ _ _ _ _ _ _ _ _ _ _ _ _ _ _ _ _ _ _ _ _ _ _ _ _ _ _ _ _ _ _ _ _ _ _ _ _ _ _ _ _ _ _ _ _ _ _ _ _ _ _ _ _ _ _ _ _ _ _ _ _ _ _ _ _ _ _ _ _ _ _ _ _ _ _ _ _ _ _ _ _ _ _ _ _ _ _ _ _ _ _ _ _ _ _ _ _ _ _ _ _ _ _ _ _ _ _ _ _ _ _ _ _ _ _ _ _ ?_;intro t4 t11 t12 t13 t14 t15 t16 t17 t18 t19 t20 t78 t79 t80 t81 t82 t83 t84 t85 t86 t87 t88 t89 t90 t91 t92 t93 t94 t95 t96 t97 t98 t99 t100 t101 t102 t103 t104 t105 t106 t107 t108 t109 t110 t111 t112 t113 t114 t115 t116 t117 t118 t119 t120 t121 t122 t123 t124 t125 t126 t127 t128 t129 t130 t131 t132 t133 t134 t135 t136 t137 t138 t139 t140 t141 t142 t143 t144 t145 t146 t147 t148 t149 t150 t151 t152 t153 t154 t155 t156 t157 t158 t159 t160 t161 t162 t163 t164 t165 t166 t167 t168 t169 t170 t171 t172 t173 t174 t175 t176 t177 t178 t179 t180 t181 t182 t183 t184 t185 t186 t187 t188 t189 t190 t191 t192 t193 t194 t195 t196 t197 t198 t199 t200 t201 t202 t203 t204 t205 t206 t207 t208 t209 t210 t211 t212 t213 t214 t215 t216 wc hcut;have HX : Hid (∀ w',Only E wb w' → ActAt w' kx kd id q v1 v2 v3) := fun w' o => HA.out.1.only o HA.out.2.1;have HO : Hid (Only [] w wb) := H5.out.2.2.2;clear HP2 HF2 H5 HG2 HID HA;obtain ⟨n3,la3,st3,B3,M3,hp,hperm,hf⟩ := hcut.ex;have HP : Hid (Pair E wb x y c n3 la3 st3 B3 M3 n3 la3 st3 B3 wc ∧ M3.Perm (boxesB B3 n3) ∧ Fine la3 st3 n3 B3 (i + 1)) := ⟨hp,hperm,hf⟩;clear hp hperm hf hcut;have a1 := (HX.out _ HP.out.1.only).off 1;simp only [zR] at a1;go_wp2_with fail
 refine (ygf HP.out.1 id HP.out.2.2.n60 HP.out.2.2.rise).mono ?_;rintro e w6 ⟨rfl,o6⟩;clear a1;obtain ⟨r,hr⟩ : ∃ r,refX B3 (findX B3 id n3) = r := ⟨_,rfl⟩;obtain ⟨sm,hsm⟩ : ∃ s,(findX B3 id n3).isSome = s := ⟨_,rfl⟩;rw [hr,hsm];have HRS : Hid (refX B3 (findX B3 id n3) = r ∧ (findX B3 id n3).isSome = sm) := ⟨hr,hsm⟩;clear hr hsm;dsimp only;unfold bdV;go_upto_region 49 with fail
 have H6 : Hid (Only [] wc (w6.alloc (.cells (bdA r) 45)) ∧ BodyAt (w6.alloc (.cells (bdA r) 45)) w6.heap.size r) := ⟨o6.alloc _,(MapKept.heap_alloc w6 _).1⟩;clear o6;revert H6;generalize w6.heap.size = ka;generalize World.alloc w6 _ = w7;intro H6;have a1 := (HX.out _ (HP.out.1.keep H6.out.1).only).off 1;simp only [zR] at a1;go_wp2_with fail
 refine (yfw (HP.out.1.keep H6.out.1) id HP.out.2.2.n60).mono ?_;rintro e w8 ⟨rfl,o8⟩;clear a1;rw [HRS.out.1,HRS.out.2];dsimp only;unfold bdV;go_upto_region 50 with fail
 have H8 : Hid (Only [] wc (w8.alloc (.cells (bdA r) 45)) ∧ BodyAt (w8.alloc (.cells (bdA r) 45)) ka r ∧ BodyAt (w8.alloc (.cells (bdA r) 45)) w8.heap.size r) := ⟨(H6.out.1.trans o8).alloc _,H6.out.2.only (o8.alloc _),(MapKept.heap_alloc w8 _).1⟩;clear o8 H6 HRS;revert H8;generalize w8.heap.size = kb;generalize World.alloc w8 _ = w9;intro H8;have HP9 : Hid (Pair E wb x y c n3 la3 st3 B3 M3 n3 la3 st3 B3 w9) := HP.out.1.keep H8.out.1;obtain ⟨ay,capy,hry,hby,hsy,hny⟩ := HP9.out.ref;have HS : Hid (∀ w',Only [] w9 w' → Only [] w9 w' ∧ (w'.cell? (Y y 7) = some (.slice ay n3 capy) ∧ w'.cell? (Y y 9) = some (I st3))) := fun w' o => ⟨o,(hry.only o (by simp)).off 7,(hry.only o (by simp)).off 9⟩;have HB1 : Hid (∀ w',Only [] w9 w' → AllO w' ka 0 r) := fun w' o => (H8.out.2.1.only o).all;have HB2 : Hid (∀ w',Only [] w9 w' → AllO w' kb 0 r) := fun w' o => (H8.out.2.2.only o).all;have HBY : Hid (∀ w',Only [] w9 w' → BodiesAt w' ay n3 B3) := fun w' o => hby.only o;have HPK : Hid (∀ w',Only [] w9 w' → Pair E wb x y c n3 la3 st3 B3 M3 n3 la3 st3 B3 w') := fun w' o => HP9.out.keep o;have h60 := HP.out.2.2.n60;have HN : Hid (n3 ≤ 60) := h60;clear hry hby hsy hny H8 HP9 h60;have HFIN : Hid (∀ w',Only [] w9 w' → Duo [] w x y c (i + 1) w') := fun w' o => ⟨n3,la3,st3,B3,M3,(HPK.out w' o).back HO.out HE.out.1,HP.out.2.1,HP.out.2.2⟩;clear HP HX HO HE
 as_aux_lemma =>
  refine wp_region_held_drew (S := (fun w' => Only [] w9 w' ∧ (w'.cell? (Y y 7) = some (.slice ay n3 capy) ∧ Zc w' y 9 st3))) (by kernel_rfl) ?_ (fun hJ1 => ?_)
  ·exact HS.out _ (Only.refl [] w9).drew
  refine tkU 0 (h:=tkU 1 (h:=tkU 2 (h:=tkV 3 ?_)));try simp only [zP]
  refine tkW (v := bdV r) 4 rfl ?_ (by intro w'' hSw; (try dsimp only at hSw); simp only [zQ]; exact ybb (k := 21) (g := ka) (o := 0) rfl (by kernel_rfl) (HB1.out _ hSw.1));try simp only [zP]
  refine tkW (v := bdV r) 5 rfl ?_ (by intro w'' hSw; (try dsimp only at hSw); simp only [zQ]; exact ybb (k := 23) (g := kb) (o := 0) rfl (by kernel_rfl) (HB2.out _ hSw.1));try simp only [zP]
  refine tkW (v := .bool false) 6 rfl ?_ (by intro w'' hSw; (try dsimp only at hSw); simp only [zQ]; exact neq_bd (j := 235) (k := 236) (q := r) rfl (by kernel_rfl) (by kernel_rfl));try simp only [zP]
  refine tkU 7 (h:=tkU 8 (h:=tkU 9 (h:=tkV 11 ?_)));try simp only [zP]
  refine tkU 12 (h:=tkU 13 (h:=tkV 14 ?_));try simp only [zP]
  refine rdW 10 rfl fun K hK => ?_;simp only [zQ];go_simp
  (go_at_call 24; refine (yd8 (HPK.out _ (Only.refl [] w9).drew)).mono ?_; rintro e wq ⟨rfl,hwq⟩; subst hwq; try dsimp only)
  try go_wp2_with fail
  refine hK.out _ _ ?_ fun hJ2 => ?_
  ·exact HS.out _ (Only.refl [] w9).drew
  clear hK K hJ1;try simp only [zP]
  refine tkU 15 (h:=tkU 16 (h:=tkU 17 (h:=tkV 18 ?_)));try simp only [zP]
  refine tkV 20 ?_;try simp only [zP]
  refine rdW 19 rfl fun K hK => ?_;simp only [zQ];go_simp
  (go_at_call 25; refine (ybn (HPK.out _ (Only.refl [] w9).drew) HN.out).mono ?_; rintro e wd ⟨rfl,od⟩; have HD1 : Hid (Only [] w9 wd) := (Only.refl [] w9).drew.trans od; clear od; try dsimp only)
  try go_wp2_with fail
  refine hK.out _ _ ?_ fun hJ3 => ?_
  ·exact HS.out _ HD1.out
  clear hK K hJ2;try simp only [zP]
  refine rdW 21 rfl fun K hK => ?_;simp only [zQ];go_simp
  (go_at_call 26; refine (ybx (HPK.out _ HD1.out) HN.out).mono ?_; rintro e wd2 ⟨rfl,od⟩; have HD2 : Hid (Only [] w9 wd2) := HD1.out.trans od; clear od; try dsimp only)
  try go_wp2_with fail
  refine hK.out _ _ ?_ fun hJ4 => ?_
  ·exact HS.out _ HD2.out
  clear hK K hJ3;try simp only [zP]
  refine tkU 22 (h:=tkU 23 (h:=tkU 24 (h:=tkV 25 ?_)));try simp only [zP]
  refine tkU 27 (h:=tkU 28 (h:=tkU 29 (h:=tkV 30 ?_)));try simp only [zP]
  refine rdW 26 rfl fun K hK => ?_;simp only [zQ];go_simp
  (go_at_call 28; refine (ycb (HPK.out _ HD2.out) HN.out).mono ?_; rintro e wd3 ⟨ap,gp,cp,rfl,hop,od,_,_⟩; have HD3 : Hid (Only [] w9 wd3 ∧ BodiesAt wd3 ap n3 B3) := ⟨HD2.out.trans od,hop.bodies⟩; clear od hop; try dsimp only)
  try go_wp2_with fail
  refine hK.out _ _ ?_ fun hJ5 => ?_
  ·exact HS.out _ HD3.out.1
  clear hK K hJ4;try simp only [zP]
  refine rdW 31 rfl fun K hK => ?_;simp only [zQ];go_simp
  (go_at_call 27; refine (y7d ap ay n3 cp capy B3 wd3 HN.out HD3.out.2 (HBY.out _ HD3.out.1)).mono ?_; rintro e wd4 ⟨rfl,od⟩; have HD4 : Hid (Only [] w9 wd4) := HD3.out.1.trans od; clear od; try dsimp only)
  try go_wp2_with fail
  refine hK.out _ _ ?_ fun hJ6 => ?_
  ·exact HS.out _ HD4.out
  clear hK K hJ5;try simp only [zP]
  refine tkU 32 (h:=tkV 33 ?_);try simp only [zP]
  refine wpAnyH_done (by kernel_rfl) ?_ _;have HZ : Hid (Duo [] w x y c (i + 1) wd4) := HFIN.out _ HD4.out;clear hJ6 HS HB1 HB2 HBY HPK HFIN;go_wp2_with fail
  first | exact HZ.out | (apply hK; exact HZ.out)
theorem plays_long (a : Option Addr) (n cap : Nat) (c : Wc) (w : World) (hn : 80 < n) : Calls Tryz.prog 3 #[.agg #[I c.fx,I c.fy,I c.fz,I c.bo,I c.ru,I c.ro,I c.qt],.slice a n cap] w fun e w' => e = .returned (.bool true) ∧ Only [] w w' := by
 have t0 : decide ((80 : Int) < (n : Int)) = true := by simp; omega
 go_enter Tryz.func3,Tryz.ntmps3
 go_wp2_with fail
 go_ret
 exact ⟨rfl,(Only.refl [] w).alloc _⟩
theorem ConfAt.seven {kb : Nat} {c : Wc} (h : ConfAt w kb c) : w.cell? (Y kb 0) = some (I c.fx) ∧ w.cell? (Y kb 1) = some (I c.fy) ∧ w.cell? (Y kb 2) = some (I c.fz) ∧ w.cell? (Y kb 3) = some (I c.bo) ∧ w.cell? (Y kb 4) = some (I c.ru) ∧ w.cell? (Y kb 5) = some (I c.ro) ∧ w.cell? (Y kb 6) = some (I c.qt) :=
 ⟨h.off 0,h.off 1,h.off 2,h.off 3,h.off 4,h.off 5,h.off 6⟩
theorem plays_wrong (a : Option Addr) (n cap : Nat) (c : Wc) (w : World) (hn : n ≤ 80) (hg : EtIs w) (hc : newW c ≠ 0) : Calls Tryz.prog 3 #[.agg #[I c.fx,I c.fy,I c.fz,I c.bo,I c.ru,I c.ro,I c.qt],.slice a n cap] w fun e w' => e = .returned (.bool true) ∧ Only [] w w' := by
 have t0 : decide ((80 : Int) < (n : Int)) = false := by simp; omega
 have HG : Hid (EtIs w ∧ newW c ≠ 0) := ⟨hg,hc⟩;clear hg hc hn;go_enter Tryz.func3,Tryz.ntmps3
 go_upto_region 1 with fail
 have H0 : Hid (ConfAt (w.alloc (.cells #[I c.fx,I c.fy,I c.fz,I c.bo,I c.ru,I c.ro,I c.qt] 27)) w.heap.size c ∧ Only [] w (w.alloc (.cells #[I c.fx,I c.fy,I c.fz,I c.bo,I c.ru,I c.ro,I c.qt] 27))) := ⟨(MapKept.heap_alloc w _).1,(Only.refl [] w).alloc _⟩;revert H0;generalize w.heap.size = kc;generalize World.alloc w _ = w0;intro H0;obtain ⟨l0,l1,l2,l3,l4,l5,l6⟩ := H0.out.1.seven;go_wp2_with fail
 refine (y9z c w0).mono ?_;rintro e w1 ⟨_,p2⟩;obtain ⟨rfl,o1⟩ := p2 HG.out.2;clear l0 l1 l2 l3 l4 l5 l6 p2 t0;have H1 : Hid (ConfAt w1 kc c ∧ Only [] w w1) := ⟨H0.out.1.only o1,H0.out.2.trans o1⟩;clear o1 H0;obtain ⟨z,hz⟩ : ∃ z,z = newW c := ⟨_,rfl⟩;rw [← hz];have HZ : Hid (newW c = z) := hz.symm;have hzb : (z == 0) = false := by rw [hz]; simpa using HG.out.2
 clear hz;obtain ⟨l0,l1,l2,l3,l4,l5,l6⟩ := H1.out.1.seven;go_upto_region 5 with fail
 clear l0 l1 l2 l3 l4 l5 l6;have H2 : Hid (RwAt (w1.alloc (.cells #[I c.fx,I c.fy,I c.fz,I c.bo,I c.ru,I c.ro,I c.qt,.slice none 0 0,I 0,I 0] 38)) w1.heap.size c none 0 0 0 0 ∧ Only [] w (w1.alloc (.cells #[I c.fx,I c.fy,I c.fz,I c.bo,I c.ru,I c.ro,I c.qt,.slice none 0 0,I 0,I 0] 38))) := ⟨(MapKept.heap_alloc w1 _).1,H1.out.2.alloc _⟩;clear H1;revert H2;generalize w1.heap.size = y;generalize World.alloc w1 _ = w2;intro H2;go_wp2_with fail
 refine (y53 y c none 0 0 0 0 w2 H2.out.1).mono ?_;rintro e w3 ⟨rfl,o3⟩;rw [HZ.out];have H3 : Hid (Only [] w w3) := H2.out.2.trans o3;clear o3;go_wp2_with fail
 refine (y6w z w3 (HG.out.1.onlyD H3.out (by simp))).mono ?_;rintro e w4 ⟨rfl,k4⟩;have H4 : Hid (Only [] w w4) := H3.out.trans (Only.of_kept k4);clear k4;go_wp2_with fail
 go_ret
 exact ⟨rfl,H4.out⟩
theorem plays_main (a : Option Addr) (n cap : Nat) (L : Nat → Ac) (c : Wc) (w : World) (hn : n ≤ 80) (hg : EtIs w) (hc : newW c = 0) (hs : ActsAt w a n L) : Calls Tryz.prog 3 #[.agg #[I c.fx,I c.fy,I c.fz,I c.bo,I c.ru,I c.ro,I c.qt],.slice a n cap] w fun e w' => e = .returned (.bool true) ∧ Only [] w w' := by
 have t0 : decide ((80 : Int) < (n : Int)) = false := by simp; omega
 have HG : Hid (EtIs w ∧ newW c = 0 ∧ ActsAt w a n L ∧ n ≤ 80) := ⟨hg,hc,hs,hn⟩;clear hg hc hn hs;go_enter Tryz.func3,Tryz.ntmps3
 go_upto_region 1 with fail
 have H0 : Hid (ConfAt (w.alloc (.cells #[I c.fx,I c.fy,I c.fz,I c.bo,I c.ru,I c.ro,I c.qt] 27)) w.heap.size c ∧ Only [] w (w.alloc (.cells #[I c.fx,I c.fy,I c.fz,I c.bo,I c.ru,I c.ro,I c.qt] 27)) ∧ w.heap.size ≤ w.heap.size) := ⟨(MapKept.heap_alloc w _).1,(Only.refl [] w).alloc _,Nat.le_refl _⟩;have HKC : Hid (∃ kc,kc = w.heap.size) := ⟨_,rfl⟩;obtain ⟨kc,hkc⟩ := HKC.out;rw [← hkc] at H0 ⊢;have HKW : Hid (w.heap.size ≤ kc) := Nat.le_of_eq hkc.symm;clear hkc HKC;revert H0;generalize World.alloc w _ = w0;intro H0;obtain ⟨l0,l1,l2,l3,l4,l5,l6⟩ := H0.out.1.seven;go_wp2_with fail
 refine (y9z c w0).mono ?_;rintro e w1 ⟨p1,_⟩;obtain ⟨x,t,g,rfl,hW⟩ := p1 HG.out.2.1;clear l0 l1 l2 l3 l4 l5 l6 p1 t0;have H1 : Hid (ConfAt w1 kc c ∧ Only [] w w0 ∧ WW [] w0 x g c none 0 0 t 0 0 (fun _ => bd0) [] [t] w1 ∧ kc < w0.heap.size) := ⟨H0.out.1.only hW.only,H0.out.2.1,hW,H0.out.1.lt⟩;clear hW H0;obtain ⟨l0,l1,l2,l3,l4,l5,l6⟩ := H1.out.1.seven;go_upto_region 5 with fail
 clear l0 l1 l2 l3 l4 l5 l6
 have H2 : Hid (RwAt (w1.alloc (.cells #[I c.fx,I c.fy,I c.fz,I c.bo,I c.ru,I c.ro,I c.qt,.slice none 0 0,I 0,I 0] 38)) w1.heap.size c none 0 0 0 0 ∧ Duo [] w x w1.heap.size c 0 (w1.alloc (.cells #[I c.fx,I c.fy,I c.fz,I c.bo,I c.ru,I c.ro,I c.qt,.slice none 0 0,I 0,I 0] 38))) := by
  have hr : RwAt (w1.alloc (.cells #[I c.fx,I c.fy,I c.fz,I c.bo,I c.ru,I c.ro,I c.qt,.slice none 0 0,I 0,I 0] 38)) w1.heap.size c none 0 0 0 0 := (MapKept.heap_alloc w1 _).1;have ob : Only [] w1 (w1.alloc (.cells #[I c.fx,I c.fy,I c.fz,I c.bo,I c.ru,I c.ro,I c.qt,.slice none 0 0,I 0,I 0] 38)) := (Only.refl [] w1).alloc _;have hx := H1.out.2.2.1;have hkl := H1.out.2.2.2;have hsz := hx.only.size;refine ⟨hr,⟨0,0,0,fun _ => bd0,[],⟨g,none,0,t,[t],kc,none,0,(hx.backX H1.out.2.1 (by simp)).keep ob,Or.inl ⟨rfl,rfl,rfl⟩,fun _ _ _ e => (by cases e),?_,fun b hb => ?_⟩,List.Perm.refl _,?_⟩⟩
  ·exact ⟨hr,Or.inl rfl,Nat.lt_of_lt_of_le (Nat.lt_of_lt_of_le hkl hsz) ob.size,by omega,Or.inr (Nat.le_trans H1.out.2.1.size hsz),Or.inr HKW.out,(H1.out.2.1.trans hx.only).trans ob,fun _ => ⟨rfl,rfl⟩,Nat.le_refl _⟩
  ·have h1 := hx.ltX hb
   have h2 : w0.heap.size ≤ b := by
    rcases hx.memX hb with q | q
    ·simp at q
    ·exact q
   exact ⟨by omega,by omega⟩
  ·exact ⟨by omega,fun i k hi hk => absurd hk (by omega),fun _ => yaq (Int.le_refl 0) (by show (0 : Int) ≤ 10000000; omega),fun j hj => absurd hj (by omega),Int.le_refl 0,Int.le_refl 0,Int.le_refl 0,Int.le_refl 0,fun j hj => absurd hj (by omega),fun j hj => absurd hj (by omega),fun j hj => absurd hj (by omega)⟩
 clear H1 HKW;revert H2;generalize w1.heap.size = y;generalize World.alloc w1 _ = w2;intro H2;go_wp2_with fail
 refine (y53 y c none 0 0 0 0 w2 H2.out.1).mono ?_;rintro e w3 ⟨rfl,o3⟩;rw [HG.out.2.1]
 have H3 : Hid (Duo [] w x y c 0 w3) := by
  obtain ⟨n0,la,st,B,M,hp,h2,h3⟩ := H2.out.2.ex;exact ⟨n0,la,st,B,M,hp.keep o3,h2,h3⟩
 clear o3 H2;go_wp2_with fail
 go_loopg [9] n (fun m idx wr => ∃ i : Nat,idx = I (i : Int) ∧ Hid (i ≤ n ∧ m = n - i) ∧ Hid (Duo [] w x y c i wr))
 case atStart => exact ⟨0,rfl,⟨by omega,rfl⟩,H3⟩
 case round =>
  clear H3;obtain ⟨i,rfl,H4,HD⟩ := hrel;have hn := HG.out.2.2.2;by_cases hi : i < n
  ·have hil : (i : Int) < (n : Int) := by omega
   go_upto_block 1 with fail
   refine yi0 a n cap i x y L c w wr _ _ _ _ _ _ _ _ _ _ _ _ _ _ _ _ _ _ _ _ _ _ _ _ _ _ _ _ _ _ _ _ _ _ _ _ _ _ _ _ _ _ _ _ _ _ _ _ _ _ _ _ _ _ _ _ _ _ _ _ _ _ _ _ _ _ _ _ _ _ _ _ _ _ _ _ _ _ _ _ _ _ _ _ _ _ _ _ _ _ _ _ _ _ _ _ _ _ _ _ _ _ _ _ _ _ _ _ _ _ _ _ _ _ _ _ _ _ _ _ _ _ _ _ _ _ _ _ _ _ _ _ _ _ _ _ _ _ _ _ _ _ _ _ _ _ _ _ _ _ _ _ _ _ _ _ _ _ _ _ _ _ _ _ _ _ _ _ _ _ _ _ _ _ _ _ _ _ _ _ _ _ _ _ _ _ _ _ _ _ _ _ _ _ _ _ _ _ _ _ _ _ _ _ _ _ _ _ _ _ _ _ _ _ _ _ _ _ _ _ _ _ _ _ _ _ _ _ _ _ _ _ _ _ _ _ _ _ _ _ _ _ _ _ _ _ _ _ _ _ _ _ _ _ _ _ _ _ _ _ _ _ _ _ _ HG hi HD ?_;intro u4 u10 u11 u12 u13 u14 u15 u16 u17 u18 u19 u20 u21 u22 u23 u24 u72 u73 u74 u75 u76 u77 u78 u79 u80 u81 u82 u83 u84 u85 u86 u87 u88 u89 u90 u91 u92 u93 u94 u95 u96 u97 u98 u99 u100 u101 u102 u103 u104 u105 u106 u107 u108 u109 u110 u111 u112 u113 u114 u115 u116 u117 u118 u119 u120 u121 u122 u123 u124 u125 u126 u127 u128 u129 u130 u131 u132 u133 u134 u135 u136 u137 u138 u139 u140 u141 u142 u143 u144 u145 u146 u147 u148 u149 u150 u151 u152 u153 u154 u155 u156 u157 u158 u159 u160 u161 u162 u163 u164 u165 u166 u167 u168 u169 u170 u171 u172 u173 u174 u175 u176 u177 u178 u179 u180 u181 u182 u183 u184 u185 u186 u187 u188 u189 u190 u191 u192 u193 u194 u195 u196 u197 u198 u199 u200 u201 u202 u203 u204 u205 u206 u207 u208 u209 u210 u211 u212 u213 u214 u215 u216 u217 u218 u219 u220 u221 u222 u223 u224 u225 u226 u227 u228 u229 u230 u231 u232 u233 u234 u235 u236 u237 u238 u239 u240 u241 u242 u243 u244 u245 u246 u247 u248 u249 u250 u251 u252 u253 u254 u255 u256 u257 u258 u259 u260 u261 u262 u263 u264 wc hrel;have HZ : Hid (Duo [] w x y c (i + 1) wc) := hrel;clear hrel;go_wp2_with fail
   go_roundg (n - (i + 1))
   case measure => have := H4.out.2; omega
   case rel => exact ⟨i + 1,by go_num,⟨by omega,rfl⟩,HZ⟩
  ·have hil : ¬ (i : Int) < (n : Int) := by omega
   have HZ : Hid (Only [] w wr) := by
    obtain ⟨n0,la,st,B,M,hp,h2,h3⟩ := HD.out.ex;exact hp.only
   go_wp2_with fail
   go_ret
   exact ⟨rfl,HZ.out⟩
end Go.Proofs.YtbenlgandjjopaaGreatDoor
