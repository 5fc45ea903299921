/- gyrekeep.SolveStill: its last loop, body by body. -/
import Derived.Test.YtpegjobehdihbaaSp3
import Derived.Test.YtpegjobehdihbaaSb1
namespace Go.Proofs.Ytpegjobehdihbaa
open Go.ChangeShapes Go.WideShapes Go.ChangeAt Go.RowKit
set_option linter.unusedVariables false
set_option linter.unusedSimpArgs false

def fixB (i : Nat) (b : Bd) : Bd := atX (spX (idX b ((i : Int) + 1)) (cl 6553600 b.vx) (cl 6553600 b.vy) (cl 6553600 b.vz)) (cl 65536000 b.ax) (cl 65536000 b.ay) (cl 65536000 b.az)
def fixTo (B : Nat → Bd) (p : Nat) : Nat → Bd := fun j => if j < p then fixB j (B j) else B j
theorem fixTo_zero (B : Nat → Bd) : fixTo B 0 = B := by funext j; simp [fixTo]
theorem fixTo_at (B : Nat → Bd) (p : Nat) : fixTo B p p = B p := by simp [fixTo]
theorem fixTo_in (B : Nat → Bd) {n i : Nat} (h : i < n) : fixTo B n i = fixB i (B i) := by simp [fixTo, h]
theorem fixTo_succ (B : Nat → Bd) (p : Nat) : fixTo B (p + 1) = upd (fixTo B p) p (fixB p (B p)) := by
  funext j
  unfold fixTo upd
  by_cases e : j = p
  · subst e; simp
  · by_cases h : j < p
    · simp [e, h, show j < p + 1 by omega]
    · simp [e, h, show ¬ j < p + 1 by omega]
theorem upd_upd (C : Nat → Bd) (i : Nat) (b d : Bd) : upd (upd C i b) i d = upd C i d := by
  funext j; unfold upd; split <;> rfl
theorem upd_same (C : Nat → Bd) (i : Nat) (b : Bd) : upd C i b i = b := by unfold upd; rw [if_pos rfl]
theorem cl_both {k : Int} (h : 0 ≤ k) (n : Int) : -k ≤ cl k n ∧ cl k n ≤ k := by unfold cl; split <;> (try split) <;> omega
theorem fixB_in (i : Nat) (b : Bd) : InV (fixB i b) ∧ InA (fixB i b) :=
  ⟨⟨cl_both (by omega) _, cl_both (by omega) _, cl_both (by omega) _⟩, cl_both (by omega) _, cl_both (by omega) _, cl_both (by omega) _⟩
theorem fixTo_id (B : Nat → Bd) {n i : Nat} (h : i < n) : (fixTo B n i).id = (i : Int) + 1 := by rw [fixTo_in B h]; rfl
theorem fixTo_alone (B : Nat → Bd) (n : Nat) : Alone n (fixTo B n) := fun i k hi hk e => by
  rw [fixTo_id B hi, fixTo_id B hk] at e; omega
def idsT (T : Nat → Tc) : Nat → List Int
  | 0 => []
  | j + 1 => (T j).b :: (T j).a :: idsT T j
theorem idsT_mem (T : Nat → Tc) : ∀ {m j : Nat}, j < m → (T j).a ∈ idsT T m ∧ (T j).b ∈ idsT T m
  | 0, j, h => by omega
  | m + 1, j, h => by
    by_cases e : j = m
    · subst e; simp [idsT]
    · have h1 := idsT_mem T (show j < m by omega)
      exact ⟨List.mem_cons_of_mem _ (List.mem_cons_of_mem _ h1.1), List.mem_cons_of_mem _ (List.mem_cons_of_mem _ h1.2)⟩
theorem still_all (B : Nat → Bd) (T : Nat → Tc) {n i : Nat} (m : Nat) (hi : i < n) (bo ru ro : Int) (h : (fixTo B n i).ms ≤ 0 ∨ (fixTo B n i).id ∉ idsT T m) :
    speedsT n (fixTo B n) T m bo ru ro i = fixTo B n i ∧ placesX n (fixTo B n) T m i = fixTo B n i := by
  have hin := fixB_in i (B i)
  rw [← fixTo_in B hi] at hin
  have hidle : ∀ j, j < m → Idle (fixTo B n i) (T j) := fun j hj => by
    rcases h with h | h
    · exact Or.inl h
    · obtain ⟨h1, h2⟩ := idsT_mem T hj
      exact Or.inr ⟨fun e => h (e ▸ h1), fun e => h (e ▸ h2)⟩
  exact ⟨speedsT_still n _ T m bo ru ro i hin.1 hidle, placesX_still n _ T i hin.2 m hidle⟩
theorem still_sp (B : Nat → Bd) (T : Nat → Tc) (n i m : Nat) (bo ru ro : Int) : (speedsT n B T m bo ru ro i).ax = (B i).ax ∧ (speedsT n B T m bo ru ro i).ay = (B i).ay ∧ (speedsT n B T m bo ru ro i).az = (B i).az := by
  have h := speedsT_sp n B T m bo ru ro i
  unfold SpOnly at h
  rw [h]; exact ⟨rfl, rfl, rfl⟩
theorem still_at (B : Nat → Bd) (T : Nat → Tc) (n i m : Nat) : (placesX n B T m i).vx = (B i).vx ∧ (placesX n B T m i).vy = (B i).vy ∧ (placesX n B T m i).vz = (B i).vz := by
  have h := placesX_at n B T i m
  unfold AtOnly at h
  rw [h]; exact ⟨rfl, rfl, rfl⟩
theorem OwnS.of_row' {w : World} {v : Value} {base n : Nat} {B : Nat → Bd} (h : w.ownsRow base 30 17 v n (rowsL B n)) : ∃ a g c, v = .slice a n c ∧ OwnS w a g n B ∧ (n ≠ 0 → base ≤ g) ∧ SlArg a n c := by
  have h0 := h
  obtain ⟨hl, ⟨rfl, rfl⟩ | ⟨g, cap, cur, rfl, hb, hh, h1, h2, h3, h4⟩⟩ := h
  · exact ⟨none, 0, 0, rfl, Or.inl rfl, fun h => absurd rfl h, fun _ => ⟨rfl, rfl⟩⟩
  · obtain ⟨a, g', c, e, hS, hg⟩ := OwnS.of_row h0
    injection e with e1 e2 e3
    subst e1 e3
    exact ⟨_, g', _, rfl, hS, hg, fun e => by cases e⟩
theorem in64S_of {i : Int} (h : -9223372036854775808 ≤ i) (h' : i ≤ 9223372036854775807) : In64S i := by
  have e1 : IntKind.i64.min = -9223372036854775808 := rfl
  have e2 : IntKind.i64.max = 9223372036854775807 := rfl
  show (decide (IntKind.i64.min ≤ i) && decide (i ≤ IntKind.i64.max)) = true
  rw [e1, e2]; simp; omega
theorem OwnS.only' {D : List Nat} {w w' : World} {a : Option Addr} {g n : Nat} {B : Nat → Bd} (h : OwnS w a g n B) (o : Only D w w') (s : ∀ q, q < n → g ∉ D) : OwnS w' a g n B := by
  rcases h with h | h
  · exact Or.inl h
  · by_cases h0 : n = 0
    · exact Or.inl h0
    · exact Or.inr ⟨h.1, h.2.only o (s 0 (by omega))⟩
theorem iteYes {c : Prop} {inst : Decidable c} {a b : Prop} (hc : c) (h : a) : @ite Prop c inst a b := by rw [if_pos hc]; exact h
def blockOf (n : Nat) : Code → Option Code
  | .block k c => if k = n then some (.block k c) else blockOf n c
  | .seq a b => match blockOf n a with
    | some c => some c
    | none => blockOf n b
  | .cond _ a b => match blockOf n a with
    | some c => some c
    | none => blockOf n b
  | .loop c => blockOf n c
  | _ => none
def code4 (f : Func) : Code := ((f.body.bind (blockOf 4)).getD .skip)
set_option maxRecDepth 1000000 in
set_option maxHeartbeats 40000000 in
theorem still_last (i c1 c6 c7 nn mm : Nat) (a1 a6 a7 : Option Addr) (L X Y : Nat → Bd) (S : List Int) (w7 : World) (r0 r1 r2 r3 r4 r5 r6 r7 r8 r9 r10 r12 r14 r18 r19 r20 r21 r22 r23 r24 r25 r26 r27 r28 r29 r30 r31 r32 r33 r34 r35 r36 r37 r38 r39 r40 r41 r42 r43 r44 r45 r46 r47 r48 r49 r50 r51 r52 r53 r54 r55 r56 r57 r58 r59 r60 r61 r62 r63 r64 r65 r66 r67 r68 r69 r70 r71 r72 r73 r74 r75 r76 r77 r78 r79 r80 r81 r82 r83 r84 r85 r86 r87 r88 r89 r90 r91 r92 r93 r94 r95 r96 r97 r98 r99 r100 r101 r102 r103 r104 r105 r106 r107 r108 r109 r110 r111 r112 r113 r114 r115 r116 r117 r118 r119 r120 r121 r122 r123 r124 r125 r126 r127 r128 r129 r130 r131 r132 r133 r134 r135 r136 r137 r138 r139 r140 r141 r142 r143 r144 r145 r146 r147 r148 r149 r150 r151 r152 r153 r154 r155 r156 r157 r158 r159 r160 r161 r162 r163 r164 r165 r166 r167 r168 r169 r170 r171 r172 r173 r174 r175 : Value) (K : Act → World → Prop) (Pf : Ending → World → Prop) (hn : i ≤ 20)
    (h7 : BodiesAt w7 a1 i L ∧ TMap w7 mm nn S ∧ BodiesAt w7 a6 i X ∧ BodiesAt w7 a7 i Y) (hal : ∀ q, q < i → In64S (L q).id)
    (hsp0 : ∀ p, (X p).ax = (L p).ax ∧ (X p).ay = (L p).ay ∧ (X p).az = (L p).az) (hat0 : ∀ p, (Y p).vx = (L p).vx ∧ (Y p).vy = (L p).vy ∧ (Y p).vz = (L p).vz)
    (hst : ∀ p, p < i → ((L p).ms ≤ 0 ∨ (L p).id ∉ S → X p = L p ∧ Y p = L p))
    (hK : ∀ (u10 u17 u108 u109 u110 u111 u112 u113 u114 u115 u116 u117 u118 u119 u120 u121 u122 u123 u124 u125 u126 u127 u128 u129 u130 u131 u132 u133 u134 u135 u136 u137 u138 u139 u140 u141 u142 u143 u144 u145 u146 u147 u148 u149 u150 u151 u152 u153 u154 u155 u156 u157 u158 u159 u160 u161 u162 u163 u164 u165 u166 u167 u168 u169 u170 u171 u172 u173 u174 u175 : Value) (wz : World), Only [] w7 wz → K ⟨#[r0, r1, r2, r3, r4, r5, r6, r7, r8, r9, u10, .slice a1 i c1, r12, .map (some mm), r14, .slice a6 i c6, .slice a7 i c7, u17, r18, r19, r20, r21, r22, r23, r24, r25, r26, r27, r28, r29, r30, r31, r32, r33, r34, r35, r36, r37, r38, r39, r40, r41, r42, r43, r44, r45, r46, r47, r48, r49, r50, r51, r52, r53, r54, r55, r56, r57, r58, r59, r60, r61, r62, r63, r64, r65, r66, r67, r68, r69, r70, r71, r72, r73, r74, r75, r76, r77, r78, r79, r80, r81, r82, r83, r84, r85, r86, r87, r88, r89, r90, r91, r92, r93, r94, r95, r96, r97, r98, r99, r100, r101, r102, r103, r104, r105, r106, r107, u108, u109, u110, u111, u112, u113, u114, u115, u116, u117, u118, u119, u120, u121, u122, u123, u124, u125, u126, u127, u128, u129, u130, u131, u132, u133, u134, u135, u136, u137, u138, u139, u140, u141, u142, u143, u144, u145, u146, u147, u148, u149, u150, u151, u152, u153, u154, u155, u156, u157, u158, u159, u160, u161, u162, u163, u164, u165, u166, u167, u168, u169, u170, u171, u172, u173, u174, u175], []⟩ wz) :
    Code.wp Try.prog (code4 Try.f3) (Exit.then K (bodyPost Try.prog Try.f3 Pf)) ⟨#[r0, r1, r2, r3, r4, r5, r6, r7, r8, r9, r10, .slice a1 i c1, r12, .map (some mm), r14, .slice a6 i c6, .slice a7 i c7, .int .i64 0, r18, r19, r20, r21, r22, r23, r24, r25, r26, r27, r28, r29, r30, r31, r32, r33, r34, r35, r36, r37, r38, r39, r40, r41, r42, r43, r44, r45, r46, r47, r48, r49, r50, r51, r52, r53, r54, r55, r56, r57, r58, r59, r60, r61, r62, r63, r64, r65, r66, r67, r68, r69, r70, r71, r72, r73, r74, r75, r76, r77, r78, r79, r80, r81, r82, r83, r84, r85, r86, r87, r88, r89, r90, r91, r92, r93, r94, r95, r96, r97, r98, r99, r100, r101, r102, r103, r104, r105, r106, r107, r108, r109, r110, r111, r112, r113, r114, r115, r116, r117, r118, r119, r120, r121, r122, r123, r124, r125, r126, r127, r128, r129, r130, r131, r132, r133, r134, r135, r136, r137, r138, r139, r140, r141, r142, r143, r144, r145, r146, r147, r148, r149, r150, r151, r152, r153, r154, r155, r156, r157, r158, r159, r160, r161, r162, r163, r164, r165, r166, r167, r168, r169, r170, r171, r172, r173, r174, r175], []⟩ w7 := by
  have H7 : Hid (BodiesAt w7 a1 i L ∧ TMap w7 mm nn S ∧ BodiesAt w7 a6 i X ∧ BodiesAt w7 a7 i Y) := h7
  have HAL : Hid (∀ q, q < i → In64S (L q).id) := hal
  have HSP : Hid (∀ p, (X p).ax = (L p).ax ∧ (X p).ay = (L p).ay ∧ (X p).az = (L p).az) := hsp0
  have HAT : Hid (∀ p, (Y p).vx = (L p).vx ∧ (Y p).vy = (L p).vy ∧ (Y p).vz = (L p).vz) := hat0
  have HSTA : Hid (∀ p, p < i → ((L p).ms ≤ 0 ∨ (L p).id ∉ S → X p = L p ∧ Y p = L p)) := hst
  clear h7 hal hsp0 hat0 hst
  conv => arg 2; whnf
  go_wp2_with fail
  go_loopg [17] i (fun k idx wr => ∃ p : Nat, idx = .int .i64 (p : Int) ∧ Hid (p ≤ i ∧ k = i - p) ∧ Hid (Only [] w7 wr))
  case atStart => exact ⟨0, rfl, ⟨by omega, rfl⟩, Only.refl _ _⟩
  case round =>
    obtain ⟨p, rfl, H8, HO⟩ := hrel
    by_cases hp : p < i
    · have hpl : (p : Int) < (i : Int) := by omega
      obtain ⟨g0, o0, rfl, k0⟩ := H7.out.1.allO hp
      obtain ⟨g1, o1, rfl, k1⟩ := H7.out.2.2.1.allO hp
      obtain ⟨g2, o2, rfl, k2⟩ := H7.out.2.2.2.allO hp
      have hsp := HSP.out p
      have hat := HAT.out p
      have HST : Hid ((L p).ms ≤ 0 ∨ (L p).id ∉ S → X p = L p ∧ Y p = L p) := HSTA.out p hp
      obtain ⟨tv, htv⟩ : ∃ tv, decide ((L p).id ∈ S) = tv := ⟨_, rfl⟩
      have HLK : Hid (∀ w', Only [] w7 w' → (Instr.lookup 32 (.map (some mm)) (.int .i64 (L p).id) false).run Try.prog w' = .ok (.bool tv) w') := fun w' o => by rw [← htv]; exact (H7.out.2.1.only o (by simp)).look (HAL.out p hp)
      have HTV : Hid (decide ((L p).id ∈ S) = tv) := htv
      clear htv
      generalize X p = xb at k1 hsp HST
      generalize Y p = yb at k2 hat HST
      generalize L p = q at k0 hsp hat HST HLK HTV
      have HXA : Hid (∀ w', Only [] w7 w' → w'.cell? ⟨g1, o1 + p * 17 + 6, none⟩ = some (.int .i64 (q.ax)) ∧ w'.cell? ⟨g1, o1 + p * 17 + 7, none⟩ = some (.int .i64 (q.ay)) ∧ w'.cell? ⟨g1, o1 + p * 17 + 8, none⟩ = some (.int .i64 (q.az))) := fun w' o => by
        rw [← hsp.1, ← hsp.2.1, ← hsp.2.2]; obtain ⟨d0, d1, d2, d3, d4, d5, d6, d7, d8, d9, d10, d11, d12, d13, d14, d15, d16⟩ := k1.only o; exact ⟨d6, d7, d8⟩
      have HYS : Hid (∀ w', Only [] w7 w' → w'.cell? ⟨g2, o2 + p * 17 + 9, none⟩ = some (.int .i64 (q.vx)) ∧ w'.cell? ⟨g2, o2 + p * 17 + 10, none⟩ = some (.int .i64 (q.vy)) ∧ w'.cell? ⟨g2, o2 + p * 17 + 11, none⟩ = some (.int .i64 (q.vz))) := fun w' o => by
        rw [← hat.1, ← hat.2.1, ← hat.2.2]; obtain ⟨d0, d1, d2, d3, d4, d5, d6, d7, d8, d9, d10, d11, d12, d13, d14, d15, d16⟩ := k2.only o; exact ⟨d9, d10, d11⟩
      have HL0 : Hid (∀ w', Only [] w7 w' → AllO w' g0 (o0 + p * 17) q) := fun w' o => k0.only o
      have HX0 : Hid (∀ w', Only [] w7 w' → AllO w' g1 (o1 + p * 17) xb) := fun w' o => k1.only o
      have HY0 : Hid (∀ w', Only [] w7 w' → AllO w' g2 (o2 + p * 17) yb) := fun w' o => k2.only o
      clear hsp hat k0 k1 k2
      go_upto_region 24 with fail
      go_cut [151] from 114 to 151 (fun s151 wc => s151 = .bool false ∧ Only [] w7 wc)
      case first =>
        by_cases hms : q.ms ≤ 0
        · skip
          as_aux_lemma =>
            obtain ⟨hxq, hyq⟩ := HST.out (Or.inl hms)
            clear HST HTV HLK HXA HYS
            rw [hxq] at HX0
            rw [hyq] at HY0
            have HX := HX0
            have HY := HY0
            clear HX0 HY0 hxq hyq
            refine wp_region_held_drew (S := (fun w' => Only [] w7 w')) (by kernel_rfl) ?_ (fun hHeld1 => ?_)
            · (try dsimp only); exact HO.out.trans (Only.refl [] wr).drew
            refine tkW 0 rfl ?_; refine tkW 1 rfl ?_; refine tkW 2 rfl ?_; refine tkW 3 rfl ?_
            try simp only [Act.put, List.setIfInBounds_toArray, List.set_cons_zero, List.set_cons_succ, List.getElem_toArray, List.getElem_cons_succ, List.getElem_cons_zero]
            refine tkW 4 rfl ?_ (by intro w'' hSw; (try dsimp only at hSw); obtain ⟨d0, d1, d2, d3, d4, d5, d6, d7, d8, d9, d10, d11, d12, d13, d14, d15, d16⟩ := HL0.out _ hSw; simp only [List.getElem_toArray, List.getElem_cons_succ, List.getElem_cons_zero]; (go_simp <;> with_reducible rfl))
            try simp only [Act.put, List.setIfInBounds_toArray, List.set_cons_zero, List.set_cons_succ, List.getElem_toArray, List.getElem_cons_succ, List.getElem_cons_zero]
            refine tkW 5 rfl ?_; refine tkW 6 rfl ?_
            try simp only [Act.put, List.setIfInBounds_toArray, List.set_cons_zero, List.set_cons_succ, List.getElem_toArray, List.getElem_cons_succ, List.getElem_cons_zero]
            refine skW 7 rfl ?_; refine skW 8 rfl ?_; refine skW 9 rfl ?_; refine skW 10 rfl ?_
            try simp only [Act.put, List.setIfInBounds_toArray, List.set_cons_zero, List.set_cons_succ, List.getElem_toArray, List.getElem_cons_succ, List.getElem_cons_zero]
            refine skW 11 rfl ?_; refine skW 12 rfl ?_; refine skW 13 rfl ?_; refine skW 14 rfl ?_
            try simp only [Act.put, List.setIfInBounds_toArray, List.set_cons_zero, List.set_cons_succ, List.getElem_toArray, List.getElem_cons_succ, List.getElem_cons_zero]
            refine tkW 15 rfl ?_; refine tkW 16 rfl ?_
            try simp only [Act.put, List.setIfInBounds_toArray, List.set_cons_zero, List.set_cons_succ, List.getElem_toArray, List.getElem_cons_succ, List.getElem_cons_zero]
            refine tkW 17 rfl ?_; refine tkW 18 rfl ?_; refine tkW 19 rfl ?_
            try simp only [Act.put, List.setIfInBounds_toArray, List.set_cons_zero, List.set_cons_succ, List.getElem_toArray, List.getElem_cons_succ, List.getElem_cons_zero]
            refine tkW (v := bdV q) 20 rfl ?_ (by intro w'' hSw; (try dsimp only at hSw); simp only [List.getElem_toArray, List.getElem_cons_succ, List.getElem_cons_zero]; exact load_bd (k := 133) (g := g1) (o := o1 + p * 17) rfl (by kernel_rfl) (HX.out _ hSw))
            try simp only [Act.put, List.setIfInBounds_toArray, List.set_cons_zero, List.set_cons_succ, List.getElem_toArray, List.getElem_cons_succ, List.getElem_cons_zero]
            refine tkW 21 rfl ?_; refine tkW 22 rfl ?_; refine tkW 23 rfl ?_
            try simp only [Act.put, List.setIfInBounds_toArray, List.set_cons_zero, List.set_cons_succ, List.getElem_toArray, List.getElem_cons_succ, List.getElem_cons_zero]
            refine tkW (v := bdV q) 24 rfl ?_ (by intro w'' hSw; (try dsimp only at hSw); simp only [List.getElem_toArray, List.getElem_cons_succ, List.getElem_cons_zero]; exact load_bd (k := 137) (g := g0) (o := o0 + p * 17) rfl (by kernel_rfl) (HL0.out _ hSw))
            try simp only [Act.put, List.setIfInBounds_toArray, List.set_cons_zero, List.set_cons_succ, List.getElem_toArray, List.getElem_cons_succ, List.getElem_cons_zero]
            as_aux_lemma =>
              refine tkW (v := .bool false) 25 rfl ?_ (by intro w'' hSw; (try dsimp only at hSw); simp only [List.getElem_toArray, List.getElem_cons_succ, List.getElem_cons_zero]; exact neq_bd (j := 134) (k := 138) (q := q) rfl (by kernel_rfl) (by kernel_rfl))
              try simp only [Act.put, List.setIfInBounds_toArray, List.set_cons_zero, List.set_cons_succ, List.getElem_toArray, List.getElem_cons_succ, List.getElem_cons_zero]
              refine tkW 26 rfl ?_; refine tkW 27 rfl ?_; refine tkW 28 rfl ?_; refine tkW 29 rfl ?_
              try simp only [Act.put, List.setIfInBounds_toArray, List.set_cons_zero, List.set_cons_succ, List.getElem_toArray, List.getElem_cons_succ, List.getElem_cons_zero]
              refine tkW (v := bdV q) 30 rfl ?_ (by intro w'' hSw; (try dsimp only at hSw); simp only [List.getElem_toArray, List.getElem_cons_succ, List.getElem_cons_zero]; exact load_bd (k := 143) (g := g2) (o := o2 + p * 17) rfl (by kernel_rfl) (HY.out _ hSw))
              try simp only [Act.put, List.setIfInBounds_toArray, List.set_cons_zero, List.set_cons_succ, List.getElem_toArray, List.getElem_cons_succ, List.getElem_cons_zero]
              refine tkW 31 rfl ?_; refine tkW 32 rfl ?_; refine tkW 33 rfl ?_
              try simp only [Act.put, List.setIfInBounds_toArray, List.set_cons_zero, List.set_cons_succ, List.getElem_toArray, List.getElem_cons_succ, List.getElem_cons_zero]
              refine tkW (v := bdV q) 34 rfl ?_ (by intro w'' hSw; (try dsimp only at hSw); simp only [List.getElem_toArray, List.getElem_cons_succ, List.getElem_cons_zero]; exact load_bd (k := 147) (g := g0) (o := o0 + p * 17) rfl (by kernel_rfl) (HL0.out _ hSw))
              try simp only [Act.put, List.setIfInBounds_toArray, List.set_cons_zero, List.set_cons_succ, List.getElem_toArray, List.getElem_cons_succ, List.getElem_cons_zero]
              as_aux_lemma =>
                refine tkW (v := .bool false) 35 rfl ?_ (by intro w'' hSw; (try dsimp only at hSw); simp only [List.getElem_toArray, List.getElem_cons_succ, List.getElem_cons_zero]; exact neq_bd (j := 144) (k := 148) (q := q) rfl (by kernel_rfl) (by kernel_rfl))
                try simp only [Act.put, List.setIfInBounds_toArray, List.set_cons_zero, List.set_cons_succ, List.getElem_toArray, List.getElem_cons_succ, List.getElem_cons_zero]
                refine tkW 36 rfl ?_; refine tkW 37 rfl ?_
                try simp only [Act.put, List.setIfInBounds_toArray, List.set_cons_zero, List.set_cons_succ, List.getElem_toArray, List.getElem_cons_succ, List.getElem_cons_zero]
                refine wpAnyH_done (by kernel_rfl) ?_ _
                go_wp2_with fail
                go_meet
                case rel => exact ⟨rfl, HO.out.trans (Only.refl [] wr).drew⟩
        · have tms : decide (q.ms ≤ 0) = false := by simp; omega
          cases tv with
          | false =>
            as_aux_lemma =>
              obtain ⟨hxq, hyq⟩ := HST.out (Or.inr (by simpa using HTV.out))
              clear HST HTV HXA HYS
              rw [hxq] at HX0
              rw [hyq] at HY0
              have HX := HX0
              have HY := HY0
              clear HX0 HY0 hxq hyq
              refine wp_region_held_drew (S := (fun w' => Only [] w7 w')) (by kernel_rfl) ?_ (fun hHeld1 => ?_)
              · (try dsimp only); exact HO.out.trans (Only.refl [] wr).drew
              refine tkW 0 rfl ?_; refine tkW 1 rfl ?_; refine tkW 2 rfl ?_; refine tkW 3 rfl ?_
              try simp only [Act.put, List.setIfInBounds_toArray, List.set_cons_zero, List.set_cons_succ, List.getElem_toArray, List.getElem_cons_succ, List.getElem_cons_zero]
              refine tkW 4 rfl ?_ (by intro w'' hSw; (try dsimp only at hSw); obtain ⟨d0, d1, d2, d3, d4, d5, d6, d7, d8, d9, d10, d11, d12, d13, d14, d15, d16⟩ := HL0.out _ hSw; simp only [List.getElem_toArray, List.getElem_cons_succ, List.getElem_cons_zero]; (go_simp <;> with_reducible rfl))
              try simp only [Act.put, List.setIfInBounds_toArray, List.set_cons_zero, List.set_cons_succ, List.getElem_toArray, List.getElem_cons_succ, List.getElem_cons_zero]
              refine tkW 5 rfl ?_; refine tkW 6 rfl ?_; refine tkW 7 rfl ?_; refine tkW 8 rfl ?_
              try simp only [Act.put, List.setIfInBounds_toArray, List.set_cons_zero, List.set_cons_succ, List.getElem_toArray, List.getElem_cons_succ, List.getElem_cons_zero]
              refine tkW 9 rfl ?_; refine tkW 10 rfl ?_; refine tkW 11 rfl ?_
              try simp only [Act.put, List.setIfInBounds_toArray, List.set_cons_zero, List.set_cons_succ, List.getElem_toArray, List.getElem_cons_succ, List.getElem_cons_zero]
              refine tkW 12 rfl ?_ (by intro w'' hSw; (try dsimp only at hSw); obtain ⟨d0, d1, d2, d3, d4, d5, d6, d7, d8, d9, d10, d11, d12, d13, d14, d15, d16⟩ := HL0.out _ hSw; simp only [List.getElem_toArray, List.getElem_cons_succ, List.getElem_cons_zero]; (go_simp <;> with_reducible rfl))
              try simp only [Act.put, List.setIfInBounds_toArray, List.set_cons_zero, List.set_cons_succ, List.getElem_toArray, List.getElem_cons_succ, List.getElem_cons_zero]
              refine tkW 13 rfl ?_ (by intro w'' hSw; (try dsimp only at hSw); have hlk := HLK.out _ hSw; simp only [List.getElem_toArray, List.getElem_cons_succ, List.getElem_cons_zero]; (go_simp <;> with_reducible rfl))
              try simp only [Act.put, List.setIfInBounds_toArray, List.set_cons_zero, List.set_cons_succ, List.getElem_toArray, List.getElem_cons_succ, List.getElem_cons_zero]
              refine tkW 14 rfl ?_; refine tkW 15 rfl ?_; refine tkW 16 rfl ?_
              try simp only [Act.put, List.setIfInBounds_toArray, List.set_cons_zero, List.set_cons_succ, List.getElem_toArray, List.getElem_cons_succ, List.getElem_cons_zero]
              refine tkW 17 rfl ?_; refine tkW 18 rfl ?_; refine tkW 19 rfl ?_
              try simp only [Act.put, List.setIfInBounds_toArray, List.set_cons_zero, List.set_cons_succ, List.getElem_toArray, List.getElem_cons_succ, List.getElem_cons_zero]
              refine tkW (v := bdV q) 20 rfl ?_ (by intro w'' hSw; (try dsimp only at hSw); simp only [List.getElem_toArray, List.getElem_cons_succ, List.getElem_cons_zero]; exact load_bd (k := 133) (g := g1) (o := o1 + p * 17) rfl (by kernel_rfl) (HX.out _ hSw))
              try simp only [Act.put, List.setIfInBounds_toArray, List.set_cons_zero, List.set_cons_succ, List.getElem_toArray, List.getElem_cons_succ, List.getElem_cons_zero]
              refine tkW 21 rfl ?_; refine tkW 22 rfl ?_; refine tkW 23 rfl ?_
              try simp only [Act.put, List.setIfInBounds_toArray, List.set_cons_zero, List.set_cons_succ, List.getElem_toArray, List.getElem_cons_succ, List.getElem_cons_zero]
              refine tkW (v := bdV q) 24 rfl ?_ (by intro w'' hSw; (try dsimp only at hSw); simp only [List.getElem_toArray, List.getElem_cons_succ, List.getElem_cons_zero]; exact load_bd (k := 137) (g := g0) (o := o0 + p * 17) rfl (by kernel_rfl) (HL0.out _ hSw))
              try simp only [Act.put, List.setIfInBounds_toArray, List.set_cons_zero, List.set_cons_succ, List.getElem_toArray, List.getElem_cons_succ, List.getElem_cons_zero]
              as_aux_lemma =>
                refine tkW (v := .bool false) 25 rfl ?_ (by intro w'' hSw; (try dsimp only at hSw); simp only [List.getElem_toArray, List.getElem_cons_succ, List.getElem_cons_zero]; exact neq_bd (j := 134) (k := 138) (q := q) rfl (by kernel_rfl) (by kernel_rfl))
                try simp only [Act.put, List.setIfInBounds_toArray, List.set_cons_zero, List.set_cons_succ, List.getElem_toArray, List.getElem_cons_succ, List.getElem_cons_zero]
                refine tkW 26 rfl ?_; refine tkW 27 rfl ?_; refine tkW 28 rfl ?_; refine tkW 29 rfl ?_
                try simp only [Act.put, List.setIfInBounds_toArray, List.set_cons_zero, List.set_cons_succ, List.getElem_toArray, List.getElem_cons_succ, List.getElem_cons_zero]
                refine tkW (v := bdV q) 30 rfl ?_ (by intro w'' hSw; (try dsimp only at hSw); simp only [List.getElem_toArray, List.getElem_cons_succ, List.getElem_cons_zero]; exact load_bd (k := 143) (g := g2) (o := o2 + p * 17) rfl (by kernel_rfl) (HY.out _ hSw))
                try simp only [Act.put, List.setIfInBounds_toArray, List.set_cons_zero, List.set_cons_succ, List.getElem_toArray, List.getElem_cons_succ, List.getElem_cons_zero]
                refine tkW 31 rfl ?_; refine tkW 32 rfl ?_; refine tkW 33 rfl ?_
                try simp only [Act.put, List.setIfInBounds_toArray, List.set_cons_zero, List.set_cons_succ, List.getElem_toArray, List.getElem_cons_succ, List.getElem_cons_zero]
                refine tkW (v := bdV q) 34 rfl ?_ (by intro w'' hSw; (try dsimp only at hSw); simp only [List.getElem_toArray, List.getElem_cons_succ, List.getElem_cons_zero]; exact load_bd (k := 147) (g := g0) (o := o0 + p * 17) rfl (by kernel_rfl) (HL0.out _ hSw))
                try simp only [Act.put, List.setIfInBounds_toArray, List.set_cons_zero, List.set_cons_succ, List.getElem_toArray, List.getElem_cons_succ, List.getElem_cons_zero]
                as_aux_lemma =>
                  refine tkW (v := .bool false) 35 rfl ?_ (by intro w'' hSw; (try dsimp only at hSw); simp only [List.getElem_toArray, List.getElem_cons_succ, List.getElem_cons_zero]; exact neq_bd (j := 144) (k := 148) (q := q) rfl (by kernel_rfl) (by kernel_rfl))
                  try simp only [Act.put, List.setIfInBounds_toArray, List.set_cons_zero, List.set_cons_succ, List.getElem_toArray, List.getElem_cons_succ, List.getElem_cons_zero]
                  refine tkW 36 rfl ?_; refine tkW 37 rfl ?_
                  try simp only [Act.put, List.setIfInBounds_toArray, List.set_cons_zero, List.set_cons_succ, List.getElem_toArray, List.getElem_cons_succ, List.getElem_cons_zero]
                  refine wpAnyH_done (by kernel_rfl) ?_ _
                  go_wp2_with fail
                  go_meet
                  case rel => exact ⟨rfl, HO.out.trans (Only.refl [] wr).drew⟩
          | true =>
            as_aux_lemma =>
              clear HST HTV HXA HYS HX0 HY0
              refine wp_region_held_drew (S := (fun w' => Only [] w7 w')) (by kernel_rfl) ?_ (fun hHeld1 => ?_)
              · (try dsimp only); exact HO.out.trans (Only.refl [] wr).drew
              refine tkW 0 rfl ?_; refine tkW 1 rfl ?_; refine tkW 2 rfl ?_; refine tkW 3 rfl ?_
              try simp only [Act.put, List.setIfInBounds_toArray, List.set_cons_zero, List.set_cons_succ, List.getElem_toArray, List.getElem_cons_succ, List.getElem_cons_zero]
              refine tkW 4 rfl ?_ (by intro w'' hSw; (try dsimp only at hSw); obtain ⟨d0, d1, d2, d3, d4, d5, d6, d7, d8, d9, d10, d11, d12, d13, d14, d15, d16⟩ := HL0.out _ hSw; simp only [List.getElem_toArray, List.getElem_cons_succ, List.getElem_cons_zero]; (go_simp <;> with_reducible rfl))
              try simp only [Act.put, List.setIfInBounds_toArray, List.set_cons_zero, List.set_cons_succ, List.getElem_toArray, List.getElem_cons_succ, List.getElem_cons_zero]
              refine tkW 5 rfl ?_; refine tkW 6 rfl ?_; refine tkW 7 rfl ?_; refine tkW 8 rfl ?_
              try simp only [Act.put, List.setIfInBounds_toArray, List.set_cons_zero, List.set_cons_succ, List.getElem_toArray, List.getElem_cons_succ, List.getElem_cons_zero]
              refine tkW 9 rfl ?_; refine tkW 10 rfl ?_; refine tkW 11 rfl ?_
              try simp only [Act.put, List.setIfInBounds_toArray, List.set_cons_zero, List.set_cons_succ, List.getElem_toArray, List.getElem_cons_succ, List.getElem_cons_zero]
              refine tkW 12 rfl ?_ (by intro w'' hSw; (try dsimp only at hSw); obtain ⟨d0, d1, d2, d3, d4, d5, d6, d7, d8, d9, d10, d11, d12, d13, d14, d15, d16⟩ := HL0.out _ hSw; simp only [List.getElem_toArray, List.getElem_cons_succ, List.getElem_cons_zero]; (go_simp <;> with_reducible rfl))
              try simp only [Act.put, List.setIfInBounds_toArray, List.set_cons_zero, List.set_cons_succ, List.getElem_toArray, List.getElem_cons_succ, List.getElem_cons_zero]
              refine tkW 13 rfl ?_ (by intro w'' hSw; (try dsimp only at hSw); have hlk := HLK.out _ hSw; simp only [List.getElem_toArray, List.getElem_cons_succ, List.getElem_cons_zero]; (go_simp <;> with_reducible rfl))
              try simp only [Act.put, List.setIfInBounds_toArray, List.set_cons_zero, List.set_cons_succ, List.getElem_toArray, List.getElem_cons_succ, List.getElem_cons_zero]
              refine tkW 14 rfl ?_; refine tkW 15 rfl ?_; refine tkW 16 rfl ?_
              try simp only [Act.put, List.setIfInBounds_toArray, List.set_cons_zero, List.set_cons_succ, List.getElem_toArray, List.getElem_cons_succ, List.getElem_cons_zero]
              refine skW 17 rfl ?_; refine skW 18 rfl ?_; refine skW 19 rfl ?_; refine skW 20 rfl ?_
              try simp only [Act.put, List.setIfInBounds_toArray, List.set_cons_zero, List.set_cons_succ, List.getElem_toArray, List.getElem_cons_succ, List.getElem_cons_zero]
              refine skW 21 rfl ?_; refine skW 22 rfl ?_; refine skW 23 rfl ?_; refine skW 24 rfl ?_
              try simp only [Act.put, List.setIfInBounds_toArray, List.set_cons_zero, List.set_cons_succ, List.getElem_toArray, List.getElem_cons_succ, List.getElem_cons_zero]
              refine skW 25 rfl ?_; refine skW 26 rfl ?_; refine skW 27 rfl ?_; refine skW 28 rfl ?_
              try simp only [Act.put, List.setIfInBounds_toArray, List.set_cons_zero, List.set_cons_succ, List.getElem_toArray, List.getElem_cons_succ, List.getElem_cons_zero]
              refine skW 29 rfl ?_; refine skW 30 rfl ?_; refine skW 31 rfl ?_; refine skW 32 rfl ?_
              try simp only [Act.put, List.setIfInBounds_toArray, List.set_cons_zero, List.set_cons_succ, List.getElem_toArray, List.getElem_cons_succ, List.getElem_cons_zero]
              refine skW 33 rfl ?_; refine skW 34 rfl ?_; refine skW 35 rfl ?_; refine skW 36 rfl ?_
              try simp only [Act.put, List.setIfInBounds_toArray, List.set_cons_zero, List.set_cons_succ, List.getElem_toArray, List.getElem_cons_succ, List.getElem_cons_zero]
              refine tkW 37 rfl ?_
              try simp only [Act.put, List.setIfInBounds_toArray, List.set_cons_zero, List.set_cons_succ, List.getElem_toArray, List.getElem_cons_succ, List.getElem_cons_zero]
              refine wpAnyH_done (by kernel_rfl) ?_ _
              go_wp2_with fail
              go_meet
              case rel => exact ⟨rfl, HO.out.trans (Only.refl [] wr).drew⟩
      case rest =>
        clear HST HLK HTV HX0 HY0
        obtain ⟨rfl, hoc⟩ := hcut
        have HO2 : Hid (Only [] w7 wc) := hoc
        clear hoc HO
        as_aux_lemma =>
          go_upto_region 26 with fail
          refine wp_region_held_drew (S := (fun w' => Only [] w7 w')) (by kernel_rfl) ?_ (fun hHeld1 => ?_)
          · (try dsimp only); exact HO2.out.trans (Only.refl [] wc).drew
          refine tkW 0 rfl ?_; refine tkW 1 rfl ?_; refine tkW 2 rfl ?_; refine tkW 3 rfl ?_
          try simp only [Act.put, List.setIfInBounds_toArray, List.set_cons_zero, List.set_cons_succ, List.getElem_toArray, List.getElem_cons_succ, List.getElem_cons_zero]
          refine tkW 4 rfl ?_ (by intro w'' hSw; (try dsimp only at hSw); obtain ⟨l0, l1, l2⟩ := HXA.out _ hSw; simp only [List.getElem_toArray, List.getElem_cons_succ, List.getElem_cons_zero]; (go_simp <;> with_reducible rfl))
          try simp only [Act.put, List.setIfInBounds_toArray, List.set_cons_zero, List.set_cons_succ, List.getElem_toArray, List.getElem_cons_succ, List.getElem_cons_zero]
          refine tkW 5 rfl ?_; refine tkW 6 rfl ?_; refine tkW 7 rfl ?_; refine tkW 8 rfl ?_
          try simp only [Act.put, List.setIfInBounds_toArray, List.set_cons_zero, List.set_cons_succ, List.getElem_toArray, List.getElem_cons_succ, List.getElem_cons_zero]
          refine tkW 9 rfl ?_ (by intro w'' hSw; (try dsimp only at hSw); obtain ⟨d0, d1, d2, d3, d4, d5, d6, d7, d8, d9, d10, d11, d12, d13, d14, d15, d16⟩ := HL0.out _ hSw; simp only [List.getElem_toArray, List.getElem_cons_succ, List.getElem_cons_zero]; (go_simp <;> with_reducible rfl))
          try simp only [Act.put, List.setIfInBounds_toArray, List.set_cons_zero, List.set_cons_succ, List.getElem_toArray, List.getElem_cons_succ, List.getElem_cons_zero]
          refine tkW (v := .bool false) 10 rfl ?_ (by intro w'' hSw; (try dsimp only at hSw); simp only [List.getElem_toArray, List.getElem_cons_succ, List.getElem_cons_zero]; (go_simp <;> rfl))
          try simp only [Act.put, List.setIfInBounds_toArray, List.set_cons_zero, List.set_cons_succ, List.getElem_toArray, List.getElem_cons_succ, List.getElem_cons_zero]
          refine tkW 11 rfl ?_; refine tkW 12 rfl ?_; refine tkW 13 rfl ?_; refine tkW 14 rfl ?_
          try simp only [Act.put, List.setIfInBounds_toArray, List.set_cons_zero, List.set_cons_succ, List.getElem_toArray, List.getElem_cons_succ, List.getElem_cons_zero]
          refine tkW 15 rfl ?_
          try simp only [Act.put, List.setIfInBounds_toArray, List.set_cons_zero, List.set_cons_succ, List.getElem_toArray, List.getElem_cons_succ, List.getElem_cons_zero]
          refine tkW 16 rfl ?_ (by intro w'' hSw; (try dsimp only at hSw); obtain ⟨l0, l1, l2⟩ := HYS.out _ hSw; simp only [List.getElem_toArray, List.getElem_cons_succ, List.getElem_cons_zero]; (go_simp <;> with_reducible rfl))
          try simp only [Act.put, List.setIfInBounds_toArray, List.set_cons_zero, List.set_cons_succ, List.getElem_toArray, List.getElem_cons_succ, List.getElem_cons_zero]
          refine tkW 17 rfl ?_; refine tkW 18 rfl ?_; refine tkW 19 rfl ?_; refine tkW 20 rfl ?_
          try simp only [Act.put, List.setIfInBounds_toArray, List.set_cons_zero, List.set_cons_succ, List.getElem_toArray, List.getElem_cons_succ, List.getElem_cons_zero]
          refine tkW 21 rfl ?_ (by intro w'' hSw; (try dsimp only at hSw); obtain ⟨d0, d1, d2, d3, d4, d5, d6, d7, d8, d9, d10, d11, d12, d13, d14, d15, d16⟩ := HL0.out _ hSw; simp only [List.getElem_toArray, List.getElem_cons_succ, List.getElem_cons_zero]; (go_simp <;> with_reducible rfl))
          try simp only [Act.put, List.setIfInBounds_toArray, List.set_cons_zero, List.set_cons_succ, List.getElem_toArray, List.getElem_cons_succ, List.getElem_cons_zero]
          refine tkW (v := .bool false) 22 rfl ?_ (by intro w'' hSw; (try dsimp only at hSw); simp only [List.getElem_toArray, List.getElem_cons_succ, List.getElem_cons_zero]; (go_simp <;> rfl))
          try simp only [Act.put, List.setIfInBounds_toArray, List.set_cons_zero, List.set_cons_succ, List.getElem_toArray, List.getElem_cons_succ, List.getElem_cons_zero]
          refine tkW 23 rfl ?_
          try simp only [Act.put, List.setIfInBounds_toArray, List.set_cons_zero, List.set_cons_succ, List.getElem_toArray, List.getElem_cons_succ, List.getElem_cons_zero]
          refine wpAnyH_done (by kernel_rfl) ?_ _
          go_wp2_with fail
          go_roundg (i - (p + 1))
          case measure => have := H8.out.2; omega
          case rel => exact ⟨p + 1, by go_num, ⟨by omega, rfl⟩, HO2.out.trans (Only.refl [] wc).drew⟩
    · have hpl : ¬ (p : Int) < (i : Int) := by omega
      go_wp2_with fail
      exact HO.out

end Go.Proofs.Ytpegjobehdihbaa
