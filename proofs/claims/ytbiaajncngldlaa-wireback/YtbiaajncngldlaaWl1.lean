/- What was asked, or told, is read again: plain facts, no condition but those typed. -/
import Derived.Test.YtbiaajncngldlaaWj3
import Derived.Test.YtbiaajncngldlaaWk1
namespace Go.Proofs.Ytbiaajncngldlaa
open Go.ChangeShapes Go.WideShapes Go.ChangeAt Go.RowKit
set_option linter.unusedVariables false
set_option linter.unusedSimpArgs false

theorem flat_bits (f : Int → List Nat) (h : ∀ n, Bits (f n)) (xs : List Int) : Bits (xs.flatMap f) := by
  intro b hb
  obtain ⟨n, _, q⟩ := List.mem_flatMap.1 hb
  exact h n b q
theorem askT_ok (c : Cm) : Bits (askT c) := by
  unfold askT
  refine Bits.app (Bits.app (Bits.app (flat_bits _ (fun n => varB_bits _) _) (flat_bits _ (fun n => putB_bits _ _) _)) ?_) ?_
  · split
    · exact flat_bits _ (fun n => varB_bits _) _
    · exact Bits.nil
  · split
    · exact flat_bits _ (fun n => varB_bits _) _
    · exact Bits.nil
theorem tellT_ok (p : Pc) (L : List Nat) : Bits (tellT p L) := by
  unfold tellT
  exact Bits.app (Bits.app (Bits.app (flat_bits _ (fun n => varB_bits _) _) (flat_bits _ (fun n => putB_bits _ _) _)) (flat_bits _ (fun n => putB_bits _ _) _)) (flat_bits _ (fun n => putB_bits _ _) _)
theorem aV_at {L a c : List Nat} {n p : Nat} (h : bitsOf L = a ++ varB n ++ c) (hp : p = a.length) (hn : n ≤ 4611686018427387903) : aV L p = (0, n, (a ++ varB n).length) := by
  subst hp
  unfold aV
  rw [numM_back 4611686018427387903 n L a c h hn (by decide), List.length_append]
theorem iM_at {L a c : List Nat} {n : Int} {p : Nat} (h : bitsOf L = a ++ varB (codeM n) ++ c) (hp : p = a.length) (hn : ¬ badInt n) : intM L p = (0, n, (a ++ varB (codeM n)).length) := by
  subst hp
  rw [intM_back n L a c h hn, List.length_append]
theorem gM_at {L a c : List Nat} {k wd p : Nat} (h : bitsOf L = a ++ putB k wd ++ c) (hp : p = a.length) (hk : k < 2 ^ wd) (hw : wd ≤ 62) : getM L p (wd : Int) = (0, (k : Int), (a ++ putB k wd).length) := by
  subst hp
  have hl := congrArg List.length h
  rw [bitsOf_len, List.length_append, List.length_append, putB_len] at hl
  unfold getM
  rw [if_neg (by simp; omega), if_neg (by simp; omega), Int.toNat_natCast, h, take_mid' a (putB k wd) c a.length wd rfl (putB_len _ _), valB_putB, Nat.mod_eq_of_lt hk, List.length_append, putB_len]
theorem bytes_bits {T : List Nat} (h : Bits T) : ∃ pad, bitsOf (bytesOf T) = T ++ pad := ⟨_, bitsOf_bytesOf h⟩
theorem vars3 (a b c : Int) : varsB [a, b, c] = varB a.toNat ++ varB b.toNat ++ varB c.toNat := by simp [varsB]
theorem ints3 (a b c : Int) : intsB [a, b, c] = varB (codeM a) ++ varB (codeM b) ++ varB (codeM c) := by simp [intsB]
theorem vars1 (a : Int) : varsB [a] = varB a.toNat := by simp [varsB]
theorem puts1 (wd : Nat) (a : Int) : putsB wd [a] = putB a.toNat wd := by simp [putsB]
/-- What Ask wrote is asked again. -/
theorem asked_back (c : Cm) (hk : 0 ≤ c.kd ∧ c.kd ≤ 2) (ok : askOk c) : askedGood (bytesOf (askT c)) ∧ askedC (bytesOf (askT c)) = bareM c := by
  obtain ⟨pad, hb⟩ := bytes_bits (askT_ok c)
  obtain ⟨ok1, ok2⟩ := ok
  have r := inM_all ok1
  have r0 := r c.tk (by simp); have r1 := r c.nm (by simp); have r2 := r c.sn (by simp); have r4 := r (bareM c).bd (by simp)
  have s := inM_all ok2
  have s5 := s (bareM c).x (by simp); have s6 := s (bareM c).y (by simp); have s7 := s (bareM c).z (by simp)
  have okB : askOk (bareM c) ∧ askT (bareM c) = askT c := by
    obtain ⟨tk, nm, sn, kd, bd, x, y, z⟩ := c
    simp only at hk
    rcases (show kd = 0 ∨ kd = 1 ∨ kd = 2 by omega) with rfl | rfl | rfl
    · exact ⟨⟨ok1, ok2⟩, rfl⟩
    · exact ⟨⟨ok1, ok2⟩, rfl⟩
    · exact ⟨⟨ok1, ok2⟩, rfl⟩
  generalize hL : bytesOf (askT c) = L at hb ⊢
  obtain ⟨tk, nm, sn, kd, bd, x, y, z⟩ := c
  simp only at hk r0 r1 r2
  have key : askedC L = bareM ⟨tk, nm, sn, kd, bd, x, y, z⟩ ∧ askedB L = false := by
    have e0 : a0 L = (0, tk.toNat, ([] ++ varB tk.toNat).length) := aV_at (c := varB nm.toNat ++ varB sn.toNat ++ putB kd.toNat 2 ++ (if kd = 1 ∨ kd = 2 then varsB [bd] else []) ++ (if kd = 1 then intsB [x, y, z] else []) ++ pad) (by rw [hb]; simp [askT, vars3, puts1]) rfl (by omega)
    have e1 : a1 L = (0, nm.toNat, ([] ++ varB tk.toNat ++ varB nm.toNat).length) := aV_at (c := varB sn.toNat ++ putB kd.toNat 2 ++ (if kd = 1 ∨ kd = 2 then varsB [bd] else []) ++ (if kd = 1 then intsB [x, y, z] else []) ++ pad) (by rw [hb]; simp [askT, vars3, puts1]) (by rw [e0]) (by omega)
    have e2 : a2 L = (0, sn.toNat, ([] ++ varB tk.toNat ++ varB nm.toNat ++ varB sn.toNat).length) := aV_at (c := putB kd.toNat 2 ++ (if kd = 1 ∨ kd = 2 then varsB [bd] else []) ++ (if kd = 1 then intsB [x, y, z] else []) ++ pad) (by rw [hb]; simp [askT, vars3, puts1]) (by rw [e1]) (by omega)
    have e3 : a3 L = (0, ((kd.toNat : Nat) : Int), ([] ++ varB tk.toNat ++ varB nm.toNat ++ varB sn.toNat ++ putB kd.toNat 2).length) := gM_at (c := (if kd = 1 ∨ kd = 2 then varsB [bd] else []) ++ (if kd = 1 then intsB [x, y, z] else []) ++ pad) (by rw [hb]; simp [askT, vars3, puts1]) (by rw [e2]) (by omega) (by omega)
    rcases (show kd = 0 ∨ kd = 1 ∨ kd = 2 by omega) with rfl | rfl | rfl
    · have k0 : (a3 L).2.1 = 0 := by rw [e3]; rfl
      constructor
      · unfold askedC
        rw [k0, if_neg (by decide), if_neg (by decide), e0, e1, e2]
        show Cm.mk _ _ _ _ _ _ _ _ = _
        simp [bareM]; omega
      · unfold askedB
        rw [k0, if_neg (by decide), if_neg (by decide)]
        simp [bad3, dE, e0, e1, e2, e3]
    · have k1 : (a3 L).2.1 = 1 := by rw [e3]; rfl
      have r4' : 0 ≤ bd ∧ bd ≤ 70368744177664 := r4
      have s5' : -6553600 ≤ x ∧ x ≤ 6553600 := s5
      have s6' : -6553600 ≤ y ∧ y ≤ 6553600 := s6
      have s7' : -6553600 ≤ z ∧ z ≤ 6553600 := s7
      have e4 : b4 L = (0, bd.toNat, ([] ++ varB tk.toNat ++ varB nm.toNat ++ varB sn.toNat ++ putB (Int.toNat 1) 2 ++ varB bd.toNat).length) := aV_at (c := varB (codeM x) ++ varB (codeM y) ++ varB (codeM z) ++ pad) (by rw [hb]; simp [askT, vars3, vars1, puts1, ints3]) (by rw [e3]) (by omega)
      have e5 : b5 L = (0, x, ([] ++ varB tk.toNat ++ varB nm.toNat ++ varB sn.toNat ++ putB (Int.toNat 1) 2 ++ varB bd.toNat ++ varB (codeM x)).length) := iM_at (c := varB (codeM y) ++ varB (codeM z) ++ pad) (by rw [hb]; simp [askT, vars3, vars1, puts1, ints3]) (by rw [e4]) (by unfold badInt; omega)
      have e6 : b6 L = (0, y, ([] ++ varB tk.toNat ++ varB nm.toNat ++ varB sn.toNat ++ putB (Int.toNat 1) 2 ++ varB bd.toNat ++ varB (codeM x) ++ varB (codeM y)).length) := iM_at (c := varB (codeM z) ++ pad) (by rw [hb]; simp [askT, vars3, vars1, puts1, ints3]) (by rw [e5]) (by unfold badInt; omega)
      have e7 : b7 L = (0, z, ([] ++ varB tk.toNat ++ varB nm.toNat ++ varB sn.toNat ++ putB (Int.toNat 1) 2 ++ varB bd.toNat ++ varB (codeM x) ++ varB (codeM y) ++ varB (codeM z)).length) := iM_at (c := pad) (by rw [hb]; simp [askT, vars3, vars1, puts1, ints3]) (by rw [e6]) (by unfold badInt; omega)
      constructor
      · unfold askedC
        rw [k1, if_pos rfl, e0, e1, e2, e4, e5, e6, e7]
        simp [bareM]; omega
      · unfold askedB
        rw [k1, if_pos rfl]
        simp [bad3, dE, e0, e1, e2, e3, e4, e5, e6, e7]
    · have k2 : (a3 L).2.1 = 2 := by rw [e3]; rfl
      have r4' : 0 ≤ bd ∧ bd ≤ 70368744177664 := r4
      have e4 : b4 L = (0, bd.toNat, ([] ++ varB tk.toNat ++ varB nm.toNat ++ varB sn.toNat ++ putB (Int.toNat 2) 2 ++ varB bd.toNat).length) := aV_at (c := pad) (by rw [hb]; simp [askT, vars3, vars1, puts1, ints3]) (by rw [e3]) (by omega)
      constructor
      · unfold askedC
        rw [k2, if_neg (by decide), if_pos rfl, e0, e1, e2, e4]
        simp [bareM]; omega
      · unfold askedB
        rw [k2, if_neg (by decide), if_pos rfl]
        simp [bad3, dE, e0, e1, e2, e3, e4]
  refine ⟨⟨key.2, by rw [key.1]; exact hk, by rw [key.1]; exact okB.1, ?_⟩, key.1⟩
  rw [key.1, okB.2, hL]
  exact sameB_refl L
/-- What Tell wrote is told again. -/
theorem told_back (p : Pc) (B : List Nat) (hs : ∀ x ∈ B, x < 256) (ok : tellOk p B.length) : toldGood (bytesOf (tellT p B)) ∧ toldP (bytesOf (tellT p B)) = p ∧ toldY (bytesOf (tellT p B)) = B := by
  obtain ⟨pad, hb⟩ := bytes_bits (tellT_ok p B)
  generalize hL : bytesOf (tellT p B) = L at hb ⊢
  obtain ⟨st, ba, ix, mn⟩ := p
  obtain ⟨o1, o2, o3, o4⟩ := ok
  simp only at o1 o2 o3
  have hT : tellT ⟨st, ba, ix, mn⟩ B = varB st.toNat ++ varB ba.toNat ++ putB mn.toNat 6 ++ putB ix.toNat 6 ++ putB B.length 7 ++ bitsOf B := by
    unfold tellT bitsOf
    have e : putsB 8 (B.map (fun c : Nat => (c : Int))) = B.flatMap (fun c => putB c 8) := by
      unfold putsB
      rw [List.flatMap_map]
      rfl
    rw [e]
    simp [varsB, putsB]
  rw [hT] at hb
  have e0 : a0 L = (0, st.toNat, ([] ++ varB st.toNat).length) := aV_at (c := varB ba.toNat ++ putB mn.toNat 6 ++ putB ix.toNat 6 ++ putB B.length 7 ++ bitsOf B ++ pad) (by rw [hb]; simp) rfl (by omega)
  have e1 : a1 L = (0, ba.toNat, ([] ++ varB st.toNat ++ varB ba.toNat).length) := aV_at (c := putB mn.toNat 6 ++ putB ix.toNat 6 ++ putB B.length 7 ++ bitsOf B ++ pad) (by rw [hb]; simp) (by rw [e0]) (by omega)
  have e2 : t2 L = (0, ((mn.toNat : Nat) : Int), ([] ++ varB st.toNat ++ varB ba.toNat ++ putB mn.toNat 6).length) := gM_at (c := putB ix.toNat 6 ++ putB B.length 7 ++ bitsOf B ++ pad) (by rw [hb]; simp) (by rw [e1]) (by omega) (by omega)
  have e3 : t3 L = (0, ((ix.toNat : Nat) : Int), ([] ++ varB st.toNat ++ varB ba.toNat ++ putB mn.toNat 6 ++ putB ix.toNat 6).length) := gM_at (c := putB B.length 7 ++ bitsOf B ++ pad) (by rw [hb]; simp) (by rw [e2]) (by omega) (by omega)
  have e4 : t4 L = (0, ((B.length : Nat) : Int), ([] ++ varB st.toNat ++ varB ba.toNat ++ putB mn.toNat 6 ++ putB ix.toNat 6 ++ putB B.length 7).length) := gM_at (c := bitsOf B ++ pad) (by rw [hb]; simp) (by rw [e3]) (by omega) (by omega)
  have hp : toldP L = ⟨st, ba, ix, mn⟩ := by
    unfold toldP
    rw [e0, e1, e2, e3]
    simp; omega
  have hn : toldN L = B.length := by unfold toldN; rw [e4]; rfl
  have ht5 : tb5 L = false := by simp [tb5, dE, e0, e1, e2, e3, e4]
  have hI : ∀ i, i ≤ B.length → toldI L i = (B.take i, false, (([] ++ varB st.toNat ++ varB ba.toNat ++ putB mn.toNat 6 ++ putB ix.toNat 6 ++ putB B.length 7) ++ bitsOf (B.take i)).length) := by
    intro i
    induction i with
    | zero => intro _; unfold toldI bIter; rw [ht5, e4]; simp [bitsOf]
    | succ i ih =>
      intro hi
      have h1 := ih (by omega)
      have hB : B[i]'(by omega) < 256 := hs _ (List.getElem_mem (by omega))
      have ht : B.take (i + 1) = B.take i ++ [B[i]'(by omega)] := List.take_succ_eq_append_getElem (by omega)
      have hbt : bitsOf (B.take (i + 1)) = bitsOf (B.take i) ++ putB (B[i]'(by omega)) 8 := by
        rw [ht]; unfold bitsOf; rw [List.flatMap_append]
        simp only [List.flatMap_cons, List.flatMap_nil, List.append_nil]
      have hspl : bitsOf B = bitsOf (B.take i) ++ putB (B[i]'(by omega)) 8 ++ bitsOf (B.drop (i + 1)) := by
        rw [← hbt]
        unfold bitsOf
        rw [← List.flatMap_append, List.take_append_drop]
      have hg : getM L (toldI L i).2.2 ((8 : Nat) : Int) = (0, ((B[i]'(by omega) : Nat) : Int), (([] ++ varB st.toNat ++ varB ba.toNat ++ putB mn.toNat 6 ++ putB ix.toNat 6 ++ putB B.length 7) ++ bitsOf (B.take i) ++ putB (B[i]'(by omega)) 8).length) :=
        gM_at (c := bitsOf (B.drop (i + 1)) ++ pad) (by rw [hb, hspl]; simp) (by rw [h1]) (by omega) (by omega)
      show bStep L (toldI L i) = _
      unfold bStep
      show ((toldI L i).1 ++ [(getM L (toldI L i).2.2 ((8 : Nat) : Int)).2.1.toNat], (toldI L i).2.1 || dE (getM L (toldI L i).2.2 ((8 : Nat) : Int)), (getM L (toldI L i).2.2 ((8 : Nat) : Int)).2.2) = _
      rw [hg, h1, hbt, ht, ← List.append_assoc]
      rfl
  have hI2 := hI B.length (Nat.le_refl _)
  have hy : toldY L = B := by
    unfold toldY
    rw [hn, hI2, List.take_length]
  refine ⟨⟨by rw [hn, hI2], by rw [hp, hy]; exact ⟨o1, o2, o3, o4⟩, ?_⟩, hp, hy⟩
  rw [hp, hy, hL]
  exact sameB_refl L
theorem chunks_all (L : List Nat) (i : Nat) : (List.range i).flatMap (chunk L) = L.take (100 * i) := by
  induction i with
  | zero => simp
  | succ i ih =>
    rw [List.range_succ, List.flatMap_append, ih]
    simp only [List.flatMap_cons, List.flatMap_nil, List.append_nil]
    unfold chunk
    rw [show 100 * (i + 1) = 100 * i + 100 by omega, List.take_add]
end Go.Proofs.Ytbiaajncngldlaa
