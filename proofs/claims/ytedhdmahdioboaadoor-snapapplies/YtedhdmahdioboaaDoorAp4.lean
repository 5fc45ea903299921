/- Rows of seen ones: laid behind each other, cut; slices.BinarySearchFunc over them: whichever they are. -/
import Derived.Test.YtedhdmahdioboaaDoorAp3
import Derived.Test.YtedhdmahdioboaaDoorCmp
import Derived.Deep.MidRow
namespace Go.Proofs.YtedhdmahdioboaaDoor
open Go.ChangeShapes Go.WideShapes Go.ChangeAt Go.RowKit
set_option linter.unusedVariables false
set_option linter.unusedSimpArgs false

def rowS (L : List Sn) : List Value := (List.range (L.length * 11)).map (fun j => sc (L.getD (j / 11) zs) (j % 11))
theorem rowS_len (L : List Sn) : (rowS L).length = L.length * 11 := by simp [rowS]
theorem rowS_at (L : List Sn) (j : Nat) (h : j < L.length * 11) : (rowS L)[j]? = some (sc (L.getD (j / 11) zs) (j % 11)) := by simp [rowS, h]
theorem rowS_out (L : List Sn) (j : Nat) (h : ¬ j < L.length * 11) : (rowS L)[j]? = none := by rw [List.getElem?_eq_none]; rw [rowS_len]; omega
theorem rowS_app (A B : List Sn) : rowS A ++ rowS B = rowS (A ++ B) := by
  apply List.ext_getElem?
  intro j
  by_cases h : j < A.length * 11
  · rw [List.getElem?_append_left (by rw [rowS_len]; exact h), rowS_at _ _ h, rowS_at _ _ (by rw [List.length_append]; omega), List.getD_eq_getElem?_getD, List.getD_eq_getElem?_getD, List.getElem?_append_left (by omega)]
  · rw [List.getElem?_append_right (by rw [rowS_len]; omega), rowS_len]
    by_cases h2 : j < (A ++ B).length * 11
    · have h3 : j - A.length * 11 < B.length * 11 := by rw [List.length_append] at h2; omega
      have e1 : (j - A.length * 11) / 11 = j / 11 - A.length := by omega
      have e2 : (j - A.length * 11) % 11 = j % 11 := by omega
      rw [rowS_at _ _ h3, rowS_at _ _ h2, e1, e2, List.getD_eq_getElem?_getD, List.getD_eq_getElem?_getD, List.getElem?_append_right (by omega)]
    · rw [rowS_out _ _ h2, rowS_out _ _ (by rw [List.length_append] at h2; omega)]
theorem sc_one (s : Sn) (k : Nat) : (sc s k).oneCell' = true := by unfold sc; split <;> rfl
theorem rowS_one (L : List Sn) : ∀ u ∈ rowS L, u.oneCell' = true := by
  intro u hu
  obtain ⟨j, _, rfl⟩ := List.mem_map.1 hu
  exact sc_one _ _
theorem rowS_nil : rowS [] = [] := rfl
theorem seen_news {w : World} {g o : Nat} {L : List Sn} (h : SeenAt w (some ⟨g, o, none⟩) L.length (fun j => L.getD j zs)) : ∀ j u, (rowS L)[j]? = some u → w.cell? ((⟨g, o, none⟩ : Addr).add j) = some u := by
  intro j u hj
  by_cases hl : j < L.length * 11
  · rw [rowS_at _ _ hl] at hj
    obtain ⟨g', o', e, hc⟩ := h (j / 11) (by omega)
    injection e with e
    injection e with e1 e2 _
    subst e1 e2
    have := hc (j % 11) (by omega)
    rw [Addr.add_mid, ← hj, ← this]
    congr 2
    omega
  · rw [rowS_out _ _ hl] at hj; cases hj
theorem snapInfo : (Tryd.prog.info? 57).map (fun i => (i.zero, i.size, i.bytes)) = some (some (.agg #[.int .i64 0, .int .i64 0, .int .i64 0, .int .i64 0, .int .i64 0, .int .i64 0, .int .i64 0, .int .i64 0, .int .i64 0, .int .i64 0, .int .i64 0]), 11, 88) := by kernel_rfl
theorem refInfo : (Tryd.prog.info? 54).map (fun i => (i.zero, i.size, i.bytes)) = some (some (.agg #[.int .i64 0, .int .i64 0, .int .i64 0, .int .i64 0, .int .i64 0, .int .i64 0, .int .i64 0, .int .i64 0, .int .i64 0, .int .i64 0, .int .i64 0]), 11, 88) := by kernel_rfl
/-- A type of seen ones: of its slices, of its elements. -/
structure SnT (t e : TypeId) : Prop where
  und : Tryd.prog.underlying t = some (.slice e)
  info : (Tryd.prog.info? e).map (fun i => (i.zero, i.size, i.bytes)) = some (some (.agg #[.int .i64 0, .int .i64 0, .int .i64 0, .int .i64 0, .int .i64 0, .int .i64 0, .int .i64 0, .int .i64 0, .int .i64 0, .int .i64 0, .int .i64 0]), 11, 88)
theorem snapT : SnT 23 57 := ⟨Tryd.underlying23, snapInfo⟩
theorem refT : SnT 25 54 := ⟨Tryd.underlying25, refInfo⟩
theorem infoS {P : Program} {t : TypeId} {z : Value} {n b : Nat} (h : (P.info? t).map (fun i => (i.zero, i.size, i.bytes)) = some (some z, n, b)) : ∃ i, P.info? t = some i ∧ i.zero = some z ∧ i.size = n ∧ i.bytes = b := by
  cases hi : P.info? t with
  | none => rw [hi] at h; cases h
  | some i =>
    rw [hi] at h
    simp only [Option.map_some, Option.some.injEq, Prod.mk.injEq] at h
    exact ⟨i, rfl, h.1, h.2.1, h.2.2⟩
theorem ownS_shape {w : World} {b s : Nat} {T : TypeId} {v : Value} {n : Nat} {xs : List Value} (h : w.ownsRow b T s v n xs) : ∃ a c, v = .slice a n c ∧ n ≤ c ∧ (a = none → c = 0) := by
  obtain ⟨_, ⟨rfl, rfl⟩ | ⟨g, cap, cur, rfl, _, _, h1, _⟩⟩ := h
  · exact ⟨none, 0, rfl, Nat.le_refl _, fun _ => rfl⟩
  · exact ⟨_, _, rfl, h1, fun e => by cases e⟩
theorem own_sv {w : World} {b : Nat} {T : TypeId} {v : Value} {R : List Sn} (h : w.ownsRow b T 11 v R.length (rowS R)) : SvAt w v R ∧ NilOk v := by
  obtain ⟨a, c, rfl, hc, hn⟩ := ownS_shape h
  refine ⟨⟨a, c, rfl, hc, fun j hj => ?_⟩, fun n' c' e => ?_⟩
  · have h2 := h
    obtain ⟨_, ⟨e, e0⟩ | ⟨g, cap, cur, e, _, _, _, _⟩⟩ := h
    · omega
    · injection e with e1 _ e3
      subst e1 e3
      refine ⟨g, 0, rfl, fun k hk => ?_⟩
      rw [World.ownsRow.cellAt h2 _ (by omega), Nat.zero_add, rowS_at _ _ (by omega)]
      have q1 : (j * 11 + k) / 11 = j := by omega
      have q2 : (j * 11 + k) % 11 = k := by omega
      rw [q1, q2]
  · injection e with e1 _ e3
    subst e1 e3
    exact hn rfl
set_option maxRecDepth 100000 in
/-- Seen ones behind seen ones, whichever they are. -/
theorem run_appendS {t e : TypeId} (hT : SnT t e) (w : World) (base : Nat) (ty : TypeId) (v : Value) (A : List Sn) (hown : w.ownsRow base e 11 v A.length (rowS A)) (a : Option Addr) (c : Nat) (B : List Sn) (hb : SeenAt w a B.length (fun j => B.getD j zs)) (hn : a = none → c = 0) (hc : B.length ≤ c) (hl : A.length + B.length ≤ 1000000) (hbase : base ≤ w.heap.size) :
    ∃ v' w', (Builtin.append_ #[t, t] ty #[v, .slice a B.length c]).run Tryd.prog w = .ok v' w' ∧ w'.ownsRow base e 11 v' (A ++ B).length (rowS (A ++ B)) ∧ w.grownBy w' v.ownBlock ∧ (v'.ownBlock = v.ownBlock ∨ v'.ownBlock = some w.heap.size) := by
  obtain ⟨i0, hi0, hz0, hz1, hz2⟩ := infoS hT.info
  cases a with
  | none =>
    obtain rfl := hn rfl
    obtain rfl : B = [] := List.length_eq_zero_iff.1 (by omega)
    refine ⟨_, _, run_append_owned_none (P := Tryd.prog) w base t ty e i0 11 hT.und hi0 v A.length (rowS A) hown, by simpa using hown, ⟨rfl, rfl, rfl, Nat.le_refl _, fun _ _ _ => rfl⟩, Or.inl rfl⟩
  | some ad =>
    obtain ⟨g, o, s⟩ := ad
    have hnews : ∀ j u, (rowS B)[j]? = some u → w.cell? ((⟨g, o, s⟩ : Addr).add j) = some u := by
      intro j u hj
      by_cases h0 : B.length = 0
      · rw [List.length_eq_zero_iff.1 h0] at hj; simp [rowS] at hj
      · obtain ⟨g', o', e', _⟩ := hb 0 (by omega)
        injection e' with e'
        injection e' with e1 e2 e3
        subst e1 e2 e3
        exact seen_news hb j u hj
    obtain ⟨v', w', h1, h2, h3, _, h5⟩ := run_append_own_at (P := Tryd.prog) w base t ty e i0 _ 11 88 hT.und hi0 hz0 hz1 hz2 rfl (by decide) v A.length (rowS A) hown ⟨g, o, s⟩ B.length c (rowS B) (rowS_len B) hnews (rowS_one B) (by unfold maxLen; omega) (by omega) hbase
    rw [rowS_app, ← List.length_append] at h2
    exact ⟨v', w', h1, h2, h3, h5⟩
theorem wpList_appendS {ops : Array Oper} {rest : List Oper} {o : Oper} {ac : Act} {w : World} {Q : Exit → Act → World → Prop} {t e : TypeId} (hT : SnT t e) (hgd : o.guard = none) (s x : Operand)
    (ho : o.op = .call { callee := .builtin .append, args := #[s, x], argTypes := #[t, t] }) (base : Nat) (v : Value) (A : List Sn) (hs : ac.eval s = v) (hown : w.ownsRow base e 11 v A.length (rowS A)) (a : Option Addr) (m c : Nat) (B : List Sn) (hx : ac.eval x = .slice a m c) (hm : m = B.length) (hb : SeenAt w a B.length (fun j => B.getD j zs)) (hn : a = none → c = 0) (hc : B.length ≤ c) (hl : A.length + B.length ≤ 1000000) (hbase : base ≤ w.heap.size)
    (h : ∀ v' w', w'.ownsRow base e 11 v' (A ++ B).length (rowS (A ++ B)) → w.grownBy w' v.ownBlock → (v'.ownBlock = v.ownBlock ∨ v'.ownBlock = some w.heap.size) → wpList Tryd.prog ops Q rest (ac.put o.dst v') w') : wpList Tryd.prog ops Q (o :: rest) ac w := by
  subst hm
  refine wpList_plain hgd fun K hK => ?_
  obtain ⟨v', w', hr, h2, h3, h4⟩ := run_appendS hT w base o.type v A hown a c B hb hn hc hl hbase
  unfold Oper.wp execOp
  simp only [ho, resolve, invoke, builtin, Sem.run_bind, Sem.run_pure, Result.andThen_ok, List.map_toArray, List.map_cons, List.map_nil, hs, hx, hr]
  exact hK _ _ (h v' w' h2 h3 h4)
/-! Slices cut. -/
def fromS (a : Option Addr) (c k : Nat) : Option Addr := if c = k then a else a.map (·.add (k * 11))
theorem add_zeroS (a : Addr) : a.add 0 = a := by unfold Addr.add; simp
theorem run_toS {ρ : Operand → Value} {o : Oper} {x y : Operand} {a : Option Addr} {n c k : Nat} {w : World} (T : TypeId) (hT : T = 23 ∨ T = 25) (ho : o.op = .slice T x none (some y) none) (hx : ρ x = .slice a n c) (hy : ρ y = .int .i64 (k : Int)) (hk : k ≤ c) :
    (execOp ρ o).run Tryd.prog w = .ok (.value (.slice a k c)) w := by
  have hk' : (k : Int) ≤ (c : Int) := by omega
  rcases hT with rfl | rfl
  all_goals
    unfold execOp
    rw [ho]
    simp only [hx, hy]
    go_simp
    try simp [add_zeroS]
    try (cases a <;> simp [add_zeroS])
theorem run_fromS {ρ : Operand → Value} {o : Oper} {x y : Operand} {a : Option Addr} {n c k : Nat} {w : World} (T : TypeId) (hT : T = 23 ∨ T = 25) (ho : o.op = .slice T x (some y) none none) (hx : ρ x = .slice a n c) (hy : ρ y = .int .i64 (k : Int)) (hk : k ≤ n) :
    (execOp ρ o).run Tryd.prog w = .ok (.value (.slice (fromS a c k) (n - k) (c - k))) w := by
  have hk' : (k : Int) ≤ (n : Int) := by omega
  rcases hT with rfl | rfl
  all_goals
    unfold execOp
    rw [ho]
    simp only [hx, hy]
    go_simp
    try rfl
theorem wpList_toS {ops : Array Oper} {rest : List Oper} {o : Oper} {ac : Act} {w : World} {Q : Exit → Act → World → Prop} (T : TypeId) (hT : T = 23 ∨ T = 25) (hg : o.guard = none) (x y : Operand) (a : Option Addr) (n c k : Nat) (ho : o.op = .slice T x none (some y) none) (hx : ac.eval x = .slice a n c) (hy : ac.eval y = .int .i64 (k : Int)) (hk : k ≤ c)
    (h : wpList Tryd.prog ops Q rest (ac.put o.dst (.slice a k c)) w) : wpList Tryd.prog ops Q (o :: rest) ac w := by
  refine wpList_plain hg fun K hK => ?_
  unfold Oper.wp
  rw [run_toS T hT ho hx hy hk, Oper.upon_value]
  exact hK _ _ h
theorem wpList_fromS {ops : Array Oper} {rest : List Oper} {o : Oper} {ac : Act} {w : World} {Q : Exit → Act → World → Prop} (T : TypeId) (hT : T = 23 ∨ T = 25) (hg : o.guard = none) (x y : Operand) (a : Option Addr) (n c k : Nat) (ho : o.op = .slice T x (some y) none none) (hx : ac.eval x = .slice a n c) (hy : ac.eval y = .int .i64 (k : Int)) (hk : k ≤ n)
    (h : wpList Tryd.prog ops Q rest (ac.put o.dst (.slice (fromS a c k) (n - k) (c - k))) w) : wpList Tryd.prog ops Q (o :: rest) ac w := by
  refine wpList_plain hg fun K hK => ?_
  unfold Oper.wp
  rw [run_fromS T hT ho hx hy hk, Oper.upon_value]
  exact hK _ _ h
theorem seen_take {w : World} {a : Option Addr} {L : List Sn} (h : SeenAt w a L.length (fun j => L.getD j zs)) (k : Nat) : SeenAt w a (L.take k).length (fun j => (L.take k).getD j zs) := by
  intro j hj
  rw [List.length_take] at hj
  obtain ⟨g, o, e, hc⟩ := h j (by omega)
  refine ⟨g, o, e, fun i hi => ?_⟩
  have := hc i hi
  simp only [List.getD_eq_getElem?_getD] at this ⊢
  rw [List.getElem?_take, if_pos (by omega)]
  exact this
theorem seen_drop {w : World} {a : Option Addr} {L : List Sn} {c k : Nat} (h : SeenAt w a L.length (fun j => L.getD j zs)) (hc : L.length ≤ c) : SeenAt w (fromS a c k) (L.drop k).length (fun j => (L.drop k).getD j zs) := by
  intro j hj
  rw [List.length_drop] at hj
  obtain ⟨g, o, rfl, hcell⟩ := h (k + j) (by omega)
  refine ⟨g, o + k * 11, ?_, fun i hi => ?_⟩
  · unfold fromS
    rw [if_neg (by omega), Option.map_some, Addr.add_mid]
  · have := hcell i hi
    simp only [List.getD_eq_getElem?_getD] at this ⊢
    rw [List.getElem?_drop, ← this]
    congr 2
    omega
theorem sv_drop {w : World} {a : Option Addr} {c : Nat} {L : List Sn} {k : Nat} (h : SeenAt w a L.length (fun j => L.getD j zs)) (hc : L.length ≤ c) (hk : k ≤ L.length) : SvAt w (.slice (fromS a c k) (L.length - k) (c - k)) (L.drop k) :=
  ⟨fromS a c k, c - k, by rw [List.length_drop], by rw [List.length_drop]; omega, seen_drop h hc⟩
theorem nil_drop {a : Option Addr} {c n k : Nat} (h : a = none → c = 0) : NilOk (.slice (fromS a c k) n (c - k)) := by
  intro n' c' e
  injection e with e1 _ e3
  unfold fromS at e1
  cases a with
  | none => have := h rfl; omega
  | some ad =>
    split at e1
    · cases e1
    · rw [Option.map_some] at e1; cases e1
/-! Where a number stands. -/
theorem cmpView_calls (s : Sn) (id : Int) (w : World) : Calls Tryd.prog 39 #[.agg #[.int .i64 (s.id), .int .i64 (s.kd), .int .i64 (s.sx), .int .i64 (s.sy), .int .i64 (s.sz), .int .i64 (s.ax), .int .i64 (s.ay), .int .i64 (s.az), .int .i64 (s.vx), .int .i64 (s.vy), .int .i64 (s.vz)], .int .i64 id] w fun e w' => e = .returned (.int .i64 (cmpI s.id id)) ∧ Only [] w w' := by
  go_enter Tryd.func39, Tryd.ntmps39
  go_wp2_with fail
  refine (compare_calls _ _ _).mono ?_
  rintro e w1 ⟨rfl, rfl⟩
  go_wp2_with fail
  go_ret
  exact ⟨rfl, (Only.refl [] w).alloc _⟩
def StopsS (L : List Sn) (id : Int) (r : Nat) : Prop := r ≤ L.length ∧ (r = 0 ∨ (L.getD (r - 1) zs).id < id) ∧ (r = L.length ∨ id ≤ (L.getD r zs).id)
def SearchPost (L : List Sn) (id : Int) (w : World) (e : Ending) (w' : World) : Prop := ∃ (r : Nat) (b : Bool), e = .returned (.tuple #[.int .i64 ((r : Int)), .bool b]) ∧ StopsS L id r ∧ Only [] w w'
set_option maxRecDepth 100000 in
set_option maxHeartbeats 2000000 in
theorem searchS_calls (L : List Sn) (id : Int) (v : Value) (w : World) (h : SvAt w v L) (hl : L.length ≤ 1000) :
    Calls Tryd.prog 38 #[v, .int .i64 id, .func (.func 39) #[] #[]] w (SearchPost L id w) := by
  obtain ⟨a, c, rfl, hc, hv⟩ := h
  have HB : Hid (SeenAt w a L.length (fun j => L.getD j zs) ∧ L.length ≤ 1000) := ⟨hv, hl⟩
  clear hv hl hc
  go_enter Tryd.func38, Tryd.ntmps38
  go_wp2_with fail
  go_loopg [9, 10] L.length (fun k iv jv wr => ∃ i j : Nat, iv = .int .i64 (i : Int) ∧ jv = .int .i64 (j : Int) ∧ Hid (i ≤ j ∧ j ≤ L.length ∧ k = j - i ∧ (i = 0 ∨ (L.getD (i - 1) zs).id < id) ∧ (j = L.length ∨ id ≤ (L.getD j zs).id)) ∧ Hid (Only [] w wr))
  case atStart => exact ⟨0, L.length, rfl, rfl, ⟨by omega, by omega, rfl, Or.inl rfl, Or.inl rfl⟩, Only.refl _ _⟩
  case round =>
    obtain ⟨i, j, rfl, rfl, H1, HO⟩ := hrel
    have hn := HB.out.2
    by_cases hij : i < j
    · have hijl : (i : Int) < (j : Int) := by omega
      have hj := H1.out.2.1
      obtain ⟨h, hh⟩ : ∃ h, h = (i + j) / 2 := ⟨_, rfl⟩
      have hhf : ((i : Int) + (j : Int)) / 2 = (h : Int) := by omega
      have HH : Hid (i ≤ h ∧ h < j) := ⟨by omega, by omega⟩
      have hhl : (h : Int) < (L.length : Int) := by omega
      clear hh
      obtain ⟨g, o, rfl, hcell⟩ := (HB.out.1.only HO.out) h (by have := HH.out; omega)
      have z0 := hcell 0 (by omega); have z1 := hcell 1 (by omega); have z2 := hcell 2 (by omega); have z3 := hcell 3 (by omega)
      have z4 := hcell 4 (by omega); have z5 := hcell 5 (by omega); have z6 := hcell 6 (by omega); have z7 := hcell 7 (by omega)
      have z8 := hcell 8 (by omega); have z9 := hcell 9 (by omega); have z10 := hcell 10 (by omega)
      clear hcell
      obtain ⟨s, hs⟩ : ∃ s, L.getD h zs = s := ⟨_, rfl⟩
      simp only [hs] at z0 z1 z2 z3 z4 z5 z6 z7 z8 z9 z10
      have HS : Hid (L.getD h zs = s) := hs
      clear hs
      simp only [sc, Nat.add_zero] at z0 z1 z2 z3 z4 z5 z6 z7 z8 z9 z10
      go_upto_region 5 with fail
      try simp only [hhf]
      clear hhf
      go_wp2_with fail
      refine (cmpView_calls s id _).mono ?_
      rintro e w2 ⟨rfl, o2⟩
      have HO2 : Hid (Only [] w w2) := HO.out.trans o2
      clear o2 HO z0 z1 z2 z3 z4 z5 z6 z7 z8 z9 z10
      by_cases hlt : s.id < id
      · have hd : decide (cmpI s.id id < 0) = true := by unfold cmpI; rw [if_pos hlt]; rfl
        generalize cmpI s.id id = cv at hd ⊢
        go_wp2_with fail
        go_roundg (j - (h + 1))
        case measure => have h1 := H1.out.2.2.1; have h2 := HH.out; omega
        case rel => exact ⟨h + 1, j, by go_num, rfl, ⟨by have := HH.out; omega, hj, rfl, Or.inr (by show (L.getD h zs).id < id; rw [HS.out]; exact hlt), H1.out.2.2.2.2⟩, HO2⟩
      · have hd : decide (cmpI s.id id < 0) = false := by unfold cmpI; rw [if_neg hlt]; split <;> rfl
        generalize cmpI s.id id = cv at hd ⊢
        go_wp2_with fail
        go_roundg (h - i)
        case measure => have h1 := H1.out.2.2.1; have h2 := HH.out; omega
        case rel => exact ⟨i, h, rfl, rfl, ⟨HH.out.1, by have := HH.out; omega, rfl, H1.out.2.2.2.1, Or.inr (by show id ≤ (L.getD h zs).id; rw [HS.out]; omega)⟩, HO2⟩
    · have hijl : ¬ (i : Int) < (j : Int) := by omega
      obtain rfl : i = j := by have := H1.out.1; omega
      have HST : Hid (StopsS L id i) := ⟨H1.out.2.1, H1.out.2.2.2.1, H1.out.2.2.2.2⟩
      by_cases hin : i < L.length
      · have hinl : (i : Int) < (L.length : Int) := by omega
        obtain ⟨g, o, rfl, hcell⟩ := (HB.out.1.only HO.out) i hin
        have z0 := hcell 0 (by omega); have z1 := hcell 1 (by omega); have z2 := hcell 2 (by omega); have z3 := hcell 3 (by omega)
        have z4 := hcell 4 (by omega); have z5 := hcell 5 (by omega); have z6 := hcell 6 (by omega); have z7 := hcell 7 (by omega)
        have z8 := hcell 8 (by omega); have z9 := hcell 9 (by omega); have z10 := hcell 10 (by omega)
        clear hcell
        obtain ⟨s, hs⟩ : ∃ s, L.getD i zs = s := ⟨_, rfl⟩
        simp only [hs] at z0 z1 z2 z3 z4 z5 z6 z7 z8 z9 z10
        clear hs
        simp only [sc, Nat.add_zero] at z0 z1 z2 z3 z4 z5 z6 z7 z8 z9 z10
        go_wp2_with fail
        refine (cmpView_calls s id _).mono ?_
        rintro e w2 ⟨rfl, o2⟩
        have HO2 : Hid (Only [] w w2) := HO.out.trans o2
        clear o2 HO z0 z1 z2 z3 z4 z5 z6 z7 z8 z9 z10
        generalize cmpI s.id id = cv
        go_wp2_with fail
        exact bodyPost_ret (v := .tuple #[.int .i64 ((i : Int)), .bool (cv == 0)]) (by simp [results, Tryd.results38, go_sem]) rfl ⟨i, _, rfl, HST.out, HO2.out⟩
      · have hinl : ¬ (i : Int) < (L.length : Int) := by omega
        have hd : decide ((i : Int) < (L.length : Int)) = false := decide_eq_false hinl
        go_wp2_with fail
        exact bodyPost_ret (v := .tuple #[.int .i64 ((i : Int)), .bool false]) (by simp [results, Tryd.results38, go_sem]) rfl ⟨i, _, rfl, HST.out, HO.out⟩
end Go.Proofs.YtedhdmahdioboaaDoor
