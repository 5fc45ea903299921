/- Bytes laid behind bytes, whichever they are (append). -/
import Derived.Test.YtedhdmahdioboaaSg3
import Derived.Test.YtedhdmahdioboaaClA
import Derived.Test.YtedhdmahdioboaaApM
import Derived.Deep.LoopGhost
import Derived.Test.YtedhdmahdioboaaAp7
import Derived.Test.YtedhdmahdioboaaWMa
import Derived.Deep.QuietTactic
import Derived.BigQuiet
namespace Go.Proofs.Ytedhdmahdioboaa
open Go.ChangeShapes Go.WideShapes Go.ChangeAt Go.RowKit
set_option linter.unusedVariables false
set_option linter.unusedSimpArgs false

theorem ownN_shape {w : World} {b s : Nat} {T : TypeId} {v : Value} {n : Nat} {xs : List Value} (h : w.ownsRow b T s v n xs) : ∃ a c, v = .slice a n c := by
  obtain ⟨_, ⟨rfl, rfl⟩ | ⟨g, cap, cur, rfl, _⟩⟩ := h
  · exact ⟨_, _, rfl⟩
  · exact ⟨_, _, rfl⟩
theorem ownN_block {w : World} {b s : Nat} {T : TypeId} {v : Value} {n : Nat} {xs : List Value} (h : w.ownsRow b T s v n xs) {k : Nat} (hk : v.ownBlock = some k) : b ≤ k := by
  obtain ⟨_, ⟨rfl, rfl⟩ | ⟨g, cap, cur, rfl, hb, _⟩⟩ := h
  · simp [Value.ownBlock] at hk
  · simp [Value.ownBlock] at hk; omega
theorem run_append_nil {P : Program} (w : World) (t ty e : TypeId) (i : TypeInfo) (ht : P.underlying t = some (.slice e)) (hi : P.info? e = some i) (a : Option Addr) (n c : Nat) (h : n ≤ c) :
    (Builtin.append_ #[t, t] ty #[.slice a n c, .slice none 0 0]).run P w = .ok (.slice a n c) w := by
  cases a <;> simp [Builtin.append_, run_underlying ht, sizeOf, typeInfo, hi, Builtin.lenOf, h, run_firstCells_none, storeCells]
theorem own_le {w : World} {b s : Nat} {T : TypeId} {a : Option Addr} {n c : Nat} {xs : List Value} (h : w.ownsRow b T s (.slice a n c) n xs) : n ≤ c := by
  obtain ⟨_, ⟨e, rfl⟩ | ⟨g, cap, cur, e, _, _, hn, _⟩⟩ := h
  · omega
  · injection e with _ _ e; omega
set_option maxRecDepth 100000 in
/-- Bytes behind bytes, whichever they are. -/
theorem run_appendB (w : World) (base : Nat) (ty : TypeId) (v : Value) (n : Nat) (xs : List Value) (hown : w.ownsRow base 5 1 v n xs) (a : Option Addr) (m c : Nat) (L : List Nat) (hm : m = L.length) (hb : ByAt w a L) (hn : a = none → L = [] ∧ c = 0) (hl : n + m ≤ 1000000) (hbase : base ≤ w.heap.size) :
    ∃ v' w', (Builtin.append_ #[53, 53] ty #[v, .slice a m c]).run Try.prog w = .ok v' w' ∧ w'.ownsRow base 5 1 v' (n + m) (xs ++ byV L) ∧ w.grownBy w' v.ownBlock ∧ (v ≠ .slice none 0 0 → v' ≠ .slice none 0 0) := by
  obtain ⟨i0, hi0, hz0, hz1, hz2⟩ := info_parts byteInfo
  cases a with
  | none =>
    obtain ⟨rfl, rfl⟩ := hn rfl
    obtain rfl : m = 0 := hm
    obtain ⟨av, cv, rfl⟩ := ownN_shape hown
    refine ⟨_, _, run_append_nil w _ _ _ i0 Try.underlying53 hi0 av n cv (own_le hown), by simpa [byV] using hown, ⟨rfl, rfl, rfl, Nat.le_refl _, fun _ _ _ => rfl⟩, fun q => q⟩
  | some ad =>
    have hnews : ∀ j u, (byV L)[j]? = some u → w.cell? (ad.add j) = some u := fun j u hj => by
      have hjn : j < L.length := by have := (List.getElem?_eq_some_iff.1 hj).1; simpa [byV] using this
      have e : (byV L)[j]? = some (Value.int .u8 ((L.getD j 0 : Nat) : Int)) := by rw [byV, List.getElem?_map, List.getElem?_eq_getElem hjn, List.getD_eq_getElem?_getD, List.getElem?_eq_getElem hjn]; rfl
      rw [e] at hj
      obtain ⟨g, o, e2, hc⟩ := hb j hjn
      injection e2 with e2
      subst e2
      rw [Addr.add_mid]
      exact hc.trans hj
    obtain ⟨v', w', h1, h2, h3, h4, _⟩ := run_append_own_at (P := Try.prog) w base 53 ty 5 i0 (.int .u8 0) 1 1 Try.underlying53 hi0 hz0 hz1 hz2 rfl (by decide) v n xs hown ad m c (byV L) (by simp [byV, hm]) hnews (by intro u hu; obtain ⟨y, _, rfl⟩ := List.mem_map.1 hu; rfl) (by unfold maxLen; omega) (by omega) hbase
    exact ⟨v', w', h1, h2, h3, fun q e => q (h4.1 e).1⟩
theorem wpList_appendB {ops : Array Oper} {rest : List Oper} {o : Oper} {ac : Act} {w : World} {Q : Exit → Act → World → Prop} (hgd : o.guard = none) (s x : Operand)
    (ho : o.op = .call { callee := .builtin .append, args := #[s, x], argTypes := #[53, 53] }) (base : Nat) (v : Value) (n : Nat) (xs : List Value) (hs : ac.eval s = v) (hown : w.ownsRow base 5 1 v n xs) (a : Option Addr) (m c : Nat) (L : List Nat) (hx : ac.eval x = .slice a m c) (hm : m = L.length) (hb : ByAt w a L) (hn : a = none → L = [] ∧ c = 0) (hl : n + m ≤ 1000000) (hbase : base ≤ w.heap.size)
    (h : ∀ v' w', w'.ownsRow base 5 1 v' (n + m) (xs ++ byV L) → w.grownBy w' v.ownBlock → (v ≠ .slice none 0 0 → v' ≠ .slice none 0 0) → wpList Try.prog ops Q rest (ac.put o.dst v') w') : wpList Try.prog ops Q (o :: rest) ac w := by
  refine wpList_plain hgd fun K hK => ?_
  obtain ⟨v', w', hr, h2, h3, h4⟩ := run_appendB w base o.type v n xs hown a m c L hm hb hn hl hbase
  unfold Oper.wp execOp
  simp only [ho, resolve, invoke, builtin, Sem.run_bind, Sem.run_pure, Result.andThen_ok, List.map_toArray, List.map_cons, List.map_nil, hs, hx, hr]
  exact hK _ _ (h v' w' h2 h3 h4)
end Go.Proofs.Ytedhdmahdioboaa
/- Slices that a client keeps: they lie in none of its own blocks; gathering.bytes: the bytes of all pieces. -/
namespace Go.Proofs.Ytedhdmahdioboaa
open Go.ChangeShapes Go.WideShapes Go.ChangeAt Go.RowKit
set_option linter.unusedVariables false
set_option linter.unusedSimpArgs false

/-- None of E is where a slice lies (one that has something). -/
def OutE (E : List Nat) (v : Value) : Prop := ∀ a n c, v = .slice (some a) n c → n ≠ 0 → a.block ∉ E
/-- A map's block, or an iterator's. -/
def IsMap (w : World) (b : Nat) : Prop := (∃ es c, w.heap[b]? = some (.map es c)) ∨ ∃ m s se c, w.heap[b]? = some (.mapIter m s se c)
theorem MapV.isMap {w : World} {m : Nat} {L : List (Int × Value)} (h : MapV w (some m) L) : IsMap w m := by
  obtain ⟨D, ⟨es, c, hb, _⟩, _⟩ := h
  exact Or.inl ⟨es, c, hb⟩
theorem cell_noMap {w : World} {a : Addr} {v : Value} (h : w.cell? a = some v) : ¬ IsMap w a.block := by
  rintro (⟨es, c, hm⟩ | ⟨m, s, se, c, hm⟩)
  · simp [World.cell?, hm] at h
  · simp [World.cell?, hm] at h
/-- Bytes that are kept. -/
def SbE (w : World) (E : List Nat) (v : Value) (B : List Nat) : Prop := ∃ a c, v = .slice a B.length c ∧ ByAt w a B ∧ (a = none → B = [] ∧ c = 0) ∧ OutE E v
/-- A view that is kept. -/
def SvE (w : World) (E : List Nat) (v : Value) (T : List Sn) : Prop := SvAt w v T ∧ NilOk v ∧ OutE E v
theorem SbE.only {D E : List Nat} {w w' : World} {v : Value} {B : List Nat} (h : SbE w E v B) (o : Only D w w') (hD : ∀ d ∈ D, d ∈ E ∨ IsMap w d) : SbE w' E v B := by
  obtain ⟨a, c, rfl, hb, hn, ho⟩ := h
  refine ⟨a, c, rfl, hb.only o (fun g p e hB hg => ?_), hn, ho⟩
  rcases hD g hg with q | q
  · subst e; exact ho _ _ _ rfl (fun h => hB (List.length_eq_zero_iff.1 h)) q
  · obtain ⟨g', p', e', hc⟩ := hb 0 (List.length_pos_iff.2 hB)
    rw [e] at e'
    injection e' with e'
    injection e' with e1 _ _
    subst e1
    exact cell_noMap hc q
theorem SvE.only {D E : List Nat} {w w' : World} {v : Value} {T : List Sn} (h : SvE w E v T) (o : Only D w w') (hD : ∀ d ∈ D, d ∈ E ∨ IsMap w d) : SvE w' E v T := by
  obtain ⟨⟨a, c, rfl, hc, hs⟩, hn, ho⟩ := h
  refine ⟨⟨a, c, rfl, hc, fun j hj => ?_⟩, hn, ho⟩
  obtain ⟨g, f, e, hk⟩ := hs j hj
  refine ⟨g, f, e, fun i hi => o.cell (hk i hi) (fun hg => ?_)⟩
  rcases hD g hg with q | q
  · subst e; exact ho _ _ _ rfl (by omega) q
  · exact cell_noMap (hk i hi) q
theorem SbE.keep {E : List Nat} {w w' : World} {v : Value} {B : List Nat} (h : SbE w E v B) (o : Only [] w w') : SbE w' E v B := h.only o (by simp)
theorem SvE.keep {E : List Nat} {w w' : World} {v : Value} {T : List Sn} (h : SvE w E v T) (o : Only [] w w') : SvE w' E v T := h.only o (by simp)
/-- A block that is new is none where a slice lies. -/
theorem SbE.more {E E' : List Nat} {w : World} {v : Value} {B : List Nat} (h : SbE w E v B) (hE : ∀ e ∈ E', e ∈ E ∨ w.heap.size ≤ e) : SbE w E' v B := by
  obtain ⟨a, c, rfl, hb, hn, ho⟩ := h
  refine ⟨a, c, rfl, hb, hn, fun a' n c' e h0 hm => ?_⟩
  rcases hE _ hm with q | q
  · exact ho a' n c' e h0 q
  · injection e with e1 e2 _
    obtain ⟨g, o, e3, hc⟩ := hb 0 (by omega)
    rw [e1] at e3
    injection e3 with e3
    subst e3
    have := World.block_lt_of_cell? _ _ hc
    simp only at this q
    omega
theorem SvE.more {E E' : List Nat} {w : World} {v : Value} {T : List Sn} (h : SvE w E v T) (hE : ∀ e ∈ E', e ∈ E ∨ w.heap.size ≤ e) : SvE w E' v T := by
  obtain ⟨⟨a, c, rfl, hc, hs⟩, hn, ho⟩ := h
  refine ⟨⟨a, c, rfl, hc, hs⟩, hn, fun a' n c' e h0 hm => ?_⟩
  rcases hE _ hm with q | q
  · exact ho a' n c' e h0 q
  · injection e with e1 e2 _
    obtain ⟨g, o, e3, hk⟩ := hs 0 (by omega)
    rw [e1] at e3
    injection e3 with e3
    subst e3
    have := World.block_lt_of_cell? _ _ (hk 0 (by omega))
    simp only at this q
    omega
/-- What lies in new memory lies in none that was there. -/
theorem ownS_out {E : List Nat} {w : World} {b s : Nat} {T : TypeId} {v : Value} {n : Nat} {xs : List Value} (h : w.ownsRow b T s v n xs) (hE : ∀ e ∈ E, e < b) : OutE E v := by
  intro a m c e _ hm
  subst e
  have hb := ownN_block h (k := a.block) (by
    obtain ⟨_, ⟨e, _⟩ | ⟨g, cap, cur, e, _⟩⟩ := h
    · cases e
    · injection e with e _ _
      injection e with e
      rw [e]
      rfl)
  have := hE _ hm
  omega
theorem in64V_of {i : Int} (h : -9223372036854775808 ≤ i) (h' : i ≤ 9223372036854775807) : In64V i := by
  show (decide ((-9223372036854775808 : Int) ≤ i) && decide (i ≤ 9223372036854775807)) = true
  simp [h, h']
theorem ownN_less {w : World} {b b' s : Nat} {T : TypeId} {v : Value} {n : Nat} {xs : List Value} (h : w.ownsRow b T s v n xs) (hb : b' ≤ b) : w.ownsRow b' T s v n xs := by
  obtain ⟨h1, h2 | ⟨g, cap, cur, e, hg, r⟩⟩ := h
  · exact ⟨h1, Or.inl h2⟩
  · exact ⟨h1, Or.inr ⟨g, cap, cur, e, Nat.le_trans hb hg, r⟩⟩
theorem byV_app (A B : List Nat) : byV A ++ byV B = byV (A ++ B) := by simp [byV]
/-- Bytes of one's own. -/
theorem ownB_at {w : World} {b : Nat} {v : Value} {L : List Nat} (h : w.ownsRow b 5 1 v L.length (byV L)) : ∃ a c, v = .slice a L.length c ∧ ByAt w a L ∧ (a = none → L = [] ∧ c = 0) := by
  have h2 := h
  obtain ⟨_, ⟨rfl, hn⟩ | ⟨g, cap, cur, rfl, _⟩⟩ := h
  · exact ⟨none, 0, by rw [hn], fun j hj => by omega, fun _ => ⟨List.length_eq_zero_iff.1 hn, rfl⟩⟩
  · refine ⟨_, cap, rfl, fun j hj => ⟨g, 0, rfl, ?_⟩, fun e => by cases e⟩
    rw [Nat.zero_add, World.ownsRow.cellAt h2 _ (by omega)]
    rw [byV, List.getElem?_map, List.getElem?_eq_getElem hj, List.getD_eq_getElem?_getD, List.getElem?_eq_getElem hj]
    rfl
theorem join_step {K : List (Gt × Value)} (hn : ((K.map fun e => (e.1.ix, e.2)).map Prod.fst).Nodup) (i : Nat) :
    (∃ e ∈ K, e.1.ix = (i : Int) ∧ joinC (K.map Prod.fst) (i + 1) = joinC (K.map Prod.fst) i ++ e.1.by_) ∨ ((i : Int) ∉ (K.map fun e => (e.1.ix, e.2)).map Prod.fst ∧ joinC (K.map Prod.fst) (i + 1) = joinC (K.map Prod.fst) i) := by
  have hn' : ((K.map Prod.fst).map Gt.ix).Nodup := by simpa [List.map_map, Function.comp_def] using hn
  rw [joinC_succ hn']
  cases hf : findC (K.map Prod.fst) (i : Int) with
  | none =>
    refine Or.inr ⟨fun hm => ?_, by simp⟩
    simp only [List.map_map, List.mem_map, Function.comp_def] at hm
    obtain ⟨e, he, hx⟩ := hm
    unfold findC at hf
    rw [List.find?_eq_none] at hf
    exact hf e.1 (List.mem_map_of_mem he) (by simpa using hx)
  | some q =>
    unfold findC at hf
    have h1 := List.find?_some hf
    obtain ⟨e, he, rfl⟩ := List.mem_map.1 (List.mem_of_find?_eq_some hf)
    exact Or.inl ⟨e, he, by simpa using h1, by simp⟩
theorem join_len {l : List Gt} (hn : (l.map Gt.ix).Nodup) (h : ∀ q ∈ l, q.by_.length ≤ 100) (n : Nat) : (joinC l n).length ≤ 100 * n := by
  induction n with
  | zero => simp [joinC]
  | succ n ih =>
    rw [joinC_succ hn, List.length_append]
    cases hf : findC l (n : Int) with
    | none => simp; omega
    | some q =>
      have := h q (List.mem_of_find?_eq_some hf)
      simp only [Option.map_some, Option.getD_some]
      omega
set_option maxRecDepth 100000 in
set_option maxHeartbeats 4000000 in
theorem gbytes_calls (st ba : Int) (mn : Nat) (mp : Option Nat) (K : List (Gt × Value)) (E : List Nat) (w : World) (hm : MapV w mp (K.map fun e => (e.1.ix, e.2))) (hp : ∀ e ∈ K, SbE w E e.2 e.1.by_) (h1 : mn ≤ 40) (hl : ∀ e ∈ K, e.1.by_.length ≤ 100) :
    Calls Try.prog 76 #[gaV st ba (mn : Int) mp] w fun e w' => ∃ v, e = .returned v ∧ w'.ownsRow w.heap.size 5 1 v (joinC (K.map Prod.fst) mn).length (byV (joinC (K.map Prod.fst) mn)) ∧ Only [] w w' := by
  have HB : Hid (MapV w mp (K.map fun e => (e.1.ix, e.2)) ∧ (∀ e ∈ K, SbE w E e.2 e.1.by_) ∧ ∀ e ∈ K, e.1.by_.length ≤ 100) := ⟨hm, hp, hl⟩
  clear hm hp hl
  go_enter Try.func76, Try.ntmps76
  go_upto_region 1 with fail
  have H1 : Hid ((w.alloc (.cells #[.int .i64 st, .int .i64 ba, .int .i64 ((mn : Int)), .map mp] 107)).heap[w.heap.size]? = some (.cells #[.int .i64 st, .int .i64 ba, .int .i64 ((mn : Int)), .map mp] 107) ∧ Only [] w (w.alloc (.cells #[.int .i64 st, .int .i64 ba, .int .i64 ((mn : Int)), .map mp] 107))) := ⟨(MapKept.heap_alloc w _).1, (Only.refl [] w).alloc _⟩
  revert H1
  generalize hk : w.heap.size = kg
  have HK : Hid (w.heap.size = kg) := hk
  generalize World.alloc w _ = w1
  intro H1
  clear hk
  have c2 : w1.cell? ⟨kg, 2, none⟩ = some (.int .i64 ((mn : Int))) := by simp [World.cell?, H1.out.1]
  go_wp2_with fail
  clear c2
  go_loopg [3, 7] mn (fun k' s3 s7 wr => ∃ (i : Nat) (v : Value), v = s3 ∧ s7 = .int .i64 (i : Int) ∧ Hid (i ≤ mn ∧ k' = mn - i) ∧ Hid (wr.ownsRow w1.heap.size 5 1 v (joinC (K.map Prod.fst) i).length (byV (joinC (K.map Prod.fst) i)) ∧ Only [] w1 wr))
  case atStart => exact ⟨0, _, rfl, rfl, ⟨by omega, rfl⟩, ⟨World.ownsRow_nil _ _ _ _, Only.refl _ _⟩⟩
  case round =>
    obtain ⟨i, v, rfl, rfl, HI, HR⟩ := hrel
    have HO : Hid (Only [] w wr) := H1.out.2.trans HR.out.2
    have c3 : wr.cell? ⟨kg, 3, none⟩ = some (.map mp) := HR.out.2.cell (by simp [World.cell?, H1.out.1]) (by simp)
    by_cases hi : i < mn
    · have hlt : (i : Int) < (mn : Int) := by omega
      have hw : In64V (i : Int) := in64V_of (by omega) (by omega)
      have hmr := HB.out.1.only HO.out (by simp)
      have hnd := HB.out.1.nodup
      have hjl := join_len (l := K.map Prod.fst) (by simpa [List.map_map, Function.comp_def] using hnd) (fun q hq => by obtain ⟨e, he, rfl⟩ := List.mem_map.1 hq; exact HB.out.2.2 e he) i
      have hob := HR.out.1
      have hsz : w1.heap.size ≤ wr.heap.size := HR.out.2.size
      rcases join_step hnd i with ⟨e, he, hx, hj⟩ | ⟨hx, hj⟩
      · obtain ⟨a, c, hv, hby, hnil, _⟩ := (HB.out.2.1 e he).keep HO.out
        have hlk := hmr.at_some Try.underlying105 zeroBytes (x := (e.1.ix, e.2)) (by simp only; rw [hx]; exact hw) (List.mem_map_of_mem (f := fun e : Gt × Value => (e.1.ix, e.2)) he)
        simp only [hx, hv] at hlk
        have hbl := HB.out.2.2 e he
        have HJ : Hid (joinC (K.map Prod.fst) (i + 1) = joinC (K.map Prod.fst) i ++ e.1.by_) := hj
        have hln : (joinC (K.map Prod.fst) i).length + e.1.by_.length ≤ 1000000 := by omega
        clear hmr hnd hjl hx hv hj hw hbl he
        generalize joinC (K.map Prod.fst) i = A at *
        have HOB : Hid (wr.ownsRow w1.heap.size 5 1 v A.length (byV A)) := hob
        go_wp2_with (first | (at_builtin; refine wpList_appendB rfl _ _ rfl w1.heap.size v _ _ rfl HOB.out a e.1.by_.length c e.1.by_ rfl rfl hby hnil hln hsz ?_; intro v2 w2 hown hgr _; have H2 : Hid (w2.ownsRow w1.heap.size 5 1 v2 (joinC (K.map Prod.fst) (i + 1)).length (byV (joinC (K.map Prod.fst) (i + 1))) ∧ Only [] w1 w2) := ⟨by rw [HJ.out, List.length_append, ← byV_app]; exact hown, HR.out.2.grown hgr (fun k hk => Or.inr (ownN_block HOB.out hk))⟩; clear hown hgr hby hnil hlk))
        go_roundg (mn - (i + 1))
        case measure => have := HI.out; omega
        case rel => exact ⟨i + 1, v2, rfl, by go_num, ⟨by omega, rfl⟩, H2⟩
      · have hlk := hmr.at_none Try.underlying105 zeroBytes hw hx
        have HJ : Hid (joinC (K.map Prod.fst) (i + 1) = joinC (K.map Prod.fst) i) := hj
        have hln : (joinC (K.map Prod.fst) i).length + ([] : List Nat).length ≤ 1000000 := by simp; omega
        clear hmr hnd hjl hx hj hw
        generalize joinC (K.map Prod.fst) i = A at *
        have HOB : Hid (wr.ownsRow w1.heap.size 5 1 v A.length (byV A)) := hob
        go_wp2_with (first | (at_builtin; refine wpList_appendB rfl _ _ rfl w1.heap.size v _ _ rfl HOB.out none 0 0 [] rfl rfl (fun j hj => by simp at hj) (fun _ => ⟨rfl, rfl⟩) hln hsz ?_; intro v2 w2 hown hgr _; have H2 : Hid (w2.ownsRow w1.heap.size 5 1 v2 (joinC (K.map Prod.fst) (i + 1)).length (byV (joinC (K.map Prod.fst) (i + 1))) ∧ Only [] w1 w2) := ⟨by rw [HJ.out]; simpa [byV] using hown, HR.out.2.grown hgr (fun k hk => Or.inr (ownN_block HOB.out hk))⟩; clear hown hgr hlk))
        go_roundg (mn - (i + 1))
        case measure => have := HI.out; omega
        case rel => exact ⟨i + 1, v2, rfl, by go_num, ⟨by omega, rfl⟩, H2⟩
    · have hlt : ¬ (i : Int) < (mn : Int) := by omega
      have hlb : decide ((i : Int) < (mn : Int)) = false := decide_eq_false hlt
      have HE : Hid (i = mn) := by show i = mn; have := HI.out; omega
      go_wp2_with fail
      exact bodyPost_ret (v := v) (by simp [results, Try.results76, go_sem]) rfl ⟨v, rfl, by rw [← HE.out]; exact ownN_less HR.out.1 H1.out.2.size, HO.out⟩
end Go.Proofs.Ytedhdmahdioboaa
/- (*client.Client).become: a view out of its base and what came. -/
namespace Go.Proofs.Ytedhdmahdioboaa
open Go.ChangeShapes Go.WideShapes Go.ChangeAt Go.RowKit
set_option linter.unusedVariables false
set_option linter.unusedSimpArgs false

/-- The view that bytes make of one: the one that they tell; which bytes tell a piece: whatever functions say so. -/
structure Ora where
  ap : List Sn → List Nat → Option (List Sn)
  gd : List Nat → Bool
  some_ : ∀ {f : List Sn} {L : List Nat} {T : List Sn}, rightL f = true → Del f L T → (∀ T', Del f L T' → T' = T) → ap f L = some T
  none_ : ∀ {f : List Sn} {L : List Nat}, (∀ T, ¬ Del f L T) → ap f L = none
  bad : ∀ {f : List Sn} {L : List Nat}, rightL f = false → ap f L = none
  good : ∀ L, gd L = true ↔ toldGood L
/-- There are such ones. -/
theorem ora_ex : Nonempty Ora := by
  classical
  refine ⟨⟨fun f L => if h : rightL f = true ∧ ∃ T, Del f L T then some (Classical.choose h.2) else none, fun L => decide (toldGood L), ?_, ?_, ?_, ?_⟩⟩
  · intro f L T hr h hu
    have hh : rightL f = true ∧ ∃ T, Del f L T := ⟨hr, T, h⟩
    simp only [dif_pos hh]
    rw [hu _ (Classical.choose_spec hh.2)]
  · intro f L h
    simp only [dif_neg (fun q : rightL f = true ∧ ∃ T, Del f L T => q.2.elim h)]
  · intro f L h
    have hn : ¬ (rightL f = true ∧ ∃ T, Del f L T) := fun q => by rw [h] at q; exact absurd q.1 (by simp)
    simp only [dif_neg hn]
  · exact fun L => decide_eq_true_iff
variable {ora : Ora}
/-- Steps, slices, views: as a map has them, as a client's views. -/
abbrev Vl := List (Int × Value × List Sn)
def mpJ (J : Vl) : List (Int × Value) := J.map fun e => (e.1, e.2.1)
def vwJ (J : Vl) : List (Int × List Sn) := J.map fun e => (e.1, e.2.2)
theorem keys_mp (J : Vl) : (mpJ J).map Prod.fst = J.map Prod.fst := by simp [mpJ, List.map_map, Function.comp_def]
theorem keys_vw (J : Vl) : (vwJ J).map Prod.fst = J.map Prod.fst := by simp [vwJ, List.map_map, Function.comp_def]
theorem view_none {J : Vl} {i : Int} (h : i ∉ (mpJ J).map Prod.fst) : viewC (vwJ J) i = none := by
  rw [keys_mp] at h
  unfold viewC vwJ
  rw [List.find?_eq_none.2 (fun e he => ?_)]
  · rfl
  · obtain ⟨x, hx, rfl⟩ := List.mem_map.1 he
    simp only [beq_iff_eq]
    exact fun q => h (List.mem_map.2 ⟨x, hx, q⟩)
theorem view_some {J : Vl} (hn : ((mpJ J).map Prod.fst).Nodup) {e : Int × Value × List Sn} (he : e ∈ J) : viewC (vwJ J) e.1 = some e.2.2 := by
  rw [keys_mp] at hn
  unfold viewC vwJ
  induction J with
  | nil => simp at he
  | cons x J ih =>
    rw [List.map_cons, List.nodup_cons] at hn
    rw [List.map_cons, List.find?_cons]
    rcases List.mem_cons.1 he with rfl | he
    · simp
    · have : (x.1 == e.1) = false := by
        have : x.1 ≠ e.1 := fun q => hn.1 (by rw [q]; exact List.mem_map_of_mem he)
        simpa using this
      simp only [this]
      exact ih hn.2 he
theorem only_drewN (w : World) (n : Nat) : Only [] w (w.drewN n) := ⟨rfl, rfl, rfl, Nat.le_refl _, fun _ _ _ => rfl⟩
/-- What becomes of all pieces. -/
def becC (ora : Ora) (V : List (Int × List Sn)) (st ba : Int) (L : List Nat) : Option (List (Int × List Sn)) := (viewC V ba).bind fun f => (ora.ap f L).map fun t => (st, t) :: keepC 32 V st
theorem mp_filter (J : Vl) (f : Int → Bool) : (mpJ J).filter (fun e => f e.1) = mpJ (J.filter fun e => f e.1) := by simp only [mpJ, List.filter_map, Function.comp_def]
theorem vw_filter (J : Vl) (f : Int → Bool) : (vwJ J).filter (fun e => f e.1) = vwJ (J.filter fun e => f e.1) := by simp only [vwJ, List.filter_map, Function.comp_def]
/-- What a client's views are, whatever they are. -/
structure VwOk (E : List Nat) (w : World) (J : Vl) (nw : Int) : Prop where
  at_ : ∀ e ∈ J, SvE w E e.2.1 e.2.2
  few : ∀ e ∈ J, e.2.2.length ≤ 121
  key : ∀ e ∈ J, 0 ≤ e.1 ∧ e.1 ≤ nw
  pos : 0 ≤ nw
  top : nw ≤ 70368744177664
theorem VwOk.only {D E : List Nat} {w w' : World} {J : Vl} {nw : Int} (h : VwOk E w J nw) (o : Only D w w') (hD : ∀ d ∈ D, d ∈ E ∨ IsMap w d) : VwOk E w' J nw := ⟨fun e he => (h.at_ e he).only o hD, h.few, h.key, h.pos, h.top⟩
def BecPost (ora : Ora) (E : List Nat) (x mv : Nat) (nw : Int) (J : Vl) (st ba : Int) (L : List Nat) (w : World) (e : Ending) (w' : World) : Prop :=
  Only [x, mv] w w' ∧ ((becC ora (vwJ J) st ba L = none ∧ e = .returned (.bool false) ∧ ClAt w' x (some mv) nw 0 0 0 none ∧ MapV w' (some mv) (mpJ J) ∧ VwOk E w' J nw) ∨
    ∃ J', becC ora (vwJ J) st ba L = some (vwJ J') ∧ e = .returned (.bool true) ∧ ClAt w' x (some mv) st 0 0 0 none ∧ MapV w' (some mv) (mpJ J') ∧ (∀ e ∈ J', SvE w' E e.2.1 e.2.2 ∧ e.2.2.length ≤ 121 ∧ 0 ≤ e.1 ∧ e.1 ≤ st) ∧ J'.length ≤ J.length + 1)
set_option maxRecDepth 100000 in
set_option maxHeartbeats 8000000 in
theorem become_calls (E : List Nat) (x mv : Nat) (nw st ba : Int) (mn : Nat) (mp : Option Nat) (J : Vl) (K : List (Gt × Value)) (L : List Nat) (w : World) (h : ClAt w x (some mv) nw 0 0 0 none) (hm : MapV w (some mv) (mpJ J)) (hv : VwOk E w J nw)
    (hp : MapV w mp (K.map fun e => (e.1.ix, e.2))) (hq : ∀ e ∈ K, SbE w E e.2 e.1.by_) (hmn : mn ≤ 40) (hl : ∀ e ∈ K, e.1.by_.length ≤ 100) (hb : ∀ e ∈ K, ∀ c ∈ e.1.by_, c < 256) (hL : L = joinC (K.map Prod.fst) mn) (hLb : ∀ c ∈ L, c < 256) (hLl : L.length ≤ 4000) (hst : nw < st) (hst2 : st ≤ 70368744177664) (hba : 0 ≤ ba) (hba2 : ba < st) (hE : ∀ e ∈ E, e < w.heap.size) (hx : x ∈ E) (hne : x ≠ mv) (hJ : J.length ≤ 1000) :
    Calls Try.prog 50 #[.pointer (some ⟨x, 0, none⟩), gaV st ba (mn : Int) mp] w (BecPost ora E x mv nw J st ba L w) := by
  have HB : Hid (ClAt w x (some mv) nw 0 0 0 none ∧ MapV w (some mv) (mpJ J) ∧ VwOk E w J nw ∧ MapV w mp (K.map fun e => (e.1.ix, e.2)) ∧ (∀ e ∈ K, SbE w E e.2 e.1.by_)) := ⟨h, hm, hv, hp, hq⟩
  have HK : Hid ((∀ e ∈ K, e.1.by_.length ≤ 100) ∧ L = joinC (K.map Prod.fst) mn ∧ (∀ c ∈ L, c < 256) ∧ L.length ≤ 4000 ∧ (∀ e ∈ E, e < w.heap.size) ∧ x ∈ E ∧ x ≠ mv) := ⟨hl, hL, hLb, hLl, hE, hx, hne⟩
  have e0 := h.cells.1
  have hwb : In64V ba := in64V_of (by omega) (by omega)
  clear h hp hq hl hb hL hLb hLl hE hx hne hv
  go_enter Try.func50, Try.ntmps50
  go_upto_region 1 with fail
  have H1 : Hid ((w.alloc (.cells #[.int .i64 st, .int .i64 ba, .int .i64 ((mn : Int)), .map mp] 107)).heap[w.heap.size]? = some (.cells #[.int .i64 st, .int .i64 ba, .int .i64 ((mn : Int)), .map mp] 107) ∧ Only [] w (w.alloc (.cells #[.int .i64 st, .int .i64 ba, .int .i64 ((mn : Int)), .map mp] 107))) := ⟨(MapKept.heap_alloc w _).1, (Only.refl [] w).alloc _⟩
  revert H1
  generalize hk : w.heap.size = kg
  have HKG : Hid (w.heap.size = kg) := hk
  generalize World.alloc w _ = w1
  intro H1
  clear hk
  have hm1 : MapV w1 (some mv) (mpJ J) := hm.only H1.out.2 (by simp)
  have c1 : w1.cell? ⟨kg, 1, none⟩ = some (.int .i64 ba) := by simp [World.cell?, H1.out.1]
  have f0 : w1.cell? ⟨x, 0, none⟩ = some (.map (some mv)) := H1.out.2.cell e0 (by simp)
  clear e0 hm
  by_cases hin : ba ∈ (mpJ J).map Prod.fst
  · rw [keys_mp] at hin
    obtain ⟨e, he, heb⟩ := List.mem_map.1 hin
    have HEJ : Hid (e ∈ J ∧ viewC (vwJ J) ba = some e.2.2) := ⟨he, by rw [← heb]; exact view_some hm1.nodup he⟩
    have hlk : ∀ n, _ := fun n => (hm1.only (only_drewN w1 n) (by simp)).look_some Try.underlying104 zeroView (x := (e.1, e.2.1)) (by simp only; rw [heb]; exact hwb) (List.mem_map_of_mem (f := fun e : Int × Value × List Sn => (e.1, e.2.1)) he)
    simp only [heb] at hlk
    clear hin hm1 hwb he heb
    obtain ⟨fv, hfv⟩ : ∃ fv, e.2.1 = fv := ⟨_, rfl⟩
    rw [hfv] at hlk
    have HFV : Hid (e.2.1 = fv) := hfv
    clear hfv
    go_quiet (fail)
    obtain ⟨wq, hwq⟩ : ∃ wq, wq = w1.drewN nq := ⟨_, rfl⟩
    rw [← hwq]
    have HQ : Hid (wq.heap[kg]? = some (.cells #[.int .i64 st, .int .i64 ba, .int .i64 ((mn : Int)), .map mp] 107) ∧ Only [] w wq) := ⟨by rw [hwq]; exact H1.out.1, by rw [hwq]; exact H1.out.2.trans (only_drewN w1 nq)⟩
    clear hlk f0 c1 H1 hwq
    have d0 : wq.cell? ⟨kg, 0, none⟩ = some (.int .i64 st) := by simp [World.cell?, HQ.out.1]
    have d1 : wq.cell? ⟨kg, 1, none⟩ = some (.int .i64 ba) := by simp [World.cell?, HQ.out.1]
    have d2 : wq.cell? ⟨kg, 2, none⟩ = some (.int .i64 ((mn : Int))) := by simp [World.cell?, HQ.out.1]
    have d3 : wq.cell? ⟨kg, 3, none⟩ = some (.map mp) := by simp [World.cell?, HQ.out.1]
    go_wp2_with fail
    refine (gbytes_calls st ba mn mp K E wq (HB.out.2.2.2.1.only HQ.out.2 (by simp)) (fun e he => (HB.out.2.2.2.2 e he).keep HQ.out.2) hmn HK.out.1).mono ?_
    rintro e9 w2 ⟨vb, rfl, hob, o2⟩
    rw [← HK.out.2.1] at hob
    obtain ⟨ab, cb, rfl, hby, hnb⟩ := ownB_at hob
    have H2 : Hid (ByAt w2 ab L ∧ (ab = none → L = [] ∧ cb = 0) ∧ Only [] w w2 ∧ w2.heap[kg]? = some (.cells #[.int .i64 st, .int .i64 ba, .int .i64 ((mn : Int)), .map mp] 107)) := ⟨hby, hnb, HQ.out.2.trans o2, (o2.block kg (Array.getElem?_eq_some_iff.1 HQ.out.1).1 (by simp)).trans HQ.out.1⟩
    have HS : Hid (SvE w2 E fv e.2.2) := by have := (HB.out.2.2.1.at_ e HEJ.out.1).keep H2.out.2.2.1; rw [HFV.out] at this; exact this
    clear d0 d1 d2 d3 HQ hob hby hnb o2
    go_wp2_with fail
    refine (apply_calls e.2.2 fv ab cb L w2 HS.out.1 HS.out.2.1 (by have := HB.out.2.2.1.few e HEJ.out.1; omega) (by have := HK.out.2.2.2.1; omega) HK.out.2.2.1 H2.out.1 H2.out.2.1).mono ?_
    rintro e9 w3 ⟨o3, hcase⟩
    have H3 : Hid (Only [] w w3 ∧ w3.heap[kg]? = some (.cells #[.int .i64 st, .int .i64 ba, .int .i64 ((mn : Int)), .map mp] 107)) := ⟨H2.out.2.2.1.trans o3, (o3.block kg (Array.getElem?_eq_some_iff.1 H2.out.2.2.2).1 (by simp)).trans H2.out.2.2.2⟩
    have HFAIL : Hid (ora.ap e.2.2 L = none → BecPost ora E x mv nw J st ba L w (.returned (.bool false)) w3) := fun hno => by
      have o : Only [] w w3 := H3.out.1
      refine ⟨o.mono (by simp), Or.inl ⟨?_, rfl, HB.out.1.only o (by simp), HB.out.2.1.only o (by simp), HB.out.2.2.1.only o (by simp)⟩⟩
      unfold becC
      rw [HEJ.out.2, Option.bind_some, hno]
      rfl
    rcases hcase with ⟨hrF, rfl⟩ | ⟨_, hno, rfl⟩ | ⟨hrF, T, v, hT, hu, rfl, hown⟩
    · have HN : Hid (ora.ap e.2.2 L = none) := ora.bad hrF
      clear hrF o3
      simp only [errV]
      go_wp2_with fail
      exact bodyPost_ret (v := .bool false) (by simp [results, Try.results50, go_sem]) rfl (HFAIL.out HN.out)
    · have HN : Hid (ora.ap e.2.2 L = none) := ora.none_ hno
      clear hno o3
      simp only [errV]
      go_wp2_with fail
      exact bodyPost_ret (v := .bool false) (by simp [results, Try.results50, go_sem]) rfl (HFAIL.out HN.out)
    · have hsv := own_sv hown
      have HV : Hid (SvE w3 E v T ∧ ora.ap e.2.2 L = some T ∧ T.length ≤ 121) := ⟨⟨hsv.1, hsv.2, ownS_out hown (fun b hb => Nat.lt_of_lt_of_le (HK.out.2.2.2.2.1 b hb) H2.out.2.2.1.size)⟩, ora.some_ hrF hT hu, by have := (rightL_ris hT.1).2; omega⟩
      clear hsv hown hrF hT hu o3 HFAIL
      have hm3 : MapV w3 (some mv) (mpJ J) := HB.out.2.1.only H3.out.1 (by simp)
      have hcl := HB.out.1.only H3.out.1 (by simp)
      have hnk : st ∉ (mpJ J).map Prod.fst := by
        rw [keys_mp]
        intro q
        obtain ⟨y, hy, e2⟩ := List.mem_map.1 q
        have := (HB.out.2.2.1.key y hy).2
        omega
      have hlt := HB.out.2.1.lt
      have HKM : Hid (kg ≠ mv) := by show kg ≠ mv; rw [← HKG.out]; omega
      obtain ⟨w4, hr4, hm4, ht4⟩ := (hm3.only (Only.refl [] w3).drew (by simp)).store Try.underlying104 (by simp [mpJ, maxLen]; omega) (x := (st, v)) (in64V_of (by have := HB.out.2.2.1.pos; omega) (by omega)) hnk
      simp only at hr4
      have o4 : Only [mv] w3 w4 := ((Only.refl [mv] w3).drew).grown ht4.grown (fun k hk => by injection hk with hk; exact Or.inl (by simp [hk]))
      have H4 : Hid (MapV w4 (some mv) (mpJ ((st, v, T) :: J)) ∧ Only [mv] w w4 ∧ ClAt w4 x (some mv) nw 0 0 0 none ∧ w4.heap[kg]? = some (.cells #[.int .i64 st, .int .i64 ba, .int .i64 ((mn : Int)), .map mp] 107) ∧ SvE w4 E v T) := ⟨hm4, (H3.out.1.mono (by simp)).trans o4, hcl.only o4 (by simpa using HK.out.2.2.2.2.2.2), (o4.block kg (Array.getElem?_eq_some_iff.1 H3.out.2).1 (by simpa using HKM.out)).trans H3.out.2, HV.out.1.only o4 (by intro d hd; rw [List.mem_singleton.1 hd]; exact Or.inr hm3.isMap)⟩
      have f0 := hcl.cells.1
      have d0 : w3.cell? ⟨kg, 0, none⟩ = some (.int .i64 st) := by simp [World.cell?, H3.out.2]
      clear hm3 hcl hnk hm4 ht4 o4 hlt
      go_upto_region 7 with fail
      refine wp_region_held_drew (S := (fun w' => w'.cell? ⟨x, 0, none⟩ = some (.map (some mv)) ∧ w'.cell? ⟨kg, 0, none⟩ = some (.int .i64 st))) (by kernel_rfl) ?_ (fun hHeld1 => ?_)
      · (try dsimp only); exact ⟨f0, d0⟩
      refine tkW 0 rfl ?_; refine tkW 1 rfl ?_; refine tkW 2 rfl ?_; refine tkW 3 rfl ?_
      try simp only [Act.put, List.setIfInBounds_toArray, List.set_cons_zero, List.set_cons_succ, List.getElem_toArray, List.getElem_cons_succ, List.getElem_cons_zero]
      refine tkW 4 rfl ?_; refine tkW 5 rfl ?_; refine tkW 6 rfl ?_
      try simp only [Act.put, List.setIfInBounds_toArray, List.set_cons_zero, List.set_cons_succ, List.getElem_toArray, List.getElem_cons_succ, List.getElem_cons_zero]
      refine wpAnyH_ready (rs := [7]) (by kernel_rfl) (by simp) ?_
      refine AllReadyH.cons rfl (fun K hK => ?_) AllReadyH.nil
      first | (with_reducible refine iteYes ?hcx ?htx; case hcx => kernel_rfl) | rw [if_pos (by rfl)]
      simp only [List.getElem_toArray, List.getElem_cons_succ, List.getElem_cons_zero]
      go_simp
      refine hK.out _ _ ?_ (fun hHeld2 => ?_)
      · (try dsimp only); exact ⟨H4.out.2.2.1.cells.1, by simp [World.cell?, H4.out.2.2.2.1]⟩
      clear hK K
      try simp only [Act.put, List.setIfInBounds_toArray, List.set_cons_zero, List.set_cons_succ, List.getElem_toArray, List.getElem_cons_succ, List.getElem_cons_zero]
      refine wpAnyH_done (by kernel_rfl) ?_ _
      clear f0 d0 hr4 H3
      have g1 := H4.out.2.2.1.cells.2.1; have g2 := H4.out.2.2.1.free 1
      have d0 : w4.cell? ⟨kg, 0, none⟩ = some (.int .i64 st) := by simp [World.cell?, H4.out.2.2.2.1]
      go_upto_region 9 with fail
      have H5 : Hid (ClAt (w4.setCell ⟨x, 1, none⟩ (.int .i64 st)) x (some mv) st 0 0 0 none ∧ Only [x] w4 (w4.setCell ⟨x, 1, none⟩ (.int .i64 st))) := by
        refine ⟨?_, (Only.refl [x] w4).setCell (p := ⟨x, 1, none⟩) (Or.inl (by simp)) _⟩
        have := heap_put H4.out.2.2.1 1 (.int .i64 st)
        simp only [List.setIfInBounds_toArray, List.set_cons_zero, List.set_cons_succ] at this
        exact this
      clear g1 g2 d0
      generalize World.setCell w4 _ _ = w5 at H5 ⊢
      have H6 : Hid (MapV w5 (some mv) (mpJ ((st, v, T) :: J)) ∧ Only [x, mv] w w5 ∧ SvE w5 E v T) := ⟨H4.out.1.only H5.out.2 (by simpa using fun q => HK.out.2.2.2.2.2.2 q.symm), (H4.out.2.1.mono (by simp)).trans (H5.out.2.mono (by simp)), H4.out.2.2.2.2.only H5.out.2 (by intro d hd; rw [List.mem_singleton.1 hd]; exact Or.inl HK.out.2.2.2.2.2.1)⟩
      go_wp2_with fail
      refine (forget_calls x mv st 0 0 0 none _ w5 H5.out.1 H6.out.1 (by have := HB.out.2.2.1.pos; omega) hst2 HK.out.2.2.2.2.2.2).mono ?_
      rintro e9 w6 ⟨rfl, hm6, o6⟩
      rw [mp_filter] at hm6
      have HO6 : Hid (Only [x, mv] w w6) := H6.out.2.1.trans (o6.mono (by simp))
      have HC6 : Hid (ClAt w6 x (some mv) st 0 0 0 none) := H5.out.1.only o6 (by simpa using HK.out.2.2.2.2.2.2)
      have HV6 : Hid (SvE w6 E v T) := H6.out.2.2.only o6 (by intro d hd; rw [List.mem_singleton.1 hd]; exact Or.inr H6.out.1.isMap)
      have HM6 : Hid (MapV w6 (some mv) (mpJ (((st, v, T) :: J).filter fun e => stayB st e.1))) := hm6
      clear hm6 o6
      go_wp2_with fail
      refine bodyPost_ret (v := .bool true) (by simp [results, Try.results50, go_sem]) rfl ⟨HO6.out, Or.inr ⟨_, ?_, rfl, HC6.out, HM6.out, ?_, ?_⟩⟩
      · unfold becC
        rw [HEJ.out.2, Option.bind_some, HV.out.2.1, Option.map_some]
        have hs : stayB st st = true := by unfold stayB; simp; omega
        rw [List.filter_cons, hs]
        show some ((st, T) :: (vwJ J).filter fun e => stayB st e.1) = _
        rw [vw_filter]
        rfl
      · intro y hy
        rcases List.mem_cons.1 (List.mem_filter.1 hy).1 with rfl | hy
        · exact ⟨HV6.out, HV.out.2.2, by have := HB.out.2.2.1.pos; show 0 ≤ st; omega, Int.le_refl _⟩
        · exact ⟨(HB.out.2.2.1.at_ y hy).only HO6.out (by intro d hd; rcases List.mem_cons.1 hd with rfl | hd; exact Or.inl HK.out.2.2.2.2.2.1; rw [List.mem_singleton.1 hd]; exact Or.inr HB.out.2.1.isMap), HB.out.2.2.1.few y hy, (HB.out.2.2.1.key y hy).1, by have := (HB.out.2.2.1.key y hy).2; omega⟩
      · have := List.length_filter_le (fun e : Int × Value × List Sn => stayB st e.1) ((st, v, T) :: J)
        simpa using this
  · have hlk : ∀ n, _ := fun n => (hm1.only (only_drewN w1 n) (by simp)).look_none Try.underlying104 zeroView hwb hin
    have HN : Hid (becC ora (vwJ J) st ba L = none) := by show _ = _; unfold becC; rw [view_none hin]; rfl
    clear hin hm1 hwb
    go_quiet (fail)
    go_wp2_with fail
    have o : Only [] w (w1.drewN nq) := H1.out.2.trans (only_drewN w1 nq)
    exact bodyPost_ret (v := .bool false) (by simp [results, Try.results50, go_sem]) rfl ⟨o.mono (by simp), Or.inl ⟨HN.out, rfl, HB.out.1.only o (by simp), HB.out.2.1.only o (by simp), HB.out.2.2.1.only o (by simp)⟩⟩
end Go.Proofs.Ytedhdmahdioboaa
