/- bytes.Clone, and of package bits: Bytes, Read, Left, take, Get: whichever bytes. -/
import Derived.Test.YtedhdmahdioboaaSg2
import Derived.Maps.AppendAt
import Derived.OwnWalk
import Derived.Lib.SliceRun
namespace Go.Proofs.Ytedhdmahdioboaa
open Go.ChangeShapes Go.WideShapes Go.ChangeAt Go.RowKit
set_option linter.unusedVariables false
set_option linter.unusedSimpArgs false
variable {R : Array Value} {T : TypeId}

def byV (L : List Nat) : List Value := L.map (fun c => Value.int .u8 ((c : Nat) : Int))
theorem byteInfo : (Try.prog.info? 5).map (fun i => (i.zero, i.size, i.bytes)) = some (some (.int .u8 0), 1, 1) := by kernel_rfl
/-- Bytes at the head of a block. -/
def ByAt (w : World) (a : Option Addr) (L : List Nat) : Prop := ∀ j, j < L.length → ∃ g o, a = some ⟨g, o, none⟩ ∧ w.cell? ⟨g, o + j, none⟩ = some (.int .u8 ((L.getD j 0 : Nat) : Int))
theorem ByAt.only {w w' : World} {a : Option Addr} {L : List Nat} (h : ByAt w a L) {D : List Nat} (o : Only D w w') (s : ∀ g p, a = some ⟨g, p, none⟩ → L ≠ [] → g ∉ D) : ByAt w' a L := by
  intro j hj
  obtain ⟨g, p, e, hc⟩ := h j hj
  exact ⟨g, p, e, o.cell hc (s g p e (by intro q; rw [q] at hj; simp at hj))⟩
/-- A copy of bytes in a block of its own. -/
def Fresh (w : World) (v : Value) (L : List Nat) (w' : World) : Prop := ∃ g c, v = .slice (some ⟨g, 0, none⟩) L.length c ∧ w.heap.size ≤ g ∧ g < w'.heap.size ∧ ByAt w' (some ⟨g, 0, none⟩) L ∧ L.length ≤ c
theorem fresh_of {w w' : World} {v : Value} {L : List Nat} (h : w'.ownsRow w.heap.size 5 1 v L.length (byV L)) (hv : v ≠ .slice none 0 0) : Fresh w v L w' := by
  obtain ⟨h1, ⟨rfl, h2⟩ | ⟨g, cap, cur, rfl, hb, hg, hn, hc, hs, ht⟩⟩ := h
  · exact absurd rfl hv
  · refine ⟨g, cap, rfl, hb, (Array.getElem?_eq_some_iff.1 hg).1, fun j hj => ⟨g, 0, rfl, ?_⟩, hn⟩
    have e : (cur.toList.take (L.length * 1))[j]? = some (.int .u8 ((L.getD j 0 : Nat) : Int)) := by
      rw [ht, byV, List.getElem?_map, List.getElem?_eq_getElem hj, List.getD_eq_getElem?_getD, List.getElem?_eq_getElem hj]; rfl
    rw [List.getElem?_take] at e
    simp only [Nat.mul_one, hj, if_true] at e
    simp only [World.cell?, hg, Option.isSome_none, Bool.false_eq_true, if_false, Nat.zero_add]
    rw [← e, Array.getElem?_toList]
set_option maxRecDepth 100000 in
set_option maxHeartbeats 2000000 in
theorem cloneA_calls (ad : Addr) (c : Nat) (L : List Nat) (w : World) (hl : L.length ≤ 100000) (h : ∀ j, j < L.length → w.cell? (ad.add j) = some (.int .u8 ((L.getD j 0 : Nat) : Int))) :
    Calls Try.prog 107 #[.slice (some ad) L.length c] w fun e w' => ∃ v, e = .returned v ∧ Fresh w v L w' ∧ Only [] w w' := by
  obtain ⟨i0, hi, hz0, hz1, hz2⟩ := info_parts byteInfo
  have qs : ∀ (w : World) (a : Option Addr) (n c n' c' : Nat), (binOp .eql 53 (.slice a n c) (.slice none n' c')).run Try.prog w = .ok (.bool a.isNone) w := fun w a n c n' c' => Lib.run_eql_slice_nil w _ _ a n c n' c' Try.underlying53
  have HA : Hid ((∀ j, j < L.length → w.cell? (ad.add j) = some (.int .u8 ((L.getD j 0 : Nat) : Int))) ∧ L.length ≤ 100000) := ⟨h, hl⟩
  clear h
  go_enter Try.func107, Try.ntmps107
  go_wp2_with (at_builtin; refine wpList_append_own _ rfl _ _ 53 rfl w.heap.size 5 i0 (.int .u8 0) 1 1 Try.underlying53 hi hz0 hz1 hz2 rfl (by decide) _ _ _ rfl (World.ownsRow_made w #[] 0 (Nat.le_refl _) (Nat.zero_le _) rfl) ad L.length c (byV L) rfl ?qc1 ?qc2 ?qc3 ?qc4 ?qc5 ?qc6 ?_)
  case qc1 => simp [byV]
  case qc2 =>
    intro j u hj
    have hjn : j < L.length := by
      have := (List.getElem?_eq_some_iff.1 hj).1
      simpa [byV] using this
    refine Lib.cell?_alloc_some _ ?_
    have hc := HA.out.1 j hjn
    have e : (byV L)[j]? = some (Value.int .u8 ((L.getD j 0 : Nat) : Int)) := by rw [byV, List.getElem?_map, List.getElem?_eq_getElem hjn, List.getD_eq_getElem?_getD, List.getElem?_eq_getElem hjn]; rfl
    rw [e] at hj
    exact hc.trans hj
  case qc3 => intro u hu; obtain ⟨x, _, rfl⟩ := List.mem_map.1 hu; rfl
  case qc4 => unfold maxLen; omega
  case qc5 => omega
  case qc6 => simp
  intro v' w1 hown hgrow hnil
  have H1 : Hid (Fresh w v' L w1 ∧ Only [] w w1) := by
    refine ⟨fresh_of (by simpa using hown) (by first | exact hnil | (intro e; exact absurd (hnil.1 e).1 (by simp))), ?_⟩
    refine ((Only.refl [] w).alloc _).grown hgrow (fun k hk => Or.inr ?_)
    simp [Value.ownBlock] at hk; omega
  clear hown hgrow hnil
  go_wp2
  go_ret
  exact ⟨v', rfl, H1.out.1, H1.out.2⟩
theorem ByAt.adds {w : World} {g o : Nat} {L : List Nat} (h : ByAt w (some ⟨g, o, none⟩) L) : ∀ j, j < L.length → w.cell? ((⟨g, o, none⟩ : Addr).add j) = some (.int .u8 ((L.getD j 0 : Nat) : Int)) := fun j hj => by
  obtain ⟨g', o', e, hc⟩ := h j hj
  injection e with e; injection e with e1 e2 e3; subst e1 e2
  rw [show (⟨g, o, none⟩ : Addr).add j = ⟨g, o + j, none⟩ from by unfold Addr.add; split <;> simp_all]
  exact hc
theorem clone_calls (g o c : Nat) (L : List Nat) (w : World) (hl : L.length ≤ 100000) (h : ByAt w (some ⟨g, o, none⟩) L) :
    Calls Try.prog 107 #[.slice (some ⟨g, o, none⟩) L.length c] w fun e w' => ∃ v, e = .returned v ∧ Fresh w v L w' ∧ Only [] w w' := cloneA_calls _ c L w hl h.adds
theorem clone_nil (w : World) : Calls Try.prog 107 #[.slice none 0 0] w fun e w' => e = .returned (.slice none 0 0) ∧ w' = w := by
  have qs : ∀ (w : World) (a : Option Addr) (n c n' c' : Nat), (binOp .eql 53 (.slice a n c) (.slice none n' c')).run Try.prog w = .ok (.bool a.isNone) w := fun w a n c n' c' => Lib.run_eql_slice_nil w _ _ a n c n' c' Try.underlying53
  go_enter Try.func107, Try.ntmps107
  go_wp2
  go_ret
  exact ⟨rfl, rfl⟩
theorem WrAt.bytes {w : World} {x : Nat} {l : List Nat} (h : WrAt R T w x l) : ByAt w (some ⟨x, 0, none⟩) (bytesOf l) := by
  intro j hj
  rw [bytesOf_len] at hj
  have hl := h.len
  refine ⟨x, 0, rfl, ?_⟩
  rw [Nat.zero_add, h.byte (by omega)]
  congr 3
  rw [List.getD_eq_getElem?_getD, bytesOf, List.getElem?_map, List.getElem?_range hj]; rfl
set_option maxRecDepth 100000 in
set_option maxHeartbeats 2000000 in
theorem bytes_calls (x : Nat) (l : List Nat) (w : World) (h : WrAt R T w x l) :
    Calls Try.prog 139 #[.pointer (some ⟨x, 0, none⟩)] w fun e w' => ∃ v, e = .returned v ∧ Fresh w v (bytesOf l) w' ∧ Only [] w w' := by
  have HW : Hid (WrAt R T w x l) := h
  have hm := h.many
  have hl := h.len
  clear h
  obtain ⟨q, hq⟩ : ∃ q, q = (l.length + 7) / 8 := ⟨_, rfl⟩
  have HQ : Hid (q = (l.length + 7) / 8) := hq
  have HW8 : Hid (IntKind.i64.wrap ((IntKind.i64.wrap ((l.length : Int) + 7)).tdiv 8) = (q : Int)) := by
    show _ = _
    rw [show (l.length : Int) + 7 = ((l.length + 7 : Nat) : Int) from rfl, wrap_i64 _ (by omega), Int.tdiv_eq_ediv_of_nonneg (by omega), hq, ← wrap_i64 ((l.length + 7) / 8) (by omega)]; rfl
  have hq4 : (q : Int) ≤ 4000 := by omega
  clear hq
  go_enter Try.func139, Try.ntmps139
  go_upto_region 1 with fail
  refine wp_region_held_drew (S := (fun w' => w'.cell? ⟨x, 4000, none⟩ = some (.int .i64 ((l.length : Nat) : Int)))) (by kernel_rfl) ?_ (fun hHeld1 => ?_)
  · (try dsimp only); exact hm
  refine tkW 0 rfl ?_; refine tkW 1 rfl ?_; refine tkW 2 rfl ?_; refine tkW 3 rfl ?_
  try simp only [Act.put, List.setIfInBounds_toArray, List.set_cons_zero, List.set_cons_succ, List.getElem_toArray, List.getElem_cons_succ, List.getElem_cons_zero]
  refine tkW 4 rfl ?_; refine tkW 5 rfl ?_; refine tkW 6 rfl ?_; refine tkW 7 rfl ?_
  try simp only [Act.put, List.setIfInBounds_toArray, List.set_cons_zero, List.set_cons_succ, List.getElem_toArray, List.getElem_cons_succ, List.getElem_cons_zero]
  refine tkW (v := .int .i64 (q : Int)) 8 rfl ?_ (by intro w'' hSw; (try dsimp only at hSw); simp only [List.getElem_toArray, List.getElem_cons_succ, List.getElem_cons_zero]; go_simp; rw [HW8.out])
  try simp only [Act.put, List.setIfInBounds_toArray, List.set_cons_zero, List.set_cons_succ, List.getElem_toArray, List.getElem_cons_succ, List.getElem_cons_zero]
  refine tkW 9 rfl ?_
  try simp only [Act.put, List.setIfInBounds_toArray, List.set_cons_zero, List.set_cons_succ, List.getElem_toArray, List.getElem_cons_succ, List.getElem_cons_zero]
  obtain rfl : q = (bytesOf l).length := by rw [HQ.out, bytesOf_len]
  refine wpAnyH_ready (rs := [10]) (by kernel_rfl) (by simp) ?_
  refine AllReadyH.cons rfl (fun K hK => ?_) AllReadyH.nil
  first | (with_reducible refine iteYes ?hcx ?htx; case hcx => kernel_rfl) | rw [if_pos (by rfl)]
  simp only [List.getElem_toArray, List.getElem_cons_succ, List.getElem_cons_zero]
  go_simp
  (go_at_call 107; refine (clone_calls x 0 4000 (bytesOf l) _ (by omega) (HW.out.drew.bytes)).mono ?_; rintro e w1 ⟨v, rfl, hf, o1⟩; have H1 : Hid (Fresh w.drew v (bytesOf l) w1 ∧ Only [] w w1) := ⟨hf, (Only.refl [] w).drew.trans o1⟩; clear hf o1)
  try go_wp2_with fail
  refine hK.out _ _ ?_ (fun hHeld2 => ?_)
  · (try dsimp only); exact (HW.out.only H1.out.2 (by simp)).many
  clear hK K hHeld1
  try simp only [Act.put, List.setIfInBounds_toArray, List.set_cons_zero, List.set_cons_succ, List.getElem_toArray, List.getElem_cons_succ, List.getElem_cons_zero]
  refine tkW 11 rfl ?_
  try simp only [Act.put, List.setIfInBounds_toArray, List.set_cons_zero, List.set_cons_succ, List.getElem_toArray, List.getElem_cons_succ, List.getElem_cons_zero]
  refine wpAnyH_done (by kernel_rfl) ?_ _
  go_wp2_with fail
  go_ret
  obtain ⟨g, c, h1, h2, h3⟩ := H1.out.1
  exact ⟨v, rfl, ⟨g, c, h1, h2, h3⟩, H1.out.2⟩

/-! A Reader: its bytes, and where it stands. -/
structure RdAt (w : World) (r : Nat) (a : Option Addr) (c : Nat) (L : List Nat) (p : Nat) : Prop where
  at_ : w.heap[r]? = some (.cells #[.slice a L.length c, .int .i64 ((p : Nat) : Int)] 194)
  by_ : ByAt w a L
  apart : ∀ g o, a = some ⟨g, o, none⟩ → L ≠ [] → g ≠ r
  small : ∀ x ∈ L, x < 256
  len : L.length ≤ 100000
  pos : p ≤ 8 * L.length
theorem RdAt.lt {w : World} {r : Nat} {a : Option Addr} {c : Nat} {L : List Nat} {p : Nat} (h : RdAt w r a c L p) : r < w.heap.size := (Array.getElem?_eq_some_iff.1 h.at_).1
theorem RdAt.c0 {w : World} {r : Nat} {a : Option Addr} {c : Nat} {L : List Nat} {p : Nat} (h : RdAt w r a c L p) : w.cell? ⟨r, 0, none⟩ = some (.slice a L.length c) := by simp [World.cell?, h.at_]
theorem RdAt.c1 {w : World} {r : Nat} {a : Option Addr} {c : Nat} {L : List Nat} {p : Nat} (h : RdAt w r a c L p) : w.cell? ⟨r, 1, none⟩ = some (.int .i64 ((p : Nat) : Int)) := by simp [World.cell?, h.at_]
theorem RdAt.free {w : World} {r : Nat} {a : Option Addr} {c : Nat} {L : List Nat} {p : Nat} (h : RdAt w r a c L p) (i : Nat) : w.frozen? ⟨r, i, none⟩ = false := by simp [World.frozen?, h.at_]
theorem RdAt.only {w w' : World} {r : Nat} {a : Option Addr} {c : Nat} {L : List Nat} {p : Nat} (h : RdAt w r a c L p) {D : List Nat} (o : Only D w w') (hr : r ∉ D) (s : ∀ g o, a = some ⟨g, o, none⟩ → L ≠ [] → g ∉ D) : RdAt w' r a c L p :=
  ⟨(o.block r h.lt hr).trans h.at_, h.by_.only o s, h.apart, h.small, h.len, h.pos⟩
theorem RdAt.drew {w : World} {r : Nat} {a : Option Addr} {c : Nat} {L : List Nat} {p : Nat} (h : RdAt w r a c L p) : RdAt w.drew r a c L p := ⟨h.at_, h.by_, h.apart, h.small, h.len, h.pos⟩
/-- It stands elsewhere. -/
theorem RdAt.put {w : World} {r : Nat} {a : Option Addr} {c : Nat} {L : List Nat} {p : Nat} (h : RdAt w r a c L p) {q : Nat} (hq : q ≤ 8 * L.length) : RdAt (w.setCell ⟨r, 1, none⟩ (.int .i64 ((q : Nat) : Int))) r a c L q := by
  refine ⟨?_, h.by_.only ((Only.refl [r] w).setCell (p := ⟨r, 1, none⟩) (Or.inl (by simp)) _) (fun g o e hL => by simp only [List.mem_singleton]; exact h.apart g o e hL), h.apart, h.small, h.len, hq⟩
  rw [heap_put h.at_]; rfl
/-- A new Reader of these bytes. -/
def Made (w : World) (v : Value) (L : List Nat) (w' : World) : Prop := ∃ r a c, v = .pointer (some ⟨r, 0, none⟩) ∧ w.heap.size ≤ r ∧ RdAt w' r a c L 0 ∧ ∀ g o, a = some ⟨g, o, none⟩ → L ≠ [] → w.heap.size ≤ g
set_option maxRecDepth 100000 in
set_option maxHeartbeats 2000000 in
theorem readA_calls (ad : Addr) (c : Nat) (L : List Nat) (w : World) (hl : L.length ≤ 100000) (hs : ∀ x ∈ L, x < 256) (h : ∀ j, j < L.length → w.cell? (ad.add j) = some (.int .u8 ((L.getD j 0 : Nat) : Int))) :
    Calls Try.prog 69 #[.slice (some ad) L.length c] w fun e w' => ∃ v, e = .returned v ∧ Made w v L w' ∧ Only [] w w' := by
  have HA : Hid ((∀ j, j < L.length → w.cell? (ad.add j) = some (.int .u8 ((L.getD j 0 : Nat) : Int))) ∧ L.length ≤ 100000 ∧ ∀ x ∈ L, x < 256) := ⟨h, hl, hs⟩
  clear h hl hs
  go_enter Try.func69, Try.ntmps69
  go_wp2_with fail
  refine (cloneA_calls ad c L w HA.out.2.1 HA.out.1).mono ?_
  rintro e w1 ⟨v, rfl, ⟨g1, c1, rfl, h2, h3, h4, h5⟩, o1⟩
  have H1 : Hid (w.heap.size ≤ g1 ∧ g1 < w1.heap.size ∧ ByAt w1 (some ⟨g1, 0, none⟩) L ∧ Only [] w w1) := ⟨h2, h3, h4, o1⟩
  clear h2 h3 h4 h5 o1
  go_wp2_with fail
  go_ret
  refine ⟨_, rfl, ⟨w1.heap.size, some ⟨g1, 0, none⟩, c1, rfl, H1.out.2.2.2.size, ⟨(MapKept.heap_alloc w1 _).1, H1.out.2.2.1.only ((Only.refl [] w1).alloc _) (by simp), ?_, HA.out.2.2, HA.out.2.1, by omega⟩, ?_⟩, H1.out.2.2.2.alloc _⟩
  · intro g' o' e _; injection e with e; injection e with e1 _ _; have := H1.out.2.1; omega
  · intro g' o' e _; injection e with e; injection e with e1 _ _; have := H1.out.1; omega
theorem read_calls (g o c : Nat) (L : List Nat) (w : World) (hl : L.length ≤ 100000) (hs : ∀ x ∈ L, x < 256) (h : ByAt w (some ⟨g, o, none⟩) L) :
    Calls Try.prog 69 #[.slice (some ⟨g, o, none⟩) L.length c] w fun e w' => ∃ v, e = .returned v ∧ Made w v L w' ∧ Only [] w w' := readA_calls _ c L w hl hs h.adds
theorem read_nil (w : World) : Calls Try.prog 69 #[.slice none 0 0] w fun e w' => ∃ v, e = .returned v ∧ Made w v [] w' ∧ Only [] w w' := by
  go_enter Try.func69, Try.ntmps69
  go_wp2_with fail
  refine (clone_nil w).mono ?_
  rintro e w1 ⟨rfl, rfl⟩
  go_wp2_with fail
  go_ret
  exact ⟨_, rfl, ⟨w1.heap.size, none, 0, rfl, Nat.le_refl _, ⟨(MapKept.heap_alloc w1 _).1, fun j hj => by simp at hj, by simp, by simp, by simp, by omega⟩, by simp⟩, (Only.refl [] w1).alloc _⟩
set_option maxRecDepth 100000 in
set_option maxHeartbeats 2000000 in
theorem left_calls (r : Nat) (a : Option Addr) (c : Nat) (L : List Nat) (p : Nat) (w : World) (h : RdAt w r a c L p) :
    Calls Try.prog 134 #[.pointer (some ⟨r, 0, none⟩)] w fun e w' => e = .returned (.int .i64 (((8 * L.length - p : Nat) : Int))) ∧ Only [] w w' := by
  have c0 := h.c0; have c1 := h.c1; have hl := h.len; have hp := h.pos
  clear h
  obtain ⟨m, hm⟩ : ∃ m, m = 8 * L.length := ⟨_, rfl⟩
  obtain ⟨d, hd⟩ : ∃ d, d = 8 * L.length - p := ⟨_, rfl⟩
  have H8 : Hid (IntKind.i64.wrap (8 * (L.length : Int)) = (m : Int)) := by show _ = _; rw [← wrap_i64 m (by omega), hm]; rfl
  have H9 : Hid (IntKind.i64.wrap ((m : Int) - (p : Int)) = (d : Int)) := by
    show _ = _
    rw [show (m : Int) - (p : Int) = (d : Int) by omega]; exact wrap_i64 _ (by omega)
  rw [← hd]
  clear hm hd
  go_enter Try.func134, Try.ntmps134
  go_upto_region 1 with fail
  refine wp_region_held_drew (S := (fun w' => w'.cell? ⟨r, 0, none⟩ = some (.slice a L.length c) ∧ w'.cell? ⟨r, 1, none⟩ = some (.int .i64 ((p : Nat) : Int)))) (by kernel_rfl) ?_ (fun hHeld1 => ?_)
  · (try dsimp only); exact ⟨c0, c1⟩
  refine tkW 0 rfl ?_; refine tkW 1 rfl ?_; refine tkW 2 rfl ?_; refine tkW 3 rfl ?_
  try simp only [Act.put, List.setIfInBounds_toArray, List.set_cons_zero, List.set_cons_succ, List.getElem_toArray, List.getElem_cons_succ, List.getElem_cons_zero]
  refine tkW 4 rfl ?_
  try simp only [Act.put, List.setIfInBounds_toArray, List.set_cons_zero, List.set_cons_succ, List.getElem_toArray, List.getElem_cons_succ, List.getElem_cons_zero]
  refine tkW (v := .int .i64 (m : Int)) 5 rfl ?_ (by intro w'' hSw; (try dsimp only at hSw); simp only [List.getElem_toArray, List.getElem_cons_succ, List.getElem_cons_zero]; go_simp; rw [H8.out])
  try simp only [Act.put, List.setIfInBounds_toArray, List.set_cons_zero, List.set_cons_succ, List.getElem_toArray, List.getElem_cons_succ, List.getElem_cons_zero]
  refine tkW 6 rfl ?_; refine tkW 7 rfl ?_; refine tkW 8 rfl ?_; refine tkW 9 rfl ?_
  try simp only [Act.put, List.setIfInBounds_toArray, List.set_cons_zero, List.set_cons_succ, List.getElem_toArray, List.getElem_cons_succ, List.getElem_cons_zero]
  refine tkW (v := .int .i64 (d : Int)) 10 rfl ?_ (by intro w'' hSw; (try dsimp only at hSw); simp only [List.getElem_toArray, List.getElem_cons_succ, List.getElem_cons_zero]; go_simp; rw [H9.out])
  try simp only [Act.put, List.setIfInBounds_toArray, List.set_cons_zero, List.set_cons_succ, List.getElem_toArray, List.getElem_cons_succ, List.getElem_cons_zero]
  refine tkW 11 rfl ?_
  try simp only [Act.put, List.setIfInBounds_toArray, List.set_cons_zero, List.set_cons_succ, List.getElem_toArray, List.getElem_cons_succ, List.getElem_cons_zero]
  refine wpAnyH_done (by kernel_rfl) ?_ _
  go_wp2_with fail
  go_ret
  exact ⟨rfl, (Only.refl [] w).drew⟩
set_option maxRecDepth 100000 in
set_option maxHeartbeats 2000000 in
theorem take_calls (r : Nat) (a : Option Addr) (c : Nat) (L : List Nat) (p wd : Nat) (w : World) (h : RdAt w r a c L p) (hw : wd ≤ 62) (hp : p + wd ≤ 8 * L.length) :
    Calls Try.prog 135 #[.pointer (some ⟨r, 0, none⟩), .int .i64 ((wd : Int))] w fun e w' => e = .returned (.int .i64 (((valB (((bitsOf L).drop p).take wd) : Nat) : Int))) ∧ RdAt w' r a c L (p + wd) ∧ Only [r] w w' := by
  have HB : Hid (wd ≤ 62 ∧ p + wd ≤ 8 * L.length ∧ (bitsOf L).length = 8 * L.length ∧ Bits (bitsOf L)) := ⟨hw, hp, bitsOf_len L, bitsOf_bits L⟩
  have H0 : Hid (RdAt w r a c L (p + 0) ∧ Only [r] w w) := ⟨h, Only.refl _ _⟩
  clear h hw hp
  go_enter Try.func135, Try.ntmps135
  go_wp2_with fail
  go_loopg [5, 8] wd (fun k v idx wr => ∃ i m : Nat, v = .int .i64 (m : Int) ∧ idx = .int .i64 (i : Int) ∧ Hid (i ≤ wd ∧ k = wd - i ∧ m = valB (((bitsOf L).drop p).take i)) ∧ Hid (RdAt wr r a c L (p + i) ∧ Only [r] w wr))
  case atStart => exact ⟨0, 0, rfl, rfl, ⟨by omega, rfl, by simp [valB]⟩, H0⟩
  case round =>
    clear H0
    obtain ⟨i, m, rfl, rfl, H1, HE⟩ := hrel
    have hwd := HB.out.1
    by_cases hi : i < wd
    · have hil : (i : Int) < (wd : Int) := by omega
      have hmb : m < 2 ^ 61 := by
        rw [H1.out.2.2]
        refine Nat.lt_of_lt_of_le (valB_lt (fun b hb => HB.out.2.2.2 b (List.mem_of_mem_drop (List.mem_of_mem_take hb)))) ?_
        exact Nat.pow_le_pow_right (by omega) (by rw [List.length_take]; omega)
      go_upto_region 4 with fail
      obtain ⟨P, hP⟩ : ∃ P, P = p + i := ⟨_, rfl⟩
      have hbits := HB.out.2.1
      have HS : Hid (RdAt wr r a c L P ∧ Only [r] w wr ∧ P = p + i) := ⟨by rw [hP]; exact HE.out.1, HE.out.2, hP⟩
      have hq8 : P < 8 * L.length := by omega
      obtain ⟨q, hq⟩ : ∃ q, q = P / 8 := ⟨_, rfl⟩
      obtain ⟨s, hs⟩ : ∃ s, s = 7 - P % 8 := ⟨_, rfl⟩
      have hqL : q < L.length := by omega
      obtain ⟨g, o, rfl, hcell⟩ := HS.out.1.by_ q hqL
      obtain ⟨t, ht⟩ : ∃ t, t = L.getD q 0 / 2 ^ s := ⟨_, rfl⟩
      obtain ⟨b, hb⟩ : ∃ b, b = t % 2 := ⟨_, rfl⟩
      obtain ⟨y, hy⟩ : ∃ y, y = L.getD q 0 := ⟨_, rfl⟩
      have hy256 : y < 256 := by rw [hy, List.getD_eq_getElem?_getD, List.getElem?_eq_getElem hqL]; exact HS.out.1.small _ (List.getElem_mem hqL)
      rw [← hy] at hcell ht
      have hlen := HS.out.1.len
      have c0 := HS.out.1.c0; have c1 := HS.out.1.c1
      have HW8 : Hid (IntKind.i64.wrap ((P : Int) / 8) = (q : Int)) := by show _ = _; rw [hq, ← wrap_i64 (P / 8) (by omega)]; rfl
      have HS7 : Hid (IntKind.i64.wrap (7 - (P : Int).tmod 8) = (s : Int)) := by
        show _ = _
        rw [Int.tmod_eq_emod_of_nonneg (by omega), hs, ← wrap_i64 (7 - P % 8) (by omega)]
        congr 1
        omega
      have ht256 : t < 256 := by rw [ht]; exact Nat.lt_of_le_of_lt (Nat.div_le_self _ _) hy256
      have HT : Hid ((y : Int) / 2 ^ s = (t : Int)) := by show _ = _; rw [ht]; rfl
      have HBB : Hid (Go.bits .and .u8 (t : Int) 1 = (b : Int)) := by show _ = _; rw [hb]; exact and_one_u8 t ht256
      have hq4 : (q : Int) < (L.length : Int) := by omega
      have hs64 : s ≤ 7 := by omega
      have HQ : Hid (b = (bitsOf L).getD (p + i) 0 ∧ b ≤ 1 ∧ P < 8 * L.length) := ⟨by rw [bitsOf_getD _ _ (by omega), ← hP, ← hq, ← hs, ← hy, ← ht, hb], by omega, hq8⟩
      have hb1 : b ≤ 1 := HQ.out.2.1
      clear hq hs ht hb hy hq8 hP hbits HE
      refine wp_region_held_drew (S := (fun w' => w'.cell? ⟨r, 0, none⟩ = some (.slice (some ⟨g, o, none⟩) L.length c) ∧ w'.cell? ⟨r, 1, none⟩ = some (.int .i64 ((P : Nat) : Int)) ∧ w'.cell? ⟨g, o + q, none⟩ = some (.int .u8 (y : Int)))) (by kernel_rfl) ?_ (fun hHeld1 => ?_)
      · (try dsimp only); exact ⟨c0, c1, hcell⟩
      refine tkW 0 rfl ?_; refine tkW 1 rfl ?_; refine tkW 2 rfl ?_; refine tkW 3 rfl ?_
      try simp only [Act.put, List.setIfInBounds_toArray, List.set_cons_zero, List.set_cons_succ, List.getElem_toArray, List.getElem_cons_succ, List.getElem_cons_zero]
      refine tkW 4 rfl ?_; refine tkW 5 rfl ?_; refine tkW 6 rfl ?_; refine tkW 7 rfl ?_
      try simp only [Act.put, List.setIfInBounds_toArray, List.set_cons_zero, List.set_cons_succ, List.getElem_toArray, List.getElem_cons_succ, List.getElem_cons_zero]
      refine tkW (v := .int .i64 (q : Int)) 8 rfl ?_ (by intro w'' hSw; (try dsimp only at hSw); simp only [List.getElem_toArray, List.getElem_cons_succ, List.getElem_cons_zero]; go_simp; rw [HW8.out])
      try simp only [Act.put, List.setIfInBounds_toArray, List.set_cons_zero, List.set_cons_succ, List.getElem_toArray, List.getElem_cons_succ, List.getElem_cons_zero]
      refine tkW 9 rfl ?_; refine tkW 10 rfl ?_; refine tkW 11 rfl ?_; refine tkW 12 rfl ?_
      try simp only [Act.put, List.setIfInBounds_toArray, List.set_cons_zero, List.set_cons_succ, List.getElem_toArray, List.getElem_cons_succ, List.getElem_cons_zero]
      refine tkW 13 rfl ?_; refine tkW 14 rfl ?_; refine tkW 15 rfl ?_
      try simp only [Act.put, List.setIfInBounds_toArray, List.set_cons_zero, List.set_cons_succ, List.getElem_toArray, List.getElem_cons_succ, List.getElem_cons_zero]
      refine tkW (v := .int .i64 (s : Int)) 16 rfl ?_ (by intro w'' hSw; (try dsimp only at hSw); simp only [List.getElem_toArray, List.getElem_cons_succ, List.getElem_cons_zero]; go_simp; rw [HS7.out])
      try simp only [Act.put, List.setIfInBounds_toArray, List.set_cons_zero, List.set_cons_succ, List.getElem_toArray, List.getElem_cons_succ, List.getElem_cons_zero]
      refine tkW (v := .int .u8 (t : Int)) 17 rfl ?_ (by intro w'' hSw; (try dsimp only at hSw); simp only [List.getElem_toArray, List.getElem_cons_succ, List.getElem_cons_zero]; go_simp; rw [HT.out])
      try simp only [Act.put, List.setIfInBounds_toArray, List.set_cons_zero, List.set_cons_succ, List.getElem_toArray, List.getElem_cons_succ, List.getElem_cons_zero]
      refine tkW (v := .int .u8 (b : Int)) 18 rfl ?_ (by intro w'' hSw; (try dsimp only at hSw); simp only [List.getElem_toArray, List.getElem_cons_succ, List.getElem_cons_zero]; go_simp; rw [HBB.out])
      try simp only [Act.put, List.setIfInBounds_toArray, List.set_cons_zero, List.set_cons_succ, List.getElem_toArray, List.getElem_cons_succ, List.getElem_cons_zero]
      refine tkW 19 rfl ?_
      try simp only [Act.put, List.setIfInBounds_toArray, List.set_cons_zero, List.set_cons_succ, List.getElem_toArray, List.getElem_cons_succ, List.getElem_cons_zero]
      refine wpAnyH_done (by kernel_rfl) ?_ _
      have H9 : Hid (RdAt (wr.drew.setCell ⟨r, 1, none⟩ (.int .i64 ((P + 1 : Nat) : Int))) r (some ⟨g, o, none⟩) c L (P + 1) ∧ Only [r] w (wr.drew.setCell ⟨r, 1, none⟩ (.int .i64 ((P + 1 : Nat) : Int)))) :=
        ⟨HS.out.1.drew.put (by have := HQ.out.2.2; omega), HS.out.2.1.drew.setCell (p := ⟨r, 1, none⟩) (Or.inl (by simp)) _⟩
      have c1' : wr.drew.cell? ⟨r, 1, none⟩ = some (.int .i64 ((P : Nat) : Int)) := c1
      have f1' : wr.drew.frozen? ⟨r, 1, none⟩ = false := HS.out.1.free 1
      have hPl : P ≤ 800000 := by have := HQ.out.2.2; omega
      clear c0 c1 hcell
      generalize World.drew wr = w5 at H9 c1' f1' ⊢
      have hm2 : (m : Int) < 2305843009213693952 := by omega
      clear hmb
      go_wp2_with fail
      go_roundg (wd - (i + 1))
      case measure => have := H1.out.2.1; omega
      case rel =>
        refine ⟨i + 1, 2 * m + b, by go_num, by go_num, ⟨by omega, rfl, ?_⟩, ?_⟩
        · rw [valB_take _ _ _ (by rw [HB.out.2.2.1]; have := HB.out.2.1; omega), ← H1.out.2.2, ← HQ.out.1]
        · have e := HS.out.2.2
          rw [show p + (i + 1) = P + 1 by omega]
          exact H9
    · have hil : ¬ (i : Int) < (wd : Int) := by omega
      obtain rfl : i = wd := by have := H1.out.1; omega
      go_wp2_with fail
      go_ret
      exact ⟨by rw [H1.out.2.2]; rfl, HE.out.1, HE.out.2⟩
/-- What a Reader's call tells: an error (0: none), the number, where it stands then. -/
def RdPost (r : Nat) (a : Option Addr) (c : Nat) (L : List Nat) (er : Int) (n : Int) (q : Nat) (w : World) (e : Ending) (w' : World) : Prop :=
  e = .returned (.tuple #[.int .i64 n, if er = 0 then .nilIface else errV er]) ∧ RdAt w' r a c L q ∧ Only [r] w w'
set_option maxRecDepth 100000 in
set_option maxHeartbeats 2000000 in
theorem get_calls (r : Nat) (a : Option Addr) (c : Nat) (L : List Nat) (p : Nat) (wd : Int) (w : World) (h : RdAt w r a c L p) :
    Calls Try.prog 110 #[.pointer (some ⟨r, 0, none⟩), .int .i64 wd] w fun e w' =>
      (¬ (0 ≤ wd ∧ wd ≤ 62) ∧ RdPost r a c L 2 0 p w e w') ∨ ((0 ≤ wd ∧ wd ≤ 62) ∧ 8 * L.length < p + wd.toNat ∧ RdPost r a c L 8 0 p w e w') ∨ ((0 ≤ wd ∧ wd ≤ 62) ∧ p + wd.toNat ≤ 8 * L.length ∧ RdPost r a c L 0 (valB (((bitsOf L).drop p).take wd.toNat) : Nat) (p + wd.toNat) w e w') := by
  have HR : Hid (RdAt w r a c L p) := h
  clear h
  go_enter Try.func110, Try.ntmps110
  go_wp2_with fail
  refine (mayBe_calls wd w).mono ?_
  rintro e w1 ⟨rfl, rfl⟩
  by_cases hm : 0 ≤ wd ∧ wd ≤ 62
  · simp only [hm, and_self, decide_true]
    obtain ⟨d, rfl⟩ : ∃ d : Nat, wd = (d : Int) := ⟨wd.toNat, by omega⟩
    go_wp2_with fail
    refine (left_calls r a c L p w1 HR.out).mono ?_
    rintro e w2 ⟨rfl, o2⟩
    have H2 : Hid (RdAt w2 r a c L p ∧ Only [r] w1 w2) := ⟨HR.out.only o2 (by simp) (by simp), o2.mono (by simp)⟩
    have hpos := HR.out.pos; have hlen := HR.out.len
    obtain ⟨k, hk⟩ : ∃ k, k = 8 * L.length - p := ⟨_, rfl⟩
    rw [← hk]
    clear o2 HR
    by_cases hd : (d : Int) > (k : Int)
    · go_wp2_with fail
      refine bodyPost_ret (v := .tuple #[.int .i64 0, errV 8]) (by simp [results, Try.results110, go_sem, errV]) rfl ?_
      exact Or.inr (Or.inl ⟨hm, by rw [Int.toNat_natCast]; omega, rfl, H2.out.1, H2.out.2⟩)
    · go_wp2_with fail
      refine (take_calls r a c L p d w2 H2.out.1 (by omega) (by omega)).mono ?_
      rintro e w3 ⟨rfl, hr, o3⟩
      have H3 : Hid (RdAt w3 r a c L (p + d) ∧ Only [r] w1 w3) := ⟨hr, H2.out.2.trans o3⟩
      clear hr o3
      go_wp2_with fail
      refine bodyPost_ret (v := .tuple #[.int .i64 (((valB (((bitsOf L).drop p).take d) : Nat) : Int)), .nilIface]) (by simp [results, Try.results110, go_sem]) rfl ?_
      exact Or.inr (Or.inr ⟨hm, by rw [Int.toNat_natCast]; omega, rfl, H3.out.1, H3.out.2⟩)
  · simp only [hm, decide_false]
    go_wp2_with fail
    refine bodyPost_ret (v := .tuple #[.int .i64 0, errV 2]) (by simp [results, Try.results110, go_sem, errV]) rfl ?_
    exact Or.inl ⟨hm, rfl, HR.out, Only.refl _ _⟩
end Go.Proofs.Ytedhdmahdioboaa
