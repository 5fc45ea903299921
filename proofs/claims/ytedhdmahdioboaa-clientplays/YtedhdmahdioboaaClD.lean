/- The document's client (gyreref.Client) in memory; NewClient. -/
import Derived.Test.YtedhdmahdioboaaClC
import Derived.Test.YtedhdmahdioboaaWMb
import Derived.Deep.Cut
namespace Go.Proofs.Ytedhdmahdioboaa
open Go.ChangeShapes Go.WideShapes Go.ChangeAt Go.RowKit
set_option linter.unusedVariables false
set_option linter.unusedSimpArgs false

/-- Its three cells. -/
def RcAt (w : World) (y yv : Nat) (nw : Int) (vg : Value) : Prop := w.heap[y]? = some (.cells #[.map (some yv), .int .i64 nw, vg] 61)
theorem RcAt.cells {w : World} {y yv : Nat} {nw : Int} {vg : Value} (h : RcAt w y yv nw vg) : w.cell? ⟨y, 0, none⟩ = some (.map (some yv)) ∧ w.cell? ⟨y, 1, none⟩ = some (.int .i64 nw) ∧ w.cell? ⟨y, 2, none⟩ = some vg := by
  unfold RcAt at h
  simp [World.cell?, h]
theorem RcAt.free {w : World} {y yv : Nat} {nw : Int} {vg : Value} (h : RcAt w y yv nw vg) (i : Nat) : w.frozen? ⟨y, i, none⟩ = false := by unfold RcAt at h; simp [World.frozen?, h]
theorem RcAt.lt {w : World} {y yv : Nat} {nw : Int} {vg : Value} (h : RcAt w y yv nw vg) : y < w.heap.size := (Array.getElem?_eq_some_iff.1 h).1
theorem RcAt.only {D : List Nat} {w w' : World} {y yv : Nat} {nw : Int} {vg : Value} (h : RcAt w y yv nw vg) (o : Only D w w') (s : y ∉ D) : RcAt w' y yv nw vg := (o.block y h.lt s).trans h
theorem RcAt.put0 {w : World} {y yv : Nat} {nw : Int} {vg : Value} (h : RcAt w y yv nw vg) (yv' : Nat) : RcAt (w.setCell ⟨y, 0, none⟩ (.map (some yv'))) y yv' nw vg := by
  have := heap_put h 0 (.map (some yv'))
  simp only [List.setIfInBounds_toArray, List.set_cons_zero, List.set_cons_succ] at this
  exact this
theorem RcAt.put1 {w : World} {y yv : Nat} {nw : Int} {vg : Value} (h : RcAt w y yv nw vg) (nw' : Int) : RcAt (w.setCell ⟨y, 1, none⟩ (.int .i64 nw')) y yv nw' vg := by
  have := heap_put h 1 (.int .i64 nw')
  simp only [List.setIfInBounds_toArray, List.set_cons_zero, List.set_cons_succ] at this
  exact this
theorem RcAt.put2 {w : World} {y yv : Nat} {nw : Int} {vg : Value} (h : RcAt w y yv nw vg) (vg' : Value) : RcAt (w.setCell ⟨y, 2, none⟩ vg') y yv nw vg' := by
  have := heap_put h 2 vg'
  simp only [List.setIfInBounds_toArray, List.set_cons_zero, List.set_cons_succ] at this
  exact this
theorem only_one {y : Nat} (w : World) (i : Nat) (v : Value) : Only [y] w (w.setCell ⟨y, i, none⟩ v) := (Only.refl [y] w).setCell (p := ⟨y, i, none⟩) (Or.inl (by simp)) _
/-- A piece's five cells. -/
def pieceL (e : Gt × Value) : List Value := [.int .i64 (e.1.st), .int .i64 (e.1.ba), .int .i64 (e.1.ix), .int .i64 (e.1.mn), e.2]
def rowG (K : Kl) : List Value := K.flatMap pieceL
theorem rowG_len (K : Kl) : (rowG K).length = K.length * 5 := by
  induction K with
  | nil => rfl
  | cons e K ih => rw [rowG, List.flatMap_cons, List.length_append, ← rowG, ih]; simp [pieceL]; omega
theorem rowG_app (A B : Kl) : rowG A ++ rowG B = rowG (A ++ B) := by simp [rowG]
theorem rowG_at (K : Kl) (i k : Nat) (hi : i < K.length) (hk : k < 5) : (rowG K)[i * 5 + k]? = (pieceL K[i])[k]? := by
  induction K generalizing i with
  | nil => simp at hi
  | cons e K ih =>
    rw [rowG, List.flatMap_cons, ← rowG]
    cases i with
    | zero =>
      rw [List.getElem?_append_left (by simp [pieceL]; omega)]
      simp
    | succ i =>
      have : (pieceL e).length = 5 := rfl
      rw [List.getElem?_append_right (by rw [this]; omega), this, show (i + 1) * 5 + k - 5 = i * 5 + k from by omega, ih i (by simpa using hi)]
      simp
/-- The document's client, whole. -/
structure RCA (E : List Nat) (w : World) (y yv : Nat) (vg : Value) (J : Vl) (nw : Int) (K : Kl) : Prop where
  cl : RcAt w y yv nw vg
  vm : MapV w (some yv) (mpJ J)
  vo : VwOk E w J nw
  gr : w.ownsRow 0 69 5 vg K.length (rowG K)
  gE : ∀ b, vg.ownBlock = some b → b ∈ E
  ps : ∀ e ∈ K, SbE w E e.2 e.1.by_
  pk : ∀ e ∈ K, GtOk e.1
  lt : ∀ e ∈ E, e < w.heap.size
  yE : y ∈ E
  gy : vg.ownBlock ≠ some y
  ok : CstOk 32 (stC J nw K)
theorem RCA.only {D E : List Nat} {w w' : World} {y yv : Nat} {vg : Value} {J : Vl} {nw : Int} {K : Kl} (h : RCA E w y yv vg J nw K) (o : Only D w w') (hD : ∀ d ∈ D, d ∈ E ∨ IsMap w d) (hy : y ∉ D) (hm : yv ∉ D) (hg : ∀ b, vg.ownBlock = some b → b ∉ D) : RCA E w' y yv vg J nw K :=
  ⟨h.cl.only o hy, h.vm.only o (by simpa using hm), h.vo.only o hD, ownS_far h.gr o hg, h.gE, fun e he => (h.ps e he).only o hD, h.pk, fun e he => Nat.lt_of_lt_of_le (h.lt e he) o.size, h.yE, h.gy, h.ok⟩
theorem RCA.keep {E : List Nat} {w w' : World} {y yv : Nat} {vg : Value} {J : Vl} {nw : Int} {K : Kl} (h : RCA E w y yv vg J nw K) (o : Only [] w w') : RCA E w' y yv vg J nw K := h.only o (by simp) (by simp) (by simp) (by simp)
/-- A piece out of those that are gathered. -/
theorem got_cells {w : World} {b : Nat} {g c : Nat} {K : Kl} (h : w.ownsRow b 69 5 (.slice (some ⟨g, 0, none⟩) K.length c) K.length (rowG K)) {i : Nat} (hi : i < K.length) :
    w.cell? ⟨g, i * 5, none⟩ = some (.int .i64 (K[i].1.st)) ∧ w.cell? ⟨g, i * 5 + 1, none⟩ = some (.int .i64 (K[i].1.ba)) ∧ w.cell? ⟨g, i * 5 + 2, none⟩ = some (.int .i64 (K[i].1.ix)) ∧ w.cell? ⟨g, i * 5 + 3, none⟩ = some (.int .i64 (K[i].1.mn)) ∧ w.cell? ⟨g, i * 5 + 4, none⟩ = some K[i].2 := by
  have hk : ∀ k, k < 5 → w.cell? ⟨g, i * 5 + k, none⟩ = (pieceL K[i])[k]? := fun k hk => by rw [World.ownsRow.cellAt h _ (by omega), rowG_at K i k hi hk]
  exact ⟨hk 0 (by omega), hk 1 (by omega), hk 2 (by omega), hk 3 (by omega), hk 4 (by omega)⟩
theorem zeroSeens (w : World) : (zeroValue 56).run Try.prog w = .ok (.slice none 0 0) w := by kernel_rfl
set_option maxRecDepth 100000 in
set_option maxHeartbeats 2000000 in
/-- NewClient: the view of step 0, which is empty. -/
theorem refNew_calls (w : World) :
    Calls Try.prog 15 #[] w fun e w' => ∃ y m, e = .returned (.pointer (some ⟨y, 0, none⟩)) ∧ w.heap.size ≤ y ∧ w.heap.size ≤ m ∧ RcAt w' y m 0 (.slice none 0 0) ∧ MapV w' (some m) [(0, .slice none 0 0)] ∧ Only [] w w' := by
  have hmm := @run_makeMap Try.prog
  have hm0 : MapV (w.alloc (.map #[] 0)) (some w.heap.size) [] := MapV.made w
  obtain ⟨w1, hr, hm1, htu⟩ := hm0.store Try.underlying58 (by decide) (x := (0, .slice none 0 0)) (by show (Lit.int .i64 0).wf = true; decide) (by simp)
  have HM : Hid (MapV w1 (some w.heap.size) [(0, .slice none 0 0)] ∧ Only [] w w1) :=
    ⟨hm1, ((Only.refl [] w).alloc _).grown htu.grown (fun k hk => by injection hk with hk; exact Or.inr (Nat.le_of_eq hk))⟩
  simp only at hr
  clear hm0 hm1 htu
  go_enter Try.func15, Try.ntmps15
  go_wp2_with fail
  refine bodyPost_ret (v := .pointer (some ⟨w1.heap.size, 0, none⟩)) (by simp [results, Try.results15, go_sem]) rfl ⟨w1.heap.size, w.heap.size, rfl, HM.out.2.size, Nat.le_refl _, (MapKept.heap_alloc w1 _).1, HM.out.1.only ((Only.refl [] w1).alloc _) (by simp), HM.out.2.alloc _⟩
end Go.Proofs.Ytedhdmahdioboaa
/- gyreref.Client.Feed: what it leans on: a piece behind those that are gathered. -/
namespace Go.Proofs.Ytedhdmahdioboaa
open Go.ChangeShapes Go.WideShapes Go.ChangeAt Go.RowKit
set_option linter.unusedVariables false
set_option linter.unusedSimpArgs false

theorem rpiece5 : (Try.prog.info? 69).map (fun i => (i.zero, i.size, i.bytes)) = some (some (.agg #[.int .i64 0, .int .i64 0, .int .i64 0, .int .i64 0, .slice none 0 0]), 5, 56) := by kernel_rfl
/-- A value that is one cell. -/
def OneV (v : Value) : Prop := v.oneCell' = true
theorem SbE.one {w : World} {E : List Nat} {v : Value} {B : List Nat} (h : SbE w E v B) : OneV v := by
  obtain ⟨a, c, rfl, _⟩ := h
  rfl
set_option maxRecDepth 100000 in
theorem run_appendG (w : World) (base : Nat) (ty : TypeId) (v : Value) (K : Kl) (hown : w.ownsRow base 69 5 v K.length (rowG K)) (km : Nat) (e : Gt × Value) (he : OneV e.2) (hc : w.heap[km]? = some (.cells #[.int .i64 (e.1.st), .int .i64 (e.1.ba), .int .i64 (e.1.ix), .int .i64 (e.1.mn), e.2] 69)) (hl : K.length ≤ 1000) (hbase : base ≤ w.heap.size) :
    ∃ v' w', (Builtin.append_ #[59, 59] ty #[v, .slice (some ⟨km, 0, none⟩) 1 1]).run Try.prog w = .ok v' w' ∧ w'.ownsRow base 69 5 v' (K ++ [e]).length (rowG (K ++ [e])) ∧ w.grownBy w' v.ownBlock ∧ (v'.ownBlock = v.ownBlock ∨ v'.ownBlock = some w.heap.size) := by
  obtain ⟨i0, hi0, hz0, hz1, hz2⟩ := infoS rpiece5
  have hnews : ∀ j u, (pieceL e)[j]? = some u → w.cell? ((⟨km, 0, none⟩ : Addr).add j) = some u := by
    intro j u hj
    rw [Addr.add_mid, Nat.zero_add]
    simp only [World.cell?, hc]
    simpa [pieceL] using hj
  have hone : ∀ u ∈ pieceL e, u.oneCell' = true := by
    intro u hu
    simp only [pieceL, List.mem_cons, List.not_mem_nil, or_false] at hu
    rcases hu with rfl | rfl | rfl | rfl | rfl
    · rfl
    · rfl
    · rfl
    · rfl
    · exact he
  obtain ⟨v', w', h1, h2, h3, _, h5⟩ := run_append_own_at (P := Try.prog) w base 59 ty 69 i0 _ 5 56 Try.underlying59 hi0 hz0 hz1 hz2 rfl (by decide) v K.length (rowG K) hown ⟨km, 0, none⟩ 1 1 (pieceL e) rfl hnews hone (by unfold maxLen; omega) (by omega) hbase
  refine ⟨v', w', h1, ?_, h3, h5⟩
  rw [← rowG_app, List.length_append]
  simpa [rowG] using h2
/-- A piece in a block of its own. -/
def PrAt (w : World) (k : Nat) (p : Gt) (v : Value) : Prop := w.heap[k]? = some (.cells #[.int .i64 (p.st), .int .i64 (p.ba), .int .i64 (p.ix), .int .i64 (p.mn), v] 69)
theorem PrAt.cells {w : World} {k : Nat} {p : Gt} {v : Value} (h : PrAt w k p v) : w.cell? ⟨k, 0, none⟩ = some (.int .i64 (p.st)) ∧ w.cell? ⟨k, 1, none⟩ = some (.int .i64 (p.ba)) ∧ w.cell? ⟨k, 2, none⟩ = some (.int .i64 (p.ix)) ∧ w.cell? ⟨k, 3, none⟩ = some (.int .i64 (p.mn)) ∧ w.cell? ⟨k, 4, none⟩ = some v := by
  unfold PrAt at h
  simp [World.cell?, h]
theorem PrAt.lt {w : World} {k : Nat} {p : Gt} {v : Value} (h : PrAt w k p v) : k < w.heap.size := (Array.getElem?_eq_some_iff.1 h).1
theorem PrAt.only {D : List Nat} {w w' : World} {k : Nat} {p : Gt} {v : Value} (h : PrAt w k p v) (o : Only D w w') (s : k ∉ D) : PrAt w' k p v := (o.block k h.lt s).trans h
theorem PrAt.new (w : World) (p : Gt) (v : Value) : PrAt (w.alloc (.cells #[.int .i64 (p.st), .int .i64 (p.ba), .int .i64 (p.ix), .int .i64 (p.mn), v] 69)) w.heap.size p v ∧ Only [] w (w.alloc (.cells #[.int .i64 (p.st), .int .i64 (p.ba), .int .i64 (p.ix), .int .i64 (p.mn), v] 69)) := ⟨(MapKept.heap_alloc w _).1, (Only.refl [] w).alloc _⟩
/-- One that is among the others does not belong to a piece. -/
def badG (q p : Gt) : Bool := q.ba != p.ba || q.mn != p.mn || q.ix == p.ix
theorem fits_all {K : Kl} {p : Gt} : (∀ i (hi : i < K.length), badG K[i].1 p = false) → fitsC (gtK K) p = true := by
  intro h
  rw [fitsC_iff]
  intro q hq
  obtain ⟨e, he, rfl⟩ := List.mem_map.1 hq
  obtain ⟨i, hi, rfl⟩ := List.mem_iff_getElem.1 he
  have := h i hi
  simp only [badG, Bool.or_eq_false_iff, bne_eq_false_iff_eq, beq_eq_false_iff_ne] at this
  exact ⟨this.1.1, this.1.2, this.2⟩
theorem fits_not {K : Kl} {p : Gt} {i : Nat} (hi : i < K.length) (h : badG K[i].1 p = true) : fitsC (gtK K) p = false := by
  cases hf : fitsC (gtK K) p
  · rfl
  · rw [fitsC_iff] at hf
    have h1 := hf K[i].1 (List.mem_map_of_mem (List.getElem_mem hi))
    simp only [badG, Bool.or_eq_true, bne_iff_ne, beq_iff_eq] at h
    rcases h with (h | h) | h
    · exact absurd h1.1 h
    · exact absurd h1.2.1 h
    · exact absurd h h1.2.2
/-- While the document's client takes a piece. -/
structure RG (E : List Nat) (w : World) (y yv : Nat) (J : Vl) (nw : Int) (K : Kl) (kp : Nat) (p : Gt) (vb : Value) (vo0 : Value) (vg : Value) (K1 : Kl) (wx : World) : Prop where
  cl : RcAt wx y yv nw vg
  vm : MapV wx (some yv) (mpJ J)
  vo : VwOk E wx J nw
  gr : wx.ownsRow 0 69 5 vg K1.length (rowG K1)
  gE : ∀ b, vg.ownBlock = some b → b ∈ E
  ps : ∀ e ∈ K1, SbE wx E e.2 e.1.by_
  pk : ∀ e ∈ K1, GtOk e.1
  lt : ∀ e ∈ E, e < wx.heap.size
  gy : vg.ownBlock ≠ some y
  sb : SbE wx E vb p.by_
  pw : PrAt wx kp p vb
  ke : w.heap.size ≤ kp
  on : Only [y] w wx
  old : gtK K1 = oldC (stC J nw K) p
  same : K1 = [] ∨ K1 = K
  vs : vg.ownBlock = none ∨ vg.ownBlock = vo0.ownBlock
theorem RG.keep {E : List Nat} {w : World} {y yv : Nat} {J : Vl} {nw : Int} {K : Kl} {kp : Nat} {p : Gt} {vb vo0 vg : Value} {K1 : Kl} {wx w' : World} (h : RG E w y yv J nw K kp p vb vo0 vg K1 wx) (o : Only [] wx w') : RG E w y yv J nw K kp p vb vo0 vg K1 w' :=
  ⟨h.cl.only o (by simp), h.vm.only o (by simp), h.vo.only o (by simp), ownS_far h.gr o (by simp), h.gE, fun e he => (h.ps e he).keep o, h.pk, fun e he => Nat.lt_of_lt_of_le (h.lt e he) o.size, h.gy, h.sb.keep o, h.pw.only o (by simp), h.ke, h.on.trans (o.mono (by simp)), h.old, h.same, h.vs⟩
end Go.Proofs.Ytedhdmahdioboaa
/- gyreref.Client.Feed: what comes of it. -/
namespace Go.Proofs.Ytedhdmahdioboaa
open Go.ChangeShapes Go.WideShapes Go.ChangeAt Go.RowKit
set_option linter.unusedVariables false
set_option linter.unusedSimpArgs false
variable {ora : Ora}

def RFeedPost (ora : Ora) (E : List Nat) (y yv : Nat) (vg : Value) (J : Vl) (nw : Int) (K : Kl) (L : List Nat) (w : World) (e : Ending) (w' : World) : Prop :=
  Only (y :: vg.ownBlock.toList) w w' ∧ ∃ r E' yv' vg' J' nw' K', e = .returned (.bool r) ∧ RCA E' w' y yv' vg' J' nw' K' ∧ (∀ b ∈ E, b ∈ E') ∧ (∀ b ∈ E', b ∈ E ∨ w.heap.size ≤ b) ∧ (yv' = yv ∨ w.heap.size ≤ yv') ∧ (∀ b, vg'.ownBlock = some b → vg.ownBlock = some b ∨ w.heap.size ≤ b) ∧ J'.length ≤ J.length + 1 ∧ (∀ e ∈ J', e.1 = 0 → e.2.2 = []) ∧ (r, stC J' nw' K') = feedL ora (stC J nw K) L
theorem RFeedPost.same {E : List Nat} {y yv : Nat} {vg : Value} {J : Vl} {nw : Int} {K : Kl} {L : List Nat} {w w' : World} (h : RCA E w y yv vg J nw K) (hz : ∀ e ∈ J, e.1 = 0 → e.2.2 = []) (o : Only [] w w') (hf : feedL ora (stC J nw K) L = (false, stC J nw K)) : RFeedPost ora E y yv vg J nw K L w (.returned (.bool false)) w' :=
  ⟨o.mono (by simp), false, E, yv, vg, J, nw, K, rfl, h.keep o, fun b hb => hb, fun b hb => Or.inl hb, Or.inl rfl, fun b hb => Or.inl hb, by omega, hz, hf.symm⟩
theorem slB_sbE {w0 w : World} {E : List Nat} {u : Value} {B : List Nat} (h : SlB w u B) (hn : ∀ b ∈ ownL u, w0.heap.size ≤ b) (hE : ∀ e ∈ E, e < w0.heap.size) : SbE w E u B := by
  obtain ⟨a, c, rfl, hb, hnil⟩ := ownB_at h
  refine ⟨a, c, rfl, hb, hnil, fun a' n c' e _ hm => ?_⟩
  have h1 := hn a'.block (by rw [e]; simp [ownL, Value.ownBlock])
  have h2 := hE _ hm
  omega
theorem RG.start {E : List Nat} {w : World} {y yv : Nat} {vg : Value} {J : Vl} {nw : Int} {K : Kl} {kp : Nat} {p : Gt} {vb : Value} {wx : World} (h : RCA E wx y yv vg J nw K) (sb : SbE wx E vb p.by_) (pw : PrAt wx kp p vb) (ke : w.heap.size ≤ kp) (on : Only [y] w wx) (old : gtK K = oldC (stC J nw K) p) : RG E w y yv J nw K kp p vb vg vg K wx :=
  ⟨h.cl, h.vm, h.vo, h.gr, h.gE, h.ps, h.pk, h.lt, h.gy, sb, pw, ke, on, old, Or.inr rfl, Or.inr rfl⟩
/-- The first of those that are gathered. -/
theorem got_first {w : World} {b : Nat} {vg : Value} {K : Kl} (h : w.ownsRow b 69 5 vg K.length (rowG K)) (hK : 0 < K.length) : ∃ g c, vg = .slice (some ⟨g, 0, none⟩) K.length c ∧ w.cell? ⟨g, 0, none⟩ = some (.int .i64 ((hdK K).st)) := by
  have h2 := h
  obtain ⟨_, ⟨_, h0⟩ | ⟨g, cap, cur, rfl, _⟩⟩ := h
  · omega
  · refine ⟨g, cap, rfl, ?_⟩
    have := (got_cells h2 hK).1
    rw [Nat.zero_mul] at this
    rw [this]
    cases K with
    | nil => simp at hK
    | cons e K => rfl
/-- A piece lies behind the others. -/
structure R2 (E E' : List Nat) (w : World) (y yv : Nat) (vg : Value) (J : Vl) (nw : Int) (kp : Nat) (p : Gt) (vb : Value) (K' : Kl) (v2 : Value) (wx : World) : Prop where
  cl : RcAt wx y yv nw v2
  vm : MapV wx (some yv) (mpJ J)
  vo : VwOk E' wx J nw
  gr : wx.ownsRow 0 69 5 v2 K'.length (rowG K')
  gE : ∀ b, v2.ownBlock = some b → b ∈ E'
  ps : ∀ e ∈ K', SbE wx E' e.2 e.1.by_
  pk : ∀ e ∈ K', GtOk e.1
  lt : ∀ e ∈ E', e < wx.heap.size
  gy : v2.ownBlock ≠ some y
  pw : PrAt wx kp p vb
  ke : w.heap.size ≤ kp
  on : Only (y :: vg.ownBlock.toList) w wx
  inc : ∀ b ∈ E, b ∈ E'
  new : ∀ b ∈ E', b ∈ E ∨ w.heap.size ≤ b
  gv : ∀ b, v2.ownBlock = some b → vg.ownBlock = some b ∨ w.heap.size ≤ b
theorem R2.keep {E E' : List Nat} {w : World} {y yv : Nat} {vg : Value} {J : Vl} {nw : Int} {kp : Nat} {p : Gt} {vb : Value} {K' : Kl} {v2 : Value} {wx w' : World} (h : R2 E E' w y yv vg J nw kp p vb K' v2 wx) (o : Only [] wx w') : R2 E E' w y yv vg J nw kp p vb K' v2 w' :=
  ⟨h.cl.only o (by simp), h.vm.only o (by simp), h.vo.only o (by simp), ownS_far h.gr o (by simp), h.gE, fun e he => (h.ps e he).keep o, h.pk, fun e he => Nat.lt_of_lt_of_le (h.lt e he) o.size, h.gy, h.pw.only o (by simp), h.ke, h.on.trans (o.mono (by simp)), h.inc, h.new, h.gv⟩
theorem R2.of {E : List Nat} {w : World} {y yv : Nat} {vg : Value} {J : Vl} {nw : Int} {KL : Kl} {kp : Nat} {p : Gt} {vb vg1 : Value} {K1 : Kl} {wr wA wB : World} {v2 : Value} (hw : ∀ e ∈ E, e < w.heap.size) (hy : y ∈ E) (hP : GtOk p) (h : RG E w y yv J nw KL kp p vb vg vg1 K1 wr) (oA : Only [] wr wA) (hown : wB.ownsRow 0 69 5 v2 (K1 ++ [(p, vb)]).length (rowG (K1 ++ [(p, vb)]))) (hg : wA.grownBy wB vg1.ownBlock) (hl : v2.ownBlock = vg1.ownBlock ∨ v2.ownBlock = some wA.heap.size) :
    R2 E (v2.ownBlock.toList ++ E) w y yv vg J nw kp p vb (K1 ++ [(p, vb)]) v2 (wB.setCell ⟨y, 2, none⟩ v2) := by
  have hA := h.keep oA
  have oB : Only (vg1.ownBlock.toList) wA wB := (Only.refl _ wA).grown hg (fun k hk => Or.inl (by simp [hk]))
  have oC := only_one (y := y) wB 2 v2
  have hyk : kp ≠ y := fun q => by have := hw _ hy; have h2 := h.ke; omega
  have hgl : ∀ b, vg1.ownBlock = some b → b < w.heap.size := fun b hb => hw b (h.gE b hb)
  have hnew : ∀ e ∈ v2.ownBlock.toList ++ E, e ∈ E ∨ wA.heap.size ≤ e := fun e he => by
    rcases List.mem_append.1 he with q | q
    · have q : v2.ownBlock = some e := by simpa using q
      rcases hl with r | r
      · exact Or.inl (h.gE e (by rw [← r]; exact q))
      · rw [r] at q; injection q with q; exact Or.inr (Nat.le_of_eq q)
    · exact Or.inl q
  have hinc : ∀ b ∈ E, b ∈ v2.ownBlock.toList ++ E := fun b hb => List.mem_append.2 (Or.inr hb)
  have hDB : ∀ d ∈ vg1.ownBlock.toList, d ∈ v2.ownBlock.toList ++ E ∨ IsMap wA d := fun d hd => Or.inl (hinc d (h.gE d (by simpa using hd)))
  have hDC : ∀ d ∈ [y], d ∈ v2.ownBlock.toList ++ E ∨ IsMap wB d := fun d hd => Or.inl (by rw [List.mem_singleton.1 hd]; exact hinc y hy)
  have hyB : y ∉ vg1.ownBlock.toList := fun q => h.gy (by simpa using q)
  have hyv : yv ∉ vg1.ownBlock.toList := fun q => by
    have q : vg1.ownBlock = some yv := by simpa using q
    obtain ⟨_, ⟨e, _⟩ | ⟨g, cap, cur, e, _, hg2, _⟩⟩ := hA.gr
    · rw [e] at q; cases q
    · rw [e] at q
      simp only [Value.ownBlock, Option.some.injEq] at q
      exact isMap_ne hg2 hA.vm.isMap q
  have hyy : yv ≠ y := fun q => isMap_ne hA.cl hA.vm.isMap q.symm
  have hv2y : v2.ownBlock ≠ some y := fun q => by
    rcases hl with r | r
    · exact h.gy (by rw [← r]; exact q)
    · rw [r] at q; injection q with q
      have := hA.cl.lt
      omega
  have hsz : wr.heap.size ≤ wA.heap.size := oA.size
  refine ⟨((hA.cl.only oB hyB).put2 _), (hA.vm.only oB (by simpa using hyv)).only oC (by simpa using hyy), ?_, ownS_far hown oC (fun k hk q => hv2y (by rw [List.mem_singleton.1 q] at hk; exact hk)), fun b hb => List.mem_append.2 (Or.inl (by simp [hb])), ?_, ?_, ?_, hv2y, (hA.pw.only oB (fun q => by have := hgl kp (by simpa using q); have h2 := h.ke; omega)).only oC (by simpa using hyk), h.ke, ?_, hinc, ?_, ?_⟩
  · exact ⟨fun e he => (((hA.vo.at_ e he).more hnew).only oB hDB).only oC hDC, hA.vo.few, hA.vo.key, hA.vo.pos, hA.vo.top⟩
  · intro e he
    rcases List.mem_append.1 he with q | q
    · exact (((hA.ps e q).more hnew).only oB hDB).only oC hDC
    · rw [List.mem_singleton.1 q]; exact ((hA.sb.more hnew).only oB hDB).only oC hDC
  · intro e he
    rcases List.mem_append.1 he with q | q
    · exact hA.pk e q
    · rw [List.mem_singleton.1 q]; exact hP
  · intro e he
    rcases List.mem_append.1 he with q | q
    · exact Nat.lt_of_lt_of_le (ownS_lt hown e (by simpa using q)) oC.size
    · exact Nat.lt_of_lt_of_le (Nat.lt_of_lt_of_le (hA.lt e q) oB.size) oC.size
  · have h1 : Only (y :: vg.ownBlock.toList) w wA := hA.on.mono (by simp)
    have h2 : Only (y :: vg.ownBlock.toList) wA wB := oB.mono (fun b hb => by
      rcases h.vs with r | r
      · rw [r] at hb; simp at hb
      · rw [r] at hb; exact Or.inl (List.mem_cons_of_mem _ hb))
    exact (h1.trans h2).trans (oC.mono (by simp))
  · intro b hb
    rcases hnew b hb with q | q
    · exact Or.inl q
    · exact Or.inr (Nat.le_trans hA.on.size q)
  · intro b hb
    rcases hl with r | r
    · rcases h.vs with q | q
      · rw [r, q] at hb; cases hb
      · exact Or.inl (by rw [← q, ← r]; exact hb)
    · rw [r] at hb
      injection hb with hb
      exact Or.inr (by rw [← hb]; exact hA.on.size)
end Go.Proofs.Ytedhdmahdioboaa
/- gyreref.Client.Feed: which views stay: plain facts. -/
namespace Go.Proofs.Ytedhdmahdioboaa
open Go.ChangeShapes Go.WideShapes Go.ChangeAt Go.RowKit
set_option linter.unusedVariables false
set_option linter.unusedSimpArgs false

def headIs (n : Nat) : Code → Bool
  | .region k _ _ => k == n
  | .seq a _ => headIs n a
  | _ => false
def sufOf (n : Nat) : Code → Option Code
  | .seq a b => if headIs n a then some (.seq a b) else sufOf n b
  | c => if headIs n c then some c else none
def code32 (f : Func) : Code := ((f.body.bind (sufOf 32)).getD .skip)
/-- Nothing is gathered: what is left is a view. -/
structure R3 (E E' : List Nat) (w : World) (y yv : Nat) (vg : Value) (J : Vl) (nw : Int) (kp : Nat) (p : Gt) (vb : Value) (wx : World) : Prop where
  cl : RcAt wx y yv nw (.slice none 0 0)
  vm : MapV wx (some yv) (mpJ J)
  vo : VwOk E' wx J nw
  lt : ∀ e ∈ E', e < wx.heap.size
  pw : PrAt wx kp p vb
  ke : w.heap.size ≤ kp
  on : Only (y :: vg.ownBlock.toList) w wx
  inc : ∀ b ∈ E, b ∈ E'
  new : ∀ b ∈ E', b ∈ E ∨ w.heap.size ≤ b
theorem R3.keep {E E' : List Nat} {w : World} {y yv : Nat} {vg : Value} {J : Vl} {nw : Int} {kp : Nat} {p : Gt} {vb : Value} {wx w' : World} (h : R3 E E' w y yv vg J nw kp p vb wx) (o : Only [] wx w') : R3 E E' w y yv vg J nw kp p vb w' :=
  ⟨h.cl.only o (by simp), h.vm.only o (by simp), h.vo.only o (by simp), fun e he => Nat.lt_of_lt_of_le (h.lt e he) o.size, h.pw.only o (by simp), h.ke, h.on.trans (o.mono (by simp)), h.inc, h.new⟩
/-- Those that have come, and stay. -/
def fin4 (left : Int → Bool) (st : Int) (L : List (Int × Value)) : List (Int × Value) := L.filter fun e => !left e.1 && (e.1 != 0 && decide (e.1 > st - 32))
theorem fin4_add {left : Int → Bool} {st : Int} {L : List (Int × Value)} (hn : (L.map Prod.fst).Nodup) {i : Int} {x : Value} (hx : (i, x) ∈ L) (hl : left i = true) (h0 : i ≠ 0) (hi : i > st - 32) : (fin4 (fun j => left j && j != i) st L).Perm ((i, x) :: fin4 left st L) := by
  have hp := perm_front hn hx
  refine (hp.filter _).trans (List.Perm.trans ?_ ((hp.filter _).symm.cons (i, x)))
  have e1 : (!(left i && i != i) && (i != 0 && decide (i > st - 32))) = true := by simp [h0, hi]
  have e2 : (!left i && (i != 0 && decide (i > st - 32))) = false := by simp [hl]
  rw [List.filter_cons, List.filter_cons]
  simp only [e1, e2, if_true, Bool.false_eq_true, if_false]
  refine List.Perm.cons _ (List.Perm.of_eq (List.filter_congr fun e he => ?_))
  have : (e.1 != i) = true := (List.mem_filter.1 he).2
  rw [this, Bool.and_true]
theorem fin4_skip {left : Int → Bool} {st : Int} {L : List (Int × Value)} {i : Int} (h : i = 0 ∨ ¬ i > st - 32) : fin4 (fun j => left j && j != i) st L = fin4 left st L := by
  refine List.filter_congr fun e he => ?_
  show (!(left e.1 && e.1 != i) && (e.1 != 0 && decide (e.1 > st - 32))) = _
  by_cases q : e.1 = i
  · have : (e.1 != 0 && decide (e.1 > st - 32)) = false := by
      rw [q]
      rcases h with h | h
      · simp [h]
      · simp [h]
    rw [this, Bool.and_false, Bool.and_false]
  · have : (e.1 != i) = true := by simpa using q
    rw [this, Bool.and_true]
theorem fin4_start (st : Int) (L : List (Int × Value)) : fin4 (fun i => decide (i ∈ L.map Prod.fst)) st L = [] :=
  List.filter_eq_nil_iff.2 fun e he => by show ¬ (!decide (e.1 ∈ L.map Prod.fst) && _) = true; rw [decide_eq_true (List.mem_map_of_mem he)]; simp
/-- What is left of the views: that of step 0 may be another slice. -/
def subJ (v0 : Value) (e : Int × Value × List Sn) : Int × Value × List Sn := if e.1 = 0 then (0, v0, []) else e
def endJ (v0 : Value) (st : Int) (J : Vl) : Vl := (J.filter fun e => stayB st e.1).map (subJ v0)
theorem endJ_vw {v0 : Value} {st : Int} {J : Vl} (hz : ∀ e ∈ J, e.1 = 0 → e.2.2 = []) : vwJ (endJ v0 st J) = (vwJ J).filter fun e => stayB st e.1 := by
  rw [vw_filter]
  unfold endJ vwJ
  rw [List.map_map]
  refine List.map_congr_left fun e he => ?_
  have he := (List.mem_filter.1 he).1
  simp only [Function.comp_def, subJ]
  split
  · rename_i h
    rw [h, hz e he h]
  · rfl
theorem endJ_mem {v0 : Value} {st : Int} {J : Vl} {e : Int × Value × List Sn} (he : e ∈ endJ v0 st J) : e = (0, v0, []) ∨ e ∈ J ∧ e.1 ≠ 0 := by
  obtain ⟨x, hx, rfl⟩ := List.mem_map.1 he
  unfold subJ
  split
  · exact Or.inl rfl
  · exact Or.inr ⟨(List.mem_filter.1 hx).1, by assumption⟩
theorem endJ_mp {v0 : Value} {st : Int} {J : Vl} {left : Int → Bool} (hn : (J.map Prod.fst).Nodup) (h0 : 0 ∈ J.map Prod.fst) (hk : ∀ e ∈ J, 0 ≤ e.1) (hl : ∀ x ∈ mpJ J, left x.1 = false) : ((0, v0) :: fin4 left st (mpJ J)).Perm (mpJ (endJ v0 st J)) := by
  obtain ⟨e0, he0, hz⟩ := List.mem_map.1 h0
  have hp := perm_front hn he0
  have h1 : (mpJ (endJ v0 st J)).Perm (mpJ (endJ v0 st (e0 :: J.filter fun e => e.1 != e0.1))) := ((hp.filter _).map _).map _
  have h2 : (fin4 left st (mpJ J)).Perm (fin4 left st (mpJ (e0 :: J.filter fun e => e.1 != e0.1))) := (hp.map _).filter _
  refine (h2.cons _).trans (List.Perm.trans (List.Perm.of_eq ?_) h1.symm)
  have hs : stayB st e0.1 = true := by unfold stayB; rw [hz]; simp
  unfold endJ
  rw [List.filter_cons, hs, if_pos rfl]
  have hcut : ∀ Z : List (Int × Value), fin4 left st ((e0.1, e0.2.1) :: Z) = fin4 left st Z := fun Z => by
    unfold fin4
    rw [List.filter_cons]
    have : (!left e0.1 && (e0.1 != 0 && decide (e0.1 > st - 32))) = false := by rw [hz]; simp
    simp only [this, Bool.false_eq_true, if_false]
  have hsub : subJ v0 e0 = (0, v0, []) := by unfold subJ; rw [if_pos hz]
  rw [List.map_cons, hsub]
  show (0, v0) :: fin4 left st ((e0.1, e0.2.1) :: mpJ (J.filter fun e => e.1 != e0.1)) = (0, v0) :: mpJ (((J.filter fun e => e.1 != e0.1).filter fun e => stayB st e.1).map (subJ v0))
  rw [hcut]
  congr 1
  unfold fin4 mpJ
  rw [List.filter_map, List.map_map]
  have hA : ((J.filter fun e => e.1 != e0.1).filter ((fun e : Int × Value => !left e.1 && (e.1 != 0 && decide (e.1 > st - 32))) ∘ fun e : Int × Value × List Sn => (e.1, e.2.1))) = (J.filter fun e => e.1 != e0.1).filter fun e => stayB st e.1 := by
    refine List.filter_congr fun e he => ?_
    obtain ⟨he, hne⟩ := List.mem_filter.1 he
    have h3 := hl (e.1, e.2.1) (List.mem_map_of_mem (f := fun e : Int × Value × List Sn => (e.1, e.2.1)) he)
    simp only at h3
    have h4 := hk e he
    have hq : e.1 ≠ 0 := by rw [hz] at hne; simpa using hne
    simp only [Function.comp_def, h3]
    have : stayB st e.1 = decide (e.1 > st - 32) := by unfold stayB; rw [decide_eq_false (by omega)]; rfl
    rw [this]
    simp [hq]
  rw [hA]
  refine List.map_congr_left fun e he => ?_
  have hne := (List.mem_filter.1 (List.mem_filter.1 he).1).2
  have hq : e.1 ≠ 0 := by rw [hz] at hne; simpa using hne
  simp only [Function.comp_def, subJ, if_neg hq]
end Go.Proofs.Ytedhdmahdioboaa
