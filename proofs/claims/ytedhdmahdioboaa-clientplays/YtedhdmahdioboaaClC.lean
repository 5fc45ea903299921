/- What a client has in memory, whole; how a piece is taken: plain facts. -/
import Derived.Test.YtedhdmahdioboaaClB
import Derived.Test.YtedhdmahdioboaaWMa
import Derived.Deep.Cut
namespace Go.Proofs.Ytedhdmahdioboaa
open Go.ChangeShapes Go.WideShapes Go.ChangeAt Go.RowKit
set_option linter.unusedVariables false
set_option linter.unusedSimpArgs false
variable {ora : Ora}

abbrev Kl := List (Gt × Value)
def mpK (K : Kl) : List (Int × Value) := K.map fun e => (e.1.ix, e.2)
def gtK (K : Kl) : List Gt := K.map Prod.fst
def hdK : Kl → Gt
  | [] => ⟨0, 0, 0, 0, []⟩
  | e :: _ => e.1
def stC (J : Vl) (nw : Int) (K : Kl) : Cst (List Sn) := ⟨vwJ J, nw, gtK K⟩
structure GtOk (p : Gt) : Prop where
  st1 : 1 ≤ p.st
  st2 : p.st ≤ 70368744177664
  ba1 : 0 ≤ p.ba
  ba2 : p.ba < p.st
  mn1 : 1 ≤ p.mn
  mn2 : p.mn ≤ 40
  ix1 : 0 ≤ p.ix
  ix2 : p.ix < p.mn
  len : p.by_.length ≤ 100
  sml : ∀ c ∈ p.by_, c < 256
def toldG (L : List Nat) : Gt := ⟨(toldP L).st, (toldP L).ba, (toldP L).ix, (toldP L).mn, toldY L⟩
theorem toldG_ok {L : List Nat} (h : toldGood L) : GtOk (toldG L) := by
  obtain ⟨_, ⟨⟨h1, h2, h3, h4⟩, ⟨h5, h6⟩, ⟨h7, h8⟩, h9⟩, _⟩ := h
  exact ⟨h1, h2, h3, h4, h5, h6, h7, h8, h9, bIter_small L _ _ (by simp)⟩
/-- A client in memory, its views and its pieces. -/
structure CA (E : List Nat) (w : World) (x mv : Nat) (mp : Option Nat) (J : Vl) (nw : Int) (K : Kl) : Prop where
  cl : ClAt w x (some mv) nw (hdK K).st (hdK K).ba (hdK K).mn mp
  vm : MapV w (some mv) (mpJ J)
  vo : VwOk E w J nw
  pm : MapV w mp (mpK K)
  nil : K = [] → mp = none
  som : K ≠ [] → ∃ m, mp = some m
  ps : ∀ e ∈ K, SbE w E e.2 e.1.by_
  pk : ∀ e ∈ K, GtOk e.1
  lt : ∀ e ∈ E, e < w.heap.size
  xE : x ∈ E
  ne : x ≠ mv ∧ mp ≠ some mv ∧ mp ≠ some x
  ok : CstOk 32 (stC J nw K)
/-- It stays while others' blocks turn. -/
theorem CA.only {D E : List Nat} {w w' : World} {x mv : Nat} {mp : Option Nat} {J : Vl} {nw : Int} {K : Kl} (h : CA E w x mv mp J nw K) (o : Only D w w') (hD : ∀ d ∈ D, d ∈ E ∨ IsMap w d) (hx : x ∉ D) (hm : mv ∉ D) (hp : ∀ m, mp = some m → m ∉ D) : CA E w' x mv mp J nw K :=
  ⟨h.cl.only o hx, h.vm.only o (by simpa using hm), h.vo.only o hD, h.pm.only o (fun b hb => hp b (by simpa using hb)), h.nil, h.som, fun e he => (h.ps e he).only o hD, h.pk, fun e he => Nat.lt_of_lt_of_le (h.lt e he) o.size, h.xE, h.ne, h.ok⟩
theorem CA.keep {E : List Nat} {w w' : World} {x mv : Nat} {mp : Option Nat} {J : Vl} {nw : Int} {K : Kl} (h : CA E w x mv mp J nw K) (o : Only [] w w') : CA E w' x mv mp J nw K := h.only o (by simp) (by simp) (by simp) (by simp)
/-- New blocks may be named, too. -/
theorem CA.more {E E' : List Nat} {w w' : World} {x mv : Nat} {mp : Option Nat} {J : Vl} {nw : Int} {K : Kl} {D : List Nat} (h : CA E w x mv mp J nw K) (o : Only D w w') (hD : ∀ d ∈ D, d ∈ E ∨ IsMap w d) (hx : x ∉ D) (hm : mv ∉ D) (hp : ∀ m, mp = some m → m ∉ D) (hE : ∀ e ∈ E', e ∈ E ∨ w.heap.size ≤ e) (hE2 : ∀ e ∈ E, e ∈ E') (hlt : ∀ e ∈ E', e < w'.heap.size) : CA E' w' x mv mp J nw K := by
  have hD' : ∀ d ∈ D, d ∈ E' ∨ IsMap w d := fun d hd => (hD d hd).imp (hE2 d) id
  exact ⟨h.cl.only o hx, h.vm.only o (by simpa using hm), ⟨fun e he => ((h.vo.at_ e he).more hE).only o hD', h.vo.few, h.vo.key, h.vo.pos, h.vo.top⟩, h.pm.only o (fun b hb => hp b (by simpa using hb)), h.nil, h.som, fun e he => ((h.ps e he).more hE).only o hD', h.pk, hlt, hE2 _ h.xE, h.ne, h.ok⟩
theorem late_hd {J : Vl} {nw : Int} {K : Kl} {p : Gt} (h : CstOk 32 (stC J nw K)) (hp : 1 ≤ p.st) : lateC (stC J nw K) p = (decide (p.st ≤ nw) || decide (p.st < (hdK K).st)) := by
  unfold lateC
  show (decide (p.st ≤ nw) || (gtK K).any fun q => decide (p.st < q.st)) = _
  congr 1
  cases K with
  | nil =>
    have : ¬ p.st < 0 := by omega
    simp [gtK, hdK, this]
  | cons e K =>
    have hs : ∀ q ∈ gtK (e :: K), q.st = e.1.st := fun q hq => (h.same q hq e.1 (by simp [stC, gtK])).1
    rw [Bool.eq_iff_iff, List.any_eq_true]
    constructor
    · rintro ⟨q, hq, h1⟩
      rw [hs q hq] at h1
      exact h1
    · intro h1
      exact ⟨e.1, by simp [gtK], h1⟩
/-- The pieces that are gathered are of the piece's step, or all are of an older one. -/
theorem old_same {J : Vl} {nw : Int} {K : Kl} {p : Gt} (h : CstOk 32 (stC J nw K)) (hp : 1 ≤ p.st) (he : p.st = (hdK K).st) : oldC (stC J nw K) p = gtK K ∧ K ≠ [] := by
  cases K with
  | nil => simp [hdK] at he; omega
  | cons e K =>
    refine ⟨?_, by simp⟩
    unfold oldC
    exact List.filter_eq_self.2 fun q hq => by rw [(h.same q hq e.1 (by simp [stC, gtK])).1]; simpa [hdK] using he.symm
theorem old_new {J : Vl} {nw : Int} {K : Kl} {p : Gt} (h : CstOk 32 (stC J nw K)) (he : (hdK K).st < p.st) : oldC (stC J nw K) p = [] := by
  unfold oldC
  refine List.filter_eq_nil_iff.2 fun q hq => ?_
  cases K with
  | nil => simp [stC, gtK] at hq
  | cons e K =>
    rw [(h.same q hq e.1 (by simp [stC, gtK])).1]
    simp only [hdK] at he
    simp only [decide_eq_true_eq]
    omega
theorem fits_hd {J : Vl} {nw : Int} {K : Kl} {p : Gt} (h : CstOk 32 (stC J nw K)) (hK : K ≠ []) : fitsC (gtK K) p = (decide (p.ix ∉ (mpK K).map Prod.fst) && decide (p.ba = (hdK K).ba) && decide (p.mn = (hdK K).mn)) := by
  cases K with
  | nil => exact absurd rfl hK
  | cons e K =>
    rw [Bool.eq_iff_iff, fitsC_iff]
    simp only [Bool.and_eq_true, decide_eq_true_eq]
    have hs : ∀ q ∈ gtK (e :: K), q.ba = e.1.ba ∧ q.mn = e.1.mn := fun q hq => (h.same q hq e.1 (by simp [stC, gtK])).2
    constructor
    · intro h1
      have h2 := h1 e.1 (by simp [gtK])
      refine ⟨⟨fun hm => ?_, h2.1.symm⟩, h2.2.1.symm⟩
      obtain ⟨y, hy, e2⟩ := List.mem_map.1 hm
      obtain ⟨z, hz, rfl⟩ := List.mem_map.1 hy
      exact (h1 z.1 (List.mem_map_of_mem hz)).2.2 e2
    · rintro ⟨⟨h1, h2⟩, h3⟩ q hq
      refine ⟨(hs q hq).1.trans h2.symm, (hs q hq).2.trans h3.symm, fun h4 => h1 ?_⟩
      obtain ⟨z, hz, rfl⟩ := List.mem_map.1 hq
      exact List.mem_map.2 ⟨(z.1.ix, z.2), List.mem_map_of_mem (f := fun e : Gt × Value => (e.1.ix, e.2)) hz, h4⟩
/-- What comes of a piece: too late; it does not belong to the others; some are missing; all are there. -/
theorem feed_late {s : Cst (List Sn)} {p : Gt} (h : lateC s p = true) : feedC 32 ora.ap s p = (false, s) := by unfold feedC; rw [if_pos h]
theorem feed_unfit {s : Cst (List Sn)} {p : Gt} (h : lateC s p = false) (hf : fitsC (oldC s p) p = false) : feedC 32 ora.ap s p = (false, s) := by
  unfold feedC; rw [if_neg (by rw [h]; simp), if_neg (by rw [hf]; simp)]
theorem feed_some {s : Cst (List Sn)} {p : Gt} (h : lateC s p = false) (hf : fitsC (oldC s p) p = true) (hl : ((oldC s p).length : Int) + 1 < p.mn) : feedC 32 ora.ap s p = (false, { s with got := oldC s p ++ [p] }) := by
  unfold feedC; rw [if_neg (by rw [h]; simp), if_pos hf, if_pos hl]
theorem feed_all {s : Cst (List Sn)} {p : Gt} (h : lateC s p = false) (hf : fitsC (oldC s p) p = true) (hl : ¬ ((oldC s p).length : Int) + 1 < p.mn) :
    feedC 32 ora.ap s p = match becC ora s.views p.st p.ba (joinC (oldC s p ++ [p]) p.mn.toNat) with
      | none => (false, { s with got := [] })
      | some V => (true, ⟨V, p.st, []⟩) := by
  unfold feedC becC
  rw [if_neg (by rw [h]; simp), if_pos hf, if_neg hl]
  cases viewC s.views p.ba with
  | none => rfl
  | some f =>
    simp only [Option.bind_some]
    cases ora.ap f (joinC (oldC s p ++ [p]) p.mn.toNat) <;> rfl
theorem ClAt.put4 {w : World} {x : Nat} {mv : Option Nat} {nw st ba mn : Int} {mp : Option Nat} (h : ClAt w x mv nw st ba mn mp) (st' ba' mn' : Int) (mp' : Option Nat) :
    ClAt ((((w.setCell ⟨x, 2, none⟩ (.int .i64 st')).setCell ⟨x, 3, none⟩ (.int .i64 ba')).setCell ⟨x, 4, none⟩ (.int .i64 mn')).setCell ⟨x, 5, none⟩ (.map mp')) x mv nw st' ba' mn' mp' ∧ Only [x] w ((((w.setCell ⟨x, 2, none⟩ (.int .i64 st')).setCell ⟨x, 3, none⟩ (.int .i64 ba')).setCell ⟨x, 4, none⟩ (.int .i64 mn')).setCell ⟨x, 5, none⟩ (.map mp')) := by
  refine ⟨?_, ((((Only.refl [x] w).setCell (p := ⟨x, 2, none⟩) (Or.inl (by simp)) _).setCell (p := ⟨x, 3, none⟩) (Or.inl (by simp)) _).setCell (p := ⟨x, 4, none⟩) (Or.inl (by simp)) _).setCell (p := ⟨x, 5, none⟩) (Or.inl (by simp)) _⟩
  unfold ClAt at h ⊢
  have h2 := heap_put h 2 (.int .i64 st')
  simp only [List.setIfInBounds_toArray, List.set_cons_zero, List.set_cons_succ] at h2
  have h3 := heap_put h2 3 (.int .i64 ba')
  simp only [List.setIfInBounds_toArray, List.set_cons_zero, List.set_cons_succ] at h3
  have h4 := heap_put h3 4 (.int .i64 mn')
  simp only [List.setIfInBounds_toArray, List.set_cons_zero, List.set_cons_succ] at h4
  have h5 := heap_put h4 5 (.map mp')
  simp only [List.setIfInBounds_toArray, List.set_cons_zero, List.set_cons_succ] at h5
  exact h5
theorem join_small {l : List Gt} (hn : (l.map Gt.ix).Nodup) (h : ∀ q ∈ l, ∀ c ∈ q.by_, c < 256) (n : Nat) : ∀ c ∈ joinC l n, c < 256 := by
  induction n with
  | zero => simp [joinC]
  | succ n ih =>
    rw [joinC_succ hn]
    intro c hc
    rcases List.mem_append.1 hc with k | k
    · exact ih c k
    · cases hf : findC l (n : Int) with
      | none => rw [hf] at k; simp at k
      | some q => rw [hf] at k; exact h q (List.mem_of_find?_eq_some hf) c (by simpa using k)
end Go.Proofs.Ytedhdmahdioboaa
/- (*client.Client).Feed: whichever bytes come. -/
namespace Go.Proofs.Ytedhdmahdioboaa
open Go.ChangeShapes Go.WideShapes Go.ChangeAt Go.RowKit
set_option linter.unusedVariables false
set_option linter.unusedSimpArgs false
variable {ora : Ora}

/-- What comes of bytes: whether a view is there by them; what the client has then. -/
def feedL (ora : Ora) (s : Cst (List Sn)) (L : List Nat) : Bool × Cst (List Sn) := if ora.gd L = true then feedC 32 ora.ap s (toldG L) else (false, s)
theorem feedL_good {s : Cst (List Sn)} {L : List Nat} (h : toldGood L) : feedL ora s L = feedC 32 ora.ap s (toldG L) := by unfold feedL; rw [if_pos ((ora.good L).2 h)]
theorem feedL_bad {s : Cst (List Sn)} {L : List Nat} (h : ¬ toldGood L) : feedL ora s L = (false, s) := by unfold feedL; rw [if_neg (fun q => h ((ora.good L).1 q))]
def FeedPost (ora : Ora) (E : List Nat) (x mv : Nat) (mp : Option Nat) (J : Vl) (nw : Int) (K : Kl) (L : List Nat) (w : World) (e : Ending) (w' : World) : Prop :=
  Only (x :: mv :: mp.toList) w w' ∧ ∃ r mp' J' nw' K', e = .returned (.bool r) ∧ CA E w' x mv mp' J' nw' K' ∧ (∀ m, mp' = some m → mp = some m ∨ w.heap.size ≤ m) ∧ J'.length ≤ J.length + 1 ∧ (r, stC J' nw' K') = feedL ora (stC J nw K) L
theorem FeedPost.same {E : List Nat} {x mv : Nat} {mp : Option Nat} {J : Vl} {nw : Int} {K : Kl} {L : List Nat} {w w' : World} (h : CA E w x mv mp J nw K) (o : Only [] w w') (hf : feedL ora (stC J nw K) L = (false, stC J nw K)) : FeedPost ora E x mv mp J nw K L w (.returned (.bool false)) w' :=
  ⟨o.mono (by simp), false, mp, J, nw, K, rfl, h.keep o, fun m e => Or.inl e, by omega, hf.symm⟩
/-- A piece in a block of its own. -/
def PwAt (w : World) (k : Nat) (p : Gt) (v : Value) : Prop := w.heap[k]? = some (.cells #[.int .i64 (p.st), .int .i64 (p.ba), .int .i64 (p.ix), .int .i64 (p.mn), v] 121)
theorem PwAt.cells {w : World} {k : Nat} {p : Gt} {v : Value} (h : PwAt w k p v) : w.cell? ⟨k, 0, none⟩ = some (.int .i64 (p.st)) ∧ w.cell? ⟨k, 1, none⟩ = some (.int .i64 (p.ba)) ∧ w.cell? ⟨k, 2, none⟩ = some (.int .i64 (p.ix)) ∧ w.cell? ⟨k, 3, none⟩ = some (.int .i64 (p.mn)) ∧ w.cell? ⟨k, 4, none⟩ = some v := by
  unfold PwAt at h
  simp [World.cell?, h]
theorem PwAt.lt {w : World} {k : Nat} {p : Gt} {v : Value} (h : PwAt w k p v) : k < w.heap.size := (Array.getElem?_eq_some_iff.1 h).1
theorem PwAt.only {D : List Nat} {w w' : World} {k : Nat} {p : Gt} {v : Value} (h : PwAt w k p v) (o : Only D w w') (s : k ∉ D) : PwAt w' k p v := (o.block k h.lt s).trans h
/-- A piece is about to be laid beside the others of its step. -/
structure GS (E : List Nat) (w : World) (x mv : Nat) (mp : Option Nat) (J : Vl) (nw : Int) (K : Kl) (kp : Nat) (p : Gt) (vb : Value) (m1 : Nat) (K1 : Kl) (bb nn : Int) (wx : World) : Prop where
  cl : ClAt wx x (some mv) nw p.st bb nn (some m1)
  vm : MapV wx (some mv) (mpJ J)
  vo : VwOk E wx J nw
  pm : MapV wx (some m1) (mpK K1)
  ps : ∀ e ∈ K1, SbE wx E e.2 e.1.by_
  pk : ∀ e ∈ K1, GtOk e.1
  sb : SbE wx E vb p.by_
  pw : PwAt wx kp p vb
  lt : ∀ e ∈ E, e < wx.heap.size
  ne : m1 ≠ mv ∧ m1 ≠ x ∧ kp ≠ x ∧ kp ≠ mv ∧ kp ≠ m1
  on : Only (x :: mv :: mp.toList) w wx
  nu : mp = some m1 ∨ w.heap.size ≤ m1
  old : gtK K1 = oldC (stC J nw K) p
  fit : fitsC (oldC (stC J nw K) p) p = (decide (p.ix ∉ (mpK K1).map Prod.fst) && decide (p.ba = bb) && decide (p.mn = nn))
  hd : K1 ≠ [] → (hdK K1).st = p.st ∧ (hdK K1).ba = bb ∧ (hdK K1).mn = nn
  hd0 : K1 = [] → bb = p.ba ∧ nn = p.mn
  same : K1 = [] ∨ (K1 = K ∧ mp = some m1)
theorem isMap_ne {w : World} {b k : Nat} {c : Array Value} {t : TypeId} (h : w.heap[k]? = some (.cells c t)) (hm : IsMap w b) : k ≠ b := by
  rintro rfl
  rcases hm with ⟨es, cl, hm⟩ | ⟨_, _, _, _, hm⟩
  · rw [h] at hm
    cases hm
  · rw [h] at hm
    cases hm
/-- Only blocks that are a client's own, or maps. -/
theorem own_or_map {E : List Nat} {w : World} {x mv m1 : Nat} {l1 l2 : List (Int × Value)} (hx : x ∈ E) (h1 : MapV w (some mv) l1) (h2 : MapV w (some m1) l2) : ∀ d ∈ [x, mv, m1], d ∈ E ∨ IsMap w d := by
  intro d hd
  simp only [List.mem_cons, List.not_mem_nil, or_false] at hd
  rcases hd with rfl | rfl | rfl
  · exact Or.inl hx
  · exact Or.inr h1.isMap
  · exact Or.inr h2.isMap
theorem GS.keep {E : List Nat} {w : World} {x mv : Nat} {mp : Option Nat} {J : Vl} {nw : Int} {K : Kl} {kp : Nat} {p : Gt} {vb : Value} {m1 : Nat} {K1 : Kl} {bb nn : Int} {wx w' : World} (h : GS E w x mv mp J nw K kp p vb m1 K1 bb nn wx) (o : Only [] wx w') : GS E w x mv mp J nw K kp p vb m1 K1 bb nn w' :=
  ⟨h.cl.only o (by simp), h.vm.only o (by simp), h.vo.only o (by simp), h.pm.only o (by simp), fun e he => (h.ps e he).keep o, h.pk, h.sb.keep o, h.pw.only o (by simp), fun e he => Nat.lt_of_lt_of_le (h.lt e he) o.size, h.ne, h.on.trans (o.mono (by simp)), h.nu, h.old, h.fit, h.hd, h.hd0, h.same⟩
set_option maxRecDepth 100000 in
set_option maxHeartbeats 16000000 in
theorem feed_calls (E : List Nat) (x mv : Nat) (mp : Option Nat) (J : Vl) (nw : Int) (KL : Kl) (a : Option Addr) (c : Nat) (L : List Nat) (w : World) (h : CA E w x mv mp J nw KL) (hl : L.length ≤ 100000) (hs : ∀ x ∈ L, x < 256) (hb : ByAt w a L) (hn : a = none → L = [] ∧ c = 0) (hJ : J.length ≤ 1000) :
    Calls Try.prog 19 #[.pointer (some ⟨x, 0, none⟩), .slice a L.length c] w (FeedPost ora E x mv mp J nw KL L w) := by
  have HB : Hid (CA E w x mv mp J nw KL ∧ ByAt w a L ∧ (∀ x ∈ L, x < 256) ∧ (a = none → L = [] ∧ c = 0)) := ⟨h, hb, hs, hn⟩
  clear h hs hb hn
  go_enter Try.func19, Try.ntmps19
  go_wp2_with fail
  refine (told_calls a c L w hl HB.out.2.2.1 HB.out.2.1 HB.out.2.2.2).mono ?_
  rintro e w1 ⟨o1, ⟨hgood, gb, rfl, hgb, hby⟩ | ⟨hbad, rfl⟩⟩
  case inr =>
    have H1 : Hid (¬ toldGood L ∧ Only [] w w1) := ⟨hbad, o1⟩
    clear hbad o1
    simp only [pcV, errV]
    go_upto_region 2 with fail
    generalize hw2 : World.alloc w1 _ = w2
    have H2 : Hid (Only [] w w2) := by rw [← hw2]; exact H1.out.2.alloc _
    clear hw2
    go_quiet (fail)
    go_wp2_with fail
    exact bodyPost_ret (v := .bool false) (by simp [results, Try.results19, go_sem]) rfl (FeedPost.same HB.out.1 (H2.out.trans (only_drewN w2 nq)) (feedL_bad H1.out.1))
  have HP0 : Hid (GtOk (toldG L) ∧ toldGood L) := ⟨toldG_ok hgood, hgood⟩
  change ByAt w1 _ (toldG L).by_ at hby
  rw [show pcV (toldP L) (.slice (some ⟨gb, 0, none⟩) (toldY L).length (toldY L).length) = .agg #[.int .i64 ((toldG L).st), .int .i64 ((toldG L).ba), .int .i64 ((toldG L).ix), .int .i64 ((toldG L).mn), .slice (some ⟨gb, 0, none⟩) (toldG L).by_.length (toldG L).by_.length] from rfl]
  obtain ⟨p, hp⟩ : ∃ p, toldG L = p := ⟨_, rfl⟩
  rw [hp] at HP0 hby ⊢
  have HP : Hid (toldG L = p) := hp
  have HPK : Hid (GtOk p) := HP0.out.1
  have HGD : Hid (toldGood L) := HP0.out.2
  clear hp HP0 hgood
  have HBY : Hid (ByAt w1 (some ⟨gb, 0, none⟩) p.by_ ∧ w.heap.size ≤ gb ∧ Only [] w w1) := ⟨hby, hgb, o1⟩
  clear hby hgb o1
  go_upto_region 2 with fail
  have H2 : Hid (PwAt (w1.alloc (.cells #[.int .i64 (p.st), .int .i64 (p.ba), .int .i64 (p.ix), .int .i64 (p.mn), .slice (some ⟨gb, 0, none⟩) p.by_.length p.by_.length] 121)) w1.heap.size p (.slice (some ⟨gb, 0, none⟩) p.by_.length p.by_.length) ∧ Only [] w1 (w1.alloc (.cells #[.int .i64 (p.st), .int .i64 (p.ba), .int .i64 (p.ix), .int .i64 (p.mn), .slice (some ⟨gb, 0, none⟩) p.by_.length p.by_.length] 121))) := ⟨(MapKept.heap_alloc w1 _).1, (Only.refl [] w1).alloc _⟩
  revert H2
  generalize hkp : w1.heap.size = kp
  have HKP : Hid (w1.heap.size = kp) := hkp
  generalize World.alloc w1 _ = w2
  intro H2
  clear hkp
  obtain ⟨vb, hvb⟩ : ∃ vb, vb = Value.slice (some ⟨gb, 0, none⟩) p.by_.length p.by_.length := ⟨_, rfl⟩
  rw [← hvb] at H2 ⊢
  have HSB : Hid (SbE w2 E vb p.by_) := by
    refine ⟨_, _, hvb, HBY.out.1.only H2.out.2 (by simp), fun e => (by cases e), fun a n c e _ hm => ?_⟩
    rw [hvb] at e
    injection e with e _ _
    injection e with e
    have h1 := HB.out.1.lt _ hm
    rw [← e] at h1
    have h2 := HBY.out.2.1
    simp only at h1
    omega
  have HC : Hid (CA E w2 x mv mp J nw KL ∧ SbE w2 E vb p.by_ ∧ Only [] w w2 ∧ w.heap.size ≤ kp) := ⟨HB.out.1.keep (HBY.out.2.2.trans H2.out.2), HSB.out, HBY.out.2.2.trans H2.out.2, by rw [← HKP.out]; exact HBY.out.2.2.size⟩
  clear HSB
  have HW : Hid (PwAt w2 kp p vb) := H2.out.1
  clear hvb HBY H2 HKP
  obtain ⟨c0, c1, c2, c3, c4, c5⟩ := HC.out.1.cl.cells
  obtain ⟨p0, p1, p2, p3, p4⟩ := HW.out.cells
  have hlate := late_hd HC.out.1.ok HPK.out.st1
  obtain ⟨hd, hhd⟩ : ∃ hd, hdK KL = hd := ⟨_, rfl⟩
  rw [hhd] at hlate c2 c3 c4
  have HHD : Hid (hdK KL = hd) := hhd
  clear hhd
  by_cases l1 : p.st ≤ nw
  · have d1 : decide (p.st ≤ nw) = true := decide_eq_true l1
    have HL : Hid (lateC (stC J nw KL) p = true) := by show _ = _; rw [hlate, d1]; rfl
    clear hlate l1
    go_quiet (fail)
    go_wp2_with fail
    exact bodyPost_ret (v := .bool false) (by simp [results, Try.results19, go_sem]) rfl (FeedPost.same HB.out.1 (HC.out.2.2.1.trans (only_drewN w2 nq)) (by rw [feedL_good HGD.out, HP.out]; exact feed_late HL.out))
  have d1 : decide (p.st ≤ nw) = false := decide_eq_false l1
  by_cases l2 : p.st < hd.st
  · have d2 : decide (p.st < hd.st) = true := decide_eq_true l2
    have HL : Hid (lateC (stC J nw KL) p = true) := by show _ = _; rw [hlate, d1, d2]; rfl
    clear hlate l1 l2
    go_quiet (fail)
    go_wp2_with fail
    exact bodyPost_ret (v := .bool false) (by simp [results, Try.results19, go_sem]) rfl (FeedPost.same HB.out.1 (HC.out.2.2.1.trans (only_drewN w2 nq)) (by rw [feedL_good HGD.out, HP.out]; exact feed_late HL.out))
  have d2 : decide (p.st < hd.st) = false := decide_eq_false l2
  have HL : Hid (lateC (stC J nw KL) p = false) := by show _ = _; rw [hlate, d1, d2]; rfl
  have HNW : Hid (nw < p.st) := by show nw < p.st; omega
  clear hlate l1
  go_quiet (fail)
  go_upto_region 4 with fail
  obtain ⟨w3, hw3⟩ : ∃ w3, w3 = w2.drewN nq := ⟨_, rfl⟩
  rw [← hw3]
  have o3 : Only [] w2 w3 := by rw [hw3]; exact only_drewN w2 nq
  have H3 : Hid (CA E w3 x mv mp J nw KL ∧ SbE w3 E vb p.by_ ∧ Only [] w w3 ∧ w.heap.size ≤ kp ∧ PwAt w3 kp p vb) := ⟨HC.out.1.keep o3, HC.out.2.1.keep o3, HC.out.2.2.1.trans o3, HC.out.2.2.2, HW.out.only o3 (by simp)⟩
  clear hw3 o3 c0 c1 c2 c3 c4 c5 p0 p1 p2 p3 p4 HC HW d1 d2
  have HNE : Hid (kp ≠ x ∧ kp ≠ mv) := ⟨fun q => by have := HB.out.1.lt _ HB.out.1.xE; have h2 := H3.out.2.2.2.1; omega, fun q => by have := HB.out.1.vm.lt; have h2 := H3.out.2.2.2.1; omega⟩
  obtain ⟨bt, hbt⟩ : ∃ bt, decide (p.st > hd.st) = bt := ⟨_, rfl⟩
  have HBT : Hid (decide (p.st > hd.st) = bt) := hbt
  obtain ⟨c0, c1, c2, c3, c4, c5⟩ := H3.out.1.cl.cells
  obtain ⟨p0, p1, p2, p3, p4⟩ := H3.out.2.2.2.2.cells
  rw [HHD.out] at c2 c3 c4
  have HL2 : Hid (¬ p.st < hd.st) := l2
  clear l2
  go_quiet (fail)
  clear hbt
  obtain ⟨w4, hw4⟩ : ∃ w4, w4 = w3.drewN nq := ⟨_, rfl⟩
  rw [← hw4]
  have o4 : Only [] w3 w4 := by rw [hw4]; exact only_drewN w3 nq
  have H4 : Hid (CA E w4 x mv mp J nw KL ∧ SbE w4 E vb p.by_ ∧ Only [] w w4 ∧ PwAt w4 kp p vb) := ⟨H3.out.1.keep o4, H3.out.2.1.keep o4, H3.out.2.2.1.trans o4, H3.out.2.2.2.2.only o4 (by simp)⟩
  clear hw4 o4 c0 c1 c2 c3 c4 c5 p0 p1 p2 p3 p4
  go_upto_if 41 with fail
  go_cut [4] from 34 (fun s4 wx => s4 = .bool false ∧ ∃ m1 K1 bb nn, Hid (GS E w x mv mp J nw KL kp p vb m1 K1 bb nn wx))
  case first =>
    cases bt with
    | true =>
      have HOLD : Hid (oldC (stC J nw KL) p = []) := old_new H3.out.1.ok (by rw [HHD.out]; exact of_decide_eq_true HBT.out)
      obtain ⟨p0, p1, p2, p3, p4⟩ := H4.out.2.2.2.cells
      go_wp2_with fail
      refine (gatheringFor_calls p vb w4).mono ?_
      rintro e w5 ⟨m, rfl, hm, hmp, o5⟩
      have H5 : Hid (CA E w5 x mv mp J nw KL ∧ SbE w5 E vb p.by_ ∧ Only [] w w5 ∧ PwAt w5 kp p vb ∧ MapV w5 (some m) [] ∧ w.heap.size ≤ m ∧ kp ≠ m) := ⟨H4.out.1.keep o5, H4.out.2.1.keep o5, H4.out.2.2.1.trans o5, H4.out.2.2.2.only o5 (by simp), hmp, Nat.le_trans H4.out.2.2.1.size hm, fun q => by have := H4.out.2.2.2.lt; omega⟩
      clear hm hmp o5 p0 p1 p2 p3 p4 H4
      obtain ⟨c0, c1, c2, c3, c4, c5⟩ := H5.out.1.cl.cells
      have f2 := H5.out.1.cl.free 2; have f3 := H5.out.1.cl.free 3; have f4 := H5.out.1.cl.free 4; have f5 := H5.out.1.cl.free 5
      go_wp2_with fail
      have hput := H5.out.1.cl.put4 p.st p.ba p.mn (some m)
      clear c0 c1 c2 c3 c4 c5 f2 f3 f4 f5
      have HPUT : Hid _ := hput
      clear hput
      revert HPUT
      generalize World.setCell _ _ _ = w6
      intro HPUT
      go_meet
      case rel =>
        refine ⟨rfl, m, [], p.ba, p.mn, ?_⟩
        obtain ⟨hcl, o6⟩ := HPUT
        obtain ⟨hc, hsb, hon, hpw, hmp, hmw, hkm⟩ := H5
        have hxl := HB.out.1.lt _ HB.out.1.xE
        have hvl := HB.out.1.vm.lt
        have hD : ∀ d ∈ [x], d ∈ E ∨ IsMap w5 d := fun d hd => Or.inl (by rw [List.mem_singleton.1 hd]; exact hc.xE)
        exact ⟨hcl, hc.vm.only o6 (by simpa using fun q => hc.ne.1 q.symm), hc.vo.only o6 hD, hmp.only o6 (by simp; omega), by simp, by simp, hsb.only o6 hD, hpw.only o6 (by simpa using HNE.out.1), fun e he => Nat.lt_of_lt_of_le (hc.lt e he) o6.size, ⟨by omega, by omega, HNE.out.1, HNE.out.2, hkm⟩, (hon.mono (by simp)).trans (o6.mono (by simp)), Or.inr hmw, HOLD.out.symm, by rw [HOLD.out]; simp [fitsC, mpK], fun q => absurd rfl q, fun _ => ⟨rfl, rfl⟩, Or.inl rfl⟩
    | false =>
      have HEQ : Hid (p.st = hd.st) := by
        show p.st = hd.st
        have h1 := of_decide_eq_false HBT.out
        have h2 := HL2.out
        omega
      have HOLD : Hid (oldC (stC J nw KL) p = gtK KL ∧ KL ≠ []) := old_same H3.out.1.ok HPK.out.st1 (by rw [HHD.out]; exact HEQ.out)
      go_wp2_with fail
      go_meet
      case rel =>
        obtain ⟨m, hm⟩ := H3.out.1.som HOLD.out.2
        refine ⟨rfl, m, KL, hd.ba, hd.mn, ?_⟩
        have hc := H4.out.1
        have hcl := hc.cl
        have hpm := hc.pm
        rw [HHD.out, ← HEQ.out, hm] at hcl
        rw [hm] at hpm
        exact ⟨hcl, hc.vm, hc.vo, hpm, hc.ps, hc.pk, H4.out.2.1, H4.out.2.2.2, hc.lt, ⟨fun q => hc.ne.2.1 (by rw [hm, q]), fun q => hc.ne.2.2 (by rw [hm, q]), HNE.out.1, HNE.out.2, fun q => by have := HB.out.1.pm; rw [hm] at this; have h1 := this.lt; have h2 := H3.out.2.2.2.1; omega⟩, H4.out.2.2.1.mono (by simp), Or.inl hm, HOLD.out.1.symm, by rw [HOLD.out.1, fits_hd hc.ok HOLD.out.2, HHD.out], fun _ => ⟨by rw [HHD.out, HEQ.out], by rw [HHD.out], by rw [HHD.out]⟩, fun q => absurd q HOLD.out.2, Or.inr ⟨rfl, hm⟩⟩
  case rest =>
    obtain ⟨rfl, m1, K1, bb, nn, HG⟩ := hcut
    generalize wc = w7 at HG ⊢
    clear H3 H4 HBT HL2
    have HIX : Hid (In64V p.ix) := in64V_of (by have := HPK.out.ix1; omega) (by have := HPK.out.ix2; have := HPK.out.mn2; omega)
    obtain ⟨bf, hbf⟩ : ∃ bf, (decide (p.ix ∉ (mpK K1).map Prod.fst) && decide (p.ba = bb) && decide (p.mn = nn)) = bf := ⟨_, rfl⟩
    have HFIT : Hid (fitsC (oldC (stC J nw KL) p) p = bf ∧ (decide (p.ix ∉ (mpK K1).map Prod.fst) && decide (p.ba = bb) && decide (p.mn = nn)) = bf) := ⟨HG.out.fit.trans hbf, hbf⟩
    clear hbf
    obtain ⟨c0, c1, c2, c3, c4, c5⟩ := HG.out.cl.cells
    obtain ⟨p0, p1, p2, p3, p4⟩ := HG.out.pw.cells
    go_upto_region 6 with fail
    refine wp_region_held_drew (S := (fun w' => w'.cell? ⟨x, 2, none⟩ = some (.int .i64 (p.st)) ∧ w'.cell? ⟨x, 3, none⟩ = some (.int .i64 bb) ∧ w'.cell? ⟨x, 4, none⟩ = some (.int .i64 nn) ∧ w'.cell? ⟨x, 5, none⟩ = some (.map (some m1)) ∧ w'.cell? ⟨kp, 0, none⟩ = some (.int .i64 (p.st)) ∧ w'.cell? ⟨kp, 1, none⟩ = some (.int .i64 (p.ba)) ∧ w'.cell? ⟨kp, 2, none⟩ = some (.int .i64 (p.ix)) ∧ w'.cell? ⟨kp, 3, none⟩ = some (.int .i64 (p.mn)) ∧ w'.cell? ⟨kp, 4, none⟩ = some vb)) (by kernel_rfl) ?_ (fun hHeld1 => ?_)
    · (try dsimp only); exact ⟨c2, c3, c4, c5, p0, p1, p2, p3, p4⟩
    clear c0 c1 c2 c3 c4 c5 p0 p1 p2 p3 p4
    refine tkW 0 rfl ?_; refine tkW 1 rfl ?_; refine tkW 2 rfl ?_; refine tkW 3 rfl ?_
    try simp only [Act.put, List.setIfInBounds_toArray, List.set_cons_zero, List.set_cons_succ, List.getElem_toArray, List.getElem_cons_succ, List.getElem_cons_zero]
    refine tkW 4 rfl ?_
    try simp only [Act.put, List.setIfInBounds_toArray, List.set_cons_zero, List.set_cons_succ, List.getElem_toArray, List.getElem_cons_succ, List.getElem_cons_zero]
    refine wpAnyH_ready (rs := [5]) (by kernel_rfl) (by simp) ?_
    refine AllReadyH.cons rfl (fun K hK => ?_) AllReadyH.nil
    first | (with_reducible refine iteYes ?hcx ?htx; case hcx => kernel_rfl) | rw [if_pos (by rfl)]
    simp only [List.getElem_toArray, List.getElem_cons_succ, List.getElem_cons_zero]
    go_simp
    (go_at_call 49; refine (cfits_calls p.st bb nn (some m1) p vb (mpK K1) _ (HG.out.keep (Only.refl [] w7).drew).pm HIX.out).mono ?_; rintro e w8 ⟨he, o8⟩; rw [HFIT.out.2] at he; subst he; have H8 : Hid (GS E w x mv mp J nw KL kp p vb m1 K1 bb nn w8) := HG.out.keep (((Only.refl [] w7).drew).trans o8); clear o8)
    try go_wp2_with fail
    refine hK.out _ _ ?_ (fun hHeld2 => ?_)
    · (try dsimp only); exact ⟨H8.out.cl.cells.2.2.1, H8.out.cl.cells.2.2.2.1, H8.out.cl.cells.2.2.2.2.1, H8.out.cl.cells.2.2.2.2.2, H8.out.pw.cells.1, H8.out.pw.cells.2.1, H8.out.pw.cells.2.2.1, H8.out.pw.cells.2.2.2.1, H8.out.pw.cells.2.2.2.2⟩
    clear hK K hHeld1
    try simp only [Act.put, List.setIfInBounds_toArray, List.set_cons_zero, List.set_cons_succ, List.getElem_toArray, List.getElem_cons_succ, List.getElem_cons_zero]
    refine tkW 6 rfl ?_
    try simp only [Act.put, List.setIfInBounds_toArray, List.set_cons_zero, List.set_cons_succ, List.getElem_toArray, List.getElem_cons_succ, List.getElem_cons_zero]
    refine wpAnyH_done (by kernel_rfl) ?_ _
    clear HG
    cases bf with
    | false =>
      go_wp2_with fail
      have hK1 : K1 ≠ [] := fun q => by
        have h1 := HFIT.out.2
        obtain ⟨e1, e2⟩ := H8.out.hd0 q
        rw [q, e1, e2] at h1
        simp [mpK] at h1
      obtain ⟨rfl, hmp⟩ := H8.out.same.resolve_left hK1
      obtain ⟨e1, e2, e3⟩ := H8.out.hd hK1
      refine bodyPost_ret (v := .bool false) (by simp [results, Try.results19, go_sem]) rfl ⟨H8.out.on, false, mp, J, nw, K1, rfl, ?_, fun m e => Or.inl e, by omega, ?_⟩
      · exact ⟨by rw [e1, e2, e3, hmp]; exact H8.out.cl, H8.out.vm, H8.out.vo, by rw [hmp]; exact H8.out.pm, HB.out.1.nil, HB.out.1.som, H8.out.ps, H8.out.pk, H8.out.lt, HB.out.1.xE, HB.out.1.ne, HB.out.1.ok⟩
      · rw [feedL_good HGD.out, HP.out]
        exact (feed_unfit HL.out HFIT.out.1).symm
    | true =>
      have h1 := HFIT.out.2
      simp only [Bool.and_eq_true, decide_eq_true_eq] at h1
      obtain ⟨⟨hix, rfl⟩, hmn⟩ := h1
      obtain ⟨M, hM⟩ : ∃ M : Nat, p.mn = (M : Int) := ⟨p.mn.toNat, by have := HPK.out.mn1; omega⟩
      obtain rfl : nn = (M : Int) := hmn.symm.trans hM
      have HM : Hid (p.mn = (M : Int)) := hM
      clear hmn hM
      have HIXN : Hid (p.ix ∉ (mpK K1).map Prod.fst) := hix
      obtain ⟨w9, hr9, hm9, ht9⟩ := ((H8.out.keep (Only.refl [] w8).drew).pm).store Try.underlying105 (by
        have : K1.length ≤ 40 := by
          rcases H8.out.same with q | ⟨q, _⟩
          · rw [q]; simp
          · cases K1 with
            | nil => simp
            | cons e r =>
              have h1 := HB.out.1.ok.few e.1 (by rw [← q]; simp [stC, gtK])
              have h2 := (H8.out.pk e (by simp)).mn2
              rw [← q] at h1
              simp only [stC, gtK, List.length_map] at h1
              omega
        simp [mpK, maxLen]; omega) (x := (p.ix, vb)) HIX.out hix
      simp only at hr9
      clear hix
      have o9 : Only [m1] w8 w9 := ((Only.refl [m1] w8).drew).grown ht9.grown (fun k hk => by injection hk with hk; exact Or.inl (by simp [hk]))
      have HXm : Hid (x ≠ m1 ∧ mv ≠ m1 ∧ kp ≠ m1) := ⟨fun q => H8.out.ne.2.1 q.symm, fun q => H8.out.ne.1 q.symm, H8.out.ne.2.2.2.2⟩
      have hD9 : ∀ d ∈ [m1], d ∈ E ∨ IsMap w8 d := fun d hd => by rw [List.mem_singleton.1 hd]; exact Or.inr H8.out.pm.isMap
      have H9 : Hid (ClAt w9 x (some mv) nw p.st p.ba (M : Int) (some m1) ∧ MapV w9 (some mv) (mpJ J) ∧ VwOk E w9 J nw ∧ MapV w9 (some m1) (mpK (K1 ++ [(p, vb)])) ∧ (∀ e ∈ K1 ++ [(p, vb)], SbE w9 E e.2 e.1.by_ ∧ GtOk e.1) ∧ PwAt w9 kp p vb ∧ Only (x :: mv :: mp.toList) w w9 ∧ (∀ e ∈ E, e < w9.heap.size)) := by
        refine ⟨H8.out.cl.only o9 (by simpa using HXm.out.1), H8.out.vm.only o9 (by simpa using HXm.out.2.1), H8.out.vo.only o9 hD9, hm9.perm (by simp only [mpK, List.map_append, List.map_cons, List.map_nil]; exact (List.perm_append_singleton _ _).symm), ?_, H8.out.pw.only o9 (by simpa using HXm.out.2.2), ?_, fun e he => Nat.lt_of_lt_of_le (H8.out.lt e he) o9.size⟩
        · intro e he
          rcases List.mem_append.1 he with he | he
          · exact ⟨(H8.out.ps e he).only o9 hD9, H8.out.pk e he⟩
          · rw [List.mem_singleton.1 he]; exact ⟨H8.out.sb.only o9 hD9, HPK.out⟩
        · rcases H8.out.nu with q | q
          · exact H8.out.on.trans (o9.mono (by simp [q]))
          · exact H8.out.on.then o9 (fun b hb => by rw [List.mem_singleton.1 hb]; exact Or.inr q)
      obtain ⟨c0, c1, c2, c3, c4, c5⟩ := H8.out.cl.cells
      obtain ⟨p0, p1, p2, p3, p4⟩ := H8.out.pw.cells
      clear hm9 ht9 o9 hD9
      go_upto_region 8 with fail
      refine wp_region_held_drew (S := (fun w' => w'.cell? ⟨x, 5, none⟩ = some (.map (some m1)) ∧ w'.cell? ⟨kp, 2, none⟩ = some (.int .i64 (p.ix)) ∧ w'.cell? ⟨kp, 4, none⟩ = some vb)) (by kernel_rfl) ?_ (fun hHeld1 => ?_)
      · (try dsimp only); exact ⟨c5, p2, p4⟩
      clear c0 c1 c2 c3 c4 c5 p0 p1 p2 p3 p4
      refine tkW 0 rfl ?_; refine tkW 1 rfl ?_; refine tkW 2 rfl ?_; refine tkW 3 rfl ?_
      try simp only [Act.put, List.setIfInBounds_toArray, List.set_cons_zero, List.set_cons_succ, List.getElem_toArray, List.getElem_cons_succ, List.getElem_cons_zero]
      refine tkW 4 rfl ?_; refine tkW 5 rfl ?_; refine tkW 6 rfl ?_; refine tkW 7 rfl ?_
      try simp only [Act.put, List.setIfInBounds_toArray, List.set_cons_zero, List.set_cons_succ, List.getElem_toArray, List.getElem_cons_succ, List.getElem_cons_zero]
      refine tkW 8 rfl ?_
      try simp only [Act.put, List.setIfInBounds_toArray, List.set_cons_zero, List.set_cons_succ, List.getElem_toArray, List.getElem_cons_succ, List.getElem_cons_zero]
      refine wpAnyH_ready (rs := [9]) (by kernel_rfl) (by simp) ?_
      refine AllReadyH.cons rfl (fun K hK => ?_) AllReadyH.nil
      first | (with_reducible refine iteYes ?hcx ?htx; case hcx => kernel_rfl) | rw [if_pos (by rfl)]
      simp only [List.getElem_toArray, List.getElem_cons_succ, List.getElem_cons_zero]
      go_simp
      refine hK.out _ _ ?_ (fun hHeld2 => ?_)
      · (try dsimp only); exact ⟨H9.out.1.cells.2.2.2.2.2, H9.out.2.2.2.2.2.1.cells.2.2.1, H9.out.2.2.2.2.2.1.cells.2.2.2.2⟩
      clear hK K
      try simp only [Act.put, List.setIfInBounds_toArray, List.set_cons_zero, List.set_cons_succ, List.getElem_toArray, List.getElem_cons_succ, List.getElem_cons_zero]
      refine wpAnyH_done (by kernel_rfl) ?_ _
      clear hr9
      go_upto_region 9 with fail
      obtain ⟨c0, c1, c2, c3, c4, c5⟩ := H9.out.1.cells
      have hlen : ∀ n ty, _ := fun n ty => (H9.out.2.2.2.1.only (only_drewN w9 n) (by simp)).len Try.underlying105 ty
      have hlk : (mpK (K1 ++ [(p, vb)])).length = K1.length + 1 := by simp [mpK]
      rw [hlk] at hlen
      clear hlk
      obtain ⟨lt, hlt⟩ : ∃ lt, decide (((K1.length + 1 : Nat) : Int) < (M : Int)) = lt := ⟨_, rfl⟩
      have HLT : Hid (decide (((K1.length + 1 : Nat) : Int) < (M : Int)) = lt) := hlt
      have hlt2 : decide ((K1.length : Int) + 1 < (M : Int)) = lt := by rw [← hlt]; simp
      go_quiet (fail)
      clear hlt hlt2 hlen c0 c1 c2 c3 c4 c5
      obtain ⟨wa, hwa⟩ : ∃ wa, wa = w9.drewN nq := ⟨_, rfl⟩
      rw [← hwa]
      have oa : Only [] w9 wa := by rw [hwa]; exact only_drewN w9 nq
      have HA : Hid (ClAt wa x (some mv) nw p.st p.ba (M : Int) (some m1) ∧ MapV wa (some mv) (mpJ J) ∧ VwOk E wa J nw ∧ MapV wa (some m1) (mpK (K1 ++ [(p, vb)])) ∧ (∀ e ∈ K1 ++ [(p, vb)], SbE wa E e.2 e.1.by_ ∧ GtOk e.1) ∧ Only (x :: mv :: mp.toList) w wa ∧ (∀ e ∈ E, e < wa.heap.size)) :=
        ⟨H9.out.1.only oa (by simp), H9.out.2.1.only oa (by simp), H9.out.2.2.1.only oa (by simp), H9.out.2.2.2.1.only oa (by simp), fun e he => ⟨(H9.out.2.2.2.2.1 e he).1.keep oa, (H9.out.2.2.2.2.1 e he).2⟩, H9.out.2.2.2.2.2.2.1.trans (oa.mono (by simp)), fun e he => Nat.lt_of_lt_of_le (H9.out.2.2.2.2.2.2.2 e he) oa.size⟩
      have HGT : Hid (gtK (K1 ++ [(p, vb)]) = oldC (stC J nw KL) p ++ [p] ∧ (oldC (stC J nw KL) p).length = K1.length) := ⟨by rw [← H8.out.old]; simp [gtK], by rw [← H8.out.old]; simp [gtK]⟩
      have HST : Hid (∃ r, feedC 32 ora.ap (stC J nw KL) p = r ∧ CstOk 32 r.2) := ⟨_, rfl, HB.out.1.ok.feed⟩
      have HN1 : Hid (m1 ≠ mv ∧ m1 ≠ x ∧ (mp = some m1 ∨ w.heap.size ≤ m1) ∧ x ≠ mv) := ⟨H8.out.ne.1, H8.out.ne.2.1, H8.out.nu, HB.out.1.ne.1⟩
      have HHK : Hid ((hdK (K1 ++ [(p, vb)])).st = p.st ∧ (hdK (K1 ++ [(p, vb)])).ba = p.ba ∧ (hdK (K1 ++ [(p, vb)])).mn = (M : Int)) := by
        cases hk1 : K1 with
        | nil => exact ⟨rfl, rfl, HM.out⟩
        | cons e r =>
          have := H8.out.hd (by rw [hk1]; simp)
          rw [hk1] at this
          exact this
      clear hwa oa H9 H8
      cases lt with
      | true =>
        have hfeed := feed_some (ora := ora) HL.out HFIT.out.1 (by rw [HGT.out.2, HM.out]; have := of_decide_eq_true HLT.out; omega)
        go_wp2_with fail
        refine bodyPost_ret (v := .bool false) (by simp [results, Try.results19, go_sem]) rfl ⟨HA.out.2.2.2.2.2.1, false, some m1, J, nw, K1 ++ [(p, vb)], rfl, ?_, fun m e => (by injection e with e; subst e; exact HN1.out.2.2.1), by omega, ?_⟩
        · have hs : stC J nw (K1 ++ [(p, vb)]) = { stC J nw KL with got := oldC (stC J nw KL) p ++ [p] } := by unfold stC; rw [HGT.out.1]; rfl
          refine ⟨by rw [HHK.out.1, HHK.out.2.1, HHK.out.2.2]; exact HA.out.1, HA.out.2.1, HA.out.2.2.1, HA.out.2.2.2.1, fun q => (by simp at q), fun _ => ⟨m1, rfl⟩, fun e he => (HA.out.2.2.2.2.1 e he).1, fun e he => (HA.out.2.2.2.2.1 e he).2, HA.out.2.2.2.2.2.2, HB.out.1.xE, ⟨HN1.out.2.2.2, fun q => HN1.out.1 (by injection q), fun q => HN1.out.2.1 (by injection q)⟩, ?_⟩
          rw [hs]
          have h1 := HB.out.1.ok.feed (ap := ora.ap) (p := p)
          rw [hfeed] at h1
          exact h1
        · rw [feedL_good HGD.out, HP.out, hfeed]
          unfold stC
          rw [HGT.out.1]
          rfl
      | false =>
        have HFEED : Hid _ := feed_all (ora := ora) HL.out HFIT.out.1 (by rw [HGT.out.2, HM.out]; have := of_decide_eq_false HLT.out; omega)
        obtain ⟨c0, c1, c2, c3, c4, c5⟩ := HA.out.1.cells
        have f2 := HA.out.1.free 2; have f3 := HA.out.1.free 3; have f4 := HA.out.1.free 4; have f5 := HA.out.1.free 5
        go_upto_region 12 with fail
        have HG : Hid ((wa.alloc (.cells #[.int .i64 (p.st), .int .i64 (p.ba), .int .i64 ((M : Int)), .map (some m1)] 107)).heap[wa.heap.size]? = some (.cells #[.int .i64 (p.st), .int .i64 (p.ba), .int .i64 ((M : Int)), .map (some m1)] 107) ∧ Only [] wa (wa.alloc (.cells #[.int .i64 (p.st), .int .i64 (p.ba), .int .i64 ((M : Int)), .map (some m1)] 107))) := ⟨(MapKept.heap_alloc wa _).1, (Only.refl [] wa).alloc _⟩
        have HKG : Hid (wa.heap.size ≠ x) := fun q => by have := HA.out.2.2.2.2.2.2 x HB.out.1.xE; omega
        clear c0 c1 c2 c3 c4 c5 f2 f3 f4 f5
        revert HG HKG
        generalize wa.heap.size = kg
        generalize World.alloc wa _ = wb
        intro HG HKG
        have hclb := HA.out.1.only HG.out.2 (by simp)
        obtain ⟨c0, c1, c2, c3, c4, c5⟩ := hclb.cells
        have f2 := hclb.free 2; have f3 := hclb.free 3; have f4 := hclb.free 4; have f5 := hclb.free 5
        have HPUT : Hid _ := hclb.put4 0 0 0 none
        clear hclb
        go_upto_region 13 with fail
        clear c0 c1 c2 c3 c4 c5 f2 f3 f4 f5
        revert HPUT
        generalize World.setCell _ _ _ = wd
        intro HPUT
        have HGD2 : Hid (wd.heap[kg]? = some (.cells #[.int .i64 (p.st), .int .i64 (p.ba), .int .i64 ((M : Int)), .map (some m1)] 107)) := (HPUT.out.2.block kg (Array.getElem?_eq_some_iff.1 HG.out.1).1 (by simpa using HKG.out)).trans HG.out.1
        have g0 : wd.cell? ⟨kg, 0, none⟩ = some (.int .i64 (p.st)) := by simp [World.cell?, HGD2.out]
        have g1 : wd.cell? ⟨kg, 1, none⟩ = some (.int .i64 (p.ba)) := by simp [World.cell?, HGD2.out]
        have g2 : wd.cell? ⟨kg, 2, none⟩ = some (.int .i64 ((M : Int))) := by simp [World.cell?, HGD2.out]
        have g3 : wd.cell? ⟨kg, 3, none⟩ = some (.map (some m1)) := by simp [World.cell?, HGD2.out]
        go_wp2_with fail
        have od : Only [x] wa wd := (HG.out.2.mono (by simp)).trans HPUT.out.2
        have hDd : ∀ d ∈ [x], d ∈ E ∨ IsMap wa d := fun d hd => Or.inl (by rw [List.mem_singleton.1 hd]; exact HB.out.1.xE)
        have hnd : ((gtK (K1 ++ [(p, vb)])).map Gt.ix).Nodup := by
          have := HA.out.2.2.2.1.nodup
          simpa [gtK, mpK, List.map_map, Function.comp_def] using this
        have hall : ∀ q ∈ gtK (K1 ++ [(p, vb)]), GtOk q := fun q hq => by
          obtain ⟨e, he, rfl⟩ := List.mem_map.1 hq
          exact (HA.out.2.2.2.2.1 e he).2
        have hM40 : M ≤ 40 := by have := HPK.out.mn2; rw [HM.out] at this; omega
        have hjl := join_len hnd (fun q hq => (hall q hq).len) M
        refine (become_calls (ora := ora) E x mv nw p.st p.ba M (some m1) J (K1 ++ [(p, vb)]) (joinC (gtK (K1 ++ [(p, vb)])) M) wd HPUT.out.1 (HA.out.2.1.only od (by simpa using fun q => HN1.out.2.2.2 q.symm)) (HA.out.2.2.1.only od hDd) (HA.out.2.2.2.1.only od (by simpa using HN1.out.2.1)) (fun e he => (HA.out.2.2.2.2.1 e he).1.only od hDd) hM40 (fun e he => (HA.out.2.2.2.2.1 e he).2.len) (fun e he => (HA.out.2.2.2.2.1 e he).2.sml) rfl (join_small hnd (fun q hq => (hall q hq).sml) M) (by omega) HNW.out HPK.out.st2 HPK.out.ba1 HPK.out.ba2 (fun e he => Nat.lt_of_lt_of_le (HA.out.2.2.2.2.2.2 e he) od.size) HB.out.1.xE HN1.out.2.2.2 hJ).mono ?_
        have HMN : Hid (p.mn.toNat = M) := by show _ = M; rw [HM.out]; rfl
        have HFE : Hid (feedL ora (stC J nw KL) L = match becC ora (vwJ J) p.st p.ba (joinC (gtK (K1 ++ [(p, vb)])) M) with
            | none => (false, stC J nw [])
            | some V => (true, ⟨V, p.st, []⟩)) := by
          show _ = _
          rw [feedL_good HGD.out, HP.out, HFEED.out, HMN.out, HGT.out.1]
          rfl
        have HOK : Hid (CstOk 32 (feedL ora (stC J nw KL) L).2) := by
          show CstOk 32 _
          rw [feedL_good HGD.out]
          exact HB.out.1.ok.feed
        have HOD : Hid (Only (x :: mv :: mp.toList) w wd) := HA.out.2.2.2.2.2.1.trans (od.mono (by simp))
        have HLE : Hid (∀ e ∈ E, e < wd.heap.size) := fun e he => Nat.lt_of_lt_of_le (HA.out.2.2.2.2.2.2 e he) od.size
        clear od hDd hnd hall hjl g0 g1 g2 g3
        rintro e we ⟨oe, ⟨hb, rfl, hcl, hmv, hvo⟩ | ⟨J', hb, rfl, hcl, hmv, hvo, hjl⟩⟩
        · have HE : Hid (FeedPost ora E x mv mp J nw KL L w (.returned (.bool false)) we) := by
            have h1 := HFE.out
            have h2 := HOK.out
            rw [hb] at h1
            rw [h1] at h2
            exact ⟨HOD.out.trans (oe.mono (by simp)), false, none, J, nw, [], rfl, ⟨hcl, hmv, hvo, rfl, fun _ => rfl, fun q => absurd rfl q, by simp, by simp, fun e he => Nat.lt_of_lt_of_le (HLE.out e he) oe.size, HB.out.1.xE, ⟨HN1.out.2.2.2, by simp, by simp⟩, h2⟩, fun m e => (by cases e), by omega, h1.symm⟩
          clear hb hcl hmv hvo oe
          go_wp2_with fail
          exact bodyPost_ret (v := .bool false) (by simp [results, Try.results19, go_sem]) rfl HE.out
        · have HE : Hid (FeedPost ora E x mv mp J nw KL L w (.returned (.bool true)) we) := by
            have h1 := HFE.out
            have h2 := HOK.out
            rw [hb] at h1
            rw [h1] at h2
            exact ⟨HOD.out.trans (oe.mono (by simp)), true, none, J', p.st, [], rfl, ⟨hcl, hmv, ⟨fun e he => (hvo e he).1, fun e he => (hvo e he).2.1, fun e he => (hvo e he).2.2, by have := HPK.out.st1; omega, HPK.out.st2⟩, rfl, fun _ => rfl, fun q => absurd rfl q, by simp, by simp, fun e he => Nat.lt_of_lt_of_le (HLE.out e he) oe.size, HB.out.1.xE, ⟨HN1.out.2.2.2, by simp, by simp⟩, h2⟩, fun m e => (by cases e), hjl, h1.symm⟩
          clear hb hcl hmv hvo hjl oe
          go_wp2_with fail
          exact bodyPost_ret (v := .bool true) (by simp [results, Try.results19, go_sem]) rfl HE.out
end Go.Proofs.Ytedhdmahdioboaa
/- (*client.Client).Newest: a copy of the newest view. -/
namespace Go.Proofs.Ytedhdmahdioboaa
open Go.ChangeShapes Go.WideShapes Go.ChangeAt Go.RowKit
set_option linter.unusedVariables false
set_option linter.unusedSimpArgs false

theorem own_emptyV (w : World) (base : Nat) (hb : base ≤ w.heap.size) : (w.alloc (.cells #[] 120)).ownsRow base 120 11 (.slice (some ⟨w.heap.size, 0, none⟩) 0 0) ([] : List Sn).length (rowS []) :=
  ⟨by simp [rowS], Or.inr ⟨w.heap.size, 0, #[], rfl, hb, (MapKept.heap_alloc w _).1, Nat.le_refl _, by simp [maxLen], rfl, by simp [rowS]⟩⟩
set_option maxRecDepth 100000 in
set_option maxHeartbeats 4000000 in
theorem cloneV_calls (v : Value) (T : List Sn) (w : World) (h : SvAt w v T) (hn : NilOk v) (hl : T.length ≤ 1000) :
    Calls Try.prog 53 #[v] w fun e w' => ∃ v', e = .returned v' ∧ SvAt w' v' T ∧ Only [] w w' := by
  have qs : ∀ (w : World) (a : Option Addr) (n c n' c' : Nat), (binOp .eql 52 (.slice a n c) (.slice none n' c')).run Try.prog w = .ok (.bool a.isNone) w := fun w a n c n' c' => Lib.run_eql_slice_nil w _ _ a n c n' c' Try.underlying52
  obtain ⟨a, c, rfl, hc, hs⟩ := h
  cases a with
  | none =>
    have h0 : T.length = 0 := by
      have := hn _ _ rfl
      omega
    have HT : Hid (T = []) := List.length_eq_zero_iff.1 h0
    have HC : Hid (c = 0) := hn _ _ rfl
    clear hn hs hl hc h0
    go_enter Try.func53, Try.ntmps53
    go_wp2_with fail
    exact bodyPost_ret (v := .slice none 0 0) (by simp [results, Try.results53, go_sem]) rfl ⟨_, rfl, ⟨none, 0, by rw [HT.out]; rfl, by rw [HT.out]; simp, by rw [HT.out]; intro j hj; simp at hj⟩, Only.refl _ _⟩
  | some ad =>
    have hown0 := own_emptyV w w.heap.size (Nat.le_refl _)
    have hs1 : SeenAt (w.alloc (.cells #[] 120)) (some ad) T.length (fun j => T.getD j zs) := hs.only ((Only.refl [] w).alloc _)
    have hnil : (some ad : Option Addr) = none → c = 0 := fun e => by cases e
    have hlf : ([] : List Sn).length + T.length ≤ 1000000 := by simp; omega
    have hb3 : w.heap.size ≤ (w.alloc (.cells #[] 120)).heap.size := by simp
    clear hs hn
    go_enter Try.func53, Try.ntmps53
    go_wp2_with (first | (at_builtin; refine wpList_appendS snapT rfl _ _ rfl w.heap.size (.slice (some ⟨w.heap.size, 0, none⟩) 0 0) [] rfl hown0 (some ad) T.length c T rfl rfl hs1 hnil hc hlf hb3 ?_; intro nv0 w4 hown hgrow hloc; have H4 : Hid (SvAt w4 nv0 T ∧ Only [] w w4) := ⟨(own_sv hown).1, ((Only.refl [] w).alloc _).grown hgrow (fun k hk => Or.inr (by simp only [Value.ownBlock, Option.some.injEq] at hk; omega))⟩; clear hown hgrow hloc hown0 hs1 hb3 hlf))
    exact bodyPost_ret (v := nv0) (by simp [results, Try.results53, go_sem]) rfl ⟨_, rfl, H4.out.1, H4.out.2⟩
def viewOf (s : Cst (List Sn)) : List Sn := (viewC s.views s.newest).getD []
/-- What a map has of a number, or nothing. -/
theorem CA.look {E : List Nat} {w : World} {x mv : Nat} {mp : Option Nat} {J : Vl} {nw : Int} {K : Kl} (h : CA E w x mv mp J nw K) : ∃ v, (SvE w E v (viewOf (stC J nw K)) ∧ (viewOf (stC J nw K)).length ≤ 121) ∧ ∀ w', MapV w' (some mv) (mpJ J) → (Instr.lookup 104 (.map (some mv)) (.int .i64 nw) false).run Try.prog w' = .ok v w' := by
  have hw : In64V nw := in64V_of (by have := h.vo.pos; omega) (by have := h.vo.top; omega)
  by_cases hin : nw ∈ (mpJ J).map Prod.fst
  · rw [keys_mp] at hin
    obtain ⟨e, he, heb⟩ := List.mem_map.1 hin
    have hv : viewOf (stC J nw K) = e.2.2 := by
      unfold viewOf stC
      simp only
      rw [← heb, view_some h.vm.nodup he]
      rfl
    refine ⟨e.2.1, by rw [hv]; exact ⟨h.vo.at_ e he, h.vo.few e he⟩, fun w' hm => ?_⟩
    have := hm.at_some Try.underlying104 zeroView (x := (e.1, e.2.1)) (by simp only; rw [heb]; exact hw) (List.mem_map_of_mem (f := fun e : Int × Value × List Sn => (e.1, e.2.1)) he)
    simp only [heb] at this
    exact this
  · have hv : viewOf (stC J nw K) = [] := by
      unfold viewOf stC
      simp only
      rw [view_none hin]
      rfl
    exact ⟨.slice none 0 0, by rw [hv]; exact ⟨⟨⟨none, 0, rfl, Nat.le_refl _, fun j hj => by simp at hj⟩, fun n c e => by injection e with _ _ e; exact e.symm, fun a n c e => by cases e⟩, by simp⟩, fun w' hm => hm.at_none Try.underlying104 zeroView hw hin⟩
set_option maxRecDepth 100000 in
set_option maxHeartbeats 4000000 in
theorem newest_calls (E : List Nat) (x mv : Nat) (mp : Option Nat) (J : Vl) (nw : Int) (KL : Kl) (w : World) (h : CA E w x mv mp J nw KL) :
    Calls Try.prog 21 #[.pointer (some ⟨x, 0, none⟩)] w fun e w' => ∃ v', e = .returned (.tuple #[.int .i64 nw, v']) ∧ SvAt w' v' (viewOf (stC J nw KL)) ∧ Only [] w w' := by
  obtain ⟨v, hv, hlk⟩ := h.look
  have HB : Hid (CA E w x mv mp J nw KL ∧ SvE w E v (viewOf (stC J nw KL)) ∧ (viewOf (stC J nw KL)).length ≤ 121) := ⟨h, hv⟩
  have HLK : Hid (∀ w', MapV w' (some mv) (mpJ J) → (Instr.lookup 104 (.map (some mv)) (.int .i64 nw) false).run Try.prog w' = .ok v w') := hlk
  obtain ⟨c0, c1, _⟩ := h.cl.cells
  have hmv := h.vm
  clear hv hlk h
  go_enter Try.func21, Try.ntmps21
  go_upto_region 1 with fail
  refine wp_region_held_drew (S := (fun w' => w'.cell? ⟨x, 0, none⟩ = some (.map (some mv)) ∧ w'.cell? ⟨x, 1, none⟩ = some (.int .i64 nw) ∧ Hid (MapV w' (some mv) (mpJ J)))) (by kernel_rfl) ?_ (fun hHeld1 => ?_)
  · (try dsimp only); exact ⟨c0, c1, hmv.only (Only.refl [] w).drew (by simp)⟩
  clear c0 c1 hmv
  refine tkW 0 rfl ?_; refine tkW 1 rfl ?_; refine tkW 2 rfl ?_; refine tkW 3 rfl ?_
  try simp only [Act.put, List.setIfInBounds_toArray, List.set_cons_zero, List.set_cons_succ, List.getElem_toArray, List.getElem_cons_succ, List.getElem_cons_zero]
  refine tkW 4 rfl ?_; refine tkW 5 rfl ?_; refine tkW 6 rfl ?_; refine tkW 7 rfl ?_
  try simp only [Act.put, List.setIfInBounds_toArray, List.set_cons_zero, List.set_cons_succ, List.getElem_toArray, List.getElem_cons_succ, List.getElem_cons_zero]
  refine tkW 8 rfl ?_; refine tkW 9 rfl ?_; refine tkW 10 rfl ?_; refine tkW 11 rfl ?_
  try simp only [Act.put, List.setIfInBounds_toArray, List.set_cons_zero, List.set_cons_succ, List.getElem_toArray, List.getElem_cons_succ, List.getElem_cons_zero]
  refine tkW (v := v) 12 rfl ?_ (by intro w'' hSw; (try dsimp only at hSw); simp only [List.getElem_toArray, List.getElem_cons_succ, List.getElem_cons_zero]; go_simp; (rw [HLK.out _ hSw.2.2.out]; rfl))
  try simp only [Act.put, List.setIfInBounds_toArray, List.set_cons_zero, List.set_cons_succ, List.getElem_toArray, List.getElem_cons_succ, List.getElem_cons_zero]
  refine wpAnyH_ready (rs := [13]) (by kernel_rfl) (by simp) ?_
  refine AllReadyH.cons rfl (fun K hK => ?_) AllReadyH.nil
  first | (with_reducible refine iteYes ?hcx ?htx; case hcx => kernel_rfl) | rw [if_pos (by rfl)]
  simp only [List.getElem_toArray, List.getElem_cons_succ, List.getElem_cons_zero]
  go_simp
  (go_at_call 53; refine (cloneV_calls v _ _ (HB.out.2.1.1.only (Only.refl [] w).drew) HB.out.2.1.2.1 (by have := HB.out.2.2; omega)).mono ?_; rintro e w2 ⟨v2, rfl, hs2, o2⟩; have H2 : Hid (SvAt w2 v2 (viewOf (stC J nw KL)) ∧ Only [] w w2) := ⟨hs2, ((Only.refl [] w).drew).trans o2⟩; clear hs2 o2)
  try go_wp2_with fail
  refine hK.out _ _ ?_ (fun hHeld2 => ?_)
  · (try dsimp only); exact ⟨H2.out.2.cell HB.out.1.cl.cells.1 (by simp), H2.out.2.cell HB.out.1.cl.cells.2.1 (by simp), HB.out.1.vm.only H2.out.2 (by simp)⟩
  clear hK K hHeld1
  try simp only [Act.put, List.setIfInBounds_toArray, List.set_cons_zero, List.set_cons_succ, List.getElem_toArray, List.getElem_cons_succ, List.getElem_cons_zero]
  refine tkW 14 rfl ?_; refine tkW 15 rfl ?_
  try simp only [Act.put, List.setIfInBounds_toArray, List.set_cons_zero, List.set_cons_succ, List.getElem_toArray, List.getElem_cons_succ, List.getElem_cons_zero]
  refine wpAnyH_done (by kernel_rfl) ?_ _
  go_wp2_with fail
  exact bodyPost_ret (v := .tuple #[.int .i64 nw, v2]) (by simp [results, Try.results21, go_sem]) rfl ⟨v2, rfl, H2.out.1, H2.out.2⟩
end Go.Proofs.Ytedhdmahdioboaa
