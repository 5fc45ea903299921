/- gyrelaw.ClientPlays: both clients side by side. -/
import Derived.Test.YtedhdmahdioboaaClE
import Derived.Test.YtedhdmahdioboaaArM
import Derived.Test.YtedhdmahdioboaaWMa
import Derived.Test.YtedhdmahdioboaaStr2
import Derived.Deep.MidRow
import Derived.Laws.MakeOwn
namespace Go.Proofs.Ytedhdmahdioboaa
open Go.ChangeShapes Go.WideShapes Go.ChangeAt Go.RowKit
set_option linter.unusedVariables false
set_option linter.unusedSimpArgs false
variable {ora : Ora}

/-- Both clients have the same; their blocks are new since w0. -/
structure DC (w0 : World) (n : Nat) (E : List Nat) (x mv : Nat) (mp : Option Nat) (J1 : Vl) (K1 : Kl) (y yv : Nat) (vg : Value) (J2 : Vl) (K2 : Kl) (nw : Int) (wr : World) : Prop where
  a : CA E wr x mv mp J1 nw K1
  b : RCA E wr y yv vg J2 nw K2
  s : stC J1 nw K1 = stC J2 nw K2
  z : ∀ e ∈ J2, e.1 = 0 → e.2.2 = []
  n1 : J1.length ≤ n
  n2 : J2.length ≤ n
  yy : yv ≠ mv ∧ mp ≠ some yv
  vx : vg.ownBlock ≠ some x
  xy : x ≠ y
  on : Only [] w0 wr
  nx : w0.heap.size ≤ x ∧ w0.heap.size ≤ mv ∧ w0.heap.size ≤ y
  np : ∀ m, mp = some m → w0.heap.size ≤ m
  ng : ∀ m, vg.ownBlock = some m → w0.heap.size ≤ m
/-- What bytes may be: the caller's, or in a block of bytes. -/
def FarB (w0 wr : World) (ab : Option Addr) (L : List Nat) : Prop := ∀ g p, ab = some ⟨g, p, none⟩ → L ≠ [] → g < w0.heap.size ∨ ∃ cur f, wr.heap[g]? = some (.cells cur 5 f)
theorem RCA.gcell {E : List Nat} {w : World} {y yv : Nat} {vg : Value} {J : Vl} {nw : Int} {K : Kl} (h : RCA E w y yv vg J nw K) {m : Nat} (hm : IsMap w m) : vg.ownBlock ≠ some m := fun q => by
  obtain ⟨_, ⟨e, _⟩ | ⟨g, cap, cur, e, _, hg, _⟩⟩ := h.gr
  · rw [e] at q; cases q
  · rw [e] at q
    simp only [Value.ownBlock, Option.some.injEq] at q
    exact isMap_ne hg hm q
/-- The program's client has been fed. -/
theorem DC.first {w0 : World} {n : Nat} {E : List Nat} {x mv : Nat} {mp : Option Nat} {J1 : Vl} {K1 : Kl} {y yv : Nat} {vg : Value} {J2 : Vl} {K2 : Kl} {nw : Int} {wr w1 : World} (h : DC w0 n E x mv mp J1 K1 y yv vg J2 K2 nw wr) (o : Only (x :: mv :: mp.toList) wr w1) : RCA E w1 y yv vg J2 nw K2 ∧ Only [] w0 w1 ∧ ∀ (ab : Option Addr) (L : List Nat), FarB w0 wr ab L → ByAt wr ab L → ByAt w1 ab L := by
  have hmv := h.a.vm.isMap
  have hmp : ∀ m, mp = some m → IsMap wr m := fun m e => by have := h.a.pm; rw [e] at this; exact this.isMap
  have hlt : ∀ d ∈ x :: mv :: mp.toList, w0.heap.size ≤ d ∧ d < wr.heap.size := by
    intro d hd
    rcases List.mem_cons.1 hd with rfl | hd
    · exact ⟨h.nx.1, h.a.cl.lt⟩
    · rcases List.mem_cons.1 hd with rfl | hd
      · exact ⟨h.nx.2.1, h.a.vm.lt⟩
      · have hd : mp = some d := by simpa using hd
        exact ⟨h.np d hd, by have := h.a.pm; rw [hd] at this; exact this.lt⟩
  refine ⟨h.b.only o ?_ ?_ ?_ ?_, h.on.then o (fun b hb => Or.inr (hlt b hb).1), fun ab L hf hb => hb.only o (fun g p e hL hg => ?_)⟩
  · intro d hd
    rcases List.mem_cons.1 hd with rfl | hd
    · exact Or.inl h.a.xE
    · rcases List.mem_cons.1 hd with rfl | hd
      · exact Or.inr hmv
      · exact Or.inr (hmp d (by simpa using hd))
  · intro q
    rcases List.mem_cons.1 q with q | q
    · exact h.xy q.symm
    · rcases List.mem_cons.1 q with q | q
      · exact isMap_ne h.b.cl hmv q
      · exact isMap_ne h.b.cl (hmp y (by simpa using q)) rfl
  · intro q
    rcases List.mem_cons.1 q with q | q
    · exact isMap_ne h.a.cl h.b.vm.isMap q.symm
    · rcases List.mem_cons.1 q with q | q
      · exact h.yy.1 q
      · exact h.yy.2 (by simpa using q)
  · intro b hb q
    rcases List.mem_cons.1 q with q | q
    · exact h.vx (by rw [← q]; exact hb)
    · rcases List.mem_cons.1 q with q | q
      · exact h.b.gcell hmv (by rw [← q]; exact hb)
      · exact h.b.gcell (hmp b (by simpa using q)) hb
  · have h1 := hlt g hg
    rcases hf g p e hL with q | ⟨cur, f, q⟩
    · omega
    · have hnm : ¬ IsMap wr g := by
        rintro (⟨es, cl, hm⟩ | ⟨_, _, _, _, hm⟩)
        · rw [q] at hm; cases hm
        · rw [q] at hm; cases hm
      rcases List.mem_cons.1 hg with r | r
      · subst r
        have hcl : wr.heap[g]? = _ := h.a.cl
        rw [q] at hcl
        injection hcl with hcl
        injection hcl with _ hcl _
        exact absurd hcl (by decide)
      · rcases List.mem_cons.1 r with r | r
        · subst r; exact hnm hmv
        · exact hnm (hmp g (by simpa using r))
/-- Both have been fed. -/
theorem DC.second {w0 : World} {n : Nat} {E : List Nat} {x mv : Nat} {mp : Option Nat} {J1 : Vl} {K1 : Kl} {y yv : Nat} {vg : Value} {J2 : Vl} {K2 : Kl} {nw : Int} {wr w1 w2 : World} {L : List Nat} {e1 e2 : Ending} (h : DC w0 n E x mv mp J1 K1 y yv vg J2 K2 nw wr) (h1 : FeedPost ora E x mv mp J1 nw K1 L wr e1 w1) (h2 : RFeedPost ora E y yv vg J2 nw K2 L w1 e2 w2) :
    ∃ r E' mp' J1' K1' yv' vg' J2' K2' nw', e1 = .returned (.bool r) ∧ e2 = .returned (.bool r) ∧ DC w0 (n + 1) E' x mv mp' J1' K1' y yv' vg' J2' K2' nw' w2 := by
  obtain ⟨o1, r1, mp', J1', nw1, K1', rfl, hca, hnew, hl1, hf1⟩ := h1
  obtain ⟨hrca, hon, _⟩ := h.first o1
  obtain ⟨o2, r2, E', yv', vg', J2', nw2, K2', rfl, hrb, hinc, hne, hyv', hgv, hl2, hz, hf2⟩ := h2
  rw [← h.s, ← hf1] at hf2
  injection hf2 with hr hs
  have hnw : nw2 = nw1 := congrArg Cst.newest hs
  subst hnw
  have hmv := hca.vm.isMap
  have hmp' : ∀ m, mp' = some m → IsMap w1 m := fun m e => by have := hca.pm; rw [e] at this; exact this.isMap
  have hD : ∀ d ∈ y :: vg.ownBlock.toList, d ∈ E ∨ IsMap w1 d := by
    intro d hd
    rcases List.mem_cons.1 hd with rfl | hd
    · exact Or.inl hrca.yE
    · exact Or.inl (hrca.gE d (by simpa using hd))
  have hxD : x ∉ y :: vg.ownBlock.toList := fun q => by
    rcases List.mem_cons.1 q with q | q
    · exact h.xy q
    · exact h.vx (by simpa using q)
  have hmD : mv ∉ y :: vg.ownBlock.toList := fun q => by
    rcases List.mem_cons.1 q with q | q
    · exact isMap_ne hrca.cl hmv q.symm
    · exact hrca.gcell hmv (by simpa using q)
  have hpD : ∀ m, mp' = some m → m ∉ y :: vg.ownBlock.toList := fun m e q => by
    rcases List.mem_cons.1 q with q | q
    · exact isMap_ne hrca.cl (hmp' m e) q.symm
    · exact hrca.gcell (hmp' m e) (by simpa using q)
  have hca2 := hca.more o2 hD hxD hmD hpD hne hinc hrb.lt
  have hyl : ∀ d ∈ y :: vg.ownBlock.toList, w0.heap.size ≤ d := by
    intro d hd
    rcases List.mem_cons.1 hd with rfl | hd
    · exact h.nx.2.2
    · exact h.ng d (by simpa using hd)
  have hyvs : ∀ m, (mv = m ∨ mp' = some m) → yv' ≠ m := fun m hm q => by
    rcases hyv' with e | e
    · rcases hm with rfl | hm
      · exact h.yy.1 (by rw [← e]; exact q)
      · rcases hnew m hm with k | k
        · exact h.yy.2 (by rw [k, ← q, e])
        · have := h.b.vm.lt
          omega
    · have h3 : m < w1.heap.size := by
        rcases hm with rfl | hm
        · exact hca.vm.lt
        · have := hca.pm; rw [hm] at this; exact this.lt
      omega
  refine ⟨r1, E', mp', J1', K1', yv', vg', J2', K2', nw2, rfl, by rw [hr], ⟨hca2, hrb, hs.symm, hz, by have := h.n1; omega, by have := h.n2; omega, ⟨hyvs mv (Or.inl rfl), fun q => hyvs yv' (Or.inr q) rfl⟩, ?_, h.xy, hon.then o2 (fun b hb => Or.inr (hyl b hb)), h.nx, fun m e => ?_, fun m e => ?_⟩⟩
  · intro q
    rcases hgv x q with k | k
    · exact h.vx k
    · have := hca.cl.lt
      omega
  · rcases hnew m e with k | k
    · exact h.np m k
    · exact Nat.le_trans h.on.size k
  · rcases hgv m e with k | k
    · exact h.ng m k
    · exact Nat.le_trans hon.size k
theorem DC.keep {w0 : World} {n : Nat} {E : List Nat} {x mv : Nat} {mp : Option Nat} {J1 : Vl} {K1 : Kl} {y yv : Nat} {vg : Value} {J2 : Vl} {K2 : Kl} {nw : Int} {wr w1 : World} (h : DC w0 n E x mv mp J1 K1 y yv vg J2 K2 nw wr) (o : Only [] wr w1) : DC w0 n E x mv mp J1 K1 y yv vg J2 K2 nw w1 :=
  ⟨h.a.keep o, h.b.keep o, h.s, h.z, h.n1, h.n2, h.yy, h.vx, h.xy, h.on.trans o, h.nx, h.np, h.ng⟩
theorem RCA.look {E : List Nat} {w : World} {y yv : Nat} {vg : Value} {J : Vl} {nw : Int} {K : Kl} (h : RCA E w y yv vg J nw K) : ∃ v, SvE w E v (viewOf (stC J nw K)) ∧ (viewOf (stC J nw K)).length ≤ 121 ∧ ∀ w', MapV w' (some yv) (mpJ J) → (Instr.lookup 58 (.map (some yv)) (.int .i64 nw) false).run Try.prog w' = .ok v w' := by
  have hw : In64V nw := in64V_of (by have := h.vo.pos; omega) (by have := h.vo.top; omega)
  by_cases hin : nw ∈ (mpJ J).map Prod.fst
  · rw [keys_mp] at hin
    obtain ⟨e, he, heb⟩ := List.mem_map.1 hin
    have hv : viewOf (stC J nw K) = e.2.2 := by
      unfold viewOf stC
      simp only
      rw [← heb, view_some h.vm.nodup he]
      rfl
    refine ⟨e.2.1, by rw [hv]; exact h.vo.at_ e he, by rw [hv]; exact h.vo.few e he, fun w' hm => ?_⟩
    have := hm.at_some Try.underlying58 zeroSeens (x := (e.1, e.2.1)) (by simp only; rw [heb]; exact hw) (List.mem_map_of_mem (f := fun e : Int × Value × List Sn => (e.1, e.2.1)) he)
    simp only [heb] at this
    exact this
  · have hv : viewOf (stC J nw K) = [] := by
      unfold viewOf stC
      simp only
      rw [view_none hin]
      rfl
    exact ⟨.slice none 0 0, by rw [hv]; exact ⟨⟨none, 0, rfl, Nat.le_refl _, fun j hj => by simp at hj⟩, fun n c e => by injection e with _ _ e; exact e.symm, fun a n c e => by cases e⟩, by rw [hv]; simp, fun w' hm => hm.at_none Try.underlying58 zeroSeens hw hin⟩
/-- A view of any step, or none. -/
theorem RCA.base {E : List Nat} {w : World} {y yv : Nat} {vg : Value} {J : Vl} {nw : Int} {K : Kl} (h : RCA E w y yv vg J nw K) {i : Int} (hi : In64V i) : ∃ v ok F, SvAt w v F ∧ F.length ≤ 121 ∧ ∀ w', MapV w' (some yv) (mpJ J) → (Instr.lookup 58 (.map (some yv)) (.int .i64 i) true).run Try.prog w' = .ok (.tuple #[v, .bool ok]) w' := by
  by_cases hin : i ∈ (mpJ J).map Prod.fst
  · rw [keys_mp] at hin
    obtain ⟨e, he, heb⟩ := List.mem_map.1 hin
    refine ⟨e.2.1, true, e.2.2, (h.vo.at_ e he).1, h.vo.few e he, fun w' hm => ?_⟩
    have := hm.look_some Try.underlying58 zeroSeens (x := (e.1, e.2.1)) (by simp only; rw [heb]; exact hi) (List.mem_map_of_mem (f := fun e : Int × Value × List Sn => (e.1, e.2.1)) he)
    simp only [heb] at this
    exact this
  · exact ⟨.slice none 0 0, false, [], ⟨none, 0, rfl, Nat.le_refl _, fun j hj => by simp at hj⟩, by simp, fun w' hm => hm.look_none Try.underlying58 zeroSeens hi hin⟩
theorem DC.lens {w0 : World} {n : Nat} {E : List Nat} {x mv : Nat} {mp : Option Nat} {J1 : Vl} {K1 : Kl} {y yv : Nat} {vg : Value} {J2 : Vl} {K2 : Kl} {nw : Int} {wr : World} (h : DC w0 n E x mv mp J1 K1 y yv vg J2 K2 nw wr) : (mpJ J1).length = (mpJ J2).length := by
  have := congrArg (fun s => s.views.length) h.s
  simp only [stC, vwJ, List.length_map] at this
  simpa [mpJ] using this
/-- Both are new. -/
theorem DC.start {w0 w1 w2 : World} {x mv y yv : Nat} {b : Option Addr} (hx : w0.heap.size ≤ x) (hm : w0.heap.size ≤ mv) (hc : ClAt w1 x (some mv) 0 0 0 0 none) (hv : MapV w1 (some mv) [(0, .slice b 0 0)]) (o1 : Only [] w0 w1) (hy : w1.heap.size ≤ y) (hyv : w1.heap.size ≤ yv) (hr : RcAt w2 y yv 0 (.slice none 0 0)) (hw : MapV w2 (some yv) [(0, .slice none 0 0)]) (o2 : Only [] w1 w2) (hb : b ≠ none ∨ True) :
    DC w0 1 [x, y] x mv none [(0, .slice b 0 0, [])] [] y yv (.slice none 0 0) [(0, .slice none 0 0, [])] [] 0 w2 := by
  have hc2 := hc.only o2 (by simp)
  have hv2 := hv.only o2 (by simp)
  have hxl := hc.lt
  have hml := hv.lt
  have h1 := o1.size
  have hlt : ∀ e ∈ [x, y], e < w2.heap.size := by
    intro e he
    simp only [List.mem_cons, List.not_mem_nil, or_false] at he
    rcases he with rfl | rfl
    · exact hc2.lt
    · exact hr.lt
  refine ⟨⟨hc2, hv2, ⟨?_, by simp, by simp, by omega, by omega⟩, rfl, fun _ => rfl, fun q => absurd rfl q, by simp, by simp, hlt, by simp, ⟨isMap_ne hc2 hv2.isMap, by simp, by simp⟩, CstOk.first 32 _⟩, ⟨hr, hw, ⟨?_, by simp, by simp, by omega, by omega⟩, World.ownsRow_nil _ _ _ _, fun b hb => (by cases hb), by simp, by simp, hlt, by simp, fun q => (by cases q), CstOk.first 32 _⟩, rfl, by simp, by simp, by simp, ⟨by omega, by simp⟩, fun q => (by cases q), by omega, o1.trans o2, ⟨hx, hm, by omega⟩, fun m e => (by cases e), fun m e => (by cases e)⟩
  · intro e he
    rw [List.mem_singleton.1 he]
    refine ⟨⟨b, 0, rfl, Nat.le_refl _, fun j hj => by simp at hj⟩, fun n c e => by injection e with _ _ e; exact e.symm, fun a n c e h0 => by injection e with _ e _; exact absurd e.symm h0⟩
  · intro e he
    rw [List.mem_singleton.1 he]
    exact ⟨⟨none, 0, rfl, Nat.le_refl _, fun j hj => by simp at hj⟩, fun n c e => by injection e with _ _ e; exact e.symm, fun a n c e => by cases e⟩
end Go.Proofs.Ytedhdmahdioboaa
/- gyrelaw.ClientPlays: what is sent, as it lies in memory. -/
namespace Go.Proofs.Ytedhdmahdioboaa
open Go.ChangeShapes Go.WideShapes Go.ChangeAt Go.RowKit
set_option linter.unusedVariables false
set_option linter.unusedSimpArgs false

/-- One that a client is fed. -/
structure Sd where
  (st ba ix mn : Int)
  tv : List Sn
  by_ : List Nat
  any : Bool
/-- A slice of them. -/
def SdAt (w : World) (al : Option Addr) (S : List Sd) : Prop := ∀ j (hj : j < S.length), ∃ g o at_ ct ab cb, al = some ⟨g, o, none⟩ ∧ (w.cell? ⟨g, o + j * 7, none⟩ = some (.int .i64 (S[j].st)) ∧ w.cell? ⟨g, o + j * 7 + 1, none⟩ = some (.int .i64 (S[j].ba)) ∧ w.cell? ⟨g, o + j * 7 + 2, none⟩ = some (.int .i64 (S[j].ix)) ∧ w.cell? ⟨g, o + j * 7 + 3, none⟩ = some (.int .i64 (S[j].mn)) ∧ w.cell? ⟨g, o + j * 7 + 4, none⟩ = some (.slice at_ S[j].tv.length ct) ∧ w.cell? ⟨g, o + j * 7 + 5, none⟩ = some (.slice ab S[j].by_.length cb) ∧ w.cell? ⟨g, o + j * 7 + 6, none⟩ = some (.bool S[j].any)) ∧
  SvAt w (.slice at_ S[j].tv.length ct) S[j].tv ∧ ByAt w ab S[j].by_ ∧ (ab = none → S[j].by_ = [] ∧ cb = 0) ∧ (∀ c ∈ S[j].by_, c < 256) ∧ In64V S[j].ba
/-- One in a block of its own. -/
def S7At (w : World) (k : Nat) (q : Sd) (vt vb : Value) : Prop := w.heap[k]? = some (.cells #[.int .i64 (q.st), .int .i64 (q.ba), .int .i64 (q.ix), .int .i64 (q.mn), vt, vb, .bool q.any] 55)
theorem S7At.cells {w : World} {k : Nat} {q : Sd} {vt vb : Value} (h : S7At w k q vt vb) : w.cell? ⟨k, 0, none⟩ = some (.int .i64 (q.st)) ∧ w.cell? ⟨k, 1, none⟩ = some (.int .i64 (q.ba)) ∧ w.cell? ⟨k, 2, none⟩ = some (.int .i64 (q.ix)) ∧ w.cell? ⟨k, 3, none⟩ = some (.int .i64 (q.mn)) ∧ w.cell? ⟨k, 4, none⟩ = some vt ∧ w.cell? ⟨k, 5, none⟩ = some vb ∧ w.cell? ⟨k, 6, none⟩ = some (.bool q.any) := by
  unfold S7At at h
  simp [World.cell?, h]
theorem S7At.lt {w : World} {k : Nat} {q : Sd} {vt vb : Value} (h : S7At w k q vt vb) : k < w.heap.size := (Array.getElem?_eq_some_iff.1 h).1
theorem S7At.only {D : List Nat} {w w' : World} {k : Nat} {q : Sd} {vt vb : Value} (h : S7At w k q vt vb) (o : Only D w w') (s : k ∉ D) : S7At w' k q vt vb := (o.block k h.lt s).trans h
theorem S7At.new (w : World) (q : Sd) (vt vb : Value) : S7At (w.alloc (.cells #[.int .i64 (q.st), .int .i64 (q.ba), .int .i64 (q.ix), .int .i64 (q.mn), vt, vb, .bool q.any] 55)) w.heap.size q vt vb ∧ Only [] w (w.alloc (.cells #[.int .i64 (q.st), .int .i64 (q.ba), .int .i64 (q.ix), .int .i64 (q.mn), vt, vb, .bool q.any] 55)) := ⟨(MapKept.heap_alloc w _).1, (Only.refl [] w).alloc _⟩
/-- Bytes that both clients may be fed. -/
def FedB (w0 wx : World) (ab : Option Addr) (cb : Nat) (L : List Nat) : Prop := ByAt wx ab L ∧ (ab = none → L = [] ∧ cb = 0) ∧ L.length ≤ 1500 ∧ (∀ c ∈ L, c < 256) ∧ FarB w0 wx ab L
theorem FarB.keep {w0 w w' : World} {ab : Option Addr} {L : List Nat} (h : FarB w0 w ab L) (o : Only [] w w') : FarB w0 w' ab L := fun g p e hL => (h g p e hL).imp id fun ⟨cur, f, hg⟩ => ⟨cur, f, (o.block g (Array.getElem?_eq_some_iff.1 hg).1 (by simp)).trans hg⟩
theorem FedB.keep {w0 w w' : World} {ab : Option Addr} {cb : Nat} {L : List Nat} (h : FedB w0 w ab cb L) (o : Only [] w w') : FedB w0 w' ab cb L := ⟨h.1.only o (by simp), h.2.1, h.2.2.1, h.2.2.2.1, h.2.2.2.2.keep o⟩
/-- The caller's bytes. -/
theorem FedB.arg {w0 w : World} {ab : Option Addr} {cb : Nat} {L : List Nat} (h : ByAt w0 ab L) (hn : ab = none → L = [] ∧ cb = 0) (hl : L.length ≤ 1500) (hs : ∀ c ∈ L, c < 256) (o : Only [] w0 w) : FedB w0 w ab cb L :=
  ⟨h.only o (by simp), hn, hl, hs, fun g p e hL => Or.inl (by
    obtain ⟨g', p', e', hc⟩ := h 0 (List.length_pos_iff.2 hL)
    rw [e] at e'
    injection e' with e'
    injection e' with e1 _ _
    subst e1
    exact World.block_lt_of_cell? _ _ hc)⟩
/-- Bytes of the document's own. -/
theorem FedB.own {w0 w : World} {v : Value} {L : List Nat} (h : SlB w v L) (hl : L.length ≤ 1500) (hs : ∀ c ∈ L, c < 256) : ∃ ab cb, v = .slice ab L.length cb ∧ FedB w0 w ab cb L := by
  obtain ⟨ab, cb, e, hb, hn⟩ := ownB_at h
  refine ⟨ab, cb, e, hb, hn, hl, hs, fun g p e2 hL => Or.inr ?_⟩
  obtain ⟨_, ⟨e3, h0⟩ | ⟨g3, cap, cur, e3, _, hg, _⟩⟩ := h
  · exact absurd (List.length_eq_zero_iff.1 h0) hL
  · rw [e, e2] at e3
    injection e3 with e3 _ _
    injection e3 with e3
    injection e3 with e4 _ _
    exact ⟨cur, (0, 0), by rw [e4]; exact hg⟩
theorem sameV_calls (u v : Value) (V : List Sn) (w : World) (hu : SvAt w u V) (hv : SvAt w v V) (hl : V.length ≤ 1000) : Calls Try.prog 22 #[u, v] w fun e w' => e = .returned (.bool true) ∧ Only [] w w' := by
  obtain ⟨a, c, rfl, _, h1⟩ := hu
  obtain ⟨b, d, rfl, _, h2⟩ := hv
  exact (sameView_calls a b V.length c d _ w hl h1 h2).mono fun e w' ⟨he, hk⟩ => ⟨he, Only.of_kept hk⟩
theorem remN (ti : Int) (n : Nat) (h1 : 1 ≤ n) (h2 : n ≤ 1000) : ∃ q : Nat, q < n ∧ wrap64 ((IntKind.u64.wrap ti).tmod (n : Int)) = (q : Int) := by
  have hu : 0 ≤ IntKind.u64.wrap ti := by show 0 ≤ ti % _; exact Int.emod_nonneg _ (by decide)
  have e1 : (IntKind.u64.wrap ti).tmod (n : Int) = IntKind.u64.wrap ti % (n : Int) := Int.tmod_eq_emod_of_nonneg hu
  have e2 := Int.emod_nonneg (IntKind.u64.wrap ti) (show (n : Int) ≠ 0 by omega)
  have e3 := Int.emod_lt_of_pos (IntKind.u64.wrap ti) (show (0 : Int) < (n : Int) by omega)
  have e4 : wrap64 ((IntKind.u64.wrap ti).tmod (n : Int)) = IntKind.u64.wrap ti % (n : Int) := by rw [e1]; unfold wrap64; omega
  exact ⟨(IntKind.u64.wrap ti % (n : Int)).toNat, by omega, by rw [e4]; omega⟩
/-- Both clients, whatever they have. -/
def Duo (w0 : World) (n x y : Nat) (wr : World) : Prop := ∃ E mv mp J1 K1 yv vg J2 K2 nw, DC w0 n E x mv mp J1 K1 y yv vg J2 K2 nw wr
theorem Duo.keep {w0 : World} {n x y : Nat} {wr w' : World} (h : Duo w0 n x y wr) (o : Only [] wr w') : Duo w0 n x y w' := by
  obtain ⟨E, mv, mp, J1, K1, yv, vg, J2, K2, nw, h⟩ := h
  exact ⟨E, mv, mp, J1, K1, yv, vg, J2, K2, nw, h.keep o⟩
theorem Duo.on {w0 : World} {n x y : Nat} {wr : World} (h : Duo w0 n x y wr) : Only [] w0 wr := by
  obtain ⟨E, mv, mp, J1, K1, yv, vg, J2, K2, nw, h⟩ := h
  exact h.on
set_option maxRecDepth 100000 in
set_option maxHeartbeats 4000000 in
theorem plays_long (al : Option Addr) (n c : Nat) (w : World) (h : 60 < n) : Calls Try.prog 4 #[.slice al n c] w fun e w' => e = .returned (.bool true) ∧ Only [] w w' := by
  have h1 : (60 : Int) < (n : Int) := by omega
  have h2 : decide ((60 : Int) < (n : Int)) = true := decide_eq_true h1
  go_enter Try.func4, Try.ntmps4
  go_wp2_with fail
  exact bodyPost_ret (v := .bool true) (by simp [results, Try.results4, go_sem]) rfl ⟨rfl, Only.refl _ _⟩
end Go.Proofs.Ytedhdmahdioboaa
/- Bytes in slices that are cut; wire.Cut: whichever step, base and bytes. -/
namespace Go.Proofs.Ytedhdmahdioboaa
open Go.ChangeShapes Go.WideShapes Go.ChangeAt Go.RowKit
set_option linter.unusedVariables false
set_option linter.unusedSimpArgs false

theorem only_setCells {D : List Nat} {b : Nat} (hb : b ∈ D) : ∀ (vs : List Value) (o : Nat) (a w : World), Only D a w → Only D a (w.setCells b o vs)
  | [], o, a, w, h => h
  | v :: vs, o, a, w, h => by
    rw [World.setCells]
    exact only_setCells hb vs (o + 1) a _ (h.setCell (p := ⟨b, o, none⟩) (Or.inl hb) v)
/-- A slice that holds these bytes. -/
def SB (w : World) (v : Value) (L : List Nat) : Prop := ∃ a c, v = .slice a L.length c ∧ L.length ≤ c ∧ ByAt w a L ∧ (a = none → L = [] ∧ c = 0)
/-- .. in a block other than g. -/
def SBn (w : World) (v : Value) (L : List Nat) (g : Nat) : Prop := ∃ a c, v = .slice a L.length c ∧ L.length ≤ c ∧ ByAt w a L ∧ (a = none → L = [] ∧ c = 0) ∧ ∀ b o, a = some ⟨b, o, none⟩ → L ≠ [] → b ≠ g
theorem SB.only {w w' : World} {v : Value} {L : List Nat} (h : SB w v L) (o : Only [] w w') : SB w' v L := by
  obtain ⟨a, c, e, h1, h2, h3⟩ := h
  exact ⟨a, c, e, h1, h2.only o (by simp), h3⟩
theorem SBn.only {w w' : World} {v : Value} {L : List Nat} {g : Nat} (h : SBn w v L g) (o : Only [g] w w') : SBn w' v L g := by
  obtain ⟨a, c, e, h1, h2, h3, h4⟩ := h
  exact ⟨a, c, e, h1, h2.only o (fun b p e hL => by simpa using h4 b p e hL), h3, h4⟩
theorem SBn.keep {w w' : World} {v : Value} {L : List Nat} {g : Nat} (h : SBn w v L g) (o : Only [] w w') : SBn w' v L g := h.only (o.mono (by simp))
theorem SBn.sb {w : World} {v : Value} {L : List Nat} {g : Nat} (h : SBn w v L g) : SB w v L := by
  obtain ⟨a, c, e, h1, h2, h3, _⟩ := h
  exact ⟨a, c, e, h1, h2, h3⟩
theorem SB.reads {w : World} {v : Value} {L : List Nat} (h : SB w v L) : ReadsAs w v L := by
  obtain ⟨a, c, rfl, _, h2, h3⟩ := h
  exact arg_reads h2 h3
theorem byAt_lt {w : World} {a : Option Addr} {L : List Nat} (h : ByAt w a L) {g o : Nat} (e : a = some ⟨g, o, none⟩) (hL : L ≠ []) : g < w.heap.size := by
  obtain ⟨g', o', e', hc⟩ := h 0 (by cases L with | nil => exact absurd rfl hL | cons x t => simp)
  rw [e] at e'; injection e' with e'; injection e' with e1 _ _
  rw [e1]; exact World.block_lt_of_cell? w _ hc
theorem ByAt.take {w : World} {a : Option Addr} {L : List Nat} (h : ByAt w a L) (k : Nat) : ByAt w a (L.take k) := fun j hj => by
  rw [List.length_take] at hj
  obtain ⟨g, o, e, hc⟩ := h j (by omega)
  refine ⟨g, o, e, ?_⟩
  rw [hc, List.getD_eq_getElem?_getD, List.getD_eq_getElem?_getD, List.getElem?_take, if_pos (by omega)]
def fromA (a : Option Addr) (c k : Nat) : Option Addr := if c = k then a else a.map (·.add k)
theorem ByAt.drop {w : World} {a : Option Addr} {L : List Nat} (h : ByAt w a L) {c k : Nat} (hc : L.length ≤ c) : ByAt w (fromA a c k) (L.drop k) := fun j hj => by
  rw [List.length_drop] at hj
  obtain ⟨g, o, rfl, hcell⟩ := h (k + j) (by omega)
  refine ⟨g, o + k, ?_, ?_⟩
  · unfold fromA
    rw [if_neg (by omega), Option.map_some, Addr.add_mid]
  · rw [List.getD_eq_getElem?_getD, List.getElem?_drop, ← List.getD_eq_getElem?_getD, ← hcell, Nat.add_assoc]
theorem add_zero' (a : Addr) : a.add 0 = a := by unfold Addr.add; simp
theorem run_to {ρ : Operand → Value} {o : Oper} {x y : Operand} {a : Option Addr} {n c k : Nat} {w : World} (ho : o.op = .slice 53 x none (some y) none) (hx : ρ x = .slice a n c) (hy : ρ y = .int .i64 (k : Int)) (hk : k ≤ c) :
    (execOp ρ o).run Try.prog w = .ok (.value (.slice a k c)) w := by
  have hk' : (k : Int) ≤ (c : Int) := by omega
  have e : (if c = 0 then a else a.map (·.add (0 * 1))) = a := by
    split
    · rfl
    · cases a <;> simp [add_zero']
  unfold execOp
  rw [ho]
  simp only [hx, hy]
  go_simp
  try simp [add_zero']
  try (cases a <;> simp [add_zero'])
theorem run_from {ρ : Operand → Value} {o : Oper} {x y : Operand} {a : Option Addr} {n c k : Nat} {w : World} (ho : o.op = .slice 53 x (some y) none none) (hx : ρ x = .slice a n c) (hy : ρ y = .int .i64 (k : Int)) (hk : k ≤ n) :
    (execOp ρ o).run Try.prog w = .ok (.value (.slice (fromA a c k) (n - k) (c - k))) w := by
  have hk' : (k : Int) ≤ (n : Int) := by omega
  unfold execOp
  rw [ho]
  simp only [hx, hy]
  go_simp
  try rfl
theorem wpList_to {ops : Array Oper} {rest : List Oper} {o : Oper} {ac : Act} {w : World} {Q : Exit → Act → World → Prop} (hg : o.guard = none) (x y : Operand) (a : Option Addr) (n c k : Nat) (ho : o.op = .slice 53 x none (some y) none) (hx : ac.eval x = .slice a n c) (hy : ac.eval y = .int .i64 (k : Int)) (hk : k ≤ c)
    (h : wpList Try.prog ops Q rest (ac.put o.dst (.slice a k c)) w) : wpList Try.prog ops Q (o :: rest) ac w := by
  refine wpList_plain hg fun K hK => ?_
  unfold Oper.wp
  rw [run_to ho hx hy hk, Oper.upon_value]
  exact hK _ _ h
theorem wpList_from {ops : Array Oper} {rest : List Oper} {o : Oper} {ac : Act} {w : World} {Q : Exit → Act → World → Prop} (hg : o.guard = none) (x y : Operand) (a : Option Addr) (n c k : Nat) (ho : o.op = .slice 53 x (some y) none none) (hx : ac.eval x = .slice a n c) (hy : ac.eval y = .int .i64 (k : Int)) (hk : k ≤ n)
    (h : wpList Try.prog ops Q rest (ac.put o.dst (.slice (fromA a c k) (n - k) (c - k))) w) : wpList Try.prog ops Q (o :: rest) ac w := by
  refine wpList_plain hg fun K hK => ?_
  unfold Oper.wp
  rw [run_from ho hx hy hk, Oper.upon_value]
  exact hK _ _ h
/-- bytes.Clone of whatever slice. -/
theorem cloneS_calls (a : Option Addr) (c : Nat) (L : List Nat) (w : World) (hl : L.length ≤ 100000) (h : ByAt w a L) (hn : a = none → L = [] ∧ c = 0) :
    Calls Try.prog 107 #[.slice a L.length c] w fun e w' => ∃ v, e = .returned v ∧ (∀ g, g < w.heap.size → SBn w' v L g) ∧ Only [] w w' := by
  cases a with
  | none =>
    obtain ⟨rfl, rfl⟩ := hn rfl
    refine (clone_nil w).mono ?_
    rintro e w' ⟨rfl, rfl⟩
    exact ⟨_, rfl, fun g _ => ⟨none, 0, rfl, Nat.le_refl _, fun j hj => by simp at hj, fun _ => ⟨rfl, rfl⟩, by simp⟩, Only.refl _ _⟩
  | some ad =>
    have hh : ∀ j, j < L.length → w.cell? (ad.add j) = some (.int .u8 ((L.getD j 0 : Nat) : Int)) := fun j hj => by
      obtain ⟨g, o, e, hc⟩ := h j hj
      injection e with e
      subst e
      rw [Addr.add_mid]; exact hc
    refine (cloneA_calls ad c L w hl hh).mono ?_
    rintro e w' ⟨v, rfl, ⟨g, cc, rfl, h2, h3, h4, h5⟩, o1⟩
    exact ⟨_, rfl, fun g' hg' => ⟨_, _, rfl, h5, h4, fun e => (by cases e), fun b o e _ => by injection e with e; injection e with e1 _ _; omega⟩, o1⟩
def chunk (L : List Nat) (j : Nat) : List Nat := (L.drop (100 * j)).take 100
def manyM (L : List Nat) : Nat := max 1 ((L.length + 99) / 100)
/-- Pieces, as far as they are cut. -/
def PcsAt (w : World) (gl M : Nat) (st ba : Int) (L : List Nat) (i : Nat) : Prop :=
  w.there gl 0 (5 * M) ∧ ∀ j, j < i → ∃ v, w.rangeAt gl (j * 5) [.int .i64 st, .int .i64 ba, .int .i64 ((j : Int)), .int .i64 ((M : Int)), v] ∧ SBn w v (chunk L j) gl
theorem PcsAt.lt {w : World} {gl M : Nat} {st ba : Int} {L : List Nat} {i : Nat} (h : PcsAt w gl M st ba L i) (hM : 0 < M) : gl < w.heap.size := by
  obtain ⟨u, hu⟩ := Option.isSome_iff_exists.1 (h.1 0 (by omega)).1
  exact World.block_lt_of_cell? w _ hu
theorem PcsAt.keep {w w' : World} {gl M : Nat} {st ba : Int} {L : List Nat} {i : Nat} (h : PcsAt w gl M st ba L i) (o : Only [] w w') : PcsAt w' gl M st ba L i := by
  refine ⟨fun j hj => ?_, fun j hj => ?_⟩
  · obtain ⟨h1, h2⟩ := h.1 j hj
    obtain ⟨u, hu⟩ := Option.isSome_iff_exists.1 h1
    refine ⟨by rw [o.cell hu (by simp)]; rfl, ?_⟩
    have hb := o.block gl (World.block_lt_of_cell? w _ hu) (by simp)
    rw [← h2]; simp only [World.frozen?, hb]
  · obtain ⟨v, hr, hs⟩ := h.2 j hj
    exact ⟨v, fun k u hk => o.cell (hr k u hk) (by simp), hs.keep o⟩
theorem PcsAt.put {w : World} {gl M : Nat} {st ba : Int} {L : List Nat} {i : Nat} {v : Value} (h : PcsAt w gl M st ba L i) (hi : i < M) (hv : SBn w v (chunk L i) gl) : PcsAt (w.setCells gl (i * 5) [.int .i64 st, .int .i64 ba, .int .i64 ((i : Int)), .int .i64 ((M : Int)), v]) gl M st ba L (i + 1) := by
  have o : Only [gl] w (w.setCells gl (i * 5) [.int .i64 st, .int .i64 ba, .int .i64 ((i : Int)), .int .i64 ((M : Int)), v]) := only_setCells (by simp) _ _ _ _ (Only.refl _ _)
  have ht : w.there gl (i * 5) 5 := fun j hj => by have := h.1 (i * 5 + j) (by omega); rw [Nat.zero_add] at this; exact this
  refine ⟨World.there_setCells h.1 _ _ _, fun j hj => ?_⟩
  by_cases e : j = i
  · subst e
    exact ⟨v, World.rangeAt_setCells_same w gl (j * 5) _ ht, hv.only o⟩
  · obtain ⟨u, hr, hs⟩ := h.2 j (by omega)
    exact ⟨u, World.rangeAt_setCells_apart hr _ _ _ (Or.inr (Or.inl (by simp; omega))), hs.only o⟩
def CutPost (st ba : Int) (L : List Nat) (w : World) (e : Ending) (w' : World) : Prop :=
  Only [] w w' ∧ ((followM st ba = false ∧ e = .returned (.tuple #[.slice none 0 0, errV 2])) ∨ (followM st ba = true ∧ 4000 < L.length ∧ e = .returned (.tuple #[.slice none 0 0, errV 4])) ∨
    (followM st ba = true ∧ L.length ≤ 4000 ∧ ∃ gl, e = .returned (.tuple #[.slice (some ⟨gl, 0, none⟩) (manyM L) (manyM L), .nilIface]) ∧ w.heap.size ≤ gl ∧ PcsAt w' gl (manyM L) st ba L (manyM L)))
theorem pieceInfo : (Try.prog.info? 121).map (fun i => (i.zero, i.size, i.bytes)) = some (some (.agg #[.int .i64 0, .int .i64 0, .int .i64 0, .int .i64 0, .slice none 0 0]), 5, 56) := by kernel_rfl
end Go.Proofs.Ytedhdmahdioboaa
/- Part of a slice of bytes; how long a piece's bytes are. -/
namespace Go.Proofs.Ytedhdmahdioboaa
open Go.ChangeShapes Go.WideShapes Go.ChangeAt Go.RowKit
set_option linter.unusedVariables false
set_option linter.unusedSimpArgs false

theorem run_mid {ρ : Operand → Value} {o : Oper} {x y z : Operand} {a : Option Addr} {n c lo hi : Nat} {w : World} (ho : o.op = .slice 53 x (some y) (some z) none) (hx : ρ x = .slice a n c) (hy : ρ y = .int .i64 (lo : Int)) (hz : ρ z = .int .i64 (hi : Int)) (h1 : lo ≤ hi) (h2 : hi ≤ c) :
    (execOp ρ o).run Try.prog w = .ok (.value (.slice (fromA a c lo) (hi - lo) (c - lo))) w := by
  have h1' : (lo : Int) ≤ (hi : Int) := by omega
  have h2' : (hi : Int) ≤ (c : Int) := by omega
  unfold execOp
  rw [ho]
  simp only [hx, hy, hz]
  go_simp
  try rfl
theorem wpList_midB {ops : Array Oper} {rest : List Oper} {o : Oper} {ac : Act} {w : World} {Q : Exit → Act → World → Prop} (hg : o.guard = none) (x y z : Operand) (a : Option Addr) (n c lo hi : Nat) (ho : o.op = .slice 53 x (some y) (some z) none) (hx : ac.eval x = .slice a n c) (hy : ac.eval y = .int .i64 (lo : Int)) (hz : ac.eval z = .int .i64 (hi : Int)) (h1 : lo ≤ hi) (h2 : hi ≤ c)
    (h : wpList Try.prog ops Q rest (ac.put o.dst (.slice (fromA a c lo) (hi - lo) (c - lo))) w) : wpList Try.prog ops Q (o :: rest) ac w := by
  refine wpList_plain hg fun K hK => ?_
  unfold Oper.wp
  rw [run_mid ho hx hy hz h1 h2, Oper.upon_value]
  exact hK _ _ h
theorem tellT_len (p : Pc) (B : List Nat) (ok : tellOk p B.length) : (tellT p B).length ≤ 2000 := by
  obtain ⟨o1, o2, o3, o4⟩ := ok
  have h1 := varsB_len [p.st, p.ba] (fun n hn => by simp at hn; unfold badVar; rcases hn with rfl | rfl <;> omega)
  have h2 := putsB_len 6 [p.mn, p.ix]
  have h3 := putsB_len 7 [(B.length : Int)]
  have h4 := putsB_len 8 (B.map (fun c : Nat => (c : Int)))
  unfold tellT
  simp only [List.length_append]
  simp at h1 h2 h3 h4
  omega
end Go.Proofs.Ytedhdmahdioboaa
