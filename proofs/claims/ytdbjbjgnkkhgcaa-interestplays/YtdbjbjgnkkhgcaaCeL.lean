/- Looks of gyrelaw in memory; a grid and a list of bodies side by side: plain facts. -/
import Derived.Test.YtdbjbjgnkkhgcaaCee
import Derived.Test.YtdbjbjgnkkhgcaaGeo11
import Derived.Test.YtdbjbjgnkkhgcaaWpc
import Derived.Lib.SmallJoins
import Derived.Carry
import Derived.Deep.Slices
import Derived.WalkKit
import Derived.ProofKit
import Derived.OpenShut
namespace Go.Proofs.Ytdbjbjgnkkhgcaa
open Go.ChangeShapes Go.WideShapes Go.ChangeAt Go.RowKit
set_option linter.unusedVariables false
set_option linter.unusedSimpArgs false
set_option linter.unusedSectionVars false
variable [DecidableEq Cel]

structure Lk where
  wt : Int
  q : Bd
  (ex ey ez ef et : Int)
def lkL (k : Lk) : List Value := [.int .i64 (k.wt), .int .i64 (k.q.id), .int .i64 (k.q.ow), .int .i64 (k.q.kd), .int .i64 (k.q.sx), .int .i64 (k.q.sy), .int .i64 (k.q.sz), .int .i64 (k.q.ax), .int .i64 (k.q.ay), .int .i64 (k.q.az), .int .i64 (k.q.vx), .int .i64 (k.q.vy), .int .i64 (k.q.vz), .int .i64 (k.q.px), .int .i64 (k.q.py), .int .i64 (k.q.pz), .int .i64 (k.q.ms), .int .i64 (k.q.tm), .int .i64 (k.ex), .int .i64 (k.ey), .int .i64 (k.ez), .int .i64 (k.ef), .int .i64 (k.et)]
def LksAt (w : World) (a : Option Addr) (n : Nat) (L : Nat → Lk) : Prop := ∀ j, j < n → In64V (L j).q.id ∧ ∃ g o, a = some ⟨g, o, none⟩ ∧ w.rangeAt g (o + j * 23) (lkL (L j))
def LkAt (w : World) (kx : Nat) (k : Lk) : Prop := w.heap[kx]? = some (.cells (lkL k).toArray 35)
theorem LkAt.lt {w : World} {kx : Nat} {k : Lk} (h : LkAt w kx k) : kx < w.heap.size := (Array.getElem?_eq_some_iff.1 h).1
theorem LkAt.only {D : List Nat} {w w' : World} {kx : Nat} {k : Lk} (h : LkAt w kx k) (o : Only D w w') (s : kx ∉ D) : LkAt w' kx k := (o.block kx h.lt s).trans h
theorem LkAt.off {w : World} {kx : Nat} {k : Lk} (h : LkAt w kx k) (j : Nat) : w.cell? ⟨kx, j, none⟩ = (lkL k)[j]? := by
  unfold LkAt at h; simp [World.cell?, h]
theorem LkAt.body {w : World} {kx : Nat} {k : Lk} (h : LkAt w kx k) : w.rangeAt kx 1 (bdL k.q) := fun j v hv => by
  rw [h.off (1 + j)]
  have hj : j < 17 := by have := (List.getElem?_eq_some_iff.1 hv).1; rw [bdL_len] at this; exact this
  rw [← hv]
  match j, hj with
  | 0, _ => rfl
  | 1, _ => rfl
  | 2, _ => rfl
  | 3, _ => rfl
  | 4, _ => rfl
  | 5, _ => rfl
  | 6, _ => rfl
  | 7, _ => rfl
  | 8, _ => rfl
  | 9, _ => rfl
  | 10, _ => rfl
  | 11, _ => rfl
  | 12, _ => rfl
  | 13, _ => rfl
  | 14, _ => rfl
  | 15, _ => rfl
  | 16, _ => rfl
  | j + 17, h => exact absurd h (by omega)
theorem lookSize : (Try.prog.info? 35).map (·.size) = some 23 := by kernel_rfl
theorem oneLk (k : Lk) : (lkL k).toArray.all (·.oneCell') = true := all_oneCell_toArray (fun v hv => by
  simp only [lkL, List.mem_cons, List.not_mem_nil, or_false] at hv
  rcases hv with rfl | rfl | rfl | rfl | rfl | rfl | rfl | rfl | rfl | rfl | rfl | rfl | rfl | rfl | rfl | rfl | rfl | rfl | rfl | rfl | rfl | rfl | rfl <;> rfl)
theorem fill_newL (w : World) (t : TypeId) : ∀ (cs zs pre : List Value), zs.length = cs.length → (w.alloc (.cells (pre ++ zs).toArray t)).setCells w.heap.size pre.length cs = w.alloc (.cells (pre ++ cs).toArray t)
  | [], zs, pre, h => by simp [List.length_eq_zero_iff.1 h, World.setCells]
  | c :: cs, [], pre, h => by simp at h
  | c :: cs, z :: zs, pre, h => by
    rw [World.setCells, World.setCell_alloc_new]
    have e : (pre ++ z :: zs).toArray.setIfInBounds pre.length c = ((pre ++ [c]) ++ zs).toArray := by simp
    rw [e]
    have := fill_newL w t cs zs (pre ++ [c]) (by simpa using h)
    simpa using this
theorem fill_look (w : World) (t : TypeId) (cs : List Value) (zs : Array Value) (h : zs.size = cs.length) : (w.alloc (.cells zs t)).setCells w.heap.size 0 cs = w.alloc (.cells cs.toArray t) := by
  have := fill_newL w t cs zs.toList [] (by simpa using h)
  simpa using this
theorem thereNewL (w : World) (t : TypeId) (zs : Array Value) (n : Nat) (hs : zs.size = n) : (w.alloc (.cells zs t)).there w.heap.size 0 n := fun j hj => by
  have h1 : j < zs.size := by omega
  rw [World.cell?_alloc_at _ _ _ _ rfl, World.frozen?_alloc_at _ _ _ _ rfl]
  simp [h1]
def zeroLk : Array Value := #[.int .i64 0, .int .i64 0, .int .i64 0, .int .i64 0, .int .i64 0, .int .i64 0, .int .i64 0, .int .i64 0, .int .i64 0, .int .i64 0, .int .i64 0, .int .i64 0, .int .i64 0, .int .i64 0, .int .i64 0, .int .i64 0, .int .i64 0, .int .i64 0, .int .i64 0, .int .i64 0, .int .i64 0, .int .i64 0, .int .i64 0]
theorem run_newLk (ρ : Operand → Value) (o : Oper) (w : World) (h : o.op = .alloc 35) : (execOp ρ o).run Try.prog w = .ok (.value (.pointer (some ⟨w.heap.size, 0, none⟩))) (w.alloc (.cells zeroLk 35)) := by
  unfold execOp
  rw [h]
  go_simp
  rfl
theorem wpList_newLk {ops : Array Oper} {rest : List Oper} {o1 o2 : Oper} {a : Act} {w : World} {Q : Exit → Act → World → Prop} (k : Lk) (g1 : o1.guard = none) (g2 : o2.guard = none) (h1 : o1.op = .alloc 35) (d1 : o1.dst = some 6) (h2 : o2.op = .store 35 (.tmp 6) (.tmp 25)) (d2 : o2.dst = none)
    (hx : ∀ v, (a.put (some 6) v).eval (.tmp 6) = v) (hy : ∀ v, (a.put (some 6) v).eval (.tmp 25) = .agg (lkL k).toArray)
    (h : wpList Try.prog ops Q rest (a.put (some 6) (.pointer (some ⟨w.heap.size, 0, none⟩))) (w.alloc (.cells (lkL k).toArray 35))) : wpList Try.prog ops Q (o1 :: o2 :: rest) a w := by
  refine wpList_plain g1 fun K hK => ?_
  unfold Oper.wp
  rw [run_newLk _ _ _ h1, Oper.upon_value, d1]
  refine hK _ _ ?_
  refine wpList_store_mid g2 35 (.tmp 6) (.tmp 25) h2 w.heap.size 0 (lkL k).toArray (hx _) (hy _) (thereNewL w _ _ 23 rfl) lookSize (oneLk k) ?_
  have e := fill_look w 35 (lkL k) zeroLk rfl
  have e2 : (lkL k).toArray.toList = lkL k := by simp
  rw [d2, e2, e]
  exact h
/-- A body's cell and spot. -/
def ent (q : Bd) : Cel × Spt := (cellB q, spotOf q)
theorem seen_ent (xs : List Bd) (ax ay az far tm : Int) (hf : 0 ≤ far) : seenG (xs.map ent) ⟨sub ax far, sub ay far, sub az far, add ax far, add ay far, add az far⟩ tm = seenR xs ax ay az far tm := by
  unfold seenG seenR
  rw [List.filter_map, List.map_map]
  have : (xs.filter ((fun p : Cel × Spt => seenB ⟨sub ax far, sub ay far, sub az far, add ax far, add ay far, add az far⟩ tm p.2) ∘ ent)) = xs.filter (seesB ax ay az far tm) := by
    apply List.filter_congr
    intro q _
    simp only [Function.comp, ent, seesB, sightB, decide_eq_true (show far ≥ 0 from hf), Bool.true_and]
  rw [this]
  rfl
theorem seenR_none (xs : List Bd) (ax ay az far tm : Int) (hf : far < 0) : seenR xs ax ay az far tm = [] := by
  unfold seenR
  have : xs.filter (seesB ax ay az far tm) = [] := by
    rw [List.filter_eq_nil_iff]
    intro q _
    simp only [seesB, decide_eq_false (show ¬ far ≥ 0 by omega), Bool.false_and]
    simp
  rw [this]; rfl
theorem sees_all (x : Nat) (D : List Nat) (xs : List Bd) (ax ay az far tm : Int) (w : World) (h : GridOf w x D (xs.map ent)) :
    Calls Try.prog 11 #[.pointer (some ⟨x, 0, none⟩), .agg #[.int .i64 ax, .int .i64 ay, .int .i64 az, .int .i64 far, .int .i64 tm]] w (SeesPost w (seenR xs ax ay az far tm)) := by
  by_cases hf : 0 ≤ far
  · rw [← seen_ent xs ax ay az far tm hf]; exact sees_calls x D _ ax ay az far tm w h hf
  · rw [seenR_none xs ax ay az far tm (by omega)]; exact sees_none x ax ay az far tm w (by omega)
theorem ent_filter (xs : List Bd) (i : Int) : (xs.map ent).filter (fun p => p.2.id != i) = (xs.filter fun q => q.id != i).map ent := by
  rw [List.filter_map]; rfl
/-- A body whose shape may be, at a place within the world. -/
def clB (q : Bd) : Bd := { q with ax := cl 65536000 q.ax, ay := cl 65536000 q.ay, az := cl 65536000 q.az }
theorem sub_small {p h : Int} (hp : -65536000 ≤ p ∧ p ≤ 65536000) (hh : 0 ≤ h ∧ h ≤ 3276800) : sub p h = p - h ∧ add p h = p + h := by
  unfold sub add
  rw [cut_in (n := p) (by omega) (by omega), cut_in (n := h) (by omega) (by omega), cut_in (by omega) (by omega), cut_in (by omega) (by omega)]
  exact ⟨rfl, rfl⟩
theorem home_clB (q : Bd) (h : rightB q.kd q.sx q.sy q.sz = true) : Home (cellB (clB q)) (spotOf (clB q)) := by
  have bx := cl_both' q.ax
  have by_ := cl_both' q.ay
  have bz := cl_both' q.az
  rw [rightB_iff] at h
  have h1 : 0 ≤ q.sx ∧ q.sx ≤ 3276800 := by omega
  have h2 : 0 ≤ hf q.kd q.sx q.sy ∧ hf q.kd q.sx q.sy ≤ 3276800 := by unfold hf; split <;> omega
  have h3 : 0 ≤ hf q.kd q.sx q.sz ∧ hf q.kd q.sx q.sz ≤ 3276800 := by unfold hf; split <;> omega
  refine ⟨cl 65536000 q.ax, cl 65536000 q.ay, cl 65536000 q.az, q.sx, hf q.kd q.sx q.sy, hf q.kd q.sx q.sz, bx, by_, bz, h1, h2, h3, rfl, ?_⟩
  have e1 := sub_small bx h1
  have e2 := sub_small by_ h2
  have e3 := sub_small bz h3
  simp only [spotOf, clB, e1.1, e1.2, e2.1, e2.2, e3.1, e3.2]
/-- A grid's blocks hold no bodies. -/
theorem grid_apart {w : World} {x : Nat} {D : List Nat} {G : List (Cel × Spt)} {v : Value} {xs : List Bd} (h : GridOf w x D G) (s : SlBd w v xs) : ∀ b ∈ D, b ∉ ownL v := by
  obtain ⟨mc, mh, L, h1, rfl, _⟩ := h
  intro b hb hv
  obtain ⟨_, ⟨rfl, _⟩ | ⟨g, cap, cur, rfl, _, hg, _⟩⟩ := s
  · simp [ownL, Value.ownBlock] at hv
  · simp only [ownL, Value.ownBlock, Option.toList_some, List.mem_singleton] at hv
    subst hv
    simp only [gridD, List.mem_cons, List.mem_map] at hb
    rcases hb with rfl | rfl | rfl | ⟨e, he, rfl⟩
    · rw [h1.at_] at hg; injection hg with hg; injection hg with _ hg _; exact absurd hg (by decide)
    · obtain ⟨_, ⟨es, clock, hb, _⟩, _⟩ := h1.cells; rw [hb] at hg; injection hg with hg; cases hg
    · obtain ⟨_, ⟨es, clock, hb, _⟩, _⟩ := h1.homes; rw [hb] at hg; injection hg with hg; cases hg
    · obtain ⟨cur', hb, _⟩ := h1.rows e he; rw [hb] at hg; injection hg with hg; injection hg with _ hg _; exact absurd hg (by decide)
/-- The grid and the list. -/
def InI (w : World) (x : Nat) (v : Value) (xs : List Bd) (wr : World) : Prop := ∃ D, GridOf wr x D (xs.map ent) ∧ SlBd wr v xs ∧ Only [] w wr ∧ (∀ b ∈ D, w.heap.size ≤ b) ∧ ∀ b ∈ ownL v, w.heap.size ≤ b
theorem InI.only {w : World} {x : Nat} {v : Value} {xs : List Bd} {wr wr' : World} (h : InI w x v xs wr) (o : Only [] wr wr') : InI w x v xs wr' := by
  obtain ⟨D, h1, h2, h3, h4, h5⟩ := h
  exact ⟨D, h1.only o (by simp), h2.kept o (by simp), h3.trans o, h4, h5⟩
theorem one_bdL (q : Bd) : ∀ u ∈ bdL q, u.oneCell' = true := by
  intro u hu
  simp only [bdL, List.mem_cons, List.not_mem_nil, or_false] at hu
  rcases hu with rfl | rfl | rfl | rfl | rfl | rfl | rfl | rfl | rfl | rfl | rfl | rfl | rfl | rfl | rfl | rfl | rfl <;> rfl
/-- append of one body that lies in a block of its own. -/
theorem wpList_appendBd {ops : Array Oper} {rest : List Oper} {o : Oper} {a : Act} {w : World} {Q : Exit → Act → World → Prop} (hgd : o.guard = none) (s x : Operand) (ho : o.op = .call { callee := .builtin .append, args := #[s, x], argTypes := #[25, 25] })
    (v : Value) (ys : List Bd) (hs : a.eval s = v) (hown : SlBd w v ys) (p : Bd) (nb : Nat) (hx : a.eval x = .slice (some ⟨nb, 0, none⟩) 1 1) (hnb : BdAt w nb p) (hl : ys.length ≤ 1000)
    (h : ∀ v' w', SlBd w' v' (ys ++ [p]) → Only (ownL v) w w' → (∀ b ∈ ownL v', b ∈ ownL v ∨ w.heap.size ≤ b) → wpList Try.prog ops Q rest (a.put o.dst v') w') : wpList Try.prog ops Q (o :: rest) a w := by
  obtain ⟨i0, hi0, hz0, hz1, hz2⟩ := info_parts bodyInfo
  refine wpList_append_own_at _ hgd s x 25 ho 0 31 i0 _ 17 136 Try.underlying25 hi0 hz0 hz1 hz2 rfl (by decide) v ys.length (ys.flatMap bdL) hs hown ⟨nb, 0, none⟩ 1 1 (bdL p) hx rfl (fun j u hj => ?_) (one_bdL p) (by unfold maxLen; omega) (by omega) (Nat.zero_le _) ?_
  · have ea : (⟨nb, 0, none⟩ : Addr).add j = ⟨nb, j, none⟩ := by unfold Addr.add; split <;> simp_all
    rw [ea, hnb.off j, ← hj]
    rw [List.getElem?_toArray]; rfl
  · intro v' w' h1 h2 _ h4
    refine h v' w' ?_ ?_ ?_
    · show World.ownsRow _ _ _ _ _ _ _
      rw [List.length_append, List.flatMap_append, List.flatMap_singleton]; exact h1
    · exact (Only.refl _ _).grown h2 (fun k hk => Or.inl (by simp [ownL, hk]))
    · intro b hb
      unfold ownL at hb ⊢
      rw [Option.mem_toList] at hb ⊢
      rcases h4 with h4 | h4
      · exact Or.inl (h4 ▸ hb)
      · rw [hb] at h4; injection h4 with h4; right; omega
/-- .. nor other blocks of cells than grids and spots. -/
theorem grid_out {w : World} {x : Nat} {D : List Nat} {G : List (Cel × Spt)} (h : GridOf w x D G) {b : Nat} {cur : Array Value} {t : TypeId} (hb : w.heap[b]? = some (.cells cur t)) (h1 : t ≠ 49) (h2 : t ≠ 61) : b ∉ D := by
  obtain ⟨mc, mh, L, hg, rfl, _⟩ := h
  intro hd
  simp only [gridD, List.mem_cons, List.mem_map] at hd
  rcases hd with rfl | rfl | rfl | ⟨e, he, rfl⟩
  · rw [hg.at_] at hb; injection hb with hb; injection hb with _ hb _; exact h1 hb.symm
  · obtain ⟨_, ⟨es, clock, hq, _⟩, _⟩ := hg.cells; rw [hq] at hb; injection hb with hb; cases hb
  · obtain ⟨_, ⟨es, clock, hq, _⟩, _⟩ := hg.homes; rw [hq] at hb; injection hb with hb; cases hb
  · obtain ⟨cur', hq, _⟩ := hg.rows e he; rw [hq] at hb; injection hb with hb; injection hb with _ hb _; exact h2 hb.symm
theorem many_all (x : Nat) (D : List Nat) (xs : List Bd) (w : World) (h : GridOf w x D (xs.map ent)) : Calls Try.prog 9 #[.pointer (some ⟨x, 0, none⟩)] w fun e w' => e = .returned (.int .i64 ((xs.length : Int))) ∧ Only [] w w' := by
  have := gmany_calls x D _ w h
  rw [List.length_map] at this
  exact this
def InF (w : World) (x : Nat) (kx : Nat) (k : Lk) (v : Value) (zs : List Bd) (i : Nat) (W : World) : Prop := InI w x v zs W ∧ LkAt W kx k ∧ zs.length ≤ i + 1 ∧ zs.length ≤ 80
theorem InF.only {w : World} {x kx : Nat} {k : Lk} {v : Value} {zs : List Bd} {i : Nat} {W W' : World} (h : InF w x kx k v zs i W) (o : Only [] W W') : InF w x kx k v zs i W' := ⟨h.1.only o, h.2.1.only o (by simp), h.2.2⟩
end Go.Proofs.Ytdbjbjgnkkhgcaa
/- gyrelaw.InterestPlays: its walk. -/
namespace Go.Proofs.Ytdbjbjgnkkhgcaa
open Go.ChangeShapes Go.WideShapes Go.ChangeAt Go.RowKit
set_option linter.unusedVariables false
set_option linter.unusedSimpArgs false

theorem interestPlays_long (a : Option Addr) (n cap : Nat) (w : World) (h : 80 < n) : Calls Try.prog 3 #[.slice a n cap] w fun e w' => e = .returned (.bool true) ∧ Only [] w w' := by
  have hl : (80 : Int) < (n : Int) := by omega
  go_enter Try.func3, Try.ntmps3
  go_wp2_with fail
  go_ret
  exact ⟨rfl, Only.refl _ _⟩
set_option maxRecDepth 1000000 in
set_option maxHeartbeats 8000000 in
theorem interestPlays_calls (a : Option Addr) (n cap : Nat) (L : Nat → Lk) (w : World) (h : LksAt w a n L) (hn : n ≤ 80) :
    Calls Try.prog 3 #[.slice a n cap] w fun e w' => e = .returned (.bool true) ∧ Only [] w w' := by
  haveI : DecidableEq Cel := fun a b => Classical.propDecidable (a = b)
  have HL : Hid (LksAt w a n L ∧ n ≤ 80) := ⟨h, hn⟩
  have hn1 : ¬ (80 : Int) < (n : Int) := by omega
  clear h
  go_enter Try.func3, Try.ntmps3
  go_wp2_with (first | (go_at_call 4; refine (gnew_calls w).mono ?_; rintro e w1 ⟨x, D, rfl, hG, o1, hD⟩))
  have H0 : Hid (InI w x (.slice none 0 0) [] w1) := ⟨D, hG, SlBd.nil w1, o1, hD, by simp [ownL, Value.ownBlock]⟩
  clear hG o1 hD hn1
  go_loopg [4, 5] (n + 1) (fun kk v4 v5 wr => ∃ i : Nat, v5 = .int .i64 (i : Int) ∧ Hid (i ≤ n ∧ kk = n + 1 - i) ∧ Hid (∃ xs, InI w x v4 xs wr ∧ xs.length ≤ i))
  case atStart => exact ⟨0, rfl, ⟨by omega, rfl⟩, [], H0.out, by simp⟩
  case round =>
    obtain ⟨i, rfl, H1, H2⟩ := hrel
    obtain ⟨xs, HI⟩ : ∃ xs, Hid (InI w x u4 xs wr ∧ xs.length ≤ i) := H2.out
    have hx80 : Hid (xs.length ≤ 80 ∧ xs.length ≤ i) := ⟨by have h1 := HI.out.2; have h2 := H1.out.1; have h3 := HL.out.2; omega, HI.out.2⟩
    have hi1 := H1.out.1
    have hn2 := HL.out.2
    by_cases hin : i < n
    · have tin : (i : Int) < (n : Int) := by omega
      obtain ⟨hid, g, o, rfl, hrg⟩ := HL.out.1 i hin
      generalize hk : L i = k at hid hrg
      have HID : Hid (In64V k.q.id) := hid
      have hrg1 : wr.rangeAt g (o + i * 23) (lkL k) := fun j v hv => by
        obtain ⟨D, _, _, oo, _⟩ := HI.out.1
        exact oo.cell (hrg j v hv) (by simp)
      clear hk hid hrg
      go_upto_region 11 with (first | (refine wpList_load_mid rfl 35 (.tmp 24) rfl g (o + i * 23) rfl (lkL k) _ hrg1 Try.underlying35 rfl lookSize ?_) | (refine wpList_newLk k rfl rfl rfl rfl rfl rfl (fun _ => rfl) (fun _ => rfl) ?_))
      clear hrg1
      have H3 : Hid (InI w x u4 xs (wr.alloc (.cells (lkL k).toArray 35)) ∧ LkAt (wr.alloc (.cells (lkL k).toArray 35)) wr.heap.size k ∧ w.heap.size ≤ wr.heap.size) := by
        refine ⟨HI.out.1.only ((Only.refl [] wr).alloc _), (MapKept.heap_alloc wr _).1, ?_⟩
        obtain ⟨D, _, _, oo, _⟩ := HI.out.1
        exact oo.size
      revert H3
      generalize wr.heap.size = kx
      generalize World.alloc wr _ = w2
      intro H3
      simp only [Act.put, List.setIfInBounds_toArray, List.set_cons_zero, List.set_cons_succ]
      obtain ⟨q, hkq⟩ : ∃ q, k.q = q := ⟨_, rfl⟩
      have HKQ : Hid (k.q = q ∧ In64V q.id) := ⟨hkq, hkq ▸ HID.out⟩
      have hbd : w2.rangeAt kx 1 [.int .i64 (q.id), .int .i64 (q.ow), .int .i64 (q.kd), .int .i64 (q.sx), .int .i64 (q.sy), .int .i64 (q.sz), .int .i64 (q.ax), .int .i64 (q.ay), .int .i64 (q.az), .int .i64 (q.vx), .int .i64 (q.vy), .int .i64 (q.vz), .int .i64 (q.px), .int .i64 (q.py), .int .i64 (q.pz), .int .i64 (q.ms), .int .i64 (q.tm)] := by rw [← hkq]; exact H3.out.2.1.body
      clear hkq HID
      go_upto_region 12 with (first | (refine wpList_load_mid rfl 31 (.tmp 26) rfl kx 1 rfl [.int .i64 (q.id), .int .i64 (q.ow), .int .i64 (q.kd), .int .i64 (q.sx), .int .i64 (q.sy), .int .i64 (q.sz), .int .i64 (q.ax), .int .i64 (q.ay), .int .i64 (q.az), .int .i64 (q.vx), .int .i64 (q.vy), .int .i64 (q.vz), .int .i64 (q.px), .int .i64 (q.py), .int .i64 (q.pz), .int .i64 (q.ms), .int .i64 (q.tm)] _ hbd Try.underlying31 rfl bodySize ?_))
      clear hbd
      have H4 : Hid (InI w x u4 xs (w2.alloc (.cells #[.int .i64 (q.id), .int .i64 (q.ow), .int .i64 (q.kd), .int .i64 (q.sx), .int .i64 (q.sy), .int .i64 (q.sz), .int .i64 (q.ax), .int .i64 (q.ay), .int .i64 (q.az), .int .i64 (q.vx), .int .i64 (q.vy), .int .i64 (q.vz), .int .i64 (q.px), .int .i64 (q.py), .int .i64 (q.pz), .int .i64 (q.ms), .int .i64 (q.tm)] 31)) ∧ LkAt (w2.alloc (.cells #[.int .i64 (q.id), .int .i64 (q.ow), .int .i64 (q.kd), .int .i64 (q.sx), .int .i64 (q.sy), .int .i64 (q.sz), .int .i64 (q.ax), .int .i64 (q.ay), .int .i64 (q.az), .int .i64 (q.vx), .int .i64 (q.vy), .int .i64 (q.vz), .int .i64 (q.px), .int .i64 (q.py), .int .i64 (q.pz), .int .i64 (q.ms), .int .i64 (q.tm)] 31)) kx k ∧ BdAt (w2.alloc (.cells #[.int .i64 (q.id), .int .i64 (q.ow), .int .i64 (q.kd), .int .i64 (q.sx), .int .i64 (q.sy), .int .i64 (q.sz), .int .i64 (q.ax), .int .i64 (q.ay), .int .i64 (q.az), .int .i64 (q.vx), .int .i64 (q.vy), .int .i64 (q.vz), .int .i64 (q.px), .int .i64 (q.py), .int .i64 (q.pz), .int .i64 (q.ms), .int .i64 (q.tm)] 31)) w2.heap.size q ∧ w.heap.size ≤ kx ∧ kx < w2.heap.size) :=
        ⟨H3.out.1.only ((Only.refl [] w2).alloc _), H3.out.2.1.only ((Only.refl [] w2).alloc _) (by simp), (MapKept.heap_alloc w2 _).1, H3.out.2.2, H3.out.2.1.lt⟩
      have HO3 : Hid (Only [] w2 (w2.alloc (.cells #[.int .i64 (q.id), .int .i64 (q.ow), .int .i64 (q.kd), .int .i64 (q.sx), .int .i64 (q.sy), .int .i64 (q.sz), .int .i64 (q.ax), .int .i64 (q.ay), .int .i64 (q.az), .int .i64 (q.vx), .int .i64 (q.vy), .int .i64 (q.vz), .int .i64 (q.px), .int .i64 (q.py), .int .i64 (q.pz), .int .i64 (q.ms), .int .i64 (q.tm)] 31)) ∧ w2.heap.size = w2.heap.size) := ⟨(Only.refl [] w2).alloc _, rfl⟩
      revert H4 HO3
      generalize hkb : w2.heap.size = kb
      generalize World.alloc w2 _ = w3
      intro H4 HO3
      have HKB : Hid (w2.heap.size = kb) := hkb
      clear hkb
      have b6 := H4.out.2.2.1.off 6
      have b7 := H4.out.2.2.1.off 7
      have b8 := H4.out.2.2.1.off 8
      simp only [List.getElem?_toArray, List.getElem?_cons_zero, List.getElem?_cons_succ] at b6 b7 b8
      have hcl : Calls Try.prog 5 #[.agg #[.int .i64 (q.ax), .int .i64 (q.ay), .int .i64 (q.az)], .int .i64 65536000] w3 fun e w' => e = .returned (.agg #[.int .i64 ((clB q).ax), .int .i64 ((clB q).ay), .int .i64 ((clB q).az)]) ∧ Kept w3 w' := by
        have := refClamp_calls q.ax q.ay q.az 65536000 w3 (by omega)
        rw [bound_pl] at this
        exact this
      go_upto_region 13 with (first | (go_at_call 5; refine hcl.mono ?_; clear hcl; rintro e w4 ⟨rfl, k4⟩; have H4b : BdAt w4 kb q := H4.out.2.2.1.only (Only.of_kept (D := []) k4) (by simp); have z6 := H4b.off 6; have z7 := H4b.off 7; have z8 := H4b.off 8; have y6 : w4.frozen? ⟨kb, 6, none⟩ = false := (by simp [World.frozen?, show w4.heap[kb]? = _ from H4b]); have y7 : w4.frozen? ⟨kb, 7, none⟩ = false := (by simp [World.frozen?, show w4.heap[kb]? = _ from H4b]); have y8 : w4.frozen? ⟨kb, 8, none⟩ = false := (by simp [World.frozen?, show w4.heap[kb]? = _ from H4b]); simp only [List.getElem?_toArray, List.getElem?_cons_zero, List.getElem?_cons_succ] at z6 z7 z8))
      have H5 : Hid (InI w x u4 xs (((w4.setCell ⟨kb, 6, none⟩ (.int .i64 ((clB q).ax))).setCell ⟨kb, 7, none⟩ (.int .i64 ((clB q).ay))).setCell ⟨kb, 8, none⟩ (.int .i64 ((clB q).az))) ∧ LkAt (((w4.setCell ⟨kb, 6, none⟩ (.int .i64 ((clB q).ax))).setCell ⟨kb, 7, none⟩ (.int .i64 ((clB q).ay))).setCell ⟨kb, 8, none⟩ (.int .i64 ((clB q).az))) kx k ∧ BdAt (((w4.setCell ⟨kb, 6, none⟩ (.int .i64 ((clB q).ax))).setCell ⟨kb, 7, none⟩ (.int .i64 ((clB q).ay))).setCell ⟨kb, 8, none⟩ (.int .i64 ((clB q).az))) kb (clB q) ∧ w.heap.size ≤ kx ∧ kx < kb) := by
        have hle : w2.heap.size ≤ kb := Nat.le_of_eq HKB.out
        have o5 : Only [] w2 (((w4.setCell ⟨kb, 6, none⟩ (.int .i64 ((clB q).ax))).setCell ⟨kb, 7, none⟩ (.int .i64 ((clB q).ay))).setCell ⟨kb, 8, none⟩ (.int .i64 ((clB q).az))) := (((HO3.out.1.trans (Only.of_kept k4)).setCell (p := ⟨kb, 6, none⟩) (Or.inr hle) _).setCell (p := ⟨kb, 7, none⟩) (Or.inr hle) _).setCell (p := ⟨kb, 8, none⟩) (Or.inr hle) _
        refine ⟨H3.out.1.only o5, H3.out.2.1.only o5 (by simp), ?_, H4.out.2.2.2.1, H4.out.2.2.2.2⟩
        exact heap_put (heap_put (heap_put H4b 6 _) 7 _) 8 _
      revert H5
      generalize hcb : clB q = b
      generalize World.setCell (World.setCell (World.setCell w4 _ _) _ _) _ _ = w5
      intro H5
      have HCB : Hid (clB q = b ∧ b.id = q.id) := ⟨hcb, by rw [← hcb]; rfl⟩
      clear hcb k4 H4b z6 z7 z8 y6 y7 y8 b6 b7 b8 H4 HO3 HKB H3 w4 w3 w2 HI
      obtain ⟨D, HI⟩ : ∃ D, Hid (GridOf w5 x D (xs.map ent) ∧ SlBd w5 u4 xs ∧ Only [] w w5 ∧ (∀ b ∈ D, w.heap.size ≤ b) ∧ ∀ b ∈ ownL u4, w.heap.size ≤ b) := H5.out.1
      obtain ⟨a4, c4, rfl, hsh⟩ := HI.out.2.1.shape
      have HSH : Hid ((∀ j (hj : j < xs.length), ∃ g, a4 = some ⟨g, 0, none⟩ ∧ ∀ k, k < 17 → w5.cell? ⟨g, j * 17 + k, none⟩ = some (bc xs[j] k)) ∧ xs.length ≤ 80) := ⟨hsh, hx80.out.1⟩
      have hx8 := HSH.out.2
      clear hsh H2
      go_wp2_with fail
      go_loopg [8, 9] (xs.length + 1) (fun kk v8 v9 wr => ∃ j : Nat, v9 = .int .i64 (j : Int) ∧ Hid (j ≤ xs.length ∧ kk = xs.length + 1 - j) ∧ Hid (SlBd wr v8 ((xs.take j).filter fun p => p.id != b.id) ∧ Only [] w5 wr ∧ ∀ z ∈ ownL v8, w5.heap.size ≤ z))
      case atStart => exact ⟨0, rfl, ⟨by omega, rfl⟩, SlBd.nil _, Only.refl _ _, by simp [ownL, Value.ownBlock]⟩
      case round =>
        obtain ⟨j, rfl, H6, H7⟩ := hrel
        have hj1 := H6.out.1
        by_cases hjn : j < xs.length
        · have tjn : (j : Int) < (xs.length : Int) := by omega
          obtain ⟨g4, rfl, hc4⟩ := HSH.out.1 j hjn
          generalize hp : xs[j] = p at hc4
          have HXJ : Hid (xs[j]? = some p) := by show _ = _; rw [← hp]; exact List.getElem?_eq_getElem hjn
          clear hp
          have hrp : wr.rangeAt g4 (j * 17) (bdL p) := range17 (fun k hk => H7.out.2.1.cell (hc4 k hk) (by simp))
          have p0 : wr.cell? ⟨g4, j * 17, none⟩ = some (.int .i64 (p.id)) := H7.out.2.1.cell (hc4 0 (by omega)) (by simp)
          have b0 : wr.cell? ⟨kb, 0, none⟩ = some (.int .i64 (b.id)) := (H5.out.2.2.1.only H7.out.2.1 (by simp)).off 0
          clear hc4
          go_wp2_with fail
          go_quiet (fail)
          by_cases hpe : p.id = b.id
          · have tpe : (p.id == b.id) = true := by simpa using hpe
            have hpf : (p.id != b.id) = false := by rw [hpe]; simp
            have HPE : Hid ((p.id != b.id) = false) := hpf
            clear hpf
            clear hpe
            go_wp2_with fail
            go_roundg (xs.length + 1 - (j + 1))
            case measure => have := H6.out.2; omega
            case rel =>
              refine ⟨j + 1, by go_num, ⟨by omega, rfl⟩, ?_⟩
              rw [List.take_add_one, HXJ.out, List.filter_append, show (List.filter (fun p => p.id != b.id) (some p).toList) = [] by simp [HPE.out], List.append_nil]
              exact ⟨H7.out.1.kept (Only.drewN (D := []) _ _) (by simp), H7.out.2.1.trans (Only.drewN (D := []) _ _), H7.out.2.2⟩
          · have tpe : (p.id == b.id) = false := by simpa using hpe
            have hpf : (p.id != b.id) = true := by simpa using hpe
            have HPE : Hid ((p.id != b.id) = true) := hpf
            clear hpf
            clear hpe
            have hrp2 : (wr.drewN nq).rangeAt g4 (j * 17) [.int .i64 (p.id), .int .i64 (p.ow), .int .i64 (p.kd), .int .i64 (p.sx), .int .i64 (p.sy), .int .i64 (p.sz), .int .i64 (p.ax), .int .i64 (p.ay), .int .i64 (p.az), .int .i64 (p.vx), .int .i64 (p.vy), .int .i64 (p.vz), .int .i64 (p.px), .int .i64 (p.py), .int .i64 (p.pz), .int .i64 (p.ms), .int .i64 (p.tm)] := hrp
            have H8 : Hid (SlBd (wr.drewN nq) u8 ((xs.take j).filter fun p => p.id != b.id) ∧ Only [] w5 (wr.drewN nq) ∧ ∀ z ∈ ownL u8, w5.heap.size ≤ z) := ⟨H7.out.1.kept (Only.drewN (D := []) _ _) (by simp), H7.out.2.1.trans (Only.drewN (D := []) _ _), H7.out.2.2⟩
            clear hrp p0 b0
            revert hrp2 H8
            generalize World.drewN wr nq = w6
            intro hrp2 H8
            have hlen : ((xs.take j).filter fun p => p.id != b.id).length ≤ 1000 := Nat.le_trans (List.length_filter_le _ _) (by rw [List.length_take]; omega)
            go_wp2_with (first | (refine wpList_load_mid rfl 31 (.tmp 49) rfl g4 (j * 17) rfl [.int .i64 (p.id), .int .i64 (p.ow), .int .i64 (p.kd), .int .i64 (p.sx), .int .i64 (p.sy), .int .i64 (p.sz), .int .i64 (p.ax), .int .i64 (p.ay), .int .i64 (p.az), .int .i64 (p.vx), .int .i64 (p.vy), .int .i64 (p.vz), .int .i64 (p.px), .int .i64 (p.py), .int .i64 (p.pz), .int .i64 (p.ms), .int .i64 (p.tm)] _ hrp2 Try.underlying31 rfl bodySize ?_) | (at_builtin; refine wpList_appendBd rfl _ _ rfl u8 _ rfl (H8.out.1.kept ((Only.refl [] w6).alloc _) (by simp)) p w6.heap.size rfl (MapKept.heap_alloc w6 _).1 hlen ?_; intro v8' w7 hsl7 o7 hb7))
            go_roundg (xs.length + 1 - (j + 1))
            case measure => have := H6.out.2; omega
            case rel =>
              refine ⟨j + 1, by go_num, ⟨by omega, rfl⟩, ?_⟩
              rw [List.take_add_one, HXJ.out, List.filter_append, show (List.filter (fun p => p.id != b.id) (some p).toList) = [p] by simp [HPE.out]]
              have ho : Only [] w5 (w6.alloc (.cells #[.int .i64 (p.id), .int .i64 (p.ow), .int .i64 (p.kd), .int .i64 (p.sx), .int .i64 (p.sy), .int .i64 (p.sz), .int .i64 (p.ax), .int .i64 (p.ay), .int .i64 (p.az), .int .i64 (p.vx), .int .i64 (p.vy), .int .i64 (p.vz), .int .i64 (p.px), .int .i64 (p.py), .int .i64 (p.pz), .int .i64 (p.ms), .int .i64 (p.tm)] 31)) := H8.out.2.1.alloc _
              refine ⟨hsl7, ho.then o7 (fun z hz => Or.inr (H8.out.2.2 z hz)), fun z hz => ?_⟩
              rcases hb7 z hz with h1 | h1
              · exact H8.out.2.2 z h1
              · have := ho.size; omega
        · have tjn : ¬ (j : Int) < (xs.length : Int) := by omega
          have hje : j = xs.length := by omega
          obtain ⟨ys, hys⟩ : ∃ ys, (xs.filter fun p => p.id != b.id) = ys := ⟨_, rfl⟩
          have H8 : Hid (SlBd wr u8 ys ∧ Only [] w5 wr ∧ (∀ z ∈ ownL u8, w5.heap.size ≤ z) ∧ (xs.filter fun p => p.id != b.id) = ys ∧ ys.length ≤ xs.length) := by
            have h1 := H7.out
            rw [hje, List.take_length, hys] at h1
            exact ⟨h1.1, h1.2.1, h1.2.2, hys, by rw [← hys]; exact List.length_filter_le _ _⟩
          clear hys H7 H6 hje
          have k0 := (H5.out.2.1.only H8.out.2.1 (by simp)).off 0
          simp only [lkL, List.getElem?_cons_zero] at k0
          have hk5 : BdAt wr kb b := H5.out.2.2.1.only H8.out.2.1 (by simp)
          have HW : Hid (GridOf wr x D (xs.map ent) ∧ SlBd wr (.slice a4 xs.length c4) xs ∧ Only [] w wr ∧ BdAt wr kb b ∧ LkAt wr kx k ∧ kb ∉ D ∧ kx ∉ D) := by
            have hg := HI.out.1.only H8.out.2.1 (by simp)
            have hlk := H5.out.2.1.only H8.out.2.1 (by simp)
            exact ⟨hg, HI.out.2.1.kept H8.out.2.1 (by simp), HI.out.2.2.1.trans H8.out.2.1, hk5, hlk, grid_out hg hk5 (by decide) (by decide), grid_out hg hlk (by decide) (by decide)⟩
          clear hk5
          by_cases hw0 : k.wt = 0
          · have t0 : (k.wt == 0) = true := by simpa using hw0
            clear hw0
            have s2 := HW.out.2.2.2.1.off 2
            have s3 := HW.out.2.2.2.1.off 3
            have s4 := HW.out.2.2.2.1.off 4
            have s5 := HW.out.2.2.2.1.off 5
            simp only [List.getElem?_toArray, List.getElem?_cons_zero, List.getElem?_cons_succ] at s2 s3 s4 s5
            obtain ⟨rb, hrb⟩ : ∃ rb, rightB b.kd b.sx b.sy b.sz = rb := ⟨_, rfl⟩
            have hri : Calls Try.prog 6 #[.agg #[.int .i64 (b.kd), .int .i64 (b.sx), .int .i64 (b.sy), .int .i64 (b.sz)]] wr fun e w' => e = .returned (.bool rb) ∧ Kept wr w' := by
              rw [← hrb]; exact refRight_calls _ _ _ _ wr
            have HRB : Hid (rightB b.kd b.sx b.sy b.sz = rb) := hrb
            clear hrb
            cases rb with
            | false =>
              go_wp2_with (first | (go_at_call 6; refine hri.mono ?_; clear hri; rintro e w7 ⟨rfl, k7⟩))
              go_roundg (n + 1 - (i + 1))
              case measure => have := H1.out.2; omega
              case rel =>
                refine ⟨i + 1, by go_num, ⟨by omega, rfl⟩, xs, ?_, by have := hx80.out.2; omega⟩
                have hin : InI w x (.slice a4 xs.length c4) xs wr := ⟨D, HW.out.1, HW.out.2.1, HW.out.2.2.1, HI.out.2.2.2.1, HI.out.2.2.2.2⟩
                exact hin.only (Only.of_kept k7)
            | true =>
              go_upto_region 22 with (first | (go_at_call 6; refine hri.mono ?_; clear hri; rintro e w7 ⟨rfl, k7⟩))
              have o7 : Only [] wr w7 := Only.of_kept k7
              have hb7 : BdAt w7 kb b := HW.out.2.2.2.1.only o7 (by simp)
              have hrb7 : w7.rangeAt kb 0 [.int .i64 (b.id), .int .i64 (b.ow), .int .i64 (b.kd), .int .i64 (b.sx), .int .i64 (b.sy), .int .i64 (b.sz), .int .i64 (b.ax), .int .i64 (b.ay), .int .i64 (b.az), .int .i64 (b.vx), .int .i64 (b.vy), .int .i64 (b.vz), .int .i64 (b.px), .int .i64 (b.py), .int .i64 (b.pz), .int .i64 (b.ms), .int .i64 (b.tm)] := fun jj v hv => by
                rw [Nat.zero_add, hb7.off jj, List.getElem?_toArray]; exact hv
              have hput : Calls Try.prog 7 #[.pointer (some ⟨x, 0, none⟩), .agg #[.int .i64 (b.id), .int .i64 (b.ow), .int .i64 (b.kd), .int .i64 (b.sx), .int .i64 (b.sy), .int .i64 (b.sz), .int .i64 (b.ax), .int .i64 (b.ay), .int .i64 (b.az), .int .i64 (b.vx), .int .i64 (b.vy), .int .i64 (b.vz), .int .i64 (b.px), .int .i64 (b.py), .int .i64 (b.pz), .int .i64 (b.ms), .int .i64 (b.tm)]] w7 (PutPost w7 x D (xs.map ent) b) := by
                refine put_calls x D (xs.map ent) b w7 (HW.out.1.only o7 (by simp)) (by rw [HCB.out.2]; exact HKQ.out.2) ?_ ?_
                · exact Nat.lt_of_le_of_lt (List.length_filter_le _ _) (by rw [List.length_map]; omega)
                · have h1 := HRB.out
                  rw [← HCB.out.1] at h1 ⊢
                  exact home_clB q h1
              clear k7 s2 s3 s4 s5
              go_upto_region 23 with (first | (refine wpList_load_mid rfl 31 (.tmp 7) rfl kb 0 rfl [.int .i64 (b.id), .int .i64 (b.ow), .int .i64 (b.kd), .int .i64 (b.sx), .int .i64 (b.sy), .int .i64 (b.sz), .int .i64 (b.ax), .int .i64 (b.ay), .int .i64 (b.az), .int .i64 (b.vx), .int .i64 (b.vy), .int .i64 (b.vz), .int .i64 (b.px), .int .i64 (b.py), .int .i64 (b.pz), .int .i64 (b.ms), .int .i64 (b.tm)] _ hrb7 Try.underlying31 rfl bodySize ?_) | (go_at_call 7; refine hput.mono ?_; clear hput; rintro e w8 ⟨rfl, D8, hG8, o8, hD8⟩))
              have hg7 : GridOf w7 x D (xs.map ent) := HW.out.1.only o7 (by simp)
              have hl7 : SlBd w7 u8 ys := H8.out.1.kept o7 (by simp)
              have hap := grid_apart hg7 hl7
              have H9 : Hid (GridOf w8 x D8 ((ys ++ [b]).map ent) ∧ SlBd w8 u8 ys ∧ Only D w7 w8 ∧ BdAt w8 kb b ∧ LkAt w8 kx k ∧ (∀ z ∈ D8, w.heap.size ≤ z) ∧ Only [] w w8) := by
                have ow7 : Only [] w w7 := HW.out.2.2.1.trans o7
                refine ⟨?_, hl7.kept o8 (fun z hz hd => hap z hd hz), o8, hb7.only o8 HW.out.2.2.2.2.2.1, (HW.out.2.2.2.2.1.only o7 (by simp)).only o8 HW.out.2.2.2.2.2.2, fun z hz => ?_, ow7.then o8 (fun z hz => Or.inr (HI.out.2.2.2.1 z hz))⟩
                · rw [ent_filter, H8.out.2.2.2.1] at hG8
                  refine hG8.perm ?_
                  rw [List.map_append]
                  exact (List.perm_append_singleton (ent b) (ys.map ent)).symm
                · rcases hD8 z hz with h1 | h1
                  · exact HI.out.2.2.2.1 z h1
                  · have := ow7.size; omega
              have hrb8 : w8.rangeAt kb 0 [.int .i64 (b.id), .int .i64 (b.ow), .int .i64 (b.kd), .int .i64 (b.sx), .int .i64 (b.sy), .int .i64 (b.sz), .int .i64 (b.ax), .int .i64 (b.ay), .int .i64 (b.az), .int .i64 (b.vx), .int .i64 (b.vy), .int .i64 (b.vz), .int .i64 (b.px), .int .i64 (b.py), .int .i64 (b.pz), .int .i64 (b.ms), .int .i64 (b.tm)] := fun jj v hv => by
                rw [Nat.zero_add, H9.out.2.2.2.1.off jj, List.getElem?_toArray]; exact hv
              clear hrb7 hb7 hg7 hl7 hap hG8 o8 hD8 o7
              have hlen : ys.length ≤ 1000 := by have := H8.out.2.2.2.2; omega
              go_upto_region 27 with (first | (refine wpList_load_mid rfl 31 (.tmp 7) rfl kb 0 rfl [.int .i64 (b.id), .int .i64 (b.ow), .int .i64 (b.kd), .int .i64 (b.sx), .int .i64 (b.sy), .int .i64 (b.sz), .int .i64 (b.ax), .int .i64 (b.ay), .int .i64 (b.az), .int .i64 (b.vx), .int .i64 (b.vy), .int .i64 (b.vz), .int .i64 (b.px), .int .i64 (b.py), .int .i64 (b.pz), .int .i64 (b.ms), .int .i64 (b.tm)] _ hrb8 Try.underlying31 rfl bodySize ?_) | (at_builtin; refine wpList_appendBd rfl _ _ rfl u8 ys rfl (H9.out.2.1.kept ((Only.refl [] w8).alloc _) (by simp)) b w8.heap.size rfl (MapKept.heap_alloc w8 _).1 hlen ?_; intro v4' w9 hsl9 o9 hb9))
              clear hrb8
              have HF0 : Hid (InF w x kx k v4' (ys ++ [b]) i w9) := by
                have oA : Only [] w8 (w8.alloc (.cells #[.int .i64 (b.id), .int .i64 (b.ow), .int .i64 (b.kd), .int .i64 (b.sx), .int .i64 (b.sy), .int .i64 (b.sz), .int .i64 (b.ax), .int .i64 (b.ay), .int .i64 (b.az), .int .i64 (b.vx), .int .i64 (b.vy), .int .i64 (b.vz), .int .i64 (b.px), .int .i64 (b.py), .int .i64 (b.pz), .int .i64 (b.ms), .int .i64 (b.tm)] 31)) := (Only.refl [] w8).alloc _
                have hgA := H9.out.1.only oA (by simp)
                have hsA := H9.out.2.1.kept oA (by simp)
                have hu8 : ∀ z ∈ ownL u8, w.heap.size ≤ z := fun z hz => by
                  have h1 := H8.out.2.2.1 z hz
                  have h2 := HI.out.2.2.1.size
                  omega
                have hlkA := H9.out.2.2.2.2.1.only oA (by simp)
                have hlku : kx ∉ ownL u8 := fun hz => by
                  have h1 := H8.out.2.2.1 kx hz
                  have h2 := H5.out.2.1.lt
                  omega
                refine ⟨⟨D8, hgA.only o9 (fun z hz => grid_apart hgA hsA z hz), hsl9, (H9.out.2.2.2.2.2.2.trans oA).then o9 (fun z hz => Or.inr (hu8 z hz)), H9.out.2.2.2.2.2.1, fun z hz => ?_⟩, hlkA.only o9 hlku, ?_, ?_⟩
                · rcases hb9 z hz with h1 | h1
                  · exact hu8 z h1
                  · have := (H9.out.2.2.2.2.2.2.trans oA).size; omega
                · have h1 := H8.out.2.2.2.2
                  have h2 := hx80.out.2
                  simp only [List.length_append, List.length_cons, List.length_nil]; omega
                · have h1 := H8.out.2.2.2.2
                  have h2 := hx80.out.2
                  simp only [List.length_append, List.length_cons, List.length_nil]; omega
              obtain ⟨zs, hzs⟩ : ∃ zs, ys ++ [b] = zs := ⟨_, rfl⟩
              rw [hzs] at HF0 hsl9
              obtain ⟨az, cz, rfl, _⟩ := hsl9.shape
              have HF : Hid (InF w x kx k (.slice az zs.length cz) zs i w9) := HF0
              clear hzs HF0 hsl9 o9 hb9 H9
              have HP : Hid (∀ w', Only [] w9 w' → w'.cell? ⟨kx, 18, none⟩ = some (.int .i64 (k.ex)) ∧ w'.cell? ⟨kx, 19, none⟩ = some (.int .i64 (k.ey)) ∧ w'.cell? ⟨kx, 20, none⟩ = some (.int .i64 (k.ez)) ∧ w'.cell? ⟨kx, 21, none⟩ = some (.int .i64 (k.ef)) ∧ w'.cell? ⟨kx, 22, none⟩ = some (.int .i64 (k.et))) := fun w' oo => by
                have t1 := HF.out.2.1.only oo (by simp)
                exact ⟨t1.off 18, t1.off 19, t1.off 20, t1.off 21, t1.off 22⟩
              have hz8 := HF.out.2.2.2
              have HMA : Hid (∀ u, Only [] w9 u → Calls Try.prog 9 #[.pointer (some ⟨x, 0, none⟩)] u fun e u' => e = .returned (.int .i64 ((zs.length : Int))) ∧ Only [] u u') := fun u oo => by
                obtain ⟨Dz, g1, _⟩ := HF.out.1
                exact many_all x Dz zs u (g1.only oo (by simp))
              have HSA : Hid (∀ u, Only [] w9 u → Calls Try.prog 11 #[.pointer (some ⟨x, 0, none⟩), .agg #[.int .i64 (k.ex), .int .i64 (k.ey), .int .i64 (k.ez), .int .i64 (k.ef), .int .i64 (k.et)]] u (SeesPost u (seenR zs k.ex k.ey k.ez k.ef k.et))) := fun u oo => by
                obtain ⟨Dz, g1, _⟩ := HF.out.1
                exact sees_all x Dz zs k.ex k.ey k.ez k.ef k.et u (g1.only oo (by simp))
              have HRA : Hid (∀ u, Only [] w9 u → Calls Try.prog 12 #[.slice az zs.length cz, .agg #[.int .i64 (k.ex), .int .i64 (k.ey), .int .i64 (k.ez)], .int .i64 (k.ef), .int .i64 (k.et)] u (SeesPost u (seenR zs k.ex k.ey k.ez k.ef k.et))) := fun u oo => by
                obtain ⟨Dz, _, g2, _⟩ := HF.out.1
                exact refSees_calls _ zs k.ex k.ey k.ez k.ef k.et u (g2.kept oo (by simp)) (by omega)
              refine wp_region_held_drew (S := (fun w' => w'.cell? ⟨kx, 18, none⟩ = some (.int .i64 (k.ex)) ∧ w'.cell? ⟨kx, 19, none⟩ = some (.int .i64 (k.ey)) ∧ w'.cell? ⟨kx, 20, none⟩ = some (.int .i64 (k.ez)) ∧ w'.cell? ⟨kx, 21, none⟩ = some (.int .i64 (k.ef)) ∧ w'.cell? ⟨kx, 22, none⟩ = some (.int .i64 (k.et)))) (by kernel_rfl) ?_ (fun hHeld1 => ?_)
              · (try dsimp only); exact HP.out _ (Only.refl _ _).drew
              refine tkW 0 rfl ?_; refine tkW 2 rfl ?_; refine tkW 3 rfl ?_
              try simp only [Act.put, List.setIfInBounds_toArray, List.set_cons_zero, List.set_cons_succ, List.getElem_toArray, List.getElem_cons_succ, List.getElem_cons_zero]
              refine wpAnyH_ready (rs := [1]) (by kernel_rfl) (by simp) ?_
              refine AllReadyH.cons rfl (fun K hK => ?_) AllReadyH.nil
              first | (with_reducible refine iteYes ?hcx ?htx; case hcx => kernel_rfl) | rw [if_pos (by rfl)]
              simp only [List.getElem_toArray, List.getElem_cons_succ, List.getElem_cons_zero]
              go_simp
              (go_at_call 9; refine (HMA.out _ (Only.refl _ _).drew).mono ?_; rintro e y1 ⟨rfl, l1⟩)
              try go_wp2_with fail
              refine hK.out _ _ ?_ (fun hHeld2 => ?_)
              · (try dsimp only); exact HP.out _ ((Only.refl _ _).drew.trans l1)
              clear hK K hHeld1
              try simp only [Act.put, List.setIfInBounds_toArray, List.set_cons_zero, List.set_cons_succ, List.getElem_toArray, List.getElem_cons_succ, List.getElem_cons_zero]
              refine tkW 4 rfl ?_; refine tkW 5 rfl ?_; refine tkW 6 rfl ?_; refine tkW 7 rfl ?_
              try simp only [Act.put, List.setIfInBounds_toArray, List.set_cons_zero, List.set_cons_succ, List.getElem_toArray, List.getElem_cons_succ, List.getElem_cons_zero]
              refine tkW 8 rfl ?_; refine tkW 10 rfl ?_; refine tkW 11 rfl ?_; refine tkW 12 rfl ?_
              try simp only [Act.put, List.setIfInBounds_toArray, List.set_cons_zero, List.set_cons_succ, List.getElem_toArray, List.getElem_cons_succ, List.getElem_cons_zero]
              refine tkW 13 rfl ?_; refine tkW 14 rfl ?_; refine tkW 15 rfl ?_; refine tkW 16 rfl ?_
              try simp only [Act.put, List.setIfInBounds_toArray, List.set_cons_zero, List.set_cons_succ, List.getElem_toArray, List.getElem_cons_succ, List.getElem_cons_zero]
              refine tkW 17 rfl ?_; refine tkW 18 rfl ?_; refine tkW 19 rfl ?_
              try simp only [Act.put, List.setIfInBounds_toArray, List.set_cons_zero, List.set_cons_succ, List.getElem_toArray, List.getElem_cons_succ, List.getElem_cons_zero]
              refine wpAnyH_ready (rs := [9]) (by kernel_rfl) (by simp) ?_
              refine AllReadyH.cons rfl (fun K hK => ?_) AllReadyH.nil
              first | (with_reducible refine iteYes ?hcx ?htx; case hcx => kernel_rfl) | rw [if_pos (by rfl)]
              simp only [List.getElem_toArray, List.getElem_cons_succ, List.getElem_cons_zero]
              go_simp
              (go_at_call 11; refine (HSA.out _ ((Only.refl _ _).drew.trans l1)).mono ?_; rintro e y2 ⟨sv, rfl, s2, l2, _⟩; obtain ⟨sa, sc, rfl, s3⟩ := s2.shape)
              try go_wp2_with fail
              refine hK.out _ _ ?_ (fun hHeld3 => ?_)
              · (try dsimp only); exact HP.out _ ((Only.refl _ _).drew.trans (l1.trans l2))
              clear hK K hHeld2
              try simp only [Act.put, List.setIfInBounds_toArray, List.set_cons_zero, List.set_cons_succ, List.getElem_toArray, List.getElem_cons_succ, List.getElem_cons_zero]
              refine wpAnyH_ready (rs := [20]) (by kernel_rfl) (by simp) ?_
              refine AllReadyH.cons rfl (fun K hK => ?_) AllReadyH.nil
              first | (with_reducible refine iteYes ?hcx ?htx; case hcx => kernel_rfl) | rw [if_pos (by rfl)]
              simp only [List.getElem_toArray, List.getElem_cons_succ, List.getElem_cons_zero]
              go_simp
              (go_at_call 12; refine (HRA.out _ ((Only.refl _ _).drew.trans (l1.trans l2))).mono ?_; rintro e y3 ⟨rv, rfl, r2, l3, _⟩; obtain ⟨ra, rc, rfl, r3⟩ := r2.shape)
              try go_wp2_with fail
              refine hK.out _ _ ?_ (fun hHeld4 => ?_)
              · (try dsimp only); exact HP.out _ ((Only.refl _ _).drew.trans (l1.trans (l2.trans l3)))
              clear hK K hHeld3
              try simp only [Act.put, List.setIfInBounds_toArray, List.set_cons_zero, List.set_cons_succ, List.getElem_toArray, List.getElem_cons_succ, List.getElem_cons_zero]
              refine wpAnyH_ready (rs := [21]) (by kernel_rfl) (by simp) ?_
              refine AllReadyH.cons rfl (fun K hK => ?_) AllReadyH.nil
              first | (with_reducible refine iteYes ?hcx ?htx; case hcx => kernel_rfl) | rw [if_pos (by rfl)]
              simp only [List.getElem_toArray, List.getElem_cons_succ, List.getElem_cons_zero]
              go_simp
              (go_at_call 10; refine (sameInts_calls sa ra sc rc (sortZ (seenR zs k.ex k.ey k.ez k.ef k.et)) _ y3 rfl (by rw [(sortZ_perm _).length_eq]; unfold seenR; rw [List.length_map]; exact Nat.le_trans (List.length_filter_le _ _) (by omega)) (IntsAt.only (show IntsAt y2 sa _ from s3) l3) r3).mono ?_; rintro e y4 ⟨rfl, l4⟩)
              try go_wp2_with fail
              refine hK.out _ _ ?_ (fun hHeld5 => ?_)
              · (try dsimp only); exact HP.out _ ((Only.refl _ _).drew.trans (l1.trans (l2.trans (l3.trans l4))))
              clear hK K hHeld4
              try simp only [Act.put, List.setIfInBounds_toArray, List.set_cons_zero, List.set_cons_succ, List.getElem_toArray, List.getElem_cons_succ, List.getElem_cons_zero]
              refine tkW 22 rfl ?_; refine tkW 23 rfl ?_
              try simp only [Act.put, List.setIfInBounds_toArray, List.set_cons_zero, List.set_cons_succ, List.getElem_toArray, List.getElem_cons_succ, List.getElem_cons_zero]
              refine wpAnyH_done (by kernel_rfl) ?_ _
              go_wp2_with fail
              go_roundg (n + 1 - (i + 1))
              case measure => have := H1.out.2; omega
              case rel =>
                refine ⟨i + 1, by go_num, ⟨by omega, rfl⟩, zs, HF.out.1.only ((Only.refl _ _).drew.trans (l1.trans (l2.trans (l3.trans l4)))), HF.out.2.2.1⟩
          · have t0 : (k.wt == 0) = false := by simpa using hw0
            by_cases hw1 : k.wt = 1
            · have t1 : (k.wt == 1) = true := by simpa using hw1
              clear hw0 hw1
              have b0 := HW.out.2.2.2.1.off 0
              simp only [List.getElem?_toArray, List.getElem?_cons_zero] at b0
              obtain ⟨a8, c8, hu8e, _⟩ := H8.out.1.shape
              have hrem : Calls Try.prog 8 #[.pointer (some ⟨x, 0, none⟩), .int .i64 (b.id)] wr (RemPost wr x D (xs.map ent) b.id) := remove_calls x D (xs.map ent) b.id wr HW.out.1 (by rw [HCB.out.2]; exact HKQ.out.2)
              go_upto_region 27 with (first | (go_at_call 8; refine hrem.mono ?_; clear hrem; rintro e w8 ⟨rfl, D8, hG8, o8, hD8⟩))
              have HF0 : Hid (InF w x kx k u8 ys i w8) := by
                have hap := grid_apart HW.out.1 H8.out.1
                refine ⟨⟨D8, ?_, H8.out.1.kept o8 (fun z hz hd => hap z hd hz), HW.out.2.2.1.then o8 (fun z hz => Or.inr (HI.out.2.2.2.1 z hz)), fun z hz => ?_, fun z hz => ?_⟩, HW.out.2.2.2.2.1.only o8 HW.out.2.2.2.2.2.2, ?_, ?_⟩
                · rw [ent_filter, H8.out.2.2.2.1] at hG8; exact hG8
                · rcases hD8 z hz with h1 | h1
                  · exact HI.out.2.2.2.1 z h1
                  · have := HW.out.2.2.1.size; omega
                · have h1 := H8.out.2.2.1 z hz
                  have h2 := HI.out.2.2.1.size
                  omega
                · have h1 := H8.out.2.2.2.2
                  have h2 := hx80.out.2
                  omega
                · have h1 := H8.out.2.2.2.2
                  omega
              subst hu8e
              have HF : Hid (InF w x kx k (.slice a8 ys.length c8) ys i w8) := HF0
              clear HF0 hG8 o8 hD8 b0
              have HP : Hid (∀ w', Only [] w8 w' → w'.cell? ⟨kx, 18, none⟩ = some (.int .i64 (k.ex)) ∧ w'.cell? ⟨kx, 19, none⟩ = some (.int .i64 (k.ey)) ∧ w'.cell? ⟨kx, 20, none⟩ = some (.int .i64 (k.ez)) ∧ w'.cell? ⟨kx, 21, none⟩ = some (.int .i64 (k.ef)) ∧ w'.cell? ⟨kx, 22, none⟩ = some (.int .i64 (k.et))) := fun w' oo => by
                have t1 := HF.out.2.1.only oo (by simp)
                exact ⟨t1.off 18, t1.off 19, t1.off 20, t1.off 21, t1.off 22⟩
              have hz8 := HF.out.2.2.2
              have HMA : Hid (∀ u, Only [] w8 u → Calls Try.prog 9 #[.pointer (some ⟨x, 0, none⟩)] u fun e u' => e = .returned (.int .i64 ((ys.length : Int))) ∧ Only [] u u') := fun u oo => by
                obtain ⟨Dz, g1, _⟩ := HF.out.1
                exact many_all x Dz ys u (g1.only oo (by simp))
              have HSA : Hid (∀ u, Only [] w8 u → Calls Try.prog 11 #[.pointer (some ⟨x, 0, none⟩), .agg #[.int .i64 (k.ex), .int .i64 (k.ey), .int .i64 (k.ez), .int .i64 (k.ef), .int .i64 (k.et)]] u (SeesPost u (seenR ys k.ex k.ey k.ez k.ef k.et))) := fun u oo => by
                obtain ⟨Dz, g1, _⟩ := HF.out.1
                exact sees_all x Dz ys k.ex k.ey k.ez k.ef k.et u (g1.only oo (by simp))
              have HRA : Hid (∀ u, Only [] w8 u → Calls Try.prog 12 #[.slice a8 ys.length c8, .agg #[.int .i64 (k.ex), .int .i64 (k.ey), .int .i64 (k.ez)], .int .i64 (k.ef), .int .i64 (k.et)] u (SeesPost u (seenR ys k.ex k.ey k.ez k.ef k.et))) := fun u oo => by
                obtain ⟨Dz, _, g2, _⟩ := HF.out.1
                exact refSees_calls _ ys k.ex k.ey k.ez k.ef k.et u (g2.kept oo (by simp)) (by omega)
              refine wp_region_held_drew (S := (fun w' => w'.cell? ⟨kx, 18, none⟩ = some (.int .i64 (k.ex)) ∧ w'.cell? ⟨kx, 19, none⟩ = some (.int .i64 (k.ey)) ∧ w'.cell? ⟨kx, 20, none⟩ = some (.int .i64 (k.ez)) ∧ w'.cell? ⟨kx, 21, none⟩ = some (.int .i64 (k.ef)) ∧ w'.cell? ⟨kx, 22, none⟩ = some (.int .i64 (k.et)))) (by kernel_rfl) ?_ (fun hHeld1 => ?_)
              · (try dsimp only); exact HP.out _ (Only.refl _ _).drew
              refine tkW 0 rfl ?_; refine tkW 2 rfl ?_; refine tkW 3 rfl ?_
              try simp only [Act.put, List.setIfInBounds_toArray, List.set_cons_zero, List.set_cons_succ, List.getElem_toArray, List.getElem_cons_succ, List.getElem_cons_zero]
              refine wpAnyH_ready (rs := [1]) (by kernel_rfl) (by simp) ?_
              refine AllReadyH.cons rfl (fun K hK => ?_) AllReadyH.nil
              first | (with_reducible refine iteYes ?hcx ?htx; case hcx => kernel_rfl) | rw [if_pos (by rfl)]
              simp only [List.getElem_toArray, List.getElem_cons_succ, List.getElem_cons_zero]
              go_simp
              (go_at_call 9; refine (HMA.out _ (Only.refl _ _).drew).mono ?_; rintro e y1 ⟨rfl, l1⟩)
              try go_wp2_with fail
              refine hK.out _ _ ?_ (fun hHeld2 => ?_)
              · (try dsimp only); exact HP.out _ ((Only.refl _ _).drew.trans l1)
              clear hK K hHeld1
              try simp only [Act.put, List.setIfInBounds_toArray, List.set_cons_zero, List.set_cons_succ, List.getElem_toArray, List.getElem_cons_succ, List.getElem_cons_zero]
              refine tkW 4 rfl ?_; refine tkW 5 rfl ?_; refine tkW 6 rfl ?_; refine tkW 7 rfl ?_
              try simp only [Act.put, List.setIfInBounds_toArray, List.set_cons_zero, List.set_cons_succ, List.getElem_toArray, List.getElem_cons_succ, List.getElem_cons_zero]
              refine tkW 8 rfl ?_; refine tkW 10 rfl ?_; refine tkW 11 rfl ?_; refine tkW 12 rfl ?_
              try simp only [Act.put, List.setIfInBounds_toArray, List.set_cons_zero, List.set_cons_succ, List.getElem_toArray, List.getElem_cons_succ, List.getElem_cons_zero]
              refine tkW 13 rfl ?_; refine tkW 14 rfl ?_; refine tkW 15 rfl ?_; refine tkW 16 rfl ?_
              try simp only [Act.put, List.setIfInBounds_toArray, List.set_cons_zero, List.set_cons_succ, List.getElem_toArray, List.getElem_cons_succ, List.getElem_cons_zero]
              refine tkW 17 rfl ?_; refine tkW 18 rfl ?_; refine tkW 19 rfl ?_
              try simp only [Act.put, List.setIfInBounds_toArray, List.set_cons_zero, List.set_cons_succ, List.getElem_toArray, List.getElem_cons_succ, List.getElem_cons_zero]
              refine wpAnyH_ready (rs := [9]) (by kernel_rfl) (by simp) ?_
              refine AllReadyH.cons rfl (fun K hK => ?_) AllReadyH.nil
              first | (with_reducible refine iteYes ?hcx ?htx; case hcx => kernel_rfl) | rw [if_pos (by rfl)]
              simp only [List.getElem_toArray, List.getElem_cons_succ, List.getElem_cons_zero]
              go_simp
              (go_at_call 11; refine (HSA.out _ ((Only.refl _ _).drew.trans l1)).mono ?_; rintro e y2 ⟨sv, rfl, s2, l2, _⟩; obtain ⟨sa, sc, rfl, s3⟩ := s2.shape)
              try go_wp2_with fail
              refine hK.out _ _ ?_ (fun hHeld3 => ?_)
              · (try dsimp only); exact HP.out _ ((Only.refl _ _).drew.trans (l1.trans l2))
              clear hK K hHeld2
              try simp only [Act.put, List.setIfInBounds_toArray, List.set_cons_zero, List.set_cons_succ, List.getElem_toArray, List.getElem_cons_succ, List.getElem_cons_zero]
              refine wpAnyH_ready (rs := [20]) (by kernel_rfl) (by simp) ?_
              refine AllReadyH.cons rfl (fun K hK => ?_) AllReadyH.nil
              first | (with_reducible refine iteYes ?hcx ?htx; case hcx => kernel_rfl) | rw [if_pos (by rfl)]
              simp only [List.getElem_toArray, List.getElem_cons_succ, List.getElem_cons_zero]
              go_simp
              (go_at_call 12; refine (HRA.out _ ((Only.refl _ _).drew.trans (l1.trans l2))).mono ?_; rintro e y3 ⟨rv, rfl, r2, l3, _⟩; obtain ⟨ra, rc, rfl, r3⟩ := r2.shape)
              try go_wp2_with fail
              refine hK.out _ _ ?_ (fun hHeld4 => ?_)
              · (try dsimp only); exact HP.out _ ((Only.refl _ _).drew.trans (l1.trans (l2.trans l3)))
              clear hK K hHeld3
              try simp only [Act.put, List.setIfInBounds_toArray, List.set_cons_zero, List.set_cons_succ, List.getElem_toArray, List.getElem_cons_succ, List.getElem_cons_zero]
              refine wpAnyH_ready (rs := [21]) (by kernel_rfl) (by simp) ?_
              refine AllReadyH.cons rfl (fun K hK => ?_) AllReadyH.nil
              first | (with_reducible refine iteYes ?hcx ?htx; case hcx => kernel_rfl) | rw [if_pos (by rfl)]
              simp only [List.getElem_toArray, List.getElem_cons_succ, List.getElem_cons_zero]
              go_simp
              (go_at_call 10; refine (sameInts_calls sa ra sc rc (sortZ (seenR ys k.ex k.ey k.ez k.ef k.et)) _ y3 rfl (by rw [(sortZ_perm _).length_eq]; unfold seenR; rw [List.length_map]; exact Nat.le_trans (List.length_filter_le _ _) (by omega)) (IntsAt.only (show IntsAt y2 sa _ from s3) l3) r3).mono ?_; rintro e y4 ⟨rfl, l4⟩)
              try go_wp2_with fail
              refine hK.out _ _ ?_ (fun hHeld5 => ?_)
              · (try dsimp only); exact HP.out _ ((Only.refl _ _).drew.trans (l1.trans (l2.trans (l3.trans l4))))
              clear hK K hHeld4
              try simp only [Act.put, List.setIfInBounds_toArray, List.set_cons_zero, List.set_cons_succ, List.getElem_toArray, List.getElem_cons_succ, List.getElem_cons_zero]
              refine tkW 22 rfl ?_; refine tkW 23 rfl ?_
              try simp only [Act.put, List.setIfInBounds_toArray, List.set_cons_zero, List.set_cons_succ, List.getElem_toArray, List.getElem_cons_succ, List.getElem_cons_zero]
              refine wpAnyH_done (by kernel_rfl) ?_ _
              go_wp2_with fail
              go_roundg (n + 1 - (i + 1))
              case measure => have := H1.out.2; omega
              case rel =>
                refine ⟨i + 1, by go_num, ⟨by omega, rfl⟩, ys, HF.out.1.only ((Only.refl _ _).drew.trans (l1.trans (l2.trans (l3.trans l4)))), HF.out.2.2.1⟩
            · have t1 : (k.wt == 1) = false := by simpa using hw1
              have HF : Hid (InF w x kx k (.slice a4 xs.length c4) xs i wr) := ⟨⟨D, HW.out.1, HW.out.2.1, HW.out.2.2.1, HI.out.2.2.2.1, HI.out.2.2.2.2⟩, HW.out.2.2.2.2.1, by have := hx80.out.2; omega, hx8⟩
              clear hw0 hw1
              go_upto_region 27 with fail
              have HP : Hid (∀ w', Only [] wr w' → w'.cell? ⟨kx, 18, none⟩ = some (.int .i64 (k.ex)) ∧ w'.cell? ⟨kx, 19, none⟩ = some (.int .i64 (k.ey)) ∧ w'.cell? ⟨kx, 20, none⟩ = some (.int .i64 (k.ez)) ∧ w'.cell? ⟨kx, 21, none⟩ = some (.int .i64 (k.ef)) ∧ w'.cell? ⟨kx, 22, none⟩ = some (.int .i64 (k.et))) := fun w' oo => by
                have t1 := HF.out.2.1.only oo (by simp)
                exact ⟨t1.off 18, t1.off 19, t1.off 20, t1.off 21, t1.off 22⟩
              have hz8 := HF.out.2.2.2
              have HMA : Hid (∀ u, Only [] wr u → Calls Try.prog 9 #[.pointer (some ⟨x, 0, none⟩)] u fun e u' => e = .returned (.int .i64 ((xs.length : Int))) ∧ Only [] u u') := fun u oo => by
                obtain ⟨Dz, g1, _⟩ := HF.out.1
                exact many_all x Dz xs u (g1.only oo (by simp))
              have HSA : Hid (∀ u, Only [] wr u → Calls Try.prog 11 #[.pointer (some ⟨x, 0, none⟩), .agg #[.int .i64 (k.ex), .int .i64 (k.ey), .int .i64 (k.ez), .int .i64 (k.ef), .int .i64 (k.et)]] u (SeesPost u (seenR xs k.ex k.ey k.ez k.ef k.et))) := fun u oo => by
                obtain ⟨Dz, g1, _⟩ := HF.out.1
                exact sees_all x Dz xs k.ex k.ey k.ez k.ef k.et u (g1.only oo (by simp))
              have HRA : Hid (∀ u, Only [] wr u → Calls Try.prog 12 #[.slice a4 xs.length c4, .agg #[.int .i64 (k.ex), .int .i64 (k.ey), .int .i64 (k.ez)], .int .i64 (k.ef), .int .i64 (k.et)] u (SeesPost u (seenR xs k.ex k.ey k.ez k.ef k.et))) := fun u oo => by
                obtain ⟨Dz, _, g2, _⟩ := HF.out.1
                exact refSees_calls _ xs k.ex k.ey k.ez k.ef k.et u (g2.kept oo (by simp)) (by omega)
              refine wp_region_held_drew (S := (fun w' => w'.cell? ⟨kx, 18, none⟩ = some (.int .i64 (k.ex)) ∧ w'.cell? ⟨kx, 19, none⟩ = some (.int .i64 (k.ey)) ∧ w'.cell? ⟨kx, 20, none⟩ = some (.int .i64 (k.ez)) ∧ w'.cell? ⟨kx, 21, none⟩ = some (.int .i64 (k.ef)) ∧ w'.cell? ⟨kx, 22, none⟩ = some (.int .i64 (k.et)))) (by kernel_rfl) ?_ (fun hHeld1 => ?_)
              · (try dsimp only); exact HP.out _ (Only.refl _ _).drew
              refine tkW 0 rfl ?_; refine tkW 2 rfl ?_; refine tkW 3 rfl ?_
              try simp only [Act.put, List.setIfInBounds_toArray, List.set_cons_zero, List.set_cons_succ, List.getElem_toArray, List.getElem_cons_succ, List.getElem_cons_zero]
              refine wpAnyH_ready (rs := [1]) (by kernel_rfl) (by simp) ?_
              refine AllReadyH.cons rfl (fun K hK => ?_) AllReadyH.nil
              first | (with_reducible refine iteYes ?hcx ?htx; case hcx => kernel_rfl) | rw [if_pos (by rfl)]
              simp only [List.getElem_toArray, List.getElem_cons_succ, List.getElem_cons_zero]
              go_simp
              (go_at_call 9; refine (HMA.out _ (Only.refl _ _).drew).mono ?_; rintro e y1 ⟨rfl, l1⟩)
              try go_wp2_with fail
              refine hK.out _ _ ?_ (fun hHeld2 => ?_)
              · (try dsimp only); exact HP.out _ ((Only.refl _ _).drew.trans l1)
              clear hK K hHeld1
              try simp only [Act.put, List.setIfInBounds_toArray, List.set_cons_zero, List.set_cons_succ, List.getElem_toArray, List.getElem_cons_succ, List.getElem_cons_zero]
              refine tkW 4 rfl ?_; refine tkW 5 rfl ?_; refine tkW 6 rfl ?_; refine tkW 7 rfl ?_
              try simp only [Act.put, List.setIfInBounds_toArray, List.set_cons_zero, List.set_cons_succ, List.getElem_toArray, List.getElem_cons_succ, List.getElem_cons_zero]
              refine tkW 8 rfl ?_; refine tkW 10 rfl ?_; refine tkW 11 rfl ?_; refine tkW 12 rfl ?_
              try simp only [Act.put, List.setIfInBounds_toArray, List.set_cons_zero, List.set_cons_succ, List.getElem_toArray, List.getElem_cons_succ, List.getElem_cons_zero]
              refine tkW 13 rfl ?_; refine tkW 14 rfl ?_; refine tkW 15 rfl ?_; refine tkW 16 rfl ?_
              try simp only [Act.put, List.setIfInBounds_toArray, List.set_cons_zero, List.set_cons_succ, List.getElem_toArray, List.getElem_cons_succ, List.getElem_cons_zero]
              refine tkW 17 rfl ?_; refine tkW 18 rfl ?_; refine tkW 19 rfl ?_
              try simp only [Act.put, List.setIfInBounds_toArray, List.set_cons_zero, List.set_cons_succ, List.getElem_toArray, List.getElem_cons_succ, List.getElem_cons_zero]
              refine wpAnyH_ready (rs := [9]) (by kernel_rfl) (by simp) ?_
              refine AllReadyH.cons rfl (fun K hK => ?_) AllReadyH.nil
              first | (with_reducible refine iteYes ?hcx ?htx; case hcx => kernel_rfl) | rw [if_pos (by rfl)]
              simp only [List.getElem_toArray, List.getElem_cons_succ, List.getElem_cons_zero]
              go_simp
              (go_at_call 11; refine (HSA.out _ ((Only.refl _ _).drew.trans l1)).mono ?_; rintro e y2 ⟨sv, rfl, s2, l2, _⟩; obtain ⟨sa, sc, rfl, s3⟩ := s2.shape)
              try go_wp2_with fail
              refine hK.out _ _ ?_ (fun hHeld3 => ?_)
              · (try dsimp only); exact HP.out _ ((Only.refl _ _).drew.trans (l1.trans l2))
              clear hK K hHeld2
              try simp only [Act.put, List.setIfInBounds_toArray, List.set_cons_zero, List.set_cons_succ, List.getElem_toArray, List.getElem_cons_succ, List.getElem_cons_zero]
              refine wpAnyH_ready (rs := [20]) (by kernel_rfl) (by simp) ?_
              refine AllReadyH.cons rfl (fun K hK => ?_) AllReadyH.nil
              first | (with_reducible refine iteYes ?hcx ?htx; case hcx => kernel_rfl) | rw [if_pos (by rfl)]
              simp only [List.getElem_toArray, List.getElem_cons_succ, List.getElem_cons_zero]
              go_simp
              (go_at_call 12; refine (HRA.out _ ((Only.refl _ _).drew.trans (l1.trans l2))).mono ?_; rintro e y3 ⟨rv, rfl, r2, l3, _⟩; obtain ⟨ra, rc, rfl, r3⟩ := r2.shape)
              try go_wp2_with fail
              refine hK.out _ _ ?_ (fun hHeld4 => ?_)
              · (try dsimp only); exact HP.out _ ((Only.refl _ _).drew.trans (l1.trans (l2.trans l3)))
              clear hK K hHeld3
              try simp only [Act.put, List.setIfInBounds_toArray, List.set_cons_zero, List.set_cons_succ, List.getElem_toArray, List.getElem_cons_succ, List.getElem_cons_zero]
              refine wpAnyH_ready (rs := [21]) (by kernel_rfl) (by simp) ?_
              refine AllReadyH.cons rfl (fun K hK => ?_) AllReadyH.nil
              first | (with_reducible refine iteYes ?hcx ?htx; case hcx => kernel_rfl) | rw [if_pos (by rfl)]
              simp only [List.getElem_toArray, List.getElem_cons_succ, List.getElem_cons_zero]
              go_simp
              (go_at_call 10; refine (sameInts_calls sa ra sc rc (sortZ (seenR xs k.ex k.ey k.ez k.ef k.et)) _ y3 rfl (by rw [(sortZ_perm _).length_eq]; unfold seenR; rw [List.length_map]; exact Nat.le_trans (List.length_filter_le _ _) (by omega)) (IntsAt.only (show IntsAt y2 sa _ from s3) l3) r3).mono ?_; rintro e y4 ⟨rfl, l4⟩)
              try go_wp2_with fail
              refine hK.out _ _ ?_ (fun hHeld5 => ?_)
              · (try dsimp only); exact HP.out _ ((Only.refl _ _).drew.trans (l1.trans (l2.trans (l3.trans l4))))
              clear hK K hHeld4
              try simp only [Act.put, List.setIfInBounds_toArray, List.set_cons_zero, List.set_cons_succ, List.getElem_toArray, List.getElem_cons_succ, List.getElem_cons_zero]
              refine tkW 22 rfl ?_; refine tkW 23 rfl ?_
              try simp only [Act.put, List.setIfInBounds_toArray, List.set_cons_zero, List.set_cons_succ, List.getElem_toArray, List.getElem_cons_succ, List.getElem_cons_zero]
              refine wpAnyH_done (by kernel_rfl) ?_ _
              go_wp2_with fail
              go_roundg (n + 1 - (i + 1))
              case measure => have := H1.out.2; omega
              case rel =>
                refine ⟨i + 1, by go_num, ⟨by omega, rfl⟩, xs, HF.out.1.only ((Only.refl _ _).drew.trans (l1.trans (l2.trans (l3.trans l4)))), HF.out.2.2.1⟩
    · have tin : ¬ (i : Int) < (n : Int) := by omega
      go_wp2_with fail
      go_ret
      obtain ⟨D2, _, _, oo, _⟩ := HI.out.1
      exact ⟨rfl, oo⟩
end Go.Proofs.Ytdbjbjgnkkhgcaa
/- Whatever looks are given, InterestPlays returns true: whichever bodies are put, moved, and taken away, what an eye sees is the document's, as if all were looked at; no condition. -/
namespace Go.Proofs.Ytdbjbjgnkkhgcaa.interestPlays
open Go.ChangeShapes Go.WideShapes Go.ChangeAt Go.RowKit Go.Joins Go.Deep
set_option linter.unusedVariables false
set_option linter.unusedSimpArgs false

theorem own : ownKnob Try.prog.godebug = none := by kernel_rfl
theorem laidOut : laidOutB Try.prog = true := by kernel_rfl
theorem cellsInt : Try.prog.cellsOf 3 = 1 := by kernel_rfl
section
variable {H : Type} {enc : TypeId × Value → H} {w : World} {base : Nat} {sp : Nat → Bool} {held : Bool}
theorem cellsVec : Try.prog.cellsOf 27 = 3 := by kernel_rfl
theorem cellsShape : Try.prog.cellsOf 29 = 4 := by kernel_rfl
theorem cellsBody : Try.prog.cellsOf 31 = 17 := by kernel_rfl
theorem cellsEye : Try.prog.cellsOf 33 = 5 := by kernel_rfl
theorem cellsLook : Try.prog.cellsOf 35 = 23 := by kernel_rfl
theorem trod_struct8 {P : Program} {t : TypeId} {f0 f1 f2 f3 f4 f5 f6 f7 : Field} {fuel : Nat} {cs : List Value} {x : DataW H × List MemPlace} (ht : P.underlying t = some (.struct #[f0, f1, f2, f3, f4, f5, f6, f7])) (h : DataW.trod enc P w base sp held fuel t cs = some x) :
    ∃ y0 y1 y2 y3 y4 y5 y6 y7 n, cs.length = P.cellsOf t ∧ DataW.trod enc P w base sp held n f0.type ((cs.drop f0.offset).take (P.cellsOf f0.type)) = some y0 ∧ DataW.trod enc P w base sp held n f1.type ((cs.drop f1.offset).take (P.cellsOf f1.type)) = some y1 ∧ DataW.trod enc P w base sp held n f2.type ((cs.drop f2.offset).take (P.cellsOf f2.type)) = some y2 ∧ DataW.trod enc P w base sp held n f3.type ((cs.drop f3.offset).take (P.cellsOf f3.type)) = some y3 ∧ DataW.trod enc P w base sp held n f4.type ((cs.drop f4.offset).take (P.cellsOf f4.type)) = some y4 ∧ DataW.trod enc P w base sp held n f5.type ((cs.drop f5.offset).take (P.cellsOf f5.type)) = some y5 ∧ DataW.trod enc P w base sp held n f6.type ((cs.drop f6.offset).take (P.cellsOf f6.type)) = some y6 ∧ DataW.trod enc P w base sp held n f7.type ((cs.drop f7.offset).take (P.cellsOf f7.type)) = some y7 := by
  obtain ⟨xs, n, _, rfl, hl, hlen, hf⟩ := DataW.trod_struct ht h
  match xs, hlen with
  | [y0, y1, y2, y3, y4, y5, y6, y7], _ => exact ⟨y0, y1, y2, y3, y4, y5, y6, y7, n, hl, by simpa using hf 0 f0 rfl, by simpa using hf 1 f1 rfl, by simpa using hf 2 f2 rfl, by simpa using hf 3 f3 rfl, by simpa using hf 4 f4 rfl, by simpa using hf 5 f5 rfl, by simpa using hf 6 f6 rfl, by simpa using hf 7 f7 rfl⟩
theorem int_open {fuel : Nat} {cs : List Value} {x : DataW H × List MemPlace} (h : DataW.trod enc Try.prog w base sp held fuel 3 cs = some x) : ∃ a, cs = [.int .i64 a] ∧ (Lit.int .i64 a).wf = true := by
  obtain ⟨a, e, _, hw⟩ := DataW.trod_int Try.underlying3 h
  exact ⟨a, e, hw⟩
set_option maxRecDepth 100000 in
theorem vec_open {fuel : Nat} {cs : List Value} {x : DataW H × List MemPlace} (h : DataW.trod enc Try.prog w base sp held fuel 27 cs = some x) : ∃ a b c, cs = [.int .i64 a, .int .i64 b, .int .i64 c] := by
  obtain ⟨y0, y1, y2, n, rfl, hl, h0, h1, h2⟩ := trod_struct3 Try.underlying27 h
  rw [cellsVec] at hl
  match cs, hl with
  | [c0, c1, c2], _ =>
    simp only [cellsInt] at h0 h1 h2
    obtain ⟨a, e0, _⟩ := int_open h0
    obtain ⟨b, e1, _⟩ := int_open h1
    obtain ⟨c, e2, _⟩ := int_open h2
    simp at e0 e1 e2
    subst e0 e1 e2
    exact ⟨a, b, c, rfl⟩
set_option maxRecDepth 100000 in
theorem shape_open {fuel : Nat} {cs : List Value} {x : DataW H × List MemPlace} (h : DataW.trod enc Try.prog w base sp held fuel 29 cs = some x) : ∃ k a b c, cs = [.int .i64 k, .int .i64 a, .int .i64 b, .int .i64 c] := by
  obtain ⟨y0, y1, n, rfl, hl, h0, h1⟩ := trod_struct2 Try.underlying29 h
  rw [cellsShape] at hl
  match cs, hl with
  | [c0, c1, c2, c3], _ =>
    simp only [cellsInt, cellsVec] at h0 h1
    obtain ⟨k, e0, _⟩ := int_open h0
    obtain ⟨a, b, c, e1⟩ := vec_open h1
    simp at e0 e1
    obtain ⟨rfl, rfl, rfl⟩ := e1
    subst e0
    exact ⟨k, a, b, c, rfl⟩
set_option maxRecDepth 100000 in
theorem body_open {fuel : Nat} {cs : List Value} {x : DataW H × List MemPlace} (h : DataW.trod enc Try.prog w base sp held fuel 31 cs = some x) : ∃ q : Bd, In64V q.id ∧ cs = bdL q := by
  obtain ⟨y0, y1, y2, y3, y4, y5, y6, y7, n, hl, h0, h1, h2, h3, h4, h5, h6, h7⟩ := trod_struct8 Try.underlying31 h
  rw [cellsBody] at hl
  match cs, hl with
  | [c0, c1, c2, c3, c4, c5, c6, c7, c8, c9, c10, c11, c12, c13, c14, c15, c16], _ =>
    simp only [cellsInt, cellsVec, cellsShape] at h0 h1 h2 h3 h4 h5 h6 h7
    obtain ⟨a0, e0, hw⟩ := int_open h0
    obtain ⟨a1, e1, _⟩ := int_open h1
    obtain ⟨s0, s1, s2, s3, e2⟩ := shape_open h2
    obtain ⟨p0, p1, p2, e3⟩ := vec_open h3
    obtain ⟨v0, v1, v2, e4⟩ := vec_open h4
    obtain ⟨u0, u1, u2, e5⟩ := vec_open h5
    obtain ⟨a6, e6, _⟩ := int_open h6
    obtain ⟨a7, e7, _⟩ := int_open h7
    simp at e0 e1 e2 e3 e4 e5 e6 e7
    obtain ⟨rfl, rfl, rfl, rfl⟩ := e2
    obtain ⟨rfl, rfl, rfl⟩ := e3
    obtain ⟨rfl, rfl, rfl⟩ := e4
    obtain ⟨rfl, rfl, rfl⟩ := e5
    subst e0 e1 e6 e7
    exact ⟨⟨a0, a1, s0, s1, s2, s3, p0, p1, p2, v0, v1, v2, u0, u1, u2, a6, a7⟩, hw, rfl⟩
set_option maxRecDepth 100000 in
theorem eye_open {fuel : Nat} {cs : List Value} {x : DataW H × List MemPlace} (h : DataW.trod enc Try.prog w base sp held fuel 33 cs = some x) : ∃ a b c f t, cs = [.int .i64 a, .int .i64 b, .int .i64 c, .int .i64 f, .int .i64 t] := by
  obtain ⟨y0, y1, y2, n, rfl, hl, h0, h1, h2⟩ := trod_struct3 Try.underlying33 h
  rw [cellsEye] at hl
  match cs, hl with
  | [c0, c1, c2, c3, c4], _ =>
    simp only [cellsInt, cellsVec] at h0 h1 h2
    obtain ⟨a, b, c, e0⟩ := vec_open h0
    obtain ⟨f, e1, _⟩ := int_open h1
    obtain ⟨t, e2, _⟩ := int_open h2
    simp at e0 e1 e2
    obtain ⟨rfl, rfl, rfl⟩ := e0
    subst e1 e2
    exact ⟨a, b, c, f, t, rfl⟩
set_option maxRecDepth 100000 in
theorem look_open {fuel : Nat} {cs : List Value} {x : DataW H × List MemPlace} (h : DataW.trod enc Try.prog w base sp held fuel 35 cs = some x) : ∃ k : Lk, In64V k.q.id ∧ cs = lkL k := by
  obtain ⟨y0, y1, y2, n, rfl, hl, h0, h1, h2⟩ := trod_struct3 Try.underlying35 h
  rw [cellsLook] at hl
  match cs, hl with
  | [c0, c1, c2, c3, c4, c5, c6, c7, c8, c9, c10, c11, c12, c13, c14, c15, c16, c17, c18, c19, c20, c21, c22], _ =>
    simp only [cellsInt, cellsBody, cellsEye] at h0 h1 h2
    obtain ⟨k, e0, _⟩ := int_open h0
    obtain ⟨q, hi, e1⟩ := body_open h1
    obtain ⟨a, b, c, f, t, e2⟩ := eye_open h2
    simp at e0
    simp [bdL] at e1
    simp at e2
    obtain ⟨rfl, rfl, rfl, rfl, rfl, rfl, rfl, rfl, rfl, rfl, rfl, rfl, rfl, rfl, rfl, rfl, rfl⟩ := e1
    obtain ⟨rfl, rfl, rfl, rfl, rfl⟩ := e2
    subst e0
    exact ⟨⟨k, q, a, b, c, f, t⟩, hi, rfl⟩
set_option maxRecDepth 100000 in
/-- The looks that came in. -/
theorem looks_open {fuel : Nat} {a : Option Addr} {len cap : Nat} {x : DataW H × List MemPlace} (h : DataW.trod enc Try.prog w 0 (fun _ => true) true fuel 22 [.slice a len cap] = some x) : ∃ L, LksAt w a len L := by
  rcases open_slice Try.underlying22 h with ⟨e, _⟩ | ⟨ad, len', cap', m, n, D, Pl, e, hb, hl, hm, hmm, _, hx⟩
  · simp at e
    obtain ⟨rfl, rfl, rfl⟩ := e
    exact ⟨fun _ => ⟨0, bd0, 0, 0, 0, 0, 0⟩, fun j hj => by omega⟩
  · simp at e
    obtain ⟨rfl, rfl, rfl⟩ := e
    simp only [if_true] at hmm
    subst hmm
    have key : ∀ j, ∃ z : Lk, j < len → In64V z.q.id ∧ ∃ g o, some ad = some ⟨g, o, none⟩ ∧ w.rangeAt g (o + j * 23) (lkL z) := by
      intro j
      by_cases hj : j < len
      · obtain ⟨cs, hc, ht⟩ := hx j (by omega)
        rw [cellsLook] at hc
        obtain ⟨z, hi, rfl⟩ := look_open ht
        obtain ⟨_, _, hcell⟩ := World.cells?_some hc
        refine ⟨z, fun _ => ⟨hi, ?_⟩⟩
        obtain ⟨b, o, spot⟩ := ad
        cases spot with
        | some s =>
          exfalso
          obtain ⟨cs0, hc0, ht0⟩ := hx 0 (by omega)
          rw [cellsLook] at hc0
          obtain ⟨z', _, rfl⟩ := look_open ht0
          obtain ⟨_, _, hcell0⟩ := World.cells?_some hc0
          have k := hcell0 0 (by omega)
          simp only [lkL, Addr.add, Nat.zero_mul, if_true, World.cell?, Option.isSome_some, List.getElem?_cons_zero] at k
          split at k <;> cases k
        | none =>
          refine ⟨b, o, rfl, fun i v hv => ?_⟩
          have hi23 : i < 23 := (List.getElem?_eq_some_iff.1 hv).1
          have k0 := hcell i (by omega)
          rw [add_plain, add_plain] at k0
          exact k0.trans hv
      · exact ⟨⟨0, bd0, 0, 0, 0, 0, 0⟩, fun h => absurd h hj⟩
    exact ⟨fun j => (key j).choose, fun j hj => (key j).choose_spec hj⟩
end
section
variable {H : Type} {enc : TypeId × Value → H} {P : Program} {w : World} {base : Nat} {spare : Nat → Bool} {held : Bool}
theorem trodAll_n {t0 : TypeId} {args : Array Value} {ds : List (DataW H)} {ps : List MemPlace} (h : DataW.TrodAll enc P w base spare held [t0] args.toList ds ps) :
    ∃ v0 d0 q0, args = #[v0] ∧ ds = [d0] ∧ ps = q0 ∧ DataW.Trod enc P w base spare held t0 v0 d0 q0 := by
  obtain ⟨v0, vs0, d0, ds0, q0, ps0, hargs, rfl, rfl, hd0, hr0⟩ := trodAll_cons h
  obtain ⟨rfl, rfl, rfl⟩ := trodAll_nil hr0
  exact ⟨v0, d0, q0, by cases args; simp_all, rfl, by simp, hd0⟩
theorem mkN {t0 : TypeId} {v0 : Value} {d0 : DataW H} {q0 : List MemPlace} (h0 : DataW.Trod enc P w base spare held t0 v0 d0 q0) :
    DataW.TrodAll enc P w base spare held [t0] [v0] [d0] (q0) := by
  exact trodAll_mk1 h0
end
set_option maxHeartbeats 800000 in
set_option maxRecDepth 100000 in
theorem lifted (os : Os) (started : os.Started) (H : Type) (enc : TypeId × Value → H) :
    ReturnsInHanded {} Try.checked os 3 .any (Rows.interestPlaysSpec.pre6 enc Try.prog Try.f3 Rows.interestPlaysRow.domain false) (Rows.interestPlaysSpec.post enc Try.prog Try.f3 false true false false) := by
  refine returnsInHanded_of_change (C := Try.checked) own started (by kernel_rfl) Try.func3
    (ChangeSpec.witness6 (enc := enc) (C := Try.checked) false ⟨#[], #[.slice none 0 0], []⟩ 8 (by kernel_rfl) (by kernel_rfl) (by kernel_rfl) (by kernel_rfl)) ?_
  intro W base args ds gs before hval0 hW hcnd _
  have hval : ∀ (j : Nat) t v, Try.f3.params[j]? = some t → args[j]? = some v → Value.okWide Try.prog W .any base t v := hval0
  have hW' := hW
  obtain ⟨p, q, hA0, hV0, rfl, hfz, hnd⟩ := hW
  have hA : DataW.TrodAll enc Try.prog W 0 (fun _ => true) true Try.f3.params.toList args.toList ds p := hA0
  rw [Try.params3] at hA hval
  obtain ⟨v0, d0, q0, hargs, rfl, hps, h0⟩ := trodAll_n hA
  subst hargs
  have hps2 := hps.symm
  clear hps
  subst hps2
  obtain ⟨rfl, rfl⟩ := trodVars_none hV0
  have h0k := h0
  obtain ⟨a0, len0, cap0, rfl⟩ := okWide_slice Try.underlying22 (hval 0 22 v0 rfl rfl)
  obtain ⟨fuel0, hf0⟩ := h0
  clear hA0 hval0
  simp only [List.append_nil, List.nil_append, List.append_assoc] at hW'
  have hlt0 : ∀ y ∈ q0, y.block < W.heap.size := fun y hy => by simpa using hW'.lt y (by simp [hy])
  have harg0 : ∀ W' : World, Below W.heap.size W W' → DataW.Trod enc Try.prog W' 0 (fun b => decide (b < W.heap.size)) true 22 (.slice a0 len0 cap0) d0 q0 :=
    fun W' hn => Below.trod laidOut (by kernel_rfl) (of_decide_eq_true (by kernel_rfl)) h0k hn hlt0
  have hc : Calls Try.prog 3 #[.slice a0 len0 cap0] W fun e w' => e = .returned (.bool true) ∧ Only [] W w' := by
    obtain ⟨L, hL⟩ := looks_open (fuel := fuel0) (by simpa [Value.cells] using hf0)
    by_cases hl : 80 < len0
    · exact interestPlays_long a0 len0 cap0 W hl
    · exact interestPlays_calls a0 len0 cap0 L W hL (by omega)
  refine hc.mono fun e W' ⟨he, ho⟩ => ?_
  have hn : Below W.heap.size W W' := ho.below (by simp) (Nat.le_refl _)
  subst he
  exact ⟨_, rfl, _, _, _, [], _, [], hW', trodAll_mk1 (shut_bool Try.underlying4 _), mkN (harg0 _ hn), rfl, hn.frame _, fun h => by cases h⟩

theorem row : Rows.InterestPlaysSaid :=
  OpenClaim.holds_of_wide 3 Try.f3 rfl rfl rfl rfl rfl rfl rfl ⟨rfl, rfl, rfl, rfl, rfl⟩ rfl rfl rfl rfl rfl (by kernel_rfl) Try.func3 (by kernel_rfl)
    (of_decide_eq_true (by kernel_rfl)) (by unfold Func.isWrapper; first | (rw [if_pos (by decide +kernel)]; kernel_rfl) | (rw [if_neg (by decide +kernel)]; exact ⟨rfl, rfl⟩))
    (fun os started H enc _ => lifted os started H enc)
end Go.Proofs.Ytdbjbjgnkkhgcaa.interestPlays
namespace Go.Proofs.Ytdbjbjgnkkhgcaa
theorem interestPlays_holds : Rows.InterestPlaysSaid := interestPlays.row
#print axioms interestPlays_holds
end Go.Proofs.Ytdbjbjgnkkhgcaa
