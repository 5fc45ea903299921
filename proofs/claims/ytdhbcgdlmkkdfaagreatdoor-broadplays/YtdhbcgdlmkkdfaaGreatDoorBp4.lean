/- What gyrelaw.BroadPlays holds while it runs: the tree, the law's map beside it, the script as it came in. -/
import Derived.Test.YtdhbcgdlmkkdfaaGreatDoorBpA
namespace Go.Proofs.YtdhbcgdlmkkdfaaGreatDoor
open Go.ChangeShapes Go.WideShapes Go.ChangeAt Go.RowKit
set_option linter.unusedVariables false
set_option linter.unusedSimpArgs false

theorem cell_old {w w' : World} (o : Only [] w w') {a : Addr} {v : Value} (h : w.cell? a = some v) : w'.cell? a = some v := by
  rw [World.cell?_of_block (w := w) (o.block a.block (World.block_lt_of_cell? w a h) (by simp))]; exact h
theorem EtIs.only {w w' : World} (h : EtIs w) (o : Only [] w w') : EtIs w' := cell_old o h
/-- The steps of a script that came in. -/
def SetsAt (w : World) (a : Option Addr) (n : Nat) (Kf If : Nat → Int) (Bf : Nat → Bx) : Prop := ∀ j, j < n → In64 (If j) ∧ ∃ b o, a = some ⟨b, o, none⟩ ∧ w.cell? ⟨b, o + j * 8, none⟩ = some (.int .i64 (Kf j)) ∧ w.cell? ⟨b, o + j * 8 + 1, none⟩ = some (.int .i64 (If j)) ∧ w.cell? ⟨b, o + j * 8 + 2, none⟩ = some (.int .i64 ((Bf j).x0)) ∧ w.cell? ⟨b, o + j * 8 + 3, none⟩ = some (.int .i64 ((Bf j).x1)) ∧ w.cell? ⟨b, o + j * 8 + 4, none⟩ = some (.int .i64 ((Bf j).x2)) ∧ w.cell? ⟨b, o + j * 8 + 5, none⟩ = some (.int .i64 ((Bf j).x3)) ∧ w.cell? ⟨b, o + j * 8 + 6, none⟩ = some (.int .i64 ((Bf j).x4)) ∧ w.cell? ⟨b, o + j * 8 + 7, none⟩ = some (.int .i64 ((Bf j).x5))
theorem SetsAt.only {w w' : World} {a : Option Addr} {n : Nat} {Kf If : Nat → Int} {Bf : Nat → Bx} (h : SetsAt w a n Kf If Bf) (o : Only [] w w') : SetsAt w' a n Kf If Bf := by
  intro j hj
  obtain ⟨hi, b, of, e, h0, h1, h2, h3, h4, h5, h6, h7⟩ := h j hj
  exact ⟨hi, b, of, e, cell_old o h0, cell_old o h1, cell_old o h2, cell_old o h3, cell_old o h4, cell_old o h5, cell_old o h6, cell_old o h7⟩
/-- A step, in a block of its own. -/
def SetAt (w : World) (k : Nat) (kind i : Int) (q : Bx) : Prop := w.heap[k]? = some (.cells #[.int .i64 kind, .int .i64 i, .int .i64 (q.x0), .int .i64 (q.x1), .int .i64 (q.x2), .int .i64 (q.x3), .int .i64 (q.x4), .int .i64 (q.x5)] 36)
theorem SetAt.lt {w : World} {k : Nat} {kind i : Int} {q : Bx} (h : SetAt w k kind i q) : k < w.heap.size := (Array.getElem?_eq_some_iff.1 h).1
theorem SetAt.off {w : World} {k : Nat} {kind i : Int} {q : Bx} (h : SetAt w k kind i q) (j : Nat) : w.cell? ⟨k, j, none⟩ = (#[.int .i64 kind, .int .i64 i, .int .i64 (q.x0), .int .i64 (q.x1), .int .i64 (q.x2), .int .i64 (q.x3), .int .i64 (q.x4), .int .i64 (q.x5)] : Array Value)[j]? := by
  unfold SetAt at h; simp [World.cell?, h]
theorem SetAt.only {D : List Nat} {w w' : World} {k : Nat} {kind i : Int} {q : Bx} (h : SetAt w k kind i q) (o : Only D w w') (s : k ∉ D) : SetAt w' k kind i q := (o.block k h.lt s).trans h
/-- The tree, apart from the blocks L and from all that was there at w. -/
structure TS (w : World) (t : Nat) (L : List Nat) (fat : Int) (M : List (Int × Bx)) (wr : World) : Prop where
  ex : ∃ D, TreeIs wr t fat D M ∧ ∀ b ∈ D, w.heap.size ≤ b ∧ b ∉ L
  lt : ∀ b ∈ L, b < wr.heap.size
def Turn (w : World) (L : List Nat) (w1 w2 : World) : Prop := ∃ D, Only D w1 w2 ∧ ∀ b ∈ D, w.heap.size ≤ b ∧ b ∉ L
theorem Turn.block {w : World} {L : List Nat} {w1 w2 : World} (h : Turn w L w1 w2) {k : Nat} (hk : k ∈ L) (hl : k < w1.heap.size) : w2.heap[k]? = w1.heap[k]? := by
  obtain ⟨D, o, s⟩ := h
  exact o.block k hl (fun hd => (s k hd).2 hk)
theorem Turn.set {w : World} {L : List Nat} {w1 w2 : World} (h : Turn w L w1 w2) {k : Nat} (hk : k ∈ L) {kind i : Int} {q : Bx} (hs : SetAt w1 k kind i q) : SetAt w2 k kind i q := (h.block hk hs.lt).trans hs
theorem Turn.map {w : World} {L : List Nat} {w1 w2 : World} (h : Turn w L w1 w2) {m : Nat} (hk : m ∈ L) {M : List (Int × Bx)} (hs : BMap w1 m M) : BMap w2 m M := by
  obtain ⟨D, o, s⟩ := h
  exact hs.only o (fun hd => (s m hd).2 hk)
theorem Turn.old {w : World} {L : List Nat} {w1 w2 : World} (h : Turn w L w1 w2) (o : Only [] w w1) : Only [] w w2 := by
  obtain ⟨D, o2, s⟩ := h
  exact o.then o2 (fun b hb => Or.inr (s b hb).1)
theorem TS.put {w : World} {t : Nat} {L : List Nat} {fat : Int} {M : List (Int × Bx)} {wr : World} (h : TS w t L fat M wr) (i : Int) (q : Bx) (hi : In64 i) :
    Calls Tryz.prog 8 #[.pointer (some ⟨t, 0, none⟩), .int .i64 i, .agg #[.int .i64 (q.x0), .int .i64 (q.x1), .int .i64 (q.x2), .int .i64 (q.x3), .int .i64 (q.x4), .int .i64 (q.x5)]] wr fun e w' => e = .returned (errV (putC M i q)) ∧ TS w t L fat (putM M i q) w' ∧ Turn w L wr w' := by
  obtain ⟨D, hT, hD⟩ := h.ex
  refine (put_calls t fat D M i q wr hT hi).mono ?_
  rintro e w' ⟨rfl, D', hT', hD', o⟩
  refine ⟨rfl, ⟨⟨D', hT', fun b hb => ?_⟩, fun b hb => Nat.lt_of_lt_of_le (h.lt b hb) o.size⟩, D, o, hD⟩
  rcases hD' b hb with q | q
  · exact hD b q
  · have hl := hT.lt
    obtain ⟨_, _, hw, hDD, _⟩ := hT.ex
    have ht := hl t (by rw [hDD]; simp)
    have h0 := (hD t (by rw [hDD]; simp)).1
    exact ⟨by omega, fun hL => by have := h.lt b hL; omega⟩
theorem TS.remove {w : World} {t : Nat} {L : List Nat} {fat : Int} {M : List (Int × Bx)} {wr : World} (h : TS w t L fat M wr) (i : Int) (hi : In64 i) :
    Calls Tryz.prog 9 #[.pointer (some ⟨t, 0, none⟩), .int .i64 i] wr fun e w' => e = .returned (errV (delC M i)) ∧ TS w t L fat (del M i) w' ∧ Turn w L wr w' := by
  obtain ⟨D, hT, hD⟩ := h.ex
  refine (remove_calls t fat D M i wr hT hi).mono ?_
  rintro e w' ⟨rfl, D', hT', hD', o⟩
  refine ⟨rfl, ⟨⟨D', hT', fun b hb => ?_⟩, fun b hb => Nat.lt_of_lt_of_le (h.lt b hb) o.size⟩, D, o, hD⟩
  rcases hD' b hb with q | q
  · exact hD b q
  · have hl := hT.lt
    obtain ⟨_, _, hw, hDD, _⟩ := hT.ex
    have ht := hl t (by rw [hDD]; simp)
    have h0 := (hD t (by rw [hDD]; simp)).1
    exact ⟨by omega, fun hL => by have := h.lt b hL; omega⟩
theorem TS.keep {w : World} {t : Nat} {L : List Nat} {fat : Int} {M : List (Int × Bx)} {wr w' : World} (h : TS w t L fat M wr) {E : List Nat} (o : Only E wr w') (s : ∀ b ∈ E, b ∈ L) : TS w t L fat M w' := by
  obtain ⟨D, hT, hD⟩ := h.ex
  exact ⟨⟨D, hT.only o (fun b hb hE => (hD b hb).2 (s b hE)), hD⟩, fun b hb => Nat.lt_of_lt_of_le (h.lt b hb) o.size⟩
theorem TS.more {w : World} {t : Nat} {L : List Nat} {fat : Int} {M : List (Int × Bx)} {wr w' : World} (h : TS w t L fat M wr) (o : Only [] wr w') {k : Nat} (h1 : wr.heap.size ≤ k) (h2 : k < w'.heap.size) : TS w t (k :: L) fat M w' := by
  obtain ⟨D, hT, hD⟩ := h.ex
  refine ⟨⟨D, hT.only o (by simp), fun b hb => ⟨(hD b hb).1, ?_⟩⟩, fun b hb => ?_⟩
  · have := hT.lt b hb
    simp only [List.mem_cons, not_or]
    exact ⟨by omega, (hD b hb).2⟩
  · rcases List.mem_cons.1 hb with rfl | hb
    · exact h2
    · exact Nat.lt_of_lt_of_le (h.lt b hb) o.size
theorem TS.less {w : World} {t k : Nat} {L : List Nat} {fat : Int} {M : List (Int × Bx)} {wr : World} (h : TS w t (k :: L) fat M wr) : TS w t L fat M wr := by
  obtain ⟨D, hT, hD⟩ := h.ex
  exact ⟨⟨D, hT, fun b hb => ⟨(hD b hb).1, fun hl => (hD b hb).2 (List.mem_cons_of_mem _ hl)⟩⟩, fun b hb => h.lt b (List.mem_cons_of_mem _ hb)⟩
/-- What holds ahead of each round. -/
structure LS (w : World) (t m : Nat) (fat : Int) (M : List (Int × Bx)) (wr : World) : Prop where
  tree : TS w t [m] fat M wr
  map : BMap wr m M
  new : w.heap.size ≤ m
  old : Only [] w wr

/-- What holds inside a round, the step in a block of its own. -/
structure LX (w : World) (t m kx : Nat) (fat : Int) (M : List (Int × Bx)) (kd i : Int) (q : Bx) (wr : World) : Prop where
  tree : TS w t [kx, m] fat M wr
  map : BMap wr m M
  new : w.heap.size ≤ m
  old : Only [] w wr
  set : SetAt wr kx kd i q
  newx : w.heap.size ≤ kx
  ne : kx ≠ m
theorem LS.start {w : World} {t m : Nat} {fat : Int} {M : List (Int × Bx)} {wr wx : World} (h : LS w t m fat M wr) {kx : Nat} {kd i : Int} {q : Bx} (o : Only [] wr wx) (hk : wr.heap.size ≤ kx) (hs : SetAt wx kx kd i q) : LX w t m kx fat M kd i q wx :=
  ⟨h.tree.more o hk hs.lt, h.map.only o (by simp), h.new, h.old.trans o, hs, Nat.le_trans h.old.size hk, fun e => by have := h.map.lt; omega⟩
theorem LX.keep {w : World} {t m kx : Nat} {fat : Int} {M : List (Int × Bx)} {kd i : Int} {q : Bx} {wr w' : World} (h : LX w t m kx fat M kd i q wr) (o : Only [] wr w') : LX w t m kx fat M kd i q w' :=
  ⟨h.tree.keep o (by simp), h.map.only o (by simp), h.new, h.old.trans o, h.set.only o (by simp), h.newx, h.ne⟩
theorem LX.stop {w : World} {t m kx : Nat} {fat : Int} {M : List (Int × Bx)} {kd i : Int} {q : Bx} {wr : World} (h : LX w t m kx fat M kd i q wr) : LS w t m fat M wr := ⟨h.tree.less, h.map, h.new, h.old⟩
theorem Only.turned {w w' : World} {m : Nat} (h : w.mapTurned w' m) : Only [m] w w' := (Only.refl [m] w).grown h.grown (fun k hk => by injection hk with hk; exact Or.inl (by simp [hk]))
theorem LX.after {w : World} {t m kx : Nat} {fat : Int} {M M' : List (Int × Bx)} {kd i : Int} {q : Bx} {wr wm wp : World} (hx : LX w t m kx fat M kd i q wr) (om : Only [m] wr wm) (hb : BMap wm m M') (ht : TS w t [kx, m] fat M' wp) (hturn : Turn w [kx, m] wm wp) : LX w t m kx fat M' kd i q wp :=
  ⟨ht, hturn.map (by simp) hb, hx.new, hturn.old (hx.old.then om (fun b hb => by simp only [List.mem_singleton] at hb; subst hb; exact Or.inr hx.new)), hturn.set (by simp) (hx.set.only om (by simp [hx.ne])), hx.newx, hx.ne⟩
theorem LX.len {w : World} {t m kx : Nat} {fat : Int} {M : List (Int × Bx)} {kd i : Int} {q : Bx} {wr : World} (hx : LX w t m kx fat M kd i q wr) : M.length ≤ 60 := by
  obtain ⟨D, hT, _⟩ := hx.tree.ex
  exact hT.small
theorem bare_same (c d : Int) (w : World) (hg : EtIs w) (h : c = d) : Calls Tryz.prog 5 #[errV c, .int .i64 d] w fun e w' => e = .returned (.bool true) ∧ Kept w w' := by
  refine (bare_calls c d w hg).mono ?_
  rintro e w' ⟨rfl, k⟩
  exact ⟨by simp [h], k⟩
def UX (k m : Nat) (i : Int) (q : Bx) (w w' : World) : Prop := Only [m] w w' ∧ w'.cell? ⟨k, 1, none⟩ = some (.int .i64 i) ∧ w'.cell? ⟨k, 2, none⟩ = some (.int .i64 q.x0) ∧ w'.cell? ⟨k, 3, none⟩ = some (.int .i64 q.x1) ∧ w'.cell? ⟨k, 4, none⟩ = some (.int .i64 q.x2) ∧ w'.cell? ⟨k, 5, none⟩ = some (.int .i64 q.x3) ∧ w'.cell? ⟨k, 6, none⟩ = some (.int .i64 q.x4) ∧ w'.cell? ⟨k, 7, none⟩ = some (.int .i64 q.x5)
theorem UX.of {w w' : World} {k m : Nat} {kind i : Int} {q : Bx} (o : Only [m] w w') (ne : k ≠ m) (h : SetAt w k kind i q) : UX k m i q w w' := by
  have h := h.only o (by simp [ne])
  exact ⟨o, h.off 1, h.off 2, h.off 3, h.off 4, h.off 5, h.off 6, h.off 7⟩
theorem putM_no {M : List (Int × Bx)} {i : Int} {q : Bx} (h : putC M i q ≠ 0) : putM M i q = M := if_neg h
theorem putM_yes {M : List (Int × Bx)} {i : Int} {q : Bx} (h : putC M i q = 0) : putM M i q = put M i q := if_pos h
theorem box_calls (a0 a1 a2 a3 a4 a5 : Int) (w : World) :
    Calls Tryz.prog 7 #[.agg #[.int .i64 a0, .int .i64 a1, .int .i64 a2, .int .i64 a3, .int .i64 a4, .int .i64 a5]] w fun e w' => e = .returned (.agg #[.int .i64 a0, .int .i64 a1, .int .i64 a2, .int .i64 a3, .int .i64 a4, .int .i64 a5]) ∧ Kept w w' := by
  go_enter Tryz.func7, Tryz.ntmps7
  go_wp2
  exact bodyPost_ret (v := .agg #[.int .i64 a0, .int .i64 a1, .int .i64 a2, .int .i64 a3, .int .i64 a4, .int .i64 a5]) (by simp [results, Tryz.results7, go_sem]) rfl ⟨rfl, ((Kept.refl _).alloc _ _).alloc _ _⟩
theorem meet_bool (p q : Bx) (v : Bool) (w : World) (h : meetX p q = v) : Calls Tryz.prog 11 #[.agg #[.int .i64 (p.x0), .int .i64 (p.x1), .int .i64 (p.x2), .int .i64 (p.x3), .int .i64 (p.x4), .int .i64 (p.x5)], .agg #[.int .i64 (q.x0), .int .i64 (q.x1), .int .i64 (q.x2), .int .i64 (q.x3), .int .i64 (q.x4), .int .i64 (q.x5)]] w fun e w' => e = .returned (.bool v) ∧ Kept w w' := by
  refine (refMeet_calls _ _ _ _ _ _ _ _ _ _ _ _ w).mono ?_
  rintro e w' ⟨rfl, k⟩
  exact ⟨ret_bool h, k⟩
theorem meet_true (p q : Bx) (w : World) (h : meetX p q = true) : Calls Tryz.prog 11 #[.agg #[.int .i64 (p.x0), .int .i64 (p.x1), .int .i64 (p.x2), .int .i64 (p.x3), .int .i64 (p.x4), .int .i64 (p.x5)], .agg #[.int .i64 (q.x0), .int .i64 (q.x1), .int .i64 (q.x2), .int .i64 (q.x3), .int .i64 (q.x4), .int .i64 (q.x5)]] w fun e w' => e = .returned (.bool true) ∧ Kept w w' := meet_bool p q true w h
theorem meetM_get {M : List (Int × Bx)} {q : Bx} {xs : List Int} (h : xs.Perm (meetM M q)) {j : Nat} (hj : j < xs.length) : ∃ p, (xs[j], p) ∈ M ∧ meetX p q = true := by
  have h1 : xs[j] ∈ meetM M q := h.mem_iff.1 (List.getElem_mem hj)
  unfold meetM at h1
  obtain ⟨p, hp, e⟩ := List.mem_map.1 h1
  obtain ⟨h2, h3⟩ := List.mem_filter.1 hp
  exact ⟨p.2, by rw [← e]; exact h2, h3⟩
theorem LX.id {w : World} {t m kx : Nat} {fat : Int} {M : List (Int × Bx)} {kd i : Int} {q : Bx} {wr : World} (hx : LX w t m kx fat M kd i q wr) {k : Int} {p : Bx} (h : (k, p) ∈ M) : In64 k := by
  obtain ⟨D, hT, _⟩ := hx.tree.ex
  exact hT.ids (k, p) h
theorem pair_lt {xs : List Int} (h : xs.Pairwise (fun x y => x < y)) {y : Nat} (hy : y + 1 < xs.length) : xs[y]'(by omega) < xs[y + 1] := by
  rw [List.pairwise_iff_getElem] at h
  exact h y (y + 1) (by omega) hy (by omega)
def SX (k : Nat) (q : Bx) (w w' : World) : Prop := Kept w w' ∧ w'.cell? ⟨k, 2, none⟩ = some (.int .i64 q.x0) ∧ w'.cell? ⟨k, 3, none⟩ = some (.int .i64 q.x1) ∧ w'.cell? ⟨k, 4, none⟩ = some (.int .i64 q.x2) ∧ w'.cell? ⟨k, 5, none⟩ = some (.int .i64 q.x3) ∧ w'.cell? ⟨k, 6, none⟩ = some (.int .i64 q.x4) ∧ w'.cell? ⟨k, 7, none⟩ = some (.int .i64 q.x5)
theorem SX.of {w w' : World} {k : Nat} {kind i : Int} {q : Bx} (kk : Kept w w') (h : SetAt w k kind i q) : SX k q w w' := by
  have h := h.only (Only.of_kept (D := []) kk) (by simp)
  exact ⟨kk, h.off 2, h.off 3, h.off 4, h.off 5, h.off 6, h.off 7⟩
def VX (kx kb : Nat) (q p : Bx) (w w' : World) : Prop := SX kx q w w' ∧ w'.cell? ⟨kb, 0, none⟩ = some (.int .i64 p.x0) ∧ w'.cell? ⟨kb, 1, none⟩ = some (.int .i64 p.x1) ∧ w'.cell? ⟨kb, 2, none⟩ = some (.int .i64 p.x2) ∧ w'.cell? ⟨kb, 3, none⟩ = some (.int .i64 p.x3) ∧ w'.cell? ⟨kb, 4, none⟩ = some (.int .i64 p.x4) ∧ w'.cell? ⟨kb, 5, none⟩ = some (.int .i64 p.x5)
theorem RAt.of_alloc (w : World) (p : Bx) {t : TypeId} : (w.alloc (.cells #[.int .i64 (p.x0), .int .i64 (p.x1), .int .i64 (p.x2), .int .i64 (p.x3), .int .i64 (p.x4), .int .i64 (p.x5)] t)).heap[w.heap.size]? = some (.cells #[.int .i64 (p.x0), .int .i64 (p.x1), .int .i64 (p.x2), .int .i64 (p.x3), .int .i64 (p.x4), .int .i64 (p.x5)] t) := (MapKept.heap_alloc w _).1
theorem VX.of {w w' : World} {kx kb : Nat} {kind i : Int} {q p : Bx} {t : TypeId} (k : Kept w w') (h : SetAt w kx kind i q) (hb : w.heap[kb]? = some (.cells #[.int .i64 (p.x0), .int .i64 (p.x1), .int .i64 (p.x2), .int .i64 (p.x3), .int .i64 (p.x4), .int .i64 (p.x5)] t)) : VX kx kb q p w w' := by
  have c : ∀ j, w.cell? ⟨kb, j, none⟩ = (#[.int .i64 (p.x0), .int .i64 (p.x1), .int .i64 (p.x2), .int .i64 (p.x3), .int .i64 (p.x4), .int .i64 (p.x5)] : Array Value)[j]? := fun j => by simp [World.cell?, hb]
  exact ⟨SX.of k h, kept_cell k (c 0), kept_cell k (c 1), kept_cell k (c 2), kept_cell k (c 3), kept_cell k (c 4), kept_cell k (c 5)⟩
def qlo (q : Bx) : Nat → Int
  | 0 => q.x0
  | 1 => q.x1
  | _ => q.x2
def qhi (q : Bx) : Nat → Int
  | 0 => q.x3
  | 1 => q.x4
  | _ => q.x5
def PH (w : World) (t m kx : Nat) (fat : Int) (M : List (Int × Bx)) (kd i : Int) (q : Bx) (b1 b2 : Nat) (wr : World) : Prop :=
  LX w t m kx fat M kd i q wr ∧ (∀ k, k < 3 → wr.cell? ⟨b1, k, none⟩ = some (.int .i64 (qlo q k))) ∧ (∀ k, k < 3 → wr.cell? ⟨b2, k, none⟩ = some (.int .i64 (qhi q k)))
theorem PH.keep {w : World} {t m kx : Nat} {fat : Int} {M : List (Int × Bx)} {kd i : Int} {q : Bx} {b1 b2 : Nat} {wr w' : World} (h : PH w t m kx fat M kd i q b1 b2 wr) (o : Only [] wr w') : PH w t m kx fat M kd i q b1 b2 w' :=
  ⟨h.1.keep o, fun k hk => cell_old o (h.2.1 k hk), fun k hk => cell_old o (h.2.2 k hk)⟩
theorem row_lo {w : World} {b : Nat} {q : Bx} (h : Row3 b q.x0 q.x1 q.x2 w) : ∀ k, k < 3 → w.cell? ⟨b, k, none⟩ = some (.int .i64 (qlo q k)) := by
  intro k hk
  match k, hk with
  | 0, _ => exact h.1
  | 1, _ => exact h.2.1
  | 2, _ => exact h.2.2
theorem row_hi {w : World} {b : Nat} {q : Bx} (h : Row3 b q.x3 q.x4 q.x5 w) : ∀ k, k < 3 → w.cell? ⟨b, k, none⟩ = some (.int .i64 (qhi q k)) := by
  intro k hk
  match k, hk with
  | 0, _ => exact h.1
  | 1, _ => exact h.2.1
  | 2, _ => exact h.2.2
/-- The law's word behind its first loop's rounds. -/
def outC (q : Bx) : Nat → Int
  | 0 => 0
  | k + 1 => if outC q k = 0 then (if qlo q k < -70368744177664 ∨ 70368744177664 < qhi q k then 2 else 0) else outC q k
def argC (q : Bx) (e : Int) : Nat → Int
  | 0 => e
  | k + 1 => if qhi q k < qlo q k then 1 else argC q e k
theorem law_right (q : Bx) : argC q (outC q 3) 3 = rightC q := by
  unfold rightC
  by_cases h1 : meetX q q = true
  · rw [if_pos h1]
    rw [meetX_iff] at h1
    by_cases h2 : withinX q topX = true
    · rw [if_pos h2]
      rw [withinX_iff] at h2
      simp only [topX] at h2
      have a0 : ¬ q.x3 < q.x0 := by omega
      have a1 : ¬ q.x4 < q.x1 := by omega
      have a2 : ¬ q.x5 < q.x2 := by omega
      have b0 : ¬ (q.x0 < -70368744177664 ∨ 70368744177664 < q.x3) := by omega
      have b1 : ¬ (q.x1 < -70368744177664 ∨ 70368744177664 < q.x4) := by omega
      have b2 : ¬ (q.x2 < -70368744177664 ∨ 70368744177664 < q.x5) := by omega
      simp only [argC, outC, qlo, qhi, if_neg a0, if_neg a1, if_neg a2, if_neg b0, if_neg b1, if_neg b2, if_true]
    · rw [if_neg h2]
      rw [withinX_iff] at h2
      simp only [topX] at h2
      have a0 : ¬ q.x3 < q.x0 := by omega
      have a1 : ¬ q.x4 < q.x1 := by omega
      have a2 : ¬ q.x5 < q.x2 := by omega
      simp only [argC, outC, qlo, qhi, if_neg a0, if_neg a1, if_neg a2, if_true]
      by_cases b0 : q.x0 < -70368744177664 ∨ 70368744177664 < q.x3
      · simp [b0]
      · by_cases b1 : q.x1 < -70368744177664 ∨ 70368744177664 < q.x4
        · simp [b0, b1]
        · by_cases b2 : q.x2 < -70368744177664 ∨ 70368744177664 < q.x5
          · simp [b0, b1, b2]
          · exfalso; omega
  · rw [if_neg h1]
    rw [meetX_iff] at h1
    simp only [argC, qlo, qhi]
    split
    · rfl
    · split
      · rfl
      · split
        · rfl
        · exfalso; omega
theorem outC_cases (q : Bx) : ∀ k, outC q k = 0 ∨ outC q k = 2
  | 0 => Or.inl rfl
  | k + 1 => by
    have := outC_cases q k
    simp only [outC]
    split
    · split
      · exact Or.inr rfl
      · exact Or.inl rfl
    · exact this
set_option maxRecDepth 100000
theorem plays_long (a : Option Addr) (n c : Nat) (fat : Int) (w : World) (hn : 150 < n) : Calls Tryz.prog 3 #[.int .i64 fat, .slice a n c] w fun e w' => e = .returned (.bool true) ∧ Only [] w w' := by
  have t0 : decide ((150 : Int) < (n : Int)) = true := by simp; omega
  go_enter Tryz.func3, Tryz.ntmps3
  go_wp2_with fail
  go_ret
  exact ⟨rfl, Only.refl _ _⟩
theorem plays_bad (a : Option Addr) (n c : Nat) (fat : Int) (w : World) (hn : n ≤ 150) (hg : EtIs w) (hf : fat < 0 ∨ 3276800 < fat) : Calls Tryz.prog 3 #[.int .i64 fat, .slice a n c] w fun e w' => e = .returned (.bool true) ∧ Only [] w w' := by
  have t0 : decide ((150 : Int) < (n : Int)) = false := by simp; omega
  have HG : Hid (EtIs w) := hg
  have HF : Hid (fat < 0 ∨ 3276800 < fat) := hf
  have main : ∀ (t1 : decide (fat < 0) = true ∨ (decide (fat < 0) = false ∧ decide (3276800 < fat) = true)), Calls Tryz.prog 3 #[.int .i64 fat, .slice a n c] w fun e w' => e = .returned (.bool true) ∧ Only [] w w' := by
    intro t1
    clear hf hg
    rcases t1 with t1 | ⟨t1, t2⟩ <;>
    · go_enter Tryz.func3, Tryz.ntmps3
      go_wp2_with fail
      refine (new_bad fat w HF.out).mono ?_
      rintro e w1 ⟨rfl, o1⟩
      have O1 : Hid (Only [] w w1) := o1
      clear o1
      go_wp2_with fail
      refine (show Calls Tryz.prog 5 #[.iface 29 (.int .i64 2), .int .i64 2] w1 _ from bare_calls 2 2 w1 (HG.out.only O1.out)).mono ?_
      rintro e w2 ⟨rfl, k2⟩
      have O2 : Hid (Only [] w w2) := O1.out.trans (Only.of_kept k2)
      clear k2
      go_wp2_with fail
      go_ret
      exact ⟨rfl, O2.out⟩
  rcases hf with hf | hf
  · exact main (Or.inl (by simpa using hf))
  · by_cases h0 : fat < 0
    · exact main (Or.inl (by simpa using h0))
    · exact main (Or.inr ⟨by simpa using h0, by simpa using hf⟩)
end Go.Proofs.YtdhbcgdlmkkdfaaGreatDoor
