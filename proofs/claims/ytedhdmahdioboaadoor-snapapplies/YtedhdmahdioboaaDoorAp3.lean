/- (*snap.reader).seen: one that came or changed: whichever bytes. -/
import Derived.Test.YtedhdmahdioboaaDoorAp2
namespace Go.Proofs.YtedhdmahdioboaaDoor
open Go.ChangeShapes Go.WideShapes Go.ChangeAt Go.RowKit
set_option linter.unusedVariables false
set_option linter.unusedSimpArgs false

theorem plus_calls (a b c x y z : Int) (w : World) :
    Calls Tryd.prog 55 #[.agg #[.int .i64 a, .int .i64 b, .int .i64 c], .agg #[.int .i64 x, .int .i64 y, .int .i64 z]] w fun e w' => e = .returned (.agg #[.int .i64 (wrap64 (a + x)), .int .i64 (wrap64 (b + y)), .int .i64 (wrap64 (c + z))]) ∧ Only [] w w' := by
  go_enter Tryd.func55, Tryd.ntmps55
  go_wp2
  exact bodyPost_ret (v := .agg #[.int .i64 (wrap64 (a + x)), .int .i64 (wrap64 (b + y)), .int .i64 (wrap64 (c + z))]) (by simp [results, Tryd.results55, go_sem]) rfl ⟨rfl, (((Only.refl [] w).alloc _).alloc _).alloc _⟩
/-- What is read of one: its kind, its size, its place, its speed. -/
def rKd (L : List Nat) (x : Sn × Bool × Nat) : Sn × Bool × Nat := ({ x.1 with kd := (getM L x.2.2 3).2.1 }, x.2.1 || decide ((getM L x.2.2 3).1 ≠ 0), (getM L x.2.2 3).2.2)
def rS (L : List Nat) (u : Sn) (x : Sn × Bool × Nat) : Sn × Bool × Nat := ({ x.1 with sx := wrap64 (u.sx + (vec3 L x.2.2).1), sy := wrap64 (u.sy + (vec3 L x.2.2).2.1), sz := wrap64 (u.sz + (vec3 L x.2.2).2.2) }, x.2.1 || vecE L x.2.2, vecP L x.2.2)
def rA (L : List Nat) (u : Sn) (x : Sn × Bool × Nat) : Sn × Bool × Nat := ({ x.1 with ax := wrap64 (u.ax + (vec3 L x.2.2).1), ay := wrap64 (u.ay + (vec3 L x.2.2).2.1), az := wrap64 (u.az + (vec3 L x.2.2).2.2) }, x.2.1 || vecE L x.2.2, vecP L x.2.2)
def rV (L : List Nat) (u : Sn) (x : Sn × Bool × Nat) : Sn × Bool × Nat := ({ x.1 with vx := wrap64 (u.vx + (vec3 L x.2.2).1), vy := wrap64 (u.vy + (vec3 L x.2.2).2.1), vz := wrap64 (u.vz + (vec3 L x.2.2).2.2) }, x.2.1 || vecE L x.2.2, vecP L x.2.2)
def seen1 (L : List Nat) (a : Bool) (u : Sn) (x : Sn × Bool × Nat) : Sn × Bool × Nat := if a then rS L u (rKd L x) else x
def seen2 (L : List Nat) (b : Bool) (u : Sn) (x : Sn × Bool × Nat) : Sn × Bool × Nat := if b then rA L u x else x
def seen3 (L : List Nat) (c : Bool) (u : Sn) (x : Sn × Bool × Nat) : Sn × Bool × Nat := if c then rV L u x else x
def seenM (L : List Nat) (a b c : Bool) (id : Int) (u : Sn) (bad : Bool) (p : Nat) : Sn × Bool × Nat := seen3 L c u (seen2 L b u (seen1 L a u ({ u with id := id }, bad, p)))
theorem get3 (L : List Nat) (p : Nat) : ∃ a b c, (getM L p 3).2.1 = pN a b c := by
  have h : ∃ n : Nat, n < 8 ∧ (getM L p 3).2.1 = (n : Int) := by
    unfold getM
    rw [if_neg (by simp)]
    split
    · exact ⟨0, by omega, rfl⟩
    · refine ⟨_, ?_, rfl⟩
      have hb : Bits (((bitsOf L).drop p).take (3 : Int).toNat) := fun b hb => bitsOf_bits L b (List.mem_of_mem_drop (List.mem_of_mem_take hb))
      have := valB_lt hb
      have hl : (((bitsOf L).drop p).take (3 : Int).toNat).length ≤ 3 := by rw [List.length_take]; exact Nat.min_le_left _ _
      exact Nat.lt_of_lt_of_le this (Nat.pow_le_pow_right (by omega) hl)
  obtain ⟨n, hn, e⟩ := h
  rw [e]
  rcases (show n = 0 ∨ n = 1 ∨ n = 2 ∨ n = 3 ∨ n = 4 ∨ n = 5 ∨ n = 6 ∨ n = 7 by omega) with rfl | rfl | rfl | rfl | rfl | rfl | rfl | rfl
  · exact ⟨false, false, false, rfl⟩
  · exact ⟨false, false, true, rfl⟩
  · exact ⟨false, true, false, rfl⟩
  · exact ⟨false, true, true, rfl⟩
  · exact ⟨true, false, false, rfl⟩
  · exact ⟨true, false, true, rfl⟩
  · exact ⟨true, true, false, rfl⟩
  · exact ⟨true, true, true, rfl⟩
/-- While one is read. -/
structure SeS (w : World) (kr r : Nat) (a : Option Addr) (c : Nat) (L : List Nat) (la : Int) (k7 k8 k10 : Nat) (u : Sn) (x : Sn × Bool × Nat) (wr : World) : Prop where
  sr : SR wr kr r a c L x.2.1 la x.2.2
  a7 : SnAt 57 wr k7 u
  a8 : SnAt 57 wr k8 zs
  a10 : SnAt 57 wr k10 x.1
  only : Only [kr, r] w wr
  n : w.heap.size ≤ k7 ∧ w.heap.size ≤ k8 ∧ w.heap.size ≤ k10
  d : k7 ≠ k10 ∧ k8 ≠ k10 ∧ k7 ≠ k8
  old : kr < w.heap.size ∧ r < w.heap.size ∧ ∀ g o, a = some ⟨g, o, none⟩ → L ≠ [] → g < w.heap.size
section
variable {w : World} {kr r : Nat} {a : Option Addr} {c : Nat} {L : List Nat} {la : Int} {k7 k8 k10 : Nat} {u : Sn} {x : Sn × Bool × Nat} {wr w' : World}
theorem SeS.read {bad : Bool} {p : Nat} (h : SeS w kr r a c L la k7 k8 k10 u x wr) (s : SR w' kr r a c L bad la p) (o : Only [kr, r] wr w') : SeS w kr r a c L la k7 k8 k10 u (x.1, bad, p) w' := by
  obtain ⟨n1, n2, n3⟩ := h.n
  obtain ⟨o1, o2, _⟩ := h.old
  exact ⟨s, h.a7.only o (by simp; omega), h.a8.only o (by simp; omega), h.a10.only o (by simp; omega), h.only.trans o, h.n, h.d, h.old⟩
theorem SeS.keep (h : SeS w kr r a c L la k7 k8 k10 u x wr) (o : Only [] wr w') : SeS w kr r a c L la k7 k8 k10 u x w' :=
  ⟨h.sr.keep o, h.a7.only o (by simp), h.a8.only o (by simp), h.a10.only o (by simp), h.only.then o (by simp), h.n, h.d, h.old⟩
theorem SeS.put {s : Sn} (h : SeS w kr r a c L la k7 k8 k10 u x wr) (hs : SnAt 57 w' k10 s) (o : Only [k10] wr w') : SeS w kr r a c L la k7 k8 k10 u (s, x.2) w' := by
  obtain ⟨n1, n2, n3⟩ := h.n
  obtain ⟨o1, o2, o3⟩ := h.old
  obtain ⟨d1, d2, d3⟩ := h.d
  exact ⟨h.sr.only o (by simp; omega) (by simp; omega) (fun g p e hL => by have := o3 g p e hL; simp; omega), h.a7.only o (by simpa using d1), h.a8.only o (by simpa using d2), hs, h.only.then o (fun y hy => by rw [List.mem_singleton.1 hy]; exact Or.inr n3), h.n, h.d, h.old⟩
end
section
variable {T : TypeId} {w : World} {k : Nat} {q : Sn}
theorem SnAt.p1 (h : SnAt T w k q) (i : Nat) (v : Value) : (w.setCell ⟨k, i, none⟩ v).heap[k]? = some (.cells (#[.int .i64 (q.id), .int .i64 (q.kd), .int .i64 (q.sx), .int .i64 (q.sy), .int .i64 (q.sz), .int .i64 (q.ax), .int .i64 (q.ay), .int .i64 (q.az), .int .i64 (q.vx), .int .i64 (q.vy), .int .i64 (q.vz)].setIfInBounds i v) T) := heap_put h i v
theorem SnAt.put0 (h : SnAt T w k q) (n : Int) : SnAt T (w.setCell ⟨k, 0, none⟩ (.int .i64 n)) k { q with id := n } := by
  have h1 := h.p1 0 (.int .i64 n)
  simp only [List.setIfInBounds_toArray, List.set_cons_zero, List.set_cons_succ] at h1
  exact h1
theorem SnAt.put1 (h : SnAt T w k q) (n : Int) : SnAt T (w.setCell ⟨k, 1, none⟩ (.int .i64 n)) k { q with kd := n } := by
  have h1 := h.p1 1 (.int .i64 n)
  simp only [List.setIfInBounds_toArray, List.set_cons_zero, List.set_cons_succ] at h1
  exact h1
theorem SnAt.putS (h : SnAt T w k q) (x y z : Int) : SnAt T (((w.setCell ⟨k, 2, none⟩ (.int .i64 x)).setCell ⟨k, 3, none⟩ (.int .i64 y)).setCell ⟨k, 4, none⟩ (.int .i64 z)) k { q with sx := x, sy := y, sz := z } := by
  have h1 := heap_put (heap_put (heap_put h 2 (.int .i64 x)) 3 (.int .i64 y)) 4 (.int .i64 z)
  simp only [List.setIfInBounds_toArray, List.set_cons_zero, List.set_cons_succ] at h1
  exact h1
theorem SnAt.putA (h : SnAt T w k q) (x y z : Int) : SnAt T (((w.setCell ⟨k, 5, none⟩ (.int .i64 x)).setCell ⟨k, 6, none⟩ (.int .i64 y)).setCell ⟨k, 7, none⟩ (.int .i64 z)) k { q with ax := x, ay := y, az := z } := by
  have h1 := heap_put (heap_put (heap_put h 5 (.int .i64 x)) 6 (.int .i64 y)) 7 (.int .i64 z)
  simp only [List.setIfInBounds_toArray, List.set_cons_zero, List.set_cons_succ] at h1
  exact h1
theorem SnAt.putV (h : SnAt T w k q) (x y z : Int) : SnAt T (((w.setCell ⟨k, 8, none⟩ (.int .i64 x)).setCell ⟨k, 9, none⟩ (.int .i64 y)).setCell ⟨k, 10, none⟩ (.int .i64 z)) k { q with vx := x, vy := y, vz := z } := by
  have h1 := heap_put (heap_put (heap_put h 8 (.int .i64 x)) 9 (.int .i64 y)) 10 (.int .i64 z)
  simp only [List.setIfInBounds_toArray, List.set_cons_zero, List.set_cons_succ] at h1
  exact h1
end
/-- Which parts are told. -/
def PartsR (L : List Nat) (word : Int) (bad : Bool) (p : Nat) (A B C : Bool) (bad0 : Bool) (p0 : Nat) : Prop :=
  (word = 2 ∧ pN A B C = (getM L p 3).2.1 ∧ bad0 = (bad || decide ((getM L p 3).1 ≠ 0)) ∧ p0 = (getM L p 3).2.2) ∨ (word = 1 ∧ A = true ∧ B = true ∧ C = true ∧ bad0 = bad ∧ p0 = p)
def SeenPost (kr r : Nat) (a : Option Addr) (c : Nat) (L : List Nat) (bad : Bool) (la : Int) (p : Nat) (word id : Int) (u : Sn) (w : World) (e : Ending) (w' : World) : Prop :=
  ∃ A B C bad0 p0 s bad1 p1, PartsR L word bad p A B C bad0 p0 ∧ (s, bad1, p1) = seenM L A B C id u bad0 p0 ∧ e = .returned (.agg #[.int .i64 (s.id), .int .i64 (s.kd), .int .i64 (s.sx), .int .i64 (s.sy), .int .i64 (s.sz), .int .i64 (s.ax), .int .i64 (s.ay), .int .i64 (s.az), .int .i64 (s.vx), .int .i64 (s.vy), .int .i64 (s.vz)]) ∧ SR w' kr r a c L bad1 la p1 ∧ Only [kr, r] w w'
set_option maxRecDepth 100000 in
set_option maxHeartbeats 4000000 in
theorem seenS_calls (kr r : Nat) (a : Option Addr) (c : Nat) (L : List Nat) (bad : Bool) (la : Int) (p : Nat) (word id : Int) (u : Sn) (w : World) (h : SR w kr r a c L bad la p) (hw : word = 1 ∨ word = 2) :
    Calls Tryd.prog 42 #[.pointer (some ⟨kr, 0, none⟩), .int .i64 word, .int .i64 id, .agg #[.int .i64 (u.id), .int .i64 (u.kd), .int .i64 (u.sx), .int .i64 (u.sy), .int .i64 (u.sz), .int .i64 (u.ax), .int .i64 (u.ay), .int .i64 (u.az), .int .i64 (u.vx), .int .i64 (u.vy), .int .i64 (u.vz)]] w (SeenPost kr r a c L bad la p word id u w) := by
  have H0 : Hid (SR w kr r a c L bad la p) := h
  have HO : Hid (kr < w.heap.size ∧ r < w.heap.size ∧ ∀ g o, a = some ⟨g, o, none⟩ → L ≠ [] → g < w.heap.size) := ⟨h.lt, h.rd.lt, fun g o e hL => h.rd.blt e hL⟩
  clear h
  go_enter Tryd.func42, Tryd.ntmps42
  go_upto_region 1 with fail
  have H1 : Hid (SR ((w.alloc (.cells #[.int .i64 (u.id), .int .i64 (u.kd), .int .i64 (u.sx), .int .i64 (u.sy), .int .i64 (u.sz), .int .i64 (u.ax), .int .i64 (u.ay), .int .i64 (u.az), .int .i64 (u.vx), .int .i64 (u.vy), .int .i64 (u.vz)] 57)).alloc (.cells #[.int .i64 0, .int .i64 0, .int .i64 0, .int .i64 0, .int .i64 0, .int .i64 0, .int .i64 0, .int .i64 0, .int .i64 0, .int .i64 0, .int .i64 0] 57)) kr r a c L bad la p ∧ SnAt 57 ((w.alloc (.cells #[.int .i64 (u.id), .int .i64 (u.kd), .int .i64 (u.sx), .int .i64 (u.sy), .int .i64 (u.sz), .int .i64 (u.ax), .int .i64 (u.ay), .int .i64 (u.az), .int .i64 (u.vx), .int .i64 (u.vy), .int .i64 (u.vz)] 57)).alloc (.cells #[.int .i64 0, .int .i64 0, .int .i64 0, .int .i64 0, .int .i64 0, .int .i64 0, .int .i64 0, .int .i64 0, .int .i64 0, .int .i64 0, .int .i64 0] 57)) w.heap.size u ∧ SnAt 57 ((w.alloc (.cells #[.int .i64 (u.id), .int .i64 (u.kd), .int .i64 (u.sx), .int .i64 (u.sy), .int .i64 (u.sz), .int .i64 (u.ax), .int .i64 (u.ay), .int .i64 (u.az), .int .i64 (u.vx), .int .i64 (u.vy), .int .i64 (u.vz)] 57)).alloc (.cells #[.int .i64 0, .int .i64 0, .int .i64 0, .int .i64 0, .int .i64 0, .int .i64 0, .int .i64 0, .int .i64 0, .int .i64 0, .int .i64 0, .int .i64 0] 57)) (w.heap.size + 1) zs ∧ Only [] w ((w.alloc (.cells #[.int .i64 (u.id), .int .i64 (u.kd), .int .i64 (u.sx), .int .i64 (u.sy), .int .i64 (u.sz), .int .i64 (u.ax), .int .i64 (u.ay), .int .i64 (u.az), .int .i64 (u.vx), .int .i64 (u.vy), .int .i64 (u.vz)] 57)).alloc (.cells #[.int .i64 0, .int .i64 0, .int .i64 0, .int .i64 0, .int .i64 0, .int .i64 0, .int .i64 0, .int .i64 0, .int .i64 0, .int .i64 0, .int .i64 0] 57))) := by
    have o : Only [] w ((w.alloc (.cells #[.int .i64 (u.id), .int .i64 (u.kd), .int .i64 (u.sx), .int .i64 (u.sy), .int .i64 (u.sz), .int .i64 (u.ax), .int .i64 (u.ay), .int .i64 (u.az), .int .i64 (u.vx), .int .i64 (u.vy), .int .i64 (u.vz)] 57)).alloc (.cells #[.int .i64 0, .int .i64 0, .int .i64 0, .int .i64 0, .int .i64 0, .int .i64 0, .int .i64 0, .int .i64 0, .int .i64 0, .int .i64 0, .int .i64 0] 57)) := ((Only.refl [] w).alloc _).alloc _
    refine ⟨H0.out.keep o, (SnAt.new _ w u).only (D := []) ((Only.refl _ _).alloc _) (by simp), ?_, o⟩
    have := zs_new (w.alloc (.cells #[.int .i64 (u.id), .int .i64 (u.kd), .int .i64 (u.sx), .int .i64 (u.sy), .int .i64 (u.sz), .int .i64 (u.ax), .int .i64 (u.ay), .int .i64 (u.az), .int .i64 (u.vx), .int .i64 (u.vy), .int .i64 (u.vz)] 57))
    simpa using this
  have HS : Hid (w.heap.size + 1 < ((w.alloc (.cells #[.int .i64 (u.id), .int .i64 (u.kd), .int .i64 (u.sx), .int .i64 (u.sy), .int .i64 (u.sz), .int .i64 (u.ax), .int .i64 (u.ay), .int .i64 (u.az), .int .i64 (u.vx), .int .i64 (u.vy), .int .i64 (u.vz)] 57)).alloc (.cells #[.int .i64 0, .int .i64 0, .int .i64 0, .int .i64 0, .int .i64 0, .int .i64 0, .int .i64 0, .int .i64 0, .int .i64 0, .int .i64 0, .int .i64 0] 57)).heap.size) := by show _ < _; simp
  clear H0
  revert H1 HS
  obtain ⟨k8, hk8⟩ : ∃ k8, w.heap.size + 1 = k8 := ⟨_, rfl⟩
  rw [hk8]
  obtain ⟨k7, hk7⟩ : ∃ k7, w.heap.size = k7 := ⟨_, rfl⟩
  have HK : Hid (w.heap.size = k7 ∧ w.heap.size + 1 = k8) := ⟨hk7, hk8⟩
  have HO2 := HO
  rw [hk7]
  clear hk7 hk8
  generalize World.alloc (World.alloc w _) _ = w1
  intro H1 HS
  go_upto_if 12 with fail
  go_cut [9] from 11 (fun s9 wc => ∃ A B C bad0 p0, s9 = .int .i64 (pN A B C) ∧ Hid (PartsR L word bad p A B C bad0 p0 ∧ SR wc kr r a c L bad0 la p0 ∧ SnAt 57 wc k7 u ∧ SnAt 57 wc k8 zs ∧ Only [kr, r] w wc ∧ w1.heap.size ≤ wc.heap.size))
  case first =>
    rcases hw with rfl | rfl
    · go_wp2_with fail
      go_meet
      case rel => exact ⟨true, true, true, bad, p, rfl, Or.inr ⟨rfl, rfl, rfl, rfl, rfl, rfl⟩, H1.out.1, H1.out.2.1, H1.out.2.2.1, H1.out.2.2.2.mono (by simp), Nat.le_refl _⟩
    · have c0 := H1.out.1.c0
      obtain ⟨g, hg⟩ : ∃ g, g = getM L p 3 := ⟨_, rfl⟩
      have HG : Hid (g = getM L p 3) := hg
      go_wp2_with fail
      refine (get_getM r a c L p 3 _ H1.out.1.rd).mono ?_
      rw [← hg]
      rintro e w2 ⟨rfl, h2, o2⟩
      rw [show (if ((g.1 : Nat) : Int) = 0 then Value.nilIface else errV ((g.1 : Nat) : Int)) = eN g.1 from rfl]
      have H2 : Hid (SR w2 kr r a c L bad la g.2.2 ∧ Only [r] w1 w2) := ⟨H1.out.1.read h2 o2, o2⟩
      clear h2 o2 hg c0
      go_wp2_with fail
      refine (numberS_calls kr r a c L _ la g.2.2 g.2.1 g.1 w2 H2.out.1).mono ?_
      rintro e w3 ⟨rfl, h3, o3⟩
      obtain ⟨A, B, C, hN⟩ := get3 L p
      rw [← HG.out] at hN
      rw [hN]
      have o4 : Only [kr, r] w1 w3 := SR.pair (D := []) H2.out.2 o3
      have H3 : Hid (PartsR L 2 bad p A B C (bad || decide (g.1 ≠ 0)) g.2.2 ∧ SR w3 kr r a c L (bad || decide (g.1 ≠ 0)) la g.2.2 ∧ SnAt 57 w3 k7 u ∧ SnAt 57 w3 k8 zs ∧ Only [kr, r] w w3 ∧ w1.heap.size ≤ w3.heap.size) :=
        ⟨Or.inl ⟨rfl, by rw [← hN, ← HG.out], by rw [← HG.out], by rw [← HG.out]⟩, h3, H1.out.2.1.only o4 (by have := HK.out; have := HO.out; simp; omega), H1.out.2.2.1.only o4 (by have := HK.out; have := HO.out; simp; omega), (H1.out.2.2.2.mono (by simp)).trans o4, o4.size⟩
      clear h3 o3 o4 hN H2
      go_wp2_with fail
      go_meet
      case rel => exact ⟨A, B, C, _, _, by rfl, H3⟩
  case rest =>
    obtain ⟨A, B, C, bad0, p0, rfl, H2⟩ := hcut
    clear H1
    have n4 : (Go.bits .and .i64 (pN A B C) 4 != 0) = A := by cases A <;> cases B <;> cases C <;> rfl
    have n2 : (Go.bits .and .i64 (pN A B C) 2 != 0) = B := by cases A <;> cases B <;> cases C <;> rfl
    have n1 : (Go.bits .and .i64 (pN A B C) 1 != 0) = C := by cases A <;> cases B <;> cases C <;> rfl
    generalize pN A B C = pn at n4 n2 n1 ⊢
    generalize wc = w2 at H2 ⊢
    have z0 := H2.out.2.2.1.off 0
    have z1 := H2.out.2.2.1.off 1
    have z2 := H2.out.2.2.1.off 2
    have z3 := H2.out.2.2.1.off 3
    have z4 := H2.out.2.2.1.off 4
    have z5 := H2.out.2.2.1.off 5
    have z6 := H2.out.2.2.1.off 6
    have z7 := H2.out.2.2.1.off 7
    have z8 := H2.out.2.2.1.off 8
    have z9 := H2.out.2.2.1.off 9
    have z10 := H2.out.2.2.1.off 10
    simp only [List.getElem?_toArray, List.getElem?_cons_succ, List.getElem?_cons_zero] at z0 z1 z2 z3 z4 z5 z6 z7 z8 z9 z10
    go_upto_region 6 with fail
    have H3 : Hid (SeS w kr r a c L la k7 k8 w2.heap.size u ({ u with id := id }, bad0, p0) (w2.alloc (.cells #[.int .i64 id, .int .i64 (u.kd), .int .i64 (u.sx), .int .i64 (u.sy), .int .i64 (u.sz), .int .i64 (u.ax), .int .i64 (u.ay), .int .i64 (u.az), .int .i64 (u.vx), .int .i64 (u.vy), .int .i64 (u.vz)] 57))) := by
      have o : Only [] w2 (w2.alloc (.cells #[.int .i64 id, .int .i64 (u.kd), .int .i64 (u.sx), .int .i64 (u.sy), .int .i64 (u.sz), .int .i64 (u.ax), .int .i64 (u.ay), .int .i64 (u.az), .int .i64 (u.vx), .int .i64 (u.vy), .int .i64 (u.vz)] 57)) := (Only.refl [] w2).alloc _
      have b7 := H2.out.2.2.1.lt
      have b8 := H2.out.2.2.2.1.lt
      have hk := HK.out
      exact ⟨H2.out.2.1.keep o, H2.out.2.2.1.only o (by simp), H2.out.2.2.2.1.only o (by simp), SnAt.new _ w2 { u with id := id }, H2.out.2.2.2.2.1.then o (by simp), ⟨by omega, by omega, by omega⟩, ⟨by omega, by omega, by omega⟩, HO.out⟩
    have HP : Hid (PartsR L word bad p A B C bad0 p0) := H2.out.1
    clear H2 z0 z1 z2 z3 z4 z5 z6 z7 z8 z9 z10
    revert H3
    generalize w2.heap.size = k10
    generalize World.alloc w2 _ = w3
    intro H3
    go_upto_if 27 with fail
    go_cut [9] from 11 (fun s9 wc => s9 = .int .i64 pn ∧ Hid (SeS w kr r a c L la k7 k8 k10 u (seen1 L A u ({ u with id := id }, bad0, p0)) wc))
    case first =>
      cases A with
      | false =>
        go_wp2_with fail
        go_meet
        case rel => exact ⟨rfl, H3⟩
      | true =>
        have c0 := H3.out.sr.c0
        obtain ⟨g, hg⟩ : ∃ g, g = getM L p0 3 := ⟨_, rfl⟩
        have HG : Hid (g = getM L p0 3) := hg
        go_wp2_with fail
        refine (get_getM r a c L p0 3 _ H3.out.sr.rd).mono ?_
        rw [← hg]
        rintro e w4 ⟨rfl, h2, o2⟩
        rw [show (if ((g.1 : Nat) : Int) = 0 then Value.nilIface else errV ((g.1 : Nat) : Int)) = eN g.1 from rfl]
        have H4 : Hid (SR w4 kr r a c L bad0 la g.2.2 ∧ Only [r] w3 w4) := ⟨H3.out.sr.read h2 o2, o2⟩
        clear h2 o2 hg c0
        go_wp2_with fail
        refine (numberS_calls kr r a c L _ la g.2.2 g.2.1 g.1 w4 H4.out.1).mono ?_
        rintro e w5 ⟨rfl, h3, o3⟩
        have H5 : Hid (SeS w kr r a c L la k7 k8 k10 u ({ u with id := id }, bad0 || decide (g.1 ≠ 0), g.2.2) w5) := H3.out.read h3 (SR.pair (D := []) H4.out.2 o3)
        clear h3 o3 H4
        have c1 := H5.out.a10.off 1; have y1 := H5.out.a10.free 1
        simp only [List.getElem?_toArray, List.getElem?_cons_succ, List.getElem?_cons_zero] at c1
        go_upto_region 8 with fail
        have H6 : Hid (SeS w kr r a c L la k7 k8 k10 u (rKd L ({ u with id := id }, bad0, p0)) (w5.setCell ⟨k10, 1, none⟩ (.int .i64 (g.2.1)))) := by
          have h6 := H5.out.put (H5.out.a10.put1 g.2.1) ((Only.refl [k10] w5).setCell (p := ⟨k10, 1, none⟩) (Or.inl (by simp)) _)
          unfold rKd
          rw [← HG.out]
          exact h6
        clear H5 c1 y1
        generalize w5.setCell ⟨k10, 1, none⟩ (.int .i64 (g.2.1)) = w6 at H6 ⊢
        obtain ⟨x1, hx1⟩ : ∃ x1, x1 = rKd L ({ u with id := id }, bad0, p0) := ⟨_, rfl⟩
        rw [← hx1] at H6
        have HX1 : Hid (x1 = rKd L ({ u with id := id }, bad0, p0)) := hx1
        clear hx1
        have e2 := H6.out.a7.off 2
        have e3 := H6.out.a7.off 3
        have e4 := H6.out.a7.off 4
        simp only [List.getElem?_toArray, List.getElem?_cons_succ, List.getElem?_cons_zero] at e2 e3 e4
        have h7 : k7 ∉ [kr, r] := by have h1 := H6.out.n; have h2 := H6.out.old; simp; omega
        have h7k : k7 ∉ [k10] := by have h1 := H6.out.d; simp; omega
        refine wp_region_held_drew (S := (fun w' => w'.cell? ⟨k7, 2, none⟩ = some (.int .i64 (u.sx)) ∧ w'.cell? ⟨k7, 3, none⟩ = some (.int .i64 (u.sy)) ∧ w'.cell? ⟨k7, 4, none⟩ = some (.int .i64 (u.sz)))) (by kernel_rfl) ?_ (fun hHeld1 => ?_)
        · (try dsimp only); exact ⟨e2, e3, e4⟩
        refine tkW 0 rfl ?_; refine tkW 1 rfl ?_; refine tkW 2 rfl ?_
        try simp only [Act.put, List.setIfInBounds_toArray, List.set_cons_zero, List.set_cons_succ, List.getElem_toArray, List.getElem_cons_succ, List.getElem_cons_zero]
        refine wpAnyH_ready (rs := [3]) (by kernel_rfl) (by simp) ?_
        refine AllReadyH.cons rfl (fun K hK => ?_) AllReadyH.nil
        first | (with_reducible refine iteYes ?hcx ?htx; case hcx => kernel_rfl) | rw [if_pos (by rfl)]
        simp only [List.getElem_toArray, List.getElem_cons_succ, List.getElem_cons_zero]
        go_simp
        (go_at_call 56; refine (vecS2_calls kr r a c L _ la _ _ (H6.out.sr.keep (Only.refl _ _).drew)).mono ?_; rintro e wv ⟨rfl, hs, ov⟩)
        try go_wp2_with fail
        refine hK.out _ _ ?_ (fun hHeld2 => ?_)
        · (try dsimp only); exact ⟨ov.cell (a := ⟨k7, 2, none⟩) (v := .int .i64 (u.sx)) e2 h7, ov.cell (a := ⟨k7, 3, none⟩) (v := .int .i64 (u.sy)) e3 h7, ov.cell (a := ⟨k7, 4, none⟩) (v := .int .i64 (u.sz)) e4 h7⟩
        clear hK K hHeld1
        try simp only [Act.put, List.setIfInBounds_toArray, List.set_cons_zero, List.set_cons_succ, List.getElem_toArray, List.getElem_cons_succ, List.getElem_cons_zero]
        have HV : Hid (SeS w kr r a c L la k7 k8 k10 u ((x1).1, (x1).2.1 || vecE L (x1).2.2, vecP L (x1).2.2) wv ∧ Only [kr, r] w6 wv) := ⟨(H6.out.keep (Only.refl _ _).drew).read hs ov, (Only.refl [kr, r] w6).drew.trans ov⟩
        clear hs ov
        refine wpAnyH_ready (rs := [4]) (by kernel_rfl) (by simp) ?_
        refine AllReadyH.cons rfl (fun K hK => ?_) AllReadyH.nil
        first | (with_reducible refine iteYes ?hcx ?htx; case hcx => kernel_rfl) | rw [if_pos (by rfl)]
        simp only [List.getElem_toArray, List.getElem_cons_succ, List.getElem_cons_zero]
        go_simp
        (go_at_call 55; refine (plus_calls u.sx u.sy u.sz _ _ _ _).mono ?_; rintro e wp ⟨rfl, op⟩)
        try go_wp2_with fail
        refine hK.out _ _ ?_ (fun hHeld3 => ?_)
        · (try dsimp only); exact ⟨(HV.out.2.trans (op.mono (by simp))).cell (a := ⟨k7, 2, none⟩) (v := .int .i64 (u.sx)) e2 h7, (HV.out.2.trans (op.mono (by simp))).cell (a := ⟨k7, 3, none⟩) (v := .int .i64 (u.sy)) e3 h7, (HV.out.2.trans (op.mono (by simp))).cell (a := ⟨k7, 4, none⟩) (v := .int .i64 (u.sz)) e4 h7⟩
        clear hK K hHeld2
        try simp only [Act.put, List.setIfInBounds_toArray, List.set_cons_zero, List.set_cons_succ, List.getElem_toArray, List.getElem_cons_succ, List.getElem_cons_zero]
        have HQ : Hid (SeS w kr r a c L la k7 k8 k10 u ((x1).1, (x1).2.1 || vecE L (x1).2.2, vecP L (x1).2.2) wp ∧ Only [kr, r] w6 wp) := ⟨HV.out.1.keep op, HV.out.2.trans (op.mono (by simp))⟩
        clear op HV
        have c2 := HQ.out.1.a10.off 2; have y2 := HQ.out.1.a10.free 2
        have c3 := HQ.out.1.a10.off 3; have y3 := HQ.out.1.a10.free 3
        have c4 := HQ.out.1.a10.off 4; have y4 := HQ.out.1.a10.free 4
        simp only [List.getElem?_toArray, List.getElem?_cons_succ, List.getElem?_cons_zero] at c2 c3 c4
        refine tkW 5 rfl ?_
        try simp only [Act.put, List.setIfInBounds_toArray, List.set_cons_zero, List.set_cons_succ, List.getElem_toArray, List.getElem_cons_succ, List.getElem_cons_zero]
        refine wpAnyH_ready (rs := [6]) (by kernel_rfl) (by simp) ?_
        refine AllReadyH.cons rfl (fun K hK => ?_) AllReadyH.nil
        first | (with_reducible refine iteYes ?hcx ?htx; case hcx => kernel_rfl) | rw [if_pos (by rfl)]
        simp only [List.getElem_toArray, List.getElem_cons_succ, List.getElem_cons_zero]
        go_simp
        refine hK.out _ _ ?_ (fun hHeld4 => ?_)
        · (try dsimp only); exact ⟨(only_put3 k10 2 _ _ _).cell (a := ⟨k7, 2, none⟩) (v := .int .i64 (u.sx)) (HQ.out.2.cell (a := ⟨k7, 2, none⟩) (v := .int .i64 (u.sx)) e2 h7) h7k, (only_put3 k10 2 _ _ _).cell (a := ⟨k7, 3, none⟩) (v := .int .i64 (u.sy)) (HQ.out.2.cell (a := ⟨k7, 3, none⟩) (v := .int .i64 (u.sy)) e3 h7) h7k, (only_put3 k10 2 _ _ _).cell (a := ⟨k7, 4, none⟩) (v := .int .i64 (u.sz)) (HQ.out.2.cell (a := ⟨k7, 4, none⟩) (v := .int .i64 (u.sz)) e4 h7) h7k⟩
        clear hK K
        try simp only [Act.put, List.setIfInBounds_toArray, List.set_cons_zero, List.set_cons_succ, List.getElem_toArray, List.getElem_cons_succ, List.getElem_cons_zero]
        refine wpAnyH_done (by kernel_rfl) ?_ _
        have HR : Hid (SeS w kr r a c L la k7 k8 k10 u (rS L u (x1)) (((wp.setCell ⟨k10, 2, none⟩ (.int .i64 (wrap64 (u.sx + (vec3 L (x1).2.2).1)))).setCell ⟨k10, 3, none⟩ (.int .i64 (wrap64 (u.sy + (vec3 L (x1).2.2).2.1)))).setCell ⟨k10, 4, none⟩ (.int .i64 (wrap64 (u.sz + (vec3 L (x1).2.2).2.2))))) := HQ.out.1.put (HQ.out.1.a10.putS _ _ _) (only_put3 k10 2 _ _ _)
        clear HQ c2 y2 c3 y3 c4 y4
        go_wp2_with fail
        go_meet
        case rel => exact ⟨rfl, by rw [show seen1 L true u ({ u with id := id }, bad0, p0) = rS L u (rKd L ({ u with id := id }, bad0, p0)) from rfl, ← HX1.out]; exact HR⟩
    case rest =>
      obtain ⟨rfl, H7⟩ := hcut
      clear H3
      generalize wc = w7 at H7 ⊢
      obtain ⟨xa, hxa⟩ : ∃ x, x = seen1 L A u ({ u with id := id }, bad0, p0) := ⟨_, rfl⟩
      rw [← hxa] at H7
      have Dxa : Hid (xa = seen1 L A u ({ u with id := id }, bad0, p0)) := hxa
      clear hxa
      go_upto_if 46 with fail
      go_cut [9] from 11 (fun s9 wc => s9 = .int .i64 pn ∧ Hid (SeS w kr r a c L la k7 k8 k10 u (seen2 L B u xa) wc))
      case first =>
        cases B with
        | false =>
          go_wp2_with fail
          go_meet
          case rel => exact ⟨rfl, H7⟩
        | true =>
          go_upto_region 10 with fail
          have e5 := H7.out.a7.off 5
          have e6 := H7.out.a7.off 6
          have e7 := H7.out.a7.off 7
          simp only [List.getElem?_toArray, List.getElem?_cons_succ, List.getElem?_cons_zero] at e5 e6 e7
          have h7 : k7 ∉ [kr, r] := by have h1 := H7.out.n; have h2 := H7.out.old; simp; omega
          have h7k : k7 ∉ [k10] := by have h1 := H7.out.d; simp; omega
          refine wp_region_held_drew (S := (fun w' => w'.cell? ⟨k7, 5, none⟩ = some (.int .i64 (u.ax)) ∧ w'.cell? ⟨k7, 6, none⟩ = some (.int .i64 (u.ay)) ∧ w'.cell? ⟨k7, 7, none⟩ = some (.int .i64 (u.az)))) (by kernel_rfl) ?_ (fun hHeld1 => ?_)
          · (try dsimp only); exact ⟨e5, e6, e7⟩
          refine tkW 0 rfl ?_; refine tkW 1 rfl ?_; refine tkW 2 rfl ?_
          try simp only [Act.put, List.setIfInBounds_toArray, List.set_cons_zero, List.set_cons_succ, List.getElem_toArray, List.getElem_cons_succ, List.getElem_cons_zero]
          refine wpAnyH_ready (rs := [3]) (by kernel_rfl) (by simp) ?_
          refine AllReadyH.cons rfl (fun K hK => ?_) AllReadyH.nil
          first | (with_reducible refine iteYes ?hcx ?htx; case hcx => kernel_rfl) | rw [if_pos (by rfl)]
          simp only [List.getElem_toArray, List.getElem_cons_succ, List.getElem_cons_zero]
          go_simp
          (go_at_call 56; refine (vecS2_calls kr r a c L _ la _ _ (H7.out.sr.keep (Only.refl _ _).drew)).mono ?_; rintro e wv ⟨rfl, hs, ov⟩)
          try go_wp2_with fail
          refine hK.out _ _ ?_ (fun hHeld2 => ?_)
          · (try dsimp only); exact ⟨ov.cell (a := ⟨k7, 5, none⟩) (v := .int .i64 (u.ax)) e5 h7, ov.cell (a := ⟨k7, 6, none⟩) (v := .int .i64 (u.ay)) e6 h7, ov.cell (a := ⟨k7, 7, none⟩) (v := .int .i64 (u.az)) e7 h7⟩
          clear hK K hHeld1
          try simp only [Act.put, List.setIfInBounds_toArray, List.set_cons_zero, List.set_cons_succ, List.getElem_toArray, List.getElem_cons_succ, List.getElem_cons_zero]
          have HV : Hid (SeS w kr r a c L la k7 k8 k10 u ((xa).1, (xa).2.1 || vecE L (xa).2.2, vecP L (xa).2.2) wv ∧ Only [kr, r] w7 wv) := ⟨(H7.out.keep (Only.refl _ _).drew).read hs ov, (Only.refl [kr, r] w7).drew.trans ov⟩
          clear hs ov
          refine wpAnyH_ready (rs := [4]) (by kernel_rfl) (by simp) ?_
          refine AllReadyH.cons rfl (fun K hK => ?_) AllReadyH.nil
          first | (with_reducible refine iteYes ?hcx ?htx; case hcx => kernel_rfl) | rw [if_pos (by rfl)]
          simp only [List.getElem_toArray, List.getElem_cons_succ, List.getElem_cons_zero]
          go_simp
          (go_at_call 55; refine (plus_calls u.ax u.ay u.az _ _ _ _).mono ?_; rintro e wp ⟨rfl, op⟩)
          try go_wp2_with fail
          refine hK.out _ _ ?_ (fun hHeld3 => ?_)
          · (try dsimp only); exact ⟨(HV.out.2.trans (op.mono (by simp))).cell (a := ⟨k7, 5, none⟩) (v := .int .i64 (u.ax)) e5 h7, (HV.out.2.trans (op.mono (by simp))).cell (a := ⟨k7, 6, none⟩) (v := .int .i64 (u.ay)) e6 h7, (HV.out.2.trans (op.mono (by simp))).cell (a := ⟨k7, 7, none⟩) (v := .int .i64 (u.az)) e7 h7⟩
          clear hK K hHeld2
          try simp only [Act.put, List.setIfInBounds_toArray, List.set_cons_zero, List.set_cons_succ, List.getElem_toArray, List.getElem_cons_succ, List.getElem_cons_zero]
          have HQ : Hid (SeS w kr r a c L la k7 k8 k10 u ((xa).1, (xa).2.1 || vecE L (xa).2.2, vecP L (xa).2.2) wp ∧ Only [kr, r] w7 wp) := ⟨HV.out.1.keep op, HV.out.2.trans (op.mono (by simp))⟩
          clear op HV
          have c5 := HQ.out.1.a10.off 5; have y5 := HQ.out.1.a10.free 5
          have c6 := HQ.out.1.a10.off 6; have y6 := HQ.out.1.a10.free 6
          have c7 := HQ.out.1.a10.off 7; have y7 := HQ.out.1.a10.free 7
          simp only [List.getElem?_toArray, List.getElem?_cons_succ, List.getElem?_cons_zero] at c5 c6 c7
          refine tkW 5 rfl ?_
          try simp only [Act.put, List.setIfInBounds_toArray, List.set_cons_zero, List.set_cons_succ, List.getElem_toArray, List.getElem_cons_succ, List.getElem_cons_zero]
          refine wpAnyH_ready (rs := [6]) (by kernel_rfl) (by simp) ?_
          refine AllReadyH.cons rfl (fun K hK => ?_) AllReadyH.nil
          first | (with_reducible refine iteYes ?hcx ?htx; case hcx => kernel_rfl) | rw [if_pos (by rfl)]
          simp only [List.getElem_toArray, List.getElem_cons_succ, List.getElem_cons_zero]
          go_simp
          refine hK.out _ _ ?_ (fun hHeld4 => ?_)
          · (try dsimp only); exact ⟨(only_put3 k10 5 _ _ _).cell (a := ⟨k7, 5, none⟩) (v := .int .i64 (u.ax)) (HQ.out.2.cell (a := ⟨k7, 5, none⟩) (v := .int .i64 (u.ax)) e5 h7) h7k, (only_put3 k10 5 _ _ _).cell (a := ⟨k7, 6, none⟩) (v := .int .i64 (u.ay)) (HQ.out.2.cell (a := ⟨k7, 6, none⟩) (v := .int .i64 (u.ay)) e6 h7) h7k, (only_put3 k10 5 _ _ _).cell (a := ⟨k7, 7, none⟩) (v := .int .i64 (u.az)) (HQ.out.2.cell (a := ⟨k7, 7, none⟩) (v := .int .i64 (u.az)) e7 h7) h7k⟩
          clear hK K
          try simp only [Act.put, List.setIfInBounds_toArray, List.set_cons_zero, List.set_cons_succ, List.getElem_toArray, List.getElem_cons_succ, List.getElem_cons_zero]
          refine wpAnyH_done (by kernel_rfl) ?_ _
          have HR : Hid (SeS w kr r a c L la k7 k8 k10 u (rA L u (xa)) (((wp.setCell ⟨k10, 5, none⟩ (.int .i64 (wrap64 (u.ax + (vec3 L (xa).2.2).1)))).setCell ⟨k10, 6, none⟩ (.int .i64 (wrap64 (u.ay + (vec3 L (xa).2.2).2.1)))).setCell ⟨k10, 7, none⟩ (.int .i64 (wrap64 (u.az + (vec3 L (xa).2.2).2.2))))) := HQ.out.1.put (HQ.out.1.a10.putA _ _ _) (only_put3 k10 5 _ _ _)
          clear HQ c5 y5 c6 y6 c7 y7
          go_wp2_with fail
          go_meet
          case rel => exact ⟨rfl, HR⟩
      case rest =>
        obtain ⟨rfl, H8⟩ := hcut
        clear H7
        generalize wc = w8 at H8 ⊢
        obtain ⟨xb, hxb⟩ : ∃ x, x = seen2 L B u xa := ⟨_, rfl⟩
        rw [← hxb] at H8
        have Dxb : Hid (xb = seen2 L B u xa) := hxb
        clear hxb
        go_upto_if 55 with fail
        go_cut [9] from 11 (fun s9 wc => s9 = .int .i64 pn ∧ Hid (SeS w kr r a c L la k7 k8 k10 u (seen3 L C u xb) wc))
        case first =>
          cases C with
          | false =>
            go_wp2_with fail
            go_meet
            case rel => exact ⟨rfl, H8⟩
          | true =>
            go_upto_region 12 with fail
            have e8 := H8.out.a7.off 8
            have e9 := H8.out.a7.off 9
            have e10 := H8.out.a7.off 10
            simp only [List.getElem?_toArray, List.getElem?_cons_succ, List.getElem?_cons_zero] at e8 e9 e10
            have h7 : k7 ∉ [kr, r] := by have h1 := H8.out.n; have h2 := H8.out.old; simp; omega
            have h7k : k7 ∉ [k10] := by have h1 := H8.out.d; simp; omega
            refine wp_region_held_drew (S := (fun w' => w'.cell? ⟨k7, 8, none⟩ = some (.int .i64 (u.vx)) ∧ w'.cell? ⟨k7, 9, none⟩ = some (.int .i64 (u.vy)) ∧ w'.cell? ⟨k7, 10, none⟩ = some (.int .i64 (u.vz)))) (by kernel_rfl) ?_ (fun hHeld1 => ?_)
            · (try dsimp only); exact ⟨e8, e9, e10⟩
            refine tkW 0 rfl ?_; refine tkW 1 rfl ?_; refine tkW 2 rfl ?_
            try simp only [Act.put, List.setIfInBounds_toArray, List.set_cons_zero, List.set_cons_succ, List.getElem_toArray, List.getElem_cons_succ, List.getElem_cons_zero]
            refine wpAnyH_ready (rs := [3]) (by kernel_rfl) (by simp) ?_
            refine AllReadyH.cons rfl (fun K hK => ?_) AllReadyH.nil
            first | (with_reducible refine iteYes ?hcx ?htx; case hcx => kernel_rfl) | rw [if_pos (by rfl)]
            simp only [List.getElem_toArray, List.getElem_cons_succ, List.getElem_cons_zero]
            go_simp
            (go_at_call 56; refine (vecS2_calls kr r a c L _ la _ _ (H8.out.sr.keep (Only.refl _ _).drew)).mono ?_; rintro e wv ⟨rfl, hs, ov⟩)
            try go_wp2_with fail
            refine hK.out _ _ ?_ (fun hHeld2 => ?_)
            · (try dsimp only); exact ⟨ov.cell (a := ⟨k7, 8, none⟩) (v := .int .i64 (u.vx)) e8 h7, ov.cell (a := ⟨k7, 9, none⟩) (v := .int .i64 (u.vy)) e9 h7, ov.cell (a := ⟨k7, 10, none⟩) (v := .int .i64 (u.vz)) e10 h7⟩
            clear hK K hHeld1
            try simp only [Act.put, List.setIfInBounds_toArray, List.set_cons_zero, List.set_cons_succ, List.getElem_toArray, List.getElem_cons_succ, List.getElem_cons_zero]
            have HV : Hid (SeS w kr r a c L la k7 k8 k10 u ((xb).1, (xb).2.1 || vecE L (xb).2.2, vecP L (xb).2.2) wv ∧ Only [kr, r] w8 wv) := ⟨(H8.out.keep (Only.refl _ _).drew).read hs ov, (Only.refl [kr, r] w8).drew.trans ov⟩
            clear hs ov
            refine wpAnyH_ready (rs := [4]) (by kernel_rfl) (by simp) ?_
            refine AllReadyH.cons rfl (fun K hK => ?_) AllReadyH.nil
            first | (with_reducible refine iteYes ?hcx ?htx; case hcx => kernel_rfl) | rw [if_pos (by rfl)]
            simp only [List.getElem_toArray, List.getElem_cons_succ, List.getElem_cons_zero]
            go_simp
            (go_at_call 55; refine (plus_calls u.vx u.vy u.vz _ _ _ _).mono ?_; rintro e wp ⟨rfl, op⟩)
            try go_wp2_with fail
            refine hK.out _ _ ?_ (fun hHeld3 => ?_)
            · (try dsimp only); exact ⟨(HV.out.2.trans (op.mono (by simp))).cell (a := ⟨k7, 8, none⟩) (v := .int .i64 (u.vx)) e8 h7, (HV.out.2.trans (op.mono (by simp))).cell (a := ⟨k7, 9, none⟩) (v := .int .i64 (u.vy)) e9 h7, (HV.out.2.trans (op.mono (by simp))).cell (a := ⟨k7, 10, none⟩) (v := .int .i64 (u.vz)) e10 h7⟩
            clear hK K hHeld2
            try simp only [Act.put, List.setIfInBounds_toArray, List.set_cons_zero, List.set_cons_succ, List.getElem_toArray, List.getElem_cons_succ, List.getElem_cons_zero]
            have HQ : Hid (SeS w kr r a c L la k7 k8 k10 u ((xb).1, (xb).2.1 || vecE L (xb).2.2, vecP L (xb).2.2) wp ∧ Only [kr, r] w8 wp) := ⟨HV.out.1.keep op, HV.out.2.trans (op.mono (by simp))⟩
            clear op HV
            have c8 := HQ.out.1.a10.off 8; have y8 := HQ.out.1.a10.free 8
            have c9 := HQ.out.1.a10.off 9; have y9 := HQ.out.1.a10.free 9
            have c10 := HQ.out.1.a10.off 10; have y10 := HQ.out.1.a10.free 10
            simp only [List.getElem?_toArray, List.getElem?_cons_succ, List.getElem?_cons_zero] at c8 c9 c10
            refine tkW 5 rfl ?_
            try simp only [Act.put, List.setIfInBounds_toArray, List.set_cons_zero, List.set_cons_succ, List.getElem_toArray, List.getElem_cons_succ, List.getElem_cons_zero]
            refine wpAnyH_ready (rs := [6]) (by kernel_rfl) (by simp) ?_
            refine AllReadyH.cons rfl (fun K hK => ?_) AllReadyH.nil
            first | (with_reducible refine iteYes ?hcx ?htx; case hcx => kernel_rfl) | rw [if_pos (by rfl)]
            simp only [List.getElem_toArray, List.getElem_cons_succ, List.getElem_cons_zero]
            go_simp
            refine hK.out _ _ ?_ (fun hHeld4 => ?_)
            · (try dsimp only); exact ⟨(only_put3 k10 8 _ _ _).cell (a := ⟨k7, 8, none⟩) (v := .int .i64 (u.vx)) (HQ.out.2.cell (a := ⟨k7, 8, none⟩) (v := .int .i64 (u.vx)) e8 h7) h7k, (only_put3 k10 8 _ _ _).cell (a := ⟨k7, 9, none⟩) (v := .int .i64 (u.vy)) (HQ.out.2.cell (a := ⟨k7, 9, none⟩) (v := .int .i64 (u.vy)) e9 h7) h7k, (only_put3 k10 8 _ _ _).cell (a := ⟨k7, 10, none⟩) (v := .int .i64 (u.vz)) (HQ.out.2.cell (a := ⟨k7, 10, none⟩) (v := .int .i64 (u.vz)) e10 h7) h7k⟩
            clear hK K
            try simp only [Act.put, List.setIfInBounds_toArray, List.set_cons_zero, List.set_cons_succ, List.getElem_toArray, List.getElem_cons_succ, List.getElem_cons_zero]
            refine wpAnyH_done (by kernel_rfl) ?_ _
            have HR : Hid (SeS w kr r a c L la k7 k8 k10 u (rV L u (xb)) (((wp.setCell ⟨k10, 8, none⟩ (.int .i64 (wrap64 (u.vx + (vec3 L (xb).2.2).1)))).setCell ⟨k10, 9, none⟩ (.int .i64 (wrap64 (u.vy + (vec3 L (xb).2.2).2.1)))).setCell ⟨k10, 10, none⟩ (.int .i64 (wrap64 (u.vz + (vec3 L (xb).2.2).2.2))))) := HQ.out.1.put (HQ.out.1.a10.putV _ _ _) (only_put3 k10 8 _ _ _)
            clear HQ c8 y8 c9 y9 c10 y10
            go_wp2_with fail
            go_meet
            case rel => exact ⟨rfl, HR⟩
        case rest =>
          obtain ⟨rfl, H9⟩ := hcut
          clear H8
          generalize wc = w9 at H9 ⊢
          obtain ⟨xc, hxc⟩ : ∃ x, x = seen3 L C u xb := ⟨_, rfl⟩
          rw [← hxc] at H9
          have Dxc : Hid (xc = seen3 L C u xb) := hxc
          clear hxc
          have HE : Hid (xc = seenM L A B C id u bad0 p0) := by show _ = _; rw [Dxc.out, Dxb.out, Dxa.out]; rfl
          obtain ⟨s, bad1, p1⟩ := xc
          clear Dxc
          have z0 := H9.out.a10.off 0; have v0 := H9.out.a8.off 0; have y0 := H9.out.a8.free 0
          have z1 := H9.out.a10.off 1; have v1 := H9.out.a8.off 1; have y1 := H9.out.a8.free 1
          have z2 := H9.out.a10.off 2; have v2 := H9.out.a8.off 2; have y2 := H9.out.a8.free 2
          have z3 := H9.out.a10.off 3; have v3 := H9.out.a8.off 3; have y3 := H9.out.a8.free 3
          have z4 := H9.out.a10.off 4; have v4 := H9.out.a8.off 4; have y4 := H9.out.a8.free 4
          have z5 := H9.out.a10.off 5; have v5 := H9.out.a8.off 5; have y5 := H9.out.a8.free 5
          have z6 := H9.out.a10.off 6; have v6 := H9.out.a8.off 6; have y6 := H9.out.a8.free 6
          have z7 := H9.out.a10.off 7; have v7 := H9.out.a8.off 7; have y7 := H9.out.a8.free 7
          have z8 := H9.out.a10.off 8; have v8 := H9.out.a8.off 8; have y8 := H9.out.a8.free 8
          have z9 := H9.out.a10.off 9; have v9 := H9.out.a8.off 9; have y9 := H9.out.a8.free 9
          have z10 := H9.out.a10.off 10; have v10 := H9.out.a8.off 10; have y10 := H9.out.a8.free 10
          simp only [zs, List.getElem?_toArray, List.getElem?_cons_succ, List.getElem?_cons_zero] at z0 v0 z1 v1 z2 v2 z3 v3 z4 v4 z5 v5 z6 v6 z7 v7 z8 v8 z9 v9 z10 v10
          have HF : Hid (SnAt 57 (((((((((((w9.setCell ⟨k8, 0, none⟩ (.int .i64 (s.id))).setCell ⟨k8, 1, none⟩ (.int .i64 (s.kd))).setCell ⟨k8, 2, none⟩ (.int .i64 (s.sx))).setCell ⟨k8, 3, none⟩ (.int .i64 (s.sy))).setCell ⟨k8, 4, none⟩ (.int .i64 (s.sz))).setCell ⟨k8, 5, none⟩ (.int .i64 (s.ax))).setCell ⟨k8, 6, none⟩ (.int .i64 (s.ay))).setCell ⟨k8, 7, none⟩ (.int .i64 (s.az))).setCell ⟨k8, 8, none⟩ (.int .i64 (s.vx))).setCell ⟨k8, 9, none⟩ (.int .i64 (s.vy))).setCell ⟨k8, 10, none⟩ (.int .i64 (s.vz))) k8 s ∧ SR (((((((((((w9.setCell ⟨k8, 0, none⟩ (.int .i64 (s.id))).setCell ⟨k8, 1, none⟩ (.int .i64 (s.kd))).setCell ⟨k8, 2, none⟩ (.int .i64 (s.sx))).setCell ⟨k8, 3, none⟩ (.int .i64 (s.sy))).setCell ⟨k8, 4, none⟩ (.int .i64 (s.sz))).setCell ⟨k8, 5, none⟩ (.int .i64 (s.ax))).setCell ⟨k8, 6, none⟩ (.int .i64 (s.ay))).setCell ⟨k8, 7, none⟩ (.int .i64 (s.az))).setCell ⟨k8, 8, none⟩ (.int .i64 (s.vx))).setCell ⟨k8, 9, none⟩ (.int .i64 (s.vy))).setCell ⟨k8, 10, none⟩ (.int .i64 (s.vz))) kr r a c L bad1 la p1 ∧ Only [kr, r] w (((((((((((w9.setCell ⟨k8, 0, none⟩ (.int .i64 (s.id))).setCell ⟨k8, 1, none⟩ (.int .i64 (s.kd))).setCell ⟨k8, 2, none⟩ (.int .i64 (s.sx))).setCell ⟨k8, 3, none⟩ (.int .i64 (s.sy))).setCell ⟨k8, 4, none⟩ (.int .i64 (s.sz))).setCell ⟨k8, 5, none⟩ (.int .i64 (s.ax))).setCell ⟨k8, 6, none⟩ (.int .i64 (s.ay))).setCell ⟨k8, 7, none⟩ (.int .i64 (s.az))).setCell ⟨k8, 8, none⟩ (.int .i64 (s.vx))).setCell ⟨k8, 9, none⟩ (.int .i64 (s.vy))).setCell ⟨k8, 10, none⟩ (.int .i64 (s.vz)))) := by
            have o : Only [k8] w9 (((((((((((w9.setCell ⟨k8, 0, none⟩ (.int .i64 (s.id))).setCell ⟨k8, 1, none⟩ (.int .i64 (s.kd))).setCell ⟨k8, 2, none⟩ (.int .i64 (s.sx))).setCell ⟨k8, 3, none⟩ (.int .i64 (s.sy))).setCell ⟨k8, 4, none⟩ (.int .i64 (s.sz))).setCell ⟨k8, 5, none⟩ (.int .i64 (s.ax))).setCell ⟨k8, 6, none⟩ (.int .i64 (s.ay))).setCell ⟨k8, 7, none⟩ (.int .i64 (s.az))).setCell ⟨k8, 8, none⟩ (.int .i64 (s.vx))).setCell ⟨k8, 9, none⟩ (.int .i64 (s.vy))).setCell ⟨k8, 10, none⟩ (.int .i64 (s.vz))) := ((((((((((((Only.refl [k8] w9).setCell (p := ⟨k8, 0, none⟩) (Or.inl (by simp)) _).setCell (p := ⟨k8, 1, none⟩) (Or.inl (by simp)) _).setCell (p := ⟨k8, 2, none⟩) (Or.inl (by simp)) _).setCell (p := ⟨k8, 3, none⟩) (Or.inl (by simp)) _).setCell (p := ⟨k8, 4, none⟩) (Or.inl (by simp)) _).setCell (p := ⟨k8, 5, none⟩) (Or.inl (by simp)) _).setCell (p := ⟨k8, 6, none⟩) (Or.inl (by simp)) _).setCell (p := ⟨k8, 7, none⟩) (Or.inl (by simp)) _).setCell (p := ⟨k8, 8, none⟩) (Or.inl (by simp)) _).setCell (p := ⟨k8, 9, none⟩) (Or.inl (by simp)) _).setCell (p := ⟨k8, 10, none⟩) (Or.inl (by simp)) _)
            obtain ⟨n1, n2, n3⟩ := H9.out.n
            obtain ⟨o1, o2, o3⟩ := H9.out.old
            exact ⟨sn_put H9.out.a8 s, H9.out.sr.only o (by simp; omega) (by simp; omega) (fun g p e hL => by have := o3 g p e hL; simp; omega), H9.out.only.then o (fun y hy => by rw [List.mem_singleton.1 hy]; exact Or.inr n2)⟩
          go_wp2_with fail
          generalize (((((((((((w9.setCell ⟨k8, 0, none⟩ (.int .i64 (s.id))).setCell ⟨k8, 1, none⟩ (.int .i64 (s.kd))).setCell ⟨k8, 2, none⟩ (.int .i64 (s.sx))).setCell ⟨k8, 3, none⟩ (.int .i64 (s.sy))).setCell ⟨k8, 4, none⟩ (.int .i64 (s.sz))).setCell ⟨k8, 5, none⟩ (.int .i64 (s.ax))).setCell ⟨k8, 6, none⟩ (.int .i64 (s.ay))).setCell ⟨k8, 7, none⟩ (.int .i64 (s.az))).setCell ⟨k8, 8, none⟩ (.int .i64 (s.vx))).setCell ⟨k8, 9, none⟩ (.int .i64 (s.vy))).setCell ⟨k8, 10, none⟩ (.int .i64 (s.vz))) = w10 at HF ⊢
          clear z0 v0 y0 z1 v1 y1 z2 v2 y2 z3 v3 y3 z4 v4 y4 z5 v5 y5 z6 v6 y6 z7 v7 y7 z8 v8 y8 z9 v9 y9 z10 v10 y10
          have z0 := HF.out.1.off 0
          have z1 := HF.out.1.off 1
          have z2 := HF.out.1.off 2
          have z3 := HF.out.1.off 3
          have z4 := HF.out.1.off 4
          have z5 := HF.out.1.off 5
          have z6 := HF.out.1.off 6
          have z7 := HF.out.1.off 7
          have z8 := HF.out.1.off 8
          have z9 := HF.out.1.off 9
          have z10 := HF.out.1.off 10
          simp only [List.getElem?_toArray, List.getElem?_cons_succ, List.getElem?_cons_zero] at z0 z1 z2 z3 z4 z5 z6 z7 z8 z9 z10
          exact bodyPost_ret (v := .agg #[.int .i64 (s.id), .int .i64 (s.kd), .int .i64 (s.sx), .int .i64 (s.sy), .int .i64 (s.sz), .int .i64 (s.ax), .int .i64 (s.ay), .int .i64 (s.az), .int .i64 (s.vx), .int .i64 (s.vy), .int .i64 (s.vz)]) (by simp [results, Tryd.results42, go_sem, z0, z1, z2, z3, z4, z5, z6, z7, z8, z9, z10]) rfl ⟨A, B, C, bad0, p0, s, bad1, p1, HP.out, HE.out, rfl, HF.out.2.1, HF.out.2.2⟩
end Go.Proofs.YtedhdmahdioboaaDoor
