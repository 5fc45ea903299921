/- A seen one in a block of its own; snap.Right: whatever the view. -/
import Derived.Test.YtedhdmahdioboaaSn1
import Derived.Deep.MidRow
namespace Go.Proofs.Ytedhdmahdioboaa
open Go.ChangeShapes Go.WideShapes Go.ChangeAt Go.RowKit
set_option linter.unusedVariables false
set_option linter.unusedSimpArgs false

theorem seenSize : (Try.prog.info? 120).map (·.size) = some 11 := by kernel_rfl
theorem refSeenSize : (Try.prog.info? 116).map (·.size) = some 11 := by kernel_rfl
def snL (q : Sn) : List Value := [.int .i64 (q.id), .int .i64 (q.kd), .int .i64 (q.sx), .int .i64 (q.sy), .int .i64 (q.sz), .int .i64 (q.ax), .int .i64 (q.ay), .int .i64 (q.az), .int .i64 (q.vx), .int .i64 (q.vy), .int .i64 (q.vz)]
theorem range11 {w : World} {g o : Nat} {q : Sn} (h : ∀ k, k < 11 → w.cell? ⟨g, o + k, none⟩ = some (sc q k)) : w.rangeAt g o [.int .i64 (q.id), .int .i64 (q.kd), .int .i64 (q.sx), .int .i64 (q.sy), .int .i64 (q.sz), .int .i64 (q.ax), .int .i64 (q.ay), .int .i64 (q.az), .int .i64 (q.vx), .int .i64 (q.vy), .int .i64 (q.vz)] := fun j v hv => by
  have hj : j < 11 := by have := (List.getElem?_eq_some_iff.1 hv).1; simpa using this
  rw [h j hj, ← hv]
  match j, hj with
  | 0, _ => rfl
  | 1, _ => rfl
  | 2, _ => rfl
  | 3, _ => rfl
  | 4, _ => rfl
  | 5, _ => rfl
  | 6, _ => rfl
  | 7, _ => rfl
  | 8, _ => rfl
  | 9, _ => rfl
  | 10, _ => rfl
  | j + 11, h => exact absurd h (by omega)
def SnAt (T : TypeId) (w : World) (kb : Nat) (q : Sn) : Prop := w.heap[kb]? = some (.cells #[.int .i64 (q.id), .int .i64 (q.kd), .int .i64 (q.sx), .int .i64 (q.sy), .int .i64 (q.sz), .int .i64 (q.ax), .int .i64 (q.ay), .int .i64 (q.az), .int .i64 (q.vx), .int .i64 (q.vy), .int .i64 (q.vz)] T)
theorem SnAt.lt {T : TypeId} {w : World} {kb : Nat} {q : Sn} (h : SnAt T w kb q) : kb < w.heap.size := (Array.getElem?_eq_some_iff.1 h).1
theorem SnAt.only {T : TypeId} {w w' : World} {kb : Nat} {q : Sn} {D : List Nat} (h : SnAt T w kb q) (o : Only D w w') (s : kb ∉ D) : SnAt T w' kb q := (o.block kb h.lt s).trans h
theorem SnAt.off {T : TypeId} {w : World} {kb : Nat} {q : Sn} (h : SnAt T w kb q) (j : Nat) : w.cell? ⟨kb, j, none⟩ = (#[.int .i64 (q.id), .int .i64 (q.kd), .int .i64 (q.sx), .int .i64 (q.sy), .int .i64 (q.sz), .int .i64 (q.ax), .int .i64 (q.ay), .int .i64 (q.az), .int .i64 (q.vx), .int .i64 (q.vy), .int .i64 (q.vz)] : Array Value)[j]? := by
  unfold SnAt at h; simp [World.cell?, h]
theorem SnAt.free {T : TypeId} {w : World} {kb : Nat} {q : Sn} (h : SnAt T w kb q) (j : Nat) : w.frozen? ⟨kb, j, none⟩ = false := by
  unfold SnAt at h; simp [World.frozen?, h]
theorem SnAt.new (T : TypeId) (w : World) (q : Sn) : SnAt T (w.alloc (.cells #[.int .i64 (q.id), .int .i64 (q.kd), .int .i64 (q.sx), .int .i64 (q.sy), .int .i64 (q.sz), .int .i64 (q.ax), .int .i64 (q.ay), .int .i64 (q.az), .int .i64 (q.vx), .int .i64 (q.vy), .int .i64 (q.vz)] T)) w.heap.size q := (MapKept.heap_alloc w _).1
theorem SeenAt.only {w w' : World} {a : Option Addr} {n : Nat} {V : Nat → Sn} (h : SeenAt w a n V) (o : Only [] w w') : SeenAt w' a n V := by
  intro j hj
  obtain ⟨g, f, e, hc⟩ := h j hj
  exact ⟨g, f, e, fun i hi => o.cell (hc i hi) (by simp)⟩
/-- Numbers that were just laid. -/
theorem ints_new1 (w : World) (a : Int) (t : TypeId) : IntsIn (w.alloc (.cells #[.int .i64 a] t)) w.heap.size [a] := by
  have h0 := (MapKept.heap_alloc w (.cells #[.int .i64 a] t)).1
  generalize w.alloc _ = w2 at h0 ⊢
  intro j hj
  obtain rfl : j = 0 := by simp at hj; omega
  simp [World.cell?, h0]
theorem ints_new3 (w : World) (a b c : Int) (t : TypeId) : IntsIn (w.alloc (.cells #[.int .i64 a, .int .i64 b, .int .i64 c] t)) w.heap.size [a, b, c] := by
  have h0 := (MapKept.heap_alloc w (.cells #[.int .i64 a, .int .i64 b, .int .i64 c] t)).1
  generalize w.alloc _ = w2 at h0 ⊢
  intro j hj
  simp only [List.length_cons, List.length_nil] at hj
  match j, hj with
  | 0, _ => simp [World.cell?, h0]
  | 1, _ => simp [World.cell?, h0]
  | 2, _ => simp [World.cell?, h0]
  | j + 3, h => exact absurd h (by omega)
def lastM (V : Nat → Sn) : Nat → Int
  | 0 => 0
  | i + 1 => (V i).id
def rt1 (b : Bool) (last : Int) (s : Sn) : Bool := lkB (wrap64 (last + 1)) 1099511627776 b [s.id]
def rt2 (b : Bool) (last : Int) (s : Sn) : Bool := lkB 0 7 (rt1 b last s) [s.kd]
def rt3 (b : Bool) (last : Int) (s : Sn) : Bool := lkB (-1099511627776) 1099511627776 (rt2 b last s) [s.sx, s.sy, s.sz]
def rt4 (b : Bool) (last : Int) (s : Sn) : Bool := lkB (-1099511627776) 1099511627776 (rt3 b last s) [s.ax, s.ay, s.az]
def rtStep (b : Bool) (last : Int) (s : Sn) : Bool := lkB (-1099511627776) 1099511627776 (rt4 b last s) [s.vx, s.vy, s.vz]
def rtP (b : Bool) (V : Nat → Sn) : Nat → Bool
  | 0 => b
  | i + 1 => rtStep (rtP b V i) (lastM V i) (V i)
def rightP (V : Nat → Sn) (n : Nat) : Bool := rtP (decide (n ≤ 60)) V n
/-- While Right runs. -/
structure RtS (w : World) (kr : Nat) (b : Bool) (wr : World) : Prop where
  at_ : wr.heap[kr]? = some (.cells #[.bool b] 4)
  only : Only [] w wr
  new : w.heap.size ≤ kr
structure RtQ (w : World) (kr ks : Nat) (b : Bool) (q : Sn) (wr : World) : Prop where
  rt : RtS w kr b wr
  at' : SnAt 120 wr ks q
  ne : ks ≠ kr
theorem RtQ.call {w : World} {kr ks : Nat} {b b' : Bool} {q : Sn} {wr w' : World} {o : Obj} (h : RtQ w kr ks b q wr) (hr : w'.heap[kr]? = some (.cells #[.bool b'] 4)) (ho : Only [kr] (wr.alloc o) w') : RtQ w kr ks b' q w' :=
  ⟨⟨hr, (h.rt.only.alloc o).then ho (fun x hx => by simp only [List.mem_singleton] at hx; subst hx; exact Or.inr h.rt.new), h.rt.new⟩,
    (h.at'.only ((Only.refl [] wr).alloc o) (by simp)).only ho (by simp only [List.mem_singleton]; exact h.ne), h.ne⟩
theorem RtS.lt {w : World} {kr : Nat} {b : Bool} {wr : World} (h : RtS w kr b wr) : kr < wr.heap.size := (Array.getElem?_eq_some_iff.1 h.at_).1
theorem RtQ.there {w : World} {kr ks : Nat} {b : Bool} {q : Sn} {wr : World} (h : RtQ w kr ks b q wr) (o : Obj) : (wr.alloc o).heap[kr]? = some (.cells #[.bool b] 4) :=
  (((Only.refl [] wr).alloc o).block kr h.rt.lt (by simp)).trans h.rt.at_
set_option maxRecDepth 100000 in
set_option maxHeartbeats 4000000 in
theorem right_calls (a : Option Addr) (n c : Nat) (V : Nat → Sn) (w : World) (hn : n ≤ 1000000) (h : SeenAt w a n V) :
    Calls Try.prog 116 #[.slice a n c] w fun e w' => e = .returned (.bool (rightP V n)) ∧ Only [] w w' := by
  have hmf : ∀ (fn : Fn) (first cap : Array Value) (w : World), (Instr.makeFunc fn first cap).run Try.prog w = .ok (.func fn first cap) w := fun _ _ _ _ => rfl
  have HB : Hid (SeenAt w a n V ∧ n ≤ 1000000) := ⟨h, hn⟩
  clear h hn
  go_enter Try.func116, Try.ntmps116
  have hdn : decide ((n : Int) ≤ 60) = decide (n ≤ 60) := by by_cases q : n ≤ 60 <;> simp [q] <;> omega
  go_upto_region 2 with fail
  try simp only [hdn]
  have H0 : Hid (RtS w w.heap.size (decide (n ≤ 60)) (w.alloc (.cells #[.bool (decide (n ≤ 60))] 4))) := ⟨(MapKept.heap_alloc w _).1, (Only.refl [] w).alloc _, Nat.le_refl _⟩
  clear hdn
  revert H0
  generalize w.heap.size = kr
  generalize World.alloc w _ = w1
  intro H0
  go_wp2_with fail
  go_loopg [5, 14] n (fun k last idx wr => ∃ i : Nat, last = .int .i64 (lastM V i) ∧ idx = .int .i64 (i : Int) ∧ Hid (i ≤ n ∧ k = n - i) ∧ Hid (RtS w kr (rtP (decide (n ≤ 60)) V i) wr))
  case atStart => exact ⟨0, rfl, rfl, ⟨by omega, rfl⟩, H0⟩
  case round =>
    clear H0
    obtain ⟨i, rfl, rfl, H1, HO⟩ := hrel
    have hn := HB.out.2
    by_cases hi : i < n
    · have hil : (i : Int) < (n : Int) := by omega
      obtain ⟨g1, f1, ha1, hc⟩ := (HB.out.1.only HO.out.only) i hi
      obtain ⟨u, hq⟩ : ∃ u, V i = u := ⟨_, rfl⟩
      have HC : Hid (rtP (decide (n ≤ 60)) V (i + 1) = rtStep (rtP (decide (n ≤ 60)) V i) (lastM V i) u ∧ lastM V (i + 1) = u.id) := by rw [← hq]; exact ⟨rfl, rfl⟩
      rw [hq] at hc
      clear hq
      subst ha1
      go_upto_region 7 with (first | (refine wpList_load_mid rfl 120 (.tmp 16) rfl g1 (f1 + i * 11) rfl [.int .i64 (u.id), .int .i64 (u.kd), .int .i64 (u.sx), .int .i64 (u.sy), .int .i64 (u.sz), .int .i64 (u.ax), .int .i64 (u.ay), .int .i64 (u.az), .int .i64 (u.vx), .int .i64 (u.vy), .int .i64 (u.vz)] _ (range11 hc) Try.underlying120 rfl seenSize ?_))
      clear hc
      have H9 : Hid (RtQ w kr wr.heap.size (rtP (decide (n ≤ 60)) V i) u (wr.alloc (.cells #[.int .i64 (u.id), .int .i64 (u.kd), .int .i64 (u.sx), .int .i64 (u.sy), .int .i64 (u.sz), .int .i64 (u.ax), .int .i64 (u.ay), .int .i64 (u.az), .int .i64 (u.vx), .int .i64 (u.vy), .int .i64 (u.vz)] 120))) := ⟨⟨(((Only.refl [] wr).alloc _).block kr HO.out.lt (by simp)).trans HO.out.at_, HO.out.only.alloc _, HO.out.new⟩, SnAt.new _ wr u, fun e => by have := HO.out.lt; omega⟩
      clear HO
      revert H9 HC
      generalize wr.heap.size = ks
      generalize World.alloc wr _ = w9
      generalize rtP (decide (n ≤ 60)) V i = b0
      generalize lastM V i = la
      intro HC H9
      have e0 := H9.out.at'.off 0
      simp only [List.getElem?_toArray, List.getElem?_cons_succ, List.getElem?_cons_zero] at e0
      go_wp2_with fail
      refine (right1_calls kr w9.heap.size _ _ _ (b0) [u.id] _ (by simp) (H9.out.there _) (ints_new1 _ u.id _) (fun e => by have := H9.out.rt.lt; omega)).mono ?_
      rintro e wb0 ⟨rfl, hr, ho⟩
      have G0 : Hid (RtQ w kr ks (rt1 b0 la u) u wb0) := H9.out.call hr ho
      clear hr ho H9 e0
      have e1 := G0.out.at'.off 1
      simp only [List.getElem?_toArray, List.getElem?_cons_succ, List.getElem?_cons_zero] at e1
      go_wp2_with fail
      refine (right1_calls kr wb0.heap.size _ _ _ (rt1 b0 la u) [u.kd] _ (by simp) (G0.out.there _) (ints_new1 _ u.kd _) (fun e => by have := G0.out.rt.lt; omega)).mono ?_
      rintro e wb1 ⟨rfl, hr, ho⟩
      have G1 : Hid (RtQ w kr ks (rt2 b0 la u) u wb1) := G0.out.call hr ho
      clear hr ho G0 e1
      have e2 := G1.out.at'.off 2
      have e3 := G1.out.at'.off 3
      have e4 := G1.out.at'.off 4
      simp only [List.getElem?_toArray, List.getElem?_cons_succ, List.getElem?_cons_zero] at e2 e3 e4
      go_wp2_with fail
      refine (right1_calls kr wb1.heap.size _ _ _ (rt2 b0 la u) [u.sx, u.sy, u.sz] _ (by simp) (G1.out.there _) (ints_new3 _ u.sx u.sy u.sz _) (fun e => by have := G1.out.rt.lt; omega)).mono ?_
      rintro e wb2 ⟨rfl, hr, ho⟩
      have G2 : Hid (RtQ w kr ks (rt3 b0 la u) u wb2) := G1.out.call hr ho
      clear hr ho G1 e2 e3 e4
      have e5 := G2.out.at'.off 5
      have e6 := G2.out.at'.off 6
      have e7 := G2.out.at'.off 7
      simp only [List.getElem?_toArray, List.getElem?_cons_succ, List.getElem?_cons_zero] at e5 e6 e7
      go_wp2_with fail
      refine (right1_calls kr wb2.heap.size _ _ _ (rt3 b0 la u) [u.ax, u.ay, u.az] _ (by simp) (G2.out.there _) (ints_new3 _ u.ax u.ay u.az _) (fun e => by have := G2.out.rt.lt; omega)).mono ?_
      rintro e wb3 ⟨rfl, hr, ho⟩
      have G3 : Hid (RtQ w kr ks (rt4 b0 la u) u wb3) := G2.out.call hr ho
      clear hr ho G2 e5 e6 e7
      have e8 := G3.out.at'.off 8
      have e9 := G3.out.at'.off 9
      have e10 := G3.out.at'.off 10
      simp only [List.getElem?_toArray, List.getElem?_cons_succ, List.getElem?_cons_zero] at e8 e9 e10
      go_wp2_with fail
      refine (right1_calls kr wb3.heap.size _ _ _ (rt4 b0 la u) [u.vx, u.vy, u.vz] _ (by simp) (G3.out.there _) (ints_new3 _ u.vx u.vy u.vz _) (fun e => by have := G3.out.rt.lt; omega)).mono ?_
      rintro e wb4 ⟨rfl, hr, ho⟩
      have G4 : Hid (RtQ w kr ks (rtStep b0 la u) u wb4) := G3.out.call hr ho
      clear hr ho G3 e8 e9 e10
      have e0 := G4.out.at'.off 0
      simp only [List.getElem?_toArray, List.getElem?_cons_succ, List.getElem?_cons_zero] at e0
      go_wp2_with fail
      go_roundg (n - (i + 1))
      case measure => have := H1.out.2; omega
      case rel => exact ⟨i + 1, by rw [HC.out.2], by go_num, ⟨by omega, rfl⟩, by rw [HC.out.1]; exact G4.out.rt⟩
    · have hil : ¬ (i : Int) < (n : Int) := by omega
      obtain rfl : i = n := by have := H1.out.1; omega
      have hr : wr.cell? ⟨kr, 0, none⟩ = some (.bool (rtP (decide (i ≤ 60)) V i)) := by simp [World.cell?, HO.out.at_]
      go_wp2_with fail
      go_ret
      exact ⟨rfl, HO.out.only⟩
end Go.Proofs.Ytedhdmahdioboaa
