/- A client's session as it lies in memory; upTo, Tick, Left, Newest, has: whichever numbers. -/
import Derived.Test.YtepgcpcanbekaaaDoorOnl
import Derived.Test.YtepgcpcanbekaaaDoorFin
import Derived.Laws.Bits64b
namespace Go.Proofs.YtepgcpcanbekaaaDoor
open Go.ChangeShapes Go.WideShapes Go.ChangeAt Go.RowKit
set_option linter.unusedVariables false
set_option linter.unusedSimpArgs false

structure Se where
  tok : Int
  most : Int
  each : Int
  left : Int
  newest : Int
  came : Nat
def seC (s : Se) : Array Value := #[.int .i64 (s.tok), .int .i64 (s.most), .int .i64 (s.each), .int .i64 (s.left), .int .i64 (s.newest), .int .u64 ((s.came : Nat) : Int)]
def SeAt (w : World) (x : Nat) (s : Se) : Prop := w.heap[x]? = some (.cells (seC s) 53)
/-- Numbers as a session has them. -/
structure SeOk (s : Se) : Prop where
  m0 : 0 ≤ s.most
  m1 : s.most ≤ 1000
  e0 : 0 ≤ s.each
  e1 : s.each ≤ 1000
  l0 : 0 ≤ s.left
  l1 : s.left ≤ s.most
  n0 : -1 ≤ s.newest
  n1 : s.newest ≤ 70368744177664
  c1 : s.came < 2 ^ 64
theorem SeAt.lt {w : World} {x : Nat} {s : Se} (h : SeAt w x s) : x < w.heap.size := (Array.getElem?_eq_some_iff.1 h).1
theorem SeAt.off {w : World} {x : Nat} {s : Se} (h : SeAt w x s) (i : Nat) : w.cell? ⟨x, i, none⟩ = (seC s)[i]? := by unfold SeAt at h; simp [World.cell?, h]
theorem SeAt.c0 {w : World} {x : Nat} {s : Se} (h : SeAt w x s) : w.cell? ⟨x, 0, none⟩ = some (.int .i64 (s.tok)) := h.off 0
theorem SeAt.c1 {w : World} {x : Nat} {s : Se} (h : SeAt w x s) : w.cell? ⟨x, 1, none⟩ = some (.int .i64 (s.most)) := h.off 1
theorem SeAt.c2 {w : World} {x : Nat} {s : Se} (h : SeAt w x s) : w.cell? ⟨x, 2, none⟩ = some (.int .i64 (s.each)) := h.off 2
theorem SeAt.c3 {w : World} {x : Nat} {s : Se} (h : SeAt w x s) : w.cell? ⟨x, 3, none⟩ = some (.int .i64 (s.left)) := h.off 3
theorem SeAt.c4 {w : World} {x : Nat} {s : Se} (h : SeAt w x s) : w.cell? ⟨x, 4, none⟩ = some (.int .i64 (s.newest)) := h.off 4
theorem SeAt.c5 {w : World} {x : Nat} {s : Se} (h : SeAt w x s) : w.cell? ⟨x, 5, none⟩ = some (.int .u64 ((s.came : Nat) : Int)) := h.off 5
theorem SeAt.free {w : World} {x : Nat} {s : Se} (h : SeAt w x s) (i : Nat) : w.frozen? ⟨x, i, none⟩ = false := by unfold SeAt at h; simp [World.frozen?, h]
theorem SeAt.only {w w' : World} {x : Nat} {s : Se} (h : SeAt w x s) {D : List Nat} (o : Only D w w') (hx : x ∉ D) : SeAt w' x s := (o.block x h.lt hx).trans h
theorem SeAt.drew {w : World} {x : Nat} {s : Se} (h : SeAt w x s) : SeAt w.drew x s := h
theorem SeAt.putLeft {w : World} {x : Nat} {s : Se} (h : SeAt w x s) (k : Int) : SeAt (w.setCell ⟨x, 3, none⟩ (.int .i64 k)) x { s with left := k } := heap_put h _ _
theorem SeAt.putNewest {w : World} {x : Nat} {s : Se} (h : SeAt w x s) (k : Int) : SeAt (w.setCell ⟨x, 4, none⟩ (.int .i64 k)) x { s with newest := k } := heap_put h _ _
theorem SeAt.putCame {w : World} {x : Nat} {s : Se} (h : SeAt w x s) (k : Nat) : SeAt (w.setCell ⟨x, 5, none⟩ (.int .u64 ((k : Nat) : Int))) x { s with came := k } := heap_put h _ _

theorem wrap_in {n : Int} (h : -9223372036854775808 ≤ n) (k : n ≤ 9223372036854775807) : IntKind.i64.wrap n = n := by rw [IntKind.wrap_i64]; omega
theorem shrN (c : Nat) (y : Int) (w : World) (h : 0 ≤ y) (h1 : y ≤ 64) : (Op.shift .shr .u64 (c : Int) .i64 y).run Tryd.prog w = .ok (.int .u64 ((c / 2 ^ y.toNat : Nat) : Int)) w := by
  rw [shift_shr .u64 .i64 (c : Int) y h h1]
  simp
def shlM (c k : Nat) : Nat := c * 2 ^ (min k 64) % 18446744073709551616
theorem shlN (c : Nat) (y : Int) (w : World) (h : 0 ≤ y) : (Op.shift .shl .u64 (c : Int) .i64 y).run Tryd.prog w = .ok (.int .u64 ((shlM c y.toNat : Nat) : Int)) w := by
  have e : IntKind.u64.wrap ((c : Int) * 2 ^ (min y.toNat 64)) = ((shlM c y.toNat : Nat) : Int) := by
    rw [IntKind.wrap_u64]; unfold shlM; simp
  have hb : IntKind.u64.bits = 64 := rfl
  simp only [Op.shift, hb]
  rw [if_neg (by omega)]
  simp [e]
theorem ret_bool {a b : Bool} (h : a = b) : Ending.returned (.bool a) = .returned (.bool b) := by rw [h]
theorem upTo_calls (n most : Int) (w : World) : Calls Tryd.prog 15 #[.int .i64 n, .int .i64 most] w fun e w' => e = .returned (.bool (decide (0 ≤ n ∧ n ≤ most))) ∧ w' = w := by
  go_enter Tryd.func15, Tryd.ntmps15
  by_cases h0 : 0 ≤ n
  · have h : decide (n ≥ 0) = true := by simpa using h0
    go_wp2_with fail
    go_ret
    exact ⟨ret_bool (by simp [h0]), rfl⟩
  · have h : decide (n ≥ 0) = false := by simpa using h0
    go_wp2_with fail
    go_ret
    exact ⟨ret_bool (by simp [h0]), rfl⟩
/-- How many are left behind a Tick. -/
def tickL (s : Se) : Int := if s.left + s.each < s.most then s.left + s.each else s.most
set_option maxRecDepth 100000 in
theorem tick_calls (x : Nat) (s : Se) (w : World) (h : SeAt w x s) (ok : SeOk s) : Calls Tryd.prog 8 #[.pointer (some ⟨x, 0, none⟩)] w fun e w' => e = .returned (.tuple #[]) ∧ SeAt w' x { s with left := tickL s } ∧ Only [x] w w' := by
  have c1 := h.c1; have c2 := h.c2; have c3 := h.c3; have f3 := h.free 3
  have H : Hid (SeAt w x s) := h
  have HL : Hid ((if s.most < IntKind.i64.wrap (s.left + s.each) then s.most else IntKind.i64.wrap (s.left + s.each)) = tickL s) := by
    show _ = _
    have := ok.l0; have := ok.l1; have := ok.m1; have := ok.e0; have := ok.e1
    have e : IntKind.i64.wrap (s.left + s.each) = s.left + s.each := wrap_in (by omega) (by omega)
    rw [e]; unfold tickL; split <;> split <;> omega
  have b1 := ok.l0; have b2 := ok.e0; have b3 := ok.e1; have b4 := ok.l1; have b5 := ok.m1
  clear h ok
  go_enter Tryd.func8, Tryd.ntmps8
  go_upto_region 0 with fail
  refine wp_region_F_drew 17 (fun w' => w'.cell? ⟨x, 1, none⟩ = some (.int .i64 (s.most)) ∧ w'.cell? ⟨x, 2, none⟩ = some (.int .i64 (s.each)) ∧ w'.cell? ⟨x, 3, none⟩ = some (.int .i64 (s.left))) (by kernel_rfl) ?_ (fun hHeld1 => ?_)
  · (try dsimp only); exact ⟨c1, c2, c3⟩
  refine tkF 0 rfl ?_; refine tkF 1 rfl ?_; refine tkF 2 rfl ?_; refine tkF 3 rfl ?_
  try simp only [Act.put, List.setIfInBounds_toArray, List.set_cons_zero, List.set_cons_succ, List.getElem_toArray, List.getElem_cons_succ, List.getElem_cons_zero]
  refine tkF 4 rfl ?_; refine tkF 5 rfl ?_; refine tkF 6 rfl ?_; refine tkF 7 rfl ?_
  try simp only [Act.put, List.setIfInBounds_toArray, List.set_cons_zero, List.set_cons_succ, List.getElem_toArray, List.getElem_cons_succ, List.getElem_cons_zero]
  refine tkF 8 rfl ?_; refine tkF 9 rfl ?_; refine tkF 10 rfl ?_; refine tkF 11 rfl ?_
  try simp only [Act.put, List.setIfInBounds_toArray, List.set_cons_zero, List.set_cons_succ, List.getElem_toArray, List.getElem_cons_succ, List.getElem_cons_zero]
  refine tkF 12 rfl ?_; refine tkF 13 rfl ?_; refine tkF 14 rfl ?_; refine tkF 15 rfl ?_
  try simp only [Act.put, List.setIfInBounds_toArray, List.set_cons_zero, List.set_cons_succ, List.getElem_toArray, List.getElem_cons_succ, List.getElem_cons_zero]
  refine tkF (v := .int .i64 (tickL s)) 16 rfl ?_ (by intro w'' hSw; (try dsimp only at hSw); simp only [List.getElem_toArray, List.getElem_cons_succ, List.getElem_cons_zero]; go_simp; rw [HL.out])
  try simp only [Act.put, List.setIfInBounds_toArray, List.set_cons_zero, List.set_cons_succ, List.getElem_toArray, List.getElem_cons_succ, List.getElem_cons_zero]
  refine wpAnyF_ready (rs := [17]) (by kernel_rfl) (by simp) ?_
  refine AllReadyF.fin rfl (by decide) (fun K hK => ?_) AllReadyF.nil
  first | (with_reducible refine iteYes ?hcx ?htx; case hcx => kernel_rfl) | rw [if_pos (by rfl)]
  simp only [List.getElem_toArray, List.getElem_cons_succ, List.getElem_cons_zero]
  go_simp
  skip
  refine hK.out _ _ ?_
  clear hK K
  try simp only [Act.put, List.setIfInBounds_toArray, List.set_cons_zero, List.set_cons_succ, List.getElem_toArray, List.getElem_cons_succ, List.getElem_cons_zero]
  refine wpAnyF_ready (rs := [18]) (by kernel_rfl) (by simp) ?_
  refine AllReadyF.fin rfl (by decide) (fun K hK => ?_) AllReadyF.nil
  first | (with_reducible refine iteYes ?hcx ?htx; case hcx => kernel_rfl) | rw [if_pos (by rfl)]
  simp only [List.getElem_toArray, List.getElem_cons_succ, List.getElem_cons_zero]
  go_simp
  skip
  refine hK.out _ _ ?_
  clear hK K
  try simp only [Act.put, List.setIfInBounds_toArray, List.set_cons_zero, List.set_cons_succ, List.getElem_toArray, List.getElem_cons_succ, List.getElem_cons_zero]
  refine wpAnyF_ready (rs := [19]) (by kernel_rfl) (by simp) ?_
  refine AllReadyF.fin rfl (by decide) (fun K hK => ?_) AllReadyF.nil
  first | (with_reducible refine iteYes ?hcx ?htx; case hcx => kernel_rfl) | rw [if_pos (by rfl)]
  simp only [List.getElem_toArray, List.getElem_cons_succ, List.getElem_cons_zero]
  go_simp
  skip
  refine hK.out _ _ ?_
  clear hK K
  try simp only [Act.put, List.setIfInBounds_toArray, List.set_cons_zero, List.set_cons_succ, List.getElem_toArray, List.getElem_cons_succ, List.getElem_cons_zero]
  refine wpAnyF_done (by kernel_rfl) ?_ _
  go_wp2_with fail
  refine bodyPost_end (results_none rfl _ _ _) rfl ?_
  exact ⟨rfl, H.out.drew.putLeft _, ((Only.refl [x] w).drew.setCell (p := ⟨x, 3, none⟩) (Or.inl (by simp)) _)⟩
theorem leftS_calls (x : Nat) (s : Se) (w : World) (h : SeAt w x s) : Calls Tryd.prog 10 #[.pointer (some ⟨x, 0, none⟩)] w fun e w' => e = .returned (.int .i64 (s.left)) ∧ w' = w := by
  have c := h.c3
  go_enter Tryd.func10, Tryd.ntmps10
  go_wp2_with fail
  go_ret
  exact ⟨rfl, rfl⟩
theorem newestS_calls (x : Nat) (s : Se) (w : World) (h : SeAt w x s) : Calls Tryd.prog 13 #[.pointer (some ⟨x, 0, none⟩)] w fun e w' => e = .returned (.int .i64 (s.newest)) ∧ w' = w := by
  have c := h.c4
  go_enter Tryd.func13, Tryd.ntmps13
  go_wp2_with fail
  go_ret
  exact ⟨rfl, rfl⟩
/-- Whether a number came that is not too old. -/
def hasM (s : Se) (n : Int) : Bool := decide (n ≤ s.newest) && s.came.testBit (s.newest - n).toNat
set_option maxRecDepth 100000 in
theorem has_calls (x : Nat) (s : Se) (n : Int) (w : World) (h : SeAt w x s) (ok : SeOk s) (hn : s.newest - 64 < n) : Calls Tryd.prog 17 #[.pointer (some ⟨x, 0, none⟩), .int .i64 n] w fun e w' => e = .returned (.bool (hasM s n)) ∧ SeAt w' x s ∧ Only [x] w w' := by
  have c4 := h.c4; have c5 := h.c5
  have H : Hid (SeAt w x s) := h
  by_cases hl : n ≤ s.newest
  · have h1 : decide (n ≤ s.newest) = true := by simpa using hl
    obtain ⟨d, hd⟩ : ∃ d : Nat, s.newest - n = (d : Int) := ⟨(s.newest - n).toNat, by omega⟩
    have hd64 : d < 64 := by omega
    obtain ⟨q, hq⟩ : ∃ q : Nat, q = s.came / 2 ^ d := ⟨_, rfl⟩
    have HQ : Hid (q = s.came / 2 ^ d) := hq
    have HW : Hid (IntKind.i64.wrap (s.newest - n) = (d : Int)) := by show _ = _; rw [hd]; exact wrap_in (by omega) (by omega)
    obtain ⟨b, hb⟩ : ∃ b : Nat, b = q % 2 := ⟨_, rfl⟩
    have HS : Hid (((s.came : Nat) : Int) / 2 ^ d = (q : Int)) := by
      show _ = _
      rw [hq]; simp
    have HB : Hid (Go.bits .and .u64 ((q : Nat) : Int) 1 = (b : Int)) := by
      show _ = _
      rw [hb, show (1 : Int) = ((1 : Nat) : Int) from rfl, bits_and_u64_nat q 1 (by rw [hq]; exact Nat.lt_of_le_of_lt (Nat.div_le_self _ _) ok.c1) (by omega), Nat.and_one_is_mod]
    have HR : Hid ((((b : Nat) : Int) == 1) = hasM s n) := by
      show _ = _
      unfold hasM
      rw [hb, h1, show (s.newest - n).toNat = d by omega, Nat.testBit_eq_decide_div_mod_eq, ← hq, Bool.true_and]
      rcases Nat.mod_two_eq_zero_or_one q with e | e <;> simp [e]
    clear hq hd ok h hn hb
    go_enter Tryd.func17, Tryd.ntmps17
    go_upto_region 1 with fail
    refine wp_region_held_drew (S := (fun w' => w'.cell? ⟨x, 4, none⟩ = some (.int .i64 (s.newest)) ∧ w'.cell? ⟨x, 5, none⟩ = some (.int .u64 ((s.came : Nat) : Int)))) (by kernel_rfl) ?_ (fun hHeld1 => ?_)
    · (try dsimp only); exact ⟨c4, c5⟩
    refine tkW 0 rfl ?_; refine tkW 1 rfl ?_; refine tkW 2 rfl ?_; refine tkW 3 rfl ?_
    try simp only [Act.put, List.setIfInBounds_toArray, List.set_cons_zero, List.set_cons_succ, List.getElem_toArray, List.getElem_cons_succ, List.getElem_cons_zero]
    refine tkW 4 rfl ?_; refine tkW 5 rfl ?_; refine tkW 6 rfl ?_; refine tkW 7 rfl ?_
    try simp only [Act.put, List.setIfInBounds_toArray, List.set_cons_zero, List.set_cons_succ, List.getElem_toArray, List.getElem_cons_succ, List.getElem_cons_zero]
    refine tkW 8 rfl ?_; refine tkW 9 rfl ?_; refine tkW 10 rfl ?_; refine tkW 11 rfl ?_
    try simp only [Act.put, List.setIfInBounds_toArray, List.set_cons_zero, List.set_cons_succ, List.getElem_toArray, List.getElem_cons_succ, List.getElem_cons_zero]
    refine tkW 12 rfl ?_; refine tkW 13 rfl ?_; refine tkW 14 rfl ?_; refine tkW 15 rfl ?_
    try simp only [Act.put, List.setIfInBounds_toArray, List.set_cons_zero, List.set_cons_succ, List.getElem_toArray, List.getElem_cons_succ, List.getElem_cons_zero]
    refine tkW (v := .int .i64 ((d : Int))) 16 rfl ?_ (by intro w'' hSw; (try dsimp only at hSw); simp only [List.getElem_toArray, List.getElem_cons_succ, List.getElem_cons_zero]; go_simp; rw [HW.out])
    try simp only [Act.put, List.setIfInBounds_toArray, List.set_cons_zero, List.set_cons_succ, List.getElem_toArray, List.getElem_cons_succ, List.getElem_cons_zero]
    refine tkW (v := .int .u64 ((q : Nat) : Int)) 17 rfl ?_ (by intro w'' hSw; (try dsimp only at hSw); simp only [List.getElem_toArray, List.getElem_cons_succ, List.getElem_cons_zero]; go_simp; rw [HS.out])
    try simp only [Act.put, List.setIfInBounds_toArray, List.set_cons_zero, List.set_cons_succ, List.getElem_toArray, List.getElem_cons_succ, List.getElem_cons_zero]
    refine tkW (v := .int .u64 ((b : Nat) : Int)) 18 rfl ?_ (by intro w'' hSw; (try dsimp only at hSw); simp only [List.getElem_toArray, List.getElem_cons_succ, List.getElem_cons_zero]; go_simp; rw [HB.out])
    try simp only [Act.put, List.setIfInBounds_toArray, List.set_cons_zero, List.set_cons_succ, List.getElem_toArray, List.getElem_cons_succ, List.getElem_cons_zero]
    refine tkW (v := .bool (hasM s n)) 19 rfl ?_ (by intro w'' hSw; (try dsimp only at hSw); simp only [List.getElem_toArray, List.getElem_cons_succ, List.getElem_cons_zero]; go_simp; rw [HR.out])
    try simp only [Act.put, List.setIfInBounds_toArray, List.set_cons_zero, List.set_cons_succ, List.getElem_toArray, List.getElem_cons_succ, List.getElem_cons_zero]
    refine tkW 20 rfl ?_; refine tkW 21 rfl ?_
    try simp only [Act.put, List.setIfInBounds_toArray, List.set_cons_zero, List.set_cons_succ, List.getElem_toArray, List.getElem_cons_succ, List.getElem_cons_zero]
    refine wpAnyH_done (by kernel_rfl) ?_ _
    go_wp2_with fail
    go_ret
    exact ⟨rfl, H.out, (Only.refl [x] w).drew⟩
  · have h1 : decide (n ≤ s.newest) = false := by simpa using hl
    go_enter Tryd.func17, Tryd.ntmps17
    go_upto_region 1 with fail
    refine wp_region_held_drew (S := (fun w' => w'.cell? ⟨x, 4, none⟩ = some (.int .i64 (s.newest)) ∧ w'.cell? ⟨x, 5, none⟩ = some (.int .u64 ((s.came : Nat) : Int)))) (by kernel_rfl) ?_ (fun hHeld1 => ?_)
    · (try dsimp only); exact ⟨c4, c5⟩
    refine tkW 0 rfl ?_; refine tkW 1 rfl ?_; refine tkW 2 rfl ?_; refine tkW 3 rfl ?_
    try simp only [Act.put, List.setIfInBounds_toArray, List.set_cons_zero, List.set_cons_succ, List.getElem_toArray, List.getElem_cons_succ, List.getElem_cons_zero]
    refine tkW 4 rfl ?_; refine tkW 5 rfl ?_; refine tkW 6 rfl ?_
    try simp only [Act.put, List.setIfInBounds_toArray, List.set_cons_zero, List.set_cons_succ, List.getElem_toArray, List.getElem_cons_succ, List.getElem_cons_zero]
    refine skW 7 rfl ?_; refine skW 8 rfl ?_; refine skW 9 rfl ?_; refine skW 10 rfl ?_
    try simp only [Act.put, List.setIfInBounds_toArray, List.set_cons_zero, List.set_cons_succ, List.getElem_toArray, List.getElem_cons_succ, List.getElem_cons_zero]
    refine skW 11 rfl ?_; refine skW 12 rfl ?_; refine skW 13 rfl ?_; refine skW 14 rfl ?_
    try simp only [Act.put, List.setIfInBounds_toArray, List.set_cons_zero, List.set_cons_succ, List.getElem_toArray, List.getElem_cons_succ, List.getElem_cons_zero]
    refine skW 15 rfl ?_; refine skW 16 rfl ?_; refine skW 17 rfl ?_; refine skW 18 rfl ?_
    try simp only [Act.put, List.setIfInBounds_toArray, List.set_cons_zero, List.set_cons_succ, List.getElem_toArray, List.getElem_cons_succ, List.getElem_cons_zero]
    refine skW 19 rfl ?_
    try simp only [Act.put, List.setIfInBounds_toArray, List.set_cons_zero, List.set_cons_succ, List.getElem_toArray, List.getElem_cons_succ, List.getElem_cons_zero]
    refine tkW 20 rfl ?_; refine tkW 21 rfl ?_
    try simp only [Act.put, List.setIfInBounds_toArray, List.set_cons_zero, List.set_cons_succ, List.getElem_toArray, List.getElem_cons_succ, List.getElem_cons_zero]
    refine wpAnyH_done (by kernel_rfl) ?_ _
    go_wp2_with fail
    go_ret
    exact ⟨ret_bool (by unfold hasM; rw [h1, Bool.false_and]), H.out, (Only.refl [x] w).drew⟩
/-- What came, a number more. -/
def keepM (s : Se) (n : Int) : Se :=
  if s.newest < n then { s with newest := n, came := shlM s.came (n - s.newest).toNat ||| 1 } else { s with came := s.came ||| shlM 1 (s.newest - n).toNat }
theorem shlM_lt (c k : Nat) : shlM c k < 18446744073709551616 := Nat.mod_lt _ (by decide)
set_option maxRecDepth 100000 in
theorem keepN_calls (x : Nat) (s : Se) (n : Int) (w : World) (h : SeAt w x s) (ok : SeOk s) (hn : s.newest - 64 < n) (h0 : 0 ≤ n) (ht : n ≤ 70368744177664) : Calls Tryd.prog 18 #[.pointer (some ⟨x, 0, none⟩), .int .i64 n] w fun e w' => e = .returned (.tuple #[]) ∧ SeAt w' x (keepM s n) ∧ Only [x] w w' := by
  have c4 := h.c4; have c5 := h.c5; have f4 := h.free 4; have f5 := h.free 5
  have H : Hid (SeAt w x s) := h
  have hn0 := ok.n0; have hn1 := ok.n1
  by_cases hl : n > s.newest
  · obtain ⟨d, hd⟩ : ∃ d : Nat, n - s.newest = (d : Int) := ⟨(n - s.newest).toNat, by omega⟩
    obtain ⟨q, hq⟩ : ∃ q : Nat, q = shlM s.came d := ⟨_, rfl⟩
    have HQ : Hid (q = shlM s.came (n - s.newest).toNat ∧ s.newest < n) := ⟨by rw [hq, show (n - s.newest).toNat = d by omega], hl⟩
    have HW : Hid (IntKind.i64.wrap (n - s.newest) = (d : Int)) := by show _ = _; rw [hd]; exact wrap_in (by omega) (by omega)
    have HS : Hid (IntKind.u64.wrap (((s.came : Nat) : Int) * 2 ^ min d 64) = (q : Int)) := by
      show _ = _
      rw [IntKind.wrap_u64, hq]; unfold shlM; simp
    have HB : Hid (Go.bits .or .u64 ((q : Nat) : Int) 1 = ((q ||| 1 : Nat) : Int)) := by
      show _ = _
      rw [show (1 : Int) = ((1 : Nat) : Int) from rfl, bits_or_u64_nat q 1 (by rw [hq]; exact shlM_lt _ _) (by omega)]
    clear hq hd ok h hn
    go_enter Tryd.func18, Tryd.ntmps18
    go_upto_region 1 with fail
    refine wp_region_F_drew 11 (fun w' => w'.cell? ⟨x, 4, none⟩ = some (.int .i64 (s.newest)) ∧ w'.cell? ⟨x, 5, none⟩ = some (.int .u64 ((s.came : Nat) : Int))) (by kernel_rfl) ?_ (fun hHeld1 => ?_)
    · (try dsimp only); exact ⟨c4, c5⟩
    refine tkF 0 rfl ?_; refine tkF 1 rfl ?_; refine tkF 2 rfl ?_; refine tkF 3 rfl ?_
    try simp only [Act.put, List.setIfInBounds_toArray, List.set_cons_zero, List.set_cons_succ, List.getElem_toArray, List.getElem_cons_succ, List.getElem_cons_zero]
    refine tkF 4 rfl ?_; refine tkF 5 rfl ?_; refine tkF 6 rfl ?_; refine tkF 7 rfl ?_
    try simp only [Act.put, List.setIfInBounds_toArray, List.set_cons_zero, List.set_cons_succ, List.getElem_toArray, List.getElem_cons_succ, List.getElem_cons_zero]
    refine tkF 8 rfl ?_
    try simp only [Act.put, List.setIfInBounds_toArray, List.set_cons_zero, List.set_cons_succ, List.getElem_toArray, List.getElem_cons_succ, List.getElem_cons_zero]
    refine tkF (v := .int .i64 ((d : Int))) 9 rfl ?_ (by intro w'' hSw; (try dsimp only at hSw); simp only [List.getElem_toArray, List.getElem_cons_succ, List.getElem_cons_zero]; go_simp; rw [HW.out])
    try simp only [Act.put, List.setIfInBounds_toArray, List.set_cons_zero, List.set_cons_succ, List.getElem_toArray, List.getElem_cons_succ, List.getElem_cons_zero]
    refine tkF (v := .int .u64 ((q : Nat) : Int)) 10 rfl ?_ (by intro w'' hSw; (try dsimp only at hSw); simp only [List.getElem_toArray, List.getElem_cons_succ, List.getElem_cons_zero]; go_simp; rw [HS.out])
    try simp only [Act.put, List.setIfInBounds_toArray, List.set_cons_zero, List.set_cons_succ, List.getElem_toArray, List.getElem_cons_succ, List.getElem_cons_zero]
    refine wpAnyF_ready (rs := [11]) (by kernel_rfl) (by simp) ?_
    refine AllReadyF.fin rfl (by decide) (fun K hK => ?_) AllReadyF.nil
    first | (with_reducible refine iteYes ?hcx ?htx; case hcx => kernel_rfl) | rw [if_pos (by rfl)]
    simp only [List.getElem_toArray, List.getElem_cons_succ, List.getElem_cons_zero]
    go_simp
    skip
    refine hK.out _ _ ?_
    clear hK K
    try simp only [Act.put, List.setIfInBounds_toArray, List.set_cons_zero, List.set_cons_succ, List.getElem_toArray, List.getElem_cons_succ, List.getElem_cons_zero]
    refine wpAnyF_ready (rs := [12]) (by kernel_rfl) (by simp) ?_
    refine AllReadyF.fin rfl (by decide) (fun K hK => ?_) AllReadyF.nil
    first | (with_reducible refine iteYes ?hcx ?htx; case hcx => kernel_rfl) | rw [if_pos (by rfl)]
    simp only [List.getElem_toArray, List.getElem_cons_succ, List.getElem_cons_zero]
    go_simp
    skip
    refine hK.out _ _ ?_
    clear hK K
    try simp only [Act.put, List.setIfInBounds_toArray, List.set_cons_zero, List.set_cons_succ, List.getElem_toArray, List.getElem_cons_succ, List.getElem_cons_zero]
    refine wpAnyF_ready (rs := [13]) (by kernel_rfl) (by simp) ?_
    refine AllReadyF.fin rfl (by decide) (fun K hK => ?_) AllReadyF.nil
    first | (with_reducible refine iteYes ?hcx ?htx; case hcx => kernel_rfl) | rw [if_pos (by rfl)]
    simp only [List.getElem_toArray, List.getElem_cons_succ, List.getElem_cons_zero]
    go_simp
    skip
    refine hK.out _ _ ?_
    clear hK K
    try simp only [Act.put, List.setIfInBounds_toArray, List.set_cons_zero, List.set_cons_succ, List.getElem_toArray, List.getElem_cons_succ, List.getElem_cons_zero]
    refine wpAnyF_done (by kernel_rfl) ?_ _
    have H1 : Hid (SeAt (w.setCell ⟨x, 5, none⟩ (.int .u64 ((q : Nat) : Int))).drew x { s with came := q } ∧ Only [x] w (w.setCell ⟨x, 5, none⟩ (.int .u64 ((q : Nat) : Int))).drew) := ⟨(H.out.putCame q).drew, ((Only.refl [x] w).setCell (p := ⟨x, 5, none⟩) (Or.inl (by simp)) _).drew⟩
    clear H c4 c5 f4 f5 hHeld1
    generalize World.drew (World.setCell w _ _) = w1 at H1 ⊢
    have f4 := H1.out.1.free 4
    have c4 := H1.out.1.c4
    go_upto_region 3 with fail
    have H2 : Hid (SeAt (w1.setCell ⟨x, 4, none⟩ (.int .i64 n)) x { s with came := q, newest := n } ∧ Only [x] w (w1.setCell ⟨x, 4, none⟩ (.int .i64 n))) := ⟨H1.out.1.putNewest n, H1.out.2.setCell (p := ⟨x, 4, none⟩) (Or.inl (by simp)) _⟩
    clear H1 c4 f4
    generalize World.setCell w1 _ _ = w2 at H2 ⊢
    have c4 := H2.out.1.c4; have c5 := H2.out.1.c5; have f5 := H2.out.1.free 5
    refine wp_region_F_drew 12 (fun w' => w'.cell? ⟨x, 4, none⟩ = some (.int .i64 n) ∧ w'.cell? ⟨x, 5, none⟩ = some (.int .u64 ((q : Nat) : Int))) (by kernel_rfl) ?_ (fun hHeld1 => ?_)
    · (try dsimp only); exact ⟨c4, c5⟩
    refine tkF 0 rfl ?_; refine tkF 1 rfl ?_; refine tkF 2 rfl ?_; refine tkF 3 rfl ?_
    try simp only [Act.put, List.setIfInBounds_toArray, List.set_cons_zero, List.set_cons_succ, List.getElem_toArray, List.getElem_cons_succ, List.getElem_cons_zero]
    refine tkF 4 rfl ?_; refine tkF 5 rfl ?_; refine tkF 6 rfl ?_; refine tkF 7 rfl ?_
    try simp only [Act.put, List.setIfInBounds_toArray, List.set_cons_zero, List.set_cons_succ, List.getElem_toArray, List.getElem_cons_succ, List.getElem_cons_zero]
    refine tkF 8 rfl ?_
    try simp only [Act.put, List.setIfInBounds_toArray, List.set_cons_zero, List.set_cons_succ, List.getElem_toArray, List.getElem_cons_succ, List.getElem_cons_zero]
    refine tkF (v := .int .i64 0) 9 rfl ?_ (by intro w'' hSw; (try dsimp only at hSw); simp only [List.getElem_toArray, List.getElem_cons_succ, List.getElem_cons_zero]; go_simp; rfl)
    try simp only [Act.put, List.setIfInBounds_toArray, List.set_cons_zero, List.set_cons_succ, List.getElem_toArray, List.getElem_cons_succ, List.getElem_cons_zero]
    refine tkF (v := .int .u64 1) 10 rfl ?_ (by intro w'' hSw; (try dsimp only at hSw); simp only [List.getElem_toArray, List.getElem_cons_succ, List.getElem_cons_zero]; go_simp; rfl)
    try simp only [Act.put, List.setIfInBounds_toArray, List.set_cons_zero, List.set_cons_succ, List.getElem_toArray, List.getElem_cons_succ, List.getElem_cons_zero]
    refine tkF (v := .int .u64 ((q ||| 1 : Nat) : Int)) 11 rfl ?_ (by intro w'' hSw; (try dsimp only at hSw); simp only [List.getElem_toArray, List.getElem_cons_succ, List.getElem_cons_zero]; go_simp; rw [HB.out])
    try simp only [Act.put, List.setIfInBounds_toArray, List.set_cons_zero, List.set_cons_succ, List.getElem_toArray, List.getElem_cons_succ, List.getElem_cons_zero]
    refine wpAnyF_ready (rs := [12]) (by kernel_rfl) (by simp) ?_
    refine AllReadyF.fin rfl (by decide) (fun K hK => ?_) AllReadyF.nil
    first | (with_reducible refine iteYes ?hcx ?htx; case hcx => kernel_rfl) | rw [if_pos (by rfl)]
    simp only [List.getElem_toArray, List.getElem_cons_succ, List.getElem_cons_zero]
    go_simp
    skip
    refine hK.out _ _ ?_
    clear hK K
    try simp only [Act.put, List.setIfInBounds_toArray, List.set_cons_zero, List.set_cons_succ, List.getElem_toArray, List.getElem_cons_succ, List.getElem_cons_zero]
    refine wpAnyF_ready (rs := [13]) (by kernel_rfl) (by simp) ?_
    refine AllReadyF.fin rfl (by decide) (fun K hK => ?_) AllReadyF.nil
    first | (with_reducible refine iteYes ?hcx ?htx; case hcx => kernel_rfl) | rw [if_pos (by rfl)]
    simp only [List.getElem_toArray, List.getElem_cons_succ, List.getElem_cons_zero]
    go_simp
    skip
    refine hK.out _ _ ?_
    clear hK K
    try simp only [Act.put, List.setIfInBounds_toArray, List.set_cons_zero, List.set_cons_succ, List.getElem_toArray, List.getElem_cons_succ, List.getElem_cons_zero]
    refine wpAnyF_ready (rs := [14]) (by kernel_rfl) (by simp) ?_
    refine AllReadyF.fin rfl (by decide) (fun K hK => ?_) AllReadyF.nil
    first | (with_reducible refine iteYes ?hcx ?htx; case hcx => kernel_rfl) | rw [if_pos (by rfl)]
    simp only [List.getElem_toArray, List.getElem_cons_succ, List.getElem_cons_zero]
    go_simp
    skip
    refine hK.out _ _ ?_
    clear hK K
    try simp only [Act.put, List.setIfInBounds_toArray, List.set_cons_zero, List.set_cons_succ, List.getElem_toArray, List.getElem_cons_succ, List.getElem_cons_zero]
    refine wpAnyF_done (by kernel_rfl) ?_ _
    go_wp2_with fail
    refine bodyPost_end (results_none rfl _ _ _) rfl ?_
    refine ⟨rfl, ?_, H2.out.2.drew.setCell (p := ⟨x, 5, none⟩) (Or.inl (by simp)) _⟩
    unfold keepM
    rw [if_pos HQ.out.2, ← HQ.out.1]
    exact H2.out.1.drew.putCame (q ||| 1)
  · obtain ⟨d, hd⟩ : ∃ d : Nat, s.newest - n = (d : Int) := ⟨(s.newest - n).toNat, by omega⟩
    obtain ⟨q, hq⟩ : ∃ q : Nat, q = shlM 1 d := ⟨_, rfl⟩
    obtain ⟨p, hp⟩ : ∃ p : Nat, p = s.came ||| q := ⟨_, rfl⟩
    have HQ : Hid (p = s.came ||| shlM 1 (s.newest - n).toNat ∧ n ≤ s.newest) := ⟨by rw [hp, hq, show (s.newest - n).toNat = d by omega], by omega⟩
    have HW : Hid (IntKind.i64.wrap (s.newest - n) = (d : Int)) := by show _ = _; rw [hd]; exact wrap_in (by omega) (by omega)
    have HS : Hid (IntKind.u64.wrap (2 ^ min d 64) = (q : Int)) := by
      show _ = _
      rw [IntKind.wrap_u64, hq]; unfold shlM; simp
    have HB : Hid (Go.bits .or .u64 ((s.came : Nat) : Int) ((q : Nat) : Int) = ((p : Nat) : Int)) := by
      show _ = _
      rw [hp, bits_or_u64_nat _ q ok.c1 (by rw [hq]; exact shlM_lt _ _)]
    clear hq hd hp ok h hn
    go_enter Tryd.func18, Tryd.ntmps18
    go_upto_region 3 with fail
    refine wp_region_F_drew 12 (fun w' => w'.cell? ⟨x, 4, none⟩ = some (.int .i64 (s.newest)) ∧ w'.cell? ⟨x, 5, none⟩ = some (.int .u64 ((s.came : Nat) : Int))) (by kernel_rfl) ?_ (fun hHeld1 => ?_)
    · (try dsimp only); exact ⟨c4, c5⟩
    refine tkF 0 rfl ?_; refine tkF 1 rfl ?_; refine tkF 2 rfl ?_; refine tkF 3 rfl ?_
    try simp only [Act.put, List.setIfInBounds_toArray, List.set_cons_zero, List.set_cons_succ, List.getElem_toArray, List.getElem_cons_succ, List.getElem_cons_zero]
    refine tkF 4 rfl ?_; refine tkF 5 rfl ?_; refine tkF 6 rfl ?_; refine tkF 7 rfl ?_
    try simp only [Act.put, List.setIfInBounds_toArray, List.set_cons_zero, List.set_cons_succ, List.getElem_toArray, List.getElem_cons_succ, List.getElem_cons_zero]
    refine tkF 8 rfl ?_
    try simp only [Act.put, List.setIfInBounds_toArray, List.set_cons_zero, List.set_cons_succ, List.getElem_toArray, List.getElem_cons_succ, List.getElem_cons_zero]
    refine tkF (v := .int .i64 ((d : Int))) 9 rfl ?_ (by intro w'' hSw; (try dsimp only at hSw); simp only [List.getElem_toArray, List.getElem_cons_succ, List.getElem_cons_zero]; go_simp; rw [HW.out])
    try simp only [Act.put, List.setIfInBounds_toArray, List.set_cons_zero, List.set_cons_succ, List.getElem_toArray, List.getElem_cons_succ, List.getElem_cons_zero]
    refine tkF (v := .int .u64 ((q : Nat) : Int)) 10 rfl ?_ (by intro w'' hSw; (try dsimp only at hSw); simp only [List.getElem_toArray, List.getElem_cons_succ, List.getElem_cons_zero]; go_simp; rw [HS.out])
    try simp only [Act.put, List.setIfInBounds_toArray, List.set_cons_zero, List.set_cons_succ, List.getElem_toArray, List.getElem_cons_succ, List.getElem_cons_zero]
    refine tkF (v := .int .u64 ((p : Nat) : Int)) 11 rfl ?_ (by intro w'' hSw; (try dsimp only at hSw); simp only [List.getElem_toArray, List.getElem_cons_succ, List.getElem_cons_zero]; go_simp; rw [HB.out])
    try simp only [Act.put, List.setIfInBounds_toArray, List.set_cons_zero, List.set_cons_succ, List.getElem_toArray, List.getElem_cons_succ, List.getElem_cons_zero]
    refine wpAnyF_ready (rs := [12]) (by kernel_rfl) (by simp) ?_
    refine AllReadyF.fin rfl (by decide) (fun K hK => ?_) AllReadyF.nil
    first | (with_reducible refine iteYes ?hcx ?htx; case hcx => kernel_rfl) | rw [if_pos (by rfl)]
    simp only [List.getElem_toArray, List.getElem_cons_succ, List.getElem_cons_zero]
    go_simp
    skip
    refine hK.out _ _ ?_
    clear hK K
    try simp only [Act.put, List.setIfInBounds_toArray, List.set_cons_zero, List.set_cons_succ, List.getElem_toArray, List.getElem_cons_succ, List.getElem_cons_zero]
    refine wpAnyF_ready (rs := [13]) (by kernel_rfl) (by simp) ?_
    refine AllReadyF.fin rfl (by decide) (fun K hK => ?_) AllReadyF.nil
    first | (with_reducible refine iteYes ?hcx ?htx; case hcx => kernel_rfl) | rw [if_pos (by rfl)]
    simp only [List.getElem_toArray, List.getElem_cons_succ, List.getElem_cons_zero]
    go_simp
    skip
    refine hK.out _ _ ?_
    clear hK K
    try simp only [Act.put, List.setIfInBounds_toArray, List.set_cons_zero, List.set_cons_succ, List.getElem_toArray, List.getElem_cons_succ, List.getElem_cons_zero]
    refine wpAnyF_ready (rs := [14]) (by kernel_rfl) (by simp) ?_
    refine AllReadyF.fin rfl (by decide) (fun K hK => ?_) AllReadyF.nil
    first | (with_reducible refine iteYes ?hcx ?htx; case hcx => kernel_rfl) | rw [if_pos (by rfl)]
    simp only [List.getElem_toArray, List.getElem_cons_succ, List.getElem_cons_zero]
    go_simp
    skip
    refine hK.out _ _ ?_
    clear hK K
    try simp only [Act.put, List.setIfInBounds_toArray, List.set_cons_zero, List.set_cons_succ, List.getElem_toArray, List.getElem_cons_succ, List.getElem_cons_zero]
    refine wpAnyF_done (by kernel_rfl) ?_ _
    go_wp2_with fail
    refine bodyPost_end (results_none rfl _ _ _) rfl ?_
    refine ⟨rfl, ?_, (Only.refl [x] w).drew.setCell (p := ⟨x, 5, none⟩) (Or.inl (by simp)) _⟩
    unfold keepM
    rw [if_neg (Int.not_lt.2 HQ.out.2), ← HQ.out.1]
    exact H.out.drew.putCame p
end Go.Proofs.YtepgcpcanbekaaaDoor
