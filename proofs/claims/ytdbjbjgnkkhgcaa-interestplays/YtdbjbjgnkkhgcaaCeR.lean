/- slices.IndexFunc and slices.DeleteFunc over spots: of the one with a number. -/
import Derived.Test.YtdbjbjgnkkhgcaaCe2
import Derived.Test.YtdbjbjgnkkhgcaaRows
import Derived.OrdersHeld
import Derived.Deep.RegionHeld
import Derived.Test.YtdbjbjgnkkhgcaaAny
import Derived.Test.YtdbjbjgnkkhgcaaCe5
namespace Go.Proofs.Ytdbjbjgnkkhgcaa
open Go.ChangeShapes Go.WideShapes Go.ChangeAt Go.RowKit
set_option linter.unusedVariables false
set_option linter.unusedSimpArgs false
set_option linter.unusedSectionVars false
variable [DecidableEq Cel]

theorem isOne_calls (s : Spt) (i : Int) (kb : Nat) (w : World) (h : w.cell? ⟨kb, 0, none⟩ = some (.int .i64 i)) :
    Calls Try.prog 19 #[spV s, .pointer (some ⟨kb, 0, none⟩)] w fun e w' => e = .returned (.bool (s.id == i)) ∧ Only [] w w' := by
  unfold spV
  have h2 : ∀ o, (w.alloc o).cell? ⟨kb, 0, none⟩ = some (.int .i64 i) := fun o => ((Only.refl [] w).alloc o).cell h (by simp)
  go_enter Try.func19, Try.ntmps19
  go_wp2
  go_ret
  exact ⟨rfl, (Only.refl [] w).alloc _⟩
theorem indexS_calls (g cap : Nat) (A B : List Spt) (s : Spt) (kb : Nat) (w : World) (h : RowS w g cap (A ++ s :: B)) (hA : ∀ a ∈ A, a.id ≠ s.id) (hb : w.cell? ⟨kb, 0, none⟩ = some (.int .i64 (s.id))) (hn : A.length + B.length + 1 ≤ 1000) :
    Calls Try.prog 33 #[.slice (some ⟨g, 0, none⟩) (A.length + B.length + 1) cap, .func (.func 19) #[] #[.pointer (some ⟨kb, 0, none⟩)]] w
      fun e w' => e = .returned (.int .i64 ((A.length : Int))) ∧ Only [] w w' := by
  have HB : Hid (RowS w g cap (A ++ s :: B) ∧ (∀ a ∈ A, a.id ≠ s.id) ∧ w.cell? ⟨kb, 0, none⟩ = some (.int .i64 (s.id)) ∧ A.length + B.length + 1 ≤ 1000) := ⟨h, hA, hb, hn⟩
  clear h hA hb hn
  go_enter Try.func33, Try.ntmps33
  go_wp2_with fail
  go_loopg [8] (A.length + B.length + 1) (fun k idx wr => ∃ i : Nat, idx = .int .i64 (i : Int) ∧ Hid (i ≤ A.length ∧ k = A.length + B.length + 1 - i) ∧ Hid (Only [] w wr))
  case atStart => exact ⟨0, rfl, ⟨by omega, rfl⟩, Only.refl _ _⟩
  case round =>
    obtain ⟨i, rfl, H1, HO⟩ := hrel
    have hn := HB.out.2.2.2
    have hi := H1.out.1
    have hil : (i : Int) < ((A.length : Int) + (B.length : Int) + 1) := by omega
    have hlen : i < (A ++ s :: B).length := by simp; omega
    have hr := HB.out.1.only HO.out (by simp)
    have hrg := hr.range hlen
    have hcap := hr.cap
    have hc := HO.out.cell HB.out.2.2.1 (by simp)
    have hq : Hid ((A ++ s :: B)[i] = (A ++ s :: B)[i]) := rfl
    generalize hqq : (A ++ s :: B)[i] = q at hrg
    have HQ : Hid ((A ++ s :: B)[i] = q) := hqq
    clear hqq hq
    have hb8 : (i : Int) * 8 ≤ 9000 := by omega
    have hcapi : (i : Int) < (A.length : Int) + (B.length : Int) + 1 := hil
    go_upto_region 4 with fail
    go_wp2_with (first | (refine wpList_load_mid rfl 61 (.tmp 14) rfl g (i * 8) rfl (spL q) _ hrg Try.underlying61 rfl spotSize ?_))
    refine (isOne_calls q s.id kb wr hc).mono ?_
    rintro e w1 ⟨rfl, o1⟩
    have HO1 : Hid (Only [] w w1) := HO.out.trans o1
    by_cases hq : q.id = s.id
    · have ht : (q.id == s.id) = true := by simpa using hq
      have he : i = A.length := by
        rcases Nat.lt_or_ge i A.length with hlt | hge
        · exfalso
          have h1 := HQ.out
          rw [List.getElem_append_left hlt] at h1
          exact HB.out.2.1 _ (List.getElem_mem hlt) (by rw [h1]; exact hq)
        · omega
      go_wp2
      go_ret
      exact ⟨rfl, HO1.out⟩
    · have ht : (q.id == s.id) = false := by simpa using hq
      have he : i < A.length := by
        rcases Nat.lt_or_ge i A.length with hlt | hge
        · exact hlt
        · exfalso
          have h1 := HQ.out
          have h2 : i = A.length := by omega
          subst h2
          simp at h1
          exact hq (by rw [h1])
      go_wp2
      go_roundg (A.length + B.length + 1 - (i + 1))
      case rel => exact ⟨i + 1, by simp, ⟨by omega, rfl⟩, HO1⟩
      case measure => have := H1.out.2; omega
def sp0 : Spt := ⟨0, 0, ⟨0, 0, 0, 0, 0, 0⟩⟩
theorem zeroSpot (w : World) : (zeroValue 61).run Try.prog w = .ok (.agg #[.int .i64 0, .int .i64 0, .int .i64 0, .int .i64 0, .int .i64 0, .int .i64 0, .int .i64 0, .int .i64 0]) w := by kernel_rfl
theorem run_clear1 {w : World} {g cap : Nat} {l : List Spt} (h : RowS w g cap l) {i : Nat} (hi : i < cap) (c : Nat) (ty : TypeId) :
    (Builtin.clear_ #[56] ty #[.slice (some ⟨g, i * 8, none⟩) 1 c]).run Try.prog w = .ok (.tuple #[]) (w.setCells g (i * 8) (spL sp0)) := by
  have ht := h.there hi
  have hst := run_storeCells_cells (P := Try.prog) g (i * 8) (spL sp0) 0 w (fun j hj => (ht j (by rw [spL_len] at hj; exact hj)).1) (fun j hj => (ht j (by rw [spL_len] at hj; exact hj)).2) (fun v hv => by
    simp only [spL, List.mem_cons, List.not_mem_nil, or_false] at hv
    rcases hv with rfl | rfl | rfl | rfl | rfl | rfl | rfl | rfl <;> rfl)
  have hz : (Builtin.zeroCells (Value.cells (.agg #[.int .i64 0, .int .i64 0, .int .i64 0, .int .i64 0, .int .i64 0, .int .i64 0, .int .i64 0, .int .i64 0])) 1).toList = spL sp0 := by kernel_rfl
  simp only [Nat.add_zero] at hst
  simp [Builtin.clear_, run_underlying Try.underlying56, zeroSpot, hz, hst]
/-- What is left when k have moved up. -/
def movedS (A B : List Spt) (s : Spt) (k : Nat) : List Spt := A ++ (B.take k ++ (s :: B).drop k)
theorem movedS_len (A B : List Spt) (s : Spt) (k : Nat) (hk : k ≤ B.length) : (movedS A B s k).length = A.length + B.length + 1 := by simp [movedS]; omega
theorem movedS_at (A B : List Spt) (s : Spt) (k : Nat) (hk : k < B.length) : (movedS A B s k)[A.length + 1 + k]? = some B[k] := by
  unfold movedS
  rw [List.getElem?_append_right (by omega), List.getElem?_append_right (by simp; omega)]
  simp only [List.length_take, List.getElem?_drop]
  rw [show k + (A.length + 1 + k - A.length - min k B.length) = k + 1 by omega, List.getElem?_cons_succ, List.getElem?_eq_getElem hk]
theorem movedS_set (A B : List Spt) (s : Spt) (k : Nat) (hk : k < B.length) : (movedS A B s k).set (A.length + k) B[k] = movedS A B s (k + 1) := by
  unfold movedS
  rw [List.set_append_right _ _ (by omega), List.set_append_right _ _ (by simp; omega)]
  congr 1
  have e : A.length + k - A.length - (B.take k).length = 0 := by simp; omega
  rw [e, List.take_succ_eq_append_getElem hk, List.append_assoc]
  congr 1
  obtain ⟨x, hx⟩ : ∃ x, (s :: B).drop k = x :: (s :: B).drop (k + 1) := ⟨(s :: B)[k]'(by simp; omega), List.drop_eq_getElem_cons (by simp; omega)⟩
  rw [hx, List.set_cons_zero]; rfl
theorem movedS_end (A B : List Spt) (s : Spt) : ∃ x, movedS A B s B.length = (A ++ B) ++ [x] := by
  refine ⟨(s :: B)[B.length]'(by simp), ?_⟩
  unfold movedS
  rw [List.take_length, List.drop_eq_getElem_cons (by simp), List.drop_eq_nil_of_le (by simp), List.append_assoc]
set_option maxRecDepth 100000 in
set_option maxHeartbeats 800000 in
theorem deleteS_calls (g cap : Nat) (A B : List Spt) (s : Spt) (kb : Nat) (w : World) (h : RowS w g cap (A ++ s :: B)) (hA : ∀ a ∈ A ++ B, a.id ≠ s.id) (hb : w.cell? ⟨kb, 0, none⟩ = some (.int .i64 (s.id))) (hkg : kb ≠ g) (hn : A.length + B.length + 1 ≤ 1000) :
    Calls Try.prog 18 #[.slice (some ⟨g, 0, none⟩) (A.length + B.length + 1) cap, .func (.func 19) #[] #[.pointer (some ⟨kb, 0, none⟩)]] w
      fun e w' => e = .returned (.slice (some ⟨g, 0, none⟩) (A.length + B.length) cap) ∧ RowS w' g cap (A ++ B) ∧ Only [g] w w' := by
  have HB : Hid (RowS w g cap (A ++ s :: B) ∧ (∀ a ∈ A ++ B, a.id ≠ s.id) ∧ w.cell? ⟨kb, 0, none⟩ = some (.int .i64 (s.id)) ∧ kb ≠ g ∧ A.length + B.length + 1 ≤ 1000) := ⟨h, hA, hb, hkg, hn⟩
  have hcap0 := h.cap
  have hcap : A.length + B.length + 1 ≤ cap ∧ cap ≤ maxLen := by simpa [Nat.add_assoc] using hcap0
  clear h hA hb hkg hcap0
  go_enter Try.func18, Try.ntmps18
  go_wp2_with (go_at_call 33; refine (indexS_calls g cap A B s kb w HB.out.1 (fun a ha => HB.out.2.1 a (List.mem_append_left _ ha)) HB.out.2.2.1 HB.out.2.2.2.2).mono ?_; rintro e w1 ⟨rfl, o1⟩)
  have HO1 : Hid (Only [] w w1) := o1
  clear o1
  go_loopg [5, 6] (B.length + 1) (fun k vi vj wr => ∃ r : Nat, vi = .int .i64 ((A.length + r : Nat) : Int) ∧ vj = .int .i64 ((A.length + 1 + r : Nat) : Int) ∧ Hid (r ≤ B.length ∧ k = B.length + 1 - r) ∧ Hid (Only [g] w wr ∧ RowS wr g cap (movedS A B s r)))
  case atStart => exact ⟨0, by simp, by simp, ⟨by omega, rfl⟩, HO1.out.mono (by simp), HB.out.1.only HO1.out (by simp)⟩
  case round =>
    obtain ⟨r, rfl, rfl, H1, H2⟩ := hrel
    have hr := H1.out.1
    by_cases hlt : r < B.length
    · have hrow := H2.out.2
      have hln := movedS_len A B s r hr
      have hj : A.length + 1 + r < (movedS A B s r).length := by omega
      have hrg := hrow.range hj
      have hq : (movedS A B s r)[A.length + 1 + r] = B[r] := by
        have := movedS_at A B s r hlt
        rw [List.getElem?_eq_getElem hj] at this
        injection this
      rw [hq] at hrg
      have hil : ((A.length + 1 + r : Nat) : Int) < ((A.length : Int) + (B.length : Int) + 1) := by omega
      have hne : B[r].id ≠ s.id := HB.out.2.1 _ (List.mem_append_right _ (List.getElem_mem hlt))
      clear hq
      generalize hBr : B[r] = q at hrg hne
      have HBr : Hid (B[r] = q) := hBr
      clear hBr
      have hc := H2.out.1.cell HB.out.2.2.1 (by simpa using HB.out.2.2.2.1)
      generalize hja : A.length + 1 + r = ja at hrg hil hj
      have HJA : Hid (A.length + 1 + r = ja) := hja
      generalize hia : A.length + r = ia
      have HIA : Hid (A.length + r = ia) := hia
      have hja2 : ja ≤ 1000 := by omega
      have hia2 : ia ≤ 1000 := by omega
      have hia3 : (ia : Int) < ((A.length : Int) + (B.length : Int) + 1) := by omega
      clear hja hia
      go_upto_region 8 with (first | (refine wpList_load_mid rfl 61 (.tmp 24) rfl g (ja * 8) rfl [.int .i64 (q.id), .int .i64 (q.tm), .int .i64 (q.bx.x0), .int .i64 (q.bx.x1), .int .i64 (q.bx.x2), .int .i64 (q.bx.x3), .int .i64 (q.bx.x4), .int .i64 (q.bx.x5)] _ hrg Try.underlying61 rfl spotSize ?_))
      have H3 : Hid (Only [g] w (wr.alloc (.cells #[.int .i64 (q.id), .int .i64 (q.tm), .int .i64 (q.bx.x0), .int .i64 (q.bx.x1), .int .i64 (q.bx.x2), .int .i64 (q.bx.x3), .int .i64 (q.bx.x4), .int .i64 (q.bx.x5)] 61)) ∧ RowS (wr.alloc (.cells #[.int .i64 (q.id), .int .i64 (q.tm), .int .i64 (q.bx.x0), .int .i64 (q.bx.x1), .int .i64 (q.bx.x2), .int .i64 (q.bx.x3), .int .i64 (q.bx.x4), .int .i64 (q.bx.x5)] 61)) g cap (movedS A B s r) ∧ (wr.alloc (.cells #[.int .i64 (q.id), .int .i64 (q.tm), .int .i64 (q.bx.x0), .int .i64 (q.bx.x1), .int .i64 (q.bx.x2), .int .i64 (q.bx.x3), .int .i64 (q.bx.x4), .int .i64 (q.bx.x5)] 61)).heap[wr.heap.size]? = some (.cells #[.int .i64 (q.id), .int .i64 (q.tm), .int .i64 (q.bx.x0), .int .i64 (q.bx.x1), .int .i64 (q.bx.x2), .int .i64 (q.bx.x3), .int .i64 (q.bx.x4), .int .i64 (q.bx.x5)] 61)) :=
        ⟨H2.out.1.alloc _, hrow.only ((Only.refl [] wr).alloc _) (by simp), (MapKept.heap_alloc wr _).1⟩
      generalize hks : wr.heap.size = ks at H3 ⊢
      have HKS : Hid (wr.heap.size = ks) := hks
      clear hks
      revert H3
      generalize World.alloc wr _ = w2
      intro H3
      have hrg2 : w2.rangeAt ks 0 [.int .i64 (q.id), .int .i64 (q.tm), .int .i64 (q.bx.x0), .int .i64 (q.bx.x1), .int .i64 (q.bx.x2), .int .i64 (q.bx.x3), .int .i64 (q.bx.x4), .int .i64 (q.bx.x5)] := fun j v hv => by
        have h1 := H3.out.2.2
        simp only [World.cell?, h1, Option.isSome_none, Bool.false_eq_true, if_false, Nat.zero_add]
        rw [List.getElem?_toArray]; exact hv
      have hc2 := H3.out.1.cell HB.out.2.2.1 (by simpa using HB.out.2.2.2.1)
      clear hc hrg
      go_upto_region 9 with (first | (refine wpList_load_mid rfl 61 (.tmp 7) rfl ks 0 rfl [.int .i64 (q.id), .int .i64 (q.tm), .int .i64 (q.bx.x0), .int .i64 (q.bx.x1), .int .i64 (q.bx.x2), .int .i64 (q.bx.x3), .int .i64 (q.bx.x4), .int .i64 (q.bx.x5)] _ hrg2 Try.underlying61 rfl spotSize ?_) | (go_at_call 19; refine (isOne_calls q s.id kb w2 hc2).mono ?_; rintro e w3 ⟨rfl, o3⟩; have hf : (q.id == s.id) = false := by simpa using hne))
      have H4 : Hid (Only [g] w w3 ∧ RowS w3 g cap (movedS A B s r) ∧ w3.heap[ks]? = some (.cells #[.int .i64 (q.id), .int .i64 (q.tm), .int .i64 (q.bx.x0), .int .i64 (q.bx.x1), .int .i64 (q.bx.x2), .int .i64 (q.bx.x3), .int .i64 (q.bx.x4), .int .i64 (q.bx.x5)] 61)) :=
        ⟨H3.out.1.then o3 (by simp), H3.out.2.1.only o3 (by simp), (o3.block ks (Array.getElem?_eq_some_iff.1 H3.out.2.2).1 (by simp)).trans H3.out.2.2⟩
      clear hrg2 hc2 o3
      have hrg3 : w3.rangeAt ks 0 [.int .i64 (q.id), .int .i64 (q.tm), .int .i64 (q.bx.x0), .int .i64 (q.bx.x1), .int .i64 (q.bx.x2), .int .i64 (q.bx.x3), .int .i64 (q.bx.x4), .int .i64 (q.bx.x5)] := fun j v hv => by
        have h1 := H4.out.2.2
        simp only [World.cell?, h1, Option.isSome_none, Bool.false_eq_true, if_false, Nat.zero_add]
        rw [List.getElem?_toArray]; exact hv
      have hth : w3.there g (ia * 8) 8 := H4.out.2.1.there (by omega)
      go_upto_region 10 with (first | (refine wpList_load_mid rfl 61 (.tmp 7) rfl ks 0 rfl [.int .i64 (q.id), .int .i64 (q.tm), .int .i64 (q.bx.x0), .int .i64 (q.bx.x1), .int .i64 (q.bx.x2), .int .i64 (q.bx.x3), .int .i64 (q.bx.x4), .int .i64 (q.bx.x5)] _ hrg3 Try.underlying61 rfl spotSize ?_) | (refine wpList_store_mid rfl 61 (.tmp 33) (.tmp 32) rfl g (ia * 8) #[.int .i64 (q.id), .int .i64 (q.tm), .int .i64 (q.bx.x0), .int .i64 (q.bx.x1), .int .i64 (q.bx.x2), .int .i64 (q.bx.x3), .int .i64 (q.bx.x4), .int .i64 (q.bx.x5)] rfl rfl hth spotSize (one8 q) ?_))
      have H5 : Hid (Only [g] w (w3.setCells g (ia * 8) (spL q)) ∧ RowS (w3.setCells g (ia * 8) (spL q)) g cap (movedS A B s (r + 1))) := by
        have := H4.out.2.1.set (j := ia) (by rw [hln]; omega) q
        rw [← HIA.out, ← HBr.out, movedS_set A B s r hlt] at this
        refine ⟨H4.out.1.setCellsS g (by simp) _ _, ?_⟩
        rw [← HIA.out, ← HBr.out]
        exact this
      clear hrg3 hth
      change Code.wp _ _ _ _ (w3.setCells g (ia * 8) (spL q))
      revert H5
      generalize World.setCells w3 _ _ _ = w4
      intro H5
      go_wp2_with fail
      go_roundg (B.length + 1 - (r + 1))
      case measure => have := H1.out.2; omega
      case rel =>
        refine ⟨r + 1, by rw [← HIA.out]; go_num, by rw [← HJA.out]; go_num, ⟨by omega, rfl⟩, H5.out⟩
    · have hrB : r = B.length := by omega
      have hil : ¬ ((A.length + 1 + r : Nat) : Int) < ((A.length : Int) + (B.length : Int) + 1) := by omega
      have hln := movedS_len A B s r hr
      have hrow := H2.out.2
      have hcl := run_clear1 (i := A.length + B.length) hrow (by omega) (cap - (A.length + B.length)) 0
      subst hrB
      go_wp2_with fail
      have H5 : Hid (RowS (wr.setCells g ((A.length + B.length) * 8) (spL sp0)) g cap (A ++ B) ∧ Only [g] w (wr.setCells g ((A.length + B.length) * 8) (spL sp0))) := by
        refine ⟨?_, H2.out.1.setCellsS g (by simp) _ _⟩
        obtain ⟨x, hx⟩ := movedS_end A B s
        have h1 := hrow.set (j := A.length + B.length) (by rw [hln]; omega) sp0
        rw [hx, List.set_append_right _ _ (by simp)] at h1
        exact h1.less
      go_ret
      exact ⟨rfl, H5.out⟩
end Go.Proofs.Ytdbjbjgnkkhgcaa
/- A region that draws its order, whose last operations (from number f on) store over what its first ones read: a condition on the world that holds behind each operation ahead of f alone. Plain laws over the library's own (OrdersHeld), no condition but those typed. -/
namespace Go.Proofs.Ytdbjbjgnkkhgcaa
set_option linter.unusedSectionVars false
variable [DecidableEq Cel]

section
variable {P : Program} {ops : Array Oper} {Q : Exit → Act → World → Prop} {md : Region.Mode} {S : World → Prop} {f : Nat}

/-- Whatever order is picked from here on, and S holds behind every operation ahead of f that is carried out. -/
def wpAnyF (P : Program) (md : Region.Mode) (ops : Array Oper) (Q : Exit → Act → World → Prop) (S : World → Prop) (f : Nat) : Nat → Array Bool → Act → World → Prop
  | 0, listed, a, w => Region.ready md ops listed = [] ∧ Q .normal a w
  | fuel + 1, listed, a, w =>
    (Region.ready md ops listed = [] → Q .normal a w) ∧
    ∀ i ∈ Region.ready md ops listed, wpOp P ops Q i (fun a' w' => (i < f → S w') ∧ wpAnyF P md ops Q S f fuel (listed.setIfInBounds i true) a' w') a w

theorem wpAny_of_F : ∀ (fuel : Nat) (listed : Array Bool) (a : Act) (w : World), wpAnyF P md ops Q S f fuel listed a w → wpAny P md ops Q fuel listed a w
  | 0, _, _, _, h => h
  | fuel + 1, _, _, _, h => ⟨h.1, fun i hi => wpOp_mono (fun a' w' h' => wpAny_of_F fuel _ a' w' h'.2) (h.2 i hi)⟩

theorem wpAnyF_first {i : Nat} {oi : Oper} {v : Value} (hi : ops[i]? = some oi) (hsel : ∀ (j : Nat) (o : Oper) cs b, ops[j]? = some o → o.op ≠ .select cs b)
    (hQ : ∀ c a w, Q (.panic c) (a.put oi.dst v) w → Q (.panic c) a w)
    (hF : ∀ j oj, ops[j]? = some oj → f ≤ j → j ≠ i → ∃ e ∈ oj.after, Region.binds md e = true ∧ e.on = i) :
    ∀ (fuel : Nat) (listed : Array Bool) (a : Act) (w : World),
      (∀ j oj, ops[j]? = some oj → j ≠ i → listed.getD j true = false → (∀ e ∈ oj.after, Region.binds md e = true → e.on ≠ i) → oi.apart ops oj = true) →
      i ∈ Region.ready md ops listed → YieldsIf P ops S oi v a → S w →
      wpAnyF P md ops Q S f fuel (listed.setIfInBounds i true) (a.put oi.dst v) w → wpAnyF P md ops Q S f (fuel + 1) listed a w := by
  intro fuel
  induction fuel with
  | zero =>
    intro listed a w _ hr hy hS H
    refine ⟨fun h => (by rw [h] at hr; cases hr), fun j hj => ?_⟩
    by_cases hji : j = i
    · subst hji; exact hy.wpOp hi hS ⟨fun _ => hS, H⟩
    · have := ready_mono hj hji
      rw [H.1] at this
      cases this
  | succ fuel ih =>
    intro listed a w hfree hr hy hS H
    refine ⟨fun h => (by rw [h] at hr; cases hr), fun j hj => ?_⟩
    by_cases hji : j = i
    · subst hji; exact hy.wpOp hi hS ⟨fun _ => hS, H⟩
    · have h1 := H.2 j (ready_mono hj hji)
      obtain ⟨hjun, oj, hoj, hall⟩ := mem_ready.1 hj
      have hnot : ∀ e ∈ oj.after, Region.binds md e = true → e.on ≠ i := fun e he hb heq => by
        have h1 := hall e he hb
        have h0 := (mem_ready.1 hr).1
        rw [heq] at h1
        rcases Nat.lt_or_ge i listed.size with h' | h'
        · simp [h'] at h0 h1; rw [h0] at h1; cases h1
        · simp [Array.getElem?_eq_none h'] at h1
      have hjf : j < f := by
        rcases Nat.lt_or_ge j f with q | q
        · exact q
        · obtain ⟨e, he, hb, hon⟩ := hF j oj hoj q hji
          exact absurd hon (hnot e he hb)
      have h2 := wpOp_putIf hoj (hfree j oj hoj hji hjun hnot) (fun cs b => hsel i oi cs b hi) (fun cs b => hsel j oj cs b hoj) hQ hy h1
      have hfree' : ∀ k ok, ops[k]? = some ok → k ≠ i → (listed.setIfInBounds j true).getD k true = false →
          (∀ e ∈ ok.after, Region.binds md e = true → e.on ≠ i) → oi.apart ops ok = true := fun k ok hk hki hun hno => by
        refine hfree k ok hk hki ?_ hno
        by_cases hjk : j = k
        · subst hjk; exact hjun
        · rw [getD_set_ne true hjk] at hun; exact hun
      refine wpOp_mono (fun a' w' h3 => ⟨h3.2.1, ih (listed.setIfInBounds j true) a' w' hfree' (ready_mono hr (Ne.symm hji)) h3.1 (h3.2.1 hjf) ?_⟩) h2
      rw [Array.setIfInBounds_comm _ _ hji]
      exact h3.2.2

/-- Each operation from f on waits for number i. -/
def waitsF (md : Region.Mode) (ops : Array Oper) (f i : Nat) : Bool :=
  (List.range ops.size).all fun j => decide (j < f) || j == i || ((ops[j]?).map (fun o => o.after.any (fun e => Region.binds md e && e.on == i))).getD true
theorem waitsF_spec {i : Nat} (h : waitsF md ops f i = true) : ∀ j oj, ops[j]? = some oj → f ≤ j → j ≠ i → ∃ e ∈ oj.after, Region.binds md e = true ∧ e.on = i := fun j oj hj hf hji => by
  have hs : j < ops.size := (Array.getElem?_eq_some_iff.1 hj).1
  have h1 := List.all_eq_true.1 h j (List.mem_range.2 hs)
  have h2 : decide (j < f) = false := by simp; omega
  have h3 : (j == i) = false := by simpa using hji
  rw [h2, h3, hj] at h1
  simp only [Bool.false_or, Option.map_some, Option.getD_some, Array.any_eq_true'] at h1
  obtain ⟨e, he, hb⟩ := h1
  simp only [Bool.and_eq_true, beq_iff_eq] at hb
  exact ⟨e, he, hb.1, hb.2⟩

theorem wpAnyF_take {i : Nat} {oi : Oper} {v : Value} {fuel : Nat} {listed : Array Bool} {a : Act} {w : World} (hi : ops[i]? = some oi)
    (hs : Region.noSelect ops = true) (hf : Region.free md ops listed i = true) (hr : (Region.ready md ops listed).contains i = true) (hw : waitsF md ops f i = true)
    (hQ : ∀ c a w, Q (.panic c) (a.put oi.dst v) w → Q (.panic c) a w) (hy : YieldsIf P ops S oi v a) (hS : S w)
    (h : wpAnyF P md ops Q S f fuel (listed.setIfInBounds i true) (a.put oi.dst v) w) : wpAnyF P md ops Q S f (fuel + 1) listed a w :=
  wpAnyF_first hi (Region.noSelect_spec hs) hQ (waitsF_spec hw) fuel listed a w (Region.free_spec hi hf) (by simpa using hr) hy hS h

theorem wpAnyF_done {listed : Array Bool} {a : Act} {w : World} (hr : Region.ready md ops listed = []) (h : Q .normal a w) :
    ∀ fuel, wpAnyF P md ops Q S f fuel listed a w
  | 0 => ⟨hr, h⟩
  | _ + 1 => ⟨fun _ => h, by rw [hr]; simp⟩

def AllReadyF (P : Program) (md : Region.Mode) (ops : Array Oper) (Q : Exit → Act → World → Prop) (S : World → Prop) (f fuel : Nat) (listed : Array Bool) (a : Act) (w : World) (rs : List Nat) : Prop :=
  ∀ i ∈ rs, wpOp P ops Q i (fun a' w' => (i < f → S w') ∧ wpAnyF P md ops Q S f fuel (listed.setIfInBounds i true) a' w') a w
theorem AllReadyF.nil {fuel : Nat} {listed : Array Bool} {a : Act} {w : World} : AllReadyF P md ops Q S f fuel listed a w [] := fun _ h => by cases h
theorem AllReadyF.cons {fuel : Nat} {listed : Array Bool} {a : Act} {w : World} {i : Nat} {o : Oper} {rs : List Nat} (ho : ops[i]? = some o)
    (h : ∀ K' : Act → World → Prop, Shut (∀ a w, S w → (S w → wpAnyF P md ops Q S f fuel (listed.setIfInBounds i true) a w) → K' a w) → if Region.wanted o (yielded ops a.tmps) = true then Oper.wp P o a w K' Q else K' (a.put o.dst undef) w)
    (hs : AllReadyF P md ops Q S f fuel listed a w rs) : AllReadyF P md ops Q S f fuel listed a w (i :: rs) := fun j hj => by
  rcases List.mem_cons.1 hj with rfl | hj
  · exact wpOp_step ho (fun K' hK => h K' (fun a w hS hW => hK a w ⟨fun _ => hS, hW hS⟩))
  · exact hs j hj
/-- One of the last operations. -/
theorem AllReadyF.fin {fuel : Nat} {listed : Array Bool} {a : Act} {w : World} {i : Nat} {o : Oper} {rs : List Nat} (ho : ops[i]? = some o) (hf : f ≤ i)
    (h : ∀ K' : Act → World → Prop, Shut (∀ a w, wpAnyF P md ops Q S f fuel (listed.setIfInBounds i true) a w → K' a w) → if Region.wanted o (yielded ops a.tmps) = true then Oper.wp P o a w K' Q else K' (a.put o.dst undef) w)
    (hs : AllReadyF P md ops Q S f fuel listed a w rs) : AllReadyF P md ops Q S f fuel listed a w (i :: rs) := fun j hj => by
  rcases List.mem_cons.1 hj with rfl | hj
  · exact wpOp_step ho (fun K' hK => h K' (fun a w hW => hK a w ⟨fun q => absurd q (Nat.not_lt.2 hf), hW⟩))
  · exact hs j hj
theorem wpAnyF_ready {rs : List Nat} {fuel : Nat} {listed : Array Bool} {a : Act} {w : World} (hr : Region.ready md ops listed = rs) (hne : rs ≠ [])
    (h : AllReadyF P md ops Q S f fuel listed a w rs) : wpAnyF P md ops Q S f (fuel + 1) listed a w := ⟨fun h0 => absurd (hr ▸ h0) hne, hr ▸ h⟩
theorem wp_region_F_drew {id : Nat} {a : Act} {w : World} (f : Nat) (S : World → Prop) (hm : P.follows .mixedOrders = true) (hS : S w.drew)
    (h : S w.drew → wpAnyF P .any ops Q S f ops.size (Array.replicate ops.size false) a w.drew) : (Code.region id ops true).wp P Q a w :=
  wp_region_any hm (wpAny_of_F _ _ _ _ (h hS))
theorem tkF {v : Value} {oi : Oper} {fuel : Nat} {listed : Array Bool} {a : Act} {w : World} (i : Nat) (hi : ops[i]? = some oi)
    (h : wpAnyF P md ops Q S f fuel (listed.setIfInBounds i true) (a.put oi.dst v) w)
    (hy : ∀ w'', S w'' → (execOp a.eval oi).run P w'' = .ok (.value v) w'' := by intro w'' hSw; (try dsimp only at hSw); simp only [List.getElem_toArray, List.getElem_cons_succ, List.getElem_cons_zero]; (go_simp <;> with_reducible rfl))
    (hs : Region.noSelect ops = true := by kernel_rfl) (hf : Region.free md ops listed i = true := by kernel_rfl) (hr : (Region.ready md ops listed).contains i = true := by kernel_rfl) (hw : waitsF md ops f i = true := by kernel_rfl)
    (hQ : ∀ c a w, Q (.panic c) (a.put oi.dst v) w → Q (.panic c) a w := by exact fun _ _ _ h => h) (hwt : Region.wanted oi (yielded ops a.tmps) = true := by kernel_rfl) (hS : S w := by assumption) : wpAnyF P md ops Q S f (fuel + 1) listed a w :=
  wpAnyF_take hi hs hf hr hw hQ (Or.inl ⟨hwt, hy⟩) hS h
/-- An append whose run is known, as a step of a region. -/
theorem step_append {o : Oper} {a : Act} {w w' : World} {s x : Operand} {t : TypeId} {v u v' : Value} {K : Act → World → Prop} (ho : o.op = .call { callee := .builtin .append, args := #[s, x], argTypes := #[t, t] }) (hs : a.eval s = v) (hx : a.eval x = u)
    (hr : (Builtin.append_ #[t, t] o.type #[v, u]).run P w = .ok v' w') (hK : K (a.put o.dst v') w') : Oper.wp P o a w K Q := by
  unfold Oper.wp execOp
  simp only [ho, resolve, invoke, builtin, Sem.run_bind, Sem.run_pure, Result.andThen_ok, List.map_toArray, List.map_cons, List.map_nil, hs, hx, hr]
  exact hK
end
end Go.Proofs.Ytdbjbjgnkkhgcaa
/- As text Fin; an operation may be taken first where none of the last ones can come ahead of it, be it through others: plain laws, no condition but those typed. -/
namespace Go.Proofs.Ytdbjbjgnkkhgcaa
set_option linter.unusedSectionVars false
variable [DecidableEq Cel]

theorem setN_size : ∀ (ns : List Nat) (l : Array Bool), (setN ns l).size = l.size
  | [], _ => rfl
  | n :: ns, l => by show (setN ns (l.setIfInBounds n true)).size = _; rw [setN_size]; simp
theorem setN_at : ∀ (ns : List Nat) (l : Array Bool) (j : Nat), (setN ns l).getD j false = true ↔ l.getD j false = true ∨ (j ∈ ns ∧ j < l.size)
  | [], l, j => by simp [setN]
  | n :: ns, l, j => by
    show (setN ns (l.setIfInBounds n true)).getD j false = true ↔ _
    rw [setN_at ns]
    by_cases e : n = j
    · subst e
      by_cases h : n < l.size
      · simp [h]
      · simp [h]
    · rw [getD_set_ne false e]
      simp [Ne.symm e]
section
variable {P : Program} {ops : Array Oper} {Q : Exit → Act → World → Prop} {md : Region.Mode} {S : World → Prop} {f : Nat}
def growL (md : Region.Mode) (ops : Array Oper) (i : Nat) (l : Array Bool) : Array Bool := setN ((Region.ready md ops l).filter (fun j => j != i)) l
/-- None of the last operations comes up as long as number i does not. -/
def lateN (md : Region.Mode) (ops : Array Oper) (f i : Nat) : Nat → Array Bool → Bool
  | 0, _ => true
  | n + 1, l => (Region.ready md ops l).all (fun j => decide (j < f) || j == i) && lateN md ops f i n (growL md ops i l)
theorem ready_in {l : Array Bool} {j : Nat} (h : j ∈ Region.ready md ops l) : j < l.size ∧ l.getD j false = false := by
  have h0 := (mem_ready.1 h).1
  rcases Nat.lt_or_ge j l.size with q | q
  · simp [q] at h0 ⊢; exact h0
  · simp [Array.getElem?_eq_none q] at h0
theorem ready_or {l m : Array Bool} (hs : l.size = m.size) (hle : ∀ j, l.getD j false = true → m.getD j false = true) {j : Nat} (h : j ∈ Region.ready md ops l) : m.getD j false = true ∨ j ∈ Region.ready md ops m := by
  have hin := ready_in h
  obtain ⟨h0, o, ho, hall⟩ := mem_ready.1 h
  cases hm : m.getD j false with
  | true => exact Or.inl rfl
  | false =>
    refine Or.inr (mem_ready.2 ⟨?_, o, ho, fun e he hb => hle _ (hall e he hb)⟩)
    have q : j < m.size := by omega
    simp [q] at hm ⊢; exact hm
theorem growL_at (i : Nat) (l : Array Bool) (j : Nat) : (growL md ops i l).getD j false = true ↔ l.getD j false = true ∨ (j ∈ Region.ready md ops l ∧ j ≠ i) := by
  unfold growL
  rw [setN_at]
  constructor
  · rintro (h | ⟨h, _⟩)
    · exact Or.inl h
    · have := List.mem_filter.1 h
      exact Or.inr ⟨this.1, by simpa using this.2⟩
  · rintro (h | ⟨h, h1⟩)
    · exact Or.inl h
    · exact Or.inr ⟨List.mem_filter.2 ⟨h, by simpa using h1⟩, (ready_in h).1⟩
theorem late_mono {i : Nat} : ∀ (n : Nat) (l m : Array Bool), l.size = m.size → (∀ j, l.getD j false = true → m.getD j false = true) → (∀ j, m.getD j false = true → l.getD j false = true ∨ j < f ∨ j = i) → lateN md ops f i n m = true → lateN md ops f i n l = true
  | 0, _, _, _, _, _, _ => rfl
  | n + 1, l, m, hs, hle, hok, h => by
    simp only [lateN, Bool.and_eq_true, List.all_eq_true, Bool.or_eq_true, decide_eq_true_eq, beq_iff_eq] at h ⊢
    refine ⟨fun j hj => ?_, late_mono n (growL md ops i l) (growL md ops i m) (by unfold growL; rw [setN_size, setN_size]; exact hs) (fun j hj => ?_) (fun j hj => ?_) h.2⟩
    · rcases ready_or hs hle hj with q | q
      · rcases hok j q with e | e
        · rw [(ready_in hj).2] at e; cases e
        · exact e
      · exact h.1 j q
    · rw [growL_at] at hj ⊢
      rcases hj with q | ⟨q, q1⟩
      · exact Or.inl (hle j q)
      · rcases ready_or hs hle q with e | e
        · exact Or.inl e
        · exact Or.inr ⟨e, q1⟩
    · rw [growL_at] at hj
      rcases hj with q | ⟨q, q1⟩
      · rcases hok j q with e | e
        · exact Or.inl ((growL_at i l j).2 (Or.inl e))
        · exact Or.inr e
      · exact Or.inr (h.1 j q)
theorem late_lt {i n : Nat} {l : Array Bool} (h : lateN md ops f i (n + 1) l = true) {j : Nat} (hj : j ∈ Region.ready md ops l) (hji : j ≠ i) : j < f := by
  simp only [lateN, Bool.and_eq_true, List.all_eq_true, Bool.or_eq_true, decide_eq_true_eq, beq_iff_eq] at h
  rcases h.1 j hj with e | e
  · exact e
  · exact absurd e hji
theorem late_step {i n : Nat} {l : Array Bool} (h : lateN md ops f i (n + 1) l = true) {j : Nat} (hj : j ∈ Region.ready md ops l) (hji : j ≠ i) : lateN md ops f i n (l.setIfInBounds j true) = true := by
  have h' := h
  simp only [lateN, Bool.and_eq_true, List.all_eq_true, Bool.or_eq_true, decide_eq_true_eq, beq_iff_eq] at h
  have hset : ∀ k, (l.setIfInBounds j true).getD k false = true ↔ l.getD k false = true ∨ (k = j) := fun k => by
    have := setN_at [j] l k
    rw [show setN [j] l = l.setIfInBounds j true from rfl] at this
    rw [this]
    simp only [List.mem_singleton]
    constructor
    · rintro (q | ⟨q, _⟩)
      · exact Or.inl q
      · exact Or.inr q
    · rintro (q | q)
      · exact Or.inl q
      · exact Or.inr ⟨q, by rw [q]; exact (ready_in hj).1⟩
  refine late_mono n _ (growL md ops i l) (by unfold growL; rw [setN_size]; simp) (fun k hk => ?_) (fun k hk => ?_) h.2
  · rw [growL_at]
    rcases (hset k).1 hk with q | q
    · exact Or.inl q
    · rw [q]; exact Or.inr ⟨hj, hji⟩
  · rw [growL_at] at hk
    rcases hk with q | ⟨q, q1⟩
    · exact Or.inl ((hset k).2 (Or.inl q))
    · exact Or.inr (h.1 k q)
theorem wpAnyF_firstL {i : Nat} {oi : Oper} {v : Value} (hi : ops[i]? = some oi) (hsel : ∀ (j : Nat) (o : Oper) cs b, ops[j]? = some o → o.op ≠ .select cs b)
    (hQ : ∀ c a w, Q (.panic c) (a.put oi.dst v) w → Q (.panic c) a w) :
    ∀ (fuel : Nat) (listed : Array Bool) (a : Act) (w : World), lateN md ops f i fuel listed = true →
      (∀ j oj, ops[j]? = some oj → j ≠ i → listed.getD j true = false → (∀ e ∈ oj.after, Region.binds md e = true → e.on ≠ i) → oi.apart ops oj = true) →
      i ∈ Region.ready md ops listed → YieldsIf P ops S oi v a → S w →
      wpAnyF P md ops Q S f fuel (listed.setIfInBounds i true) (a.put oi.dst v) w → wpAnyF P md ops Q S f (fuel + 1) listed a w := by
  intro fuel
  induction fuel with
  | zero =>
    intro listed a w _ _ hr hy hS H
    refine ⟨fun h => (by rw [h] at hr; cases hr), fun j hj => ?_⟩
    by_cases hji : j = i
    · subst hji; exact hy.wpOp hi hS ⟨fun _ => hS, H⟩
    · have := ready_mono hj hji
      rw [H.1] at this
      cases this
  | succ fuel ih =>
    intro listed a w hlate hfree hr hy hS H
    refine ⟨fun h => (by rw [h] at hr; cases hr), fun j hj => ?_⟩
    by_cases hji : j = i
    · subst hji; exact hy.wpOp hi hS ⟨fun _ => hS, H⟩
    · have h1 := H.2 j (ready_mono hj hji)
      obtain ⟨hjun, oj, hoj, hall⟩ := mem_ready.1 hj
      have hnot : ∀ e ∈ oj.after, Region.binds md e = true → e.on ≠ i := fun e he hb heq => by
        have h1 := hall e he hb
        have h0 := (mem_ready.1 hr).1
        rw [heq] at h1
        rcases Nat.lt_or_ge i listed.size with h' | h'
        · simp [h'] at h0 h1; rw [h0] at h1; cases h1
        · simp [Array.getElem?_eq_none h'] at h1
      have hjf : j < f := late_lt hlate hj hji
      have h2 := wpOp_putIf hoj (hfree j oj hoj hji hjun hnot) (fun cs b => hsel i oi cs b hi) (fun cs b => hsel j oj cs b hoj) hQ hy h1
      have hfree' : ∀ k ok, ops[k]? = some ok → k ≠ i → (listed.setIfInBounds j true).getD k true = false →
          (∀ e ∈ ok.after, Region.binds md e = true → e.on ≠ i) → oi.apart ops ok = true := fun k ok hk hki hun hno => by
        refine hfree k ok hk hki ?_ hno
        by_cases hjk : j = k
        · subst hjk; exact hjun
        · rw [getD_set_ne true hjk] at hun; exact hun
      refine wpOp_mono (fun a' w' h3 => ⟨h3.2.1, ih (listed.setIfInBounds j true) a' w' (late_step hlate hj hji) hfree' (ready_mono hr (Ne.symm hji)) h3.1 (h3.2.1 hjf) ?_⟩) h2
      rw [Array.setIfInBounds_comm _ _ hji]
      exact h3.2.2
theorem tkL {v : Value} {oi : Oper} {fuel : Nat} {listed : Array Bool} {a : Act} {w : World} (i : Nat) (hi : ops[i]? = some oi)
    (h : wpAnyF P md ops Q S f fuel (listed.setIfInBounds i true) (a.put oi.dst v) w)
    (hy : ∀ w'', S w'' → (execOp a.eval oi).run P w'' = .ok (.value v) w'' := by intro w'' hSw; (try dsimp only at hSw); simp only [List.getElem_toArray, List.getElem_cons_succ, List.getElem_cons_zero]; (go_simp <;> with_reducible rfl))
    (hs : Region.noSelect ops = true := by kernel_rfl) (hf : Region.free md ops listed i = true := by kernel_rfl) (hr : (Region.ready md ops listed).contains i = true := by kernel_rfl) (hw : lateN md ops f i fuel listed = true := by kernel_rfl)
    (hQ : ∀ c a w, Q (.panic c) (a.put oi.dst v) w → Q (.panic c) a w := by exact fun _ _ _ h => h) (hwt : Region.wanted oi (yielded ops a.tmps) = true := by kernel_rfl) (hS : S w := by assumption) : wpAnyF P md ops Q S f (fuel + 1) listed a w :=
  wpAnyF_firstL hi (Region.noSelect_spec hs) hQ fuel listed a w hw (Region.free_spec hi hf) (by simpa using hr) (Or.inl ⟨hwt, hy⟩) hS h
end
end Go.Proofs.Ytdbjbjgnkkhgcaa
/- interest.Grid.Remove: whatever the grid and the number. -/
namespace Go.Proofs.Ytdbjbjgnkkhgcaa
open Go.ChangeShapes Go.WideShapes Go.ChangeAt Go.RowKit
set_option linter.unusedVariables false
set_option linter.unusedSimpArgs false
set_option linter.unusedSectionVars false
variable [DecidableEq Cel]

def RemPost (w : World) (x : Nat) (D : List Nat) (G : List (Cel × Spt)) (i : Int) (e : Ending) (w' : World) : Prop :=
  e = .returned (.tuple #[]) ∧ ∃ D', GridOf w' x D' (G.filter fun p => p.2.id != i) ∧ Only D w w' ∧ ∀ b ∈ D', b ∈ D ∨ w.heap.size ≤ b
theorem remove_none (x mc mh : Nat) (L : List CE) (i : Int) (w : World) (h : GridIs w x mc mh L) (hi : In64V i) (hn : i ∉ (flatC L).map fun p => p.2.id) :
    Calls Try.prog 8 #[.pointer (some ⟨x, 0, none⟩), .int .i64 i] w fun e w' => e = .returned (.tuple #[]) ∧ Only [] w w' := by
  have hn' : i ∉ (homesC (flatC L)).map Prod.fst := by
    simp only [homesC, List.map_map]; exact hn
  have HS : Hid (∀ w', Only [] w w' → w'.cell? ⟨x, 1, none⟩ = some (.map (some mh)) ∧ (Instr.lookup 47 (.map (some mh)) (.int .i64 i) true).run Try.prog w' = .ok (.tuple #[.agg #[.int .i64 0, .int .i64 0, .int .i64 0], .bool false]) w') := fun w' o => by
    refine ⟨o.cell (v := .map (some mh)) (by simp [World.cell?, h.at_]) (by simp), ?_⟩
    exact (MapV.only o (by simp) h.homes).look_none Try.underlying47 zeroCel hi hn'
  clear hn hn' h
  go_enter Try.func8, Try.ntmps8
  go_wp2_with fail
  have H0 : Hid (Only [] w (w.alloc (.cells #[.int .i64 i] 3)) ∧ (w.alloc (.cells #[.int .i64 i] 3)).cell? ⟨w.heap.size, 0, none⟩ = some (.int .i64 i)) := ⟨(Only.refl [] w).alloc _, by simp only [World.cell?, (MapKept.heap_alloc w _).1]; rfl⟩
  revert H0
  generalize hkb : w.heap.size = kb
  generalize World.alloc w _ = w1
  intro H0
  clear hkb
  have HP : Hid (∀ w', Only [] w1 w' → Only [] w1 w' ∧ w'.cell? ⟨x, 1, none⟩ = some (.map (some mh)) ∧ w'.cell? ⟨kb, 0, none⟩ = some (.int .i64 i) ∧ (Instr.lookup 47 (.map (some mh)) (.int .i64 i) true).run Try.prog w' = .ok (.tuple #[.agg #[.int .i64 0, .int .i64 0, .int .i64 0], .bool false]) w') := fun w' o => by
    have := HS.out w' (H0.out.1.trans o)
    exact ⟨o, this.1, o.cell H0.out.2 (by simp), this.2⟩
  refine wp_region_held_drew (S := (fun w' => Only [] w1 w' ∧ w'.cell? ⟨x, 1, none⟩ = some (.map (some mh)) ∧ w'.cell? ⟨kb, 0, none⟩ = some (.int .i64 i) ∧ (Instr.lookup 47 (.map (some mh)) (.int .i64 i) true).run Try.prog w' = .ok (.tuple #[.agg #[.int .i64 0, .int .i64 0, .int .i64 0], .bool false]) w')) (by kernel_rfl) ?_ (fun hHeld1 => ?_)
  · (try dsimp only); exact HP.out _ (Only.refl _ _).drew
  refine tkW 0 rfl ?_; refine tkW 1 rfl ?_; refine tkW 2 rfl ?_; refine tkW 3 rfl ?_
  try simp only [Act.put, List.setIfInBounds_toArray, List.set_cons_zero, List.set_cons_succ, List.getElem_toArray, List.getElem_cons_succ, List.getElem_cons_zero]
  refine tkW 4 rfl ?_; refine tkW 5 rfl ?_; refine tkW 6 rfl ?_; refine tkW 7 rfl ?_
  try simp only [Act.put, List.setIfInBounds_toArray, List.set_cons_zero, List.set_cons_succ, List.getElem_toArray, List.getElem_cons_succ, List.getElem_cons_zero]
  refine tkW 8 rfl ?_
  try simp only [Act.put, List.setIfInBounds_toArray, List.set_cons_zero, List.set_cons_succ, List.getElem_toArray, List.getElem_cons_succ, List.getElem_cons_zero]
  refine wpAnyH_ready (rs := [9]) (by kernel_rfl) (by simp) ?_
  refine AllReadyH.cons rfl (fun K hK => ?_) AllReadyH.nil
  first | (with_reducible refine iteYes ?hcx ?htx; case hcx => kernel_rfl) | rw [if_pos (by rfl)]
  simp only [List.getElem_toArray, List.getElem_cons_succ, List.getElem_cons_zero]
  go_simp
  refine hK.out _ _ ?_ (fun hHeld2 => ?_)
  · (try dsimp only); exact HP.out _ ((Only.refl _ _).drew.alloc _)
  clear hK K
  try simp only [Act.put, List.setIfInBounds_toArray, List.set_cons_zero, List.set_cons_succ, List.getElem_toArray, List.getElem_cons_succ, List.getElem_cons_zero]
  refine wpAnyH_ready (rs := [10]) (by kernel_rfl) (by simp) ?_
  refine AllReadyH.cons rfl (fun K hK => ?_) AllReadyH.nil
  first | (with_reducible refine iteYes ?hcx ?htx; case hcx => kernel_rfl) | rw [if_pos (by rfl)]
  simp only [List.getElem_toArray, List.getElem_cons_succ, List.getElem_cons_zero]
  go_simp
  refine hK.out _ _ ?_ (fun hHeld3 => ?_)
  · (try dsimp only); exact HP.out _ ((Only.refl _ _).alloc _).drew
  clear hK K
  try simp only [Act.put, List.setIfInBounds_toArray, List.set_cons_zero, List.set_cons_succ, List.getElem_toArray, List.getElem_cons_succ, List.getElem_cons_zero]
  refine tkW 11 rfl ?_
  try simp only [Act.put, List.setIfInBounds_toArray, List.set_cons_zero, List.set_cons_succ, List.getElem_toArray, List.getElem_cons_succ, List.getElem_cons_zero]
  refine wpAnyH_done (by kernel_rfl) ?_ _
  go_wp2
  refine bodyPost_ret (results_none rfl _ _ _) rfl ⟨rfl, H0.out.1.trans ((Only.refl _ _).alloc _).drew⟩
theorem homes_out {w : World} {x mc mh : Nat} {c : Cel} {g cap : Nat} {A B : List Spt} {s : Spt} {M : List CE} (h : GridIs w x mc mh (⟨c, g, cap, A ++ s :: B⟩ :: M)) :
    MapV w (some mh) ((s.id, celV c) :: homesC (flatC (⟨c, g, cap, A ++ B⟩ :: M))) := h.homes.perm ((flatC_out c g cap A B s M).map _)
theorem turnedO {w w' : World} {m : Nat} (h : w.mapTurned w' m) : Only [m] w w' := (Only.refl [m] w).grown h.grown (fun k hk => by injection hk with hk; exact Or.inl (by simp [hk]))
def LeftG (w' : World) (x mc mh : Nat) (c : Cel) (g cap : Nat) (l : List Spt) (M : List CE) : Prop := (l = [] → GridIs w' x mc mh M) ∧ (l ≠ [] → GridIs w' x mc mh (⟨c, g, cap, l⟩ :: M))
set_option maxRecDepth 100000 in
set_option maxHeartbeats 2000000 in
theorem remove_some (x mc mh : Nat) (c : Cel) (g cap : Nat) (A B : List Spt) (s : Spt) (M : List CE) (w : World) (h : GridIs w x mc mh (⟨c, g, cap, A ++ s :: B⟩ :: M)) :
    Calls Try.prog 8 #[.pointer (some ⟨x, 0, none⟩), .int .i64 (s.id)] w fun e w' => e = .returned (.tuple #[]) ∧ LeftG w' x mc mh c g cap (A ++ B) M ∧ Only [mc, mh, g] w w' := by
  have hmem : (c, s) ∈ flatC (⟨c, g, cap, A ++ s :: B⟩ :: M) := by rw [flatC_cons]; simp
  have hi : In64V s.id := h.i64 _ hmem
  have hfew : A.length + B.length + 1 ≤ 1000 := by
    have := h.few
    rw [flatC_cons] at this
    simp at this
    omega
  have hids : ∀ a ∈ A ++ B, a.id ≠ s.id := by
    intro a ha q
    have hn := ((flatC_out c g cap A B s M).map fun p => p.2.id).nodup h.ids
    simp only [List.map_cons, List.nodup_cons] at hn
    refine hn.1 (List.mem_map.2 ⟨(c, a), ?_, q⟩)
    rw [flatC_cons]
    exact List.mem_append_left _ (List.mem_map.2 ⟨a, ha, rfl⟩)
  have hnd := h.nd
  simp only [List.map_cons, List.nodup_cons, List.mem_cons, not_or] at hnd
  have HG : Hid (GridIs w x mc mh (⟨c, g, cap, A ++ s :: B⟩ :: M) ∧ In64V s.id ∧ A.length + B.length + 1 ≤ 1000 ∧ (∀ a ∈ A ++ B, a.id ≠ s.id) ∧ x ≠ mc ∧ x ≠ mh ∧ x ≠ g ∧ mc ≠ mh ∧ mc ≠ g ∧ mh ≠ g ∧ (∀ b ∈ M.map CE.g, b ≠ x ∧ b ≠ mc ∧ b ≠ mh ∧ b ≠ g)) :=
    ⟨h, hi, hfew, hids, hnd.1.1, hnd.1.2.1, hnd.1.2.2.1, hnd.2.1.1, hnd.2.1.2.1, hnd.2.2.1.1, fun b hb => ⟨fun q => hnd.1.2.2.2 (q ▸ hb), fun q => hnd.2.1.2.2 (q ▸ hb), fun q => hnd.2.2.1.2 (q ▸ hb), fun q => hnd.2.2.2.1 (q ▸ hb)⟩⟩
  have HS : Hid (∀ w', Only [] w w' → w'.cell? ⟨x, 1, none⟩ = some (.map (some mh)) ∧ (Instr.lookup 47 (.map (some mh)) (.int .i64 s.id) true).run Try.prog w' = .ok (.tuple #[celV c, .bool true]) w') := fun w' o => by
    refine ⟨o.cell (v := .map (some mh)) (by simp [World.cell?, h.at_]) (by simp), ?_⟩
    exact (MapV.only o (by simp) (homes_out h)).look_some Try.underlying47 zeroCel (x := (s.id, celV c)) hi (by simp)
  clear hmem hi hfew hids hnd h
  obtain ⟨si, hsi⟩ : ∃ si, s.id = si := ⟨_, rfl⟩
  have HSI : Hid (s.id = si) := hsi
  simp only [hsi] at HS ⊢
  clear hsi
  obtain ⟨c1, c2, c3, hcv⟩ : ∃ c1 c2 c3 : Int, celV c = .agg #[.int .i64 c1, .int .i64 c2, .int .i64 c3] := ⟨_, _, _, rfl⟩
  have HCV : Hid (celV c = .agg #[.int .i64 c1, .int .i64 c2, .int .i64 c3]) := hcv
  simp only [hcv] at HS
  clear hcv
  go_enter Try.func8, Try.ntmps8
  go_upto_region 1 with fail
  have H0 : Hid (Only [] w (w.alloc (.cells #[.int .i64 si] 3)) ∧ (w.alloc (.cells #[.int .i64 si] 3)).heap[w.heap.size]? = some (.cells #[.int .i64 si] 3)) := ⟨(Only.refl [] w).alloc _, (MapKept.heap_alloc w _).1⟩
  revert H0
  generalize hkb : w.heap.size = kb
  generalize World.alloc w _ = w1
  intro H0
  have HKB : Hid (w.heap.size = kb) := hkb
  clear hkb
  have HP : Hid (∀ w', Only [] w1 w' → Only [] w1 w' ∧ w'.cell? ⟨x, 1, none⟩ = some (.map (some mh)) ∧ w'.cell? ⟨kb, 0, none⟩ = some (.int .i64 si) ∧ (Instr.lookup 47 (.map (some mh)) (.int .i64 si) true).run Try.prog w' = .ok (.tuple #[.agg #[.int .i64 c1, .int .i64 c2, .int .i64 c3], .bool true]) w') := fun w' o => by
    have := HS.out w' (H0.out.1.trans o)
    exact ⟨o, this.1, o.cell (by simp only [World.cell?, H0.out.2]; rfl) (by simp), this.2⟩
  refine wp_region_held_drew (S := (fun w' => Only [] w1 w' ∧ w'.cell? ⟨x, 1, none⟩ = some (.map (some mh)) ∧ w'.cell? ⟨kb, 0, none⟩ = some (.int .i64 si) ∧ (Instr.lookup 47 (.map (some mh)) (.int .i64 si) true).run Try.prog w' = .ok (.tuple #[.agg #[.int .i64 c1, .int .i64 c2, .int .i64 c3], .bool true]) w')) (by kernel_rfl) ?_ (fun hHeld1 => ?_)
  · (try dsimp only); exact HP.out _ (Only.refl _ _).drew
  refine tkW 0 rfl ?_; refine tkW 1 rfl ?_; refine tkW 2 rfl ?_; refine tkW 3 rfl ?_
  try simp only [Act.put, List.setIfInBounds_toArray, List.set_cons_zero, List.set_cons_succ, List.getElem_toArray, List.getElem_cons_succ, List.getElem_cons_zero]
  refine tkW 4 rfl ?_; refine tkW 5 rfl ?_; refine tkW 6 rfl ?_; refine tkW 7 rfl ?_
  try simp only [Act.put, List.setIfInBounds_toArray, List.set_cons_zero, List.set_cons_succ, List.getElem_toArray, List.getElem_cons_succ, List.getElem_cons_zero]
  refine tkW 8 rfl ?_
  try simp only [Act.put, List.setIfInBounds_toArray, List.set_cons_zero, List.set_cons_succ, List.getElem_toArray, List.getElem_cons_succ, List.getElem_cons_zero]
  refine wpAnyH_ready (rs := [9]) (by kernel_rfl) (by simp) ?_
  refine AllReadyH.cons rfl (fun K hK => ?_) AllReadyH.nil
  first | (with_reducible refine iteYes ?hcx ?htx; case hcx => kernel_rfl) | rw [if_pos (by rfl)]
  simp only [List.getElem_toArray, List.getElem_cons_succ, List.getElem_cons_zero]
  go_simp
  refine hK.out _ _ ?_ (fun hHeld2 => ?_)
  · (try dsimp only); exact HP.out _ ((Only.refl _ _).drew.alloc _)
  clear hK K
  try simp only [Act.put, List.setIfInBounds_toArray, List.set_cons_zero, List.set_cons_succ, List.getElem_toArray, List.getElem_cons_succ, List.getElem_cons_zero]
  refine wpAnyH_ready (rs := [10]) (by kernel_rfl) (by simp) ?_
  refine AllReadyH.cons rfl (fun K hK => ?_) AllReadyH.nil
  first | (with_reducible refine iteYes ?hcx ?htx; case hcx => kernel_rfl) | rw [if_pos (by rfl)]
  simp only [List.getElem_toArray, List.getElem_cons_succ, List.getElem_cons_zero]
  go_simp
  refine hK.out _ _ ?_ (fun hHeld3 => ?_)
  · (try dsimp only); exact HP.out _ ((Only.refl _ _).alloc _).drew
  clear hK K
  try simp only [Act.put, List.setIfInBounds_toArray, List.set_cons_zero, List.set_cons_succ, List.getElem_toArray, List.getElem_cons_succ, List.getElem_cons_zero]
  refine tkW 11 rfl ?_
  try simp only [Act.put, List.setIfInBounds_toArray, List.set_cons_zero, List.set_cons_succ, List.getElem_toArray, List.getElem_cons_succ, List.getElem_cons_zero]
  refine wpAnyH_done (by kernel_rfl) ?_ _
  go_upto_region 3 with fail
  clear hHeld1 hHeld2 hHeld3 HP HS
  have H1 : Hid (Only [] w (w1.alloc (.cells #[.int .i64 c1, .int .i64 c2, .int .i64 c3] 54)).drew ∧ (w1.alloc (.cells #[.int .i64 c1, .int .i64 c2, .int .i64 c3] 54)).drew.heap[w1.heap.size]? = some (.cells #[.int .i64 c1, .int .i64 c2, .int .i64 c3] 54) ∧ (w1.alloc (.cells #[.int .i64 c1, .int .i64 c2, .int .i64 c3] 54)).drew.heap[kb]? = some (.cells #[.int .i64 si] 3) ∧ w.heap.size ≤ w1.heap.size ∧ kb < w1.heap.size) :=
    ⟨H0.out.1.trans ((Only.refl _ _).alloc _).drew, (MapKept.heap_alloc w1 _).1, (((Only.refl [] w1).alloc _).drew.block kb (Array.getElem?_eq_some_iff.1 H0.out.2).1 (by simp)).trans H0.out.2, H0.out.1.size, (Array.getElem?_eq_some_iff.1 H0.out.2).1⟩
  revert H1
  generalize hkc : w1.heap.size = kc
  generalize World.drew _ = w2
  intro H1
  clear hkc H0
  obtain ⟨w3, hdel, H3⟩ : ∃ w3, (Builtin.delete_ #[47, 3] 0 #[.map (some mh), .int .i64 si]).run Try.prog w2.drew = .ok (.tuple #[]) w3 ∧ Hid (MapV w3 (some mh) (homesC (flatC (⟨c, g, cap, A ++ B⟩ :: M))) ∧ Only [mh] w2 w3) := by
    obtain ⟨w3, q1, q2, q3⟩ := (MapV.only H1.out.1.drew (by simp) (homes_out HG.out.1)).del Try.underlying47 HG.out.2.1 0
    rw [← HSI.out]
    exact ⟨w3, q1, q2, (Only.refl _ _).drew.trans (turnedO q3)⟩
  have c1x : w2.cell? ⟨x, 1, none⟩ = some (.map (some mh)) := H1.out.1.cell (v := .map (some mh)) (by simp [World.cell?, HG.out.1.at_]) (by simp)
  have ckb : w2.cell? ⟨kb, 0, none⟩ = some (.int .i64 si) := by simp only [World.cell?, H1.out.2.2.1]; rfl
  refine wp_region_F_drew 5 (fun w' => w'.cell? ⟨x, 1, none⟩ = some (.map (some mh)) ∧ w'.cell? ⟨kb, 0, none⟩ = some (.int .i64 si)) (by kernel_rfl) ?_ (fun hHeld1 => ?_)
  · (try dsimp only); exact ⟨c1x, ckb⟩
  refine tkL 0 rfl ?_; refine tkL 1 rfl ?_; refine tkL 2 rfl ?_; refine tkL 3 rfl ?_
  try simp only [Act.put, List.setIfInBounds_toArray, List.set_cons_zero, List.set_cons_succ, List.getElem_toArray, List.getElem_cons_succ, List.getElem_cons_zero]
  refine tkL 4 rfl ?_
  try simp only [Act.put, List.setIfInBounds_toArray, List.set_cons_zero, List.set_cons_succ, List.getElem_toArray, List.getElem_cons_succ, List.getElem_cons_zero]
  refine wpAnyF_ready (rs := [5]) (by kernel_rfl) (by simp) ?_
  refine AllReadyF.fin rfl (by decide) (fun K hK => ?_) AllReadyF.nil
  first | (with_reducible refine iteYes ?hcx ?htx; case hcx => kernel_rfl) | rw [if_pos (by rfl)]
  simp only [List.getElem_toArray, List.getElem_cons_succ, List.getElem_cons_zero]
  go_simp
  skip
  refine hK.out _ _ ?_
  clear hK K
  try simp only [Act.put, List.setIfInBounds_toArray, List.set_cons_zero, List.set_cons_succ, List.getElem_toArray, List.getElem_cons_succ, List.getElem_cons_zero]
  refine wpAnyF_done (by kernel_rfl) ?_ _
  clear hdel c1x ckb
  have HNE : Hid (mh ≠ x ∧ mh ≠ mc ∧ mh ≠ g ∧ mh < kb ∧ g < kb ∧ mc < kb ∧ x < kb) := by
    have hl := HG.out.1.lt
    have hk := HKB.out
    refine ⟨Ne.symm HG.out.2.2.2.2.2.1, Ne.symm HG.out.2.2.2.2.2.2.2.1, HG.out.2.2.2.2.2.2.2.2.2.1, ?_, ?_, ?_, ?_⟩
    · rw [← hk]; exact hl mh (by simp [gridD])
    · rw [← hk]; exact hl g (by simp [gridD])
    · rw [← hk]; exact hl mc (by simp [gridD])
    · rw [← hk]; exact hl x (by simp [gridD])
  have H4 : Hid (Only [mc, mh, g] w w3 ∧ w3.heap[kc]? = some (.cells #[.int .i64 c1, .int .i64 c2, .int .i64 c3] 54) ∧ w3.heap[kb]? = some (.cells #[.int .i64 si] 3) ∧ w3.heap[x]? = some (.cells #[.map (some mc), .map (some mh)] 49) ∧ MapC w3 mc (cellsC (⟨c, g, cap, A ++ s :: B⟩ :: M)) ∧ RowS w3 g cap (A ++ s :: B) ∧ MapV w3 (some mh) (homesC (flatC (⟨c, g, cap, A ++ B⟩ :: M))) ∧ (∀ e ∈ M, RowS w3 e.g e.cap e.l)) := by
    obtain ⟨q1, q2, q3, q4, q5⟩ := H1.out
    obtain ⟨r1, r2⟩ := H3.out
    obtain ⟨n1, n2, n3, n4, n5, n6, n7⟩ := HNE.out
    have hG := HG.out.1
    have o3 : Only [mh] w w3 := (q1.mono (by simp)).trans r2
    have hlt := hG.lt
    refine ⟨o3.mono (by simp), (r2.block kc (Array.getElem?_eq_some_iff.1 q2).1 (by simp; omega)).trans q2, (r2.block kb (Array.getElem?_eq_some_iff.1 q3).1 (by simp; omega)).trans q3, (o3.block x (hlt x (by simp [gridD])) (by simpa using Ne.symm n1)).trans hG.at_, hG.cells.only o3 (by simpa using Ne.symm n2), (hG.rows ⟨c, g, cap, A ++ s :: B⟩ (by simp)).only o3 (by simpa using Ne.symm n3), r1, fun e he => (hG.rows e (by simp [he])).only o3 ?_⟩
    have := HG.out.2.2.2.2.2.2.2.2.2.2 e.g (List.mem_map_of_mem he)
    simpa using this.2.2.1
  clear H3 H1
  go_upto_region 4 with fail
  have c0x : w3.cell? ⟨x, 0, none⟩ = some (.map (some mc)) := by simp only [World.cell?, H4.out.2.2.2.1]; rfl
  have kc0 : w3.cell? ⟨kc, 0, none⟩ = some (.int .i64 c1) := by simp only [World.cell?, H4.out.2.1]; rfl
  have kc1 : w3.cell? ⟨kc, 1, none⟩ = some (.int .i64 c2) := by simp only [World.cell?, H4.out.2.1]; rfl
  have kc2 : w3.cell? ⟨kc, 2, none⟩ = some (.int .i64 c3) := by simp only [World.cell?, H4.out.2.1]; rfl
  have hlk : (Instr.lookup 46 (.map (some mc)) (.agg #[.int .i64 c1, .int .i64 c2, .int .i64 c3]) false).run Try.prog w3.drew = .ok (.slice (some ⟨g, 0, none⟩) (A.length + B.length + 1) cap) w3.drew := by
    have := (H4.out.2.2.2.2.1.only (Only.refl [] w3).drew (by simp)).at_some (x := (c, CE.val ⟨c, g, cap, A ++ s :: B⟩)) (by simp [cellsC])
    rw [← HCV.out]
    simpa [CE.val, Nat.add_assoc] using this
  have hmf : ∀ (fn : Fn) (first cap : Array Value) (w : World), (Instr.makeFunc fn first cap).run Try.prog w = .ok (.func fn first cap) w := fun _ _ _ _ => rfl
  refine wp_region_F_drew 7 (fun w' => w'.cell? ⟨x, 0, none⟩ = some (.map (some mc)) ∧ w'.cell? ⟨kc, 0, none⟩ = some (.int .i64 c1) ∧ w'.cell? ⟨kc, 1, none⟩ = some (.int .i64 c2) ∧ w'.cell? ⟨kc, 2, none⟩ = some (.int .i64 c3) ∧ (Instr.lookup 46 (.map (some mc)) (.agg #[.int .i64 c1, .int .i64 c2, .int .i64 c3]) false).run Try.prog w' = .ok (.slice (some ⟨g, 0, none⟩) (A.length + B.length + 1) cap) w') (by kernel_rfl) ?_ (fun hHeld1 => ?_)
  · (try dsimp only); exact ⟨c0x, kc0, kc1, kc2, hlk⟩
  refine tkL 0 rfl ?_; refine tkL 1 rfl ?_; refine tkL 2 rfl ?_; refine tkL 3 rfl ?_
  try simp only [Act.put, List.setIfInBounds_toArray, List.set_cons_zero, List.set_cons_succ, List.getElem_toArray, List.getElem_cons_succ, List.getElem_cons_zero]
  refine tkL 4 rfl ?_; refine tkL 5 rfl ?_; refine tkL 6 rfl ?_
  try simp only [Act.put, List.setIfInBounds_toArray, List.set_cons_zero, List.set_cons_succ, List.getElem_toArray, List.getElem_cons_succ, List.getElem_cons_zero]
  refine wpAnyF_ready (rs := [7]) (by kernel_rfl) (by simp) ?_
  refine AllReadyF.fin rfl (by decide) (fun K hK => ?_) AllReadyF.nil
  first | (with_reducible refine iteYes ?hcx ?htx; case hcx => kernel_rfl) | rw [if_pos (by rfl)]
  simp only [List.getElem_toArray, List.getElem_cons_succ, List.getElem_cons_zero]
  go_simp
  (go_at_call 18; refine (deleteS_calls g cap A B s kb w3.drew (H4.out.2.2.2.2.2.1.only (Only.refl [] w3).drew (by simp)) HG.out.2.2.2.1 (by rw [HSI.out]; simp only [World.cell?, World.drew, H4.out.2.2.1]; rfl) (by have := HNE.out; omega) HG.out.2.2.1).mono ?_; rintro e w4 ⟨rfl, hrow4, o4⟩; try go_wp2_with fail)
  refine hK.out _ _ ?_
  clear hK K
  try simp only [Act.put, List.setIfInBounds_toArray, List.set_cons_zero, List.set_cons_succ, List.getElem_toArray, List.getElem_cons_succ, List.getElem_cons_zero]
  refine wpAnyF_ready (rs := [8]) (by kernel_rfl) (by simp) ?_
  refine AllReadyF.fin rfl (by decide) (fun K hK => ?_) AllReadyF.nil
  first | (with_reducible refine iteYes ?hcx ?htx; case hcx => kernel_rfl) | rw [if_pos (by rfl)]
  simp only [List.getElem_toArray, List.getElem_cons_succ, List.getElem_cons_zero]
  go_simp
  skip
  refine hK.out _ _ ?_
  clear hK K
  try simp only [Act.put, List.setIfInBounds_toArray, List.set_cons_zero, List.set_cons_succ, List.getElem_toArray, List.getElem_cons_succ, List.getElem_cons_zero]
  refine wpAnyF_done (by kernel_rfl) ?_ _
  have H5 : Hid (Only [mc, mh, g] w w4 ∧ w4.heap[kc]? = some (.cells #[.int .i64 c1, .int .i64 c2, .int .i64 c3] 54) ∧ w4.heap[x]? = some (.cells #[.map (some mc), .map (some mh)] 49) ∧ MapC w4 mc (cellsC (⟨c, g, cap, A ++ s :: B⟩ :: M)) ∧ RowS w4 g cap (A ++ B) ∧ MapV w4 (some mh) (homesC (flatC (⟨c, g, cap, A ++ B⟩ :: M))) ∧ (∀ e ∈ M, RowS w4 e.g e.cap e.l)) := by
    obtain ⟨q1, q2, q3, q4, q5, q6, q7, q8⟩ := H4.out
    obtain ⟨n1, n2, n3, n4, n5, n6, n7⟩ := HNE.out
    have o4' : Only [g] w3 w4 := (Only.refl _ _).drew.trans o4
    have hc4 : kc ≠ g := fun q => by have h1 := (Array.getElem?_eq_some_iff.1 q3).1; rw [q] at q2; obtain ⟨cur, h2, _⟩ := q6; rw [h2] at q2; injection q2 with q2; injection q2 with _ q2 _; exact absurd q2 (by decide)
    refine ⟨q1.then o4' (by simp), (o4'.block kc (Array.getElem?_eq_some_iff.1 q2).1 (by simpa using hc4)).trans q2, (o4'.block x (Array.getElem?_eq_some_iff.1 q4).1 (by simpa using HG.out.2.2.2.2.2.2.1)).trans q4, q5.only o4' (by simpa using HG.out.2.2.2.2.2.2.2.2.1), hrow4, MapV.only o4' (by simpa using n3) q7, fun e he => (q8 e he).only o4' ?_⟩
    have := HG.out.2.2.2.2.2.2.2.2.2.2 e.g (List.mem_map_of_mem he)
    simpa using this.2.2.2
  clear H4 hrow4 o4 hHeld1 hlk hmf c0x kc0 kc1 kc2
  have c0x : w4.cell? ⟨x, 0, none⟩ = some (.map (some mc)) := by simp only [World.cell?, H5.out.2.2.1]; rfl
  have kc0 : w4.cell? ⟨kc, 0, none⟩ = some (.int .i64 c1) := by simp only [World.cell?, H5.out.2.1]; rfl
  have kc1 : w4.cell? ⟨kc, 1, none⟩ = some (.int .i64 c2) := by simp only [World.cell?, H5.out.2.1]; rfl
  have kc2 : w4.cell? ⟨kc, 2, none⟩ = some (.int .i64 c3) := by simp only [World.cell?, H5.out.2.1]; rfl
  have HFW : Hid (M.length + 1 < maxLen) := by
    have h1 := HG.out.1.few
    have h2 : M.length ≤ (flatC M).length := flatC_len (fun e he => HG.out.1.full e (by simp [he]))
    rw [flatC_cons] at h1
    simp only [List.length_append] at h1
    show M.length + 1 < maxLen
    unfold maxLen
    omega
  by_cases hz : A.length + B.length = 0
  · have HZ : Hid (A.length + B.length = 0) := hz
    have hzB : ((A.length + B.length : Nat) : Int) = 0 := by omega
    obtain ⟨w5, hdel, H6⟩ : ∃ w5, (Builtin.delete_ #[46, 54] 0 #[.map (some mc), .agg #[.int .i64 c1, .int .i64 c2, .int .i64 c3]]).run Try.prog w4.drew = .ok (.tuple #[]) w5 ∧ Hid (MapC w5 mc (cellsC M) ∧ Only [mc] w4 w5) := by
      obtain ⟨w5, q1, q2, q3⟩ := MapC.del (x := (c, CE.val ⟨c, g, cap, A ++ s :: B⟩)) (L := cellsC M) (H5.out.2.2.2.1.only (Only.refl [] w4).drew (by simp)) 0
      rw [← HCV.out]
      exact ⟨w5, q1, q2, (Only.refl _ _).drew.trans (turnedO q3)⟩
    clear hz
    have he1 : (((A.length : Nat) : Int) + ((B.length : Nat) : Int) == 0) = true := by have := HZ.out; simp; omega
    go_upto_region 6 with fail
    refine wp_region_F_drew 5 (fun w' => w'.cell? ⟨x, 0, none⟩ = some (.map (some mc)) ∧ w'.cell? ⟨kc, 0, none⟩ = some (.int .i64 c1) ∧ w'.cell? ⟨kc, 1, none⟩ = some (.int .i64 c2) ∧ w'.cell? ⟨kc, 2, none⟩ = some (.int .i64 c3)) (by kernel_rfl) ?_ (fun hHeld1 => ?_)
    · (try dsimp only); exact ⟨c0x, kc0, kc1, kc2⟩
    refine tkL 0 rfl ?_; refine tkL 1 rfl ?_; refine tkL 2 rfl ?_; refine tkL 3 rfl ?_
    try simp only [Act.put, List.setIfInBounds_toArray, List.set_cons_zero, List.set_cons_succ, List.getElem_toArray, List.getElem_cons_succ, List.getElem_cons_zero]
    refine tkL 4 rfl ?_
    try simp only [Act.put, List.setIfInBounds_toArray, List.set_cons_zero, List.set_cons_succ, List.getElem_toArray, List.getElem_cons_succ, List.getElem_cons_zero]
    refine wpAnyF_ready (rs := [5]) (by kernel_rfl) (by simp) ?_
    refine AllReadyF.fin rfl (by decide) (fun K hK => ?_) AllReadyF.nil
    first | (with_reducible refine iteYes ?hcx ?htx; case hcx => kernel_rfl) | rw [if_pos (by rfl)]
    simp only [List.getElem_toArray, List.getElem_cons_succ, List.getElem_cons_zero]
    go_simp
    skip
    refine hK.out _ _ ?_
    clear hK K
    try simp only [Act.put, List.setIfInBounds_toArray, List.set_cons_zero, List.set_cons_succ, List.getElem_toArray, List.getElem_cons_succ, List.getElem_cons_zero]
    refine wpAnyF_done (by kernel_rfl) ?_ _
    go_wp2
    refine bodyPost_ret (results_none rfl _ _ _) rfl ⟨rfl, ?_, H5.out.1.then H6.out.2 (by simp)⟩
    have hAB : A ++ B = [] := List.eq_nil_of_length_eq_zero (by have := HZ.out; rw [List.length_append]; exact this)
    refine ⟨fun _ => ?_, fun q => absurd hAB q⟩
    obtain ⟨p1, p2, p3, p4, p5, p6, p7⟩ := H5.out
    obtain ⟨r1, r2⟩ := H6.out
    have hG := HG.out.1
    have hsub : ∀ p ∈ flatC M, p ∈ flatC (⟨c, g, cap, A ++ s :: B⟩ :: M) := fun p hp => by rw [flatC_cons]; exact List.mem_append_right _ hp
    refine ⟨(r2.block x (Array.getElem?_eq_some_iff.1 p3).1 (by simpa using HG.out.2.2.2.2.1)).trans p3, r1, MapV.only r2 (by simpa using HNE.out.2.1) (by simpa [hAB, flatC_cons] using p6), fun e he => (p7 e he).only r2 ?_, fun e he => hG.full e (by simp [he]), ?_, fun p hp => hG.i64 p (hsub p hp), ?_, fun p hp => hG.home p (hsub p hp)⟩
    · have := HG.out.2.2.2.2.2.2.2.2.2.2 e.g (List.mem_map_of_mem he)
      simpa using this.2.1
    · have := hG.nd
      simp only [List.map_cons] at this
      exact this.sublist (((List.sublist_cons_self _ _).cons_cons _).cons_cons _ |>.cons_cons _)
    · have := hG.few
      rw [flatC_cons, List.length_append] at this
      omega
  · have HZ : Hid (A.length + B.length ≠ 0) := hz
    obtain ⟨w5, hupd, H6⟩ : ∃ w5, (Instr.mapUpdate 46 (.map (some mc)) (.agg #[.int .i64 c1, .int .i64 c2, .int .i64 c3]) (.slice (some ⟨g, 0, none⟩) (A.length + B.length) cap)).run Try.prog w4.drew = .ok () w5 ∧ Hid (MapC w5 mc (cellsC (⟨c, g, cap, A ++ B⟩ :: M)) ∧ Only [mc] w4 w5) := by
      obtain ⟨w5, q1, q2, q3⟩ := MapC.over (x := (c, CE.val ⟨c, g, cap, A ++ s :: B⟩)) (y := (c, CE.val ⟨c, g, cap, A ++ B⟩)) (L := cellsC M) (H5.out.2.2.2.1.only (Only.refl [] w4).drew (by simp)) (by simpa [cellsC] using HFW.out) rfl
      rw [← HCV.out]
      exact ⟨w5, by simpa [CE.val] using q1, q2, (Only.refl _ _).drew.trans (turnedO q3)⟩
    clear hz
    have he1 : (((A.length : Nat) : Int) + ((B.length : Nat) : Int) == 0) = false := by have := HZ.out; simp; omega
    go_upto_region 7 with fail
    refine wp_region_F_drew 6 (fun w' => w'.cell? ⟨x, 0, none⟩ = some (.map (some mc)) ∧ w'.cell? ⟨kc, 0, none⟩ = some (.int .i64 c1) ∧ w'.cell? ⟨kc, 1, none⟩ = some (.int .i64 c2) ∧ w'.cell? ⟨kc, 2, none⟩ = some (.int .i64 c3)) (by kernel_rfl) ?_ (fun hHeld1 => ?_)
    · (try dsimp only); exact ⟨c0x, kc0, kc1, kc2⟩
    refine tkL 0 rfl ?_; refine tkL 1 rfl ?_; refine tkL 2 rfl ?_; refine tkL 3 rfl ?_
    try simp only [Act.put, List.setIfInBounds_toArray, List.set_cons_zero, List.set_cons_succ, List.getElem_toArray, List.getElem_cons_succ, List.getElem_cons_zero]
    refine tkL 4 rfl ?_; refine tkL 5 rfl ?_
    try simp only [Act.put, List.setIfInBounds_toArray, List.set_cons_zero, List.set_cons_succ, List.getElem_toArray, List.getElem_cons_succ, List.getElem_cons_zero]
    refine wpAnyF_ready (rs := [6]) (by kernel_rfl) (by simp) ?_
    refine AllReadyF.fin rfl (by decide) (fun K hK => ?_) AllReadyF.nil
    first | (with_reducible refine iteYes ?hcx ?htx; case hcx => kernel_rfl) | rw [if_pos (by rfl)]
    simp only [List.getElem_toArray, List.getElem_cons_succ, List.getElem_cons_zero]
    go_simp
    skip
    refine hK.out _ _ ?_
    clear hK K
    try simp only [Act.put, List.setIfInBounds_toArray, List.set_cons_zero, List.set_cons_succ, List.getElem_toArray, List.getElem_cons_succ, List.getElem_cons_zero]
    refine wpAnyF_done (by kernel_rfl) ?_ _
    go_wp2
    go_end0
    refine ⟨rfl, ?_, H5.out.1.then H6.out.2 (by simp)⟩
    have hAB : ¬ A ++ B = [] := fun q => HZ.out (by have := congrArg List.length q; simpa using this)
    refine ⟨fun q => absurd q hAB, fun _ => ?_⟩
    obtain ⟨p1, p2, p3, p4, p5, p6, p7⟩ := H5.out
    obtain ⟨r1, r2⟩ := H6.out
    have hG := HG.out.1
    have hsub : ∀ p ∈ flatC (⟨c, g, cap, A ++ B⟩ :: M), p ∈ flatC (⟨c, g, cap, A ++ s :: B⟩ :: M) := fun p hp => (flatC_out c g cap A B s M).mem_iff.2 (List.mem_cons_of_mem _ hp)
    refine ⟨(r2.block x (Array.getElem?_eq_some_iff.1 p3).1 (by simpa using HG.out.2.2.2.2.1)).trans p3, r1, MapV.only r2 (by simpa using HNE.out.2.1) p6, fun e he => ?_, fun e he => ?_, hG.nd, fun p hp => hG.i64 p (hsub p hp), ?_, fun p hp => hG.home p (hsub p hp)⟩
    · rcases List.mem_cons.1 he with rfl | he
      · exact p5.only r2 (by simpa using Ne.symm HG.out.2.2.2.2.2.2.2.2.1)
      · refine (p7 e he).only r2 ?_
        have := HG.out.2.2.2.2.2.2.2.2.2.2 e.g (List.mem_map_of_mem he)
        simpa using this.2.1
    · rcases List.mem_cons.1 he with rfl | he
      · exact hAB
      · exact hG.full e (by simp [he])
    · have := hG.few
      rw [(flatC_out c g cap A B s M).length_eq] at this
      simp only [List.length_cons] at this
      omega
theorem remove_calls (x : Nat) (D : List Nat) (G : List (Cel × Spt)) (i : Int) (w : World) (h : GridOf w x D G) (hi : In64V i) :
    Calls Try.prog 8 #[.pointer (some ⟨x, 0, none⟩), .int .i64 i] w (RemPost w x D G i) := by
  obtain ⟨mc, mh, L, h1, rfl, hp⟩ := h
  by_cases hin : i ∈ (flatC L).map fun p => p.2.id
  · obtain ⟨c, g, cap, A, s, B, M, hL, rfl⟩ := spot_at hin
    refine (remove_some x mc mh c g cap A B s M w (h1.perm hL)).mono ?_
    rintro e w' ⟨rfl, h2, o⟩
    have hids := (((flatC_perm hL).map fun p => p.2.id)).nodup h1.ids
    have hD : ∀ b ∈ [mc, mh, g], b ∈ gridD x mc mh L ∨ w.heap.size ≤ b := by
      have hg : g ∈ L.map CE.g := (hL.map CE.g).mem_iff.2 (by simp)
      intro b hb
      simp only [List.mem_cons, List.not_mem_nil, or_false] at hb
      rcases hb with rfl | rfl | rfl
      · exact Or.inl (by simp [gridD])
      · exact Or.inl (by simp [gridD])
      · exact Or.inl (by simp [gridD]; right; right; right; simpa using hg)
    have hf : (G.filter fun p => p.2.id != s.id).Perm (flatC (⟨c, g, cap, A ++ B⟩ :: M)) := (hp.symm.filter _).trans (((flatC_perm hL).filter _).trans (filter_out (flatC_out c g cap A B s M) hids))
    by_cases hAB : A ++ B = []
    · replace h2 := h2.1 hAB
      refine ⟨rfl, _, ⟨mc, mh, M, h2, rfl, ?_⟩, o.mono hD, fun b hb => ?_⟩
      · refine List.Perm.trans ?_ hf.symm
        rw [flatC_cons, hAB]; simp
      · left
        simp only [gridD, List.mem_cons] at hb ⊢
        rcases hb with hb | hb | hb | hb
        · exact Or.inl hb
        · exact Or.inr (Or.inl hb)
        · exact Or.inr (Or.inr (Or.inl hb))
        · exact Or.inr (Or.inr (Or.inr ((hL.map CE.g).mem_iff.2 (by simp only [List.map_cons, List.mem_cons]; exact Or.inr hb))))
    · replace h2 := h2.2 hAB
      refine ⟨rfl, _, ⟨mc, mh, _, h2, rfl, hf.symm⟩, o.mono hD, fun b hb => ?_⟩
      left
      simp only [gridD, List.mem_cons] at hb ⊢
      rcases hb with hb | hb | hb | hb
      · exact Or.inl hb
      · exact Or.inr (Or.inl hb)
      · exact Or.inr (Or.inr (Or.inl hb))
      · exact Or.inr (Or.inr (Or.inr ((hL.map CE.g).mem_iff.2 (by simpa using hb))))
  · refine (remove_none x mc mh L i w h1 hi hin).mono ?_
    rintro e w' ⟨rfl, o⟩
    have hf : (G.filter fun p => p.2.id != i) = G := filter_none (fun q => hin ((hp.map fun p => p.2.id).mem_iff.2 q))
    refine ⟨rfl, gridD x mc mh L, ?_, o.mono (by simp), fun b hb => Or.inl hb⟩
    rw [hf]
    exact ⟨mc, mh, L, h1.only o (by simp), rfl, hp⟩
end Go.Proofs.Ytdbjbjgnkkhgcaa
/- A spot put into its cell's row: an entry taken, append, the entry stored: plain facts on the runs. -/
namespace Go.Proofs.Ytdbjbjgnkkhgcaa
open Go.ChangeShapes Go.WideShapes Go.ChangeAt Go.RowKit
set_option linter.unusedVariables false
set_option linter.unusedSimpArgs false
set_option linter.unusedSectionVars false
variable [DecidableEq Cel]

theorem flat8_len (l : List Spt) : (l.flatMap spL).length = l.length * 8 := by
  induction l with
  | nil => rfl
  | cons s l ih => rw [List.flatMap_cons, List.length_append, ih, spL_len, List.length_cons]; omega
theorem flat8_at (l : List Spt) : ∀ (j : Nat) (hj : j < l.length) (k : Nat), k < 8 → (l.flatMap spL)[j * 8 + k]? = some (spC l[j] k) := by
  induction l with
  | nil => intro j hj; simp at hj
  | cons s l ih =>
    intro j hj k hk
    rw [List.flatMap_cons]
    cases j with
    | zero => rw [List.getElem?_append_left (by rw [spL_len]; omega), Nat.zero_mul, Nat.zero_add, spL_at s k hk]; rfl
    | succ j =>
      rw [List.getElem?_append_right (by rw [spL_len]; omega), spL_len, show (j + 1) * 8 + k - 8 = j * 8 + k by omega]
      simp only [List.length_cons] at hj
      rw [ih j (by omega) k hk]; rfl
theorem RowS.own {w : World} {g cap : Nat} {l : List Spt} (h : RowS w g cap l) : w.ownsRow 0 61 8 (.slice (some ⟨g, 0, none⟩) l.length cap) l.length (l.flatMap spL) := by
  obtain ⟨cur, h1, h2, h3, h4, h5⟩ := h
  refine ⟨flat8_len l, Or.inr ⟨g, cap, cur, rfl, Nat.zero_le _, h1, h2, h3, h4, ?_⟩⟩
  apply List.ext_getElem?
  intro i
  rw [List.getElem?_take]
  by_cases hi : i < l.length * 8
  · rw [if_pos hi, Array.getElem?_toList]
    have e : i = i / 8 * 8 + i % 8 := by omega
    rw [e, flat8_at l (i / 8) (by omega) (i % 8) (by omega)]
    exact h5 (i / 8) (by omega) (i % 8) (by omega)
  · rw [if_neg hi, List.getElem?_eq_none (by rw [flat8_len]; omega)]
theorem RowS.of {w : World} {v : Value} {n : Nat} {l : List Spt} (h : w.ownsRow 0 61 8 v n (l.flatMap spL)) (hl : l ≠ []) : ∃ g cap, v = .slice (some ⟨g, 0, none⟩) l.length cap ∧ RowS w g cap l := by
  obtain ⟨h1, h2⟩ := h
  rw [flat8_len] at h1
  have hn : l.length = n := by omega
  rcases h2 with ⟨_, h2⟩ | ⟨g, cap, cur, rfl, _, hg, h3, h4, h5, h6⟩
  · exact absurd (List.eq_nil_of_length_eq_zero (by omega)) hl
  · refine ⟨g, cap, by rw [hn], cur, hg, by omega, h4, h5, fun j hj k hk => ?_⟩
    have h7 := flat8_at l j hj k hk
    rw [← h6, List.getElem?_take] at h7
    rw [if_pos (by omega), Array.getElem?_toList] at h7
    exact h7
theorem spotBytes : ∃ i, Try.prog.info? 61 = some i ∧ i.zero = some (.agg #[.int .i64 0, .int .i64 0, .int .i64 0, .int .i64 0, .int .i64 0, .int .i64 0, .int .i64 0, .int .i64 0]) ∧ i.size = 8 ∧ i.bytes = 64 := by
  obtain ⟨i0, hi0, hz0, hz1, hz2⟩ := info_parts spotInfo
  exact ⟨i0, hi0, hz0, hz1, hz2⟩
theorem one_spL (s : Spt) : ∀ u ∈ spL s, u.oneCell' = true := by
  intro u hu
  simp only [spL, List.mem_cons, List.not_mem_nil, or_false] at hu
  rcases hu with rfl | rfl | rfl | rfl | rfl | rfl | rfl | rfl <;> rfl
/-- append of one spot that lies in a block of its own. -/
theorem run_appendS {w : World} {v : Value} {l : List Spt} (h : w.ownsRow 0 61 8 v l.length (l.flatMap spL)) (s : Spt) {nb : Nat} (hb : w.heap[nb]? = some (.cells (spL s).toArray 61)) (hl : l.length ≤ 1000) (ty : TypeId) :
    ∃ v' w' g cap, (Builtin.append_ #[56, 56] ty #[v, .slice (some ⟨nb, 0, none⟩) 1 1]).run Try.prog w = .ok v' w' ∧ v' = .slice (some ⟨g, 0, none⟩) (l.length + 1) cap ∧ RowS w' g cap (l ++ [s]) ∧ w.grownBy w' v.ownBlock ∧ (some g = v.ownBlock ∨ g = w.heap.size) := by
  obtain ⟨i0, hi0, hz0, hz1, hz2⟩ := spotBytes
  obtain ⟨v', w', hr, h2, h3, h4, h5⟩ := run_append_own_at (P := Try.prog) w 0 56 ty 61 i0 (.agg #[.int .i64 0, .int .i64 0, .int .i64 0, .int .i64 0, .int .i64 0, .int .i64 0, .int .i64 0, .int .i64 0]) 8 64 Try.underlying56 hi0 hz0 hz1 hz2 rfl (by decide) v l.length _ h ⟨nb, 0, none⟩ 1 1 (spL s) rfl
    (fun j u hj => by
      have ea : (⟨nb, 0, none⟩ : Addr).add j = ⟨nb, j, none⟩ := by unfold Addr.add; split <;> simp_all
      rw [ea]
      simp only [World.cell?, hb, Option.isSome_none, Bool.false_eq_true, if_false]
      rw [List.getElem?_toArray]; exact hj) (one_spL s) (by unfold maxLen; omega) (by omega) (Nat.zero_le _)
  have e : l.flatMap spL ++ spL s = (l ++ [s]).flatMap spL := by simp
  rw [e] at h2
  obtain ⟨g, cap, rfl, hrow⟩ := RowS.of h2 (by simp)
  refine ⟨_, w', g, cap, hr, by simp, hrow, h3, ?_⟩
  rcases h5 with h5 | h5
  · exact Or.inl h5
  · right; simpa [Value.ownBlock] using h5
/-- The whole: in the world W the homes have the spot already; nb is a block with its cells. -/
theorem put_tail {W : World} {x mc mh nb : Nat} {L : List CE} {c : Cel} {s : Spt}
    (hat : W.heap[x]? = some (.cells #[.map (some mc), .map (some mh)] 49)) (hcells : MapC W mc (cellsC L)) (hhomes : MapV W (some mh) ((s.id, celV c) :: homesC (flatC L)))
    (hrows : ∀ e ∈ L, RowS W e.g e.cap e.l) (hfull : ∀ e ∈ L, e.l ≠ []) (hnd : (x :: mc :: mh :: L.map CE.g).Nodup) (hi64 : ∀ p ∈ (c, s) :: flatC L, In64V p.2.id) (hfew : (flatC L).length < 1000) (hhome : ∀ p ∈ (c, s) :: flatC L, Home p.1 p.2)
    (hb : W.heap[nb]? = some (.cells (spL s).toArray 61)) (hnb : nb ∉ x :: mc :: mh :: L.map CE.g) :
    ∃ (v0 : Value) (st : Int) (w6 : World) (v' : Value) (w7 w8 : World), (Instr.mapEntry 46 (.map (some mc)) (celV c)).run Try.prog W = .ok (.tuple #[v0, .int .i64 st]) w6 ∧
      (∀ ty, (Builtin.append_ #[56, 56] ty #[v0, .slice (some ⟨nb, 0, none⟩) 1 1]).run Try.prog w6 = .ok v' w7) ∧
      (Instr.entryStore 46 (.map (some mc)) (.int .i64 st) v').run Try.prog w7 = .ok () w8 ∧
      Only [mc] W w6 ∧ Only (mc :: L.map CE.g) W w7 ∧ Only (mc :: L.map CE.g) W w8 ∧ ∃ L', GridIs w8 x mc mh L' ∧ (flatC L').Perm ((c, s) :: flatC L) ∧ ∀ b ∈ gridD x mc mh L', b ∈ gridD x mc mh L ∨ W.heap.size ≤ b := by
  have hLlen : L.length ≤ (flatC L).length := flatC_len hfull
  have hnd0 := hnd
  simp only [List.nodup_cons, List.mem_cons, not_or] at hnd
  obtain ⟨⟨n1, n2, n3⟩, ⟨n4, n5⟩, n6, n7⟩ := hnd
  have hxl : x < W.heap.size := (Array.getElem?_eq_some_iff.1 hat).1
  have hml := hcells.lt
  have hhl : mh < W.heap.size := hhomes.lt
  simp only [List.mem_cons, not_or] at hnb
  have hnbl : nb < W.heap.size := (Array.getElem?_eq_some_iff.1 hb).1
  have turned : ∀ {a b : World} {m : Nat}, a.mapTurned b m → Only [m] a b := fun {a b m} h => (Only.refl [m] a).grown h.grown (fun k hk => by injection hk with hk; exact Or.inl (by simp [hk]))
  by_cases hc : c ∈ L.map CE.c
  · obtain ⟨e, he, rfl⟩ := List.mem_map.1 hc
    obtain ⟨L1, L2, rfl⟩ := List.append_of_mem he
    have hperm : (L1 ++ e :: L2).Perm (e :: (L1 ++ L2)) := List.perm_middle
    generalize hM : L1 ++ L2 = M at hperm
    have hcells' := hcells.perm (hperm.map _)
    simp only [List.map_cons] at hcells'
    have heg : e.g ∈ (L1 ++ e :: L2).map CE.g := List.mem_map_of_mem he
    have hel : e.l.length ≤ (flatC (L1 ++ e :: L2)).length := by
      rw [(flatC_perm hperm).length_eq, flatC_cons]; simp
    obtain ⟨st, w6, q1, q2, q3⟩ := MapC.entry_over (x := (e.c, e.val)) (L := M.map fun e => (e.c, e.val)) hcells' (by
      have := hperm.length_eq; simp only [List.length_cons, List.length_map] at this ⊢; unfold maxLen; omega)
    have o6 := turned q2
    have hrow6 := (hrows e he).only o6 (by simp only [List.mem_singleton]; exact fun q => n5 (by rw [← q]; exact heg))
    have hb6 : w6.heap[nb]? = some (.cells (spL s).toArray 61) := (o6.block nb hnbl (by simpa using hnb.2.1)).trans hb
    obtain ⟨v', w7, g, cap, r1, r2, r3, r4, r5⟩ := run_appendS (v := e.val) hrow6.own s hb6 (by omega) 0
    have hvb : e.val.ownBlock = some e.g := rfl
    have o7 : Only (mc :: (L1 ++ e :: L2).map CE.g) W w7 := (o6.mono (by simp)).grown r4 (fun k hk => by rw [hvb] at hk; injection hk with hk; rw [← hk]; exact Or.inl (List.mem_cons_of_mem _ heg))
    have hm7 : w7.heap[mc]? = w6.heap[mc]? := r4.block mc (Nat.lt_of_lt_of_le hml o6.size) (by rw [hvb]; intro q; injection q with q; exact n5 (by rw [q]; exact heg))
    obtain ⟨w8, t1, t2, t3⟩ := q3 v' w7 hm7
    have o8 := turned t2
    have hgne : g ≠ mc ∧ g ≠ x ∧ g ≠ mh ∧ g ∉ M.map CE.g ∧ (g = e.g ∨ W.heap.size ≤ g) := by
      have hin : ∀ b, b ∈ M.map CE.g → b ∈ (L1 ++ e :: L2).map CE.g := fun b hb => (hperm.map CE.g).mem_iff.2 (by simp only [List.map_cons]; exact List.mem_cons_of_mem _ hb)
      rcases r5 with r5 | r5
      · rw [hvb] at r5; injection r5 with r5; rw [r5]
        refine ⟨fun q => n5 (q ▸ heg), fun q => n3 (q ▸ heg), fun q => n6 (q ▸ heg), fun q => ?_, Or.inl rfl⟩
        have := (hperm.map CE.g).nodup n7
        simp only [List.map_cons, List.nodup_cons] at this
        exact this.1 q
      · have hs6 := o6.size
        refine ⟨by omega, by omega, by omega, fun q => ?_, Or.inr (by omega)⟩
        obtain ⟨e', he', q⟩ := List.mem_map.1 (hin g q)
        have := (hrows e' he').lt
        omega
    have hkeep : ∀ b, b < W.heap.size → b ≠ mc → b ≠ e.g → w8.heap[b]? = W.heap[b]? := fun b hb h1 h2 =>
      ((o8.block b (Nat.lt_of_lt_of_le hb o7.size) (by simpa using h1)).trans (r4.block b (Nat.lt_of_lt_of_le hb o6.size) (by rw [hvb]; intro q; injection q with q; exact h2 q))).trans (o6.block b hb (by simpa using h1))
    have hxe : x ≠ e.g := fun q => n3 (q ▸ heg)
    have hhe : mh ≠ e.g := fun q => n6 (q ▸ heg)
    have hflat : (flatC (⟨e.c, g, cap, e.l ++ [s]⟩ :: M)).Perm ((e.c, s) :: flatC (L1 ++ e :: L2)) := by
      refine List.Perm.trans ?_ ((flatC_perm hperm).symm.cons _)
      have h1 := flatC_out e.c g cap e.l [] s M
      rw [List.append_nil] at h1
      refine h1.trans (List.Perm.of_eq ?_)
      congr 1
    have hhomes8 : MapV w8 (some mh) (homesC (flatC (⟨e.c, g, cap, e.l ++ [s]⟩ :: M))) := by
      have h1 : MapV w8 (some mh) ((s.id, celV e.c) :: homesC (flatC (L1 ++ e :: L2))) := by
        have hW : Only (mc :: (L1 ++ e :: L2).map CE.g) W w8 := o7.then o8 (by simp)
        refine MapV.only hW (fun b hb => ?_) hhomes
        simp only [Option.toList_some, List.mem_singleton] at hb
        subst hb
        simp only [List.mem_cons, not_or]
        exact ⟨fun q => n4 q.symm, n6⟩
      exact h1.perm (hflat.map (fun p : Cel × Spt => (p.2.id, celV p.1))).symm
    refine ⟨e.val, st, w6, v', w7, w8, q1, fun ty => ?_, t1, o6, o7, o7.then o8 (by simp), ⟨e.c, g, cap, e.l ++ [s]⟩ :: M, ⟨?_, ?_, hhomes8, ?_, ?_, ?_, ?_, ?_, ?_⟩, hflat, ?_⟩
    · exact r1
    · exact (hkeep x hxl n1 hxe).trans hat
    · rw [r2] at t3
      simpa [cellsC, CE.val] using t3
    · intro e' he'
      rcases List.mem_cons.1 he' with rfl | he'
      · exact r3.only o8 (by simpa using hgne.1)
      · have hin : e' ∈ L1 ++ e :: L2 := hperm.mem_iff.2 (List.mem_cons_of_mem _ he')
        have h1 := hrows e' hin
        obtain ⟨cur, h2, h3⟩ := h1
        refine ⟨cur, (hkeep e'.g (Array.getElem?_eq_some_iff.1 h2).1 (fun q => n5 (q ▸ List.mem_map_of_mem hin)) (fun q => ?_)).trans h2, h3⟩
        have := (hperm.map CE.g).nodup n7
        simp only [List.map_cons, List.nodup_cons] at this
        exact this.1 (q ▸ List.mem_map_of_mem he')
    · intro e' he'
      rcases List.mem_cons.1 he' with rfl | he'
      · simp
      · exact hfull e' (hperm.mem_iff.2 (List.mem_cons_of_mem _ he'))
    · have h1 := (((hperm.map CE.g).cons mh).cons mc |>.cons x).nodup hnd0
      simp only [List.map_cons, List.nodup_cons, List.mem_cons, not_or] at h1 ⊢
      obtain ⟨⟨a1, a2, a3, a4⟩, ⟨a5, a6, a7⟩, ⟨a8, a9⟩, a10, a11⟩ := h1
      exact ⟨⟨a1, a2, fun q => hgne.2.1 q.symm, a4⟩, ⟨a5, fun q => hgne.1 q.symm, a7⟩, ⟨fun q => hgne.2.2.1 q.symm, a9⟩, hgne.2.2.2.1, a11⟩
    · intro p hp; exact hi64 p (hflat.mem_iff.1 hp)
    · rw [hflat.length_eq]; simp only [List.length_cons]; omega
    · intro p hp; exact hhome p (hflat.mem_iff.1 hp)
    · intro b hb
      simp only [gridD, List.map_cons, List.mem_cons] at hb ⊢
      rcases hb with hb | hb | hb | hb | hb
      · exact Or.inl (Or.inl hb)
      · exact Or.inl (Or.inr (Or.inl hb))
      · exact Or.inl (Or.inr (Or.inr (Or.inl hb)))
      · rcases hgne.2.2.2.2 with h1 | h1
        · exact Or.inl (Or.inr (Or.inr (Or.inr (by rw [hb, h1]; exact heg))))
        · exact Or.inr (by rw [hb]; exact h1)
      · exact Or.inl (Or.inr (Or.inr (Or.inr ((hperm.map CE.g).mem_iff.2 (by simp only [List.map_cons]; exact List.mem_cons_of_mem _ hb)))))
  · have hc' : c ∉ (cellsC L).map Prod.fst := by
      simp only [cellsC, List.map_map]; exact hc
    obtain ⟨st, w6, q1, q2, q3⟩ := MapC.entry_new hcells (by simp only [cellsC, List.length_map]; unfold maxLen; omega) hc'
    have o6 := turned q2
    have hb6 : w6.heap[nb]? = some (.cells (spL s).toArray 61) := (o6.block nb hnbl (by simpa using hnb.2.1)).trans hb
    obtain ⟨v', w7, g, cap, r1, r2, r3, r4, r5⟩ := run_appendS (v := .slice none 0 0) (l := []) (World.ownsRow_nil w6 0 _ _) s hb6 (by simp) 0
    have hvb : (Value.slice none 0 0).ownBlock = none := rfl
    have o7 : Only (mc :: L.map CE.g) W w7 := (o6.mono (by simp)).grown r4 (fun k hk => by rw [hvb] at hk; cases hk)
    have hm7 : w7.heap[mc]? = w6.heap[mc]? := r4.block mc (Nat.lt_of_lt_of_le hml o6.size) (by rw [hvb]; simp)
    obtain ⟨w8, t1, t2, t3⟩ := q3 v' w7 hm7
    have o8 := turned t2
    have hg : g = w6.heap.size := by
      rcases r5 with r5 | r5
      · rw [hvb] at r5; cases r5
      · exact r5
    have hs6 := o6.size
    have hkeep : ∀ b, b < W.heap.size → b ≠ mc → w8.heap[b]? = W.heap[b]? := fun b hb h1 =>
      ((o8.block b (Nat.lt_of_lt_of_le hb o7.size) (by simpa using h1)).trans (r4.block b (Nat.lt_of_lt_of_le hb o6.size) (by rw [hvb]; simp))).trans (o6.block b hb (by simpa using h1))
    have hflat : flatC (⟨c, g, cap, [s]⟩ :: L) = (c, s) :: flatC L := by rw [flatC_cons]; rfl
    have hgL : g ∉ L.map CE.g := fun q => by
      obtain ⟨e', he', q⟩ := List.mem_map.1 q
      have := (hrows e' he').lt
      omega
    refine ⟨.slice none 0 0, st, w6, v', w7, w8, q1, fun ty => r1, t1, o6, o7, o7.then o8 (by simp), ⟨c, g, cap, [s]⟩ :: L, ⟨?_, ?_, ?_, ?_, ?_, ?_, ?_, ?_, ?_⟩, List.Perm.of_eq hflat, ?_⟩
    · exact (hkeep x hxl n1).trans hat
    · rw [r2] at t3
      simpa [cellsC, CE.val] using t3
    · rw [hflat]
      have hW : Only (mc :: L.map CE.g) W w8 := o7.then o8 (by simp)
      refine MapV.only hW (fun b hb => ?_) hhomes
      simp only [Option.toList_some, List.mem_singleton] at hb
      subst hb
      simp only [List.mem_cons, not_or]
      exact ⟨fun q => n4 q.symm, n6⟩
    · intro e' he'
      rcases List.mem_cons.1 he' with rfl | he'
      · exact r3.only o8 (by simp only [List.mem_singleton]; omega)
      · have h1 := hrows e' he'
        obtain ⟨cur, h2, h3⟩ := h1
        exact ⟨cur, (hkeep e'.g (Array.getElem?_eq_some_iff.1 h2).1 (fun q => n5 (q ▸ List.mem_map_of_mem he'))).trans h2, h3⟩
    · intro e' he'
      rcases List.mem_cons.1 he' with rfl | he'
      · simp
      · exact hfull e' he'
    · simp only [List.map_cons, List.nodup_cons, List.mem_cons, not_or]
      exact ⟨⟨n1, n2, by omega, n3⟩, ⟨n4, by omega, n5⟩, ⟨by omega, n6⟩, hgL, n7⟩
    · rw [hflat]; exact hi64
    · rw [hflat]; simp only [List.length_cons]; omega
    · rw [hflat]; exact hhome
    · intro b hb
      simp only [gridD, List.map_cons, List.mem_cons] at hb ⊢
      rcases hb with hb | hb | hb | hb | hb
      · exact Or.inl (Or.inl hb)
      · exact Or.inl (Or.inr (Or.inl hb))
      · exact Or.inl (Or.inr (Or.inr (Or.inl hb)))
      · exact Or.inr (by omega)
      · exact Or.inl (Or.inr (Or.inr (Or.inr hb)))
end Go.Proofs.Ytdbjbjgnkkhgcaa
