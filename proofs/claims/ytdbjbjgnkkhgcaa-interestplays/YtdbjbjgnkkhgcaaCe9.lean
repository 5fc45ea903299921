/- The cells that interest.every goes through: a range over a function. -/
import Derived.Test.YtdbjbjgnkkhgcaaCe5
import Derived.Test.YtdbjbjgnkkhgcaaCe4
import Derived.RangeFuncNested
import Derived.RangeFuncBound
import Derived.RangeFuncCalls
import Derived.RangeFuncLeaves
import Derived.Shelf.Abstract
import Derived.Shelf.RegionOpen
import Derived.OwnWalkIn
import Derived.TacticsInMore
import Derived.LoopNIn
import Derived.LoopIn
import Derived.Sort.LoopGhostIn
namespace Go.Proofs.Ytdbjbjgnkkhgcaa
open Go.ChangeShapes Go.WideShapes Go.ChangeAt Go.RowKit Go.Shelf
set_option linter.unusedVariables false
set_option linter.unusedSimpArgs false
set_option linter.unusedSectionVars false
variable [DecidableEq Cel]

attribute [local go_sem] Oper.semAt_some

/-- What a round must keep: these blocks, maps, and their iterators. -/
def KpB (Bs : List Nat) (W W' : World) : Prop := (∀ b ∈ Bs, W'.heap[b]? = W.heap[b]?) ∧ KeepsWalks W W'
theorem KpB.t {Bs : List Nat} {A B C : World} (h : KpB Bs A B) (k : KpB Bs B C) : KpB Bs A C := ⟨fun b hb => (k.1 b hb).trans (h.1 b hb), h.2.trans k.2⟩
theorem KpB.b {Bs : List Nat} {w : World} (hs : ∀ b ∈ Bs, b < w.heap.size) (W : World) (l : Nat) (o o' : Obj) (hl : w.heap.size ≤ l) (h : W.heap[l]? = some o) (hc : o.isCells = false) (hw : o.isWalk = false) : KpB Bs W (W.putObj l o') :=
  ⟨fun b hb => World.putObj_heap_other (by have := hs b hb; omega), walksK_b (w := w) W l o o' hl h hc hw⟩
/-- All cells ahead of one, of those between. -/
def lexC (c : Cel) (x y z : Nat) : Prop := c.x.val < x ∨ (c.x.val = x ∧ (c.y.val < y ∨ (c.y.val = y ∧ c.z.val < z)))
structure EvAt (lo hi : Cel) (pre : List Cel) (x y z : Nat) : Prop where
  nodup : pre.Nodup
  mem : ∀ c, c ∈ pre ↔ btw lo c hi = true ∧ lexC c x y z
  len : pre.length ≤ (x * 21 + y) * 21 + z
theorem btw_iff (l c h : Cel) : btw l c h = true ↔ (l.x.val ≤ c.x.val ∧ c.x.val ≤ h.x.val ∧ l.y.val ≤ c.y.val ∧ c.y.val ≤ h.y.val ∧ l.z.val ≤ c.z.val ∧ c.z.val ≤ h.z.val) := by simp [btw]
theorem EvAt.start (lo hi : Cel) : EvAt lo hi [] lo.x.val lo.y.val lo.z.val := ⟨by simp, fun c => by
  simp only [List.not_mem_nil, false_iff, btw_iff, lexC, not_and]
  intro h; omega, by simp⟩
theorem EvAt.step {lo hi : Cel} {pre : List Cel} {x y z : Nat} (h : EvAt lo hi pre x y z) (hx : lo.x.val ≤ x ∧ x ≤ hi.x.val) (hy : lo.y.val ≤ y ∧ y ≤ hi.y.val) (hz : lo.z.val ≤ z ∧ z ≤ hi.z.val) (c0 : Cel) (e0 : c0.x.val = x ∧ c0.y.val = y ∧ c0.z.val = z) : EvAt lo hi (pre ++ [c0]) x y (z + 1) := by
  have hne : c0 ∉ pre := fun q => by
    have := ((h.mem c0).1 q).2
    unfold lexC at this; omega
  refine ⟨?_, fun c => ?_, by have := h.len; simp; omega⟩
  · rw [List.nodup_append]
    exact ⟨h.nodup, by simp, fun a ha b hb => by simp only [List.mem_singleton] at hb; subst hb; exact fun q => hne (q ▸ ha)⟩
  · rw [List.mem_append, h.mem, List.mem_singleton]
    constructor
    · rintro (⟨h1, h2⟩ | rfl)
      · refine ⟨h1, ?_⟩; unfold lexC at h2 ⊢; omega
      · refine ⟨(btw_iff _ _ _).2 (by omega), ?_⟩; unfold lexC; omega
    · rintro ⟨h1, h2⟩
      by_cases q : lexC c x y z
      · exact Or.inl ⟨h1, q⟩
      · right
        obtain ⟨⟨a1, _⟩, ⟨a2, _⟩, ⟨a3, _⟩⟩ := c
        obtain ⟨⟨b1, _⟩, ⟨b2, _⟩, ⟨b3, _⟩⟩ := c0
        simp only [lexC] at h2 q e0
        simp only [Cel.mk.injEq, Fin.mk.injEq]
        omega
theorem EvAt.nextY {lo hi : Cel} {pre : List Cel} {x y z : Nat} (h : EvAt lo hi pre x y z) (hz : hi.z.val < z ∧ z ≤ 21) : EvAt lo hi pre x (y + 1) lo.z.val := by
  refine ⟨h.nodup, fun c => ?_, by have := h.len; omega⟩
  rw [h.mem]
  refine and_congr_right fun h1 => ?_
  rw [btw_iff] at h1
  unfold lexC; omega
theorem EvAt.nextX {lo hi : Cel} {pre : List Cel} {x y z : Nat} (h : EvAt lo hi pre x y z) (hy : hi.y.val < y ∧ y ≤ 21) (hzz : z = lo.z.val) : EvAt lo hi pre (x + 1) lo.y.val lo.z.val := by
  refine ⟨h.nodup, fun c => ?_, ?_⟩
  · rw [h.mem]
    refine and_congr_right fun h1 => ?_
    rw [btw_iff] at h1
    unfold lexC; omega
  · have := h.len; omega
def EvJ (bl bh : Nat) (lo hi : Cel) (W : World) : Prop := W.heap[bl]? = some (.cells #[.int .i64 ((lo.x.val : Int)), .int .i64 ((lo.y.val : Int)), .int .i64 ((lo.z.val : Int))] 54) ∧ W.heap[bh]? = some (.cells #[.int .i64 ((hi.x.val : Int)), .int .i64 ((hi.y.val : Int)), .int .i64 ((hi.z.val : Int))] 54)
theorem EvJ.cells {bl bh : Nat} {lo hi : Cel} {W : World} (h : EvJ bl bh lo hi W) : W.cell? ⟨bl, 0, none⟩ = some (.int .i64 ((lo.x.val : Int))) ∧ W.cell? ⟨bl, 1, none⟩ = some (.int .i64 ((lo.y.val : Int))) ∧ W.cell? ⟨bl, 2, none⟩ = some (.int .i64 ((lo.z.val : Int))) ∧ W.cell? ⟨bh, 0, none⟩ = some (.int .i64 ((hi.x.val : Int))) ∧ W.cell? ⟨bh, 1, none⟩ = some (.int .i64 ((hi.y.val : Int))) ∧ W.cell? ⟨bh, 2, none⟩ = some (.int .i64 ((hi.z.val : Int))) := by
  obtain ⟨h1, h2⟩ := h
  refine ⟨?_, ?_, ?_, ?_, ?_, ?_⟩ <;> (simp only [World.cell?, h1, h2]; rfl)
set_option maxRecDepth 100000 in
set_option maxHeartbeats 2000000 in
theorem every1_in (n l bl bh : Nat) (lo hi : Cel) (J Jx : List Cel → World → Prop)
    (hY : ∀ pre x W, J pre W → pre.length < 9261 → YieldAt Fence.wide (n - 1) Try.prog l #[celV x] W fun e W' =>
      (e = .returned (.bool true) ∧ J (pre ++ [x]) W' ∧ KpB [bl, bh] W W') ∨ (e = .returned (.bool false) ∧ Jx (pre ++ [x]) W'))
    (W : World) (hE : EvJ bl bh lo hi W) (h0 : J [] W) :
    CallsIn Fence.wide n Try.prog 49 #[.func (.yield l) #[] #[], .pointer (some ⟨bl, 0, none⟩), .pointer (some ⟨bh, 0, none⟩)] W fun e W' => (∃ v, e = .returned v) ∧
      ((∃ xs, (xs.Nodup ∧ ∀ c, btw lo c hi = true → c ∈ xs) ∧ J xs W') ∨ (∃ pre, True ∧ Jx pre W')) := by
  have b1 := lo.x.isLt
  have b2 := lo.y.isLt
  have b3 := lo.z.isLt
  have b4 := hi.x.isLt
  have b5 := hi.y.isLt
  have b6 := hi.z.isLt
  refine callsIn_of_wp Try.func49 rfl trivial ?_ rfl
  simp only [Try.ntmps49, List.size_toArray, List.length_cons, List.length_nil, Nat.reduceAdd, Nat.reduceSub, Array.replicate_succ, Array.replicate_zero, List.push_toArray, List.append_toArray, List.nil_append, List.cons_append]
  have HE : Hid (EvJ bl bh lo hi W) := hE
  have HY : Hid (∀ pre x W, J pre W → pre.length < 9261 → YieldAt Fence.wide (n - 1) Try.prog l #[celV x] W fun e W' =>
      (e = .returned (.bool true) ∧ J (pre ++ [x]) W' ∧ KpB [bl, bh] W W') ∨ (e = .returned (.bool false) ∧ Jx (pre ++ [x]) W')) := hY
  obtain ⟨c1, c2, c3, c4, c5, c6⟩ := hE.cells
  clear hE hY
  gi_wp2
  gi_loopg [4] (30 - lo.x.val) (fun k v4 wr => ∃ (x : Nat) (pre : List Cel), v4 = .int .i64 (x : Int) ∧ Hid (lo.x.val ≤ x ∧ x ≤ 21 ∧ k = 30 - x) ∧ Hid (EvAt lo hi pre x lo.y.val lo.z.val ∧ J pre wr ∧ EvJ bl bh lo hi wr))
  case atStart => exact ⟨lo.x.val, [], rfl, ⟨by omega, by omega, rfl⟩, EvAt.start lo hi, h0, HE.out⟩
  case round =>
    obtain ⟨x, pre, rfl, H1, H2⟩ := hrel
    have hx1 := H1.out.1
    have hx2 := H1.out.2.1
    obtain ⟨c1, c2, c3, c4, c5, c6⟩ := H2.out.2.2.cells
    by_cases hx : x ≤ hi.x.val
    · have tx : (x : Int) ≤ (hi.x.val : Int) := by omega
      gi_wp2
      gi_loopg [5] (30 - lo.y.val) (fun k v5 wy => ∃ (y : Nat) (pre : List Cel), v5 = .int .i64 (y : Int) ∧ Hid (lo.y.val ≤ y ∧ y ≤ 21 ∧ k = 30 - y) ∧ Hid (EvAt lo hi pre x y lo.z.val ∧ J pre wy ∧ EvJ bl bh lo hi wy))
      case atStart => exact ⟨lo.y.val, pre, rfl, ⟨by omega, by omega, rfl⟩, H2.out⟩
      case round =>
        obtain ⟨y, pre2, rfl, H3, H4⟩ := hrel
        have hy1 := H3.out.1
        have hy2 := H3.out.2.1
        clear c1 c2 c3 c4 c5 c6
        obtain ⟨c1, c2, c3, c4, c5, c6⟩ := H4.out.2.2.cells
        by_cases hy : y ≤ hi.y.val
        · have ty : (y : Int) ≤ (hi.y.val : Int) := by omega
          gi_wp2
          gi_loopg [6] (30 - lo.z.val) (fun k v6 wz => ∃ (z : Nat) (pre : List Cel), v6 = .int .i64 (z : Int) ∧ Hid (lo.z.val ≤ z ∧ z ≤ 21 ∧ k = 30 - z) ∧ Hid (EvAt lo hi pre x y z ∧ J pre wz ∧ EvJ bl bh lo hi wz))
          case atStart => exact ⟨lo.z.val, pre2, rfl, ⟨by omega, by omega, rfl⟩, H4.out⟩
          case round =>
            obtain ⟨z, pre3, rfl, H5, H6⟩ := hrel
            have hz1 := H5.out.1
            have hz2 := H5.out.2.1
            clear c1 c2 c3 c4 c5 c6
            obtain ⟨c1, c2, c3, c4, c5, c6⟩ := H6.out.2.2.cells
            by_cases hz : z ≤ hi.z.val
            · have tz : (z : Int) ≤ (hi.z.val : Int) := by omega
              obtain ⟨fn, tmps, assign, body, hy0, hR⟩ := HY.out pre3 ⟨⟨x, by omega⟩, ⟨y, by omega⟩, ⟨z, by omega⟩⟩ wr H6.out.2.1 (by have := H6.out.1.len; omega)
              simp only [celV] at hy0
              gi_wp2
              refine ⟨fun hq => absurd hq (by simp [Fence.wide]), hR.mono ?_⟩
              rintro e w3 (⟨rfl, hJ3, hk3⟩ | ⟨rfl, hJx3⟩)
              · have H7 : Hid (EvAt lo hi (pre3 ++ [⟨⟨x, by omega⟩, ⟨y, by omega⟩, ⟨z, by omega⟩⟩]) x y (z + 1) ∧ J (pre3 ++ [⟨⟨x, by omega⟩, ⟨y, by omega⟩, ⟨z, by omega⟩⟩]) w3 ∧ EvJ bl bh lo hi w3) :=
                  ⟨H6.out.1.step ⟨by omega, hx⟩ ⟨by omega, hy⟩ ⟨by omega, hz⟩ _ ⟨rfl, rfl, rfl⟩, hJ3, (hk3.1 bl (by simp)).trans H6.out.2.2.1, (hk3.1 bh (by simp)).trans H6.out.2.2.2⟩
                gi_wp2
                gi_roundg (30 - (z + 1))
                case measure => have := H5.out.2.2; omega
                case rel => exact ⟨z + 1, _, by go_num, ⟨by omega, by omega, rfl⟩, H7⟩
              · gi_wp2
                refine bodyPost_ret (results_none rfl _ _ _) rfl ?_
                exact ⟨⟨_, rfl⟩, .inr ⟨_, trivial, hJx3⟩⟩
            · have tz : ¬ (z : Int) ≤ (hi.z.val : Int) := by omega
              gi_wp2
              gi_roundg (30 - (y + 1))
              case measure => have := H3.out.2.2; omega
              case rel => exact ⟨y + 1, pre3, by go_num, ⟨by omega, by omega, rfl⟩, H6.out.1.nextY ⟨by omega, by omega⟩, H6.out.2⟩
        · have ty : ¬ (y : Int) ≤ (hi.y.val : Int) := by omega
          gi_wp2
          gi_roundg (30 - (x + 1))
          case measure => have := H1.out.2.2; omega
          case rel => exact ⟨x + 1, pre2, by go_num, ⟨by omega, by omega, rfl⟩, H4.out.1.nextX ⟨by omega, by omega⟩ rfl, H4.out.2⟩
    · have tx : ¬ (x : Int) ≤ (hi.x.val : Int) := by omega
      gi_wp2
      go_end0
      refine ⟨⟨_, rfl⟩, .inl ⟨pre, ⟨H2.out.1.nodup, fun c hc => (H2.out.1.mem c).2 ⟨hc, ?_⟩⟩, H2.out.2.1⟩⟩
      rw [btw_iff] at hc
      unfold lexC; omega
end Go.Proofs.Ytdbjbjgnkkhgcaa
