/- What touches do to bodies, in plain functions; gyreref.index, the lights: whatever the bodies. -/
import Derived.Test.YtdbjbjgnkkhgcaaSv1
import Derived.Maps.OwnSet
import Derived.Maps.AppendAt
import Derived.Deep.CutRange
import Derived.Deep.MidRow
namespace Go.Proofs.Ytdbjbjgnkkhgcaa
open Go.ChangeShapes Go.WideShapes Go.ChangeAt Go.RowKit
set_option linter.unusedVariables false
set_option linter.unusedSimpArgs false

/-- Where the body of a number lies among the first n. -/
def findX (B : Nat → Bd) (id : Int) : Nat → Option Nat
  | 0 => none
  | n + 1 => match findX B id n with
    | some i => some i
    | none => if (B n).id = id then some n else none
theorem findX_some {B : Nat → Bd} {id : Int} : ∀ {n i : Nat}, findX B id n = some i → i < n ∧ (B i).id = id
  | 0, i, h => by simp [findX] at h
  | n + 1, i, h => by
    simp only [findX] at h
    split at h
    · rename_i j hj
      injection h with h; subst h
      have := findX_some hj
      exact ⟨by omega, this.2⟩
    · split at h
      · rename_i e
        injection h with h; subst h
        exact ⟨by omega, e⟩
      · cases h
theorem findX_none {B : Nat → Bd} {id : Int} : ∀ {n : Nat}, findX B id n = none → ∀ i, i < n → (B i).id ≠ id
  | 0, _, i, hi => by omega
  | n + 1, h, i, hi => by
    simp only [findX] at h
    split at h
    · cases h
    · rename_i hn
      split at h
      · cases h
      · rename_i e
        by_cases q : i = n
        · subst q; exact e
        · exact findX_none hn i (by omega)
theorem findX_least {B : Nat → Bd} {id : Int} : ∀ {n i : Nat}, i < n → (B i).id = id → (∀ x, x < i → (B x).id ≠ id) → findX B id n = some i
  | 0, i, h, _, _ => by omega
  | n + 1, i, h, e, l => by
    simp only [findX]
    by_cases q : i = n
    · subst q
      cases hf : findX B id i with
      | some k => have := findX_some hf; exact absurd this.2 (l k this.1)
      | none => simp [e]
    · rw [findX_least (by omega) e l]
theorem findX_congr {B C : Nat → Bd} {id : Int} (h : ∀ i, (B i).id = (C i).id) : ∀ n, findX B id n = findX C id n
  | 0 => rfl
  | n + 1 => by simp only [findX, findX_congr h n, h n]
def numX : Option Nat → Int
  | some i => i
  | none => -1
def lightX (m : Int) : Int := if m ≤ 0 then 0 else div 65536 m
structure V3 where
  (x y z : Int)
structure Tc where
  (a b : Int) (way : V3) (deep : Int)
def upd (B : Nat → Bd) (i : Nat) (b : Bd) : Nat → Bd := fun j => if j = i then b else B j
def atX (b : Bd) (x y z : Int) : Bd := { b with ax := x, ay := y, az := z }
def spX (b : Bd) (x y z : Int) : Bd := { b with vx := x, vy := y, vz := z }
/-- One moved back by much along a way, and kept within the world. -/
def backX (b : Bd) (w : V3) (m : Int) : Bd := atX b (cl 65536000 (sub b.ax (mul w.x m))) (cl 65536000 (sub b.ay (mul w.y m))) (cl 65536000 (sub b.az (mul w.z m)))
def forthX (b : Bd) (w : V3) (m : Int) : Bd := atX b (cl 65536000 (add b.ax (mul w.x m))) (cl 65536000 (add b.ay (mul w.y m))) (cl 65536000 (add b.az (mul w.z m)))
def deepX (deep all : Int) : Int := div ((sub deep 655).tdiv 5) all
/-- Two taken apart. -/
def partX (B : Nat → Bd) (i k : Nat) (x y all : Int) (w : V3) (deep : Int) : Nat → Bd :=
  let B1 := upd B i (backX (B i) w (mul (deepX deep all) x))
  upd B1 k (forthX (B1 k) w (mul (deepX deep all) y))
def stepX (n : Nat) (B : Nat → Bd) (t : Tc) : Nat → Bd :=
  match findX B t.a n, findX B t.b n with
  | some i, some k => if i = k ∨ t.deep ≤ 655 then B else
      if 0 < add (lightX (B i).ms) (lightX (B k).ms) then partX B i k (lightX (B i).ms) (lightX (B k).ms) (add (lightX (B i).ms) (lightX (B k).ms)) t.way t.deep else B
  | _, _ => B
def placesX (n : Nat) (B : Nat → Bd) (T : Nat → Tc) : Nat → Nat → Bd
  | 0 => B
  | m + 1 => stepX n (placesX n B T m) (T m)
theorem partX_id (B : Nat → Bd) (i k : Nat) (x y all : Int) (w : V3) (deep : Int) (j : Nat) : (partX B i k x y all w deep j).id = (B j).id ∧ (partX B i k x y all w deep j).ms = (B j).ms := by
  simp only [partX, upd, backX, forthX, atX]
  by_cases h1 : j = k
  · subst h1
    by_cases h2 : j = i
    · subst h2; simp
    · simp [h2]
  · by_cases h2 : j = i
    · subst h2; simp [h1]
    · simp [h1, h2]
theorem stepX_cases (n : Nat) (B : Nat → Bd) (t : Tc) : stepX n B t = B ∨ ∃ i k x y all, stepX n B t = partX B i k x y all t.way t.deep := by
  unfold stepX
  cases findX B t.a n with
  | none => exact Or.inl rfl
  | some i =>
    cases findX B t.b n with
    | none => exact Or.inl rfl
    | some k =>
      simp only
      by_cases h : i = k ∨ t.deep ≤ 655
      · rw [if_pos h]; exact Or.inl rfl
      · rw [if_neg h]
        by_cases h2 : 0 < add (lightX (B i).ms) (lightX (B k).ms)
        · rw [if_pos h2]; exact Or.inr ⟨_, _, _, _, _, rfl⟩
        · rw [if_neg h2]; exact Or.inl rfl
theorem stepX_id (n : Nat) (B : Nat → Bd) (t : Tc) (j : Nat) : (stepX n B t j).id = (B j).id ∧ (stepX n B t j).ms = (B j).ms := by
  rcases stepX_cases n B t with h | ⟨i, k, x, y, all, h⟩
  · rw [h]; exact ⟨rfl, rfl⟩
  · rw [h]; exact partX_id ..
theorem placesX_id (n : Nat) (B : Nat → Bd) (T : Nat → Tc) : ∀ m j, (placesX n B T m j).id = (B j).id ∧ (placesX n B T m j).ms = (B j).ms
  | 0, j => ⟨rfl, rfl⟩
  | m + 1, j => by
    have h1 := stepX_id n (placesX n B T m) (T m) j
    have h2 := placesX_id n B T m j
    exact ⟨h1.1.trans h2.1, h1.2.trans h2.2⟩

end Go.Proofs.Ytdbjbjgnkkhgcaa
/- A slice of bodies in memory of its own; solve.fresh: whatever the bodies. -/
namespace Go.Proofs.Ytdbjbjgnkkhgcaa
open Go.ChangeShapes Go.WideShapes Go.ChangeAt Go.RowKit
set_option linter.unusedVariables false
set_option linter.unusedSimpArgs false

def bdL (b : Bd) : List Value := [.int .i64 (b.id), .int .i64 (b.ow), .int .i64 (b.kd), .int .i64 (b.sx), .int .i64 (b.sy), .int .i64 (b.sz), .int .i64 (b.ax), .int .i64 (b.ay), .int .i64 (b.az), .int .i64 (b.vx), .int .i64 (b.vy), .int .i64 (b.vz), .int .i64 (b.px), .int .i64 (b.py), .int .i64 (b.pz), .int .i64 (b.ms), .int .i64 (b.tm)]
theorem bdL_len (b : Bd) : (bdL b).length = 17 := rfl
theorem bdL_at (b : Bd) (k : Nat) (hk : k < 17) : (bdL b)[k]? = some (bc b k) := by
  match k, hk with
  | 0, _ => exact rfl
  | 1, _ => exact rfl
  | 2, _ => exact rfl
  | 3, _ => exact rfl
  | 4, _ => exact rfl
  | 5, _ => exact rfl
  | 6, _ => exact rfl
  | 7, _ => exact rfl
  | 8, _ => exact rfl
  | 9, _ => exact rfl
  | 10, _ => exact rfl
  | 11, _ => exact rfl
  | 12, _ => exact rfl
  | 13, _ => exact rfl
  | 14, _ => exact rfl
  | 15, _ => exact rfl
  | 16, _ => exact rfl
  | k + 17, h => exact absurd h (by omega)
/-- The cells of the first n. -/
def rowsL (B : Nat → Bd) : Nat → List Value
  | 0 => []
  | n + 1 => rowsL B n ++ bdL (B n)
theorem rowsL_len (B : Nat → Bd) : ∀ n, (rowsL B n).length = n * 17
  | 0 => rfl
  | n + 1 => by simp only [rowsL, List.length_append, rowsL_len B n, bdL_len]; omega
theorem rowsL_at (B : Nat → Bd) : ∀ n j k, j < n → k < 17 → (rowsL B n)[j * 17 + k]? = some (bc (B j) k)
  | 0, j, k, hj, _ => by omega
  | n + 1, j, k, hj, hk => by
    simp only [rowsL]
    by_cases e : j = n
    · subst e
      rw [List.getElem?_append_right (by rw [rowsL_len]; omega), rowsL_len]
      rw [show j * 17 + k - j * 17 = k by omega]
      exact bdL_at _ k hk
    · rw [List.getElem?_append_left (by rw [rowsL_len]; omega)]
      exact rowsL_at B n j k (by omega) hk
theorem rowsL_cells {w : World} {g o n : Nat} {B : Nat → Bd} (h : BodiesAt w (some ⟨g, o, none⟩) n B) : ∀ j u, (rowsL B n)[j]? = some u → w.cell? ((⟨g, o, none⟩ : Addr).add j) = some u := by
  intro j u hu
  have hj : j < n * 17 := by
    have := (List.getElem?_eq_some_iff.1 hu).1
    rwa [rowsL_len] at this
  have h1 : j / 17 < n := by omega
  have h2 : j % 17 < 17 := by omega
  have h3 : j = j / 17 * 17 + j % 17 := by omega
  rw [h3, rowsL_at B n _ _ h1 h2] at hu
  obtain ⟨g', o', e, hc⟩ := h _ h1
  injection e with e; injection e with e1 e2
  subst e1; subst e2
  have h4 := hc _ h2
  injection hu with hu
  rw [hu] at h4
  rw [add_plain, h3, ← Nat.add_assoc]
  exact h4
theorem rowsL_all {w : World} {ad : Addr} {n : Nat} {B : Nat → Bd} (h : BodiesAt w (some ad) n B) : ∀ j u, (rowsL B n)[j]? = some u → w.cell? (ad.add j) = some u := by
  by_cases h0 : n = 0
  · subst h0; intro j u hu; simp [rowsL] at hu
  · obtain ⟨g, o, e, _⟩ := h 0 (by omega)
    injection e with e
    subst e
    exact rowsL_cells h
theorem rowsL_one (B : Nat → Bd) : ∀ n, ∀ u ∈ rowsL B n, u.oneCell' = true
  | 0, u, h => by simp [rowsL] at h
  | n + 1, u, h => by
    simp only [rowsL, List.mem_append] at h
    rcases h with h | h
    · exact rowsL_one B n u h
    · simp only [bdL, List.mem_cons, List.not_mem_nil, or_false] at h
      rcases h with rfl | rfl | rfl | rfl | rfl | rfl | rfl | rfl | rfl | rfl | rfl | rfl | rfl | rfl | rfl | rfl | rfl <;> rfl
/-- A slice of n bodies at the head of block g, that may be written into. -/
def OwnB (w : World) (g n : Nat) (B : Nat → Bd) : Prop := ∃ cur : Array Value, w.heap[g]? = some (.cells cur 31 (0, 0)) ∧ ∀ j, j < n → ∀ k, k < 17 → cur[j * 17 + k]? = some (bc (B j) k)
def OwnS (w : World) (a : Option Addr) (g n : Nat) (B : Nat → Bd) : Prop := n = 0 ∨ (a = some ⟨g, 0, none⟩ ∧ OwnB w g n B)
theorem OwnB.cell {w : World} {g n : Nat} {B : Nat → Bd} (h : OwnB w g n B) {j k : Nat} (hj : j < n) (hk : k < 17) : w.cell? ⟨g, j * 17 + k, none⟩ = some (bc (B j) k) := by
  obtain ⟨cur, hb, hc⟩ := h
  simp [World.cell?, hb, hc j hj k hk]
theorem OwnB.free {w : World} {g n : Nat} {B : Nat → Bd} (h : OwnB w g n B) (i : Nat) : w.frozen? ⟨g, i, none⟩ = false := by
  obtain ⟨cur, hb, hc⟩ := h
  simp [World.frozen?, hb]
theorem OwnB.only {D : List Nat} {w w' : World} {g n : Nat} {B : Nat → Bd} (h : OwnB w g n B) (o : Only D w w') (s : g ∉ D) : OwnB w' g n B := by
  obtain ⟨cur, hb, hc⟩ := h
  exact ⟨cur, (o.block g (Array.getElem?_eq_some_iff.1 hb).1 s).trans hb, hc⟩
theorem OwnB.lt {w : World} {g n : Nat} {B : Nat → Bd} (h : OwnB w g n B) : g < w.heap.size := by
  obtain ⟨cur, hb, hc⟩ := h
  exact (Array.getElem?_eq_some_iff.1 hb).1
theorem OwnS.only {D : List Nat} {w w' : World} {a : Option Addr} {g n : Nat} {B : Nat → Bd} (h : OwnS w a g n B) (o : Only D w w') (s : g ∉ D) : OwnS w' a g n B := h.imp id (fun q => ⟨q.1, q.2.only o s⟩)
theorem OwnS.bodies {w : World} {a : Option Addr} {g n : Nat} {B : Nat → Bd} (h : OwnS w a g n B) : BodiesAt w a n B := by
  intro j hj
  rcases h with h | ⟨rfl, h⟩
  · omega
  · exact ⟨g, 0, rfl, fun k hk => by rw [Nat.zero_add]; exact h.cell hj hk⟩
theorem OwnS.of_row {w : World} {v : Value} {base n : Nat} {B : Nat → Bd} (h : w.ownsRow base 31 17 v n (rowsL B n)) : ∃ a g c, v = .slice a n c ∧ OwnS w a g n B ∧ (n ≠ 0 → base ≤ g) := by
  obtain ⟨hl, ⟨rfl, rfl⟩ | ⟨g, cap, cur, rfl, hb, hh, h1, h2, h3, h4⟩⟩ := h
  · exact ⟨none, 0, 0, rfl, Or.inl rfl, fun h => absurd rfl h⟩
  · refine ⟨_, g, cap, rfl, Or.inr ⟨rfl, cur, hh, fun j hj k hk => ?_⟩, fun _ => hb⟩
    have := rowsL_at B n j k hj hk
    rw [← h4, List.getElem?_take_of_lt (by omega), Array.getElem?_toList] at this
    exact this
theorem OwnS.of_rowN {w : World} {v : Value} {base n : Nat} {B : Nat → Bd} (h : w.ownsRow base 31 17 v n (rowsL B n)) : ∃ a g c, v = .slice a n c ∧ OwnS w a g n B ∧ (n ≠ 0 → base ≤ g) ∧ (a = none → n = 0 ∧ c = 0) := by
  have h0 := h
  obtain ⟨hl, ⟨rfl, rfl⟩ | ⟨g, cap, cur, rfl, hb, hh, h1, h2, h3, h4⟩⟩ := h
  · exact ⟨none, 0, 0, rfl, Or.inl rfl, fun h => absurd rfl h, fun _ => ⟨rfl, rfl⟩⟩
  · obtain ⟨a, g', c, e, hS, hg⟩ := OwnS.of_row h0
    injection e with e1 e2 e3
    subst e1 e3
    exact ⟨_, g', _, rfl, hS, hg, fun e => by cases e⟩
/-- How many cells a block of bodies has. -/
def SizeAt (w : World) (g s : Nat) : Prop := ∃ cur : Array Value, w.heap[g]? = some (.cells cur 31 (0, 0)) ∧ cur.size = s
theorem SizeAt.only {D : List Nat} {w w' : World} {g s : Nat} (h : SizeAt w g s) (o : Only D w w') (hg : g ∉ D) : SizeAt w' g s := by
  obtain ⟨cur, hh, hs⟩ := h
  exact ⟨cur, (o.block g (Array.getElem?_eq_some_iff.1 hh).1 hg).trans hh, hs⟩
theorem SizeAt.put {w : World} {g s : Nat} (h : SizeAt w g s) (b i : Nat) (v : Value) : SizeAt (w.setCell ⟨b, i, none⟩ v) g s := by
  obtain ⟨cur, hh, hs⟩ := h
  by_cases e : g = b
  · subst e
    exact ⟨_, heap_put hh i v, by simpa using hs⟩
  · exact ⟨cur, (Below.heap_setCell _ _ _ _ e).trans hh, hs⟩
/-- A slice of bodies has a block of its own, of its capacity. -/
def Room (w : World) (a : Option Addr) (n c : Nat) : Prop := (a = none ∧ n = 0 ∧ c = 0) ∨ ∃ g, a = some ⟨g, 0, none⟩ ∧ n ≤ c ∧ c ≤ maxLen ∧ SizeAt w g (c * 17)
theorem Room.of_row {w : World} {a : Option Addr} {base n c : Nat} {xs : List Value} (h : w.ownsRow base 31 17 (.slice a n c) n xs) : Room w a n c := by
  obtain ⟨hl, ⟨e, hn⟩ | ⟨g, cp, cur, e, hb, hh, h1, h2, h3, h4⟩⟩ := h
  · injection e with e1 e2 e3
    exact Or.inl ⟨e1, e2, e3⟩
  · injection e with e1 e2 e3
    subst e3
    exact Or.inr ⟨g, e1, h1, h2, cur, hh, h3⟩
theorem Room.only {D : List Nat} {w w' : World} {a : Option Addr} {n c : Nat} (h : Room w a n c) (o : Only D w w') (s : ∀ g o s, a = some ⟨g, o, s⟩ → g ∉ D) : Room w' a n c := by
  rcases h with h | ⟨g, e, h1, h2, h3⟩
  · exact Or.inl h
  · exact Or.inr ⟨g, e, h1, h2, h3.only o (s g 0 none e)⟩
theorem Room.put {w : World} {a : Option Addr} {n c : Nat} (h : Room w a n c) (b i : Nat) (v : Value) : Room (w.setCell ⟨b, i, none⟩ v) a n c := by
  rcases h with h | ⟨g, e, h1, h2, h3⟩
  · exact Or.inl h
  · exact Or.inr ⟨g, e, h1, h2, h3.put b i v⟩
theorem Room.turn {w w' : World} {a : Option Addr} {g n c : Nat} (h : Room w a n c) (ha : a = some ⟨g, 0, none⟩) (hz : ∀ s, SizeAt w g s → SizeAt w' g s) : Room w' a n c := by
  rcases h with ⟨h, _⟩ | ⟨g', e, h1, h2, h3⟩
  · rw [ha] at h; cases h
  · rw [ha] at e; injection e with e; injection e with e
    subst e
    exact Or.inr ⟨g, ha, h1, h2, hz _ h3⟩
def FreshPost (n : Nat) (B : Nat → Bd) (w : World) (e : Ending) (w' : World) : Prop :=
  ∃ a g c, e = .returned (.slice a n c) ∧ OwnS w' a g n B ∧ Only [] w w' ∧ w.heap.size ≤ g ∧ (a = none → n = 0 ∧ c = 0)
/-- A slice's block, if it has one. -/
def Tied (a : Option Addr) (g : Nat) : Prop := ∀ g' o s, a = some ⟨g', o, s⟩ → g' = g
/-- Likewise, and there is room. -/
def FreshR (n : Nat) (B : Nat → Bd) (w : World) (e : Ending) (w' : World) : Prop :=
  ∃ a g c, e = .returned (.slice a n c) ∧ OwnS w' a g n B ∧ Only [] w w' ∧ w.heap.size ≤ g ∧ (a = none → n = 0 ∧ c = 0) ∧ Room w' a n c ∧ Tied a g
theorem bodyInfo : (Try.prog.info? 31).map (fun i => (i.zero, i.size, i.bytes)) = some (some (.agg #[.int .i64 0, .int .i64 0, .int .i64 0, .int .i64 0, .int .i64 0, .int .i64 0, .int .i64 0, .int .i64 0, .int .i64 0, .int .i64 0, .int .i64 0, .int .i64 0, .int .i64 0, .int .i64 0, .int .i64 0, .int .i64 0, .int .i64 0]), 17, 136) := by kernel_rfl
theorem info_parts' {P : Program} {t : TypeId} {z : Value} {n b : Nat} (h : (P.info? t).map (fun i => (i.zero, i.size, i.bytes)) = some (some z, n, b)) : ∃ i, P.info? t = some i ∧ i.zero = some z ∧ i.size = n ∧ i.bytes = b := by
  cases hi : P.info? t with
  | none => rw [hi] at h; cases h
  | some i =>
    rw [hi] at h
    simp only [Option.map_some, Option.some.injEq, Prod.mk.injEq] at h
    exact ⟨i, rfl, h.1, h.2.1, h.2.2⟩
end Go.Proofs.Ytdbjbjgnkkhgcaa
/- A body in a block of its own. -/
namespace Go.Proofs.Ytdbjbjgnkkhgcaa
open Go.ChangeShapes Go.WideShapes Go.ChangeAt Go.RowKit
set_option linter.unusedVariables false
set_option linter.unusedSimpArgs false

theorem bodySize : (Try.prog.info? 31).map (·.size) = some 17 := by kernel_rfl
theorem there17 {w : World} {kr : Nat} {cur : Array Value} (h : w.heap[kr]? = some (.cells cur 31)) (hs : cur.size = 17) : w.there kr 0 17 := fun j hj => by
  have h1 : j < cur.size := by omega
  simp [World.cell?, World.frozen?, h, h1]
theorem one17 (q : Bd) : (bdL q).toArray.all (·.oneCell') = true := all_oneCell_toArray (fun v hv => by
  simp only [bdL, List.mem_cons, List.not_mem_nil, or_false] at hv
  rcases hv with rfl | rfl | rfl | rfl | rfl | rfl | rfl | rfl | rfl | rfl | rfl | rfl | rfl | rfl | rfl | rfl | rfl <;> rfl)
theorem storeBody {w : World} {kr : Nat} {cur : Array Value} (h : w.heap[kr]? = some (.cells cur 31)) (hs : cur.size = 17) (q : Bd) :
    (Instr.storeAt 31 (.pointer (some ⟨kr, 0, none⟩)) (.agg (bdL q).toArray)).run Try.prog w = .ok () (w.setCells kr 0 (bdL q)) := by
  have := run_storeAt_mid (P := Try.prog) w kr 0 31 (bdL q).toArray (there17 h hs) bodySize (one17 q)
  simpa using this
theorem range17 {w : World} {g o : Nat} {q : Bd} (h : ∀ k, k < 17 → w.cell? ⟨g, o + k, none⟩ = some (bc q k)) : w.rangeAt g o (bdL q) := fun j v hv => by
  have hj : j < 17 := by have := (List.getElem?_eq_some_iff.1 hv).1; rw [bdL_len] at this; exact this
  rw [bdL_at q j hj] at hv
  injection hv with hv
  rw [← hv]; exact h j hj
theorem loadBody {w : World} {g o : Nat} {q : Bd} (h : ∀ k, k < 17 → w.cell? ⟨g, o + k, none⟩ = some (bc q k)) : (Instr.loadAt 31 (.pointer (some ⟨g, o, none⟩))).run Try.prog w = .ok (.agg (bdL q).toArray) w :=
  run_loadAt_mid (P := Try.prog) w g o 31 (bdL q) _ (range17 h) Try.underlying31 rfl bodySize
theorem Only.setCells {D : List Nat} {a w : World} (h : Only D a w) (b : Nat) (hb : b ∈ D ∨ a.heap.size ≤ b) (vs : List Value) : ∀ (o : Nat), Only D a (w.setCells b o vs) := by
  induction vs generalizing w with
  | nil => intro o; exact h
  | cons v vs ih => intro o; exact ih (h.setCell (p := ⟨b, o, none⟩) hb v) (o + 1)
def BodyAt (w : World) (kb : Nat) (q : Bd) : Prop := w.heap[kb]? = some (.cells #[.int .i64 (q.id), .int .i64 (q.ow), .int .i64 (q.kd), .int .i64 (q.sx), .int .i64 (q.sy), .int .i64 (q.sz), .int .i64 (q.ax), .int .i64 (q.ay), .int .i64 (q.az), .int .i64 (q.vx), .int .i64 (q.vy), .int .i64 (q.vz), .int .i64 (q.px), .int .i64 (q.py), .int .i64 (q.pz), .int .i64 (q.ms), .int .i64 (q.tm)] 31)
theorem BodyAt.only {w w' : World} {kb : Nat} {q : Bd} (h : BodyAt w kb q) (o : Only [] w w') : BodyAt w' kb q := (o.block kb (Array.getElem?_eq_some_iff.1 h).1 (by simp)).trans h
theorem BodyAt.off {w : World} {kb : Nat} {q : Bd} (h : BodyAt w kb q) (j : Nat) : w.cell? ⟨kb, j, none⟩ = (#[.int .i64 (q.id), .int .i64 (q.ow), .int .i64 (q.kd), .int .i64 (q.sx), .int .i64 (q.sy), .int .i64 (q.sz), .int .i64 (q.ax), .int .i64 (q.ay), .int .i64 (q.az), .int .i64 (q.vx), .int .i64 (q.vy), .int .i64 (q.vz), .int .i64 (q.px), .int .i64 (q.py), .int .i64 (q.pz), .int .i64 (q.ms), .int .i64 (q.tm)] : Array Value)[j]? := by
  unfold BodyAt at h; simp [World.cell?, h]
theorem BodyAt.range {w : World} {kb : Nat} {q : Bd} (h : BodyAt w kb q) : ∀ k, k < 17 → w.cell? ⟨kb, 0 + k, none⟩ = some (bc q k) := fun k hk => by
  have h1 := h.off k
  rw [Nat.zero_add, h1]
  match k, hk with
  | 0, _ => rfl
  | 1, _ => rfl
  | 2, _ => rfl
  | 3, _ => rfl
  | 4, _ => rfl
  | 5, _ => rfl
  | 6, _ => rfl
  | 7, _ => rfl
  | 8, _ => rfl
  | 9, _ => rfl
  | 10, _ => rfl
  | 11, _ => rfl
  | 12, _ => rfl
  | 13, _ => rfl
  | 14, _ => rfl
  | 15, _ => rfl
  | 16, _ => rfl
  | k + 17, h => exact absurd h (by omega)
end Go.Proofs.Ytdbjbjgnkkhgcaa
