/- A slice of bodies in memory of its own; solve.fresh: whatever the bodies. -/
import Derived.Test.YtpegjobehdihbaaSv2
import Derived.Maps.OwnSet
import Derived.Maps.AppendAt
namespace Go.Proofs.Ytpegjobehdihbaa
open Go.ChangeShapes Go.WideShapes Go.ChangeAt Go.RowKit
set_option linter.unusedVariables false
set_option linter.unusedSimpArgs false

def bdL (b : Bd) : List Value := [.int .i64 (b.id), .int .i64 (b.ow), .int .i64 (b.kd), .int .i64 (b.sx), .int .i64 (b.sy), .int .i64 (b.sz), .int .i64 (b.ax), .int .i64 (b.ay), .int .i64 (b.az), .int .i64 (b.vx), .int .i64 (b.vy), .int .i64 (b.vz), .int .i64 (b.px), .int .i64 (b.py), .int .i64 (b.pz), .int .i64 (b.ms), .int .i64 (b.tm)]
theorem bdL_len (b : Bd) : (bdL b).length = 17 := rfl
theorem bdL_at (b : Bd) (k : Nat) (hk : k < 17) : (bdL b)[k]? = some (bc b k) := by
  match k, hk with
  | 0, _ => exact rfl
  | 1, _ => exact rfl
  | 2, _ => exact rfl
  | 3, _ => exact rfl
  | 4, _ => exact rfl
  | 5, _ => exact rfl
  | 6, _ => exact rfl
  | 7, _ => exact rfl
  | 8, _ => exact rfl
  | 9, _ => exact rfl
  | 10, _ => exact rfl
  | 11, _ => exact rfl
  | 12, _ => exact rfl
  | 13, _ => exact rfl
  | 14, _ => exact rfl
  | 15, _ => exact rfl
  | 16, _ => exact rfl
  | k + 17, h => exact absurd h (by omega)
/-- The cells of the first n. -/
def rowsL (B : Nat → Bd) : Nat → List Value
  | 0 => []
  | n + 1 => rowsL B n ++ bdL (B n)
theorem rowsL_len (B : Nat → Bd) : ∀ n, (rowsL B n).length = n * 17
  | 0 => rfl
  | n + 1 => by simp only [rowsL, List.length_append, rowsL_len B n, bdL_len]; omega
theorem rowsL_at (B : Nat → Bd) : ∀ n j k, j < n → k < 17 → (rowsL B n)[j * 17 + k]? = some (bc (B j) k)
  | 0, j, k, hj, _ => by omega
  | n + 1, j, k, hj, hk => by
    simp only [rowsL]
    by_cases e : j = n
    · subst e
      rw [List.getElem?_append_right (by rw [rowsL_len]; omega), rowsL_len]
      rw [show j * 17 + k - j * 17 = k by omega]
      exact bdL_at _ k hk
    · rw [List.getElem?_append_left (by rw [rowsL_len]; omega)]
      exact rowsL_at B n j k (by omega) hk
theorem rowsL_cells {w : World} {g o n : Nat} {B : Nat → Bd} (h : BodiesAt w (some ⟨g, o, none⟩) n B) : ∀ j u, (rowsL B n)[j]? = some u → w.cell? ((⟨g, o, none⟩ : Addr).add j) = some u := by
  intro j u hu
  have hj : j < n * 17 := by
    have := (List.getElem?_eq_some_iff.1 hu).1
    rwa [rowsL_len] at this
  have h1 : j / 17 < n := by omega
  have h2 : j % 17 < 17 := by omega
  have h3 : j = j / 17 * 17 + j % 17 := by omega
  rw [h3, rowsL_at B n _ _ h1 h2] at hu
  obtain ⟨g', o', e, hc⟩ := h _ h1
  injection e with e; injection e with e1 e2
  subst e1; subst e2
  have h4 := hc _ h2
  injection hu with hu
  rw [hu] at h4
  rw [add_plain, h3, ← Nat.add_assoc]
  exact h4
theorem rowsL_all {w : World} {ad : Addr} {n : Nat} {B : Nat → Bd} (h : BodiesAt w (some ad) n B) : ∀ j u, (rowsL B n)[j]? = some u → w.cell? (ad.add j) = some u := by
  by_cases h0 : n = 0
  · subst h0; intro j u hu; simp [rowsL] at hu
  · obtain ⟨g, o, e, _⟩ := h 0 (by omega)
    injection e with e
    subst e
    exact rowsL_cells h
theorem rowsL_one (B : Nat → Bd) : ∀ n, ∀ u ∈ rowsL B n, u.oneCell' = true
  | 0, u, h => by simp [rowsL] at h
  | n + 1, u, h => by
    simp only [rowsL, List.mem_append] at h
    rcases h with h | h
    · exact rowsL_one B n u h
    · simp only [bdL, List.mem_cons, List.not_mem_nil, or_false] at h
      rcases h with rfl | rfl | rfl | rfl | rfl | rfl | rfl | rfl | rfl | rfl | rfl | rfl | rfl | rfl | rfl | rfl | rfl <;> rfl
/-- A slice of n bodies at the head of block g, that may be written into. -/
def OwnB (w : World) (g n : Nat) (B : Nat → Bd) : Prop := ∃ cur : Array Value, w.heap[g]? = some (.cells cur 30 (0, 0)) ∧ ∀ j, j < n → ∀ k, k < 17 → cur[j * 17 + k]? = some (bc (B j) k)
def OwnS (w : World) (a : Option Addr) (g n : Nat) (B : Nat → Bd) : Prop := n = 0 ∨ (a = some ⟨g, 0, none⟩ ∧ OwnB w g n B)
theorem OwnB.cell {w : World} {g n : Nat} {B : Nat → Bd} (h : OwnB w g n B) {j k : Nat} (hj : j < n) (hk : k < 17) : w.cell? ⟨g, j * 17 + k, none⟩ = some (bc (B j) k) := by
  obtain ⟨cur, hb, hc⟩ := h
  simp [World.cell?, hb, hc j hj k hk]
theorem OwnB.free {w : World} {g n : Nat} {B : Nat → Bd} (h : OwnB w g n B) (i : Nat) : w.frozen? ⟨g, i, none⟩ = false := by
  obtain ⟨cur, hb, hc⟩ := h
  simp [World.frozen?, hb]
theorem OwnB.only {D : List Nat} {w w' : World} {g n : Nat} {B : Nat → Bd} (h : OwnB w g n B) (o : Only D w w') (s : g ∉ D) : OwnB w' g n B := by
  obtain ⟨cur, hb, hc⟩ := h
  exact ⟨cur, (o.block g (Array.getElem?_eq_some_iff.1 hb).1 s).trans hb, hc⟩
theorem OwnB.lt {w : World} {g n : Nat} {B : Nat → Bd} (h : OwnB w g n B) : g < w.heap.size := by
  obtain ⟨cur, hb, hc⟩ := h
  exact (Array.getElem?_eq_some_iff.1 hb).1
theorem OwnS.only {D : List Nat} {w w' : World} {a : Option Addr} {g n : Nat} {B : Nat → Bd} (h : OwnS w a g n B) (o : Only D w w') (s : g ∉ D) : OwnS w' a g n B := h.imp id (fun q => ⟨q.1, q.2.only o s⟩)
theorem OwnS.bodies {w : World} {a : Option Addr} {g n : Nat} {B : Nat → Bd} (h : OwnS w a g n B) : BodiesAt w a n B := by
  intro j hj
  rcases h with h | ⟨rfl, h⟩
  · omega
  · exact ⟨g, 0, rfl, fun k hk => by rw [Nat.zero_add]; exact h.cell hj hk⟩
theorem OwnS.of_row {w : World} {v : Value} {base n : Nat} {B : Nat → Bd} (h : w.ownsRow base 30 17 v n (rowsL B n)) : ∃ a g c, v = .slice a n c ∧ OwnS w a g n B ∧ (n ≠ 0 → base ≤ g) := by
  obtain ⟨hl, ⟨rfl, rfl⟩ | ⟨g, cap, cur, rfl, hb, hh, h1, h2, h3, h4⟩⟩ := h
  · exact ⟨none, 0, 0, rfl, Or.inl rfl, fun h => absurd rfl h⟩
  · refine ⟨_, g, cap, rfl, Or.inr ⟨rfl, cur, hh, fun j hj k hk => ?_⟩, fun _ => hb⟩
    have := rowsL_at B n j k hj hk
    rw [← h4, List.getElem?_take_of_lt (by omega), Array.getElem?_toList] at this
    exact this
theorem OwnS.of_rowN {w : World} {v : Value} {base n : Nat} {B : Nat → Bd} (h : w.ownsRow base 30 17 v n (rowsL B n)) : ∃ a g c, v = .slice a n c ∧ OwnS w a g n B ∧ (n ≠ 0 → base ≤ g) ∧ (a = none → n = 0 ∧ c = 0) := by
  have h0 := h
  obtain ⟨hl, ⟨rfl, rfl⟩ | ⟨g, cap, cur, rfl, hb, hh, h1, h2, h3, h4⟩⟩ := h
  · exact ⟨none, 0, 0, rfl, Or.inl rfl, fun h => absurd rfl h, fun _ => ⟨rfl, rfl⟩⟩
  · obtain ⟨a, g', c, e, hS, hg⟩ := OwnS.of_row h0
    injection e with e1 e2 e3
    subst e1 e3
    exact ⟨_, g', _, rfl, hS, hg, fun e => by cases e⟩
/-- How many cells a block of bodies has. -/
def SizeAt (w : World) (g s : Nat) : Prop := ∃ cur : Array Value, w.heap[g]? = some (.cells cur 30 (0, 0)) ∧ cur.size = s
theorem SizeAt.only {D : List Nat} {w w' : World} {g s : Nat} (h : SizeAt w g s) (o : Only D w w') (hg : g ∉ D) : SizeAt w' g s := by
  obtain ⟨cur, hh, hs⟩ := h
  exact ⟨cur, (o.block g (Array.getElem?_eq_some_iff.1 hh).1 hg).trans hh, hs⟩
theorem SizeAt.put {w : World} {g s : Nat} (h : SizeAt w g s) (b i : Nat) (v : Value) : SizeAt (w.setCell ⟨b, i, none⟩ v) g s := by
  obtain ⟨cur, hh, hs⟩ := h
  by_cases e : g = b
  · subst e
    exact ⟨_, heap_put hh i v, by simpa using hs⟩
  · exact ⟨cur, (Below.heap_setCell _ _ _ _ e).trans hh, hs⟩
/-- A slice of bodies has a block of its own, of its capacity. -/
def Room (w : World) (a : Option Addr) (n c : Nat) : Prop := (a = none ∧ n = 0 ∧ c = 0) ∨ ∃ g, a = some ⟨g, 0, none⟩ ∧ n ≤ c ∧ c ≤ maxLen ∧ SizeAt w g (c * 17)
theorem Room.of_row {w : World} {a : Option Addr} {base n c : Nat} {xs : List Value} (h : w.ownsRow base 30 17 (.slice a n c) n xs) : Room w a n c := by
  obtain ⟨hl, ⟨e, hn⟩ | ⟨g, cp, cur, e, hb, hh, h1, h2, h3, h4⟩⟩ := h
  · injection e with e1 e2 e3
    exact Or.inl ⟨e1, e2, e3⟩
  · injection e with e1 e2 e3
    subst e3
    exact Or.inr ⟨g, e1, h1, h2, cur, hh, h3⟩
theorem Room.only {D : List Nat} {w w' : World} {a : Option Addr} {n c : Nat} (h : Room w a n c) (o : Only D w w') (s : ∀ g o s, a = some ⟨g, o, s⟩ → g ∉ D) : Room w' a n c := by
  rcases h with h | ⟨g, e, h1, h2, h3⟩
  · exact Or.inl h
  · exact Or.inr ⟨g, e, h1, h2, h3.only o (s g 0 none e)⟩
theorem Room.put {w : World} {a : Option Addr} {n c : Nat} (h : Room w a n c) (b i : Nat) (v : Value) : Room (w.setCell ⟨b, i, none⟩ v) a n c := by
  rcases h with h | ⟨g, e, h1, h2, h3⟩
  · exact Or.inl h
  · exact Or.inr ⟨g, e, h1, h2, h3.put b i v⟩
theorem Room.turn {w w' : World} {a : Option Addr} {g n c : Nat} (h : Room w a n c) (ha : a = some ⟨g, 0, none⟩) (hz : ∀ s, SizeAt w g s → SizeAt w' g s) : Room w' a n c := by
  rcases h with ⟨h, _⟩ | ⟨g', e, h1, h2, h3⟩
  · rw [ha] at h; cases h
  · rw [ha] at e; injection e with e; injection e with e
    subst e
    exact Or.inr ⟨g, ha, h1, h2, hz _ h3⟩
def FreshPost (n : Nat) (B : Nat → Bd) (w : World) (e : Ending) (w' : World) : Prop :=
  ∃ a g c, e = .returned (.slice a n c) ∧ OwnS w' a g n B ∧ Only [] w w' ∧ w.heap.size ≤ g ∧ (a = none → n = 0 ∧ c = 0)
/-- A slice's block, if it has one. -/
def Tied (a : Option Addr) (g : Nat) : Prop := ∀ g' o s, a = some ⟨g', o, s⟩ → g' = g
/-- Likewise, and there is room. -/
def FreshR (n : Nat) (B : Nat → Bd) (w : World) (e : Ending) (w' : World) : Prop :=
  ∃ a g c, e = .returned (.slice a n c) ∧ OwnS w' a g n B ∧ Only [] w w' ∧ w.heap.size ≤ g ∧ (a = none → n = 0 ∧ c = 0) ∧ Room w' a n c ∧ Tied a g
theorem bodyInfo : (Try.prog.info? 30).map (fun i => (i.zero, i.size, i.bytes)) = some (some (.agg #[.int .i64 0, .int .i64 0, .int .i64 0, .int .i64 0, .int .i64 0, .int .i64 0, .int .i64 0, .int .i64 0, .int .i64 0, .int .i64 0, .int .i64 0, .int .i64 0, .int .i64 0, .int .i64 0, .int .i64 0, .int .i64 0, .int .i64 0]), 17, 136) := by kernel_rfl
theorem info_parts' {P : Program} {t : TypeId} {z : Value} {n b : Nat} (h : (P.info? t).map (fun i => (i.zero, i.size, i.bytes)) = some (some z, n, b)) : ∃ i, P.info? t = some i ∧ i.zero = some z ∧ i.size = n ∧ i.bytes = b := by
  cases hi : P.info? t with
  | none => rw [hi] at h; cases h
  | some i =>
    rw [hi] at h
    simp only [Option.map_some, Option.some.injEq, Prod.mk.injEq] at h
    exact ⟨i, rfl, h.1, h.2.1, h.2.2⟩
set_option maxRecDepth 100000 in
theorem freshR_calls (a : Option Addr) (n c : Nat) (B : Nat → Bd) (w : World) (hn : n ≤ 1000) (h : BodiesAt w a n B) (hc : a = none → n = 0 ∧ c = 0) :
    Calls Try.prog 11 #[.slice a n c] w (FreshR n B w) := by
  obtain ⟨i2, hi0, hz0, hz1, hz2⟩ := info_parts' bodyInfo
  cases a with
  | none =>
    obtain ⟨rfl, rfl⟩ := hc rfl
    go_enter Try.func11, Try.ntmps11
    go_wp2_with fail
    go_ret
    exact ⟨none, w.heap.size, 0, rfl, Or.inl rfl, Only.refl _ _, Nat.le_refl _, fun _ => ⟨rfl, rfl⟩, Or.inl ⟨rfl, rfl, rfl⟩, fun _ _ _ e => by cases e⟩
  | some ad =>
    have hcell := rowsL_all h
    have HB : Hid (n ≤ 1000) := hn
    clear h hc
    go_enter Try.func11, Try.ntmps11
    go_wp2_with (first | (at_builtin; refine wpList_append_own_at _ rfl _ _ 22 rfl w.heap.size 30 i2 (.agg #[.int .i64 0, .int .i64 0, .int .i64 0, .int .i64 0, .int .i64 0, .int .i64 0, .int .i64 0, .int .i64 0, .int .i64 0, .int .i64 0, .int .i64 0, .int .i64 0, .int .i64 0, .int .i64 0, .int .i64 0, .int .i64 0, .int .i64 0]) 17 136 Try.underlying22 hi0 hz0 hz1 hz2 rfl (by decide) (.slice none 0 0) 0 [] rfl (World.ownsRow_nil w _ _ _) ad n c (rowsL B n) rfl (rowsL_len B n) hcell (rowsL_one B n) (by unfold maxLen; omega) (by omega) (Nat.le_refl _) ?_; intro v' w5 hown hgrow hnil hloc; simp only [Nat.zero_add, List.nil_append] at hown; have H5 : Hid (w5.ownsRow w.heap.size 30 17 v' n (rowsL B n) ∧ Only [] w w5) := ⟨hown, (Only.refl [] w).grown hgrow (fun k hk => by cases hk)⟩; have HLC : Hid (∀ g' o s n' c', v' = .slice (some ⟨g', o, s⟩) n' c' → g' = w.heap.size) := (fun g' o s n' c' e => by subst e; rcases hloc with q | q <;> simp [Value.ownBlock] at q; exact q); clear hown hgrow hnil hloc hcell))
    go_ret
    obtain ⟨a', g', c', rfl, hS, hg, hsl⟩ := OwnS.of_rowN H5.out.1
    have hroom := Room.of_row H5.out.1
    by_cases h0 : n = 0
    · exact ⟨a', w.heap.size, c', rfl, Or.inl h0, H5.out.2, Nat.le_refl _, hsl, hroom, fun g2 o s e => HLC.out g2 o s n c' (by rw [e])⟩
    · refine ⟨a', g', c', rfl, hS, H5.out.2, hg h0, hsl, hroom, fun g2 o s e => ?_⟩
      rcases hS with q | q
      · exact absurd q h0
      · rw [q.1] at e; injection e with e; injection e with e1; exact e1.symm
theorem fresh_calls (a : Option Addr) (n c : Nat) (B : Nat → Bd) (w : World) (hn : n ≤ 1000) (h : BodiesAt w a n B) (hc : a = none → n = 0 ∧ c = 0) :
    Calls Try.prog 11 #[.slice a n c] w (FreshPost n B w) := (freshR_calls a n c B w hn h hc).mono fun _ _ ⟨a', g, c', h1, h2, h3, h4, h5, _⟩ => ⟨a', g, c', h1, h2, h3, h4, h5⟩
end Go.Proofs.Ytpegjobehdihbaa
