/- solve.meetings: the touches that may change some of bodies, in their order: whatever the bodies, no two of one number, and the touches. -/
import Derived.Test.YtpegjobehdihbaaSv4
import Derived.Deep.CutRange
import Derived.LaidEql
namespace Go.Proofs.Ytpegjobehdihbaa
open Go.ChangeShapes Go.WideShapes Go.ChangeAt Go.RowKit
open Go.Maps (Keyed)
set_option linter.unusedVariables false
set_option linter.unusedSimpArgs false

section
variable {P : Program} (w : World)
theorem equalS_same (d : Nat) {tp te : TypeId} {j : TypeInfo} (a : Addr) (hp : P.underlying tp = some (.pointer te)) (hte : P.info? te = some j) : (Op.equalIn (d + 1) tp (.pointer (some a)) (.pointer (some a))).run P w = .ok true w := by
  simp [Op.equalIn, run_underlying hp, sizeOf, typeInfo, run_sameAddr_same, hte]
theorem equalS_other (d : Nat) {tp te : TypeId} {j : TypeInfo} {a b : Addr} {ca cb : Array Value} {ta tb : TypeId} (hp : P.underlying tp = some (.pointer te)) (hte : P.info? te = some j) (hsz : j.size ≠ 0)
    (hne : a ≠ b) (ha : w.heap[a.block]? = some (.cells ca ta (0, 0))) (hb : w.heap[b.block]? = some (.cells cb tb (0, 0))) : (Op.equalIn (d + 1) tp (.pointer (some a)) (.pointer (some b))).run P w = .ok false w := by
  simp [Op.equalIn, run_underlying hp, sizeOf, typeInfo, hte, hsz, run_sameAddr_other w hne ha hb]
theorem eqS_same {tp te : TypeId} {j : TypeInfo} (a : Addr) (hp : P.underlying tp = some (.pointer te)) (hte : P.info? te = some j) : (binOp .eql tp (.pointer (some a)) (.pointer (some a))).run P w = .ok (.bool true) w := by
  simp only [binOp]
  simp [Op.equal, Op.maxDepth, equalS_same w 9999 a hp hte]
theorem eqS_other {tp te : TypeId} {j : TypeInfo} {a b : Addr} {ca cb : Array Value} {ta tb : TypeId} (hp : P.underlying tp = some (.pointer te)) (hte : P.info? te = some j) (hsz : j.size ≠ 0)
    (hne : a ≠ b) (ha : w.heap[a.block]? = some (.cells ca ta (0, 0))) (hb : w.heap[b.block]? = some (.cells cb tb (0, 0))) : (binOp .eql tp (.pointer (some a)) (.pointer (some b))).run P w = .ok (.bool false) w := by
  simp only [binOp]
  simp [Op.equal, Op.maxDepth, equalS_other w 9999 hp hte hsz hne ha hb]
end
/-- The touches of a slice. -/
def TouchesAt (w : World) (a : Option Addr) (m : Nat) (T : Nat → Tc) : Prop := ∀ j, j < m → In64S (T j).a ∧ In64S (T j).b ∧ ∃ g o, a = some ⟨g, o, none⟩ ∧ w.cell? ⟨g, o + j * 6, none⟩ = some (.int .i64 ((T j).a)) ∧ w.cell? ⟨g, o + j * 6 + 1, none⟩ = some (.int .i64 ((T j).b)) ∧ w.cell? ⟨g, o + j * 6 + 2, none⟩ = some (.int .i64 ((T j).way.x)) ∧ w.cell? ⟨g, o + j * 6 + 3, none⟩ = some (.int .i64 ((T j).way.y)) ∧ w.cell? ⟨g, o + j * 6 + 4, none⟩ = some (.int .i64 ((T j).way.z)) ∧ w.cell? ⟨g, o + j * 6 + 5, none⟩ = some (.int .i64 ((T j).deep))
theorem TouchesAt.only {w w' : World} {a : Option Addr} {m : Nat} {T : Nat → Tc} (h : TouchesAt w a m T) (o : Only [] w w') : TouchesAt w' a m T := by
  intro j hj
  obtain ⟨i1, i2, b, of, e, h0, h1, h2, h3, h4, h5⟩ := h j hj
  exact ⟨i1, i2, b, of, e, cell_old1 o h0, cell_old1 o h1, cell_old1 o h2, cell_old1 o h3, cell_old1 o h4, cell_old1 o h5⟩
/-- A touch in a block of its own. -/
def TouchAt (w : World) (kt : Nat) (t : Tc) : Prop := w.heap[kt]? = some (.cells #[.int .i64 (t.a), .int .i64 (t.b), .int .i64 (t.way.x), .int .i64 (t.way.y), .int .i64 (t.way.z), .int .i64 (t.deep)] 34)
theorem TouchAt.only {D : List Nat} {w w' : World} {kt : Nat} {t : Tc} (h : TouchAt w kt t) (o : Only D w w') (s : kt ∉ D) : TouchAt w' kt t := (o.block kt (Array.getElem?_eq_some_iff.1 h).1 s).trans h
theorem TouchAt.off {w : World} {kt : Nat} {t : Tc} (h : TouchAt w kt t) (j : Nat) : w.cell? ⟨kt, j, none⟩ = (#[.int .i64 (t.a), .int .i64 (t.b), .int .i64 (t.way.x), .int .i64 (t.way.y), .int .i64 (t.way.z), .int .i64 (t.deep)] : Array Value)[j]? := by
  unfold TouchAt at h; simp [World.cell?, h]
structure Mt where
  (i k : Nat) (x y all : Int) (way : V3) (deep : Int)
def mtL (g : Nat) (t : Mt) : List Value := [.pointer (some ⟨g, t.i * 17, none⟩), .pointer (some ⟨g, t.k * 17, none⟩), .int .i64 (t.x), .int .i64 (t.y), .int .i64 (t.all), .int .i64 (t.way.x), .int .i64 (t.way.y), .int .i64 (t.way.z), .int .i64 (t.deep)]
def SlMt (w : World) (v : Value) (g : Nat) (ms : List Mt) : Prop := w.ownsRow 0 49 9 v ms.length (ms.flatMap (mtL g))
def ownM (v : Value) : List Nat := v.ownBlock.toList
theorem SlMt.only {D : List Nat} {w w' : World} {v : Value} {g : Nat} {ms : List Mt} (h : SlMt w v g ms) (o : Only D w w') (s : ∀ b ∈ ownM v, b ∉ D) : SlMt w' v g ms := by
  obtain ⟨hl, ⟨rfl, hn⟩ | ⟨q, cap, cur, rfl, hb, hh, h1, h2, h3, h4⟩⟩ := h
  · exact ⟨hl, Or.inl ⟨rfl, hn⟩⟩
  · exact ⟨hl, Or.inr ⟨q, cap, cur, rfl, hb, (o.block q (Array.getElem?_eq_some_iff.1 hh).1 (s q (by simp [ownM, Value.ownBlock]))).trans hh, h1, h2, h3, h4⟩⟩
theorem SlMt.nil (w : World) (g : Nat) : SlMt w (.slice none 0 0) g [] := World.ownsRow_nil w 0 _ _
/-- What one touch brings. -/
def meetX1 (n : Nat) (B : Nat → Bd) (t : Tc) : List Mt :=
  match findX B t.a n, findX B t.b n with
  | some i, some k => if i = k then [] else
      if 0 < add (lightX (B i).ms) (lightX (B k).ms) then [⟨i, k, lightX (B i).ms, lightX (B k).ms, add (lightX (B i).ms) (lightX (B k).ms), t.way, t.deep⟩] else []
  | _, _ => []
def meetsX (n : Nat) (B : Nat → Bd) (T : Nat → Tc) : Nat → List Mt
  | 0 => []
  | m + 1 => meetsX n B T m ++ meetX1 n B (T m)
theorem meetX1_len (n : Nat) (B : Nat → Bd) (t : Tc) : (meetX1 n B t).length ≤ 1 := by
  unfold meetX1
  split
  · split
    · simp
    · split <;> simp
  · simp
theorem meetsX_len (n : Nat) (B : Nat → Bd) (T : Nat → Tc) : ∀ m, (meetsX n B T m).length ≤ m
  | 0 => by simp [meetsX]
  | m + 1 => by
    have := meetsX_len n B T m
    have := meetX1_len n B (T m)
    simp only [meetsX, List.length_append]; omega
theorem meetX1_lt {n : Nat} {B : Nat → Bd} {t : Tc} {q : Mt} (h : q ∈ meetX1 n B t) : q.i < n ∧ q.k < n ∧ q.i ≠ q.k := by
  unfold meetX1 at h
  split at h
  · rename_i i k hi hk
    split at h
    · simp at h
    · rename_i ne
      split at h
      · simp only [List.mem_singleton] at h
        subst h
        exact ⟨(findX_some hi).1, (findX_some hk).1, ne⟩
      · simp at h
  · simp at h
theorem meetsX_lt {n : Nat} {B : Nat → Bd} {T : Nat → Tc} {q : Mt} : ∀ {m : Nat}, q ∈ meetsX n B T m → q.i < n ∧ q.k < n ∧ q.i ≠ q.k
  | 0, h => by simp [meetsX] at h
  | m + 1, h => by
    simp only [meetsX, List.mem_append] at h
    rcases h with h | h
    · exact meetsX_lt h
    · exact meetX1_lt h
def MeetsPost (g n m : Nat) (B : Nat → Bd) (T : Nat → Tc) (w : World) (e : Ending) (w' : World) : Prop :=
  ∃ v, e = .returned v ∧ SlMt w' v g (meetsX n B T m) ∧ Only [] w w' ∧ (∀ q ∈ ownM v, w.heap.size ≤ q)
/-- What holds while the touches are gone over. -/
structure MSv (w : World) (g n : Nat) (B : Nat → Bd) (T : Nat → Tc) (j : Nat) (v : Value) (wr : World) : Prop where
  sl : SlMt wr v g (meetsX n B T j)
  only : Only [] w wr
  new : ∀ q ∈ ownM v, w.heap.size ≤ q
def Fr9 (w : World) (b0 : Nat) (w' : World) : Prop :=
  Kept w w' ∧
  w'.cell? ⟨b0, 0, none⟩ = some (cellV w' ⟨b0, 0, none⟩) ∧
  w'.cell? ⟨b0, 1, none⟩ = some (cellV w' ⟨b0, 1, none⟩) ∧
  w'.cell? ⟨b0, 2, none⟩ = some (cellV w' ⟨b0, 2, none⟩) ∧
  w'.cell? ⟨b0, 3, none⟩ = some (cellV w' ⟨b0, 3, none⟩) ∧
  w'.cell? ⟨b0, 4, none⟩ = some (cellV w' ⟨b0, 4, none⟩) ∧
  w'.cell? ⟨b0, 5, none⟩ = some (cellV w' ⟨b0, 5, none⟩) ∧
  w'.cell? ⟨b0, 6, none⟩ = some (cellV w' ⟨b0, 6, none⟩) ∧
  w'.cell? ⟨b0, 7, none⟩ = some (cellV w' ⟨b0, 7, none⟩) ∧
  w'.cell? ⟨b0, 8, none⟩ = some (cellV w' ⟨b0, 8, none⟩) ∧
  w'.frozen? ⟨b0, 0, none⟩ = false ∧
  w'.frozen? ⟨b0, 1, none⟩ = false ∧
  w'.frozen? ⟨b0, 2, none⟩ = false ∧
  w'.frozen? ⟨b0, 3, none⟩ = false ∧
  w'.frozen? ⟨b0, 4, none⟩ = false ∧
  w'.frozen? ⟨b0, 5, none⟩ = false ∧
  w'.frozen? ⟨b0, 6, none⟩ = false ∧
  w'.frozen? ⟨b0, 7, none⟩ = false ∧
  w'.frozen? ⟨b0, 8, none⟩ = false
theorem Fr9.step {w w1 w2 : World} {b0 : Nat} (k : Kept w1 w2) (h : Fr9 w b0 w1) : Fr9 w b0 w2 := by
  obtain ⟨h0, h1, h2, h3, h4, h5, h6, h7, h8, h9, h10, h11, h12, h13, h14, h15, h16, h17, h18⟩ := h
  exact ⟨h0.trans k, kept_there k h1, kept_there k h2, kept_there k h3, kept_there k h4, kept_there k h5, kept_there k h6, kept_there k h7, kept_there k h8, kept_there k h9, kept_frozen k h10, kept_frozen k h11, kept_frozen k h12, kept_frozen k h13, kept_frozen k h14, kept_frozen k h15, kept_frozen k h16, kept_frozen k h17, kept_frozen k h18⟩
theorem Fr9.drew {w w1 : World} {b0 : Nat} (h : Fr9 w b0 w1) : Fr9 w b0 w1.drew := h.step (Kept.refl _).drew
theorem Fr9.put {w w1 : World} {b0 : Nat} (i : Nat) (v : Value) (ho : w.heap.size ≤ b0)  (h : Fr9 w b0 w1) : Fr9 w b0 (w1.setCell ⟨b0, i, none⟩ v) := by
  obtain ⟨h0, h1, h2, h3, h4, h5, h6, h7, h8, h9, h10, h11, h12, h13, h14, h15, h16, h17, h18⟩ := h
  exact ⟨h0.setCell (p := ⟨b0, i, none⟩) ho v, put_there h1, put_there h2, put_there h3, put_there h4, put_there h5, put_there h6, put_there h7, put_there h8, put_there h9, (World.frozen?_setCell _ _ _ _).trans h10, (World.frozen?_setCell _ _ _ _).trans h11, (World.frozen?_setCell _ _ _ _).trans h12, (World.frozen?_setCell _ _ _ _).trans h13, (World.frozen?_setCell _ _ _ _).trans h14, (World.frozen?_setCell _ _ _ _).trans h15, (World.frozen?_setCell _ _ _ _).trans h16, (World.frozen?_setCell _ _ _ _).trans h17, (World.frozen?_setCell _ _ _ _).trans h18⟩

theorem set9_of {w : World} {b : Nat} {v0 v1 v2 v3 v4 v5 v6 v7 v8 u0 u1 u2 u3 u4 u5 u6 u7 u8 : Value} (h0 : w.cell? ⟨b, 0, none⟩ = some u0) (h1 : w.cell? ⟨b, 1, none⟩ = some u1) (h2 : w.cell? ⟨b, 2, none⟩ = some u2) (h3 : w.cell? ⟨b, 3, none⟩ = some u3) (h4 : w.cell? ⟨b, 4, none⟩ = some u4) (h5 : w.cell? ⟨b, 5, none⟩ = some u5) (h6 : w.cell? ⟨b, 6, none⟩ = some u6) (h7 : w.cell? ⟨b, 7, none⟩ = some u7) (h8 : w.cell? ⟨b, 8, none⟩ = some u8) :
    (((((((((w.setCell ⟨b, 0, none⟩ v0).setCell ⟨b, 1, none⟩ v1).setCell ⟨b, 2, none⟩ v2).setCell ⟨b, 3, none⟩ v3).setCell ⟨b, 4, none⟩ v4).setCell ⟨b, 5, none⟩ v5).setCell ⟨b, 6, none⟩ v6).setCell ⟨b, 7, none⟩ v7).setCell ⟨b, 8, none⟩ v8).cell? ⟨b, 0, none⟩ = some v0 ∧ (((((((((w.setCell ⟨b, 0, none⟩ v0).setCell ⟨b, 1, none⟩ v1).setCell ⟨b, 2, none⟩ v2).setCell ⟨b, 3, none⟩ v3).setCell ⟨b, 4, none⟩ v4).setCell ⟨b, 5, none⟩ v5).setCell ⟨b, 6, none⟩ v6).setCell ⟨b, 7, none⟩ v7).setCell ⟨b, 8, none⟩ v8).cell? ⟨b, 1, none⟩ = some v1 ∧ (((((((((w.setCell ⟨b, 0, none⟩ v0).setCell ⟨b, 1, none⟩ v1).setCell ⟨b, 2, none⟩ v2).setCell ⟨b, 3, none⟩ v3).setCell ⟨b, 4, none⟩ v4).setCell ⟨b, 5, none⟩ v5).setCell ⟨b, 6, none⟩ v6).setCell ⟨b, 7, none⟩ v7).setCell ⟨b, 8, none⟩ v8).cell? ⟨b, 2, none⟩ = some v2 ∧ (((((((((w.setCell ⟨b, 0, none⟩ v0).setCell ⟨b, 1, none⟩ v1).setCell ⟨b, 2, none⟩ v2).setCell ⟨b, 3, none⟩ v3).setCell ⟨b, 4, none⟩ v4).setCell ⟨b, 5, none⟩ v5).setCell ⟨b, 6, none⟩ v6).setCell ⟨b, 7, none⟩ v7).setCell ⟨b, 8, none⟩ v8).cell? ⟨b, 3, none⟩ = some v3 ∧ (((((((((w.setCell ⟨b, 0, none⟩ v0).setCell ⟨b, 1, none⟩ v1).setCell ⟨b, 2, none⟩ v2).setCell ⟨b, 3, none⟩ v3).setCell ⟨b, 4, none⟩ v4).setCell ⟨b, 5, none⟩ v5).setCell ⟨b, 6, none⟩ v6).setCell ⟨b, 7, none⟩ v7).setCell ⟨b, 8, none⟩ v8).cell? ⟨b, 4, none⟩ = some v4 ∧ (((((((((w.setCell ⟨b, 0, none⟩ v0).setCell ⟨b, 1, none⟩ v1).setCell ⟨b, 2, none⟩ v2).setCell ⟨b, 3, none⟩ v3).setCell ⟨b, 4, none⟩ v4).setCell ⟨b, 5, none⟩ v5).setCell ⟨b, 6, none⟩ v6).setCell ⟨b, 7, none⟩ v7).setCell ⟨b, 8, none⟩ v8).cell? ⟨b, 5, none⟩ = some v5 ∧ (((((((((w.setCell ⟨b, 0, none⟩ v0).setCell ⟨b, 1, none⟩ v1).setCell ⟨b, 2, none⟩ v2).setCell ⟨b, 3, none⟩ v3).setCell ⟨b, 4, none⟩ v4).setCell ⟨b, 5, none⟩ v5).setCell ⟨b, 6, none⟩ v6).setCell ⟨b, 7, none⟩ v7).setCell ⟨b, 8, none⟩ v8).cell? ⟨b, 6, none⟩ = some v6 ∧ (((((((((w.setCell ⟨b, 0, none⟩ v0).setCell ⟨b, 1, none⟩ v1).setCell ⟨b, 2, none⟩ v2).setCell ⟨b, 3, none⟩ v3).setCell ⟨b, 4, none⟩ v4).setCell ⟨b, 5, none⟩ v5).setCell ⟨b, 6, none⟩ v6).setCell ⟨b, 7, none⟩ v7).setCell ⟨b, 8, none⟩ v8).cell? ⟨b, 7, none⟩ = some v7 ∧ (((((((((w.setCell ⟨b, 0, none⟩ v0).setCell ⟨b, 1, none⟩ v1).setCell ⟨b, 2, none⟩ v2).setCell ⟨b, 3, none⟩ v3).setCell ⟨b, 4, none⟩ v4).setCell ⟨b, 5, none⟩ v5).setCell ⟨b, 6, none⟩ v6).setCell ⟨b, 7, none⟩ v7).setCell ⟨b, 8, none⟩ v8).cell? ⟨b, 8, none⟩ = some v8 := by
  have n1 : ∀ i j : Nat, i ≠ j → (⟨b, i, none⟩ : Addr) ≠ ⟨b, j, none⟩ := fun i j h e => h (by injection e)
  exact ⟨(World.cell?_setCell_other _ _ _ _ (n1 8 0 (by decide))).trans ((World.cell?_setCell_other _ _ _ _ (n1 7 0 (by decide))).trans ((World.cell?_setCell_other _ _ _ _ (n1 6 0 (by decide))).trans ((World.cell?_setCell_other _ _ _ _ (n1 5 0 (by decide))).trans ((World.cell?_setCell_other _ _ _ _ (n1 4 0 (by decide))).trans ((World.cell?_setCell_other _ _ _ _ (n1 3 0 (by decide))).trans ((World.cell?_setCell_other _ _ _ _ (n1 2 0 (by decide))).trans ((World.cell?_setCell_other _ _ _ _ (n1 1 0 (by decide))).trans (World.cell?_setCell_same _ _ _ (h0))))))))), (World.cell?_setCell_other _ _ _ _ (n1 8 1 (by decide))).trans ((World.cell?_setCell_other _ _ _ _ (n1 7 1 (by decide))).trans ((World.cell?_setCell_other _ _ _ _ (n1 6 1 (by decide))).trans ((World.cell?_setCell_other _ _ _ _ (n1 5 1 (by decide))).trans ((World.cell?_setCell_other _ _ _ _ (n1 4 1 (by decide))).trans ((World.cell?_setCell_other _ _ _ _ (n1 3 1 (by decide))).trans ((World.cell?_setCell_other _ _ _ _ (n1 2 1 (by decide))).trans (World.cell?_setCell_same _ _ _ ((World.cell?_setCell_other _ _ _ _ (n1 0 1 (by decide))).trans (h1))))))))), (World.cell?_setCell_other _ _ _ _ (n1 8 2 (by decide))).trans ((World.cell?_setCell_other _ _ _ _ (n1 7 2 (by decide))).trans ((World.cell?_setCell_other _ _ _ _ (n1 6 2 (by decide))).trans ((World.cell?_setCell_other _ _ _ _ (n1 5 2 (by decide))).trans ((World.cell?_setCell_other _ _ _ _ (n1 4 2 (by decide))).trans ((World.cell?_setCell_other _ _ _ _ (n1 3 2 (by decide))).trans (World.cell?_setCell_same _ _ _ ((World.cell?_setCell_other _ _ _ _ (n1 1 2 (by decide))).trans ((World.cell?_setCell_other _ _ _ _ (n1 0 2 (by decide))).trans (h2))))))))), (World.cell?_setCell_other _ _ _ _ (n1 8 3 (by decide))).trans ((World.cell?_setCell_other _ _ _ _ (n1 7 3 (by decide))).trans ((World.cell?_setCell_other _ _ _ _ (n1 6 3 (by decide))).trans ((World.cell?_setCell_other _ _ _ _ (n1 5 3 (by decide))).trans ((World.cell?_setCell_other _ _ _ _ (n1 4 3 (by decide))).trans (World.cell?_setCell_same _ _ _ ((World.cell?_setCell_other _ _ _ _ (n1 2 3 (by decide))).trans ((World.cell?_setCell_other _ _ _ _ (n1 1 3 (by decide))).trans ((World.cell?_setCell_other _ _ _ _ (n1 0 3 (by decide))).trans (h3))))))))), (World.cell?_setCell_other _ _ _ _ (n1 8 4 (by decide))).trans ((World.cell?_setCell_other _ _ _ _ (n1 7 4 (by decide))).trans ((World.cell?_setCell_other _ _ _ _ (n1 6 4 (by decide))).trans ((World.cell?_setCell_other _ _ _ _ (n1 5 4 (by decide))).trans (World.cell?_setCell_same _ _ _ ((World.cell?_setCell_other _ _ _ _ (n1 3 4 (by decide))).trans ((World.cell?_setCell_other _ _ _ _ (n1 2 4 (by decide))).trans ((World.cell?_setCell_other _ _ _ _ (n1 1 4 (by decide))).trans ((World.cell?_setCell_other _ _ _ _ (n1 0 4 (by decide))).trans (h4))))))))), (World.cell?_setCell_other _ _ _ _ (n1 8 5 (by decide))).trans ((World.cell?_setCell_other _ _ _ _ (n1 7 5 (by decide))).trans ((World.cell?_setCell_other _ _ _ _ (n1 6 5 (by decide))).trans (World.cell?_setCell_same _ _ _ ((World.cell?_setCell_other _ _ _ _ (n1 4 5 (by decide))).trans ((World.cell?_setCell_other _ _ _ _ (n1 3 5 (by decide))).trans ((World.cell?_setCell_other _ _ _ _ (n1 2 5 (by decide))).trans ((World.cell?_setCell_other _ _ _ _ (n1 1 5 (by decide))).trans ((World.cell?_setCell_other _ _ _ _ (n1 0 5 (by decide))).trans (h5))))))))), (World.cell?_setCell_other _ _ _ _ (n1 8 6 (by decide))).trans ((World.cell?_setCell_other _ _ _ _ (n1 7 6 (by decide))).trans (World.cell?_setCell_same _ _ _ ((World.cell?_setCell_other _ _ _ _ (n1 5 6 (by decide))).trans ((World.cell?_setCell_other _ _ _ _ (n1 4 6 (by decide))).trans ((World.cell?_setCell_other _ _ _ _ (n1 3 6 (by decide))).trans ((World.cell?_setCell_other _ _ _ _ (n1 2 6 (by decide))).trans ((World.cell?_setCell_other _ _ _ _ (n1 1 6 (by decide))).trans ((World.cell?_setCell_other _ _ _ _ (n1 0 6 (by decide))).trans (h6))))))))), (World.cell?_setCell_other _ _ _ _ (n1 8 7 (by decide))).trans (World.cell?_setCell_same _ _ _ ((World.cell?_setCell_other _ _ _ _ (n1 6 7 (by decide))).trans ((World.cell?_setCell_other _ _ _ _ (n1 5 7 (by decide))).trans ((World.cell?_setCell_other _ _ _ _ (n1 4 7 (by decide))).trans ((World.cell?_setCell_other _ _ _ _ (n1 3 7 (by decide))).trans ((World.cell?_setCell_other _ _ _ _ (n1 2 7 (by decide))).trans ((World.cell?_setCell_other _ _ _ _ (n1 1 7 (by decide))).trans ((World.cell?_setCell_other _ _ _ _ (n1 0 7 (by decide))).trans (h7))))))))), World.cell?_setCell_same _ _ _ ((World.cell?_setCell_other _ _ _ _ (n1 7 8 (by decide))).trans ((World.cell?_setCell_other _ _ _ _ (n1 6 8 (by decide))).trans ((World.cell?_setCell_other _ _ _ _ (n1 5 8 (by decide))).trans ((World.cell?_setCell_other _ _ _ _ (n1 4 8 (by decide))).trans ((World.cell?_setCell_other _ _ _ _ (n1 3 8 (by decide))).trans ((World.cell?_setCell_other _ _ _ _ (n1 2 8 (by decide))).trans ((World.cell?_setCell_other _ _ _ _ (n1 1 8 (by decide))).trans ((World.cell?_setCell_other _ _ _ _ (n1 0 8 (by decide))).trans (h8)))))))))⟩
theorem kept_set9 {w w1 : World} {b : Nat} (k : Kept w w1) (h : w.heap.size ≤ b) (v0 v1 v2 v3 v4 v5 v6 v7 v8 : Value) : Kept w (((((((((w1.setCell ⟨b, 0, none⟩ v0).setCell ⟨b, 1, none⟩ v1).setCell ⟨b, 2, none⟩ v2).setCell ⟨b, 3, none⟩ v3).setCell ⟨b, 4, none⟩ v4).setCell ⟨b, 5, none⟩ v5).setCell ⟨b, 6, none⟩ v6).setCell ⟨b, 7, none⟩ v7).setCell ⟨b, 8, none⟩ v8) :=
  (((((((((k.setCell (p := ⟨b, 0, none⟩) h v0).setCell (p := ⟨b, 1, none⟩) h v1).setCell (p := ⟨b, 2, none⟩) h v2).setCell (p := ⟨b, 3, none⟩) h v3).setCell (p := ⟨b, 4, none⟩) h v4).setCell (p := ⟨b, 5, none⟩) h v5).setCell (p := ⟨b, 6, none⟩) h v6).setCell (p := ⟨b, 7, none⟩) h v7).setCell (p := ⟨b, 8, none⟩) h v8)

theorem frz9 {w : World} {p : Nat} (f : w.frozen? ⟨p, 4, none⟩ = false) (v0 v1 v2 v3 v4 v5 v6 v7 v8 : Value) : (((((((((w.setCell ⟨p, 0, none⟩ v0).setCell ⟨p, 1, none⟩ v1).setCell ⟨p, 2, none⟩ v2).setCell ⟨p, 3, none⟩ v3).setCell ⟨p, 4, none⟩ v4).setCell ⟨p, 5, none⟩ v5).setCell ⟨p, 6, none⟩ v6).setCell ⟨p, 7, none⟩ v7).setCell ⟨p, 8, none⟩ v8).frozen? ⟨p, 4, none⟩ = false := ((World.frozen?_setCell _ _ _ _).trans ((World.frozen?_setCell _ _ _ _).trans ((World.frozen?_setCell _ _ _ _).trans ((World.frozen?_setCell _ _ _ _).trans ((World.frozen?_setCell _ _ _ _).trans ((World.frozen?_setCell _ _ _ _).trans ((World.frozen?_setCell _ _ _ _).trans ((World.frozen?_setCell _ _ _ _).trans ((World.frozen?_setCell _ _ _ _).trans (f))))))))))
def MassAt (g i k kt : Nat) (mi mk : Int) (t : Tc) (w' : World) : Prop := w'.cell? ⟨g, i * 17 + 15, none⟩ = some (.int .i64 mi) ∧ w'.cell? ⟨g, k * 17 + 15, none⟩ = some (.int .i64 mk) ∧ w'.cell? ⟨kt, 2, none⟩ = some (.int .i64 t.way.x) ∧ w'.cell? ⟨kt, 3, none⟩ = some (.int .i64 t.way.y) ∧ w'.cell? ⟨kt, 4, none⟩ = some (.int .i64 t.way.z) ∧ w'.cell? ⟨kt, 5, none⟩ = some (.int .i64 t.deep)
theorem MassAt.step {g i k kt : Nat} {mi mk : Int} {t : Tc} {w w' : World} (h : MassAt g i k kt mi mk t w) (q : Kept w w') : MassAt g i k kt mi mk t w' :=
  ⟨kept_cell q h.1, kept_cell q h.2.1, kept_cell q h.2.2.1, kept_cell q h.2.2.2.1, kept_cell q h.2.2.2.2.1, kept_cell q h.2.2.2.2.2⟩
theorem cell_nine (w : World) (a0 a1 a2 a3 a4 a5 a6 a7 a8 : Value) (t : TypeId) : ∀ j u, [a0, a1, a2, a3, a4, a5, a6, a7, a8][j]? = some u → (w.alloc (.cells #[a0, a1, a2, a3, a4, a5, a6, a7, a8] t)).cell? ((⟨w.heap.size, 0, none⟩ : Addr).add j) = some u := by
  intro j u hj
  match j, hj with
  | 0, hj => simp at hj; subst hj; simp [Addr.add]
  | 1, hj => simp at hj; subst hj; simp [Addr.add]
  | 2, hj => simp at hj; subst hj; simp [Addr.add]
  | 3, hj => simp at hj; subst hj; simp [Addr.add]
  | 4, hj => simp at hj; subst hj; simp [Addr.add]
  | 5, hj => simp at hj; subst hj; simp [Addr.add]
  | 6, hj => simp at hj; subst hj; simp [Addr.add]
  | 7, hj => simp at hj; subst hj; simp [Addr.add]
  | 8, hj => simp at hj; subst hj; simp [Addr.add]
  | j + 9, hj => simp at hj
theorem SlMt.put {w2 w3 : World} {v v' : Value} {g : Nat} {ms : List Mt} {q : Mt} {T : TypeId} (hown : w3.ownsRow 0 49 9 v' (ms.length + 1) (ms.flatMap (mtL g) ++ mtL g q)) (hgrow : (w2.alloc (.cells (mtL g q).toArray T)).grownBy w3 v.ownBlock)
    (hloc : v'.ownBlock = v.ownBlock ∨ v'.ownBlock = some (w2.alloc (.cells (mtL g q).toArray T)).heap.size) : SlMt w3 v' g (ms ++ [q]) ∧ Only (ownM v) w2 w3 ∧ (∀ b ∈ ownM v', b ∈ ownM v ∨ w2.heap.size ≤ b) := by
  refine ⟨?_, ?_, ?_⟩
  · unfold SlMt; rw [List.flatMap_append, List.length_append]; simpa using hown
  · refine ((Only.refl _ _).alloc _).grown hgrow (fun k hk => Or.inl ?_)
    simp [ownM, hk]
  · intro x hx
    rcases hloc with e | e
    · left; simpa [ownM, e] using hx
    · right
      simp only [ownM, e, Option.toList_some, List.mem_singleton] at hx
      simp at hx; omega
theorem MSv.put {w : World} {g n : Nat} {B : Nat → Bd} {T : Nat → Tc} {j : Nat} {v v' : Value} {wr w2 w3 : World} {q : Mt} (h : MSv w g n B T j v wr) (e : meetX1 n B (T j) = [q]) (o : Only [] wr w2) (p : SlMt w3 v' g (meetsX n B T j ++ [q]) ∧ Only (ownM v) w2 w3 ∧ (∀ b ∈ ownM v', b ∈ ownM v ∨ w2.heap.size ≤ b)) : MSv w g n B T (j + 1) v' w3 := by
  refine ⟨by simp only [meetsX, e]; exact p.1, (h.only.trans o).then p.2.1 (fun b hb => Or.inr (h.new b hb)), fun b hb => ?_⟩
  rcases p.2.2 b hb with q | q
  · exact h.new b q
  · exact Nat.le_trans (h.only.trans o).size q
theorem MSv.next {w : World} {g n : Nat} {B : Nat → Bd} {T : Nat → Tc} {j : Nat} {v : Value} {wr w' : World} (h : MSv w g n B T j v wr) (e : meetX1 n B (T j) = []) (o : Only [] wr w') : MSv w g n B T (j + 1) v w' :=
  ⟨by simp only [meetsX, e, List.append_nil]; exact h.sl.only o (by simp), h.only.trans o, h.new⟩
theorem meetInfo : (Try.prog.info? 49).map (fun i => (i.zero, i.size, i.bytes)) = some (some (.agg #[.pointer none, .pointer none, .int .i64 0, .int .i64 0, .int .i64 0, .int .i64 0, .int .i64 0, .int .i64 0, .int .i64 0]), 9, 72) := by kernel_rfl
set_option maxRecDepth 100000 in
set_option maxHeartbeats 4000000 in
theorem meetings_calls (a b : Option Addr) (g n c m d : Nat) (B : Nat → Bd) (T : Nat → Tc) (w : World) (hn : n ≤ 60) (hm : m ≤ 3600) (h : OwnS w a g n B) (ht : TouchesAt w b m T) (hal : Alone n B) (hid : ∀ j, j < n → In64S (B j).id) :
    Calls Try.prog 13 #[.slice a n c, .slice b m d] w (MeetsPost g n m B T w) := by
  have HB : Hid (OwnS w a g n B ∧ TouchesAt w b m T ∧ Alone n B ∧ (∀ j, j < n → In64S (B j).id) ∧ n ≤ 60 ∧ m ≤ 3600) := ⟨h, ht, hal, hid, hn, hm⟩
  clear h ht hal hid hn hm
  go_enter Try.func13, Try.ntmps13
  go_wp2_with fail
  refine (finder_calls a g n c B w HB.out.2.2.2.2.1 HB.out.1 HB.out.2.2.1 HB.out.2.2.2.1).mono ?_
  rintro e w1 ⟨kb, mm, rfl, hf, o1, _, _⟩
  have H1 : Hid (FindAt w1 kb mm g n B ∧ Only [] w w1) := ⟨hf, o1⟩
  clear hf o1
  go_wp2_with fail
  go_loopg [6, 16] m (fun k p idx wr => ∃ v, ∃ j : Nat, v = p ∧ idx = .int .i64 (j : Int) ∧ Hid (j ≤ m ∧ k = m - j) ∧ Hid (MSv w1 g n B T j v wr))
  case atStart => exact ⟨_, 0, rfl, rfl, ⟨by omega, rfl⟩, SlMt.nil _ _, Only.refl _ _, by simp [ownM, Value.ownBlock]⟩
  case round =>
    obtain ⟨v, j, rfl, rfl, H2, HS⟩ := hrel
    have hm := HB.out.2.2.2.2.2
    by_cases hj : j < m
    · have hjl : (j : Int) < (m : Int) := by omega
      obtain ⟨i1, i2, gt, ot, rfl, c0, c1, c2, c3, c4, c5⟩ := (HB.out.2.1.only (H1.out.2.trans HS.out.only)) j hj
      have HI : Hid (In64S (T j).a ∧ In64S (T j).b) := ⟨i1, i2⟩
      clear i1 i2
      obtain ⟨t, htj⟩ : ∃ t, t = T j := ⟨_, rfl⟩
      rw [← htj] at HI c0 c1 c2 c3 c4 c5
      have HT : Hid (t = T j) := htj
      clear htj
      go_upto_region 6 with fail
      clear c0 c1 c2 c3 c4 c5
      have H3 : Hid (Only [] wr (wr.alloc (.cells #[.int .i64 (t.a), .int .i64 (t.b), .int .i64 (t.way.x), .int .i64 (t.way.y), .int .i64 (t.way.z), .int .i64 (t.deep)] 34)) ∧ TouchAt (wr.alloc (.cells #[.int .i64 (t.a), .int .i64 (t.b), .int .i64 (t.way.x), .int .i64 (t.way.y), .int .i64 (t.way.z), .int .i64 (t.deep)] 34)) wr.heap.size t) := ⟨(Only.refl [] wr).alloc _, (MapKept.heap_alloc wr _).1⟩
      revert H3
      generalize wr.heap.size = kt
      generalize World.alloc wr _ = w3
      intro H3
      have HF : Hid (FindAt w3 kb mm g n B) := H1.out.1.only (HS.out.only.trans H3.out.1) (by simp) (by simp)
      have HK : Hid (∀ w', Only [] w3 w' → Only [] w3 w' ∧ w'.cell? ⟨kt, 0, none⟩ = some (.int .i64 (t.a)) ∧ w'.cell? ⟨kt, 1, none⟩ = some (.int .i64 (t.b))) := fun w' o => ⟨o, cell_old1 o (H3.out.2.off 0), cell_old1 o (H3.out.2.off 1)⟩
      refine wp_region_held_drew (S := (fun w' => Only [] w3 w' ∧ w'.cell? ⟨kt, 0, none⟩ = some (.int .i64 (t.a)) ∧ w'.cell? ⟨kt, 1, none⟩ = some (.int .i64 (t.b)))) (by kernel_rfl) ?_ (fun hHeld1 => ?_)
      · (try dsimp only); exact HK.out _ (Only.refl _ _).drew
      refine tkW 0 rfl ?_; refine tkW 1 rfl ?_; refine tkW 2 rfl ?_; refine tkW 4 rfl ?_
      try simp only [Act.put, List.setIfInBounds_toArray, List.set_cons_zero, List.set_cons_succ, List.getElem_toArray, List.getElem_cons_succ, List.getElem_cons_zero]
      refine tkW 5 rfl ?_; refine tkW 6 rfl ?_
      try simp only [Act.put, List.setIfInBounds_toArray, List.set_cons_zero, List.set_cons_succ, List.getElem_toArray, List.getElem_cons_succ, List.getElem_cons_zero]
      refine wpAnyH_ready (rs := [3]) (by kernel_rfl) (by simp) ?_
      refine AllReadyH.cons rfl (fun K hK => ?_) AllReadyH.nil
      first | (with_reducible refine iteYes ?hcx ?htx; case hcx => kernel_rfl) | rw [if_pos (by rfl)]
      simp only [List.getElem_toArray, List.getElem_cons_succ, List.getElem_cons_zero]
      go_simp
      (go_at_call 34; refine (find_calls kb mm g n B t.a _ (HF.out.only (Only.refl [] w3).drew (by simp) (by simp)) HI.out.1 HB.out.2.2.1).mono ?_; rintro e w4 ⟨rfl, hw4⟩; subst hw4)
      try go_wp2_with fail
      refine hK.out _ _ ?_ (fun hHeld2 => ?_)
      · (try dsimp only); exact HK.out _ (Only.refl _ _).drew
      clear hK K hHeld1
      try simp only [Act.put, List.setIfInBounds_toArray, List.set_cons_zero, List.set_cons_succ, List.getElem_toArray, List.getElem_cons_succ, List.getElem_cons_zero]
      refine wpAnyH_ready (rs := [7]) (by kernel_rfl) (by simp) ?_
      refine AllReadyH.cons rfl (fun K hK => ?_) AllReadyH.nil
      first | (with_reducible refine iteYes ?hcx ?htx; case hcx => kernel_rfl) | rw [if_pos (by rfl)]
      simp only [List.getElem_toArray, List.getElem_cons_succ, List.getElem_cons_zero]
      go_simp
      (go_at_call 34; refine (find_calls kb mm g n B t.b _ (HF.out.only (Only.refl [] w3).drew (by simp) (by simp)) HI.out.2 HB.out.2.2.1).mono ?_; rintro e w5 ⟨rfl, hw5⟩; subst hw5)
      try go_wp2_with fail
      refine hK.out _ _ ?_ (fun hHeld3 => ?_)
      · (try dsimp only); exact HK.out _ (Only.refl _ _).drew
      clear hK K hHeld2
      try simp only [Act.put, List.setIfInBounds_toArray, List.set_cons_zero, List.set_cons_succ, List.getElem_toArray, List.getElem_cons_succ, List.getElem_cons_zero]
      refine tkW 8 rfl ?_; refine tkW 9 rfl ?_
      try simp only [Act.put, List.setIfInBounds_toArray, List.set_cons_zero, List.set_cons_succ, List.getElem_toArray, List.getElem_cons_succ, List.getElem_cons_zero]
      refine wpAnyH_done (by kernel_rfl) ?_ _
      cases hfa : findX B t.a n with
      | none =>
        have HE : Hid (meetX1 n B t = []) := by show meetX1 n B t = []; simp [meetX1, hfa]
        clear hfa
        generalize ptrO g (findX B t.b n) = pb
        simp only [ptrO]
        clear hHeld3 HK
        go_wp2_with fail
        go_roundg (m - (j + 1))
        case measure => have := H2.out.2; omega
        case rel => exact ⟨v, j + 1, rfl, by go_num, ⟨by omega, rfl⟩, HS.out.next (by rw [← HT.out]; exact HE.out) (H3.out.1.drew)⟩
      | some i =>
        cases hfb : findX B t.b n with
        | none =>
          have HE : Hid (meetX1 n B t = []) := by show meetX1 n B t = []; simp [meetX1, hfa, hfb]
          clear hfa hfb
          simp only [ptrO]
          clear hHeld3 HK
          go_wp2_with fail
          go_roundg (m - (j + 1))
          case measure => have := H2.out.2; omega
          case rel => exact ⟨v, j + 1, rfl, by go_num, ⟨by omega, rfl⟩, HS.out.next (by rw [← HT.out]; exact HE.out) (H3.out.1.drew)⟩
        | some k =>
          obtain ⟨hin, _⟩ := findX_some hfa
          obtain ⟨hkn, _⟩ := findX_some hfb
          by_cases hik : i = k
          · subst hik
            have HE : Hid (meetX1 n B t = []) := by show meetX1 n B t = []; unfold meetX1; rw [hfa, hfb]; simp
            clear hfa hfb
            simp only [ptrO]
            obtain ⟨jb, hjb, _⟩ := info_parts' bodyInfo
            have heq := eqS_same w3.drew ⟨g, i * 17, none⟩ Try.underlying47 hjb
            clear hjb
            clear hHeld3 HK
            go_wp2_with fail
            go_roundg (m - (j + 1))
            case measure => have := H2.out.2; omega
            case rel => exact ⟨v, j + 1, rfl, by go_num, ⟨by omega, rfl⟩, HS.out.next (by rw [← HT.out]; exact HE.out) (H3.out.1.drew)⟩
          · have HE : Hid (meetX1 n B t = if 0 < add (lightX (B i).ms) (lightX (B k).ms) then [⟨i, k, lightX (B i).ms, lightX (B k).ms, add (lightX (B i).ms) (lightX (B k).ms), t.way, t.deep⟩] else []) := by show meetX1 n B t = _; unfold meetX1; rw [hfa, hfb]; simp [hik]
            clear hfa hfb HK hHeld3
            simp only [ptrO]
            have hO : OwnB w3 g n B := by
              rcases HB.out.1.only (H1.out.2.trans (HS.out.only.trans H3.out.1)) (by simp) with q | q
              · omega
              · exact q.2
            have m1 := hO.cell hin (show 15 < 17 by omega)
            have m2 := hO.cell hkn (show 15 < 17 by omega)
            simp only [bc] at m1 m2
            generalize hmi : (B i).ms = mi at m1 HE
            generalize hmk : (B k).ms = mk at m2 HE
            have hO0 := hO
            clear hmi hmk hO
            obtain ⟨jb, hjb, _, hjs, _⟩ := info_parts' bodyInfo
            obtain ⟨cur, hcur, _⟩ := hO0
            have heq := eqS_other (a := ⟨g, i * 17, none⟩) (b := ⟨g, k * 17, none⟩) w3.drew Try.underlying47 hjb (by omega) (fun e => hik (by injection e with _ e; omega)) hcur hcur
            clear hjb hjs hcur
            go_wp2_with fail
            clear heq
            have HA : MassAt g i k kt mi mk t w3.drew := ⟨m1, m2, H3.out.2.off 2, H3.out.2.off 3, H3.out.2.off 4, H3.out.2.off 5⟩
            have HOA : Hid (Only [] wr w3.drew) := H3.out.1.drew
            clear m1 m2
            generalize w3.drew = wA at HA HOA ⊢
            go_cut [11] from 39 to 69 (fun s11 wc => ∃ p, s11 = .pointer (some ⟨p, 0, none⟩) ∧ Kept wA wc ∧ wA.heap.size ≤ p ∧ wc.cell? ⟨p, 0, none⟩ = some (.pointer (some ⟨g, i * 17, none⟩)) ∧ wc.cell? ⟨p, 1, none⟩ = some (.pointer (some ⟨g, k * 17, none⟩)) ∧ wc.cell? ⟨p, 2, none⟩ = some (.int .i64 (lightX mi)) ∧ wc.cell? ⟨p, 3, none⟩ = some (.int .i64 (lightX mk)) ∧ wc.cell? ⟨p, 4, none⟩ = some (.int .i64 0) ∧ wc.cell? ⟨p, 5, none⟩ = some (.int .i64 t.way.x) ∧ wc.cell? ⟨p, 6, none⟩ = some (.int .i64 t.way.y) ∧ wc.cell? ⟨p, 7, none⟩ = some (.int .i64 t.way.z) ∧ wc.cell? ⟨p, 8, none⟩ = some (.int .i64 t.deep) ∧ wc.frozen? ⟨p, 4, none⟩ = false)
            case first =>
              refine wp_region_held_drew (S := fun w' => Kept wA w' ∧ (w'.cell? ⟨g, i * 17 + 15, none⟩ = some (.int .i64 mi) ∧ w'.cell? ⟨g, k * 17 + 15, none⟩ = some (.int .i64 mk) ∧ w'.cell? ⟨kt, 2, none⟩ = some (.int .i64 t.way.x) ∧ w'.cell? ⟨kt, 3, none⟩ = some (.int .i64 t.way.y) ∧ w'.cell? ⟨kt, 4, none⟩ = some (.int .i64 t.way.z) ∧ w'.cell? ⟨kt, 5, none⟩ = some (.int .i64 t.deep))) (by kernel_rfl) ?_ (fun hH0 => ?_)
              · (try dsimp only); exact ⟨(Kept.refl _).drew, HA.step (Kept.refl _).drew⟩
              refine tkW 0 rfl ?_; refine tkW 1 rfl ?_; refine tkW 2 rfl ?_; refine tkW 3 rfl ?_
              try simp only [Act.put, List.setIfInBounds_toArray, List.set_cons_zero, List.set_cons_succ, List.getElem_toArray, List.getElem_cons_succ, List.getElem_cons_zero]
              refine tkW 4 rfl ?_; refine tkW 5 rfl ?_; refine tkW 7 rfl ?_; refine tkW 8 rfl ?_
              try simp only [Act.put, List.setIfInBounds_toArray, List.set_cons_zero, List.set_cons_succ, List.getElem_toArray, List.getElem_cons_succ, List.getElem_cons_zero]
              refine tkW 9 rfl ?_; refine tkW 10 rfl ?_; refine tkW 12 rfl ?_; refine tkW 13 rfl ?_
              try simp only [Act.put, List.setIfInBounds_toArray, List.set_cons_zero, List.set_cons_succ, List.getElem_toArray, List.getElem_cons_succ, List.getElem_cons_zero]
              refine tkW 14 rfl ?_; refine tkW 15 rfl ?_
              try simp only [Act.put, List.setIfInBounds_toArray, List.set_cons_zero, List.set_cons_succ, List.getElem_toArray, List.getElem_cons_succ, List.getElem_cons_zero]
              refine wpAnyH_ready (rs := [6, 17]) (by kernel_rfl) (by simp) ?_
              refine AllReadyH.cons rfl (fun K hK => ?_) (AllReadyH.cons rfl (fun K hK => ?_) AllReadyH.nil)
              · rw [if_pos (by rfl)]
                simp only [List.getElem_toArray, List.getElem_cons_succ, List.getElem_cons_zero]
                go_simp
                (go_at_call 20; refine (light_calls mi _).mono ?_; rintro e wc1 ⟨rfl, kc1⟩)
                try go_wp2_with fail
                refine hK.out _ _ ?_ (fun hH1 => ?_)
                · exact ⟨hH0.1.trans kc1, HA.step (hH0.1.trans kc1)⟩
                clear hK K hH0
                try simp only [Act.put, List.setIfInBounds_toArray, List.set_cons_zero, List.set_cons_succ, List.getElem_toArray, List.getElem_cons_succ, List.getElem_cons_zero]
                refine wpAnyH_ready (rs := [11, 17]) (by kernel_rfl) (by simp) ?_
                refine AllReadyH.cons rfl (fun K hK => ?_) (AllReadyH.cons rfl (fun K hK => ?_) AllReadyH.nil)
                · rw [if_pos (by rfl)]
                  simp only [List.getElem_toArray, List.getElem_cons_succ, List.getElem_cons_zero]
                  go_simp
                  (go_at_call 20; refine (light_calls mk _).mono ?_; rintro e wc2 ⟨rfl, kc2⟩)
                  try go_wp2_with fail
                  refine hK.out _ _ ?_ (fun hH2 => ?_)
                  · exact ⟨hH1.1.trans kc2, HA.step (hH1.1.trans kc2)⟩
                  clear hK K hH1
                  try simp only [Act.put, List.setIfInBounds_toArray, List.set_cons_zero, List.set_cons_succ, List.getElem_toArray, List.getElem_cons_succ, List.getElem_cons_zero]
                  refine tkW 16 rfl ?_
                  try simp only [Act.put, List.setIfInBounds_toArray, List.set_cons_zero, List.set_cons_succ, List.getElem_toArray, List.getElem_cons_succ, List.getElem_cons_zero]
                  refine wpAnyH_ready (rs := [17]) (by kernel_rfl) (by simp) ?_
                  refine AllReadyH.cons rfl (fun K hK => ?_) AllReadyH.nil
                  rw [if_pos (by rfl)]
                  simp only [List.getElem_toArray, List.getElem_cons_succ, List.getElem_cons_zero]
                  go_simp
                  refine hK.out _ _ ?_ (fun hH3 => ?_)
                  · exact ⟨hH2.1.alloc _ _, HA.step (hH2.1.alloc _ _)⟩
                  have hp : wA.heap.size ≤ wc2.heap.size := Nat.le_trans hH2.1.below.size (Nat.le_of_eq (by simp))
                  have hP : Fr9 wA (wc2.heap.size) (wc2.alloc (.cells #[.pointer none, .pointer none, .int .i64 0, .int .i64 0, .int .i64 0, .int .i64 0, .int .i64 0, .int .i64 0, .int .i64 0] 49)) := by refine ⟨hH2.1.alloc _ _, cellV_of (v := .pointer none) ?_, cellV_of (v := .pointer none) ?_, cellV_of (v := .int .i64 0) ?_, cellV_of (v := .int .i64 0) ?_, cellV_of (v := .int .i64 0) ?_, cellV_of (v := .int .i64 0) ?_, cellV_of (v := .int .i64 0) ?_, cellV_of (v := .int .i64 0) ?_, cellV_of (v := .int .i64 0) ?_, ?_, ?_, ?_, ?_, ?_, ?_, ?_, ?_, ?_⟩ <;> go_simp
                  clear hK K hH2
                  try simp only [Act.put, List.setIfInBounds_toArray, List.set_cons_zero, List.set_cons_succ, List.getElem_toArray, List.getElem_cons_succ, List.getElem_cons_zero]
                  generalize (wc2.alloc (.cells #[.pointer none, .pointer none, .int .i64 0, .int .i64 0, .int .i64 0, .int .i64 0, .int .i64 0, .int .i64 0, .int .i64 0] 49)) = wz4 at hH3 hP ⊢
                  have hP0 := hP
                  obtain ⟨_, cp0, cp1, cp2, cp3, cp4, cp5, cp6, cp7, cp8, fp0, fp1, fp2, fp3, fp4, fp5, fp6, fp7, fp8⟩ := hP0
                  refine wpAnyH_ready (rs := [18]) (by kernel_rfl) (by simp) ?_
                  refine AllReadyH.cons rfl (fun K hK => ?_) AllReadyH.nil
                  rw [if_pos (by rfl)]
                  simp only [List.getElem_toArray, List.getElem_cons_succ, List.getElem_cons_zero]
                  go_simp
                  refine hK.out _ _ ?_ (fun hS1 => ?_)
                  · exact ⟨kept_set9 hH3.1 hp _ _ _ _ _ _ _ _ _, HA.step (kept_set9 hH3.1 hp _ _ _ _ _ _ _ _ _)⟩
                  clear hK K
                  try simp only [Act.put, List.setIfInBounds_toArray, List.set_cons_zero, List.set_cons_succ, List.getElem_toArray, List.getElem_cons_succ, List.getElem_cons_zero]
                  refine wpAnyH_done (by kernel_rfl) ?_ _
                  obtain ⟨s0, s1, s2, s3, s4, s5, s6, s7, s8⟩ := set9_of (v0 := .pointer (some ⟨g, i * 17, none⟩)) (v1 := .pointer (some ⟨g, k * 17, none⟩)) (v2 := .int .i64 (lightX mi)) (v3 := .int .i64 (lightX mk)) (v4 := .int .i64 0) (v5 := .int .i64 t.way.x) (v6 := .int .i64 t.way.y) (v7 := .int .i64 t.way.z) (v8 := .int .i64 t.deep) cp0 cp1 cp2 cp3 cp4 cp5 cp6 cp7 cp8
                  have hfz := frz9 fp4 (.pointer (some ⟨g, i * 17, none⟩)) (.pointer (some ⟨g, k * 17, none⟩)) (.int .i64 (lightX mi)) (.int .i64 (lightX mk)) (.int .i64 0) (.int .i64 t.way.x) (.int .i64 t.way.y) (.int .i64 t.way.z) (.int .i64 t.deep)
                  go_wp2_with fail
                  go_meet
                  case rel => exact ⟨_, rfl, hS1.1, hp, s0, s1, s2, s3, s4, s5, s6, s7, s8, hfz⟩
                · rw [if_pos (by rfl)]
                  simp only [List.getElem_toArray, List.getElem_cons_succ, List.getElem_cons_zero]
                  go_simp
                  refine hK.out _ _ ?_ (fun hH5 => ?_)
                  · exact ⟨hH1.1.alloc _ _, HA.step (hH1.1.alloc _ _)⟩
                  have hp : wA.heap.size ≤ wc1.heap.size := Nat.le_trans hH1.1.below.size (Nat.le_of_eq (by simp))
                  have hP : Fr9 wA (wc1.heap.size) (wc1.alloc (.cells #[.pointer none, .pointer none, .int .i64 0, .int .i64 0, .int .i64 0, .int .i64 0, .int .i64 0, .int .i64 0, .int .i64 0] 49)) := by refine ⟨hH1.1.alloc _ _, cellV_of (v := .pointer none) ?_, cellV_of (v := .pointer none) ?_, cellV_of (v := .int .i64 0) ?_, cellV_of (v := .int .i64 0) ?_, cellV_of (v := .int .i64 0) ?_, cellV_of (v := .int .i64 0) ?_, cellV_of (v := .int .i64 0) ?_, cellV_of (v := .int .i64 0) ?_, cellV_of (v := .int .i64 0) ?_, ?_, ?_, ?_, ?_, ?_, ?_, ?_, ?_, ?_⟩ <;> go_simp
                  clear hK K hH1
                  try simp only [Act.put, List.setIfInBounds_toArray, List.set_cons_zero, List.set_cons_succ, List.getElem_toArray, List.getElem_cons_succ, List.getElem_cons_zero]
                  refine wpAnyH_ready (rs := [11]) (by kernel_rfl) (by simp) ?_
                  refine AllReadyH.cons rfl (fun K hK => ?_) AllReadyH.nil
                  rw [if_pos (by rfl)]
                  simp only [List.getElem_toArray, List.getElem_cons_succ, List.getElem_cons_zero]
                  go_simp
                  (go_at_call 20; refine (light_calls mk _).mono ?_; rintro e wc6 ⟨rfl, kc6⟩)
                  try go_wp2_with fail
                  refine hK.out _ _ ?_ (fun hH6 => ?_)
                  · exact ⟨hH5.1.trans kc6, HA.step (hH5.1.trans kc6)⟩
                  replace hP := hP.step kc6
                  clear hK K hH5
                  try simp only [Act.put, List.setIfInBounds_toArray, List.set_cons_zero, List.set_cons_succ, List.getElem_toArray, List.getElem_cons_succ, List.getElem_cons_zero]
                  refine tkW 16 rfl ?_
                  try simp only [Act.put, List.setIfInBounds_toArray, List.set_cons_zero, List.set_cons_succ, List.getElem_toArray, List.getElem_cons_succ, List.getElem_cons_zero]
                  have hP0 := hP
                  obtain ⟨_, cp0, cp1, cp2, cp3, cp4, cp5, cp6, cp7, cp8, fp0, fp1, fp2, fp3, fp4, fp5, fp6, fp7, fp8⟩ := hP0
                  refine wpAnyH_ready (rs := [18]) (by kernel_rfl) (by simp) ?_
                  refine AllReadyH.cons rfl (fun K hK => ?_) AllReadyH.nil
                  rw [if_pos (by rfl)]
                  simp only [List.getElem_toArray, List.getElem_cons_succ, List.getElem_cons_zero]
                  go_simp
                  refine hK.out _ _ ?_ (fun hS1 => ?_)
                  · exact ⟨kept_set9 hH6.1 hp _ _ _ _ _ _ _ _ _, HA.step (kept_set9 hH6.1 hp _ _ _ _ _ _ _ _ _)⟩
                  clear hK K
                  try simp only [Act.put, List.setIfInBounds_toArray, List.set_cons_zero, List.set_cons_succ, List.getElem_toArray, List.getElem_cons_succ, List.getElem_cons_zero]
                  refine wpAnyH_done (by kernel_rfl) ?_ _
                  obtain ⟨s0, s1, s2, s3, s4, s5, s6, s7, s8⟩ := set9_of (v0 := .pointer (some ⟨g, i * 17, none⟩)) (v1 := .pointer (some ⟨g, k * 17, none⟩)) (v2 := .int .i64 (lightX mi)) (v3 := .int .i64 (lightX mk)) (v4 := .int .i64 0) (v5 := .int .i64 t.way.x) (v6 := .int .i64 t.way.y) (v7 := .int .i64 t.way.z) (v8 := .int .i64 t.deep) cp0 cp1 cp2 cp3 cp4 cp5 cp6 cp7 cp8
                  have hfz := frz9 fp4 (.pointer (some ⟨g, i * 17, none⟩)) (.pointer (some ⟨g, k * 17, none⟩)) (.int .i64 (lightX mi)) (.int .i64 (lightX mk)) (.int .i64 0) (.int .i64 t.way.x) (.int .i64 t.way.y) (.int .i64 t.way.z) (.int .i64 t.deep)
                  go_wp2_with fail
                  go_meet
                  case rel => exact ⟨_, rfl, hS1.1, hp, s0, s1, s2, s3, s4, s5, s6, s7, s8, hfz⟩
              · rw [if_pos (by rfl)]
                simp only [List.getElem_toArray, List.getElem_cons_succ, List.getElem_cons_zero]
                go_simp
                refine hK.out _ _ ?_ (fun hH7 => ?_)
                · exact ⟨hH0.1.alloc _ _, HA.step (hH0.1.alloc _ _)⟩
                have hp : wA.heap.size ≤ wA.heap.size := Nat.le_trans hH0.1.below.size (Nat.le_of_eq (by simp))
                have hP : Fr9 wA (wA.heap.size) (wA.drew.alloc (.cells #[.pointer none, .pointer none, .int .i64 0, .int .i64 0, .int .i64 0, .int .i64 0, .int .i64 0, .int .i64 0, .int .i64 0] 49)) := by refine ⟨hH0.1.alloc _ _, cellV_of (v := .pointer none) ?_, cellV_of (v := .pointer none) ?_, cellV_of (v := .int .i64 0) ?_, cellV_of (v := .int .i64 0) ?_, cellV_of (v := .int .i64 0) ?_, cellV_of (v := .int .i64 0) ?_, cellV_of (v := .int .i64 0) ?_, cellV_of (v := .int .i64 0) ?_, cellV_of (v := .int .i64 0) ?_, ?_, ?_, ?_, ?_, ?_, ?_, ?_, ?_, ?_⟩ <;> go_simp
                clear hK K hH0
                try simp only [Act.put, List.setIfInBounds_toArray, List.set_cons_zero, List.set_cons_succ, List.getElem_toArray, List.getElem_cons_succ, List.getElem_cons_zero]
                refine wpAnyH_ready (rs := [6]) (by kernel_rfl) (by simp) ?_
                refine AllReadyH.cons rfl (fun K hK => ?_) AllReadyH.nil
                rw [if_pos (by rfl)]
                simp only [List.getElem_toArray, List.getElem_cons_succ, List.getElem_cons_zero]
                go_simp
                (go_at_call 20; refine (light_calls mi _).mono ?_; rintro e wc8 ⟨rfl, kc8⟩)
                try go_wp2_with fail
                refine hK.out _ _ ?_ (fun hH8 => ?_)
                · exact ⟨hH7.1.trans kc8, HA.step (hH7.1.trans kc8)⟩
                replace hP := hP.step kc8
                clear hK K hH7
                try simp only [Act.put, List.setIfInBounds_toArray, List.set_cons_zero, List.set_cons_succ, List.getElem_toArray, List.getElem_cons_succ, List.getElem_cons_zero]
                refine wpAnyH_ready (rs := [11]) (by kernel_rfl) (by simp) ?_
                refine AllReadyH.cons rfl (fun K hK => ?_) AllReadyH.nil
                rw [if_pos (by rfl)]
                simp only [List.getElem_toArray, List.getElem_cons_succ, List.getElem_cons_zero]
                go_simp
                (go_at_call 20; refine (light_calls mk _).mono ?_; rintro e wc9 ⟨rfl, kc9⟩)
                try go_wp2_with fail
                refine hK.out _ _ ?_ (fun hH9 => ?_)
                · exact ⟨hH8.1.trans kc9, HA.step (hH8.1.trans kc9)⟩
                replace hP := hP.step kc9
                clear hK K hH8
                try simp only [Act.put, List.setIfInBounds_toArray, List.set_cons_zero, List.set_cons_succ, List.getElem_toArray, List.getElem_cons_succ, List.getElem_cons_zero]
                refine tkW 16 rfl ?_
                try simp only [Act.put, List.setIfInBounds_toArray, List.set_cons_zero, List.set_cons_succ, List.getElem_toArray, List.getElem_cons_succ, List.getElem_cons_zero]
                have hP0 := hP
                obtain ⟨_, cp0, cp1, cp2, cp3, cp4, cp5, cp6, cp7, cp8, fp0, fp1, fp2, fp3, fp4, fp5, fp6, fp7, fp8⟩ := hP0
                refine wpAnyH_ready (rs := [18]) (by kernel_rfl) (by simp) ?_
                refine AllReadyH.cons rfl (fun K hK => ?_) AllReadyH.nil
                rw [if_pos (by rfl)]
                simp only [List.getElem_toArray, List.getElem_cons_succ, List.getElem_cons_zero]
                go_simp
                refine hK.out _ _ ?_ (fun hS1 => ?_)
                · exact ⟨kept_set9 hH9.1 hp _ _ _ _ _ _ _ _ _, HA.step (kept_set9 hH9.1 hp _ _ _ _ _ _ _ _ _)⟩
                clear hK K
                try simp only [Act.put, List.setIfInBounds_toArray, List.set_cons_zero, List.set_cons_succ, List.getElem_toArray, List.getElem_cons_succ, List.getElem_cons_zero]
                refine wpAnyH_done (by kernel_rfl) ?_ _
                obtain ⟨s0, s1, s2, s3, s4, s5, s6, s7, s8⟩ := set9_of (v0 := .pointer (some ⟨g, i * 17, none⟩)) (v1 := .pointer (some ⟨g, k * 17, none⟩)) (v2 := .int .i64 (lightX mi)) (v3 := .int .i64 (lightX mk)) (v4 := .int .i64 0) (v5 := .int .i64 t.way.x) (v6 := .int .i64 t.way.y) (v7 := .int .i64 t.way.z) (v8 := .int .i64 t.deep) cp0 cp1 cp2 cp3 cp4 cp5 cp6 cp7 cp8
                have hfz := frz9 fp4 (.pointer (some ⟨g, i * 17, none⟩)) (.pointer (some ⟨g, k * 17, none⟩)) (.int .i64 (lightX mi)) (.int .i64 (lightX mk)) (.int .i64 0) (.int .i64 t.way.x) (.int .i64 t.way.y) (.int .i64 t.way.z) (.int .i64 t.deep)
                go_wp2_with fail
                go_meet
                case rel => exact ⟨_, rfl, hS1.1, hp, s0, s1, s2, s3, s4, s5, s6, s7, s8, hfz⟩
            case rest =>
              clear HA
              obtain ⟨p, rfl, kc, hp, s0, s1, s2, s3, s4, s5, s6, s7, s8, hfz⟩ := hcut
              have HC : Hid (Only [] wr wc ∧ wr.heap.size ≤ p) := ⟨HOA.out.trans (Only.of_kept kc), Nat.le_trans HOA.out.size hp⟩
              clear kc hp HOA
              generalize lightX mi = x at HE s2
              generalize lightX mk = y at HE s3
              go_wp2_with fail
              refine (add_calls x y wc).mono ?_
              rintro e w6 ⟨rfl, k6⟩
              have HC6 : Hid (Only [] wr w6 ∧ wr.heap.size ≤ p) := ⟨HC.out.1.trans (Only.of_kept k6), HC.out.2⟩
              have r0 := kept_cell k6 s0
              have r1 := kept_cell k6 s1
              have r2 := kept_cell k6 s2
              have r3 := kept_cell k6 s3
              have r4 := kept_cell k6 s4
              have r5 := kept_cell k6 s5
              have r6 := kept_cell k6 s6
              have r7 := kept_cell k6 s7
              have r8 := kept_cell k6 s8
              have hf6 := kept_frozen k6 hfz
              clear k6 s0 s1 s2 s3 s4 s5 s6 s7 s8 hfz HC
              generalize add x y = al at HE
              by_cases hal : 0 < al
              · have HE1 : Hid (meetX1 n B (T j) = [⟨i, k, x, y, al, t.way, t.deep⟩]) := by show meetX1 n B (T j) = _; rw [← HT.out, HE.out, if_pos hal]
                go_upto_region 11 with fail
                have H7 : Hid (Only [] wr (w6.setCell ⟨p, 4, none⟩ (.int .i64 al))) := HC6.out.1.setCell (p := ⟨p, 4, none⟩) (Or.inr HC6.out.2) _
                have q0 : (w6.setCell ⟨p, 4, none⟩ (.int .i64 al)).cell? ⟨p, 0, none⟩ = some (.pointer (some ⟨g, i * 17, none⟩)) := by go_simp
                have q1 : (w6.setCell ⟨p, 4, none⟩ (.int .i64 al)).cell? ⟨p, 1, none⟩ = some (.pointer (some ⟨g, k * 17, none⟩)) := by go_simp
                have q2 : (w6.setCell ⟨p, 4, none⟩ (.int .i64 al)).cell? ⟨p, 2, none⟩ = some (.int .i64 x) := by go_simp
                have q3 : (w6.setCell ⟨p, 4, none⟩ (.int .i64 al)).cell? ⟨p, 3, none⟩ = some (.int .i64 y) := by go_simp
                have q4 : (w6.setCell ⟨p, 4, none⟩ (.int .i64 al)).cell? ⟨p, 4, none⟩ = some (.int .i64 al) := by go_simp
                have q5 : (w6.setCell ⟨p, 4, none⟩ (.int .i64 al)).cell? ⟨p, 5, none⟩ = some (.int .i64 t.way.x) := by go_simp
                have q6 : (w6.setCell ⟨p, 4, none⟩ (.int .i64 al)).cell? ⟨p, 6, none⟩ = some (.int .i64 t.way.y) := by go_simp
                have q7 : (w6.setCell ⟨p, 4, none⟩ (.int .i64 al)).cell? ⟨p, 7, none⟩ = some (.int .i64 t.way.z) := by go_simp
                have q8 : (w6.setCell ⟨p, 4, none⟩ (.int .i64 al)).cell? ⟨p, 8, none⟩ = some (.int .i64 t.deep) := by go_simp
                clear r0 r1 r2 r3 r4 r5 r6 r7 r8 hf6
                revert H7 q0 q1 q2 q3 q4 q5 q6 q7 q8
                generalize World.setCell w6 _ _ = w7
                intro H7 q0 q1 q2 q3 q4 q5 q6 q7 q8
                have hsl := HS.out.sl.only H7.out (by simp)
                have hml := meetsX_len n B T j
                obtain ⟨i2, hi0, hz0, hz1, hz2⟩ := info_parts' meetInfo
                unfold SlMt at hsl
                go_wp2_with (first | (at_builtin; refine wpList_append_own_at _ rfl _ _ 45 rfl 0 49 i2 (.agg #[.pointer none, .pointer none, .int .i64 0, .int .i64 0, .int .i64 0, .int .i64 0, .int .i64 0, .int .i64 0, .int .i64 0]) 9 72 Try.underlying45 hi0 hz0 hz1 hz2 rfl (by decide) v _ _ rfl (World.ownsRow.alloc hsl _) ⟨w7.heap.size, 0, none⟩ 1 1 [.pointer (some ⟨g, i * 17, none⟩), .pointer (some ⟨g, k * 17, none⟩), .int .i64 x, .int .i64 y, .int .i64 al, .int .i64 t.way.x, .int .i64 t.way.y, .int .i64 t.way.z, .int .i64 t.deep] rfl rfl (cell_nine _ _ _ _ _ _ _ _ _ _ _) (by simp [Value.oneCell']) (by unfold maxLen; omega) (by omega) (by simp) ?_; intro v' w8 hown hgrow hnil hloc; have H8 : Hid (_ ∧ _ ∧ _) := SlMt.put (q := ⟨i, k, x, y, al, t.way, t.deep⟩) hown hgrow hloc; clear hown hgrow hnil hloc hsl))
                go_roundg (m - (j + 1))
                case measure => have := H2.out.2; omega
                case rel => exact ⟨v', j + 1, rfl, by go_num, ⟨by omega, rfl⟩, HS.out.put HE1.out H7.out H8.out⟩
              · have HE1 : Hid (meetX1 n B (T j) = []) := by show meetX1 n B (T j) = _; rw [← HT.out, HE.out, if_neg hal]
                go_wp2_with fail
                go_roundg (m - (j + 1))
                case measure => have := H2.out.2; omega
                case rel => exact ⟨v, j + 1, rfl, by go_num, ⟨by omega, rfl⟩, HS.out.next HE1.out (HC6.out.1.setCell (p := ⟨p, 4, none⟩) (Or.inr HC6.out.2) _)⟩
    · have hjl : ¬ (j : Int) < (m : Int) := by omega
      obtain rfl : j = m := by have := H2.out.1; omega
      go_wp2_with fail
      go_ret
      exact ⟨v, rfl, HS.out.sl, H1.out.2.trans HS.out.only, fun q hq => Nat.le_trans H1.out.2.size (HS.out.new q hq)⟩
end Go.Proofs.Ytpegjobehdihbaa
