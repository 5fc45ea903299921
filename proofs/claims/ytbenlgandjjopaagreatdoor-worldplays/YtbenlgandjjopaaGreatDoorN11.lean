/- . -/
import Derived.Test.YtbenlgandjjopaaGreatDoorN10
open Go.Value renaming int → J
open Go.IntKind renaming i64 → U
open Go.World renaming cell?_setCell_other → zra,frozen?_setCell → zrb
open List renaming mem_singleton → zrc
namespace Go.Proofs.YtbenlgandjjopaaGreatDoor
set_option maxRecDepth 100000
set_option maxHeartbeats 4000000
open Go.ChangeShapes Go.WideShapes Go.ChangeAt Go.RowKit
open Go.Maps (Keyed)
set_option linter.unusedVariables false
set_option linter.unusedSimpArgs false
variable {w w' w1 w2 w3 wr : World} {g n kt b0 : Nat} {tp te ta tb : TypeId} {j : TypeInfo} {t : Tc} {v v' : Value} {B : Nat → Bd} {a b : Addr} {ca cb : Array Value} {D : List Nat}
section
variable {P : Program} (w : World)
theorem yer (d : Nat) (a : Addr) (hp : P.underlying tp = some (.pointer te)) (hte : P.info? te = some j) : (Op.equalIn (d + 1) tp (.pointer (some a)) (.pointer (some a))).run P w = .ok true w := by
 simp [Op.equalIn,run_underlying hp,sizeOf,typeInfo,run_sameAddr_same,hte]
theorem ydv (d : Nat) (hp : P.underlying tp = some (.pointer te)) (hte : P.info? te = some j) (hsz : j.size ≠ 0)
  (hne : a ≠ b) (ha : w.heap[a.block]? = some (.cells ca ta (0,0))) (hb : w.heap[b.block]? = some (.cells cb tb (0,0))) : (Op.equalIn (d + 1) tp (.pointer (some a)) (.pointer (some b))).run P w = .ok false w := by
 simp [Op.equalIn,run_underlying hp,sizeOf,typeInfo,hte,hsz,run_sameAddr_other w hne ha hb]
theorem eqS_same (a : Addr) (hp : P.underlying tp = some (.pointer te)) (hte : P.info? te = some j) : (binOp .eql tp (.pointer (some a)) (.pointer (some a))).run P w = .ok (.bool true) w := by
 simp only [binOp];simp [Op.equal,Op.maxDepth,yer w 9999 a hp hte]
theorem yix (hp : P.underlying tp = some (.pointer te)) (hte : P.info? te = some j) (hsz : j.size ≠ 0)
  (hne : a ≠ b) (ha : w.heap[a.block]? = some (.cells ca ta (0,0))) (hb : w.heap[b.block]? = some (.cells cb tb (0,0))) : (binOp .eql tp (.pointer (some a)) (.pointer (some b))).run P w = .ok (.bool false) w := by
 simp only [binOp];simp [Op.equal,Op.maxDepth,ydv w 9999 hp hte hsz hne ha hb]
end
def TouchesAt (w : World) (a : Option Addr) (m : Nat) (T : Nat → Tc) : Prop := ∀ j,j < m → In64S (T j).a ∧ In64S (T j).b ∧ ∃ g o,a = some ⟨g,o,none⟩ ∧ w.cell? ⟨g,o + j * 6,none⟩ = some (J U ((T j).a)) ∧ w.cell? ⟨g,o + j * 6 + 1,none⟩ = some (J U ((T j).b)) ∧ w.cell? ⟨g,o + j * 6 + 2,none⟩ = some (J U ((T j).way.x)) ∧ w.cell? ⟨g,o + j * 6 + 3,none⟩ = some (J U ((T j).way.y)) ∧ w.cell? ⟨g,o + j * 6 + 4,none⟩ = some (J U ((T j).way.z)) ∧ w.cell? ⟨g,o + j * 6 + 5,none⟩ = some (J U ((T j).deep))
theorem TouchesAt.only {a : Option Addr} {m : Nat} {T : Nat → Tc} (h : TouchesAt w a m T) (o : Only [] w w') : TouchesAt w' a m T := by
 intro j hj;obtain ⟨i1,i2,b,of,e,h0,h1,h2,h3,h4,h5⟩ := h j hj;exact ⟨i1,i2,b,of,e,y09 o h0,y09 o h1,y09 o h2,y09 o h3,y09 o h4,y09 o h5⟩
def TouchAt (w : World) (kt : Nat) (t : Tc) : Prop := w.heap[kt]? = some (.cells #[J U t.a,J U t.b,J U t.way.x,J U t.way.y,J U t.way.z,J U t.deep] 68)
theorem TouchAt.only (h : TouchAt w kt t) (o : Only D w w') (s : kt ∉ D) : TouchAt w' kt t := (o.block kt (Array.getElem?_eq_some_iff.1 h).1 s).trans h
theorem TouchAt.off (h : TouchAt w kt t) (j : Nat) : w.cell? (Y kt j) = (#[I t.a,I t.b,I t.way.x,I t.way.y,I t.way.z,I t.deep] : Array Value)[j]? := by
 unfold TouchAt at h; simp [World.cell?,h]
structure Mt where
 (i k : Nat) (x y all : Int) (way : V3) (deep : Int)
variable {q : Mt} {ms : List Mt}
def mtL (g : Nat) (t : Mt) : List Value := [.pointer (some ⟨g,t.i * 17,none⟩),.pointer (some ⟨g,t.k * 17,none⟩),J U t.x,J U t.y,J U t.all,J U t.way.x,J U t.way.y,J U t.way.z,J U t.deep]
def SlMt (w : World) (v : Value) (g : Nat) (ms : List Mt) : Prop := w.ownsRow 0 131 9 v ms.length (ms.flatMap (mtL g))
def ownM (v : Value) : List Nat := v.ownBlock.toList
theorem SlMt.only (h : SlMt w v g ms) (o : Only D w w') (s : ∀ b ∈ ownM v,b ∉ D) : SlMt w' v g ms := by
 obtain ⟨hl,⟨rfl,hn⟩ | ⟨q,cap,cur,rfl,hb,hh,h1,h2,h3,h4⟩⟩ := h
 ·exact ⟨hl,Or.inl ⟨rfl,hn⟩⟩
 ·exact ⟨hl,Or.inr ⟨q,cap,cur,rfl,hb,(o.block q (Array.getElem?_eq_some_iff.1 hh).1 (s q (by simp [ownM,Value.ownBlock]))).trans hh,h1,h2,h3,h4⟩⟩
theorem SlMt.nil (w : World) (g : Nat) : SlMt w (.slice none 0 0) g [] := World.ownsRow_nil w 0 _ _
def meetX1 (n : Nat) (B : Nat → Bd) (t : Tc) : List Mt :=
 match findX B t.a n,findX B t.b n with
 | some i,some k => if i = k then [] else
   if 0 < add (lightX (B i).ms) (lightX (B k).ms) then [⟨i,k,lightX (B i).ms,lightX (B k).ms,add (lightX (B i).ms) (lightX (B k).ms),t.way,t.deep⟩] else []
 | _,_ => []
def meetsX (n : Nat) (B : Nat → Bd) (T : Nat → Tc) : Nat → List Mt
 | 0 => []
 | m + 1 => meetsX n B T m ++ meetX1 n B (T m)
theorem yi2 (n : Nat) (B : Nat → Bd) (t : Tc) : (meetX1 n B t).length ≤ 1 := by
 unfold meetX1;split
 ·split
  ·simp
  ·split <;> simp
 ·simp
theorem y4y (n : Nat) (B : Nat → Bd) (T : Nat → Tc) : ∀ m,(meetsX n B T m).length ≤ m
 | 0 => by simp [meetsX]
 | m + 1 => by
  have := y4y n B T m;have := yi2 n B (T m);simp only [meetsX,List.length_append]; omega
theorem yir (h : q ∈ meetX1 n B t) : q.i < n ∧ q.k < n ∧ q.i ≠ q.k := by
 unfold meetX1 at h;split at h
 ·rename_i i k hi hk
  split at h
  ·simp at h
  ·rename_i ne
   split at h
   ·simp only [zrc] at h
    subst h;exact ⟨(y0c hi).1,(y0c hk).1,ne⟩
   ·simp at h
 ·simp at h
theorem y82 {n : Nat} {B : Nat → Bd} {T : Nat → Tc} {q : Mt} : ∀ {m : Nat},q ∈ meetsX n B T m → q.i < n ∧ q.k < n ∧ q.i ≠ q.k
 | 0,h => by simp [meetsX] at h
 | m + 1,h => by
  simp only [meetsX,List.mem_append] at h;rcases h with h | h
  ·exact y82 h
  ·exact yir h
def MeetsPost (g n m : Nat) (B : Nat → Bd) (T : Nat → Tc) (w : World) (e : Ending) (w' : World) : Prop :=
 ∃ v,e = .returned v ∧ SlMt w' v g (meetsX n B T m) ∧ Only [] w w' ∧ (∀ q ∈ ownM v,w.heap.size ≤ q)
structure MSv (w : World) (g n : Nat) (B : Nat → Bd) (T : Nat → Tc) (j : Nat) (v : Value) (wr : World) : Prop where
 sl : SlMt wr v g (meetsX n B T j)
 only : Only [] w wr
 new : ∀ q ∈ ownM v,w.heap.size ≤ q
def Fr9 (w : World) (b0 : Nat) (w' : World) : Prop :=
 Kept w w' ∧
 w'.cell? ⟨b0,0,none⟩ = some (cellV w' ⟨b0,0,none⟩) ∧
 w'.cell? ⟨b0,1,none⟩ = some (cellV w' ⟨b0,1,none⟩) ∧
 w'.cell? ⟨b0,2,none⟩ = some (cellV w' ⟨b0,2,none⟩) ∧
 w'.cell? ⟨b0,3,none⟩ = some (cellV w' ⟨b0,3,none⟩) ∧
 w'.cell? ⟨b0,4,none⟩ = some (cellV w' ⟨b0,4,none⟩) ∧
 w'.cell? ⟨b0,5,none⟩ = some (cellV w' ⟨b0,5,none⟩) ∧
 w'.cell? ⟨b0,6,none⟩ = some (cellV w' ⟨b0,6,none⟩) ∧
 w'.cell? ⟨b0,7,none⟩ = some (cellV w' ⟨b0,7,none⟩) ∧
 w'.cell? ⟨b0,8,none⟩ = some (cellV w' ⟨b0,8,none⟩) ∧
 w'.frozen? ⟨b0,0,none⟩ = false ∧
 w'.frozen? ⟨b0,1,none⟩ = false ∧
 w'.frozen? ⟨b0,2,none⟩ = false ∧
 w'.frozen? ⟨b0,3,none⟩ = false ∧
 w'.frozen? ⟨b0,4,none⟩ = false ∧
 w'.frozen? ⟨b0,5,none⟩ = false ∧
 w'.frozen? ⟨b0,6,none⟩ = false ∧
 w'.frozen? ⟨b0,7,none⟩ = false ∧
 w'.frozen? ⟨b0,8,none⟩ = false
theorem Fr9.step (k : Kept w1 w2) (h : Fr9 w b0 w1) : Fr9 w b0 w2 := by
 obtain ⟨h0,h1,h2,h3,h4,h5,h6,h7,h8,h9,h10,h11,h12,h13,h14,h15,h16,h17,h18⟩ := h;exact ⟨h0.trans k,y06 k h1,y06 k h2,y06 k h3,y06 k h4,y06 k h5,y06 k h6,y06 k h7,y06 k h8,y06 k h9,y01 k h10,y01 k h11,y01 k h12,y01 k h13,y01 k h14,y01 k h15,y01 k h16,y01 k h17,y01 k h18⟩
theorem Fr9.drew {w w1 : World} {b0 : Nat} (h : Fr9 w b0 w1) : Fr9 w b0 w1.drew := h.step kd
theorem Fr9.put (i : Nat) (v : Value) (ho : w.heap.size ≤ b0)  (h : Fr9 w b0 w1) : Fr9 w b0 (w1.setCell (Y b0 i) v) := by
 obtain ⟨h0,h1,h2,h3,h4,h5,h6,h7,h8,h9,h10,h11,h12,h13,h14,h15,h16,h17,h18⟩ := h;exact ⟨h0.setCell (p := Y b0 i) ho v,y04 h1,y04 h2,y04 h3,y04 h4,y04 h5,y04 h6,y04 h7,y04 h8,y04 h9,(zrb _ _ _ _).trans h10,(zrb _ _ _ _).trans h11,(zrb _ _ _ _).trans h12,(zrb _ _ _ _).trans h13,(zrb _ _ _ _).trans h14,(zrb _ _ _ _).trans h15,(zrb _ _ _ _).trans h16,(zrb _ _ _ _).trans h17,(zrb _ _ _ _).trans h18⟩
theorem yf7 {b : Nat} {v0 v1 v2 v3 v4 v5 v6 v7 v8 u0 u1 u2 u3 u4 u5 u6 u7 u8 : Value} (h0 : w.cell? (Y b 0) = some u0) (h1 : w.cell? (Y b 1) = some u1) (h2 : w.cell? (Y b 2) = some u2) (h3 : w.cell? (Y b 3) = some u3) (h4 : w.cell? (Y b 4) = some u4) (h5 : w.cell? (Y b 5) = some u5) (h6 : w.cell? (Y b 6) = some u6) (h7 : w.cell? (Y b 7) = some u7) (h8 : w.cell? (Y b 8) = some u8) :
  (((((((((w.setCell (Y b 0) v0).setCell (Y b 1) v1).setCell (Y b 2) v2).setCell (Y b 3) v3).setCell (Y b 4) v4).setCell (Y b 5) v5).setCell (Y b 6) v6).setCell (Y b 7) v7).setCell (Y b 8) v8).cell? (Y b 0) = some v0 ∧ (((((((((w.setCell (Y b 0) v0).setCell (Y b 1) v1).setCell (Y b 2) v2).setCell (Y b 3) v3).setCell (Y b 4) v4).setCell (Y b 5) v5).setCell (Y b 6) v6).setCell (Y b 7) v7).setCell (Y b 8) v8).cell? (Y b 1) = some v1 ∧ (((((((((w.setCell (Y b 0) v0).setCell (Y b 1) v1).setCell (Y b 2) v2).setCell (Y b 3) v3).setCell (Y b 4) v4).setCell (Y b 5) v5).setCell (Y b 6) v6).setCell (Y b 7) v7).setCell (Y b 8) v8).cell? (Y b 2) = some v2 ∧ (((((((((w.setCell (Y b 0) v0).setCell (Y b 1) v1).setCell (Y b 2) v2).setCell (Y b 3) v3).setCell (Y b 4) v4).setCell (Y b 5) v5).setCell (Y b 6) v6).setCell (Y b 7) v7).setCell (Y b 8) v8).cell? (Y b 3) = some v3 ∧ (((((((((w.setCell (Y b 0) v0).setCell (Y b 1) v1).setCell (Y b 2) v2).setCell (Y b 3) v3).setCell (Y b 4) v4).setCell (Y b 5) v5).setCell (Y b 6) v6).setCell (Y b 7) v7).setCell (Y b 8) v8).cell? (Y b 4) = some v4 ∧ (((((((((w.setCell (Y b 0) v0).setCell (Y b 1) v1).setCell (Y b 2) v2).setCell (Y b 3) v3).setCell (Y b 4) v4).setCell (Y b 5) v5).setCell (Y b 6) v6).setCell (Y b 7) v7).setCell (Y b 8) v8).cell? (Y b 5) = some v5 ∧ (((((((((w.setCell (Y b 0) v0).setCell (Y b 1) v1).setCell (Y b 2) v2).setCell (Y b 3) v3).setCell (Y b 4) v4).setCell (Y b 5) v5).setCell (Y b 6) v6).setCell (Y b 7) v7).setCell (Y b 8) v8).cell? (Y b 6) = some v6 ∧ (((((((((w.setCell (Y b 0) v0).setCell (Y b 1) v1).setCell (Y b 2) v2).setCell (Y b 3) v3).setCell (Y b 4) v4).setCell (Y b 5) v5).setCell (Y b 6) v6).setCell (Y b 7) v7).setCell (Y b 8) v8).cell? (Y b 7) = some v7 ∧ (((((((((w.setCell (Y b 0) v0).setCell (Y b 1) v1).setCell (Y b 2) v2).setCell (Y b 3) v3).setCell (Y b 4) v4).setCell (Y b 5) v5).setCell (Y b 6) v6).setCell (Y b 7) v7).setCell (Y b 8) v8).cell? (Y b 8) = some v8 := by
 have n1 : ∀ i j : Nat,i ≠ j → (Y b i) ≠ (Y b j) := fun i j h e => h (by injection e)
 exact ⟨(zra _ _ _ _ (n1 8 0 (by decide))).trans ((zra _ _ _ _ (n1 7 0 (by decide))).trans ((zra _ _ _ _ (n1 6 0 (by decide))).trans ((zra _ _ _ _ (n1 5 0 (by decide))).trans ((zra _ _ _ _ (n1 4 0 (by decide))).trans ((zra _ _ _ _ (n1 3 0 (by decide))).trans ((zra _ _ _ _ (n1 2 0 (by decide))).trans ((zra _ _ _ _ (n1 1 0 (by decide))).trans (World.cell?_setCell_same _ _ _ (h0))))))))),(zra _ _ _ _ (n1 8 1 (by decide))).trans ((zra _ _ _ _ (n1 7 1 (by decide))).trans ((zra _ _ _ _ (n1 6 1 (by decide))).trans ((zra _ _ _ _ (n1 5 1 (by decide))).trans ((zra _ _ _ _ (n1 4 1 (by decide))).trans ((zra _ _ _ _ (n1 3 1 (by decide))).trans ((zra _ _ _ _ (n1 2 1 (by decide))).trans (World.cell?_setCell_same _ _ _ ((zra _ _ _ _ (n1 0 1 (by decide))).trans (h1))))))))),(zra _ _ _ _ (n1 8 2 (by decide))).trans ((zra _ _ _ _ (n1 7 2 (by decide))).trans ((zra _ _ _ _ (n1 6 2 (by decide))).trans ((zra _ _ _ _ (n1 5 2 (by decide))).trans ((zra _ _ _ _ (n1 4 2 (by decide))).trans ((zra _ _ _ _ (n1 3 2 (by decide))).trans (World.cell?_setCell_same _ _ _ ((zra _ _ _ _ (n1 1 2 (by decide))).trans ((zra _ _ _ _ (n1 0 2 (by decide))).trans (h2))))))))),(zra _ _ _ _ (n1 8 3 (by decide))).trans ((zra _ _ _ _ (n1 7 3 (by decide))).trans ((zra _ _ _ _ (n1 6 3 (by decide))).trans ((zra _ _ _ _ (n1 5 3 (by decide))).trans ((zra _ _ _ _ (n1 4 3 (by decide))).trans (World.cell?_setCell_same _ _ _ ((zra _ _ _ _ (n1 2 3 (by decide))).trans ((zra _ _ _ _ (n1 1 3 (by decide))).trans ((zra _ _ _ _ (n1 0 3 (by decide))).trans (h3))))))))),(zra _ _ _ _ (n1 8 4 (by decide))).trans ((zra _ _ _ _ (n1 7 4 (by decide))).trans ((zra _ _ _ _ (n1 6 4 (by decide))).trans ((zra _ _ _ _ (n1 5 4 (by decide))).trans (World.cell?_setCell_same _ _ _ ((zra _ _ _ _ (n1 3 4 (by decide))).trans ((zra _ _ _ _ (n1 2 4 (by decide))).trans ((zra _ _ _ _ (n1 1 4 (by decide))).trans ((zra _ _ _ _ (n1 0 4 (by decide))).trans (h4))))))))),(zra _ _ _ _ (n1 8 5 (by decide))).trans ((zra _ _ _ _ (n1 7 5 (by decide))).trans ((zra _ _ _ _ (n1 6 5 (by decide))).trans (World.cell?_setCell_same _ _ _ ((zra _ _ _ _ (n1 4 5 (by decide))).trans ((zra _ _ _ _ (n1 3 5 (by decide))).trans ((zra _ _ _ _ (n1 2 5 (by decide))).trans ((zra _ _ _ _ (n1 1 5 (by decide))).trans ((zra _ _ _ _ (n1 0 5 (by decide))).trans (h5))))))))),(zra _ _ _ _ (n1 8 6 (by decide))).trans ((zra _ _ _ _ (n1 7 6 (by decide))).trans (World.cell?_setCell_same _ _ _ ((zra _ _ _ _ (n1 5 6 (by decide))).trans ((zra _ _ _ _ (n1 4 6 (by decide))).trans ((zra _ _ _ _ (n1 3 6 (by decide))).trans ((zra _ _ _ _ (n1 2 6 (by decide))).trans ((zra _ _ _ _ (n1 1 6 (by decide))).trans ((zra _ _ _ _ (n1 0 6 (by decide))).trans (h6))))))))),(zra _ _ _ _ (n1 8 7 (by decide))).trans (World.cell?_setCell_same _ _ _ ((zra _ _ _ _ (n1 6 7 (by decide))).trans ((zra _ _ _ _ (n1 5 7 (by decide))).trans ((zra _ _ _ _ (n1 4 7 (by decide))).trans ((zra _ _ _ _ (n1 3 7 (by decide))).trans ((zra _ _ _ _ (n1 2 7 (by decide))).trans ((zra _ _ _ _ (n1 1 7 (by decide))).trans ((zra _ _ _ _ (n1 0 7 (by decide))).trans (h7))))))))),World.cell?_setCell_same _ _ _ ((zra _ _ _ _ (n1 7 8 (by decide))).trans ((zra _ _ _ _ (n1 6 8 (by decide))).trans ((zra _ _ _ _ (n1 5 8 (by decide))).trans ((zra _ _ _ _ (n1 4 8 (by decide))).trans ((zra _ _ _ _ (n1 3 8 (by decide))).trans ((zra _ _ _ _ (n1 2 8 (by decide))).trans ((zra _ _ _ _ (n1 1 8 (by decide))).trans ((zra _ _ _ _ (n1 0 8 (by decide))).trans (h8)))))))))⟩
theorem y3c {b : Nat} (k : Kept w w1) (h : w.heap.size ≤ b) (v0 v1 v2 v3 v4 v5 v6 v7 v8 : Value) : Kept w (((((((((w1.setCell (Y b 0) v0).setCell (Y b 1) v1).setCell (Y b 2) v2).setCell (Y b 3) v3).setCell (Y b 4) v4).setCell (Y b 5) v5).setCell (Y b 6) v6).setCell (Y b 7) v7).setCell (Y b 8) v8) :=
 (((((((((k.setCell (p := Y b 0) h v0).setCell (p := Y b 1) h v1).setCell (p := Y b 2) h v2).setCell (p := Y b 3) h v3).setCell (p := Y b 4) h v4).setCell (p := Y b 5) h v5).setCell (p := Y b 6) h v6).setCell (p := Y b 7) h v7).setCell (p := Y b 8) h v8)
theorem frz9 {p : Nat} (f : w.frozen? (Y p 4) = false) (v0 v1 v2 v3 v4 v5 v6 v7 v8 : Value) : (((((((((w.setCell (Y p 0) v0).setCell (Y p 1) v1).setCell (Y p 2) v2).setCell (Y p 3) v3).setCell (Y p 4) v4).setCell (Y p 5) v5).setCell (Y p 6) v6).setCell (Y p 7) v7).setCell (Y p 8) v8).frozen? (Y p 4) = false := ((zrb _ _ _ _).trans ((zrb _ _ _ _).trans ((zrb _ _ _ _).trans ((zrb _ _ _ _).trans ((zrb _ _ _ _).trans ((zrb _ _ _ _).trans ((zrb _ _ _ _).trans ((zrb _ _ _ _).trans ((zrb _ _ _ _).trans (f))))))))))
def MassAt (g i k kt : Nat) (mi mk : Int) (t : Tc) (w' : World) : Prop := w'.cell? ⟨g,i * 17 + 15,none⟩ = some (J U mi) ∧ w'.cell? ⟨g,k * 17 + 15,none⟩ = some (J U mk) ∧ w'.cell? ⟨kt,2,none⟩ = some (J U t.way.x) ∧ w'.cell? ⟨kt,3,none⟩ = some (J U t.way.y) ∧ w'.cell? ⟨kt,4,none⟩ = some (J U t.way.z) ∧ w'.cell? ⟨kt,5,none⟩ = some (J U t.deep)
theorem MassAt.step {i k : Nat} {mi mk : Int} (h : MassAt g i k kt mi mk t w) (q : Kept w w') : MassAt g i k kt mi mk t w' :=
 ⟨y00 q h.1,y00 q h.2.1,y00 q h.2.2.1,y00 q h.2.2.2.1,y00 q h.2.2.2.2.1,y00 q h.2.2.2.2.2⟩
theorem yjn (w : World) (a0 a1 a2 a3 a4 a5 a6 a7 a8 : Value) (t : TypeId) : ∀ j u,[a0,a1,a2,a3,a4,a5,a6,a7,a8][j]? = some u → (w.alloc (.cells #[a0,a1,a2,a3,a4,a5,a6,a7,a8] t)).cell? ((Y w.heap.size 0).add j) = some u := by
 intro j u hj
 match j,hj with
 | 0,hj => simp at hj; subst hj; simp [Addr.add]
 | 1,hj => simp at hj; subst hj; simp [Addr.add]
 | 2,hj => simp at hj; subst hj; simp [Addr.add]
 | 3,hj => simp at hj; subst hj; simp [Addr.add]
 | 4,hj => simp at hj; subst hj; simp [Addr.add]
 | 5,hj => simp at hj; subst hj; simp [Addr.add]
 | 6,hj => simp at hj; subst hj; simp [Addr.add]
 | 7,hj => simp at hj; subst hj; simp [Addr.add]
 | 8,hj => simp at hj; subst hj; simp [Addr.add]
 | j + 9,hj => simp at hj
theorem SlMt.put {T : TypeId} (hown : w3.ownsRow 0 131 9 v' (ms.length + 1) (ms.flatMap (mtL g) ++ mtL g q)) (hgrow : (w2.alloc (.cells (mtL g q).toArray T)).grownBy w3 v.ownBlock)
  (hloc : v'.ownBlock = v.ownBlock ∨ v'.ownBlock = some (w2.alloc (.cells (mtL g q).toArray T)).heap.size) : SlMt w3 v' g (ms ++ [q]) ∧ Only (ownM v) w2 w3 ∧ (∀ b ∈ ownM v',b ∈ ownM v ∨ w2.heap.size ≤ b) := by
 refine ⟨?_,?_,?_⟩
 ·unfold SlMt; rw [List.flatMap_append,List.length_append]; simpa using hown
 ·refine ((Only.refl _ _).alloc _).grown hgrow (fun k hk => Or.inl ?_)
  simp [ownM,hk]
 ·intro x hx
  rcases hloc with e | e
  ·left; simpa [ownM,e] using hx
  ·right
   simp only [ownM,e,Option.toList_some,zrc] at hx;simp at hx; omega
theorem MSv.put {T : Nat → Tc} {j : Nat} (h : MSv w g n B T j v wr) (e : meetX1 n B (T j) = [q]) (o : Only [] wr w2) (p : SlMt w3 v' g (meetsX n B T j ++ [q]) ∧ Only (ownM v) w2 w3 ∧ (∀ b ∈ ownM v',b ∈ ownM v ∨ w2.heap.size ≤ b)) : MSv w g n B T (j + 1) v' w3 := by
 refine ⟨by simp only [meetsX,e]; exact p.1,(h.only.trans o).then p.2.1 (fun b hb => Or.inr (h.new b hb)),fun b hb => ?_⟩;rcases p.2.2 b hb with q | q
 ·exact h.new b q
 ·exact Nat.le_trans (h.only.trans o).size q
theorem MSv.next {T : Nat → Tc} {j : Nat} (h : MSv w g n B T j v wr) (e : meetX1 n B (T j) = []) (o : Only [] wr w') : MSv w g n B T (j + 1) v w' :=
 ⟨by simp only [meetsX,e,List.append_nil]; exact h.sl.only o (by simp),h.only.trans o,h.new⟩
theorem meetInfo : (Tryz.prog.info? 131).map (fun i => (i.zero,i.size,i.bytes)) = some (some (.agg #[.pointer none,.pointer none,I 0,I 0,I 0,I 0,I 0,I 0,I 0]),9,72) := by kernel_rfl
theorem y55 (a b : Option Addr) (g n c m d : Nat) (B : Nat → Bd) (T : Nat → Tc) (w : World) (hn : n ≤ 60) (hm : m ≤ 3600) (h : OwnS w a g n B) (ht : TouchesAt w b m T) (hal : Alone n B) (hid : ∀ j,j < n → In64S (B j).id) :
  Calls Tryz.prog 75 #[.slice a n c,.slice b m d] w (MeetsPost g n m B T w) := by
 have HB : Hid (OwnS w a g n B ∧ TouchesAt w b m T ∧ Alone n B ∧ (∀ j,j < n → In64S (B j).id) ∧ n ≤ 60 ∧ m ≤ 3600) := ⟨h,ht,hal,hid,hn,hm⟩;clear h ht hal hid hn hm;go_enter Tryz.func75,Tryz.ntmps75
 go_wp2_with fail
 refine (ycy a g n c B w HB.out.2.2.2.2.1 HB.out.1 HB.out.2.2.1 HB.out.2.2.2.1).mono ?_;rintro e w1 ⟨kb,mm,rfl,hf,o1,_,_⟩;have H1 : Hid (FindAt w1 kb mm g n B ∧ Only [] w w1) := ⟨hf,o1⟩;clear hf o1;go_wp2_with fail
 go_loopg [6,16] m (fun k p idx wr => ∃ v,∃ j : Nat,v = p ∧ idx = I (j : Int) ∧ Hid (j ≤ m ∧ k = m - j) ∧ Hid (MSv w1 g n B T j v wr))
 case atStart => exact ⟨_,0,rfl,rfl,⟨by omega,rfl⟩,SlMt.nil _ _,Only.refl _ _,by simp [ownM,Value.ownBlock]⟩
 case round =>
  obtain ⟨v,j,rfl,rfl,H2,HS⟩ := hrel;have hm := HB.out.2.2.2.2.2;by_cases hj : j < m
  ·have hjl : (j : Int) < (m : Int) := by omega
   obtain ⟨i1,i2,gt,ot,rfl,c0,c1,c2,c3,c4,c5⟩ := (HB.out.2.1.only (H1.out.2.trans HS.out.only)) j hj;have HI : Hid (In64S (T j).a ∧ In64S (T j).b) := ⟨i1,i2⟩;clear i1 i2;obtain ⟨t,htj⟩ : ∃ t,t = T j := ⟨_,rfl⟩;rw [← htj] at HI c0 c1 c2 c3 c4 c5;have HT : Hid (t = T j) := htj;clear htj;go_upto_region 6 with fail
   clear c0 c1 c2 c3 c4 c5;have H3 : Hid (Only [] wr (wr.alloc (.cells #[I t.a,I t.b,I t.way.x,I t.way.y,I t.way.z,I t.deep] 68)) ∧ TouchAt (wr.alloc (.cells #[I t.a,I t.b,I t.way.x,I t.way.y,I t.way.z,I t.deep] 68)) wr.heap.size t) := ⟨(Only.refl [] wr).alloc _,(MapKept.heap_alloc wr _).1⟩;revert H3;generalize wr.heap.size = kt;generalize World.alloc wr _ = w3;intro H3;have HF : Hid (FindAt w3 kb mm g n B) := H1.out.1.only (HS.out.only.trans H3.out.1) (by simp) (by simp);have HK : Hid (∀ w',Only [] w3 w' → Only [] w3 w' ∧ w'.cell? (Y kt 0) = some (I t.a) ∧ w'.cell? (Y kt 1) = some (I t.b)) := fun w' o => ⟨o,y09 o (H3.out.2.off 0),y09 o (H3.out.2.off 1)⟩;refine wp_region_held_drew (S := (fun w' => Only [] w3 w' ∧ Zc w' kt 0 t.a ∧ Zc w' kt 1 t.b)) (by kernel_rfl) ?_ (fun hJ1 => ?_)
   ·exact HK.out _ (Only.refl _ _).drew
   refine tkU 0 (h:=tkU 1 (h:=tkU 2 (h:=tkV 4 ?_)));try simp only [zP]
   refine tkU 5 (h:=tkV 6 ?_);try simp only [zP]
   refine rdW 3 rfl fun K hK => ?_;simp only [zQ];go_simp
   (go_at_call 152; refine (yal kb mm g n B t.a _ (HF.out.only (Only.refl [] w3).drew (by simp) (by simp)) HI.out.1 HB.out.2.2.1).mono ?_; rintro e w4 ⟨rfl,hw4⟩; subst hw4)
   try go_wp2_with fail
   refine hK.out _ _ ?_ fun hJ2 => ?_
   ·exact HK.out _ (Only.refl _ _).drew
   clear hK K hJ1;try simp only [zP]
   refine rdW 7 rfl fun K hK => ?_;simp only [zQ];go_simp
   (go_at_call 152; refine (yal kb mm g n B t.b _ (HF.out.only (Only.refl [] w3).drew (by simp) (by simp)) HI.out.2 HB.out.2.2.1).mono ?_; rintro e w5 ⟨rfl,hw5⟩; subst hw5)
   try go_wp2_with fail
   refine hK.out _ _ ?_ fun hJ3 => ?_
   ·exact HK.out _ (Only.refl _ _).drew
   clear hK K hJ2;try simp only [zP]
   refine tkU 8 (h:=tkV 9 ?_);try simp only [zP]
   refine wpAnyH_done (by kernel_rfl) ?_ _
   cases hfa : findX B t.a n with
   | none =>
    have HE : Hid (meetX1 n B t = []) := by show meetX1 n B t = []; simp [meetX1,hfa]
    clear hfa;generalize ptrO g (findX B t.b n) = pb;simp only [ptrO];clear hJ3 HK;go_wp2_with fail
    go_roundg (m - (j + 1))
    case measure => have := H2.out.2; omega
    case rel => exact ⟨v,j + 1,rfl,by go_num,⟨by omega,rfl⟩,HS.out.next (by rw [← HT.out]; exact HE.out) (H3.out.1.drew)⟩
   | some i =>
    cases hfb : findX B t.b n with
    | none =>
     have HE : Hid (meetX1 n B t = []) := by show meetX1 n B t = []; simp [meetX1,hfa,hfb]
     clear hfa hfb;simp only [ptrO];clear hJ3 HK;go_wp2_with fail
     go_roundg (m - (j + 1))
     case measure => have := H2.out.2; omega
     case rel => exact ⟨v,j + 1,rfl,by go_num,⟨by omega,rfl⟩,HS.out.next (by rw [← HT.out]; exact HE.out) (H3.out.1.drew)⟩
    | some k =>
     obtain ⟨hin,_⟩ := y0c hfa;obtain ⟨hkn,_⟩ := y0c hfb;by_cases hik : i = k
     ·subst hik
      have HE : Hid (meetX1 n B t = []) := by show meetX1 n B t = []; unfold meetX1; rw [hfa,hfb]; simp
      clear hfa hfb;simp only [ptrO];obtain ⟨jb,hjb,_⟩ := y0k bodyInfo;have heq := eqS_same w3.drew (Y g (i * 17)) Tryz.underlying127 hjb;clear hjb;clear hJ3 HK;go_wp2_with fail
      go_roundg (m - (j + 1))
      case measure => have := H2.out.2; omega
      case rel => exact ⟨v,j + 1,rfl,by go_num,⟨by omega,rfl⟩,HS.out.next (by rw [← HT.out]; exact HE.out) (H3.out.1.drew)⟩
     ·have HE : Hid (meetX1 n B t = if 0 < add (lightX (B i).ms) (lightX (B k).ms) then [⟨i,k,lightX (B i).ms,lightX (B k).ms,add (lightX (B i).ms) (lightX (B k).ms),t.way,t.deep⟩] else []) := by show meetX1 n B t = _; unfold meetX1; rw [hfa,hfb]; simp [hik]
      clear hfa hfb HK hJ3;simp only [ptrO]
      have hO : OwnB w3 g n B := by
       rcases HB.out.1.only (H1.out.2.trans (HS.out.only.trans H3.out.1)) (by simp) with q | q
       ·omega
       ·exact q.2
      have m1 := hO.cell hin (show 15 < 17 by omega);have m2 := hO.cell hkn (show 15 < 17 by omega);simp only [bc] at m1 m2;generalize hmi : (B i).ms = mi at m1 HE;generalize hmk : (B k).ms = mk at m2 HE;have hO0 := hO;clear hmi hmk hO;obtain ⟨jb,hjb,_,hjs,_⟩ := y0k bodyInfo;obtain ⟨cur,hcur,_⟩ := hO0;have heq := yix (a := Y g (i * 17)) (b := Y g (k * 17)) w3.drew Tryz.underlying127 hjb (by omega) (fun e => hik (by injection e with _ e; omega)) hcur hcur;clear hjb hjs hcur;go_wp2_with fail
      clear heq;have HA : MassAt g i k kt mi mk t w3.drew := ⟨m1,m2,H3.out.2.off 2,H3.out.2.off 3,H3.out.2.off 4,H3.out.2.off 5⟩;have HOA : Hid (Only [] wr w3.drew) := H3.out.1.drew;clear m1 m2;generalize w3.drew = wA at HA HOA ⊢;go_cut [11] from 39 to 69 (fun s11 wc => ∃ p,s11 = .pointer (some (Y p 0)) ∧ Kept wA wc ∧ wA.heap.size ≤ p ∧ wc.cell? (Y p 0) = some (.pointer (some (Y g (i * 17)))) ∧ wc.cell? (Y p 1) = some (.pointer (some (Y g (k * 17)))) ∧ wc.cell? (Y p 2) = some (I (lightX mi)) ∧ wc.cell? (Y p 3) = some (I (lightX mk)) ∧ wc.cell? (Y p 4) = some (I 0) ∧ wc.cell? (Y p 5) = some (I t.way.x) ∧ wc.cell? (Y p 6) = some (I t.way.y) ∧ wc.cell? (Y p 7) = some (I t.way.z) ∧ wc.cell? (Y p 8) = some (I t.deep) ∧ wc.frozen? (Y p 4) = false)
      case first =>
       refine wp_region_held_drew (S := fun w' => Kept wA w' ∧ (Zc w' g (i * 17 + 15) mi ∧ Zc w' g (k * 17 + 15) mk ∧ Zc w' kt 2 t.way.x ∧ Zc w' kt 3 t.way.y ∧ Zc w' kt 4 t.way.z ∧ Zc w' kt 5 t.deep)) (by kernel_rfl) ?_ (fun hH0 => ?_)
       ·exact ⟨kd,HA.step kd⟩
       refine tkU 0 (h:=tkU 1 (h:=tkU 2 (h:=tkV 3 ?_)));try simp only [zP]
       refine tkU 4 (h:=tkU 5 (h:=tkU 7 (h:=tkV 8 ?_)));try simp only [zP]
       refine tkU 9 (h:=tkU 10 (h:=tkU 12 (h:=tkV 13 ?_)));try simp only [zP]
       refine tkU 14 (h:=tkV 15 ?_);try simp only [zP]
       refine wpAnyH_ready (rs := [6,17]) (by kernel_rfl) (by simp) ?_;refine AllReadyH.cons rfl (fun K hK => ?_) (AllReadyH.cons rfl (fun K hK => ?_) AllReadyH.nil)
       ·rw [if_pos (by rfl)]
        simp only [zQ];go_simp
        (go_at_call 115; refine (y32 mi _).mono ?_; rintro e wc1 ⟨rfl,kc1⟩)
        try go_wp2_with fail
        refine hK.out _ _ ?_ fun hH1 => ?_
        ·exact ⟨hH0.1.trans kc1,HA.step (hH0.1.trans kc1)⟩
        clear hK K hH0;try simp only [zP]
        refine wpAnyH_ready (rs := [11,17]) (by kernel_rfl) (by simp) ?_;refine AllReadyH.cons rfl (fun K hK => ?_) (AllReadyH.cons rfl (fun K hK => ?_) AllReadyH.nil)
        ·rw [if_pos (by rfl)]
         simp only [zQ];go_simp
         (go_at_call 115; refine (y32 mk _).mono ?_; rintro e wc2 ⟨rfl,kc2⟩)
         try go_wp2_with fail
         refine hK.out _ _ ?_ fun hH2 => ?_
         ·exact ⟨hH1.1.trans kc2,HA.step (hH1.1.trans kc2)⟩
         clear hK K hH1;try simp only [zP]
         refine tkV 16 ?_;try simp only [zP]
         refine rdW 17 rfl fun K hK => ?_;simp only [zQ];go_simp;refine hK.out _ _ ?_ fun hH3 => ?_
         ·exact ⟨hH2.1.alloc _ _,HA.step (hH2.1.alloc _ _)⟩
         have hp : wA.heap.size ≤ wc2.heap.size := Nat.le_trans hH2.1.below.size (Nat.le_of_eq (by simp));have hP : Fr9 wA (wc2.heap.size) (wc2.alloc (.cells #[.pointer none,.pointer none,I 0,I 0,I 0,I 0,I 0,I 0,I 0] 131)) := by refine ⟨hH2.1.alloc _ _,y02 (v := .pointer none) ?_,y02 (v := .pointer none) ?_,y02 (v := I 0) ?_,y02 (v := I 0) ?_,y02 (v := I 0) ?_,y02 (v := I 0) ?_,y02 (v := I 0) ?_,y02 (v := I 0) ?_,y02 (v := I 0) ?_,?_,?_,?_,?_,?_,?_,?_,?_,?_⟩ <;> go_simp
         clear hK K hH2;try simp only [zP]
         generalize (wc2.alloc (.cells #[.pointer none,.pointer none,I 0,I 0,I 0,I 0,I 0,I 0,I 0] 131)) = wz4 at hH3 hP ⊢;have hP0 := hP;obtain ⟨_,cp0,cp1,cp2,cp3,cp4,cp5,cp6,cp7,cp8,fp0,fp1,fp2,fp3,fp4,fp5,fp6,fp7,fp8⟩ := hP0;refine rdW 18 rfl fun K hK => ?_;simp only [zQ];go_simp;refine hK.out _ _ ?_ fun hS1 => ?_
         ·exact ⟨y3c hH3.1 hp _ _ _ _ _ _ _ _ _,HA.step (y3c hH3.1 hp _ _ _ _ _ _ _ _ _)⟩
         clear hK K;try simp only [zP]
         refine wpAnyH_done (by kernel_rfl) ?_ _;obtain ⟨s0,s1,s2,s3,s4,s5,s6,s7,s8⟩ := yf7 (v0 := .pointer (some (Y g (i * 17)))) (v1 := .pointer (some (Y g (k * 17)))) (v2 := I (lightX mi)) (v3 := I (lightX mk)) (v4 := I 0) (v5 := I t.way.x) (v6 := I t.way.y) (v7 := I t.way.z) (v8 := I t.deep) cp0 cp1 cp2 cp3 cp4 cp5 cp6 cp7 cp8;have hfz := frz9 fp4 (.pointer (some (Y g (i * 17)))) (.pointer (some (Y g (k * 17)))) (I (lightX mi)) (I (lightX mk)) (I 0) (I t.way.x) (I t.way.y) (I t.way.z) (I t.deep);go_wp2_with fail
         go_meet
         case rel => exact ⟨_,rfl,hS1.1,hp,s0,s1,s2,s3,s4,s5,s6,s7,s8,hfz⟩
        ·rw [if_pos (by rfl)]
         simp only [zQ];go_simp;refine hK.out _ _ ?_ fun hH5 => ?_
         ·exact ⟨hH1.1.alloc _ _,HA.step (hH1.1.alloc _ _)⟩
         have hp : wA.heap.size ≤ wc1.heap.size := Nat.le_trans hH1.1.below.size (Nat.le_of_eq (by simp));have hP : Fr9 wA (wc1.heap.size) (wc1.alloc (.cells #[.pointer none,.pointer none,I 0,I 0,I 0,I 0,I 0,I 0,I 0] 131)) := by refine ⟨hH1.1.alloc _ _,y02 (v := .pointer none) ?_,y02 (v := .pointer none) ?_,y02 (v := I 0) ?_,y02 (v := I 0) ?_,y02 (v := I 0) ?_,y02 (v := I 0) ?_,y02 (v := I 0) ?_,y02 (v := I 0) ?_,y02 (v := I 0) ?_,?_,?_,?_,?_,?_,?_,?_,?_,?_⟩ <;> go_simp
         clear hK K hH1;try simp only [zP]
         refine rdW 11 rfl fun K hK => ?_;simp only [zQ];go_simp
         (go_at_call 115; refine (y32 mk _).mono ?_; rintro e wc6 ⟨rfl,kc6⟩)
         try go_wp2_with fail
         refine hK.out _ _ ?_ fun hH6 => ?_
         ·exact ⟨hH5.1.trans kc6,HA.step (hH5.1.trans kc6)⟩
         replace hP := hP.step kc6;clear hK K hH5;try simp only [zP]
         refine tkV 16 ?_;try simp only [zP]
         have hP0 := hP;obtain ⟨_,cp0,cp1,cp2,cp3,cp4,cp5,cp6,cp7,cp8,fp0,fp1,fp2,fp3,fp4,fp5,fp6,fp7,fp8⟩ := hP0;refine rdW 18 rfl fun K hK => ?_;simp only [zQ];go_simp;refine hK.out _ _ ?_ fun hS1 => ?_
         ·exact ⟨y3c hH6.1 hp _ _ _ _ _ _ _ _ _,HA.step (y3c hH6.1 hp _ _ _ _ _ _ _ _ _)⟩
         clear hK K;try simp only [zP]
         refine wpAnyH_done (by kernel_rfl) ?_ _;obtain ⟨s0,s1,s2,s3,s4,s5,s6,s7,s8⟩ := yf7 (v0 := .pointer (some (Y g (i * 17)))) (v1 := .pointer (some (Y g (k * 17)))) (v2 := I (lightX mi)) (v3 := I (lightX mk)) (v4 := I 0) (v5 := I t.way.x) (v6 := I t.way.y) (v7 := I t.way.z) (v8 := I t.deep) cp0 cp1 cp2 cp3 cp4 cp5 cp6 cp7 cp8;have hfz := frz9 fp4 (.pointer (some (Y g (i * 17)))) (.pointer (some (Y g (k * 17)))) (I (lightX mi)) (I (lightX mk)) (I 0) (I t.way.x) (I t.way.y) (I t.way.z) (I t.deep);go_wp2_with fail
         go_meet
         case rel => exact ⟨_,rfl,hS1.1,hp,s0,s1,s2,s3,s4,s5,s6,s7,s8,hfz⟩
       ·rw [if_pos (by rfl)]
        simp only [zQ];go_simp;refine hK.out _ _ ?_ fun hH7 => ?_
        ·exact ⟨hH0.1.alloc _ _,HA.step (hH0.1.alloc _ _)⟩
        have hp : wA.heap.size ≤ wA.heap.size := Nat.le_trans hH0.1.below.size (Nat.le_of_eq (by simp));have hP : Fr9 wA (wA.heap.size) (wA.drew.alloc (.cells #[.pointer none,.pointer none,I 0,I 0,I 0,I 0,I 0,I 0,I 0] 131)) := by refine ⟨hH0.1.alloc _ _,y02 (v := .pointer none) ?_,y02 (v := .pointer none) ?_,y02 (v := I 0) ?_,y02 (v := I 0) ?_,y02 (v := I 0) ?_,y02 (v := I 0) ?_,y02 (v := I 0) ?_,y02 (v := I 0) ?_,y02 (v := I 0) ?_,?_,?_,?_,?_,?_,?_,?_,?_,?_⟩ <;> go_simp
        clear hK K hH0;try simp only [zP]
        refine rdW 6 rfl fun K hK => ?_;simp only [zQ];go_simp
        (go_at_call 115; refine (y32 mi _).mono ?_; rintro e wc8 ⟨rfl,kc8⟩)
        try go_wp2_with fail
        refine hK.out _ _ ?_ fun hH8 => ?_
        ·exact ⟨hH7.1.trans kc8,HA.step (hH7.1.trans kc8)⟩
        replace hP := hP.step kc8;clear hK K hH7;try simp only [zP]
        refine rdW 11 rfl fun K hK => ?_;simp only [zQ];go_simp
        (go_at_call 115; refine (y32 mk _).mono ?_; rintro e wc9 ⟨rfl,kc9⟩)
        try go_wp2_with fail
        refine hK.out _ _ ?_ fun hH9 => ?_
        ·exact ⟨hH8.1.trans kc9,HA.step (hH8.1.trans kc9)⟩
        replace hP := hP.step kc9;clear hK K hH8;try simp only [zP]
        refine tkV 16 ?_;try simp only [zP]
        have hP0 := hP;obtain ⟨_,cp0,cp1,cp2,cp3,cp4,cp5,cp6,cp7,cp8,fp0,fp1,fp2,fp3,fp4,fp5,fp6,fp7,fp8⟩ := hP0;refine rdW 18 rfl fun K hK => ?_;simp only [zQ];go_simp;refine hK.out _ _ ?_ fun hS1 => ?_
        ·exact ⟨y3c hH9.1 hp _ _ _ _ _ _ _ _ _,HA.step (y3c hH9.1 hp _ _ _ _ _ _ _ _ _)⟩
        clear hK K;try simp only [zP]
        refine wpAnyH_done (by kernel_rfl) ?_ _;obtain ⟨s0,s1,s2,s3,s4,s5,s6,s7,s8⟩ := yf7 (v0 := .pointer (some (Y g (i * 17)))) (v1 := .pointer (some (Y g (k * 17)))) (v2 := I (lightX mi)) (v3 := I (lightX mk)) (v4 := I 0) (v5 := I t.way.x) (v6 := I t.way.y) (v7 := I t.way.z) (v8 := I t.deep) cp0 cp1 cp2 cp3 cp4 cp5 cp6 cp7 cp8;have hfz := frz9 fp4 (.pointer (some (Y g (i * 17)))) (.pointer (some (Y g (k * 17)))) (I (lightX mi)) (I (lightX mk)) (I 0) (I t.way.x) (I t.way.y) (I t.way.z) (I t.deep);go_wp2_with fail
        go_meet
        case rel => exact ⟨_,rfl,hS1.1,hp,s0,s1,s2,s3,s4,s5,s6,s7,s8,hfz⟩
      case rest =>
       clear HA;obtain ⟨p,rfl,kc,hp,s0,s1,s2,s3,s4,s5,s6,s7,s8,hfz⟩ := hcut;have HC : Hid (Only [] wr wc ∧ wr.heap.size ≤ p) := ⟨HOA.out.trans (Only.of_kept kc),Nat.le_trans HOA.out.size hp⟩;clear kc hp HOA;generalize lightX mi = x at HE s2;generalize lightX mk = y at HE s3;go_wp2_with fail
       refine (y44 x y wc).mono ?_;rintro e w6 ⟨rfl,k6⟩;have HC6 : Hid (Only [] wr w6 ∧ wr.heap.size ≤ p) := ⟨HC.out.1.trans (Only.of_kept k6),HC.out.2⟩;have r0 := y00 k6 s0;have r1 := y00 k6 s1;have r2 := y00 k6 s2;have r3 := y00 k6 s3;have r4 := y00 k6 s4;have r5 := y00 k6 s5;have r6 := y00 k6 s6;have r7 := y00 k6 s7;have r8 := y00 k6 s8;have hf6 := y01 k6 hfz;clear k6 s0 s1 s2 s3 s4 s5 s6 s7 s8 hfz HC;generalize add x y = al at HE;by_cases hal : 0 < al
       ·have HE1 : Hid (meetX1 n B (T j) = [⟨i,k,x,y,al,t.way,t.deep⟩]) := by show meetX1 n B (T j) = _; rw [← HT.out,HE.out,if_pos hal]
        go_upto_region 11 with fail
        have H7 : Hid (Only [] wr (w6.setCell (Y p 4) (I al))) := HC6.out.1.setCell (p := Y p 4) (Or.inr HC6.out.2) _;have q0 : (w6.setCell (Y p 4) (I al)).cell? (Y p 0) = some (.pointer (some (Y g (i * 17)))) := by go_simp
        have q1 : (w6.setCell (Y p 4) (I al)).cell? (Y p 1) = some (.pointer (some (Y g (k * 17)))) := by go_simp
        have q2 : (w6.setCell (Y p 4) (I al)).cell? (Y p 2) = some (I x) := by go_simp
        have q3 : (w6.setCell (Y p 4) (I al)).cell? (Y p 3) = some (I y) := by go_simp
        have q4 : (w6.setCell (Y p 4) (I al)).cell? (Y p 4) = some (I al) := by go_simp
        have q5 : (w6.setCell (Y p 4) (I al)).cell? (Y p 5) = some (I t.way.x) := by go_simp
        have q6 : (w6.setCell (Y p 4) (I al)).cell? (Y p 6) = some (I t.way.y) := by go_simp
        have q7 : (w6.setCell (Y p 4) (I al)).cell? (Y p 7) = some (I t.way.z) := by go_simp
        have q8 : (w6.setCell (Y p 4) (I al)).cell? (Y p 8) = some (I t.deep) := by go_simp
        clear r0 r1 r2 r3 r4 r5 r6 r7 r8 hf6;revert H7 q0 q1 q2 q3 q4 q5 q6 q7 q8;generalize World.setCell w6 _ _ = w7;intro H7 q0 q1 q2 q3 q4 q5 q6 q7 q8;have hsl := HS.out.sl.only H7.out (by simp);have hml := y4y n B T j;obtain ⟨i2,hi0,hz0,hz1,hz2⟩ := y0k meetInfo;unfold SlMt at hsl;go_wp2_with (first | (at_builtin; refine wpList_append_own_at _ rfl _ _ 128 rfl 0 131 i2 (.agg #[.pointer none,.pointer none,I 0,I 0,I 0,I 0,I 0,I 0,I 0]) 9 72 Tryz.underlying128 hi0 hz0 hz1 hz2 rfl (by decide) v _ _ rfl (World.ownsRow.alloc hsl _) (Y w7.heap.size 0) 1 1 [.pointer (some (Y g (i * 17))),.pointer (some (Y g (k * 17))),I x,I y,I al,I t.way.x,I t.way.y,I t.way.z,I t.deep] rfl rfl (yjn _ _ _ _ _ _ _ _ _ _ _) (by simp [Value.oneCell']) (by unfold maxLen; omega) (by omega) (by simp) ?_; intro v' w8 hown hgrow hnil hloc; have H8 : Hid (_ ∧ _ ∧ _) := SlMt.put (q := ⟨i,k,x,y,al,t.way,t.deep⟩) hown hgrow hloc; clear hown hgrow hnil hloc hsl))
        go_roundg (m - (j + 1))
        case measure => have := H2.out.2; omega
        case rel => exact ⟨v',j + 1,rfl,by go_num,⟨by omega,rfl⟩,HS.out.put HE1.out H7.out H8.out⟩
       ·have HE1 : Hid (meetX1 n B (T j) = []) := by show meetX1 n B (T j) = _; rw [← HT.out,HE.out,if_neg hal]
        go_wp2_with fail
        go_roundg (m - (j + 1))
        case measure => have := H2.out.2; omega
        case rel => exact ⟨v,j + 1,rfl,by go_num,⟨by omega,rfl⟩,HS.out.next HE1.out (HC6.out.1.setCell (p := Y p 4) (Or.inr HC6.out.2) _)⟩
  ·have hjl : ¬ (j : Int) < (m : Int) := by omega
   obtain rfl : j = m := by have := H2.out.1; omega
   go_wp2_with fail
   go_ret
   exact ⟨v,rfl,HS.out.sl,H1.out.2.trans HS.out.only,fun q hq => Nat.le_trans H1.out.2.size (HS.out.new q hq)⟩
end Go.Proofs.YtbenlgandjjopaaGreatDoor
