/- . -/
import Derived.Test.YtbenlgandjjopaaGreatDoorN2
import Derived.Maps.OwnSet
import Derived.Maps.AppendAt
import Derived.Deep.MidRow
import Derived.LoopN
import Derived.Laws.EntriesVeiled
open Go.Value renaming int → J
open Go.IntKind renaming i64 → U
open Go.World renaming frozen?_setCell → zrb
open List renaming mem_cons → zrd
namespace Go.Proofs.YtbenlgandjjopaaGreatDoor
set_option maxRecDepth 100000
set_option maxHeartbeats 4000000
open Go.ChangeShapes Go.WideShapes Go.ChangeAt Go.RowKit
set_option linter.unusedVariables false
set_option linter.unusedSimpArgs false
variable {w w' w1 : World} {n g c base kb b0 b1 o s : Nat} {B : Nat → Bd} {a : Option Addr} {D : List Nat} {q : Bd} {v0 v1 v2 v : Value}
def bdL (b : Bd) : List Value := [J U b.id,J U b.ow,J U b.kd,J U b.sx,J U b.sy,J U b.sz,J U b.ax,J U b.ay,J U b.az,J U b.vx,J U b.vy,J U b.vz,J U b.px,J U b.py,J U b.pz,J U b.ms,J U b.tm]
theorem y2y (b : Bd) : (bdL b).length = 17 := rfl
theorem yar (b : Bd) (k : Nat) (hk : k < 17) : (bdL b)[k]? = some (bc b k) := by
 match k,hk with
 | 0,_ => exact rfl
 | 1,_ => exact rfl
 | 2,_ => exact rfl
 | 3,_ => exact rfl
 | 4,_ => exact rfl
 | 5,_ => exact rfl
 | 6,_ => exact rfl
 | 7,_ => exact rfl
 | 8,_ => exact rfl
 | 9,_ => exact rfl
 | 10,_ => exact rfl
 | 11,_ => exact rfl
 | 12,_ => exact rfl
 | 13,_ => exact rfl
 | 14,_ => exact rfl
 | 15,_ => exact rfl
 | 16,_ => exact rfl
 | k + 17,h => exact absurd h (by omega)
def rowsL (B : Nat → Bd) : Nat → List Value
 | 0 => []
 | n + 1 => rowsL B n ++ bdL (B n)
theorem y18 (B : Nat → Bd) : ∀ n,(rowsL B n).length = n * 17
 | 0 => rfl
 | n + 1 => by simp only [rowsL,List.length_append,y18 B n,y2y]; omega
theorem y7j (B : Nat → Bd) : ∀ n j k,j < n → k < 17 → (rowsL B n)[j * 17 + k]? = some (bc (B j) k)
 | 0,j,k,hj,_ => by omega
 | n + 1,j,k,hj,hk => by
  simp only [rowsL];by_cases e : j = n
  ·subst e
   rw [List.getElem?_append_right (by rw [y18]; omega),y18];rw [show j * 17 + k - j * 17 = k by omega];exact yar _ k hk
  ·rw [List.getElem?_append_left (by rw [y18]; omega)]
   exact y7j B n j k (by omega) hk
theorem yga (h : BodiesAt w (some (Y g o)) n B) : ∀ j u,(rowsL B n)[j]? = some u → w.cell? ((Y g o).add j) = some u := by
 intro j u hu
 have hj : j < n * 17 := by
  have := (List.getElem?_eq_some_iff.1 hu).1;rwa [y18] at this
 have h1 : j / 17 < n := by omega
 have h2 : j % 17 < 17 := by omega
 have h3 : j = j / 17 * 17 + j % 17 := by omega
 rw [h3,y7j B n _ _ h1 h2] at hu;obtain ⟨g',o',e,hc⟩ := h _ h1;injection e with e; injection e with e1 e2
 subst e1; subst e2;have h4 := hc _ h2;injection hu with hu
 rw [hu] at h4;rw [add_plain,h3,← Nat.add_assoc];exact h4
theorem y2c {ad : Addr} (h : BodiesAt w (some ad) n B) : ∀ j u,(rowsL B n)[j]? = some u → w.cell? (ad.add j) = some u := by
 by_cases h0 : n = 0
 ·subst h0; intro j u hu; simp [rowsL] at hu
 ·obtain ⟨g,o,e,_⟩ := h 0 (by omega)
  injection e with e;subst e;exact yga h
theorem y1t (B : Nat → Bd) : ∀ n,∀ u ∈ rowsL B n,u.oneCell' = true
 | 0,u,h => by simp [rowsL] at h
 | n + 1,u,h => by
  simp only [rowsL,List.mem_append] at h;rcases h with h | h
  ·exact y1t B n u h
  ·simp only [bdL,zrd,List.not_mem_nil,or_false] at h
   rcases h with rfl | rfl | rfl | rfl | rfl | rfl | rfl | rfl | rfl | rfl | rfl | rfl | rfl | rfl | rfl | rfl | rfl <;> rfl
def OwnB (w : World) (g n : Nat) (B : Nat → Bd) : Prop := ∃ cur : Array Value,w.heap[g]? = some (.cells cur 45 (0,0)) ∧ ∀ j,j < n → ∀ k,k < 17 → cur[j * 17 + k]? = some (bc (B j) k)
def OwnS (w : World) (a : Option Addr) (g n : Nat) (B : Nat → Bd) : Prop := n = 0 ∨ (a = some ⟨g,0,none⟩ ∧ OwnB w g n B)
theorem OwnB.cell {w : World} {g n : Nat} {B : Nat → Bd} (h : OwnB w g n B) {j k : Nat} (hj : j < n) (hk : k < 17) : w.cell? (Y g (j * 17 + k)) = some (bc (B j) k) := by
 obtain ⟨cur,hb,hc⟩ := h;simp [World.cell?,hb,hc j hj k hk]
theorem OwnB.free (h : OwnB w g n B) (i : Nat) : w.frozen? (Y g i) = false := by
 obtain ⟨cur,hb,hc⟩ := h;simp [World.frozen?,hb]
theorem OwnB.only (h : OwnB w g n B) (o : Only D w w') (s : g ∉ D) : OwnB w' g n B := by
 obtain ⟨cur,hb,hc⟩ := h;exact ⟨cur,(o.block g (Array.getElem?_eq_some_iff.1 hb).1 s).trans hb,hc⟩
theorem OwnB.lt (h : OwnB w g n B) : g < w.heap.size := by
 obtain ⟨cur,hb,hc⟩ := h;exact (Array.getElem?_eq_some_iff.1 hb).1
theorem OwnS.only {D : List Nat} {w w' : World} {a : Option Addr} {g n : Nat} {B : Nat → Bd} (h : OwnS w a g n B) (o : Only D w w') (s : g ∉ D) : OwnS w' a g n B := h.imp id (fun q => ⟨q.1,q.2.only o s⟩)
theorem OwnS.bodies (h : OwnS w a g n B) : BodiesAt w a n B := by
 intro j hj;rcases h with h | ⟨rfl,h⟩
 ·omega
 ·exact ⟨g,0,rfl,fun k hk => by rw [Nat.zero_add]; exact h.cell hj hk⟩
theorem OwnS.of_row (h : w.ownsRow base 45 17 v n (rowsL B n)) : ∃ a g c,v = .slice a n c ∧ OwnS w a g n B ∧ (n ≠ 0 → base ≤ g) := by
 obtain ⟨hl,⟨rfl,rfl⟩ | ⟨g,cap,cur,rfl,hb,hh,h1,h2,h3,h4⟩⟩ := h
 ·exact ⟨none,0,0,rfl,Or.inl rfl,fun h => absurd rfl h⟩
 ·refine ⟨_,g,cap,rfl,Or.inr ⟨rfl,cur,hh,fun j hj k hk => ?_⟩,fun _ => hb⟩
  have := y7j B n j k hj hk;rw [← h4,List.getElem?_take_of_lt (by omega),Array.getElem?_toList] at this;exact this
theorem OwnS.of_rowN (h : w.ownsRow base 45 17 v n (rowsL B n)) : ∃ a g c,v = .slice a n c ∧ OwnS w a g n B ∧ (n ≠ 0 → base ≤ g) ∧ (a = none → n = 0 ∧ c = 0) := by
 have h0 := h;obtain ⟨hl,⟨rfl,rfl⟩ | ⟨g,cap,cur,rfl,hb,hh,h1,h2,h3,h4⟩⟩ := h
 ·exact ⟨none,0,0,rfl,Or.inl rfl,fun h => absurd rfl h,fun _ => ⟨rfl,rfl⟩⟩
 ·obtain ⟨a,g',c,e,hS,hg⟩ := OwnS.of_row h0
  injection e with e1 e2 e3;subst e1 e3;exact ⟨_,g',_,rfl,hS,hg,fun e => by cases e⟩
def SizeAt (w : World) (g s : Nat) : Prop := ∃ cur : Array Value,w.heap[g]? = some (.cells cur 45 (0,0)) ∧ cur.size = s
theorem SizeAt.only (h : SizeAt w g s) (o : Only D w w') (hg : g ∉ D) : SizeAt w' g s := by
 obtain ⟨cur,hh,hs⟩ := h;exact ⟨cur,(o.block g (Array.getElem?_eq_some_iff.1 hh).1 hg).trans hh,hs⟩
theorem SizeAt.put (h : SizeAt w g s) (b i : Nat) (v : Value) : SizeAt (w.setCell (Y b i) v) g s := by
 obtain ⟨cur,hh,hs⟩ := h;by_cases e : g = b
 ·subst e
  exact ⟨_,y0f hh i v,by simpa using hs⟩
 ·exact ⟨cur,(Below.heap_setCell _ _ _ _ e).trans hh,hs⟩
def Room (w : World) (a : Option Addr) (n c : Nat) : Prop := (a = none ∧ n = 0 ∧ c = 0) ∨ ∃ g,a = some ⟨g,0,none⟩ ∧ n ≤ c ∧ c ≤ maxLen ∧ SizeAt w g (c * 17)
theorem Room.of_row {xs : List Value} (h : w.ownsRow base 45 17 (.slice a n c) n xs) : Room w a n c := by
 obtain ⟨hl,⟨e,hn⟩ | ⟨g,cp,cur,e,hb,hh,h1,h2,h3,h4⟩⟩ := h
 ·injection e with e1 e2 e3
  exact Or.inl ⟨e1,e2,e3⟩
 ·injection e with e1 e2 e3
  subst e3;exact Or.inr ⟨g,e1,h1,h2,cur,hh,h3⟩
theorem Room.only {D : List Nat} {w w' : World} {a : Option Addr} {n c : Nat} (h : Room w a n c) (o : Only D w w') (s : ∀ g o s,a = some ⟨g,o,s⟩ → g ∉ D) : Room w' a n c := by
 rcases h with h | ⟨g,e,h1,h2,h3⟩
 ·exact Or.inl h
 ·exact Or.inr ⟨g,e,h1,h2,h3.only o (s g 0 none e)⟩
theorem Room.put {w : World} {a : Option Addr} {n c : Nat} (h : Room w a n c) (b i : Nat) (v : Value) : Room (w.setCell (Y b i) v) a n c := by
 rcases h with h | ⟨g,e,h1,h2,h3⟩
 ·exact Or.inl h
 ·exact Or.inr ⟨g,e,h1,h2,h3.put b i v⟩
theorem Room.turn (h : Room w a n c) (ha : a = some (Y g 0)) (hz : ∀ s,SizeAt w g s → SizeAt w' g s) : Room w' a n c := by
 rcases h with ⟨h,_⟩ | ⟨g',e,h1,h2,h3⟩
 ·rw [ha] at h; cases h
 ·rw [ha] at e; injection e with e; injection e with e
  subst e;exact Or.inr ⟨g,ha,h1,h2,hz _ h3⟩
def FreshPost (n : Nat) (B : Nat → Bd) (w : World) (e : Ending) (w' : World) : Prop :=
 ∃ a g c,e = .returned (.slice a n c) ∧ OwnS w' a g n B ∧ Only [] w w' ∧ w.heap.size ≤ g ∧ (a = none → n = 0 ∧ c = 0)
def Tied (a : Option Addr) (g : Nat) : Prop := ∀ g' o s,a = some ⟨g',o,s⟩ → g' = g
def FreshR (n : Nat) (B : Nat → Bd) (w : World) (e : Ending) (w' : World) : Prop :=
 ∃ a g c,e = .returned (.slice a n c) ∧ OwnS w' a g n B ∧ Only [] w w' ∧ w.heap.size ≤ g ∧ (a = none → n = 0 ∧ c = 0) ∧ Room w' a n c ∧ Tied a g
theorem bodyInfo : (Tryz.prog.info? 45).map (fun i => (i.zero,i.size,i.bytes)) = some (some (.agg #[I 0,I 0,I 0,I 0,I 0,I 0,I 0,I 0,I 0,I 0,I 0,I 0,I 0,I 0,I 0,I 0,I 0]),17,136) := by kernel_rfl
theorem y0k {P : Program} {t : TypeId} {z : Value} {b : Nat} (h : (P.info? t).map (fun i => (i.zero,i.size,i.bytes)) = some (some z,n,b)) : ∃ i,P.info? t = some i ∧ i.zero = some z ∧ i.size = n ∧ i.bytes = b := by
 cases hi : P.info? t with
 | none => rw [hi] at h; cases h
 | some i =>
  rw [hi] at h;simp only [Option.map_some,Option.some.injEq,Prod.mk.injEq] at h;exact ⟨i,rfl,h.1,h.2.1,h.2.2⟩
theorem y72 (a : Option Addr) (n c : Nat) (B : Nat → Bd) (w : World) (hn : n ≤ 1000) (h : BodiesAt w a n B) (hc : a = none → n = 0 ∧ c = 0) :
  Calls Tryz.prog 74 #[.slice a n c] w (FreshR n B w) := by
 obtain ⟨i2,hi0,hz0,hz1,hz2⟩ := y0k bodyInfo
 cases a with
 | none =>
  obtain ⟨rfl,rfl⟩ := hc rfl;go_enter Tryz.func74,Tryz.ntmps74
  go_wp2_with fail
  go_ret
  exact ⟨none,w.heap.size,0,rfl,Or.inl rfl,Only.refl _ _,Nat.le_refl _,fun _ => ⟨rfl,rfl⟩,Or.inl ⟨rfl,rfl,rfl⟩,fun _ _ _ e => by cases e⟩
 | some ad =>
  have hcell := y2c h;have HB : Hid (n ≤ 1000) := hn;clear h hc;go_enter Tryz.func74,Tryz.ntmps74
  go_wp2_with (first | (at_builtin; refine wpList_append_own_at _ rfl _ _ 36 rfl w.heap.size 45 i2 (.agg #[I 0,I 0,I 0,I 0,I 0,I 0,I 0,I 0,I 0,I 0,I 0,I 0,I 0,I 0,I 0,I 0,I 0]) 17 136 Tryz.underlying36 hi0 hz0 hz1 hz2 rfl (by decide) (.slice none 0 0) 0 [] rfl (World.ownsRow_nil w _ _ _) ad n c (rowsL B n) rfl (y18 B n) hcell (y1t B n) (by unfold maxLen; omega) (by omega) (Nat.le_refl _) ?_; intro v' w5 hown hgrow hnil hloc; simp only [Nat.zero_add,List.nil_append] at hown; have H5 : Hid (w5.ownsRow w.heap.size 45 17 v' n (rowsL B n) ∧ Only [] w w5) := ⟨hown,(Only.refl [] w).grown hgrow (fun k hk => by cases hk)⟩; have HLC : Hid (∀ g' o s n' c',v' = .slice (some ⟨g',o,s⟩) n' c' → g' = w.heap.size) := (fun g' o s n' c' e => by subst e; rcases hloc with q | q <;> simp [Value.ownBlock] at q; exact q); clear hown hgrow hnil hloc hcell))
  go_ret
  obtain ⟨a',g',c',rfl,hS,hg,hsl⟩ := OwnS.of_rowN H5.out.1;have hroom := Room.of_row H5.out.1;by_cases h0 : n = 0
  ·exact ⟨a',w.heap.size,c',rfl,Or.inl h0,H5.out.2,Nat.le_refl _,hsl,hroom,fun g2 o s e => HLC.out g2 o s n c' (by rw [e])⟩
  ·refine ⟨a',g',c',rfl,hS,H5.out.2,hg h0,hsl,hroom,fun g2 o s e => ?_⟩
   rcases hS with q | q
   ·exact absurd q h0
   ·rw [q.1] at e; injection e with e; injection e with e1; exact e1.symm
theorem yep (a : Option Addr) (n c : Nat) (B : Nat → Bd) (w : World) (hn : n ≤ 1000) (h : BodiesAt w a n B) (hc : a = none → n = 0 ∧ c = 0) :
  Calls Tryz.prog 74 #[.slice a n c] w (FreshPost n B w) := (y72 a n c B w hn h hc).mono fun _ _ ⟨a',g,c',h1,h2,h3,h4,h5,_⟩ => ⟨a',g,c',h1,h2,h3,h4,h5⟩
theorem bodySize : (Tryz.prog.info? 45).map (·.size) = some 17 := by kernel_rfl
theorem there17 {kr : Nat} {cur : Array Value} (h : w.heap[kr]? = some (.cells cur 45)) (hs : cur.size = 17) : w.there kr 0 17 := fun j hj => by
 have h1 : j < cur.size := by omega
 simp [World.cell?,World.frozen?,h,h1]
theorem one17 (q : Bd) : (bdL q).toArray.all (·.oneCell') = true := all_oneCell_toArray (fun v hv => by
 simp only [bdL,zrd,List.not_mem_nil,or_false] at hv
 rcases hv with rfl | rfl | rfl | rfl | rfl | rfl | rfl | rfl | rfl | rfl | rfl | rfl | rfl | rfl | rfl | rfl | rfl <;> rfl)
theorem range17 (h : ∀ k,k < 17 → w.cell? (Y g (o + k)) = some (bc q k)) : w.rangeAt g o (bdL q) := fun j v hv => by
 have hj : j < 17 := by have := (List.getElem?_eq_some_iff.1 hv).1; rw [y2y] at this; exact this
 rw [yar q j hj] at hv;injection hv with hv
 rw [← hv]; exact h j hj
theorem Only.setCells {D : List Nat} {a w : World} (h : Only D a w) (b : Nat) (hb : b ∈ D ∨ a.heap.size ≤ b) (vs : List Value) : ∀ (o : Nat),Only D a (w.setCells b o vs) := by
 induction vs generalizing w with
 | nil => intro o; exact h
 | cons v vs ih => intro o; exact ih (h.setCell (p := Y b o) hb v) (o + 1)
def BodyAt (w : World) (kb : Nat) (q : Bd) : Prop := w.heap[kb]? = some (.cells #[J U q.id,J U q.ow,J U q.kd,J U q.sx,J U q.sy,J U q.sz,J U q.ax,J U q.ay,J U q.az,J U q.vx,J U q.vy,J U q.vz,J U q.px,J U q.py,J U q.pz,J U q.ms,J U q.tm] 45)
theorem BodyAt.only (h : BodyAt w kb q) (o : Only [] w w') : BodyAt w' kb q := (o.block kb (Array.getElem?_eq_some_iff.1 h).1 (by simp)).trans h
theorem BodyAt.off (h : BodyAt w kb q) (j : Nat) : w.cell? (Y kb j) = ((bdA q) : Array Value)[j]? := by
 unfold BodyAt at h; simp [World.cell?,h]
theorem BodyAt.range (h : BodyAt w kb q) : ∀ k,k < 17 → w.cell? (Y kb (0 + k)) = some (bc q k) := fun k hk => by
 have h1 := h.off k;rw [Nat.zero_add,h1]
 match k,hk with
 | 0,_ => rfl
 | 1,_ => rfl
 | 2,_ => rfl
 | 3,_ => rfl
 | 4,_ => rfl
 | 5,_ => rfl
 | 6,_ => rfl
 | 7,_ => rfl
 | 8,_ => rfl
 | 9,_ => rfl
 | 10,_ => rfl
 | 11,_ => rfl
 | 12,_ => rfl
 | 13,_ => rfl
 | 14,_ => rfl
 | 15,_ => rfl
 | 16,_ => rfl
 | k + 17,h => exact absurd h (by omega)
theorem yfc (x y z : Int) (w : World) : Calls Tryz.prog 186 #[.agg #[I x,I y,I z]] w fun e w' => e = .returned (I x) ∧ Kept w w' := by
 go_enter Tryz.func186,Tryz.ntmps186
 go_wp2
 go_ret
 exact ⟨rfl,(Kept.refl _).alloc _ _⟩
theorem yfn (x y z : Int) (w : World) : Calls Tryz.prog 187 #[.agg #[I x,I y,I z]] w fun e w' => e = .returned (I y) ∧ Kept w w' := by
 go_enter Tryz.func187,Tryz.ntmps187
 go_wp2
 go_ret
 exact ⟨rfl,(Kept.refl _).alloc _ _⟩
theorem ygh (x y z : Int) (w : World) : Calls Tryz.prog 188 #[.agg #[I x,I y,I z]] w fun e w' => e = .returned (I z) ∧ Kept w w' := by
 go_enter Tryz.func188,Tryz.ntmps188
 go_wp2
 go_ret
 exact ⟨rfl,(Kept.refl _).alloc _ _⟩
theorem y2z (w : World) : Calls Tryz.prog 146 #[] w fun e w' => e = .returned (.agg #[.func (.func 186) #[] #[],.func (.func 187) #[] #[],.func (.func 188) #[] #[]]) ∧ Kept w w' := by
 go_enter Tryz.func146,Tryz.ntmps146
 go_wp2
 exact bodyPost_ret (v := .agg #[.func (.func 186) #[] #[],.func (.func 187) #[] #[],.func (.func 188) #[] #[]]) (by simp [results,Tryz.results146,go_sem]) rfl ⟨rfl,(Kept.refl _).alloc _ _⟩
theorem yeo (n : Int) (w : World) : Calls Tryz.prog 104 #[I n] w fun e w' => e = .returned (.bool (decide (1 ≤ n) && decide (n ≤ 3276800))) ∧ Kept w w' := by
 by_cases h1 : 1 ≤ n
 ·by_cases h2 : n ≤ 3276800
  ·rw [decide_eq_true h1,decide_eq_true h2]
   go_enter Tryz.func104,Tryz.ntmps104
   go_wp2
   go_ret
   exact ⟨rfl,Kept.refl _⟩
  ·rw [decide_eq_true h1,decide_eq_false h2]
   go_enter Tryz.func104,Tryz.ntmps104
   go_wp2
   go_ret
   exact ⟨rfl,Kept.refl _⟩
 ·rw [decide_eq_false h1]
  go_enter Tryz.func104,Tryz.ntmps104
  go_wp2
  go_ret
  exact ⟨rfl,Kept.refl _⟩
def Ans (fn : Nat) (args : Array Value) (Pre : World → Prop) (v : Value) : Prop := ∀ w,Pre w → Calls Tryz.prog fn args w fun e w' => e = .returned v ∧ Kept w w'
theorem y8q (fn : Nat) (cap : Array Value) (b0 b1 b2 : Bool) (he : ∀ args w,(callFunc fn args).run Tryz.prog w = .ok (.enter fn args) w)
  (Pre : World → Prop) (hs : Hid (∀ w w',Kept w w' → Pre w → Pre w'))
  (h0 : Ans fn (#[.func (.func 186) #[] #[]] ++ cap) Pre (.bool b0)) (h1 : Ans fn (#[.func (.func 187) #[] #[]] ++ cap) Pre (.bool b1)) (h2 : Ans fn (#[.func (.func 188) #[] #[]] ++ cap) Pre (.bool b2))
  (w : World) (hp : Pre w) : Calls Tryz.prog 105 #[.func (.func fn) #[] cap] w fun e w' => e = .returned (.bool (b0 && b1 && b2)) ∧ Kept w w' := by
 have i0 : ∀ w : World,(Instr.index 194 (.agg #[.func (.func 186) #[] #[],.func (.func 187) #[] #[],.func (.func 188) #[] #[]]) (I 0)).run Tryz.prog w = .ok (.func (.func 186) #[] #[]) w := fun _ => rfl;have i1 : ∀ w : World,(Instr.index 194 (.agg #[.func (.func 186) #[] #[],.func (.func 187) #[] #[],.func (.func 188) #[] #[]]) (I 1)).run Tryz.prog w = .ok (.func (.func 187) #[] #[]) w := fun _ => rfl;have i2 : ∀ w : World,(Instr.index 194 (.agg #[.func (.func 186) #[] #[],.func (.func 187) #[] #[],.func (.func 188) #[] #[]]) (I 2)).run Tryz.prog w = .ok (.func (.func 188) #[] #[]) w := fun _ => rfl
 cases b0 with
 | false =>
  go_enter Tryz.func105,Tryz.ntmps105
  go_wp2_with fail
  refine (y2z _).mono ?_; rintro e w1 ⟨rfl,k1⟩;have q0 : Pre w1 := hs.out _ _ k1 hp;clear hp;go_wp2_with fail
  refine wp_loop_rounds 4 ?_;rw [rounds_succ];go_wp2_with fail
  go_at_fn fn
  refine (h0 _ q0).mono ?_; rintro e w2 ⟨rfl,k2⟩;have q1 : Pre w2 := hs.out _ _ k2 q0;clear q0;go_wp2
  go_ret
  exact ⟨rfl,(k1).trans k2⟩
 | true =>
  cases b1 with
  | false =>
   go_enter Tryz.func105,Tryz.ntmps105
   go_wp2_with fail
   refine (y2z _).mono ?_; rintro e w1 ⟨rfl,k1⟩;have q0 : Pre w1 := hs.out _ _ k1 hp;clear hp;go_wp2_with fail
   refine wp_loop_rounds 4 ?_;rw [rounds_succ];go_wp2_with fail
   go_at_fn fn
   refine (h0 _ q0).mono ?_; rintro e w2 ⟨rfl,k2⟩;have q1 : Pre w2 := hs.out _ _ k2 q0;clear q0;go_wp2_with fail
   rw [rounds_succ];go_wp2_with fail
   go_at_fn fn
   refine (h1 _ q1).mono ?_; rintro e w3 ⟨rfl,k3⟩;have q2 : Pre w3 := hs.out _ _ k3 q1;clear q1;go_wp2
   go_ret
   exact ⟨rfl,((k1).trans k2).trans k3⟩
  | true =>
   cases b2 with
   | false =>
    go_enter Tryz.func105,Tryz.ntmps105
    go_wp2_with fail
    refine (y2z _).mono ?_; rintro e w1 ⟨rfl,k1⟩;have q0 : Pre w1 := hs.out _ _ k1 hp;clear hp;go_wp2_with fail
    refine wp_loop_rounds 4 ?_;rw [rounds_succ];go_wp2_with fail
    go_at_fn fn
    refine (h0 _ q0).mono ?_; rintro e w2 ⟨rfl,k2⟩;have q1 : Pre w2 := hs.out _ _ k2 q0;clear q0;go_wp2_with fail
    rw [rounds_succ];go_wp2_with fail
    go_at_fn fn
    refine (h1 _ q1).mono ?_; rintro e w3 ⟨rfl,k3⟩;have q2 : Pre w3 := hs.out _ _ k3 q1;clear q1;go_wp2_with fail
    rw [rounds_succ];go_wp2_with fail
    go_at_fn fn
    refine (h2 _ q2).mono ?_; rintro e w4 ⟨rfl,k4⟩;have q3 : Pre w4 := hs.out _ _ k4 q2;clear q2;go_wp2
    go_ret
    exact ⟨rfl,(((k1).trans k2).trans k3).trans k4⟩
   | true =>
    go_enter Tryz.func105,Tryz.ntmps105
    go_wp2_with fail
    refine (y2z _).mono ?_; rintro e w1 ⟨rfl,k1⟩;have q0 : Pre w1 := hs.out _ _ k1 hp;clear hp;go_wp2_with fail
    refine wp_loop_rounds 4 ?_;rw [rounds_succ];go_wp2_with fail
    go_at_fn fn
    refine (h0 _ q0).mono ?_; rintro e w2 ⟨rfl,k2⟩;have q1 : Pre w2 := hs.out _ _ k2 q0;clear q0;go_wp2_with fail
    rw [rounds_succ];go_wp2_with fail
    go_at_fn fn
    refine (h1 _ q1).mono ?_; rintro e w3 ⟨rfl,k3⟩;have q2 : Pre w3 := hs.out _ _ k3 q1;clear q1;go_wp2_with fail
    rw [rounds_succ];go_wp2_with fail
    go_at_fn fn
    refine (h2 _ q2).mono ?_; rintro e w4 ⟨rfl,k4⟩;have q3 : Pre w4 := hs.out _ _ k4 q2;clear q2;go_wp2_with fail
    rw [rounds_succ];go_wp2
    go_ret
    exact ⟨rfl,(((k1).trans k2).trans k3).trans k4⟩
def G3o (w : World) (b0 b1 : Nat) (v0 v1 v2 : Value) (w' : World) : Prop :=
 Kept w w' ∧
 w'.cell? ⟨b0,0,none⟩ = some v0 ∧
 w'.cell? ⟨b0,1,none⟩ = some v1 ∧
 w'.cell? ⟨b0,2,none⟩ = some v2 ∧
 w'.cell? ⟨b1,0,none⟩ = some (cellV w' ⟨b1,0,none⟩) ∧
 w'.cell? ⟨b1,1,none⟩ = some (cellV w' ⟨b1,1,none⟩) ∧
 w'.cell? ⟨b1,2,none⟩ = some (cellV w' ⟨b1,2,none⟩) ∧
 w'.frozen? ⟨b1,0,none⟩ = false ∧
 w'.frozen? ⟨b1,1,none⟩ = false ∧
 w'.frozen? ⟨b1,2,none⟩ = false
theorem G3o.step {w2 : World} (k : Kept w1 w2) (h : G3o w b0 b1 v0 v1 v2 w1) : G3o w b0 b1 v0 v1 v2 w2 := by
 obtain ⟨h0,h1,h2,h3,h4,h5,h6,h7,h8,h9⟩ := h;exact ⟨h0.trans k,y00 k h1,y00 k h2,y00 k h3,y06 k h4,y06 k h5,y06 k h6,y01 k h7,y01 k h8,y01 k h9⟩
theorem G3o.drew {w w1 : World} {b0 b1 : Nat} {v0 v1 v2 : Value} (h : G3o w b0 b1 v0 v1 v2 w1) : G3o w b0 b1 v0 v1 v2 w1.drew := h.step kd
theorem G3o.put (i : Nat) (v : Value) (ho : w.heap.size ≤ b1) (n0 : b0 ≠ b1) (h : G3o w b0 b1 v0 v1 v2 w1) : G3o w b0 b1 v0 v1 v2 (w1.setCell (Y b1 i) v) := by
 obtain ⟨h0,h1,h2,h3,h4,h5,h6,h7,h8,h9⟩ := h;exact ⟨h0.setCell (p := Y b1 i) ho v,(zf n0).trans h1,(zf n0).trans h2,(zf n0).trans h3,y04 h4,y04 h5,y04 h6,(zrb _ _ _ _).trans h7,(zrb _ _ _ _).trans h8,(zrb _ _ _ _).trans h9⟩
theorem y5o (fn : Nat) (cap : Array Value) (r0 r1 r2 : Int) (he : ∀ args w,(callFunc fn args).run Tryz.prog w = .ok (.enter fn args) w)
  (Pre : World → Prop) (hs : Hid (∀ w w',Kept w w' → Pre w → Pre w'))
  (h0 : Ans fn (#[.func (.func 186) #[] #[]] ++ cap) Pre (I r0)) (h1 : Ans fn (#[.func (.func 187) #[] #[]] ++ cap) Pre (I r1)) (h2 : Ans fn (#[.func (.func 188) #[] #[]] ++ cap) Pre (I r2))
  (w : World) (hp : Pre w) : Calls Tryz.prog 179 #[.func (.func fn) #[] cap] w fun e w' => e = .returned (.agg #[I r0,I r1,I r2]) ∧ Kept w w' := by
 go_enter Tryz.func179,Tryz.ntmps179
 go_wp2_with fail
 refine (y2z _).mono ?_; rintro e w1 ⟨rfl,k1⟩;go_wp2_with fail
 have hlt : w.heap.size < w1.heap.size := by have := k1.below.size; simp at this; omega
 have hn : w1.heap.size ≠ w.heap.size := by omega
 have HR : G3o w w1.heap.size w.heap.size (.func (.func 186) #[] #[]) (.func (.func 187) #[] #[]) (.func (.func 188) #[] #[]) (w1.alloc (.cells #[.func (.func 186) #[] #[],.func (.func 187) #[] #[],.func (.func 188) #[] #[]] 194)) := by
  refine ⟨(((Kept.refl w).alloc _ _).trans k1).alloc _ _,?_,?_,?_,y02 (later (y00 k1 (v := I 0) ?_) _),y02 (later (y00 k1 (v := I 0) ?_) _),y02 (later (y00 k1 (v := I 0) ?_) _),laterF (y01 k1 ?_) _ _,laterF (y01 k1 ?_) _ _,laterF (y01 k1 ?_) _ _⟩
  all_goals go_simp
 have HP : Hid (Pre w) := hp;clear hp k1
 go_region_held3 (fun w' => Kept w w' ∧ w'.cell? (Y w1.heap.size 0) = some (.func (.func 186) #[] #[]) ∧ w'.cell? (Y w1.heap.size 1) = some (.func (.func 187) #[] #[]) ∧ w'.cell? (Y w1.heap.size 2) = some (.func (.func 188) #[] #[]) ∧ w'.cell? (Y w.heap.size 0) = some (cellV w' (Y w.heap.size 0)) ∧ w'.cell? (Y w.heap.size 1) = some (cellV w' (Y w.heap.size 1)) ∧ w'.cell? (Y w.heap.size 2) = some (cellV w' (Y w.heap.size 2)) ∧ w'.frozen? (Y w.heap.size 0) = false ∧ w'.frozen? (Y w.heap.size 1) = false ∧ w'.frozen? (Y w.heap.size 2) = false)
  (first | (refine G3o.step k ?_; assumption) | exact G3o.drew HR | (refine G3o.put 2 _ (Nat.le_refl _) hn (G3o.put 1 _ (Nat.le_refl _) hn (G3o.put 0 _ (Nat.le_refl _) hn ?_)); assumption))
  (first | (go_at_fn fn; refine (h0 _ (hs.out _ _ (And.left (by assumption)) HP.out)).mono ?_; rintro e w' ⟨rfl,k⟩) | (go_at_fn fn; refine (h1 _ (hs.out _ _ (And.left (by assumption)) HP.out)).mono ?_; rintro e w' ⟨rfl,k⟩) | (go_at_fn fn; refine (h2 _ (hs.out _ _ (And.left (by assumption)) HP.out)).mono ?_; rintro e w' ⟨rfl,k⟩))
 rename_i hh;go_wp2
 obtain ⟨hk,_,_,_,c0,c1,c2,_⟩ := hh;obtain ⟨e0,e1,e2⟩ := set3 c0 c1 c2;clear c0 c1 c2;exact bodyPost_ret (v := .agg #[I r0,I r1,I r2]) (by simp [results,Tryz.results179,go_sem,e0,e1,e2]) rfl ⟨rfl,hk⟩
end Go.Proofs.YtbenlgandjjopaaGreatDoor
