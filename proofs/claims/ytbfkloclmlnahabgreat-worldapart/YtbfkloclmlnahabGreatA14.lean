/- gyrekeep.some: of whichever bodies come in, twenty at most that may be. · The boxes of bodies, hung anew one by one, are the boxes of the bodies as they are; a body that may be has a box that may be: plain functions. · gyrekeep.filled: a world of bodies that may be. · A world's footprint; gyrekeep.moved: true. · gyrekeep.WorldBounds: true, whatever is given. · Which pairs of boxes meet, rising: plain functions. · Who does not touch does not matter: a step of bodies among more, of which none touches one of them, is a step without those: plain functions. · Two worlds side by side; bodies put behind bodies; the law's numbers. -/
import Derived.Test.YtbfkloclmlnahabGreatA9
import Derived.Test.YtbfkloclmlnahabGreatA13
import Derived.Laws.OwnMore
open List renaming getElem_toArray → zqa, getElem_cons_succ → zqb, getElem_cons_zero → zqc, setIfInBounds_toArray → zqd, set_cons_zero → zqe, set_cons_succ → zqf, getElem?_toArray → zqg, getElem?_cons_succ → zqh, getElem?_cons_zero → zqi
namespace Go.Proofs.YtbfkloclmlnahabGreat
open Go.ChangeShapes Go.WideShapes Go.ChangeAt Go.RowKit
set_option linter.unusedVariables false
set_option linter.unusedSimpArgs false

theorem bsize_calls (a : Int) (w : World) : Calls Tryz.prog 18 #[.int .i64 a] w fun e w' => ∃ p, e = .returned (.int .i64 p) ∧ 1 ≤ p ∧ p ≤ 327680 ∧ w' = w := by
  go_enter Tryz.func18, Tryz.ntmps18
  go_wp2_with fail
  refine (pickW_calls a 327680 _ (by omega) (by omega)).mono ?_
  rintro e w1 ⟨p, rfl, h0, h1, hw⟩
  subst hw
  go_wp2_with fail
  go_ret
  exact ⟨1 + p, rfl, by omega, by omega, rfl⟩
theorem cl_cl {m : Int} (h : 0 ≤ m) (x : Int) : cl m (cl m x) = cl m x := by
  unfold cl; split <;> (try split) <;> (try split) <;> omega
theorem beyX_cl {m : Int} (h : 0 ≤ m) (x y z : Int) : beyX m (cl m x) (cl m y) (cl m z) = false := by
  unfold beyX; simp [cl_cl h]
theorem BodyAt.free' {w : World} {kb : Nat} {q : Bd} (h : BodyAt w kb q) (j : Nat) : w.frozen? ⟨kb, j, none⟩ = false := by
  unfold BodyAt at h; simp [World.frozen?, h]
def owX (b : Bd) (x : Int) : Bd := { b with ow := x }
def msX (b : Bd) (x : Int) : Bd := { b with ms := x }
def shX (b : Bd) (k x y z : Int) : Bd := { b with kd := k, sx := x, sy := y, sz := z }
def puX (b : Bd) (x y z : Int) : Bd := { b with px := x, py := y, pz := z }
theorem BodyAt.ow {w : World} {kb : Nat} {q : Bd} (h : BodyAt w kb q) (k : Int) : BodyAt (w.setCell ⟨kb, 1, none⟩ (.int .i64 k)) kb (owX q k) := heap_put h 1 _
theorem BodyAt.ms {w : World} {kb : Nat} {q : Bd} (h : BodyAt w kb q) (k : Int) : BodyAt (w.setCell ⟨kb, 15, none⟩ (.int .i64 k)) kb (msX q k) := heap_put h 15 _
theorem BodyAt.sh {w : World} {kb : Nat} {q : Bd} (h : BodyAt w kb q) (k x y z : Int) : BodyAt ((((w.setCell ⟨kb, 2, none⟩ (.int .i64 k)).setCell ⟨kb, 3, none⟩ (.int .i64 x)).setCell ⟨kb, 4, none⟩ (.int .i64 y)).setCell ⟨kb, 5, none⟩ (.int .i64 z)) kb (shX q k x y z) := heap_put (heap_put (heap_put (heap_put h 2 _) 3 _) 4 _) 5 _
theorem BodyAt.at3 {w : World} {kb : Nat} {q : Bd} (h : BodyAt w kb q) (x y z : Int) : BodyAt (((w.setCell ⟨kb, 6, none⟩ (.int .i64 x)).setCell ⟨kb, 7, none⟩ (.int .i64 y)).setCell ⟨kb, 8, none⟩ (.int .i64 z)) kb (atX q x y z) := heap_put (heap_put (heap_put h 6 _) 7 _) 8 _
theorem BodyAt.sp3 {w : World} {kb : Nat} {q : Bd} (h : BodyAt w kb q) (x y z : Int) : BodyAt (((w.setCell ⟨kb, 9, none⟩ (.int .i64 x)).setCell ⟨kb, 10, none⟩ (.int .i64 y)).setCell ⟨kb, 11, none⟩ (.int .i64 z)) kb (spX q x y z) := heap_put (heap_put (heap_put h 9 _) 10 _) 11 _
theorem BodyAt.pu3 {w : World} {kb : Nat} {q : Bd} (h : BodyAt w kb q) (x y z : Int) : BodyAt (((w.setCell ⟨kb, 12, none⟩ (.int .i64 x)).setCell ⟨kb, 13, none⟩ (.int .i64 y)).setCell ⟨kb, 14, none⟩ (.int .i64 z)) kb (puX q x y z) := heap_put (heap_put (heap_put h 12 _) 13 _) 14 _
theorem BodyAt.nine {w : World} {kb : Nat} {q : Bd} (h : BodyAt w kb q) : w.cell? ⟨kb, 6, none⟩ = some (.int .i64 (q.ax)) ∧ w.cell? ⟨kb, 7, none⟩ = some (.int .i64 (q.ay)) ∧ w.cell? ⟨kb, 8, none⟩ = some (.int .i64 (q.az)) ∧ w.cell? ⟨kb, 9, none⟩ = some (.int .i64 (q.vx)) ∧ w.cell? ⟨kb, 10, none⟩ = some (.int .i64 (q.vy)) ∧ w.cell? ⟨kb, 11, none⟩ = some (.int .i64 (q.vz)) ∧ w.cell? ⟨kb, 12, none⟩ = some (.int .i64 (q.px)) ∧ w.cell? ⟨kb, 13, none⟩ = some (.int .i64 (q.py)) ∧ w.cell? ⟨kb, 14, none⟩ = some (.int .i64 (q.pz)) := ⟨h.off 6, h.off 7, h.off 8, h.off 9, h.off 10, h.off 11, h.off 12, h.off 13, h.off 14⟩
theorem fit_all {q : Bd} {o p k s1 s2 s3 : Int} (ho : 0 ≤ o ∧ o < 4) (hp : 0 ≤ p ∧ p < 1310720) (hk : rightB k s1 s2 s3 = true) (x y z a b c d e f : Int) :
    rightW (msX (puX (spX (atX (shX (owX q o) k s1 s2 s3) (cl 65536000 x) (cl 65536000 y) (cl 65536000 z)) (cl 6553600 a) (cl 6553600 b) (cl 6553600 c)) (cl 6553600 d) (cl 6553600 e) (cl 6553600 f)) p) = 0 := by
  unfold rightW
  split
  · split
    · rfl
    · rename_i h
      refine absurd ⟨?_, ?_, beyX_cl (by omega) _ _ _, beyX_cl (by omega) _ _ _, beyX_cl (by omega) _ _ _⟩ h
      · exact decide_eq_true ⟨by show (0 : Int) ≤ o; omega, by show o ≤ 8; omega⟩
      · exact decide_eq_true ⟨by show (0 : Int) ≤ p; omega, by show p ≤ 65536000; omega⟩
  · rename_i h
    exact absurd hk h
/-- While some runs. -/
structure SoW (w : World) (v : Value) (i : Nat) (L : Nat → Bd) (wr : World) : Prop where
  row : wr.ownsRow w.heap.size 37 17 v i (rowsL L i)
  only : Only [] w wr
  fit : ∀ j, j < i → rightW (L j) = 0
theorem SoW.keep {w : World} {v : Value} {i : Nat} {L : Nat → Bd} {wr w' : World} (h : SoW w v i L wr) (o : Only [] wr w') : SoW w v i L w' := by
  refine ⟨?_, h.only.trans o, h.fit⟩
  obtain ⟨hl, ⟨e, hn⟩ | ⟨g, cp, cur, e, hb, hh, h1, h2, h3, h4⟩⟩ := h.row
  · exact ⟨hl, Or.inl ⟨e, hn⟩⟩
  · exact ⟨hl, Or.inr ⟨g, cp, cur, e, hb, (o.block g (Array.getElem?_eq_some_iff.1 hh).1 (by simp)).trans hh, h1, h2, h3, h4⟩⟩
theorem SoW.apart {w : World} {v : Value} {i : Nat} {L : Nat → Bd} {wr w' : World} {kb : Nat} (h : SoW w v i L wr) (o : Only [kb] wr w') (hk : ∀ b ∈ ownM v, b ≠ kb) (hn : w.heap.size ≤ kb) : SoW w v i L w' := by
  refine ⟨?_, h.only.then o (fun b hb => by simp only [List.mem_singleton] at hb; subst hb; exact Or.inr hn), h.fit⟩
  obtain ⟨hl, ⟨e, hn⟩ | ⟨g, cp, cur, e, hb, hh, h1, h2, h3, h4⟩⟩ := h.row
  · exact ⟨hl, Or.inl ⟨e, hn⟩⟩
  · refine ⟨hl, Or.inr ⟨g, cp, cur, e, hb, (o.block g (Array.getElem?_eq_some_iff.1 hh).1 ?_).trans hh, h1, h2, h3, h4⟩⟩
    simp only [List.mem_singleton]
    exact hk g (by rw [e]; simp [ownM, Value.ownBlock])
/-- .. and the body at hand. -/
structure SbW (w : World) (v : Value) (i : Nat) (L : Nat → Bd) (kb : Nat) (q : Bd) (wr : World) : Prop where
  so : SoW w v i L wr
  at' : BodyAt wr kb q
  kn : w.heap.size ≤ kb
  kv : ∀ b ∈ ownM v, b ≠ kb
theorem SbW.keep {w : World} {v : Value} {i : Nat} {L : Nat → Bd} {kb : Nat} {q : Bd} {wr w' : World} (h : SbW w v i L kb q wr) (o : Only [] wr w') : SbW w v i L kb q w' := ⟨h.so.keep o, h.at'.only o, h.kn, h.kv⟩
theorem SbW.turn {w : World} {v : Value} {i : Nat} {L : Nat → Bd} {kb : Nat} {q q' : Bd} {wr w' : World} (h : SbW w v i L kb q wr) (o : Only [kb] wr w') (hb : BodyAt w' kb q') : SbW w v i L kb q' w' := ⟨h.so.apart o h.kv h.kn, hb, h.kn, h.kv⟩
theorem only_put {D : List Nat} {kb : Nat} (h : kb ∈ D) {w w' : World} (o : Only D w w') (j : Nat) (v : Value) : Only D w (w'.setCell ⟨kb, j, none⟩ v) := o.setCell (p := ⟨kb, j, none⟩) (Or.inl h) v
theorem SoW.snoc {w : World} {v v' : Value} {i : Nat} {L : Nat → Bd} {wr wa : World} {q : Bd} {o : Obj} (h : SoW w v i L wr) (hf : rightW q = 0) (hown : wa.ownsRow w.heap.size 37 17 v' (i + 1) (rowsL L i ++ bdL q)) (hgrow : (wr.alloc o).grownBy wa v.ownBlock) : SoW w v' (i + 1) (upd L i q) wa := by
  refine ⟨by rw [rowsL_snoc]; exact hown, (h.only.alloc o).grown hgrow (fun k hk => Or.inr ?_), fun j hj => ?_⟩
  · obtain ⟨hl, ⟨e, hn⟩ | ⟨g, cp, cur, e, hb, hh, _⟩⟩ := h.row
    · rw [e] at hk; simp [Value.ownBlock] at hk
    · rw [e] at hk; simp [Value.ownBlock] at hk; omega
  · unfold upd
    by_cases e : j = i
    · rw [if_pos e]; exact hf
    · rw [if_neg e]; exact h.fit j (by omega)
def SomePost (n : Nat) (w : World) (e : Ending) (w' : World) : Prop := ∃ v m L, e = .returned v ∧ m ≤ 20 ∧ SoW w v m L w'
set_option maxRecDepth 100000 in
set_option maxHeartbeats 8000000 in
theorem some_calls (a : Option Addr) (n c : Nat) (B : Nat → Bd) (w : World) (h : BodiesAt w a n B) :
    Calls Tryz.prog 6 #[.slice a n c] w (SomePost n w) := by
  have HB : Hid (BodiesAt w a n B ∧ True) := ⟨h, trivial⟩
  clear h
  go_enter Tryz.func6, Tryz.ntmps6
  go_wp2_with fail
  go_loopg [3, 4] 20 (fun k sv idx wr => ∃ (v : Value) (i : Nat) (L : Nat → Bd), v = sv ∧ idx = .int .i64 (i : Int) ∧ Hid (i ≤ 20 ∧ i ≤ n ∧ k = 20 - i) ∧ Hid (SoW w v i L wr))
  case atStart => exact ⟨_, 0, fun _ => bd0, rfl, rfl, ⟨by omega, by omega, rfl⟩, World.ownsRow_nil w _ _ _, Only.refl _ _, fun j hj => by omega⟩
  case round =>
    obtain ⟨v, i, L, rfl, rfl, H1, HS⟩ := hrel
    have hi20 := H1.out.1
    by_cases hi : i < n
    · by_cases hj : i < 20
      · have hil : (i : Int) < (n : Int) := by omega
        have hjl : (i : Int) < 20 := by omega
        obtain ⟨g, f, rfl, hc⟩ := (HB.out.1.only HS.out.only) i hi
        obtain ⟨q, hq⟩ : ∃ q, B i = q := ⟨_, rfl⟩
        rw [hq] at hc
        clear hq
        go_upto_region 6 with (first | (refine wpList_load_mid rfl 37 (.tmp 19) rfl g (f + i * 17) rfl [.int .i64 (q.id), .int .i64 (q.ow), .int .i64 (q.kd), .int .i64 (q.sx), .int .i64 (q.sy), .int .i64 (q.sz), .int .i64 (q.ax), .int .i64 (q.ay), .int .i64 (q.az), .int .i64 (q.vx), .int .i64 (q.vy), .int .i64 (q.vz), .int .i64 (q.px), .int .i64 (q.py), .int .i64 (q.pz), .int .i64 (q.ms), .int .i64 (q.tm)] _ (range17 hc) Tryz.underlying37 rfl bodySize ?_))
        clear hc
        have H2 : Hid (SbW w v i L wr.heap.size q (wr.alloc (.cells #[.int .i64 (q.id), .int .i64 (q.ow), .int .i64 (q.kd), .int .i64 (q.sx), .int .i64 (q.sy), .int .i64 (q.sz), .int .i64 (q.ax), .int .i64 (q.ay), .int .i64 (q.az), .int .i64 (q.vx), .int .i64 (q.vy), .int .i64 (q.vz), .int .i64 (q.px), .int .i64 (q.py), .int .i64 (q.pz), .int .i64 (q.ms), .int .i64 (q.tm)] 37))) := by
          refine ⟨HS.out.keep ((Only.refl [] wr).alloc _), (MapKept.heap_alloc wr _).1, HS.out.only.size, fun b hb e => ?_⟩
          obtain ⟨hl, ⟨e1, hn⟩ | ⟨g', cp, cur, e1, hb', hh, _⟩⟩ := HS.out.row
          · rw [e1] at hb; simp [ownM, Value.ownBlock] at hb
          · rw [e1] at hb; simp [ownM, Value.ownBlock] at hb
            have := (Array.getElem?_eq_some_iff.1 hh).1
            omega
        revert H2
        generalize wr.heap.size = kb
        generalize World.alloc wr _ = w2
        intro H2
        have c1 := H2.out.at'.off 1
        have f1 := H2.out.at'.free' 1
        simp only [zqg, zqh, zqi] at c1
        go_wp2_with fail
        refine (pickW_calls _ 4 _ (by omega) (by omega)).mono ?_
        rintro e w3 ⟨o, rfl, ho0, ho1, hw⟩
        subst hw
        have HO : Hid (0 ≤ o ∧ o < 4) := ⟨ho0, ho1⟩
        clear ho0 ho1
        go_upto_region 8 with fail
        clear c1 f1
        have H3 : Hid (SbW w v i L kb (owX q o) (w3.setCell ⟨kb, 1, none⟩ (.int .i64 o))) := H2.out.turn (only_put (by simp) (Only.refl _ _) _ _) (H2.out.at'.ow o)
        generalize World.setCell w3 _ _ = w4 at H3 ⊢
        clear H2
        have c2 := H3.out.at'.off 2
        have c3 := H3.out.at'.off 3
        have c4 := H3.out.at'.off 4
        have c5 := H3.out.at'.off 5
        have f2 := H3.out.at'.free' 2
        have f3 := H3.out.at'.free' 3
        have f4 := H3.out.at'.free' 4
        have f5 := H3.out.at'.free' 5
        simp only [zqg, zqh, zqi] at c2 c3 c4 c5
        go_upto_if 29 with fail
        go_cut [] from 29 to 60 (fun wc => ∃ k s1 s2 s3, rightB k s1 s2 s3 = true ∧ SbW w v i L kb (shX (owX q o) k s1 s2 s3) wc)
        case first =>
          cases hk : ((owX q o).kd.tmod 2 == 0) with
          | true =>
            clear hk
            go_upto_region 9 with fail
            refine wp_region_F_drew 20 (fun w' => w'.cell? ⟨kb, 3, none⟩ = some (.int .i64 ((owX q o).sx)) ∧ w'.cell? ⟨kb, 4, none⟩ = some (.int .i64 ((owX q o).sy)) ∧ w'.cell? ⟨kb, 5, none⟩ = some (.int .i64 ((owX q o).sz))) (by kernel_rfl) ?_ (fun hHeld1 => ?_)
            · (try dsimp only); exact ⟨c3, c4, c5⟩
            refine wpAnyF_take (i := 0) (v := ?_) rfl (by kernel_rfl) (by kernel_rfl) (by kernel_rfl) (by kernel_rfl) (fun _ _ _ h => h) (Or.inl ⟨by kernel_rfl, ?_⟩) (by assumption) ?_
            rotate_left
            · intro w'' hSw; (try dsimp only at hSw); simp only [zqa, zqb, zqc]; (go_simp <;> with_reducible rfl)
            try simp only [Act.put, zqd, zqe, zqf, zqa, zqb, zqc]
            refine wpAnyF_take (i := 1) (v := ?_) rfl (by kernel_rfl) (by kernel_rfl) (by kernel_rfl) (by kernel_rfl) (fun _ _ _ h => h) (Or.inl ⟨by kernel_rfl, ?_⟩) (by assumption) ?_
            rotate_left
            · intro w'' hSw; (try dsimp only at hSw); simp only [zqa, zqb, zqc]; (go_simp <;> with_reducible rfl)
            try simp only [Act.put, zqd, zqe, zqf, zqa, zqb, zqc]
            refine wpAnyF_take (i := 2) (v := ?_) rfl (by kernel_rfl) (by kernel_rfl) (by kernel_rfl) (by kernel_rfl) (fun _ _ _ h => h) (Or.inl ⟨by kernel_rfl, ?_⟩) (by assumption) ?_
            rotate_left
            · intro w'' hSw; (try dsimp only at hSw); simp only [zqa, zqb, zqc]; (go_simp <;> with_reducible rfl)
            try simp only [Act.put, zqd, zqe, zqf, zqa, zqb, zqc]
            refine wpAnyF_take (i := 3) (v := ?_) rfl (by kernel_rfl) (by kernel_rfl) (by kernel_rfl) (by kernel_rfl) (fun _ _ _ h => h) (Or.inl ⟨by kernel_rfl, ?_⟩) (by assumption) ?_
            rotate_left
            · intro w'' hSw; (try dsimp only at hSw); simp only [zqa, zqb, zqc]; (go_simp <;> with_reducible rfl)
            try simp only [Act.put, zqd, zqe, zqf, zqa, zqb, zqc]
            refine wpAnyF_take (i := 4) (v := ?_) rfl (by kernel_rfl) (by kernel_rfl) (by kernel_rfl) (by kernel_rfl) (fun _ _ _ h => h) (Or.inl ⟨by kernel_rfl, ?_⟩) (by assumption) ?_
            rotate_left
            · intro w'' hSw; (try dsimp only at hSw); simp only [zqa, zqb, zqc]; (go_simp <;> with_reducible rfl)
            try simp only [Act.put, zqd, zqe, zqf, zqa, zqb, zqc]
            refine wpAnyF_take (i := 6) (v := ?_) rfl (by kernel_rfl) (by kernel_rfl) (by kernel_rfl) (by kernel_rfl) (fun _ _ _ h => h) (Or.inl ⟨by kernel_rfl, ?_⟩) (by assumption) ?_
            rotate_left
            · intro w'' hSw; (try dsimp only at hSw); simp only [zqa, zqb, zqc]; (go_simp <;> with_reducible rfl)
            try simp only [Act.put, zqd, zqe, zqf, zqa, zqb, zqc]
            refine wpAnyF_take (i := 7) (v := ?_) rfl (by kernel_rfl) (by kernel_rfl) (by kernel_rfl) (by kernel_rfl) (fun _ _ _ h => h) (Or.inl ⟨by kernel_rfl, ?_⟩) (by assumption) ?_
            rotate_left
            · intro w'' hSw; (try dsimp only at hSw); simp only [zqa, zqb, zqc]; (go_simp <;> with_reducible rfl)
            try simp only [Act.put, zqd, zqe, zqf, zqa, zqb, zqc]
            refine wpAnyF_take (i := 8) (v := ?_) rfl (by kernel_rfl) (by kernel_rfl) (by kernel_rfl) (by kernel_rfl) (fun _ _ _ h => h) (Or.inl ⟨by kernel_rfl, ?_⟩) (by assumption) ?_
            rotate_left
            · intro w'' hSw; (try dsimp only at hSw); simp only [zqa, zqb, zqc]; (go_simp <;> with_reducible rfl)
            try simp only [Act.put, zqd, zqe, zqf, zqa, zqb, zqc]
            refine wpAnyF_take (i := 9) (v := ?_) rfl (by kernel_rfl) (by kernel_rfl) (by kernel_rfl) (by kernel_rfl) (fun _ _ _ h => h) (Or.inl ⟨by kernel_rfl, ?_⟩) (by assumption) ?_
            rotate_left
            · intro w'' hSw; (try dsimp only at hSw); simp only [zqa, zqb, zqc]; (go_simp <;> with_reducible rfl)
            try simp only [Act.put, zqd, zqe, zqf, zqa, zqb, zqc]
            refine wpAnyF_take (i := 10) (v := ?_) rfl (by kernel_rfl) (by kernel_rfl) (by kernel_rfl) (by kernel_rfl) (fun _ _ _ h => h) (Or.inl ⟨by kernel_rfl, ?_⟩) (by assumption) ?_
            rotate_left
            · intro w'' hSw; (try dsimp only at hSw); simp only [zqa, zqb, zqc]; (go_simp <;> with_reducible rfl)
            try simp only [Act.put, zqd, zqe, zqf, zqa, zqb, zqc]
            refine wpAnyF_take (i := 12) (v := ?_) rfl (by kernel_rfl) (by kernel_rfl) (by kernel_rfl) (by kernel_rfl) (fun _ _ _ h => h) (Or.inl ⟨by kernel_rfl, ?_⟩) (by assumption) ?_
            rotate_left
            · intro w'' hSw; (try dsimp only at hSw); simp only [zqa, zqb, zqc]; (go_simp <;> with_reducible rfl)
            try simp only [Act.put, zqd, zqe, zqf, zqa, zqb, zqc]
            refine wpAnyF_take (i := 13) (v := ?_) rfl (by kernel_rfl) (by kernel_rfl) (by kernel_rfl) (by kernel_rfl) (fun _ _ _ h => h) (Or.inl ⟨by kernel_rfl, ?_⟩) (by assumption) ?_
            rotate_left
            · intro w'' hSw; (try dsimp only at hSw); simp only [zqa, zqb, zqc]; (go_simp <;> with_reducible rfl)
            try simp only [Act.put, zqd, zqe, zqf, zqa, zqb, zqc]
            refine wpAnyF_take (i := 14) (v := ?_) rfl (by kernel_rfl) (by kernel_rfl) (by kernel_rfl) (by kernel_rfl) (fun _ _ _ h => h) (Or.inl ⟨by kernel_rfl, ?_⟩) (by assumption) ?_
            rotate_left
            · intro w'' hSw; (try dsimp only at hSw); simp only [zqa, zqb, zqc]; (go_simp <;> with_reducible rfl)
            try simp only [Act.put, zqd, zqe, zqf, zqa, zqb, zqc]
            refine wpAnyF_take (i := 15) (v := ?_) rfl (by kernel_rfl) (by kernel_rfl) (by kernel_rfl) (by kernel_rfl) (fun _ _ _ h => h) (Or.inl ⟨by kernel_rfl, ?_⟩) (by assumption) ?_
            rotate_left
            · intro w'' hSw; (try dsimp only at hSw); simp only [zqa, zqb, zqc]; (go_simp <;> with_reducible rfl)
            try simp only [Act.put, zqd, zqe, zqf, zqa, zqb, zqc]
            refine wpAnyF_take (i := 16) (v := ?_) rfl (by kernel_rfl) (by kernel_rfl) (by kernel_rfl) (by kernel_rfl) (fun _ _ _ h => h) (Or.inl ⟨by kernel_rfl, ?_⟩) (by assumption) ?_
            rotate_left
            · intro w'' hSw; (try dsimp only at hSw); simp only [zqa, zqb, zqc]; (go_simp <;> with_reducible rfl)
            try simp only [Act.put, zqd, zqe, zqf, zqa, zqb, zqc]
            refine wpAnyF_ready (rs := [5]) (by kernel_rfl) (by simp) ?_
            refine AllReadyF.cons rfl (fun K hK => ?_) AllReadyF.nil
            first | (with_reducible refine iteYes ?hcx ?htx; case hcx => kernel_rfl) | rw [if_pos (by rfl)]
            simp only [zqa, zqb, zqc]
            go_simp
            (go_at_call 18; refine (bsize_calls _ _).mono ?_; rintro e w5 ⟨s1, rfl, h10, h11, hw⟩; subst hw; have HS1 : Hid (1 ≤ s1 ∧ s1 ≤ 327680) := ⟨h10, h11⟩; clear h10 h11)
            try go_wp2_with fail
            refine hK.out _ _ ?_ (fun hHeld2 => ?_)
            · (try dsimp only); exact ⟨c3, c4, c5⟩
            clear hK K hHeld1
            try simp only [Act.put, zqd, zqe, zqf, zqa, zqb, zqc]
            refine wpAnyF_ready (rs := [11]) (by kernel_rfl) (by simp) ?_
            refine AllReadyF.cons rfl (fun K hK => ?_) AllReadyF.nil
            first | (with_reducible refine iteYes ?hcx ?htx; case hcx => kernel_rfl) | rw [if_pos (by rfl)]
            simp only [zqa, zqb, zqc]
            go_simp
            (go_at_call 18; refine (bsize_calls _ _).mono ?_; rintro e w5 ⟨s2, rfl, h10, h11, hw⟩; subst hw; have HS2 : Hid (1 ≤ s2 ∧ s2 ≤ 327680) := ⟨h10, h11⟩; clear h10 h11)
            try go_wp2_with fail
            refine hK.out _ _ ?_ (fun hHeld3 => ?_)
            · (try dsimp only); exact ⟨c3, c4, c5⟩
            clear hK K hHeld2
            try simp only [Act.put, zqd, zqe, zqf, zqa, zqb, zqc]
            refine wpAnyF_ready (rs := [17]) (by kernel_rfl) (by simp) ?_
            refine AllReadyF.cons rfl (fun K hK => ?_) AllReadyF.nil
            first | (with_reducible refine iteYes ?hcx ?htx; case hcx => kernel_rfl) | rw [if_pos (by rfl)]
            simp only [zqa, zqb, zqc]
            go_simp
            (go_at_call 18; refine (bsize_calls _ _).mono ?_; rintro e w5 ⟨s3, rfl, h10, h11, hw⟩; subst hw; have HS3 : Hid (1 ≤ s3 ∧ s3 ≤ 327680) := ⟨h10, h11⟩; clear h10 h11)
            try go_wp2_with fail
            refine hK.out _ _ ?_ (fun hHeld4 => ?_)
            · (try dsimp only); exact ⟨c3, c4, c5⟩
            clear hK K hHeld3
            try simp only [Act.put, zqd, zqe, zqf, zqa, zqb, zqc]
            refine wpAnyF_take (i := 18) (v := ?_) rfl (by kernel_rfl) (by kernel_rfl) (by kernel_rfl) (by kernel_rfl) (fun _ _ _ h => h) (Or.inl ⟨by kernel_rfl, ?_⟩) (by assumption) ?_
            rotate_left
            · intro w'' hSw; (try dsimp only at hSw); simp only [zqa, zqb, zqc]; (go_simp <;> with_reducible rfl)
            try simp only [Act.put, zqd, zqe, zqf, zqa, zqb, zqc]
            refine wpAnyF_take (i := 19) (v := ?_) rfl (by kernel_rfl) (by kernel_rfl) (by kernel_rfl) (by kernel_rfl) (fun _ _ _ h => h) (Or.inl ⟨by kernel_rfl, ?_⟩) (by assumption) ?_
            rotate_left
            · intro w'' hSw; (try dsimp only at hSw); simp only [zqa, zqb, zqc]; (go_simp <;> with_reducible rfl)
            try simp only [Act.put, zqd, zqe, zqf, zqa, zqb, zqc]
            refine wpAnyF_ready (rs := [20]) (by kernel_rfl) (by simp) ?_
            refine AllReadyF.fin rfl (by decide) (fun K hK => ?_) AllReadyF.nil
            first | (with_reducible refine iteYes ?hcx ?htx; case hcx => kernel_rfl) | rw [if_pos (by rfl)]
            simp only [zqa, zqb, zqc]
            go_simp
            skip
            refine hK.out _ _ ?_
            clear hK K
            try simp only [Act.put, zqd, zqe, zqf, zqa, zqb, zqc]
            refine wpAnyF_ready (rs := [21]) (by kernel_rfl) (by simp) ?_
            refine AllReadyF.fin rfl (by decide) (fun K hK => ?_) AllReadyF.nil
            first | (with_reducible refine iteYes ?hcx ?htx; case hcx => kernel_rfl) | rw [if_pos (by rfl)]
            simp only [zqa, zqb, zqc]
            go_simp
            skip
            refine hK.out _ _ ?_
            clear hK K
            try simp only [Act.put, zqd, zqe, zqf, zqa, zqb, zqc]
            refine wpAnyF_done (by kernel_rfl) ?_ _
            go_wp2_with fail
            go_meet
            case rel =>
              refine ⟨2, s1, s2, s3, ?_, (H3.out.keep (Only.refl [] w4).drew).turn (only_put (by simp) (only_put (by simp) (only_put (by simp) (only_put (by simp) (Only.refl _ _) _ _) _ _) _ _) _ _) ((H3.out.at'.only (Only.refl [] w4).drew).sh 2 s1 s2 s3)⟩
              have := HS1.out; have := HS2.out; have := HS3.out
              unfold rightB sz; simp; omega
          | false =>
            clear hk
            go_wp2_with fail
            refine (bsize_calls _ _).mono ?_
            rintro e w5 ⟨s1, rfl, h10, h11, hw⟩
            subst hw
            have HS1 : Hid (1 ≤ s1 ∧ s1 ≤ 327680) := ⟨h10, h11⟩
            clear h10 h11
            go_wp2_with fail
            go_meet
            case rel =>
              refine ⟨1, s1, 0, 0, ?_, H3.out.turn (only_put (by simp) (only_put (by simp) (only_put (by simp) (only_put (by simp) (Only.refl _ _) _ _) _ _) _ _) _ _) (H3.out.at'.sh 1 s1 0 0)⟩
              have := HS1.out
              unfold rightB sz; simp; omega
        case rest =>
          clear c2 c3 c4 c5 f2 f3 f4 f5
          obtain ⟨k, s1, s2, s3, hk, hb⟩ := hcut
          obtain ⟨q2, hq2⟩ : ∃ q2, q2 = shX (owX q o) k s1 s2 s3 := ⟨_, rfl⟩
          rw [← hq2] at hb
          have H4 : Hid (SbW w v i L kb q2 wc) := hb
          have HK : Hid (rightB k s1 s2 s3 = true ∧ q2 = shX (owX q o) k s1 s2 s3) := ⟨hk, hq2⟩
          clear hk hb hq2 H3
          go_upto_region 11 with fail
          refine wp_region_F_drew 9 (fun w' => w'.cell? ⟨kb, 6, none⟩ = some (.int .i64 (q2.ax)) ∧ w'.cell? ⟨kb, 7, none⟩ = some (.int .i64 (q2.ay)) ∧ w'.cell? ⟨kb, 8, none⟩ = some (.int .i64 (q2.az)) ∧ w'.cell? ⟨kb, 9, none⟩ = some (.int .i64 (q2.vx)) ∧ w'.cell? ⟨kb, 10, none⟩ = some (.int .i64 (q2.vy)) ∧ w'.cell? ⟨kb, 11, none⟩ = some (.int .i64 (q2.vz)) ∧ w'.cell? ⟨kb, 12, none⟩ = some (.int .i64 (q2.px)) ∧ w'.cell? ⟨kb, 13, none⟩ = some (.int .i64 (q2.py)) ∧ w'.cell? ⟨kb, 14, none⟩ = some (.int .i64 (q2.pz))) (by kernel_rfl) ?_ (fun hHeld1 => ?_)
          · (try dsimp only); exact (H4.out.at'.only (Only.refl [] wc).drew).nine
          refine wpAnyF_take (i := 0) (v := ?_) rfl (by kernel_rfl) (by kernel_rfl) (by kernel_rfl) (by kernel_rfl) (fun _ _ _ h => h) (Or.inl ⟨by kernel_rfl, ?_⟩) (by assumption) ?_
          rotate_left
          · intro w'' hSw; (try dsimp only at hSw); simp only [zqa, zqb, zqc]; (go_simp <;> with_reducible rfl)
          try simp only [Act.put, zqd, zqe, zqf, zqa, zqb, zqc]
          refine wpAnyF_take (i := 1) (v := ?_) rfl (by kernel_rfl) (by kernel_rfl) (by kernel_rfl) (by kernel_rfl) (fun _ _ _ h => h) (Or.inl ⟨by kernel_rfl, ?_⟩) (by assumption) ?_
          rotate_left
          · intro w'' hSw; (try dsimp only at hSw); simp only [zqa, zqb, zqc]; (go_simp <;> with_reducible rfl)
          try simp only [Act.put, zqd, zqe, zqf, zqa, zqb, zqc]
          refine wpAnyF_take (i := 3) (v := ?_) rfl (by kernel_rfl) (by kernel_rfl) (by kernel_rfl) (by kernel_rfl) (fun _ _ _ h => h) (Or.inl ⟨by kernel_rfl, ?_⟩) (by assumption) ?_
          rotate_left
          · intro w'' hSw; (try dsimp only at hSw); simp only [zqa, zqb, zqc]; (go_simp <;> with_reducible rfl)
          try simp only [Act.put, zqd, zqe, zqf, zqa, zqb, zqc]
          refine wpAnyF_take (i := 4) (v := ?_) rfl (by kernel_rfl) (by kernel_rfl) (by kernel_rfl) (by kernel_rfl) (fun _ _ _ h => h) (Or.inl ⟨by kernel_rfl, ?_⟩) (by assumption) ?_
          rotate_left
          · intro w'' hSw; (try dsimp only at hSw); simp only [zqa, zqb, zqc]; (go_simp <;> with_reducible rfl)
          try simp only [Act.put, zqd, zqe, zqf, zqa, zqb, zqc]
          refine wpAnyF_take (i := 6) (v := ?_) rfl (by kernel_rfl) (by kernel_rfl) (by kernel_rfl) (by kernel_rfl) (fun _ _ _ h => h) (Or.inl ⟨by kernel_rfl, ?_⟩) (by assumption) ?_
          rotate_left
          · intro w'' hSw; (try dsimp only at hSw); simp only [zqa, zqb, zqc]; (go_simp <;> with_reducible rfl)
          try simp only [Act.put, zqd, zqe, zqf, zqa, zqb, zqc]
          refine wpAnyF_take (i := 7) (v := ?_) rfl (by kernel_rfl) (by kernel_rfl) (by kernel_rfl) (by kernel_rfl) (fun _ _ _ h => h) (Or.inl ⟨by kernel_rfl, ?_⟩) (by assumption) ?_
          rotate_left
          · intro w'' hSw; (try dsimp only at hSw); simp only [zqa, zqb, zqc]; (go_simp <;> with_reducible rfl)
          try simp only [Act.put, zqd, zqe, zqf, zqa, zqb, zqc]
          refine wpAnyF_ready (rs := [2]) (by kernel_rfl) (by simp) ?_
          refine AllReadyF.cons rfl (fun K hK => ?_) AllReadyF.nil
          first | (with_reducible refine iteYes ?hcx ?htx; case hcx => kernel_rfl) | rw [if_pos (by rfl)]
          simp only [zqa, zqb, zqc]
          go_simp
          (go_at_call 12; refine (clamp_calls _ _ _ _ _ (by decide)).mono ?_; rintro e w5 ⟨rfl, k5⟩; have H5 : Hid (SbW w v i L kb q2 w5) := H4.out.keep ((Only.refl [] wc).drew.trans (Only.of_kept k5)); clear k5; simp only [bound_place])
          try go_wp2_with fail
          refine hK.out _ _ ?_ (fun hHeld2 => ?_)
          · (try dsimp only); exact H5.out.at'.nine
          clear hK K hHeld1
          try simp only [Act.put, zqd, zqe, zqf, zqa, zqb, zqc]
          refine wpAnyF_take (i := 9) (v := ?_) rfl (by kernel_rfl) (by kernel_rfl) (by kernel_rfl) (by kernel_rfl) (fun _ _ _ h => h) (Or.inl ⟨by kernel_rfl, ?_⟩) (by assumption) ?_
          rotate_left
          · intro w'' hSw; (try dsimp only at hSw); simp only [zqa, zqb, zqc]; (go_simp <;> with_reducible rfl)
          try simp only [Act.put, zqd, zqe, zqf, zqa, zqb, zqc]
          refine wpAnyF_ready (rs := [5]) (by kernel_rfl) (by simp) ?_
          refine AllReadyF.cons rfl (fun K hK => ?_) AllReadyF.nil
          first | (with_reducible refine iteYes ?hcx ?htx; case hcx => kernel_rfl) | rw [if_pos (by rfl)]
          simp only [zqa, zqb, zqc]
          go_simp
          (go_at_call 12; refine (clamp_calls _ _ _ _ _ (by decide)).mono ?_; rintro e w6 ⟨rfl, k6⟩; have H6 : Hid (SbW w v i L kb q2 w6) := H5.out.keep (Only.of_kept k6); clear k6; simp only [bound_speed])
          try go_wp2_with fail
          refine hK.out _ _ ?_ (fun hHeld3 => ?_)
          · (try dsimp only); exact H6.out.at'.nine
          clear hK K hHeld2
          try simp only [Act.put, zqd, zqe, zqf, zqa, zqb, zqc]
          refine wpAnyF_ready (rs := [8]) (by kernel_rfl) (by simp) ?_
          refine AllReadyF.cons rfl (fun K hK => ?_) AllReadyF.nil
          first | (with_reducible refine iteYes ?hcx ?htx; case hcx => kernel_rfl) | rw [if_pos (by rfl)]
          simp only [zqa, zqb, zqc]
          go_simp
          (go_at_call 12; refine (clamp_calls _ _ _ _ _ (by decide)).mono ?_; rintro e w7 ⟨rfl, k7⟩; have H7 : Hid (SbW w v i L kb q2 w7) := H6.out.keep (Only.of_kept k7); clear k7; simp only [bound_speed])
          try go_wp2_with fail
          refine hK.out _ _ ?_ (fun hHeld4 => ?_)
          · (try dsimp only); exact H7.out.at'.nine
          clear hK K hHeld3
          try simp only [Act.put, zqd, zqe, zqf, zqa, zqb, zqc]
          clear H4 H5 H6
          have c6 := H7.out.at'.off 6; have f6 := H7.out.at'.free' 6
          have c7 := H7.out.at'.off 7; have f7 := H7.out.at'.free' 7
          have c8 := H7.out.at'.off 8; have f8 := H7.out.at'.free' 8
          have c9 := H7.out.at'.off 9; have f9 := H7.out.at'.free' 9
          have c10 := H7.out.at'.off 10; have f10 := H7.out.at'.free' 10
          have c11 := H7.out.at'.off 11; have f11 := H7.out.at'.free' 11
          have c12 := H7.out.at'.off 12; have f12 := H7.out.at'.free' 12
          have c13 := H7.out.at'.off 13; have f13 := H7.out.at'.free' 13
          have c14 := H7.out.at'.off 14; have f14 := H7.out.at'.free' 14
          simp only [zqg, zqh, zqi] at c6 c7 c8 c9 c10 c11 c12 c13 c14
          refine wpAnyF_ready (rs := [10]) (by kernel_rfl) (by simp) ?_
          refine AllReadyF.fin rfl (by decide) (fun K hK => ?_) AllReadyF.nil
          first | (with_reducible refine iteYes ?hcx ?htx; case hcx => kernel_rfl) | rw [if_pos (by rfl)]
          simp only [zqa, zqb, zqc]
          go_simp
          skip
          refine hK.out _ _ ?_
          clear hK K
          try simp only [Act.put, zqd, zqe, zqf, zqa, zqb, zqc]
          refine wpAnyF_ready (rs := [11]) (by kernel_rfl) (by simp) ?_
          refine AllReadyF.fin rfl (by decide) (fun K hK => ?_) AllReadyF.nil
          first | (with_reducible refine iteYes ?hcx ?htx; case hcx => kernel_rfl) | rw [if_pos (by rfl)]
          simp only [zqa, zqb, zqc]
          go_simp
          skip
          refine hK.out _ _ ?_
          clear hK K
          try simp only [Act.put, zqd, zqe, zqf, zqa, zqb, zqc]
          refine wpAnyF_ready (rs := [12]) (by kernel_rfl) (by simp) ?_
          refine AllReadyF.fin rfl (by decide) (fun K hK => ?_) AllReadyF.nil
          first | (with_reducible refine iteYes ?hcx ?htx; case hcx => kernel_rfl) | rw [if_pos (by rfl)]
          simp only [zqa, zqb, zqc]
          go_simp
          skip
          refine hK.out _ _ ?_
          clear hK K
          try simp only [Act.put, zqd, zqe, zqf, zqa, zqb, zqc]
          refine wpAnyF_ready (rs := [13]) (by kernel_rfl) (by simp) ?_
          refine AllReadyF.fin rfl (by decide) (fun K hK => ?_) AllReadyF.nil
          first | (with_reducible refine iteYes ?hcx ?htx; case hcx => kernel_rfl) | rw [if_pos (by rfl)]
          simp only [zqa, zqb, zqc]
          go_simp
          skip
          refine hK.out _ _ ?_
          clear hK K
          try simp only [Act.put, zqd, zqe, zqf, zqa, zqb, zqc]
          refine wpAnyF_ready (rs := [14]) (by kernel_rfl) (by simp) ?_
          refine AllReadyF.fin rfl (by decide) (fun K hK => ?_) AllReadyF.nil
          first | (with_reducible refine iteYes ?hcx ?htx; case hcx => kernel_rfl) | rw [if_pos (by rfl)]
          simp only [zqa, zqb, zqc]
          go_simp
          skip
          refine hK.out _ _ ?_
          clear hK K
          try simp only [Act.put, zqd, zqe, zqf, zqa, zqb, zqc]
          refine wpAnyF_done (by kernel_rfl) ?_ _
          clear c6 c7 c8 c9 c10 c11 c12 c13 c14 f6 f7 f8 f9 f10 f11 f12 f13 f14
          obtain ⟨q3, hq3⟩ : ∃ q3, q3 = puX (spX (atX q2 (cl 65536000 q2.ax) (cl 65536000 q2.ay) (cl 65536000 q2.az)) (cl 6553600 q2.vx) (cl 6553600 q2.vy) (cl 6553600 q2.vz)) (cl 6553600 q2.px) (cl 6553600 q2.py) (cl 6553600 q2.pz) := ⟨_, rfl⟩
          obtain ⟨w8, hw8⟩ : ∃ w8, w8 = (((((((((w7.setCell ⟨kb, 6, none⟩ (.int .i64 (cl 65536000 q2.ax))).setCell ⟨kb, 7, none⟩ (.int .i64 (cl 65536000 q2.ay))).setCell ⟨kb, 8, none⟩ (.int .i64 (cl 65536000 q2.az))).setCell ⟨kb, 9, none⟩ (.int .i64 (cl 6553600 q2.vx))).setCell ⟨kb, 10, none⟩ (.int .i64 (cl 6553600 q2.vy))).setCell ⟨kb, 11, none⟩ (.int .i64 (cl 6553600 q2.vz))).setCell ⟨kb, 12, none⟩ (.int .i64 (cl 6553600 q2.px))).setCell ⟨kb, 13, none⟩ (.int .i64 (cl 6553600 q2.py))).setCell ⟨kb, 14, none⟩ (.int .i64 (cl 6553600 q2.pz))) := ⟨_, rfl⟩
          have H8 : Hid (SbW w v i L kb q3 w8) := by
            rw [hq3, hw8]
            exact H7.out.turn (only_put (by simp) (only_put (by simp) (only_put (by simp) (only_put (by simp) (only_put (by simp) (only_put (by simp) (only_put (by simp) (only_put (by simp) (only_put (by simp) (Only.refl _ _) _ _) _ _) _ _) _ _) _ _) _ _) _ _) _ _) _ _) (((H7.out.at'.at3 (cl 65536000 q2.ax) (cl 65536000 q2.ay) (cl 65536000 q2.az)).sp3 (cl 6553600 q2.vx) (cl 6553600 q2.vy) (cl 6553600 q2.vz)).pu3 (cl 6553600 q2.px) (cl 6553600 q2.py) (cl 6553600 q2.pz))
          have HQ3 : Hid (q3 = puX (spX (atX q2 (cl 65536000 q2.ax) (cl 65536000 q2.ay) (cl 65536000 q2.az)) (cl 6553600 q2.vx) (cl 6553600 q2.vy) (cl 6553600 q2.vz)) (cl 6553600 q2.px) (cl 6553600 q2.py) (cl 6553600 q2.pz)) := hq3
          rw [← hw8]
          clear hq3 hw8 H7
          have c15 := H8.out.at'.off 15
          have f15 := H8.out.at'.free' 15
          simp only [zqg, zqh, zqi] at c15
          go_wp2_with fail
          refine (pickW_calls _ 1310720 _ (by omega) (by omega)).mono ?_
          rintro e w9 ⟨ms, rfl, hm0, hm1, hw⟩
          subst hw
          have HM : Hid (0 ≤ ms ∧ ms < 1310720) := ⟨hm0, hm1⟩
          clear hm0 hm1
          go_upto_region 13 with fail
          clear c15 f15
          obtain ⟨q4, hq4⟩ : ∃ q4, q4 = msX q3 ms := ⟨_, rfl⟩
          have HF : Hid (rightW q4 = 0) := by
            show rightW q4 = 0
            rw [hq4, HQ3.out, HK.out.2]
            exact fit_all HO.out HM.out HK.out.1 _ _ _ _ _ _ _ _ _
          have H9 : Hid (SbW w v i L kb q4 (w9.setCell ⟨kb, 15, none⟩ (.int .i64 ms))) := by
            rw [hq4]
            exact H8.out.turn (only_put (by simp) (Only.refl _ _) _ _) (H8.out.at'.ms ms)
          generalize World.setCell w9 _ _ = w10 at H9 ⊢
          clear hq4 HQ3 H8 HK HM HO
          have hc := H9.out.at'.range
          have hsl := H9.out.so.row
          have hsz := H9.out.so.only.size
          obtain ⟨i2, hi0, hz0, hz1, hz2⟩ := info_parts' bodyInfo
          go_wp2_with (first | (refine wpList_load_mid rfl 37 (.tmp 5) rfl kb 0 rfl [.int .i64 (q4.id), .int .i64 (q4.ow), .int .i64 (q4.kd), .int .i64 (q4.sx), .int .i64 (q4.sy), .int .i64 (q4.sz), .int .i64 (q4.ax), .int .i64 (q4.ay), .int .i64 (q4.az), .int .i64 (q4.vx), .int .i64 (q4.vy), .int .i64 (q4.vz), .int .i64 (q4.px), .int .i64 (q4.py), .int .i64 (q4.pz), .int .i64 (q4.ms), .int .i64 (q4.tm)] _ (range17 hc) Tryz.underlying37 rfl bodySize ?_) | (at_builtin; refine wpList_append_own_at _ rfl _ _ 22 rfl w.heap.size 37 i2 (.agg #[.int .i64 0, .int .i64 0, .int .i64 0, .int .i64 0, .int .i64 0, .int .i64 0, .int .i64 0, .int .i64 0, .int .i64 0, .int .i64 0, .int .i64 0, .int .i64 0, .int .i64 0, .int .i64 0, .int .i64 0, .int .i64 0, .int .i64 0]) 17 136 Tryz.underlying22 hi0 hz0 hz1 hz2 rfl (by decide) v i (rowsL L i) rfl (World.ownsRow.alloc hsl _) ⟨w10.heap.size, 0, none⟩ 1 1 [.int .i64 (q4.id), .int .i64 (q4.ow), .int .i64 (q4.kd), .int .i64 (q4.sx), .int .i64 (q4.sy), .int .i64 (q4.sz), .int .i64 (q4.ax), .int .i64 (q4.ay), .int .i64 (q4.az), .int .i64 (q4.vx), .int .i64 (q4.vy), .int .i64 (q4.vz), .int .i64 (q4.px), .int .i64 (q4.py), .int .i64 (q4.pz), .int .i64 (q4.ms), .int .i64 (q4.tm)] rfl rfl (cells_new _ _ _) (by simp [Value.oneCell']) (by unfold maxLen; omega) (by omega) (by simp; omega) ?_; intro v' wa hown hgrow hnil hloc; have HA : Hid (SoW w v' (i + 1) (upd L i q4) wa) := SoW.snoc H9.out.so HF.out hown hgrow; clear hown hgrow hnil hloc hsl hc))
          go_roundg (20 - (i + 1))
          case measure => have := H1.out.2.2; omega
          case rel => exact ⟨v', i + 1, upd L i q4, rfl, by go_num, ⟨by omega, by omega, rfl⟩, HA⟩
      · have hil : (i : Int) < (n : Int) := by omega
        have hjl : decide ((i : Int) < 20) = false := by simp; omega
        go_wp2_with fail
        go_ret
        exact ⟨v, i, L, rfl, by omega, HS.out⟩
    · have hil : decide ((i : Int) < (n : Int)) = false := by simp; omega
      go_wp2_with fail
      go_ret
      exact ⟨v, i, L, rfl, by omega, HS.out⟩
end Go.Proofs.YtbfkloclmlnahabGreat

namespace Go.Proofs.YtbfkloclmlnahabGreat
open Go.ChangeShapes Go.WideShapes Go.ChangeAt Go.RowKit
set_option linter.unusedVariables false
set_option linter.unusedSimpArgs false

/-- The boxes of bodies. -/
def boxesB (B : Nat → Bd) : Nat → List (Int × Bx)
  | 0 => []
  | k + 1 => ((B k).id, boxB (B k)) :: boxesB B k
theorem boxesB_len (B : Nat → Bd) : ∀ n, (boxesB B n).length = n
  | 0 => rfl
  | n + 1 => by simp [boxesB, boxesB_len B n]
theorem boxesB_mem {B : Nat → Bd} {p : Int × Bx} : ∀ {n : Nat}, p ∈ boxesB B n ↔ ∃ j, j < n ∧ p = ((B j).id, boxB (B j))
  | 0 => by simp [boxesB]
  | n + 1 => by
    simp only [boxesB, List.mem_cons, boxesB_mem (n := n)]
    constructor
    · rintro (e | ⟨j, hj, e⟩)
      · exact ⟨n, by omega, e⟩
      · exact ⟨j, by omega, e⟩
    · rintro ⟨j, hj, e⟩
      by_cases q : j = n
      · subst q; exact Or.inl e
      · exact Or.inr ⟨j, by omega, e⟩
theorem boxesB_congr {B C : Nat → Bd} : ∀ {n : Nat}, (∀ j, j < n → B j = C j) → boxesB B n = boxesB C n
  | 0, _ => rfl
  | n + 1, h => by
    simp only [boxesB]
    rw [h n (by omega), boxesB_congr (n := n) (fun j hj => h j (by omega))]
theorem boxesB_keys {B : Nat → Bd} {i : Int} {n : Nat} : i ∈ (boxesB B n).map Prod.fst ↔ ∃ j, j < n ∧ (B j).id = i := by
  rw [List.mem_map]
  constructor
  · rintro ⟨p, hp, rfl⟩
    obtain ⟨j, hj, rfl⟩ := boxesB_mem.1 hp
    exact ⟨j, hj, rfl⟩
  · rintro ⟨j, hj, rfl⟩
    exact ⟨_, boxesB_mem.2 ⟨j, hj, rfl⟩, rfl⟩
theorem boxesB_put (C : Nat → Bd) (b : Bd) : ∀ (n k : Nat), k < n → Alone n C → b.id = (C k).id → ((b.id, boxB b) :: del (boxesB C n) b.id).Perm (boxesB (upd C k b) n)
  | 0, k, h, _, _ => by omega
  | n + 1, k, h, ha, hb => by
    by_cases e : k = n
    · subst e
      have e1 : del (boxesB C (k + 1)) b.id = boxesB C k := by
        have hn : b.id ∉ (boxesB C k).map Prod.fst := fun q => by
          obtain ⟨j, hj, hji⟩ := boxesB_keys.1 q
          have := ha j k (by omega) (by omega) (by rw [hji, hb])
          omega
        have e2 : del (boxesB C (k + 1)) b.id = del (boxesB C k) b.id := by
          unfold del; simp [boxesB, hb]
        rw [e2, del_none hn]
      rw [e1]
      have e3 : boxesB (upd C k b) (k + 1) = (b.id, boxB b) :: boxesB C k := by
        simp only [boxesB]
        rw [show upd C k b k = b from by unfold upd; rw [if_pos rfl], boxesB_congr (B := upd C k b) (C := C) (fun j hj => by unfold upd; rw [if_neg (by omega)])]
      rw [e3]
    · have ih := boxesB_put C b n k (by omega) (fun i j hi hj => ha i j (by omega) (by omega)) hb
      have hne : (C n).id ≠ b.id := fun q => by
        have := ha n k (by omega) (by omega) (by rw [q, hb])
        omega
      have e1 : del (boxesB C (n + 1)) b.id = ((C n).id, boxB (C n)) :: del (boxesB C n) b.id := by
        unfold del; simp [boxesB, hne]
      have e2 : boxesB (upd C k b) (n + 1) = ((C n).id, boxB (C n)) :: boxesB (upd C k b) n := by
        simp only [boxesB]
        rw [show upd C k b n = C n from by unfold upd; rw [if_neg (by omega)]]
      rw [e1, e2]
      exact (List.Perm.swap _ _ _).trans (ih.cons _)
/-- A body that may be: its shape's sizes, its place. -/
def Sized (q : Bd) : Prop := (0 ≤ q.sx ∧ q.sx ≤ 3276800) ∧ (0 ≤ hf q.kd q.sx q.sy ∧ hf q.kd q.sx q.sy ≤ 3276800) ∧ (0 ≤ hf q.kd q.sx q.sz ∧ hf q.kd q.sx q.sz ≤ 3276800)
theorem sub_small {a b : Int} (h : -65536000 ≤ a ∧ a ≤ 65536000) (k : 0 ≤ b ∧ b ≤ 3276800) : Go.Proofs.YtbfkloclmlnahabGreat.sub a b = a - b := by
  unfold Go.Proofs.YtbfkloclmlnahabGreat.sub; rw [cut_in (n := a) (by omega) (by omega), cut_in (n := b) (by omega) (by omega), cut_in (by omega) (by omega)]
theorem add_small {a b : Int} (h : -65536000 ≤ a ∧ a ≤ 65536000) (k : 0 ≤ b ∧ b ≤ 3276800) : Go.Proofs.YtbfkloclmlnahabGreat.add a b = a + b := by
  unfold Go.Proofs.YtbfkloclmlnahabGreat.add; rw [cut_in (n := a) (by omega) (by omega), cut_in (n := b) (by omega) (by omega), cut_in (by omega) (by omega)]
theorem rightC_box {q : Bd} (h : InA q) (s : Sized q) : rightC (boxB q) = 0 := by
  obtain ⟨h1, h2, h3⟩ := h
  obtain ⟨s1, s2, s3⟩ := s
  have e : boxB q = ⟨q.ax - q.sx, q.ay - hf q.kd q.sx q.sy, q.az - hf q.kd q.sx q.sz, q.ax + q.sx, q.ay + hf q.kd q.sx q.sy, q.az + hf q.kd q.sx q.sz⟩ := by
    unfold boxB
    rw [sub_small h1 s1, sub_small h2 s2, sub_small h3 s3, add_small h1 s1, add_small h2 s2, add_small h3 s3]
  rw [e]
  unfold rightC
  rw [if_pos, if_pos]
  · rw [withinX_iff]; unfold topX; simp only; omega
  · rw [meetX_iff]; simp only; omega
/-- Bodies hung anew. -/
theorem hangM_perm (B C : Nat → Bd) (M : List (Int × Bx)) (n : Nat) (h : M.Perm (boxesB B n)) (ha : Alone n B) (hid : ∀ j, j < n → (C j).id = (B j).id) (hr : ∀ j, j < n → rightC (boxB (C j)) = 0) : ∀ k, k ≤ n → (hangM C M k).Perm (boxesB (fun j => if j < k then C j else B j) n)
  | 0, _ => by simpa [hangM] using h
  | k + 1, hk => by
    have ih := hangM_perm B C M n h ha hid hr k (by omega)
    have hE : ∀ j, (if j < k then C j else B j).id = (B j).id ∨ n ≤ j := fun j => by
      by_cases q : j < n
      · left; split
        · exact hid j q
        · rfl
      · right; omega
    have hA : Alone n (fun j => if j < k then C j else B j) := fun i j hi hj e => by
      have e1 := hE i; have e2 := hE j
      rcases e1 with e1 | e1
      · rcases e2 with e2 | e2
        · simp only [e1, e2] at e; exact ha i j hi hj e
        · omega
      · omega
    have hin : (C k).id ∈ (hangM C M k).map Prod.fst := by
      rw [(ih.map Prod.fst).mem_iff, boxesB_keys]
      exact ⟨k, by omega, by rw [if_neg (by omega)]; exact (hid k (by omega)).symm⟩
    have hc : putC (hangM C M k) (C k).id (boxB (C k)) = 0 := by
      unfold putC; rw [if_pos (hr k (by omega)), if_neg (fun q => q.1 hin)]
    show (putM (hangM C M k) (C k).id (boxB (C k))).Perm _
    unfold putM put
    rw [if_pos hc]
    refine ((del_perm ih (C k).id).cons _).trans ?_
    refine (boxesB_put _ (C k) n k (by omega) hA (by show _ = (if k < k then C k else B k).id; rw [if_neg (by omega)]; exact hid k (by omega))).trans ?_
    rw [boxesB_congr (C := fun j => if j < k + 1 then C j else B j)]
    intro j hj
    unfold upd
    by_cases e : j = k
    · subst e; simp
    · by_cases q : j < k
      · simp [e, q, show j < k + 1 by omega]
      · simp [e, q, show ¬ j < k + 1 by omega]
theorem hangM_all {B C : Nat → Bd} {M : List (Int × Bx)} {n : Nat} (h : M.Perm (boxesB B n)) (ha : Alone n B) (hid : ∀ j, j < n → (C j).id = (B j).id) (hr : ∀ j, j < n → rightC (boxB (C j)) = 0) : (hangM C M n).Perm (boxesB C n) := by
  have := hangM_perm B C M n h ha hid hr n (Nat.le_refl _)
  rw [boxesB_congr (C := C)] at this
  · exact this
  · intro j hj; simp [hj]
/-- One more. -/
theorem putM_new {B : Nat → Bd} {M : List (Int × Bx)} {n : Nat} {b : Bd} (h : M.Perm (boxesB B n)) (hn : n < 60) (hid : ∀ j, j < n → (B j).id ≠ b.id) (hr : rightC (boxB b) = 0) : putC M b.id (boxB b) = 0 ∧ (putM M b.id (boxB b)).Perm (boxesB (upd B n b) (n + 1)) := by
  have hl : M.length = n := by rw [h.length_eq, boxesB_len]
  have hin : b.id ∉ M.map Prod.fst := by
    rw [(h.map Prod.fst).mem_iff, boxesB_keys]
    rintro ⟨j, hj, e⟩
    exact hid j hj e
  have hc : putC M b.id (boxB b) = 0 := by unfold putC; rw [if_pos hr, if_neg (by omega)]
  refine ⟨hc, ?_⟩
  unfold putM put
  rw [if_pos hc, del_none hin]
  have e : boxesB (upd B n b) (n + 1) = (b.id, boxB b) :: boxesB B n := by
    simp only [boxesB]
    rw [show upd B n b n = b from by unfold upd; rw [if_pos rfl], boxesB_congr (B := upd B n b) (C := B) (fun j hj => by unfold upd; rw [if_neg (by omega)])]
  rw [e]
  exact h.cons _
end Go.Proofs.YtbfkloclmlnahabGreat

namespace Go.Proofs.YtbfkloclmlnahabGreat
open Go.ChangeShapes Go.WideShapes Go.ChangeAt Go.RowKit
set_option linter.unusedVariables false
set_option linter.unusedSimpArgs false

theorem cl_fix {m x : Int} (hm : 0 ≤ m) (h : cl m x = x) : -m ≤ x ∧ x ≤ m := by rw [← h]; exact cl_two hm x
theorem beyX_parts {m x y z : Int} (h : beyX m x y z = false) : cl m x = x ∧ cl m y = y ∧ cl m z = z := by
  unfold beyX at h; simpa using h
theorem rightB_sized {q : Bd} (h : rightB q.kd q.sx q.sy q.sz = true) : Sized q := by
  unfold rightB sz at h
  unfold Sized hf
  by_cases h1 : q.kd = 1
  · simp only [h1, if_true, Bool.and_eq_true, decide_eq_true_eq] at h ⊢
    omega
  · rw [if_neg h1] at h
    split at h
    · simp only [Bool.and_eq_true, decide_eq_true_eq] at h
      rw [if_neg h1, if_neg h1]
      omega
    · cases h
theorem rightW_parts {q : Bd} (h : rightW q = 0) : InA q ∧ InV q ∧ Sized q := by
  unfold rightW at h
  split at h
  · rename_i hr
    split at h
    · rename_i hh
      obtain ⟨_, _, h1, h2, _⟩ := hh
      obtain ⟨a1, a2, a3⟩ := beyX_parts h1
      obtain ⟨b1, b2, b3⟩ := beyX_parts h2
      exact ⟨⟨cl_fix (by omega) a1, cl_fix (by omega) a2, cl_fix (by omega) a3⟩, ⟨cl_fix (by omega) b1, cl_fix (by omega) b2, cl_fix (by omega) b3⟩, rightB_sized hr⟩
    · cases h
  · cases h
/-- Bodies with the numbers that a world gives them. -/
def NB (L : Nat → Bd) (i : Nat) : Nat → Bd := fun j => if j < i then numB (L j) ((j : Int) + 1) else bd0
theorem NB_zero (L : Nat → Bd) : NB L 0 = fun _ => bd0 := by funext j; simp [NB]
theorem NB_succ (L : Nat → Bd) (i : Nat) : NB L (i + 1) = upd (NB L i) i (numB (L i) ((i : Int) + 1)) := by
  funext j
  unfold NB upd
  by_cases e : j = i
  · subst e; simp
  · by_cases h : j < i
    · simp [e, h, show j < i + 1 by omega]
    · simp [e, h, show ¬ j < i + 1 by omega]
theorem NB_lt (L : Nat → Bd) {i j : Nat} (h : j < i) : NB L i j = numB (L j) ((j : Int) + 1) := by unfold NB; rw [if_pos h]
theorem NB_id (L : Nat → Bd) {i j : Nat} (h : j < i) : (NB L i j).id = (j : Int) + 1 := by rw [NB_lt L h]; rfl
theorem RowB.slarg {w : World} {a : Option Addr} {n cap : Nat} {B : Nat → Bd} (h : RowB w a n cap B) : SlArg a n cap := fun e => by
  obtain ⟨hl, ⟨e1, hn⟩ | ⟨g, cp, cur, e1, _⟩⟩ := h
  · injection e1 with e1 e2 e3; exact ⟨e2, e3⟩
  · injection e1 with e1; rw [e] at e1; cases e1
/-- While filled runs. -/
structure FW (w : World) (x g : Nat) (c : Wc) (a : Option Addr) (i cap t : Nat) (L : Nat → Bd) (M : List (Int × Bx)) (D : List Nat) (wr : World) : Prop where
  ww : WW [] w x g c a i cap t (i : Int) 0 (NB L i) M D wr
  row : RowB wr a i cap (NB L i)
  ga : ∀ g' o s, a = some ⟨g', o, s⟩ → g' = g
  perm : M.Perm (boxesB (NB L i) i)
theorem spawn_ok {c : Wc} {L : Nat → Bd} {i : Nat} {M : List (Int × Bx)} (hp : M.Perm (boxesB (NB L i) i)) (hi : i < 60) (hq : c.qt = 60) (hr : rightW (L i) = 0) :
    spawnC c (NB L i) i M (i : Int) (L i) = 0 ∧ (putM M ((i : Int) + 1) (boxB (numB (L i) ((i : Int) + 1)))).Perm (boxesB (NB L (i + 1)) (i + 1)) := by
  obtain ⟨ha, _, hs⟩ := rightW_parts hr
  have h1 := putM_new (b := numB (L i) ((i : Int) + 1)) hp hi (fun j hj => by rw [NB_id L hj]; show (j : Int) + 1 ≠ (i : Int) + 1; omega) (rightC_box (q := numB (L i) ((i : Int) + 1)) ha hs)
  have h2 : satX (NB L i) i (L i).ow c.qt = false := by
    unfold satX
    split
    · rfl
    · have := cntO_le (NB L i) (L i).ow i
      simp; omega
  refine ⟨?_, ?_⟩
  · unfold spawnC
    rw [if_pos hr, if_neg (by rw [h2]; simp; omega)]
    exact h1.1
  · rw [NB_succ]; exact h1.2
def fallC (f1 f2 f3 bo ru ro : Int) : Wc := ⟨cl 6553600 f1, cl 6553600 f2, cl 6553600 f3, bo, ru, ro, 60⟩
theorem newW_ok {f1 f2 f3 bo ru ro : Int} (h : rightX bo ru ro = true) : newW (fallC f1 f2 f3 bo ru ro) = 0 := by
  unfold newW fallC
  rw [if_pos ⟨beyX_cl (by omega) _ _ _, by show upX 60 60 = true; decide⟩, if_pos h]
/-- What filled tells: a world of the bodies, numbered. -/
def FilledPost (m : Nat) (L : Nat → Bd) (c : Wc) (w : World) (e : Ending) (w' : World) : Prop :=
  ∃ x g a cap t M D, e = .returned (.pointer (some ⟨x, 0, none⟩)) ∧ FW w x g c a m cap t L M D w'
def VLAt (kf kl : Nat) (f1 f2 f3 bo ru ro : Int) (w' : World) : Prop := w'.cell? ⟨kf, 0, none⟩ = some (.int .i64 f1) ∧ w'.cell? ⟨kf, 1, none⟩ = some (.int .i64 f2) ∧ w'.cell? ⟨kf, 2, none⟩ = some (.int .i64 f3) ∧ w'.cell? ⟨kl, 0, none⟩ = some (.int .i64 bo) ∧ w'.cell? ⟨kl, 1, none⟩ = some (.int .i64 ru) ∧ w'.cell? ⟨kl, 2, none⟩ = some (.int .i64 ro)
theorem VLAt.only {kf kl : Nat} {f1 f2 f3 bo ru ro : Int} {w w' : World} (h : VLAt kf kl f1 f2 f3 bo ru ro w) (o : Only [] w w') : VLAt kf kl f1 f2 f3 bo ru ro w' := ⟨cell_old1 o h.1, cell_old1 o h.2.1, cell_old1 o h.2.2.1, cell_old1 o h.2.2.2.1, cell_old1 o h.2.2.2.2.1, cell_old1 o h.2.2.2.2.2⟩
theorem FW.first {w w1 w3 : World} {x g t : Nat} {c : Wc} {L : Nat → Bd} {D : List Nat} (o : Only [] w w1) (h : WW [] w1 x g c none 0 0 t 0 0 (fun _ => bd0) [] D w3) : FW w x g c none 0 0 t L [] D w3 := by
  refine ⟨?_, ⟨rfl, Or.inl ⟨rfl, rfl⟩⟩, fun _ _ _ e => (by cases e), List.Perm.nil⟩
  rw [NB_zero]
  exact ⟨h.wa, h.own, h.tree, h.xD, h.gD, h.glt, h.xg, h.xnew.imp id (Nat.le_trans o.size), h.gnew.imp id (Nat.le_trans o.size), fun b hb => (h.dnew b hb).imp id (Nat.le_trans o.size), o.trans h.only⟩
set_option maxRecDepth 100000 in
set_option maxHeartbeats 8000000 in
theorem filled_calls (a : Option Addr) (m cc : Nat) (L : Nat → Bd) (f1 f2 f3 bo ru ro : Int) (w : World) (hm : m ≤ 59) (h : BodiesAt w a m L) (hf : ∀ j, j < m → rightW (L j) = 0) (hl : rightX bo ru ro = true) :
    Calls Tryz.prog 7 #[.slice a m cc, .agg #[.int .i64 f1, .int .i64 f2, .int .i64 f3], .agg #[.int .i64 bo, .int .i64 ru, .int .i64 ro]] w (FilledPost m L (fallC f1 f2 f3 bo ru ro) w) := by
  have HB : Hid (BodiesAt w a m L ∧ (∀ j, j < m → rightW (L j) = 0) ∧ m ≤ 59 ∧ newW (fallC f1 f2 f3 bo ru ro) = 0) := ⟨h, hf, hm, newW_ok hl⟩
  clear h hf hm hl
  go_enter Tryz.func7, Tryz.ntmps7
  go_upto_region 1 with fail
  have H1 : Hid (VLAt w.heap.size (w.heap.size + 1) f1 f2 f3 bo ru ro ((w.alloc (.cells #[.int .i64 f1, .int .i64 f2, .int .i64 f3] 24)).alloc (.cells #[.int .i64 bo, .int .i64 ru, .int .i64 ro] 30)) ∧ Only [] w ((w.alloc (.cells #[.int .i64 f1, .int .i64 f2, .int .i64 f3] 24)).alloc (.cells #[.int .i64 bo, .int .i64 ru, .int .i64 ro] 30))) := by
    refine ⟨⟨?_, ?_, ?_, ?_, ?_, ?_⟩, ((Only.refl [] w).alloc _).alloc _⟩
    · exact cell_old1 ((Only.refl [] _).alloc _) (by simp)
    · exact cell_old1 ((Only.refl [] _).alloc _) (by simp)
    · exact cell_old1 ((Only.refl [] _).alloc _) (by simp)
    · simp
    · simp
    · simp
  revert H1
  generalize w.heap.size + 1 = kl
  generalize w.heap.size = kf
  generalize World.alloc (World.alloc w _) _ = w1
  intro H1
  refine wp_region_held_drew (S := (fun w' => w'.cell? ⟨kf, 0, none⟩ = some (.int .i64 f1) ∧ w'.cell? ⟨kf, 1, none⟩ = some (.int .i64 f2) ∧ w'.cell? ⟨kf, 2, none⟩ = some (.int .i64 f3) ∧ w'.cell? ⟨kl, 0, none⟩ = some (.int .i64 bo) ∧ w'.cell? ⟨kl, 1, none⟩ = some (.int .i64 ru) ∧ w'.cell? ⟨kl, 2, none⟩ = some (.int .i64 ro))) (by kernel_rfl) ?_ (fun hHeld1 => ?_)
  · (try dsimp only); exact H1.out.1.only (Only.refl [] w1).drew
  refine wpAnyH_take (i := 0) (v := ?_) rfl (by kernel_rfl) (by kernel_rfl) (by kernel_rfl) (fun _ _ _ h => h) (Or.inl ⟨by kernel_rfl, ?_⟩) (by assumption) ?_
  rotate_left
  · intro w'' hSw; (try dsimp only at hSw); simp only [zqa, zqb, zqc]; (go_simp <;> with_reducible rfl)
  try simp only [Act.put, zqd, zqe, zqf, zqa, zqb, zqc]
  refine wpAnyH_take (i := 2) (v := ?_) rfl (by kernel_rfl) (by kernel_rfl) (by kernel_rfl) (fun _ _ _ h => h) (Or.inl ⟨by kernel_rfl, ?_⟩) (by assumption) ?_
  rotate_left
  · intro w'' hSw; (try dsimp only at hSw); simp only [zqa, zqb, zqc]; (go_simp <;> with_reducible rfl)
  try simp only [Act.put, zqd, zqe, zqf, zqa, zqb, zqc]
  refine wpAnyH_ready (rs := [1]) (by kernel_rfl) (by simp) ?_
  refine AllReadyH.cons rfl (fun K hK => ?_) AllReadyH.nil
  first | (with_reducible refine iteYes ?hcx ?htx; case hcx => kernel_rfl) | rw [if_pos (by rfl)]
  simp only [zqa, zqb, zqc]
  go_simp
  (go_at_call 12; refine (clamp_calls _ _ _ _ _ (by decide)).mono ?_; rintro e w2 ⟨rfl, k2⟩; have H2 : Hid (VLAt kf kl f1 f2 f3 bo ru ro w2 ∧ Only [] w w2) := ⟨H1.out.1.only ((Only.refl [] w1).drew.trans (Only.of_kept k2)), (H1.out.2.drew).trans (Only.of_kept k2)⟩; clear k2; simp only [bound_speed])
  try go_wp2_with fail
  refine hK.out _ _ ?_ (fun hHeld2 => ?_)
  · (try dsimp only); exact H2.out.1
  clear hK K hHeld1
  try simp only [Act.put, zqd, zqe, zqf, zqa, zqb, zqc]
  refine wpAnyH_take (i := 3) (v := ?_) rfl (by kernel_rfl) (by kernel_rfl) (by kernel_rfl) (fun _ _ _ h => h) (Or.inl ⟨by kernel_rfl, ?_⟩) (by assumption) ?_
  rotate_left
  · intro w'' hSw; (try dsimp only at hSw); simp only [zqa, zqb, zqc]; (go_simp <;> with_reducible rfl)
  try simp only [Act.put, zqd, zqe, zqf, zqa, zqb, zqc]
  refine wpAnyH_ready (rs := [4]) (by kernel_rfl) (by simp) ?_
  refine AllReadyH.cons rfl (fun K hK => ?_) AllReadyH.nil
  first | (with_reducible refine iteYes ?hcx ?htx; case hcx => kernel_rfl) | rw [if_pos (by rfl)]
  simp only [zqa, zqb, zqc]
  go_simp
  (go_at_call 15; refine (show Calls Tryz.prog 15 #[.agg #[.int .i64 ((fallC f1 f2 f3 bo ru ro).fx), .int .i64 ((fallC f1 f2 f3 bo ru ro).fy), .int .i64 ((fallC f1 f2 f3 bo ru ro).fz), .int .i64 ((fallC f1 f2 f3 bo ru ro).bo), .int .i64 ((fallC f1 f2 f3 bo ru ro).ru), .int .i64 ((fallC f1 f2 f3 bo ru ro).ro), .int .i64 ((fallC f1 f2 f3 bo ru ro).qt)]] w2 _ from wnew_calls (fallC f1 f2 f3 bo ru ro) w2).mono ?_; rintro e w3 ⟨hgood, _⟩; obtain ⟨x, t, g, rfl, hW⟩ := hgood HB.out.2.2.2; have H3 : Hid (FW w x g (fallC f1 f2 f3 bo ru ro) none 0 0 t L [] [t] w3 ∧ VLAt kf kl f1 f2 f3 bo ru ro w3) := ⟨FW.first H2.out.2 hW, H2.out.1.only hW.only⟩; clear hgood hW)
  try go_wp2_with fail
  refine hK.out _ _ ?_ (fun hHeld3 => ?_)
  · (try dsimp only); exact H3.out.2
  clear hK K hHeld2
  try simp only [Act.put, zqd, zqe, zqf, zqa, zqb, zqc]
  refine wpAnyH_take (i := 5) (v := ?_) rfl (by kernel_rfl) (by kernel_rfl) (by kernel_rfl) (fun _ _ _ h => h) (Or.inl ⟨by kernel_rfl, ?_⟩) (by assumption) ?_
  rotate_left
  · intro w'' hSw; (try dsimp only at hSw); simp only [zqa, zqb, zqc]; (go_simp <;> with_reducible rfl)
  try simp only [Act.put, zqd, zqe, zqf, zqa, zqb, zqc]
  refine wpAnyH_take (i := 6) (v := ?_) rfl (by kernel_rfl) (by kernel_rfl) (by kernel_rfl) (fun _ _ _ h => h) (Or.inl ⟨by kernel_rfl, ?_⟩) (by assumption) ?_
  rotate_left
  · intro w'' hSw; (try dsimp only at hSw); simp only [zqa, zqb, zqc]; (go_simp <;> with_reducible rfl)
  try simp only [Act.put, zqd, zqe, zqf, zqa, zqb, zqc]
  refine wpAnyH_take (i := 7) (v := ?_) rfl (by kernel_rfl) (by kernel_rfl) (by kernel_rfl) (fun _ _ _ h => h) (Or.inl ⟨by kernel_rfl, ?_⟩) (by assumption) ?_
  rotate_left
  · intro w'' hSw; (try dsimp only at hSw); simp only [zqa, zqb, zqc]; (go_simp <;> with_reducible rfl)
  try simp only [Act.put, zqd, zqe, zqf, zqa, zqb, zqc]
  refine wpAnyH_take (i := 8) (v := ?_) rfl (by kernel_rfl) (by kernel_rfl) (by kernel_rfl) (fun _ _ _ h => h) (Or.inl ⟨by kernel_rfl, ?_⟩) (by assumption) ?_
  rotate_left
  · intro w'' hSw; (try dsimp only at hSw); simp only [zqa, zqb, zqc]; (go_simp <;> with_reducible rfl)
  try simp only [Act.put, zqd, zqe, zqf, zqa, zqb, zqc]
  refine wpAnyH_take (i := 9) (v := ?_) rfl (by kernel_rfl) (by kernel_rfl) (by kernel_rfl) (fun _ _ _ h => h) (Or.inl ⟨by kernel_rfl, ?_⟩) (by assumption) ?_
  rotate_left
  · intro w'' hSw; (try dsimp only at hSw); simp only [zqa, zqb, zqc]; (go_simp <;> with_reducible rfl)
  try simp only [Act.put, zqd, zqe, zqf, zqa, zqb, zqc]
  refine wpAnyH_done (by kernel_rfl) ?_ _
  clear H1 H2
  go_wp2_with fail
  go_loopg [9] m (fun k idx wr => ∃ (i g : Nat) (a' : Option Addr) (cap : Nat) (M : List (Int × Bx)) (D : List Nat), idx = .int .i64 (i : Int) ∧ Hid (i ≤ m ∧ k = m - i) ∧ Hid (FW w x g (fallC f1 f2 f3 bo ru ro) a' i cap t L M D wr))
  case atStart => exact ⟨0, g, none, 0, [], [t], rfl, ⟨by omega, rfl⟩, H3.out.1⟩
  case round =>
    clear H3
    obtain ⟨i, g', a', cap, M, D, rfl, H4, HF⟩ := hrel
    have hm := HB.out.2.2.1
    by_cases hi : i < m
    · have hil : (i : Int) < (m : Int) := by omega
      obtain ⟨gb, f, rfl, hc⟩ := (HB.out.1.only HF.out.ww.only) i hi
      obtain ⟨q, hq⟩ : ∃ q, L i = q := ⟨_, rfl⟩
      have HQ : Hid (L i = q ∧ rightW (L i) = 0) := ⟨hq, HB.out.2.1 i hi⟩
      rw [hq] at hc
      clear hq
      go_wp2_with (first | (refine wpList_load_mid rfl 37 (.tmp 36) rfl gb (f + i * 17) rfl [.int .i64 (q.id), .int .i64 (q.ow), .int .i64 (q.kd), .int .i64 (q.sx), .int .i64 (q.sy), .int .i64 (q.sz), .int .i64 (q.ax), .int .i64 (q.ay), .int .i64 (q.az), .int .i64 (q.vx), .int .i64 (q.vy), .int .i64 (q.vz), .int .i64 (q.px), .int .i64 (q.py), .int .i64 (q.pz), .int .i64 (q.ms), .int .i64 (q.tm)] _ (range17 hc) Tryz.underlying37 rfl bodySize ?_))
      clear hc
      refine (spawn_calls w x g' (fallC f1 f2 f3 bo ru ro) a' i cap t (i : Int) 0 (NB L i) M D q wr (by omega) HF.out.ww HF.out.row HF.out.ga (by omega) (by omega)).mono ?_
      rintro e w5 ⟨hgood, _⟩
      have hok := spawn_ok (c := fallC f1 f2 f3 bo ru ro) HF.out.perm (by omega) rfl HQ.out.2
      rw [HQ.out.1] at hok
      obtain ⟨rfl, g5, a5, cap5, D5, hW, hR⟩ := hgood hok.1
      have H5 : Hid (FW w x g5 (fallC f1 f2 f3 bo ru ro) a5 (i + 1) cap5 t L (putM M ((i : Int) + 1) (boxB (numB q ((i : Int) + 1)))) D5 w5) := by
        have e1 : NB L (i + 1) = upd (NB L i) i (numB q ((i : Int) + 1)) := by rw [NB_succ, HQ.out.1]
        refine ⟨?_, ?_, ?_, hok.2⟩
        · rw [e1]; have e2 : ((i + 1 : Nat) : Int) = (i : Int) + 1 := by omega
          rw [e2]; exact hW
        · rw [e1]; exact hR
        · intro g2 o2 s2 e
          rcases hW.own with q | q
          · omega
          · rw [q.1] at e; injection e with e; injection e with e1; exact e1.symm
      clear hgood hok hW hR
      go_wp2_with fail
      go_roundg (m - (i + 1))
      case measure => have := H4.out.2; omega
      case rel => exact ⟨i + 1, g5, a5, cap5, _, D5, by go_num, ⟨by omega, rfl⟩, H5⟩
    · have hil : ¬ (i : Int) < (m : Int) := by omega
      obtain rfl : i = m := by have := H4.out.1; omega
      go_wp2_with fail
      go_ret
      exact ⟨x, g', a', cap, t, M, D, rfl, HF.out⟩
end Go.Proofs.YtbfkloclmlnahabGreat

namespace Go.Proofs.YtbfkloclmlnahabGreat
open Go.ChangeShapes Go.WideShapes Go.ChangeAt Go.RowKit
set_option linter.unusedVariables false
set_option linter.unusedSimpArgs false

/-- From where it is: its own blocks may turn. -/
theorem WW.rebase {E : List Nat} {w : World} {x g : Nat} {c : Wc} {a : Option Addr} {n cap t : Nat} {la st : Int} {C : Nat → Bd} {M : List (Int × Bx)} {D : List Nat} {wr : World} (h : WW E w x g c a n cap t la st C M D wr) : WW (x :: g :: D) wr x g c a n cap t la st C M D wr :=
  ⟨h.wa, h.own, h.tree, h.xD, h.gD, h.glt, h.xg, Or.inl (by simp), Or.inl (by simp), fun b hb => Or.inl (by simp [hb]), Only.refl _ _⟩
theorem WW.mem {E : List Nat} {w : World} {x g : Nat} {c : Wc} {a : Option Addr} {n cap t : Nat} {la st : Int} {C : Nat → Bd} {M : List (Int × Bx)} {D : List Nat} {wr : World} (h : WW E w x g c a n cap t la st C M D wr) {b : Nat} (hb : b ∈ x :: g :: D ∨ wr.heap.size ≤ b) : b ∈ E ∨ w.heap.size ≤ b := by
  rcases hb with hb | hb
  · rcases List.mem_cons.1 hb with e | hb
    · rw [e]; exact h.xnew
    · rcases List.mem_cons.1 hb with e | hb
      · rw [e]; exact h.gnew
      · exact h.dnew b hb
  · exact Or.inr (Nat.le_trans h.only.size hb)
/-- .. and back to where it began. -/
theorem WW.back {E : List Nat} {w : World} {x g g' : Nat} {c c' : Wc} {a a' : Option Addr} {n n' cap cap' t t' : Nat} {la st la' st' : Int} {C C' : Nat → Bd} {M M' : List (Int × Bx)} {D D' : List Nat} {wr w' : World} (h : WW E w x g c a n cap t la st C M D wr) (k : WW (x :: g :: D) wr x g' c' a' n' cap' t' la' st' C' M' D' w') : WW E w x g' c' a' n' cap' t' la' st' C' M' D' w' :=
  ⟨k.wa, k.own, k.tree, k.xD, k.gD, k.glt, k.xg, h.xnew, h.mem k.gnew, fun b hb => h.mem (k.dnew b hb), h.only.then k.only (fun b hb => h.mem (Or.inl hb))⟩
theorem stepW_id (c : Wc) (B : Nat → Bd) (n : Nat) (M : List (Int × Bx)) (j : Nat) : (stepW c B n M j).id = (B j).id := by
  unfold stepW stepT
  rw [(placesX_id _ _ _ _ _).1, mapTo_id moveB_id, speedsM_id, mapTo_id (driveB_id c)]
theorem pairs_one : ∀ {M : List (Int × Bx)}, M.length ≤ 1 → pairsM M = []
  | [], _ => by simp [pairsM, sort2]
  | [p], _ => by
    have e : pairM [p] p = [] := by
      unfold pairM above
      cases h : meetX p.2 p.2 <;> simp [h]
    simp [pairsM, sort2, e]
  | _ :: _ :: _, h => by simp at h
theorem stepW_one (c : Wc) (B : Nat → Bd) {M : List (Int × Bx)} (h : M.length ≤ 1) : stepW c B 1 M = stepT c B 1 [] := by
  unfold stepW touchesOf
  rw [pairs_one h]; rfl
def mvC : Wc := ⟨0, -5, 0, 0, 0, 1, 0⟩
def mvQ : Bd := ⟨0, 0, 1, 9, 0, 0, 0, 0, 0, 0, 0, 0, 0, 0, 0, 1, 0⟩
def mvB : Nat → Bd := upd (fun _ => bd0) 0 (numB mvQ 1)
def mvM : List (Int × Bx) := putM [] 1 (boxB (numB mvQ 1))
theorem mv_new : newW mvC = 0 := by decide +kernel
theorem mv_spawn : spawnC mvC (fun _ => bd0) 0 [] 0 mvQ = 0 := by decide +kernel
theorem mv_len : mvM.length ≤ 1 := by decide +kernel
theorem mv_len2 : (hangM (stepT mvC mvB 1 []) mvM 1).length ≤ 1 := by decide +kernel
theorem mv_fall : (stepT mvC (stepT mvC mvB 1 []) 1 [] 0).ay = -15 ∧ (stepT mvC (stepT mvC mvB 1 []) 1 [] 0).vy = -10 := by decide +kernel
theorem mv_ids (j : Nat) : (mvB j).id = 0 ∨ (mvB j).id = 1 := by
  unfold mvB upd
  by_cases h : j = 0
  · rw [if_pos h]; exact Or.inr rfl
  · rw [if_neg h]; exact Or.inl rfl
theorem rises_one (B : Nat → Bd) : Rises B 1 := fun i k h1 h2 => by omega
theorem find_one {B : Nat → Bd} {r : Nat} {v : Bool} (hid : (B 0).id = 1) (h : FindIs B 1 1 r v) : bodyX B r v = B 0 ∧ v = true := by
  obtain ⟨⟨h1, h2, h3⟩, h4⟩ := h
  have hr : r = 0 := by
    rcases h2 with e | e
    · exact e
    · by_cases q : r = 1
      · subst q; have : (B 0).id < 1 := e; omega
      · omega
  subst hr
  have hv : v = true := by rw [h4]; simp [hid]
  subst hv
  exact ⟨rfl, rfl⟩
set_option maxRecDepth 100000 in
set_option maxHeartbeats 4000000 in
theorem moved_calls (w : World) : Calls Tryz.prog 5 #[] w fun e w' => e = .returned (.bool true) ∧ Only [] w w' := by
  go_enter Tryz.func5, Tryz.ntmps5
  go_wp2_with fail
  refine (show Calls Tryz.prog 15 #[.agg #[.int .i64 0, .int .i64 (-5), .int .i64 0, .int .i64 0, .int .i64 0, .int .i64 1, .int .i64 0]] w _ from wnew_calls mvC w).mono ?_
  rintro e w1 ⟨hgood, _⟩
  obtain ⟨x, t, g, rfl, hW⟩ := hgood mv_new
  have H1 : Hid (WW [] w x g mvC none 0 0 t 0 0 (fun _ => bd0) [] [t] w1) := hW
  clear hgood hW
  go_wp2_with fail
  refine (show Calls Tryz.prog 16 #[.pointer (some ⟨x, 0, none⟩), .agg #[.int .i64 0, .int .i64 0, .int .i64 1, .int .i64 9, .int .i64 0, .int .i64 0, .int .i64 0, .int .i64 0, .int .i64 0, .int .i64 0, .int .i64 0, .int .i64 0, .int .i64 0, .int .i64 0, .int .i64 0, .int .i64 1, .int .i64 0]] w1 _ from spawn_calls w x g mvC none 0 0 t 0 0 (fun _ => bd0) [] [t] mvQ w1 (by omega) H1.out ⟨rfl, Or.inl ⟨rfl, rfl⟩⟩ (fun _ _ _ e => by cases e) (by omega) (by omega)).mono ?_
  rintro e w2 ⟨hgood, _⟩
  obtain ⟨rfl, g2, a2, cap2, D2, hW, hR⟩ := hgood mv_spawn
  have H2 : Hid (WW [] w x g2 mvC a2 1 cap2 t 1 0 mvB mvM D2 w2 ∧ SlArg a2 1 cap2) := ⟨hW, hR.slarg⟩
  clear hgood hW hR H1
  go_wp2_with fail
  refine (step_calls w x g2 mvC a2 1 cap2 t 1 0 mvB mvM D2 w2 (by omega) H2.out.1 (rises_one _) (fun j => by rcases mv_ids j with e | e <;> rw [e] <;> rfl) H2.out.2 (by omega) (by omega)).mono ?_
  rintro e w3 ⟨rfl, g3, a3, cap3, D3, hW, hS⟩
  rw [stepW_one mvC mvB mv_len] at hW
  have H3 : Hid (WW [] w x g3 mvC a3 1 cap3 t 1 1 (stepT mvC mvB 1 []) (hangM (stepT mvC mvB 1 []) mvM 1) D3 w3 ∧ SlArg a3 1 cap3) := ⟨hW, hS⟩
  clear hW hS H2
  go_wp2_with fail
  refine (step_calls w x g3 mvC a3 1 cap3 t 1 1 (stepT mvC mvB 1 []) (hangM (stepT mvC mvB 1 []) mvM 1) D3 w3 (by omega) H3.out.1 (rises_one _) (fun j => by rw [← stepW_one mvC mvB mv_len, stepW_id]; rcases mv_ids j with e | e <;> rw [e] <;> rfl) H3.out.2 (by omega) (by omega)).mono ?_
  rintro e w4 ⟨rfl, g4, a4, cap4, D4, hW, hS⟩
  have HID : Hid ((stepT mvC (stepT mvC mvB 1 []) 1 [] 0).id = 1) := by
    show (stepT mvC (stepT mvC mvB 1 []) 1 [] 0).id = 1
    rw [← stepW_one mvC (stepT mvC mvB 1 []) mv_len2, stepW_id, ← stepW_one mvC mvB mv_len, stepW_id]; rfl
  rw [stepW_one mvC (stepT mvC mvB 1 []) mv_len2] at hW
  have HY : Hid ((stepT mvC (stepT mvC mvB 1 []) 1 [] 0).ay = -15 ∧ (stepT mvC (stepT mvC mvB 1 []) 1 [] 0).vy = -10) := mv_fall
  generalize stepT mvC (stepT mvC mvB 1 []) 1 [] = B at hW HID HY
  have H4 : Hid (WW [] w x g4 mvC a4 1 cap4 t 1 2 B (hangM B (hangM (stepT mvC mvB 1 []) mvM 1) 1) D4 w4) := hW
  clear hW hS H3
  go_wp2_with fail
  refine (wbody_calls x 1 mvC a4 1 cap4 t 1 2 B w4 (by omega) H4.out.wa H4.out.own.bodies).mono ?_
  rintro e w5 ⟨r, v, rfl, hf, o5⟩
  obtain ⟨e1, rfl⟩ := find_one HID.out hf
  rw [e1]
  have HO : Hid (Only [] w w5) := H4.out.only.trans o5
  have hy := HY.out
  clear hf o5 e1 HID HY
  generalize B 0 = q at hy
  unfold bdV
  obtain ⟨hy1, hy2⟩ := hy
  rw [hy1, hy2]
  clear hy1 hy2
  go_wp2_with fail
  go_ret
  exact ⟨rfl, HO.out.alloc _⟩
end Go.Proofs.YtbfkloclmlnahabGreat

namespace Go.Proofs.YtbfkloclmlnahabGreat
open Go.ChangeShapes Go.WideShapes Go.ChangeAt Go.RowKit
set_option linter.unusedVariables false
set_option linter.unusedSimpArgs false

theorem NB_in (L : Nat → Bd) (m j : Nat) (hm : m ≤ 60) : In64S (NB L m j).id := by
  unfold NB
  split
  · exact in64_one (by show (0 : Int) ≤ (j : Int) + 1; omega) (by show (j : Int) + 1 ≤ 10000000; omega)
  · exact rfl
end Go.Proofs.YtbfkloclmlnahabGreat

namespace Go.Proofs.YtbfkloclmlnahabGreat
open Go.ChangeShapes Go.WideShapes Go.ChangeAt Go.RowKit Go.Sort Go.Shelf
set_option linter.unusedVariables false
set_option linter.unusedSimpArgs false

theorem pairsM_mem {M : List (Int × Bx)} {c : Int × Int} (h : c ∈ pairsM M) : ∃ a b, (c.1, a) ∈ M ∧ (c.2, b) ∈ M ∧ c.1 < c.2 ∧ meetX a b = true := by
  have h1 : c ∈ M.flatMap (pairM M) := (List.mergeSort_perm _ _).mem_iff.1 h
  obtain ⟨p, hp, hc⟩ := List.mem_flatMap.1 h1
  unfold pairM above at hc
  obtain ⟨y, hy, rfl⟩ := List.mem_map.1 hc
  obtain ⟨hy1, hy2⟩ := List.mem_filter.1 hy
  obtain ⟨r, hr, rfl⟩ := List.mem_map.1 hy1
  obtain ⟨hr1, hr2⟩ := List.mem_filter.1 hr
  exact ⟨p.2, r.2, hp, hr1, by simpa using hy2, by rw [meetX_comm]; exact hr2⟩
theorem pairM_fst {M : List (Int × Bx)} {p : Int × Bx} {c : Int × Int} (h : c ∈ pairM M p) : c.1 = p.1 := by
  unfold pairM above at h
  obtain ⟨y, _, rfl⟩ := List.mem_map.1 h
  rfl
theorem pairM_nodup {M : List (Int × Bx)} (h : (M.map Prod.fst).Nodup) (p : Int × Bx) : (pairM M p).Nodup := by
  unfold pairM above
  refine List.Pairwise.map (R := fun a b => a ≠ b) (S := fun a b => a ≠ b) _ (fun a b hab e => hab (by injection e)) ?_
  exact List.Nodup.sublist List.filter_sublist (List.Nodup.sublist ((List.filter_sublist).map _) h)
theorem flat_nodup (M : List (Int × Bx)) (h : (M.map Prod.fst).Nodup) : ∀ D : List (Int × Bx), (D.map Prod.fst).Nodup → (D.flatMap (pairM M)).Nodup
  | [], _ => by simp
  | p :: D, hd => by
    simp only [List.map_cons, List.nodup_cons] at hd
    rw [List.flatMap_cons, List.nodup_append]
    refine ⟨pairM_nodup h p, flat_nodup M h D hd.2, ?_⟩
    intro a ha b hb e
    subst e
    obtain ⟨r, hr, hc⟩ := List.mem_flatMap.1 hb
    exact hd.1 (by rw [← pairM_fst ha, pairM_fst hc]; exact List.mem_map_of_mem hr)
theorem pairsM_rise {M : List (Int × Bx)} (h : (M.map Prod.fst).Nodup) : (pairsM M).Pairwise (fun x y => x.1 < y.1 ∨ (x.1 = y.1 ∧ x.2 < y.2)) := by
  have tr : ∀ a b c : Int × Int, (!decide (cmp2 b a < 0)) = true → (!decide (cmp2 c b < 0)) = true → (!decide (cmp2 c a < 0)) = true := by
    intro a b c h1 h2
    rw [sort2_le, lt2] at *
    simp at *; omega
  have tot : ∀ a b : Int × Int, ((!decide (cmp2 b a < 0)) || (!decide (cmp2 a b < 0))) = true := by
    intro a b
    rw [sort2_le, sort2_le, lt2, lt2]
    simp; omega
  have s1 : (pairsM M).Pairwise _ := List.pairwise_mergeSort (le := fun x y : Int × Int => !decide (cmp2 y x < 0)) tr tot (M.flatMap (pairM M))
  have s2 : (pairsM M).Nodup := (List.mergeSort_perm _ _).symm.nodup (flat_nodup M h M h)
  refine (List.Pairwise.and s1 s2).imp ?_
  intro a b hab
  obtain ⟨h1, h2⟩ := hab
  rw [sort2_le, lt2] at h1
  simp at h1
  have : a ≠ b := h2
  have h3 : ¬ (a.1 = b.1 ∧ a.2 = b.2) := fun e => this (Prod.ext e.1 e.2)
  omega
theorem pairsM_in {M : List (Int × Bx)} {c : Int × Int} {a b : Bx} (h1 : (c.1, a) ∈ M) (h2 : (c.2, b) ∈ M) (hl : c.1 < c.2) (hm : meetX a b = true) : c ∈ pairsM M := by
  refine (List.mergeSort_perm _ _).mem_iff.2 ?_
  refine List.mem_flatMap.2 ⟨(c.1, a), h1, ?_⟩
  unfold pairM above
  refine List.mem_map.2 ⟨c.2, List.mem_filter.2 ⟨List.mem_map.2 ⟨(c.2, b), List.mem_filter.2 ⟨h2, by rw [meetX_comm]; exact hm⟩, rfl⟩, by simpa using hl⟩, rfl⟩
theorem pairsM_iff {M : List (Int × Bx)} {c : Int × Int} : c ∈ pairsM M ↔ ∃ a b, (c.1, a) ∈ M ∧ (c.2, b) ∈ M ∧ c.1 < c.2 ∧ meetX a b = true :=
  ⟨pairsM_mem, fun ⟨_, _, h1, h2, h3, h4⟩ => pairsM_in h1 h2 h3 h4⟩
/-- Rising lists with the same members are the same. -/
theorem rise_same {P Q : List (Int × Int)} (hP : P.Pairwise (fun x y => x.1 < y.1 ∨ (x.1 = y.1 ∧ x.2 < y.2))) (hQ : Q.Pairwise (fun x y => x.1 < y.1 ∨ (x.1 = y.1 ∧ x.2 < y.2))) (h : ∀ c, c ∈ P ↔ c ∈ Q) : P = Q := by
  have nd : ∀ {R : List (Int × Int)}, R.Pairwise (fun x y => x.1 < y.1 ∨ (x.1 = y.1 ∧ x.2 < y.2)) → R.Nodup := fun hR => hR.imp (fun hab e => by subst e; omega)
  have p : P.Perm Q := (List.perm_ext_iff_of_nodup (nd hP) (nd hQ)).2 h
  exact p.eq_of_pairwise (fun a b _ _ h1 h2 => by omega) hP hQ
end Go.Proofs.YtbfkloclmlnahabGreat

namespace Go.Proofs.YtbfkloclmlnahabGreat
open Go.ChangeShapes Go.WideShapes Go.ChangeAt Go.RowKit
set_option linter.unusedVariables false
set_option linter.unusedSimpArgs false

def Agree (n : Nat) (B C : Nat → Bd) : Prop := ∀ j, j < n → B j = C j
def Num (n : Nat) (B : Nat → Bd) : Prop := ∀ j, j < n → (B j).id = (j : Int) + 1
def Near (n : Nat) (t : Tc) : Prop := 1 ≤ t.a ∧ t.a ≤ (n : Int) ∧ 1 ≤ t.b ∧ t.b ≤ (n : Int)
def Far (n : Nat) (t : Tc) : Prop := (n : Int) < t.a ∧ (n : Int) < t.b
theorem findX_in {B : Nat → Bd} {n : Nat} {id : Int} (h : Num n B) (h1 : 1 ≤ id) (h2 : id ≤ (n : Int)) : findX B id n = some (id.toNat - 1) :=
  findX_least (by omega) (by rw [h _ (by omega)]; omega) (fun x hx => by rw [h x (by omega)]; omega)
theorem findX_far {C : Nat → Bd} {N n i : Nat} {id : Int} (h : Num N C) (hf : findX C id N = some i) (hid : (n : Int) < id) : n ≤ i := by
  obtain ⟨h1, h2⟩ := findX_some hf
  rw [h i h1] at h2; omega
theorem upd_agree {n : Nat} {B C : Nat → Bd} (h : Agree n B C) (i : Nat) (b : Bd) : Agree n (upd B i b) (upd C i b) := fun j hj => by
  unfold upd; split
  · rfl
  · exact h j hj
theorem upd_far {n i : Nat} {B C : Nat → Bd} (h : Agree n B C) (hi : n ≤ i) (b : Bd) : Agree n B (upd C i b) := fun j hj => by
  unfold upd; rw [if_neg (by omega)]; exact h j hj
theorem giveX_agree {n : Nat} {B C : Nat → Bd} (h : Agree n B C) {i k : Nat} (hi : i < n) (hk : k < n) (x y a b c j : Int) : Agree n (giveX B i k x y a b c j) (giveX C i k x y a b c j) := by
  unfold giveX
  have h1 := upd_agree h i (lessV (B i) a b c (mul j x))
  simp only
  rw [← h i hi, ← h1 k hk]
  exact upd_agree h1 k _
theorem giveX_far {n : Nat} {B C : Nat → Bd} (h : Agree n B C) {i k : Nat} (hi : n ≤ i) (hk : n ≤ k) (x y a b c j : Int) : Agree n B (giveX C i k x y a b c j) := by
  unfold giveX
  exact upd_far (upd_far h hi _) hk _
theorem hitX_agree {n : Nat} {B C : Nat → Bd} (h : Agree n B C) {i k : Nat} (hi : i < n) (hk : k < n) (x y al : Int) (v : V3) (bo ru : Int) : Agree n (hitX B i k x y al v bo ru) (hitX C i k x y al v bo ru) := by
  unfold hitX
  simp only
  rw [← h i hi, ← h k hk]
  split
  · exact h
  · have h1 := giveX_agree h hi hk x y v.x v.y v.z (div (mul (-dotX (relX (B i) (B k)) v) (65536 + bo)) al)
    rw [← h1 i hi, ← h1 k hk]
    split
    · exact h1
    · exact giveX_agree h1 hi hk _ _ _ _ _ _
theorem hitX_far {n : Nat} {B C : Nat → Bd} (h : Agree n B C) {i k : Nat} (hi : n ≤ i) (hk : n ≤ k) (x y al : Int) (v : V3) (bo ru : Int) : Agree n B (hitX C i k x y al v bo ru) := by
  rcases hitX_cases C i k x y al v bo ru with e | ⟨j, e⟩ | ⟨j, a, b, c, j', e⟩
  · rw [e]; exact h
  · rw [e]; exact giveX_far h hi hk _ _ _ _ _ _
  · rw [e]; exact giveX_far (giveX_far h hi hk _ _ _ _ _ _) hi hk _ _ _ _ _ _
theorem hitStep_agree {n N : Nat} {B C : Nat → Bd} (h : Agree n B C) (hB : Num n B) (hC : Num N C) (hn : n ≤ N) (bo ru : Int) {t : Tc} (ht : Near n t) : Agree n (hitStep n bo ru B t) (hitStep N bo ru C t) := by
  obtain ⟨h1, h2, h3, h4⟩ := ht
  unfold hitStep
  rw [findX_in hB h1 h2, findX_in hB h3 h4, findX_in hC h1 (by omega), findX_in hC h3 (by omega)]
  have hi : t.a.toNat - 1 < n := by omega
  have hk : t.b.toNat - 1 < n := by omega
  simp only
  rw [← h _ hi, ← h _ hk]
  split
  · exact h
  · split
    · exact h
    · exact hitX_agree h hi hk _ _ _ _ _ _
theorem hitStep_far {n N : Nat} {B C : Nat → Bd} (h : Agree n B C) (hC : Num N C) (bo ru : Int) {t : Tc} (ht : Far n t) : Agree n B (hitStep N bo ru C t) := by
  unfold hitStep
  cases h1 : findX C t.a N with
  | none => exact h
  | some i =>
    cases h2 : findX C t.b N with
    | none => exact h
    | some k =>
      have hi := findX_far hC h1 ht.1
      have hk := findX_far hC h2 ht.2
      simp only
      split
      · exact h
      · split
        · exact h
        · exact hitX_far h hi hk _ _ _ _ _ _
theorem partX_agree {n : Nat} {B C : Nat → Bd} (h : Agree n B C) {i k : Nat} (hi : i < n) (hk : k < n) (x y all : Int) (w : V3) (deep : Int) : Agree n (partX B i k x y all w deep) (partX C i k x y all w deep) := by
  unfold partX
  have h1 := upd_agree h i (backX (B i) w (mul (deepX deep all) x))
  simp only
  rw [← h i hi, ← h1 k hk]
  exact upd_agree h1 k _
theorem partX_far {n : Nat} {B C : Nat → Bd} (h : Agree n B C) {i k : Nat} (hi : n ≤ i) (hk : n ≤ k) (x y all : Int) (w : V3) (deep : Int) : Agree n B (partX C i k x y all w deep) := by
  unfold partX
  exact upd_far (upd_far h hi _) hk _
theorem stepX_agree {n N : Nat} {B C : Nat → Bd} (h : Agree n B C) (hB : Num n B) (hC : Num N C) (hn : n ≤ N) {t : Tc} (ht : Near n t) : Agree n (stepX n B t) (stepX N C t) := by
  obtain ⟨h1, h2, h3, h4⟩ := ht
  unfold stepX
  rw [findX_in hB h1 h2, findX_in hB h3 h4, findX_in hC h1 (by omega), findX_in hC h3 (by omega)]
  have hi : t.a.toNat - 1 < n := by omega
  have hk : t.b.toNat - 1 < n := by omega
  simp only
  rw [← h _ hi, ← h _ hk]
  split
  · exact h
  · split
    · exact partX_agree h hi hk _ _ _ _ _
    · exact h
theorem stepX_far {n N : Nat} {B C : Nat → Bd} (h : Agree n B C) (hC : Num N C) {t : Tc} (ht : Far n t) : Agree n B (stepX N C t) := by
  unfold stepX
  cases h1 : findX C t.a N with
  | none => exact h
  | some i =>
    cases h2 : findX C t.b N with
    | none => exact h
    | some k =>
      have hi := findX_far hC h1 ht.1
      have hk := findX_far hC h2 ht.2
      simp only
      split
      · exact h
      · split
        · exact partX_far h hi hk _ _ _ _ _
        · exact h
theorem Num.congr {n : Nat} {B C : Nat → Bd} (h : Num n B) (e : ∀ j, (C j).id = (B j).id) : Num n C := fun j hj => by rw [e]; exact h j hj
section
variable {n N m r : Nat} {T T' : Nat → Tc}
theorem roundT_agree {B C : Nat → Bd} (h : Agree n B C) (hB : Num n B) (hC : Num N C) (hn : n ≤ N) (bo ru : Int) (hT : ∀ j, j < m → T j = T' j ∧ Near n (T j)) (hF : ∀ j, m ≤ j → j < m + r → Far n (T' j)) :
    Agree n (roundT n bo ru B T m) (roundT N bo ru C T' (m + r)) := by
  have key : ∀ m', m' ≤ m → Agree n (roundT n bo ru B T m') (roundT N bo ru C T' m') := by
    intro m'
    induction m' with
    | zero => intro _; exact h
    | succ k ih =>
      intro hk
      have h1 := ih (by omega)
      obtain ⟨e, hnear⟩ := hT k (by omega)
      show Agree n (hitStep n bo ru (roundT n bo ru B T k) (T k)) (hitStep N bo ru (roundT N bo ru C T' k) (T' k))
      rw [← e]
      exact hitStep_agree h1 (hB.congr (fun j => (roundT_id n bo ru B T k j).1)) (hC.congr (fun j => (roundT_id N bo ru C T' k j).1)) hn bo ru hnear
  have far : ∀ r', r' ≤ r → Agree n (roundT n bo ru B T m) (roundT N bo ru C T' (m + r')) := by
    intro r'
    induction r' with
    | zero => intro _; exact key m (Nat.le_refl _)
    | succ k ih =>
      intro hk
      exact hitStep_far (ih (by omega)) (hC.congr (fun j => (roundT_id N bo ru C T' (m + k) j).1)) bo ru (hF (m + k) (by omega) (by omega))
  exact far r (Nat.le_refl _)
theorem roundsT_agree {B C : Nat → Bd} (h : Agree n B C) (hB : Num n B) (hC : Num N C) (hn : n ≤ N) (bo ru : Int) (hT : ∀ j, j < m → T j = T' j ∧ Near n (T j)) (hF : ∀ j, m ≤ j → j < m + r → Far n (T' j)) :
    ∀ p, Agree n (roundsT n bo ru B T m p) (roundsT N bo ru C T' (m + r) p)
  | 0 => h
  | p + 1 => roundT_agree (roundsT_agree h hB hC hn bo ru hT hF p) (hB.congr (fun j => (roundsT_id n bo ru B T m p j).1)) (hC.congr (fun j => (roundsT_id N bo ru C T' (m + r) p j).1)) hn bo ru hT hF
theorem speedsT_agree {B C : Nat → Bd} (h : Agree n B C) (hB : Num n B) (hC : Num N C) (hn : n ≤ N) (bo ru ro : Int) (hT : ∀ j, j < m → T j = T' j ∧ Near n (T j)) (hF : ∀ j, m ≤ j → j < m + r → Far n (T' j)) :
    Agree n (speedsT n B T m bo ru ro) (speedsT N C T' (m + r) bo ru ro) := by
  unfold speedsT
  split
  · have h1 := roundsT_agree h hB hC hn bo ru hT hF ro.toNat
    intro j hj
    show (if j < n then clampB _ else _) = (if j < N then clampB _ else _)
    rw [if_pos hj, if_pos (by omega), h1 j hj]
  · exact h
theorem placesX_agree {B C : Nat → Bd} (h : Agree n B C) (hB : Num n B) (hC : Num N C) (hn : n ≤ N) (hT : ∀ j, j < m → T j = T' j ∧ Near n (T j)) (hF : ∀ j, m ≤ j → j < m + r → Far n (T' j)) :
    Agree n (placesX n B T m) (placesX N C T' (m + r)) := by
  have key : ∀ m', m' ≤ m → Agree n (placesX n B T m') (placesX N C T' m') := by
    intro m'
    induction m' with
    | zero => intro _; exact h
    | succ k ih =>
      intro hk
      have h1 := ih (by omega)
      obtain ⟨e, hnear⟩ := hT k (by omega)
      show Agree n (stepX n (placesX n B T k) (T k)) (stepX N (placesX N C T' k) (T' k))
      rw [← e]
      exact stepX_agree h1 (hB.congr (fun j => (placesX_id n B T k j).1)) (hC.congr (fun j => (placesX_id N C T' k j).1)) hn hnear
  have far : ∀ r', r' ≤ r → Agree n (placesX n B T m) (placesX N C T' (m + r')) := by
    intro r'
    induction r' with
    | zero => intro _; exact key m (Nat.le_refl _)
    | succ k ih =>
      intro hk
      exact stepX_far (ih (by omega)) (hC.congr (fun j => (placesX_id N C T' (m + k) j).1)) (hF (m + k) (by omega) (by omega))
  exact far r (Nat.le_refl _)
theorem mapTo_agree {B C : Nat → Bd} (h : Agree n B C) (hn : n ≤ N) (f : Bd → Bd) : Agree n (mapTo f B n) (mapTo f C N) := fun j hj => by
  rw [mapTo_lt f B hj, mapTo_lt f C (show j < N by omega), h j hj]
end
/-- A step of bodies among more. -/
theorem stepT_agree {n N : Nat} {B C : Nat → Bd} (h : Agree n B C) (hB : Num n B) (hC : Num N C) (hn : n ≤ N) (c : Wc) {ts us : List Tc} (hN : ∀ t ∈ ts, Near n t) (hF : ∀ u ∈ us, Far n u) : Agree n (stepT c B n ts) (stepT c C N (ts ++ us)) := by
  have hT : ∀ j, j < ts.length → ts.getD j tc0 = (ts ++ us).getD j tc0 ∧ Near n (ts.getD j tc0) := fun j hj => by
    have e : ts.getD j tc0 = ts[j] := by simp [hj]
    have e2 : (ts ++ us).getD j tc0 = ts[j] := by simp [List.getElem?_append_left hj, hj]
    rw [e, e2]
    exact ⟨rfl, hN _ (List.getElem_mem hj)⟩
  have hF' : ∀ j, ts.length ≤ j → j < ts.length + us.length → Far n ((ts ++ us).getD j tc0) := fun j h1 h2 => by
    have h3 : j - ts.length < us.length := by omega
    have e : (ts ++ us).getD j tc0 = us[j - ts.length] := by simp [List.getElem?_append_right h1, h3]
    rw [e]
    exact hF _ (List.getElem_mem h3)
  unfold stepT
  rw [speeds_same, speeds_same, List.length_append]
  have d1 := mapTo_agree h hn (driveB c)
  have nB1 : Num n (mapTo (driveB c) B n) := hB.congr (fun j => mapTo_id (driveB_id c) B n j)
  have nC1 : Num N (mapTo (driveB c) C N) := hC.congr (fun j => mapTo_id (driveB_id c) C N j)
  have d2 := speedsT_agree d1 nB1 nC1 hn c.bo c.ru c.ro hT hF'
  have nB2 : Num n (speedsT n (mapTo (driveB c) B n) (fun j => ts.getD j tc0) ts.length c.bo c.ru c.ro) := nB1.congr (fun j => (speedsT_sp _ _ _ _ _ _ _ j).same.1)
  have nC2 : Num N (speedsT N (mapTo (driveB c) C N) (fun j => (ts ++ us).getD j tc0) (ts.length + us.length) c.bo c.ru c.ro) := nC1.congr (fun j => (speedsT_sp _ _ _ _ _ _ _ j).same.1)
  have d3 := mapTo_agree d2 hn moveB
  exact placesX_agree d3 (nB2.congr (fun j => mapTo_id moveB_id _ _ j)) (nC2.congr (fun j => mapTo_id moveB_id _ _ j)) hn hT hF'
/-- Touches hang on shapes and places alone. -/
theorem tchX_congr {p p' q q' : Bd} (h : p'.id = p.id ∧ p'.kd = p.kd ∧ p'.sx = p.sx ∧ p'.sy = p.sy ∧ p'.sz = p.sz ∧ p'.ax = p.ax ∧ p'.ay = p.ay ∧ p'.az = p.az) (k : q'.id = q.id ∧ q'.kd = q.kd ∧ q'.sx = q.sx ∧ q'.sy = q.sy ∧ q'.sz = q.sz ∧ q'.ax = q.ax ∧ q'.ay = q.ay ∧ q'.az = q.az) : tchX p' q' = tchX p q := by
  obtain ⟨a1, a2, a3, a4, a5, a6, a7, a8⟩ := h
  obtain ⟨b1, b2, b3, b4, b5, b6, b7, b8⟩ := k
  unfold tchX
  rw [a1, a2, a3, a4, a5, a6, a7, a8, b1, b2, b3, b4, b5, b6, b7, b8]
theorem getX_drive (c : Wc) (B : Nat → Bd) (n : Nat) (id : Int) : getX (mapTo (driveB c) B n) n id = getX B n id ∨ getX (mapTo (driveB c) B n) n id = driveB c (getX B n id) := by
  unfold getX
  rw [findX_congr (C := B) (fun i => mapTo_id (driveB_id c) B n i)]
  cases findX B id n with
  | none => exact Or.inl rfl
  | some i =>
    show mapTo (driveB c) B n i = B i ∨ mapTo (driveB c) B n i = driveB c (B i)
    unfold mapTo
    split
    · exact Or.inr rfl
    · exact Or.inl rfl
theorem drive_same (c : Wc) (q : Bd) : (driveB c q).id = q.id ∧ (driveB c q).kd = q.kd ∧ (driveB c q).sx = q.sx ∧ (driveB c q).sy = q.sy ∧ (driveB c q).sz = q.sz ∧ (driveB c q).ax = q.ax ∧ (driveB c q).ay = q.ay ∧ (driveB c q).az = q.az := by
  unfold driveB; split <;> exact ⟨rfl, rfl, rfl, rfl, rfl, rfl, rfl, rfl⟩
theorem touchesOf_is (c : Wc) (B : Nat → Bd) (n : Nat) (M : List (Int × Bx)) : touchesOf c B n M = tchL B n (pairsM M) := by
  unfold touchesOf tchL
  congr 1
  funext x
  have g : ∀ id, (fun p => p.id = (getX B n id).id ∧ p.kd = (getX B n id).kd ∧ p.sx = (getX B n id).sx ∧ p.sy = (getX B n id).sy ∧ p.sz = (getX B n id).sz ∧ p.ax = (getX B n id).ax ∧ p.ay = (getX B n id).ay ∧ p.az = (getX B n id).az) (getX (mapTo (driveB c) B n) n id) := fun id => by
    rcases getX_drive c B n id with e | e
    · rw [e]; exact ⟨rfl, rfl, rfl, rfl, rfl, rfl, rfl, rfl⟩
    · rw [e]; exact drive_same c _
  exact tchX_congr (g x.1) (g x.2)
theorem getX_at {B : Nat → Bd} {n : Nat} {id : Int} (h : Num n B) (h1 : 1 ≤ id) (h2 : id ≤ (n : Int)) : getX B n id = B (id.toNat - 1) := by
  unfold getX; rw [findX_in h h1 h2]
theorem getX_num {B : Nat → Bd} {n : Nat} {id : Int} (h : Num n B) (h1 : 1 ≤ id) (h2 : id ≤ (n : Int)) : (getX B n id).id = id := by
  rw [getX_at h h1 h2, h _ (by omega)]; omega
theorem tchX_ids {p q : Bd} {t : Tc} (h : t ∈ tchX p q) : t.a = p.id ∧ t.b = q.id := by
  unfold tchX at h
  split at h
  · simp only [List.mem_singleton] at h; subst h; exact ⟨rfl, rfl⟩
  · simp at h
theorem flatMap_skip {α β : Type} {f : α → List β} {p : α → Bool} : ∀ {l : List α}, (∀ x ∈ l, p x = false → f x = []) → (l.filter p).flatMap f = l.flatMap f
  | [], _ => rfl
  | x :: l, h => by
    have ih := flatMap_skip (l := l) (fun y hy => h y (by simp [hy]))
    cases hp : p x with
    | true => simp [hp, ih]
    | false => simp [hp, ih, h x (by simp) hp]
theorem split_rise {n : Int} : ∀ {P : List (Int × Int)}, P.Pairwise (fun x y => x.1 < y.1 ∨ (x.1 = y.1 ∧ x.2 < y.2)) → P = P.filter (fun c => decide (c.1 ≤ n)) ++ P.filter (fun c => !decide (c.1 ≤ n))
  | [], _ => rfl
  | x :: P, h => by
    obtain ⟨h1, h2⟩ := List.pairwise_cons.1 h
    have ih := split_rise (n := n) h2
    by_cases q : x.1 ≤ n
    · simp only [q, decide_true, List.filter_cons_of_pos, Bool.not_true, Bool.false_eq_true, not_false_eq_true, List.filter_cons_of_neg, List.cons_append]
      rw [← ih]
    · have e1 : P.filter (fun c => decide (c.1 ≤ n)) = [] := by
        rw [List.filter_eq_nil_iff]
        intro y hy
        have := h1 y hy
        simp; omega
      have e2 : P.filter (fun c => !decide (c.1 ≤ n)) = P := by
        rw [List.filter_eq_self]
        intro y hy
        have := h1 y hy
        simp; omega
      simp [q, e1, e2]
theorem boxesB_nodup {B : Nat → Bd} : ∀ {n : Nat}, Num n B → ((boxesB B n).map Prod.fst).Nodup
  | 0, _ => by simp [boxesB]
  | n + 1, h => by
    simp only [boxesB, List.map_cons, List.nodup_cons]
    refine ⟨fun q => ?_, boxesB_nodup (n := n) (fun j hj => h j (by omega))⟩
    obtain ⟨j, hj, e⟩ := boxesB_keys.1 q
    rw [h j (by omega), h n (by omega)] at e
    omega
/-- The pairs of the first bodies are those pairs of all. -/
theorem pairs_sub {n N : Nat} {B C : Nat → Bd} (h : Agree n B C) (hB : Num n B) (hC : Num N C) (hn : n ≤ N) : pairsM (boxesB B n) = (pairsM (boxesB C N)).filter (fun c => decide (c.1 ≤ (n : Int)) && decide (c.2 ≤ (n : Int))) := by
  refine rise_same (pairsM_rise (boxesB_nodup hB)) ((pairsM_rise (boxesB_nodup hC)).filter _) (fun c => ?_)
  have hin : ∀ (k : Int) (a : Bx), (k, a) ∈ boxesB B n ↔ (k, a) ∈ boxesB C N ∧ k ≤ (n : Int) := fun k a => by
    rw [boxesB_mem, boxesB_mem]
    constructor
    · rintro ⟨j, hj, e⟩
      injection e with e1 e2
      rw [hB j hj] at e1
      exact ⟨⟨j, by omega, by rw [← h j hj, hB j hj, e1, e2]⟩, by omega⟩
    · rintro ⟨⟨j, hj, e⟩, hk⟩
      injection e with e1 e2
      rw [hC j hj] at e1
      have hjn : j < n := by omega
      exact ⟨j, hjn, by rw [h j hjn, hC j hj, e1, e2]⟩
  rw [List.mem_filter, pairsM_iff, pairsM_iff]
  simp only [Bool.and_eq_true, decide_eq_true_eq]
  constructor
  · rintro ⟨a, b, h1, h2, h3, h4⟩
    obtain ⟨h5, h6⟩ := (hin _ _).1 h1
    obtain ⟨h7, h8⟩ := (hin _ _).1 h2
    exact ⟨⟨a, b, h5, h7, h3, h4⟩, h6, h8⟩
  · rintro ⟨⟨a, b, h1, h2, h3, h4⟩, h5, h6⟩
    exact ⟨a, b, (hin _ _).2 ⟨h1, h5⟩, (hin _ _).2 ⟨h2, h6⟩, h3, h4⟩
/-- The touches of all are those of the first bodies, and then others'. -/
theorem touches_sub {n N : Nat} {B C : Nat → Bd} {M M' : List (Int × Bx)} (h : Agree n B C) (hB : Num n B) (hC : Num N C) (hn : n ≤ N) (hM : M.Perm (boxesB B n)) (hM' : M'.Perm (boxesB C N)) (hx : ∀ t ∈ tchL C N (pairsM M'), ¬ (t.a ≤ (n : Int) ∧ (n : Int) < t.b)) :
    ∃ us, tchL C N (pairsM M') = tchL B n (pairsM M) ++ us ∧ (∀ t ∈ tchL B n (pairsM M), Near n t) ∧ ∀ u ∈ us, Far n u := by
  rw [pairsM_perm hM, pairs_sub h hB hC hn]
  rw [pairsM_perm hM'] at hx ⊢
  have hkeys : ∀ c ∈ pairsM (boxesB C N), 1 ≤ c.1 ∧ c.1 < c.2 ∧ c.2 ≤ (N : Int) := fun c hc => by
    obtain ⟨a, b, h1, h2, h3, _⟩ := pairsM_mem hc
    obtain ⟨j, hj, e1⟩ := boxesB_mem.1 h1
    obtain ⟨k, hk, e2⟩ := boxesB_mem.1 h2
    injection e1 with e1; injection e2 with e2
    rw [hC j hj] at e1; rw [hC k hk] at e2
    omega
  have hrise := pairsM_rise (boxesB_nodup hC)
  generalize pairsM (boxesB C N) = P at hx hkeys hrise
  refine ⟨tchL C N (P.filter (fun c => !decide (c.1 ≤ (n : Int)))), ?_, ?_, ?_⟩
  · have e1 : tchL C N P = tchL C N (P.filter (fun c => decide (c.1 ≤ (n : Int)))) ++ tchL C N (P.filter (fun c => !decide (c.1 ≤ (n : Int)))) := by
      have := split_rise (n := (n : Int)) hrise
      conv => lhs; rw [this]
      unfold tchL; rw [List.flatMap_append]
    rw [e1]
    congr 1
    have e2 : tchL C N (P.filter (fun c => decide (c.1 ≤ (n : Int)))) = tchL C N ((P.filter (fun c => decide (c.1 ≤ (n : Int)))).filter (fun c => decide (c.2 ≤ (n : Int)))) := by
      unfold tchL
      refine (flatMap_skip (p := fun c : Int × Int => decide (c.2 ≤ (n : Int))) ?_).symm
      intro c hc hp
      obtain ⟨hc1, hc2⟩ := List.mem_filter.1 hc
      obtain ⟨k1, k2, k3⟩ := hkeys c hc1
      have hc2' : c.1 ≤ (n : Int) := by simpa using hc2
      have hp' : ¬ c.2 ≤ (n : Int) := by simpa using hp
      cases hl : tchX (getX C N c.1) (getX C N c.2) with
      | nil => rfl
      | cons t l =>
        exfalso
        have ht : t ∈ tchX (getX C N c.1) (getX C N c.2) := by rw [hl]; simp
        obtain ⟨i1, i2⟩ := tchX_ids ht
        rw [getX_num hC k1 (by omega)] at i1
        rw [getX_num hC (by omega) k3] at i2
        exact hx t (List.mem_flatMap.2 ⟨c, hc1, ht⟩) ⟨by omega, by omega⟩
    rw [e2, List.filter_filter]
    have e3 : (P.filter fun a => (fun c => decide (c.2 ≤ (n : Int))) a && (fun c => decide (c.1 ≤ (n : Int))) a) = P.filter (fun c => decide (c.1 ≤ (n : Int)) && decide (c.2 ≤ (n : Int))) := by
      apply List.filter_congr
      intro c _
      exact Bool.and_comm _ _
    have e4 : ∀ Q : List (Int × Int), (∀ c ∈ Q, 1 ≤ c.1 ∧ c.1 ≤ (n : Int) ∧ 1 ≤ c.2 ∧ c.2 ≤ (n : Int)) → tchL C N Q = tchL B n Q := by
      intro Q
      induction Q with
      | nil => intro _; rfl
      | cons c Q ih =>
        intro hq
        obtain ⟨q1, q2, q3, q4⟩ := hq c (by simp)
        have := ih (fun x hx => hq x (by simp [hx]))
        unfold tchL at this ⊢
        rw [List.flatMap_cons, List.flatMap_cons, this]
        congr 1
        rw [getX_at hC q1 (by omega), getX_at hC q3 (by omega), getX_at hB q1 q2, getX_at hB q3 q4, h _ (by omega), h _ (by omega)]
    rw [show (P.filter fun a => decide (a.2 ≤ (n : Int)) && decide (a.1 ≤ (n : Int))) = P.filter (fun c => decide (c.1 ≤ (n : Int)) && decide (c.2 ≤ (n : Int))) from e3]
    refine e4 _ (fun c hc => ?_)
    obtain ⟨hc1, hc2⟩ := List.mem_filter.1 hc
    obtain ⟨k1, k2, k3⟩ := hkeys c hc1
    simp only [Bool.and_eq_true, decide_eq_true_eq] at hc2
    omega
  · intro t ht
    obtain ⟨c, hc, htc⟩ := List.mem_flatMap.1 ht
    obtain ⟨hc1, hc2⟩ := List.mem_filter.1 hc
    obtain ⟨k1, k2, k3⟩ := hkeys c hc1
    simp only [Bool.and_eq_true, decide_eq_true_eq] at hc2
    obtain ⟨i1, i2⟩ := tchX_ids htc
    rw [getX_num hB k1 hc2.1] at i1
    rw [getX_num hB (by omega) hc2.2] at i2
    unfold Near; omega
  · intro u hu
    obtain ⟨c, hc, htc⟩ := List.mem_flatMap.1 hu
    obtain ⟨hc1, hc2⟩ := List.mem_filter.1 hc
    obtain ⟨k1, k2, k3⟩ := hkeys c hc1
    have hc2' : ¬ c.1 ≤ (n : Int) := by simpa using hc2
    obtain ⟨i1, i2⟩ := tchX_ids htc
    rw [getX_num hC k1 (by omega)] at i1
    rw [getX_num hC (by omega) k3] at i2
    unfold Far; omega
end Go.Proofs.YtbfkloclmlnahabGreat

namespace Go.Proofs.YtbfkloclmlnahabGreat
open Go.ChangeShapes Go.WideShapes Go.ChangeAt Go.RowKit
set_option linter.unusedVariables false
set_option linter.unusedSimpArgs false

def pickI (a n : Int) : Int := IntKind.u64.wrap a % n
theorem pickI_in (a : Int) {n : Int} (h : 0 < n) : 0 ≤ pickI a n ∧ pickI a n < n := ⟨Int.emod_nonneg _ (by omega), Int.emod_lt_of_pos _ h⟩
theorem pickI_calls (a n : Int) (w : World) (h0 : 0 < n) (h1 : n ≤ 1000000000) : Calls Tryz.prog 9 #[.int .i64 a, .int .i64 n] w fun e w' => e = .returned (.int .i64 (pickI a n)) ∧ w' = w := by
  have hn : n ≠ 0 := by omega
  go_enter Tryz.func9, Tryz.ntmps9
  go_wp2_with fail
  go_ret
  have hu : 0 ≤ IntKind.u64.wrap a := by show 0 ≤ a % _; exact Int.emod_nonneg _ (by decide)
  have e1 : (IntKind.u64.wrap a).tmod n = IntKind.u64.wrap a % n := Int.tmod_eq_emod_of_nonneg hu
  have e2 := Int.emod_nonneg (IntKind.u64.wrap a) hn
  have e3 := Int.emod_lt_of_pos (IntKind.u64.wrap a) h0
  have e4 : wrap64 ((IntKind.u64.wrap a).tmod n) = IntKind.u64.wrap a % n := by rw [e1]; unfold wrap64; omega
  exact ⟨ret_int e4, rfl⟩
theorem lawD_calls (a b c : Int) (w : World) : Calls Tryz.prog 8 #[.int .i64 a, .int .i64 b, .int .i64 c] w fun e w' => e = .returned (.agg #[.int .i64 (pickI a 65537), .int .i64 (pickI b 65537), .int .i64 (1 + pickI c 6)]) ∧ Only [] w w' := by
  go_enter Tryz.func8, Tryz.ntmps8
  go_upto_region 1 with fail
  have H0 : Hid (Only [] w (w.alloc (.cells #[.int .i64 0, .int .i64 0, .int .i64 0] 30)) ∧ LawAt (w.alloc (.cells #[.int .i64 0, .int .i64 0, .int .i64 0] 30)) w.heap.size 0 0 0) := ⟨(Only.refl [] w).alloc _, (MapKept.heap_alloc w _).1⟩
  have HS : Hid (w.heap.size ≤ w.heap.size) := Nat.le_refl _
  revert H0 HS
  generalize hk : w.heap.size = kb
  have HKB : Hid (w.heap.size = kb) := hk
  clear hk
  generalize World.alloc w _ = w0
  intro H0 HS
  have HC := pickI_in c (n := 6) (by omega)
  generalize hp : pickI a 65537 = p
  generalize hq : pickI b 65537 = q
  generalize hr : pickI c 6 = r at HC
  obtain ⟨hr0, hr1⟩ := HC
  have HPQ : Hid (pickI a 65537 = p ∧ pickI b 65537 = q ∧ pickI c 6 = r) := ⟨hp, hq, hr⟩
  clear hp hq hr
  go_wp2_with fail
  refine (pickI_calls a 65537 _ (by omega) (by omega)).mono ?_
  rintro e w1 ⟨rfl, hw⟩
  rw [HPQ.out.1]
  subst hw
  go_wp2_with fail
  refine (pickI_calls b 65537 _ (by omega) (by omega)).mono ?_
  rintro e w2 ⟨rfl, hw⟩
  rw [HPQ.out.2.1]
  subst hw
  go_wp2_with fail
  refine (pickI_calls c 6 _ (by omega) (by omega)).mono ?_
  rintro e w3 ⟨rfl, hw⟩
  rw [HPQ.out.2.2]
  subst hw
  have l0 := H0.out.2.off 0; have l1 := H0.out.2.off 1; have l2 := H0.out.2.off 2
  simp only [zqg, zqh, zqi] at l0 l1 l2
  have f0 : w3.frozen? ⟨kb, 0, none⟩ = false := by have h := H0.out.2; unfold LawAt at h; simp [World.frozen?, h]
  have f1 : w3.frozen? ⟨kb, 1, none⟩ = false := by have h := H0.out.2; unfold LawAt at h; simp [World.frozen?, h]
  have f2 : w3.frozen? ⟨kb, 2, none⟩ = false := by have h := H0.out.2; unfold LawAt at h; simp [World.frozen?, h]
  obtain ⟨s0, s1, s2⟩ := set3_of (v0 := .int .i64 p) (v1 := .int .i64 q) (v2 := .int .i64 (1 + r)) l0 l1 l2
  go_wp2_with fail
  refine bodyPost_ret (v := .agg #[.int .i64 p, .int .i64 q, .int .i64 (1 + r)]) (by simp [results, Tryz.results8, go_sem, s0, s1, s2]) rfl ?_
  exact ⟨by rw [HPQ.out.1, HPQ.out.2.1, HPQ.out.2.2], (((H0.out.1.setCell (p := ⟨kb, 0, none⟩) (Or.inr (by have := HKB.out; show w.heap.size ≤ kb; omega)) _).setCell (p := ⟨kb, 1, none⟩) (Or.inr (by have := HKB.out; show w.heap.size ≤ kb; omega)) _).setCell (p := ⟨kb, 2, none⟩) (Or.inr (by have := HKB.out; show w.heap.size ≤ kb; omega)) _)⟩
theorem lawD_right (a b c : Int) : rightX (pickI a 65537) (pickI b 65537) (1 + pickI c 6) = true := by
  have h1 := pickI_in a (n := 65537) (by omega)
  have h2 := pickI_in b (n := 65537) (by omega)
  have h3 := pickI_in c (n := 6) (by omega)
  unfold rightX shareX
  simp; omega
/-- Bodies behind bodies. -/
def catB (L : Nat → Bd) (n : Nat) (K : Nat → Bd) : Nat → Bd := fun j => if j < n then L j else K (j - n)
theorem rowsL_congr {B C : Nat → Bd} : ∀ {n : Nat}, (∀ j, j < n → B j = C j) → rowsL B n = rowsL C n
  | 0, _ => rfl
  | n + 1, h => by
    show rowsL B n ++ bdL (B n) = rowsL C n ++ bdL (C n)
    rw [rowsL_congr (n := n) (fun j hj => h j (by omega)), h n (by omega)]
theorem rowsL_cat (L : Nat → Bd) (n : Nat) (K : Nat → Bd) : ∀ m, rowsL L n ++ rowsL K m = rowsL (catB L n K) (n + m)
  | 0 => by
    show rowsL L n ++ [] = _
    rw [List.append_nil]
    exact rowsL_congr (fun j hj => by unfold catB; rw [if_pos hj])
  | m + 1 => by
    show rowsL L n ++ (rowsL K m ++ bdL (K m)) = rowsL (catB L n K) (n + m) ++ bdL (catB L n K (n + m))
    rw [← List.append_assoc, rowsL_cat L n K m]
    have e : catB L n K (n + m) = K m := by unfold catB; rw [if_neg (by omega)]; congr 1; omega
    rw [e]
theorem app_rows {w : World} {v : Value} {n : Nat} {xs : List Value} (hown : w.ownsRow 0 37 17 v n xs) {a : Option Addr} {m c : Nat} {L : Nat → Bd} (hb : BodiesAt w a m L) (hs : SlArg a m c) (hm : n + m ≤ 1000) :
    ∃ v' w', (Builtin.append_ #[22, 22] 22 #[v, .slice a m c]).run Tryz.prog w = .ok v' w' ∧ w'.ownsRow 0 37 17 v' (n + m) (xs ++ rowsL L m) ∧ w.grownBy w' v.ownBlock ∧ (v'.ownBlock = v.ownBlock ∨ v'.ownBlock = some w.heap.size) := by
  obtain ⟨i2, hi0, hz0, hz1, hz2⟩ := info_parts' bodyInfo
  cases a with
  | none =>
    obtain ⟨rfl, rfl⟩ := hs rfl
    refine ⟨v, w, run_append_owned_none (P := Tryz.prog) w 0 _ _ 37 i2 17 Tryz.underlying22 hi0 v n xs hown, ?_, ⟨rfl, rfl, rfl, Nat.le_refl _, fun _ _ _ => rfl⟩, Or.inl rfl⟩
    show w.ownsRow 0 _ 17 v (n + 0) (xs ++ [])
    rw [List.append_nil]; exact hown
  | some ad =>
    obtain ⟨v', w', h1, h2, h3, h4, h5⟩ := run_append_own_at (P := Tryz.prog) w 0 22 22 37 i2 (.agg #[.int .i64 0, .int .i64 0, .int .i64 0, .int .i64 0, .int .i64 0, .int .i64 0, .int .i64 0, .int .i64 0, .int .i64 0, .int .i64 0, .int .i64 0, .int .i64 0, .int .i64 0, .int .i64 0, .int .i64 0, .int .i64 0, .int .i64 0]) 17 136 Tryz.underlying22 hi0 hz0 hz1 hz2 rfl (by decide) v n xs hown ad m c (rowsL L m) (rowsL_len L m) (rowsL_all hb) (rowsL_one L m) (by unfold maxLen; omega) (by omega) (by omega)
    exact ⟨v', w', h1, h2, h3, h5⟩
/-- One world among others: what holds of it step by step. -/
structure XS (w3 : World) (x : Nat) (c : Wc) (n t : Nat) (st : Int) (g : Nat) (a : Option Addr) (cap : Nat) (B : Nat → Bd) (M : List (Int × Bx)) (D : List Nat) (wr : World) : Prop where
  ww : WW [] w3 x g c a n cap t (n : Int) st B M D wr
  sl : SlArg a n cap
  num : Num n B
  i64 : ∀ j, In64S (B j).id
  fit : ∀ j, j < n → InV (B j) ∧ Sized (B j)
  perm : M.Perm (boxesB B n)
theorem WW.base {E : List Nat} {w w3 : World} {x g : Nat} {c : Wc} {a : Option Addr} {n cap t : Nat} {la st : Int} {C : Nat → Bd} {M : List (Int × Bx)} {D : List Nat} {wr : World} (o : Only E w3 w) (h : WW E w x g c a n cap t la st C M D wr) : WW E w3 x g c a n cap t la st C M D wr :=
  ⟨h.wa, h.own, h.tree, h.xD, h.gD, h.glt, h.xg, h.xnew.imp id (Nat.le_trans o.size), h.gnew.imp id (Nat.le_trans o.size), fun b hb => (h.dnew b hb).imp id (Nat.le_trans o.size), o.trans h.only⟩
theorem Num.alone {n : Nat} {B : Nat → Bd} (h : Num n B) : Alone n B := fun i k hi hk e => by
  rw [h i hi, h k hk] at e; omega
theorem Num.rises {n : Nat} {B : Nat → Bd} (h : Num n B) : Rises B n := fun i k hi hk => by
  rw [h i (by omega), h k hk]; omega
theorem XS.first {w3 w4 : World} {x g : Nat} {c : Wc} {a : Option Addr} {m cap t : Nat} {L : Nat → Bd} {M : List (Int × Bx)} {D : List Nat} {wr : World} (o : Only [] w3 w4) (h : FW w4 x g c a m cap t L M D wr) (hf : ∀ j, j < m → rightW (L j) = 0) (hm : m ≤ 60) : XS w3 x c m t 0 g a cap (NB L m) M D wr :=
  ⟨h.ww.base o, h.row.slarg, fun j hj => NB_id L hj, fun j => NB_in L m j hm, fun j hj => by
    rw [NB_lt L hj]
    have := rightW_parts (hf j hj)
    exact ⟨this.2.1, this.2.2⟩, h.perm⟩
theorem XS.keep {w3 : World} {x g : Nat} {c : Wc} {a : Option Addr} {n cap t : Nat} {st : Int} {B : Nat → Bd} {M : List (Int × Bx)} {D : List Nat} {wr w' : World} (h : XS w3 x c n t st g a cap B M D wr) (o : Only [] wr w') : XS w3 x c n t st g a cap B M D w' := ⟨h.ww.keep o, h.sl, h.num, h.i64, h.fit, h.perm⟩
theorem XS.new {w3 : World} {x g : Nat} {c : Wc} {a : Option Addr} {n cap t : Nat} {st : Int} {B : Nat → Bd} {M : List (Int × Bx)} {D : List Nat} {wr : World} (h : XS w3 x c n t st g a cap B M D wr) {b : Nat} (hb : b ∈ x :: g :: D) : w3.heap.size ≤ b := by
  rcases h.ww.mem (Or.inl hb) with e | e
  · simp at e
  · exact e
theorem XS.lt {w3 : World} {x g : Nat} {c : Wc} {a : Option Addr} {n cap t : Nat} {st : Int} {B : Nat → Bd} {M : List (Int × Bx)} {D : List Nat} {wr : World} (h : XS w3 x c n t st g a cap B M D wr) {b : Nat} (hb : b ∈ x :: g :: D) : b < wr.heap.size := by
  rcases List.mem_cons.1 hb with e | hb
  · rw [e]; exact h.ww.wa.lt
  · rcases List.mem_cons.1 hb with e | hb
    · rw [e]; exact h.ww.glt
    · exact h.ww.tree.lt _ hb
theorem XS.apart {w3 : World} {x g : Nat} {c : Wc} {a : Option Addr} {n cap t : Nat} {st : Int} {B : Nat → Bd} {M : List (Int × Bx)} {D G : List Nat} {wr w' : World} (h : XS w3 x c n t st g a cap B M D wr) (o : Only G wr w') (hd : ∀ b, b ∈ x :: g :: D → b ∉ G) (hG : ∀ b ∈ G, w3.heap.size ≤ b) : XS w3 x c n t st g a cap B M D w' :=
  ⟨h.ww.apart o (hd x (by simp)) (hd g (by simp)) (fun b hb => hd b (by simp [hb])) hG, h.sl, h.num, h.i64, h.fit, h.perm⟩
theorem XS.step {w3 : World} {x g g' : Nat} {c : Wc} {a a' : Option Addr} {n cap cap' t : Nat} {st : Int} {B : Nat → Bd} {M : List (Int × Bx)} {D D' : List Nat} {wr w' : World} (h : XS w3 x c n t st g a cap B M D wr) (k : WW (x :: g :: D) wr x g' c a' n cap' t (n : Int) (st + 1) (stepW c B n M) (hangM (stepW c B n M) M n) D' w') (hs : SlArg a' n cap') : XS w3 x c n t (st + 1) g' a' cap' (stepW c B n M) (hangM (stepW c B n M) M n) D' w' := by
  have h1 : ∀ j, j < n → Same (B j) (stepW c B n M j) ∧ InV (stepW c B n M j) ∧ InA (stepW c B n M j) := fun j hj => by
    have := stepT_one c B n (touchesOf c B n M) hj (h.fit j hj).1
    exact ⟨this.1, this.2.1, this.2.2.1⟩
  have h2 : ∀ j, j < n → Sized (stepW c B n M j) := fun j hj => by
    have hs := (h.fit j hj).2
    obtain ⟨i1, i2, i3, i4, i5, i6, _⟩ := (h1 j hj).1
    unfold Sized at hs ⊢
    rw [i3, i4, i5, i6]; exact hs
  refine ⟨h.ww.back k, hs, h.num.congr (fun j => stepW_id c B n M j), fun j => by rw [stepW_id]; exact h.i64 j, fun j hj => ⟨(h1 j hj).2.1, h2 j hj⟩, ?_⟩
  exact hangM_all h.perm h.num.alone (fun j _ => stepW_id c B n M j) (fun j hj => rightC_box (h1 j hj).2.2 (h2 j hj))
theorem dis_step {x g g' : Nat} {c : Wc} {a' : Option Addr} {n cap' t : Nat} {la st : Int} {C : Nat → Bd} {M : List (Int × Bx)} {D D' F : List Nat} {wr w' : World} (k : WW (x :: g :: D) wr x g' c a' n cap' t la st C M D' w') (hd : ∀ b, b ∈ x :: g :: D → b ∉ F) (hF : ∀ b ∈ F, b < wr.heap.size) : ∀ b, b ∈ x :: g' :: D' → b ∉ F := fun b hb hf => by
  have h1 : b ∈ x :: g :: D ∨ wr.heap.size ≤ b := by
    rcases List.mem_cons.1 hb with e | hb
    · rw [e]; exact Or.inl (by simp)
    · rcases List.mem_cons.1 hb with e | hb
      · rw [e]; exact k.gnew
      · exact k.dnew b hb
  rcases h1 with q | q
  · exact hd b q hf
  · have := hF b hf; omega
/-- Both step on, and stay alike. -/
theorem both_step {w3 : World} {x g y gy : Nat} {c : Wc} {a ay : Option Addr} {n N cap capy t ty : Nat} {st st' : Int} {B C : Nat → Bd} {M M' : List (Int × Bx)} {D Dy : List Nat} {wr wr' : World} (h : XS w3 x c n t st g a cap B M D wr) (k : XS w3 y c N ty st' gy ay capy C M' Dy wr') (hn : n ≤ N) (hag : Agree n B C) (hx : ∀ u ∈ tchL C N (pairsM M'), ¬ (u.a ≤ (n : Int) ∧ (n : Int) < u.b)) : Agree n (stepW c B n M) (stepW c C N M') := by
  obtain ⟨us, e, h1, h2⟩ := touches_sub hag h.num k.num hn h.perm k.perm hx
  unfold stepW
  rw [touchesOf_is, touchesOf_is, e]
  exact stepT_agree hag h.num k.num hn c h1 h2
end Go.Proofs.YtbfkloclmlnahabGreat
