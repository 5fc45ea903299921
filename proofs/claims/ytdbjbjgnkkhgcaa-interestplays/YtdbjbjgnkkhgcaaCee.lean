/- gyreref.Sees: who an eye sees, of whichever bodies: as if all were looked at. -/
import Derived.Test.YtdbjbjgnkkhgcaaCed
import Derived.Test.YtdbjbjgnkkhgcaaCe8
import Derived.Test.YtdbjbjgnkkhgcaaSvM
import Derived.Test.YtdbjbjgnkkhgcaaGeo7
import Derived.Test.YtdbjbjgnkkhgcaaGeo8
namespace Go.Proofs.Ytdbjbjgnkkhgcaa
open Go.ChangeShapes Go.WideShapes Go.ChangeAt Go.RowKit
set_option linter.unusedVariables false
set_option linter.unusedSimpArgs false
set_option linter.unusedSectionVars false
variable [DecidableEq Cel]

/-- Bodies that a call owns. -/
def SlBd (w : World) (v : Value) (xs : List Bd) : Prop := w.ownsRow 0 31 17 v xs.length (xs.flatMap bdL)
theorem flat17_len (l : List Bd) : (l.flatMap bdL).length = l.length * 17 := by
  induction l with
  | nil => rfl
  | cons s l ih => rw [List.flatMap_cons, List.length_append, ih, bdL_len, List.length_cons]; omega
theorem flat17_at (l : List Bd) : ∀ (j : Nat) (hj : j < l.length) (k : Nat), k < 17 → (l.flatMap bdL)[j * 17 + k]? = some (bc l[j] k) := by
  induction l with
  | nil => intro j hj; simp at hj
  | cons s l ih =>
    intro j hj k hk
    rw [List.flatMap_cons]
    cases j with
    | zero => rw [List.getElem?_append_left (by rw [bdL_len]; omega), Nat.zero_mul, Nat.zero_add, bdL_at s k hk]; rfl
    | succ j =>
      rw [List.getElem?_append_right (by rw [bdL_len]; omega), bdL_len, show (j + 1) * 17 + k - 17 = j * 17 + k by omega]
      simp only [List.length_cons] at hj
      rw [ih j (by omega) k hk]; rfl
theorem SlBd.shape {w : World} {v : Value} {xs : List Bd} (h : SlBd w v xs) : ∃ a c, v = .slice a xs.length c ∧ (∀ j (hj : j < xs.length), ∃ g, a = some ⟨g, 0, none⟩ ∧ ∀ k, k < 17 → w.cell? ⟨g, j * 17 + k, none⟩ = some (bc xs[j] k)) := by
  obtain ⟨h1, ⟨rfl, h2⟩ | ⟨g, cap, cur, rfl, hb, hg, hn, hc, hs, ht⟩⟩ := h
  · exact ⟨none, 0, by rw [h2], fun j hj => by omega⟩
  · refine ⟨some ⟨g, 0, none⟩, cap, rfl, fun j hj => ⟨g, rfl, fun k hk => ?_⟩⟩
    have e := flat17_at xs j hj k hk
    rw [← ht, List.getElem?_take, if_pos (by omega)] at e
    simp only [World.cell?, hg, Option.isSome_none, Bool.false_eq_true, if_false]
    rw [← e, Array.getElem?_toList]
theorem SlBd.kept {w w' : World} {v : Value} {xs : List Bd} (h : SlBd w v xs) {D : List Nat} (o : Only D w w') (s : ∀ b ∈ ownL v, b ∉ D) : SlBd w' v xs := by
  obtain ⟨h1, h2⟩ := h
  refine ⟨h1, ?_⟩
  rcases h2 with h2 | ⟨g, cap, cur, rfl, hb, hg, r⟩
  · exact Or.inl h2
  · exact Or.inr ⟨g, cap, cur, rfl, hb, (o.block g (Array.getElem?_eq_some_iff.1 hg).1 (s g (by simp [ownL, Value.ownBlock]))).trans hg, r⟩
theorem SlBd.lt {w : World} {v : Value} {xs : List Bd} (h : SlBd w v xs) : ∀ b ∈ ownL v, b < w.heap.size := by
  intro b hb
  obtain ⟨_, ⟨rfl, _⟩ | ⟨g, cap, cur, rfl, _, hg, _⟩⟩ := h
  · simp [ownL, Value.ownBlock] at hb
  · simp only [ownL, Value.ownBlock, Option.toList_some, List.mem_singleton] at hb
    subst hb
    exact (Array.getElem?_eq_some_iff.1 hg).1
theorem SlBd.nil (w : World) : SlBd w (.slice none 0 0) [] := World.ownsRow_nil w 0 _ _
/-- An eye's sight. -/
def sightB (ax ay az far : Int) : Bx := ⟨sub ax far, sub ay far, sub az far, add ax far, add ay far, add az far⟩
def seesB (ax ay az far tm : Int) (q : Bd) : Bool := decide (far ≥ 0) && seenB (sightB ax ay az far) tm (spotOf q)
def seenR (xs : List Bd) (ax ay az far tm : Int) : List Int := (xs.filter (seesB ax ay az far tm)).map Bd.id
theorem meetB_swap (a0 a1 a2 a3 a4 a5 b0 b1 b2 b3 b4 b5 : Int) : meetB a0 a1 a2 a3 a4 a5 b0 b1 b2 b3 b4 b5 = meetB b0 b1 b2 b3 b4 b5 a0 a1 a2 a3 a4 a5 := by
  unfold meetB
  rw [Bool.and_comm (decide (a0 ≤ b3)), Bool.and_comm (decide (a1 ≤ b4)), Bool.and_comm (decide (a2 ≤ b5))]
theorem seesB_eq (ax ay az far tm : Int) (q : Bd) : seesB ax ay az far tm q = (decide (far ≥ 0) && (teamB q.tm tm && meetB (sub ax far) (sub ay far) (sub az far) (add ax far) (add ay far) (add az far) (sub q.ax q.sx) (sub q.ay (hf q.kd q.sx q.sy)) (sub q.az (hf q.kd q.sx q.sz)) (add q.ax q.sx) (add q.ay (hf q.kd q.sx q.sy)) (add q.az (hf q.kd q.sx q.sz)))) := by
  unfold seesB seenB
  rw [meetB_swap]
  rfl
theorem takeR_seen {l : List Bd} {i : Nat} {q : Bd} (h : l[i]? = some q) (f : Bd → Bool) : ((l.take (i + 1)).filter f).map Bd.id = ((l.take i).filter f).map Bd.id ++ (if f q then [q.id] else []) := by
  rw [List.take_add_one, h, List.filter_append, List.map_append]
  congr 1
  cases hf : f q <;> simp [hf]
theorem ints_calls (v : Value) (xs : List Int) (w : World) (h : SlInts w v xs) (hl : xs.length ≤ 1000) :
    Calls Try.prog 27 #[v] w fun e w' => e = .returned (.tuple #[]) ∧ SlInts w' v (sortZ xs) ∧ Only (ownL v) w w' := by
  go_enter Try.func27, Try.ntmps27
  go_wp2_with (first | (go_at_call 23; refine (sortsI v xs w h hl).mono ?_; rintro e w1 ⟨rfl, h1, o1⟩))
  go_end0
  exact ⟨rfl, h1, o1⟩
set_option maxRecDepth 100000 in
set_option maxHeartbeats 4000000 in
theorem refSees_calls (v : Value) (xs : List Bd) (ax ay az far tm : Int) (w : World) (h : SlBd w v xs) (hl : xs.length ≤ 100) :
    Calls Try.prog 12 #[v, .agg #[.int .i64 ax, .int .i64 ay, .int .i64 az], .int .i64 far, .int .i64 tm] w (SeesPost w (seenR xs ax ay az far tm)) := by
  obtain ⟨a, cp, rfl, hsh⟩ := h.shape
  have HB : Hid (SlBd w (.slice a xs.length cp) xs ∧ xs.length ≤ 100 ∧ ∀ j (hj : j < xs.length), ∃ g, a = some ⟨g, 0, none⟩ ∧ ∀ k, k < 17 → w.cell? ⟨g, j * 17 + k, none⟩ = some (bc xs[j] k)) := ⟨h, hl, hsh⟩
  clear h hsh
  go_enter Try.func12, Try.ntmps12
  go_wp2_with fail
  have H0 : Hid (Only [] w (w.alloc (.cells #[.int .i64 ax, .int .i64 ay, .int .i64 az] 27)) ∧ (w.alloc (.cells #[.int .i64 ax, .int .i64 ay, .int .i64 az] 27)).heap[w.heap.size]? = some (.cells #[.int .i64 ax, .int .i64 ay, .int .i64 az] 27)) := ⟨(Only.refl [] w).alloc _, (MapKept.heap_alloc w _).1⟩
  revert H0
  generalize hka : w.heap.size = ka
  generalize World.alloc w _ = w1
  intro H0
  have HKA : Hid (w.heap.size = ka) := hka
  clear hka
  go_loopg [9, 14] (xs.length + 1) (fun k v9 v14 wr => ∃ (i : Nat), v14 = .int .i64 (i : Int) ∧ Hid (i ≤ xs.length ∧ k = xs.length + 1 - i) ∧ Hid (SlInts wr v9 (((xs.take i).filter (seesB ax ay az far tm)).map Bd.id) ∧ Only [] w wr ∧ wr.heap[ka]? = some (.cells #[.int .i64 ax, .int .i64 ay, .int .i64 az] 27) ∧ ∀ b ∈ ownL v9, w.heap.size ≤ b))
  case atStart => exact ⟨0, rfl, ⟨by omega, rfl⟩, World.ownsRow_nil _ _ _ _, H0.out.1, H0.out.2, by simp [ownL, Value.ownBlock]⟩
  case round =>
    obtain ⟨i, rfl, H1, H2⟩ := hrel
    have hi1 := H1.out.1
    by_cases hin : i < xs.length
    · have tin : (i : Int) < (xs.length : Int) := by omega
      obtain ⟨g, rfl, hc⟩ := HB.out.2.2 i hin
      generalize hq : xs[i] = q at hc
      have HXI : Hid (xs[i]? = some q) := by rw [← hq]; exact List.getElem?_eq_getElem hin
      clear hq
      have hrg : wr.rangeAt g (i * 17) (bdL q) := range17 (fun k hk => H2.out.2.1.cell (hc k hk) (by simp))
      go_upto_region 5 with (first | (refine wpList_load_mid rfl 31 (.tmp 16) rfl g (i * 17) rfl [.int .i64 (q.id), .int .i64 (q.ow), .int .i64 (q.kd), .int .i64 (q.sx), .int .i64 (q.sy), .int .i64 (q.sz), .int .i64 (q.ax), .int .i64 (q.ay), .int .i64 (q.az), .int .i64 (q.vx), .int .i64 (q.vy), .int .i64 (q.vz), .int .i64 (q.px), .int .i64 (q.py), .int .i64 (q.pz), .int .i64 (q.ms), .int .i64 (q.tm)] _ hrg Try.underlying31 rfl bodySize ?_))
      have H4 : Hid (SlInts (wr.alloc (.cells #[.int .i64 (q.id), .int .i64 (q.ow), .int .i64 (q.kd), .int .i64 (q.sx), .int .i64 (q.sy), .int .i64 (q.sz), .int .i64 (q.ax), .int .i64 (q.ay), .int .i64 (q.az), .int .i64 (q.vx), .int .i64 (q.vy), .int .i64 (q.vz), .int .i64 (q.px), .int .i64 (q.py), .int .i64 (q.pz), .int .i64 (q.ms), .int .i64 (q.tm)] 31)) u9 (((xs.take i).filter (seesB ax ay az far tm)).map Bd.id) ∧ Only [] w (wr.alloc (.cells #[.int .i64 (q.id), .int .i64 (q.ow), .int .i64 (q.kd), .int .i64 (q.sx), .int .i64 (q.sy), .int .i64 (q.sz), .int .i64 (q.ax), .int .i64 (q.ay), .int .i64 (q.az), .int .i64 (q.vx), .int .i64 (q.vy), .int .i64 (q.vz), .int .i64 (q.px), .int .i64 (q.py), .int .i64 (q.pz), .int .i64 (q.ms), .int .i64 (q.tm)] 31)) ∧ (wr.alloc (.cells #[.int .i64 (q.id), .int .i64 (q.ow), .int .i64 (q.kd), .int .i64 (q.sx), .int .i64 (q.sy), .int .i64 (q.sz), .int .i64 (q.ax), .int .i64 (q.ay), .int .i64 (q.az), .int .i64 (q.vx), .int .i64 (q.vy), .int .i64 (q.vz), .int .i64 (q.px), .int .i64 (q.py), .int .i64 (q.pz), .int .i64 (q.ms), .int .i64 (q.tm)] 31)).heap[ka]? = some (.cells #[.int .i64 ax, .int .i64 ay, .int .i64 az] 27) ∧ (∀ b ∈ ownL u9, w.heap.size ≤ b) ∧ BdAt (wr.alloc (.cells #[.int .i64 (q.id), .int .i64 (q.ow), .int .i64 (q.kd), .int .i64 (q.sx), .int .i64 (q.sy), .int .i64 (q.sz), .int .i64 (q.ax), .int .i64 (q.ay), .int .i64 (q.az), .int .i64 (q.vx), .int .i64 (q.vy), .int .i64 (q.vz), .int .i64 (q.px), .int .i64 (q.py), .int .i64 (q.pz), .int .i64 (q.ms), .int .i64 (q.tm)] 31)) wr.heap.size q) :=
        ⟨H2.out.1.kept ((Only.refl [] wr).alloc _) (by simp), H2.out.2.1.alloc _, (Below.heap_alloc _ _ _ (Array.getElem?_eq_some_iff.1 H2.out.2.2.1).1).trans H2.out.2.2.1, H2.out.2.2.2, (MapKept.heap_alloc wr _).1⟩
      revert H4
      generalize wr.heap.size = kp
      generalize World.alloc wr _ = w2
      intro H4
      clear hrg hc H2
      have HP : Hid (∀ w', Only [] w2 w' → w'.cell? ⟨ka, 0, none⟩ = some (.int .i64 ax) ∧ w'.cell? ⟨ka, 1, none⟩ = some (.int .i64 ay) ∧ w'.cell? ⟨ka, 2, none⟩ = some (.int .i64 az) ∧ w'.cell? ⟨kp, 16, none⟩ = some (.int .i64 (q.tm)) ∧ w'.cell? ⟨kp, 2, none⟩ = some (.int .i64 (q.kd)) ∧ w'.cell? ⟨kp, 3, none⟩ = some (.int .i64 (q.sx)) ∧ w'.cell? ⟨kp, 4, none⟩ = some (.int .i64 (q.sy)) ∧ w'.cell? ⟨kp, 5, none⟩ = some (.int .i64 (q.sz)) ∧ w'.cell? ⟨kp, 6, none⟩ = some (.int .i64 (q.ax)) ∧ w'.cell? ⟨kp, 7, none⟩ = some (.int .i64 (q.ay)) ∧ w'.cell? ⟨kp, 8, none⟩ = some (.int .i64 (q.az))) := fun w' o => by
        have t1 := (o.block ka (Array.getElem?_eq_some_iff.1 H4.out.2.2.1).1 (by simp)).trans H4.out.2.2.1
        have t2 := H4.out.2.2.2.2.only o (by simp)
        refine ⟨?_, ?_, ?_, t2.off 16, t2.off 2, t2.off 3, t2.off 4, t2.off 5, t2.off 6, t2.off 7, t2.off 8⟩
        all_goals (simp only [World.cell?, t1]; rfl)
      have ODR : Only [] w2 w2.drew := (Only.refl _ _).drew
      by_cases hfar : 0 ≤ far
      · have dA : decide (far ≥ 0) = true := by simpa using hfar
        cases htm : teamB q.tm tm
        · have HSE : Hid (seesB ax ay az far tm q = false) := by show _ = _; rw [seesB_eq, htm]; simp
          have tm1 : bits .and .i64 q.tm tm = 0 := by
            have : (bits .and .i64 q.tm tm != 0) = false := htm
            simpa using this
          clear htm
          refine wp_region_held_drew (S := (fun w' => w'.cell? ⟨ka, 0, none⟩ = some (.int .i64 ax) ∧ w'.cell? ⟨ka, 1, none⟩ = some (.int .i64 ay) ∧ w'.cell? ⟨ka, 2, none⟩ = some (.int .i64 az) ∧ w'.cell? ⟨kp, 16, none⟩ = some (.int .i64 (q.tm)) ∧ w'.cell? ⟨kp, 2, none⟩ = some (.int .i64 (q.kd)) ∧ w'.cell? ⟨kp, 3, none⟩ = some (.int .i64 (q.sx)) ∧ w'.cell? ⟨kp, 4, none⟩ = some (.int .i64 (q.sy)) ∧ w'.cell? ⟨kp, 5, none⟩ = some (.int .i64 (q.sz)) ∧ w'.cell? ⟨kp, 6, none⟩ = some (.int .i64 (q.ax)) ∧ w'.cell? ⟨kp, 7, none⟩ = some (.int .i64 (q.ay)) ∧ w'.cell? ⟨kp, 8, none⟩ = some (.int .i64 (q.az)))) (by kernel_rfl) ?_ (fun hHeld1 => ?_)
          · (try dsimp only); exact HP.out _ (Only.refl _ _).drew
          refine tkW 0 rfl ?_; refine tkW 1 rfl ?_; refine tkW 2 rfl ?_; refine tkW 3 rfl ?_
          try simp only [Act.put, List.setIfInBounds_toArray, List.set_cons_zero, List.set_cons_succ, List.getElem_toArray, List.getElem_cons_succ, List.getElem_cons_zero]
          refine tkW 4 rfl ?_; refine tkW 5 rfl ?_
          try simp only [Act.put, List.setIfInBounds_toArray, List.set_cons_zero, List.set_cons_succ, List.getElem_toArray, List.getElem_cons_succ, List.getElem_cons_zero]
          refine tkW (v := .int .i64 0) 6 rfl ?_ (by intro w'' hSw; (try dsimp only at hSw); simp only [List.getElem_toArray, List.getElem_cons_succ, List.getElem_cons_zero]; (go_simp <;> rfl))
          try simp only [Act.put, List.setIfInBounds_toArray, List.set_cons_zero, List.set_cons_succ, List.getElem_toArray, List.getElem_cons_succ, List.getElem_cons_zero]
          refine tkW 7 rfl ?_; refine tkW 8 rfl ?_; refine tkW 9 rfl ?_
          try simp only [Act.put, List.setIfInBounds_toArray, List.set_cons_zero, List.set_cons_succ, List.getElem_toArray, List.getElem_cons_succ, List.getElem_cons_zero]
          refine skW 10 rfl ?_; refine skW 11 rfl ?_; refine skW 12 rfl ?_; refine skW 13 rfl ?_
          try simp only [Act.put, List.setIfInBounds_toArray, List.set_cons_zero, List.set_cons_succ, List.getElem_toArray, List.getElem_cons_succ, List.getElem_cons_zero]
          refine skW 14 rfl ?_; refine skW 15 rfl ?_; refine skW 16 rfl ?_; refine skW 17 rfl ?_
          try simp only [Act.put, List.setIfInBounds_toArray, List.set_cons_zero, List.set_cons_succ, List.getElem_toArray, List.getElem_cons_succ, List.getElem_cons_zero]
          refine skW 18 rfl ?_; refine skW 19 rfl ?_; refine skW 20 rfl ?_
          try simp only [Act.put, List.setIfInBounds_toArray, List.set_cons_zero, List.set_cons_succ, List.getElem_toArray, List.getElem_cons_succ, List.getElem_cons_zero]
          refine tkW 21 rfl ?_
          try simp only [Act.put, List.setIfInBounds_toArray, List.set_cons_zero, List.set_cons_succ, List.getElem_toArray, List.getElem_cons_succ, List.getElem_cons_zero]
          refine wpAnyH_done (by kernel_rfl) ?_ _
          go_wp2_with fail
          go_roundg (xs.length + 1 - (i + 1))
          case measure => have := H1.out.2; omega
          case rel =>
            refine ⟨i + 1, by go_num, ⟨by omega, rfl⟩, ?_⟩
            rw [takeR_seen HXI.out, if_neg (by rw [HSE.out]; simp), List.append_nil]
            exact ⟨H4.out.1.kept ODR (by simp), H4.out.2.1.trans ODR, (ODR.block ka (Array.getElem?_eq_some_iff.1 H4.out.2.2.1).1 (by simp)).trans H4.out.2.2.1, H4.out.2.2.2.1⟩
        · have HTM : Hid (teamB q.tm tm = true) := htm
          have tm1 : ¬ bits .and .i64 q.tm tm = 0 := by
            have : (bits .and .i64 q.tm tm != 0) = true := htm
            simpa using this
          clear htm
          obtain ⟨mb, hmb⟩ : ∃ mb, meetB (sub ax far) (sub ay far) (sub az far) (add ax far) (add ay far) (add az far) (sub q.ax q.sx) (sub q.ay (hf q.kd q.sx q.sy)) (sub q.az (hf q.kd q.sx q.sz)) (add q.ax q.sx) (add q.ay (hf q.kd q.sx q.sy)) (add q.az (hf q.kd q.sx q.sz)) = mb := ⟨_, rfl⟩
          have HSE : Hid (seesB ax ay az far tm q = mb) := by show _ = _; rw [seesB_eq, HTM.out, hmb, dA]; rfl
          have HME : Hid (∀ u, Calls Try.prog 24 #[.agg #[.int .i64 (sub ax far), .int .i64 (sub ay far), .int .i64 (sub az far), .int .i64 (add ax far), .int .i64 (add ay far), .int .i64 (add az far)], .agg #[.int .i64 (sub q.ax q.sx), .int .i64 (sub q.ay (hf q.kd q.sx q.sy)), .int .i64 (sub q.az (hf q.kd q.sx q.sz)), .int .i64 (add q.ax q.sx), .int .i64 (add q.ay (hf q.kd q.sx q.sy)), .int .i64 (add q.az (hf q.kd q.sx q.sz))]] u fun e u' => e = .returned (.bool mb) ∧ Kept u u') := fun u => by
            rw [← hmb]; exact refMeet_calls _ _ _ _ _ _ _ _ _ _ _ _ u
          clear hmb
          refine wp_region_held_drew (S := (fun w' => w'.cell? ⟨ka, 0, none⟩ = some (.int .i64 ax) ∧ w'.cell? ⟨ka, 1, none⟩ = some (.int .i64 ay) ∧ w'.cell? ⟨ka, 2, none⟩ = some (.int .i64 az) ∧ w'.cell? ⟨kp, 16, none⟩ = some (.int .i64 (q.tm)) ∧ w'.cell? ⟨kp, 2, none⟩ = some (.int .i64 (q.kd)) ∧ w'.cell? ⟨kp, 3, none⟩ = some (.int .i64 (q.sx)) ∧ w'.cell? ⟨kp, 4, none⟩ = some (.int .i64 (q.sy)) ∧ w'.cell? ⟨kp, 5, none⟩ = some (.int .i64 (q.sz)) ∧ w'.cell? ⟨kp, 6, none⟩ = some (.int .i64 (q.ax)) ∧ w'.cell? ⟨kp, 7, none⟩ = some (.int .i64 (q.ay)) ∧ w'.cell? ⟨kp, 8, none⟩ = some (.int .i64 (q.az)))) (by kernel_rfl) ?_ (fun hHeld1 => ?_)
          · (try dsimp only); exact HP.out _ (Only.refl _ _).drew
          refine tkW 0 rfl ?_; refine tkW 1 rfl ?_; refine tkW 2 rfl ?_; refine tkW 3 rfl ?_
          try simp only [Act.put, List.setIfInBounds_toArray, List.set_cons_zero, List.set_cons_succ, List.getElem_toArray, List.getElem_cons_succ, List.getElem_cons_zero]
          refine tkW 4 rfl ?_; refine tkW 5 rfl ?_; refine tkW 6 rfl ?_
          try simp only [Act.put, List.setIfInBounds_toArray, List.set_cons_zero, List.set_cons_succ, List.getElem_toArray, List.getElem_cons_succ, List.getElem_cons_zero]
          refine tkW (v := .bool true) 7 rfl ?_ (by intro w'' hSw; (try dsimp only at hSw); simp only [List.getElem_toArray, List.getElem_cons_succ, List.getElem_cons_zero]; (go_simp <;> rfl))
          try simp only [Act.put, List.setIfInBounds_toArray, List.set_cons_zero, List.set_cons_succ, List.getElem_toArray, List.getElem_cons_succ, List.getElem_cons_zero]
          refine tkW 8 rfl ?_; refine tkW 9 rfl ?_; refine tkW 10 rfl ?_; refine tkW 11 rfl ?_
          try simp only [Act.put, List.setIfInBounds_toArray, List.set_cons_zero, List.set_cons_succ, List.getElem_toArray, List.getElem_cons_succ, List.getElem_cons_zero]
          refine tkW 12 rfl ?_; refine tkW 13 rfl ?_; refine tkW 15 rfl ?_; refine tkW 16 rfl ?_
          try simp only [Act.put, List.setIfInBounds_toArray, List.set_cons_zero, List.set_cons_succ, List.getElem_toArray, List.getElem_cons_succ, List.getElem_cons_zero]
          refine tkW 17 rfl ?_; refine tkW 18 rfl ?_
          try simp only [Act.put, List.setIfInBounds_toArray, List.set_cons_zero, List.set_cons_succ, List.getElem_toArray, List.getElem_cons_succ, List.getElem_cons_zero]
          refine wpAnyH_ready (rs := [14]) (by kernel_rfl) (by simp) ?_
          refine AllReadyH.cons rfl (fun K hK => ?_) AllReadyH.nil
          first | (with_reducible refine iteYes ?hcx ?htx; case hcx => kernel_rfl) | rw [if_pos (by rfl)]
          simp only [List.getElem_toArray, List.getElem_cons_succ, List.getElem_cons_zero]
          go_simp
          (go_at_call 25; refine (refFat_calls ax ay az ax ay az far _).mono ?_; rintro e w3 ⟨rfl, k3⟩)
          try go_wp2_with fail
          refine hK.out _ _ ?_ (fun hHeld2 => ?_)
          · (try dsimp only); exact HP.out _ ((Only.refl _ _).drew.trans (Only.of_kept k3))
          clear hK K hHeld1
          try simp only [Act.put, List.setIfInBounds_toArray, List.set_cons_zero, List.set_cons_succ, List.getElem_toArray, List.getElem_cons_succ, List.getElem_cons_zero]
          refine wpAnyH_ready (rs := [19]) (by kernel_rfl) (by simp) ?_
          refine AllReadyH.cons rfl (fun K hK => ?_) AllReadyH.nil
          first | (with_reducible refine iteYes ?hcx ?htx; case hcx => kernel_rfl) | rw [if_pos (by rfl)]
          simp only [List.getElem_toArray, List.getElem_cons_succ, List.getElem_cons_zero]
          go_simp
          (go_at_call 26; refine (refAround_calls q.kd q.sx q.sy q.sz q.ax q.ay q.az _).mono ?_; rintro e w4 ⟨rfl, k4⟩)
          try go_wp2_with fail
          refine hK.out _ _ ?_ (fun hHeld3 => ?_)
          · (try dsimp only); exact HP.out _ ((Only.refl _ _).drew.trans ((Only.of_kept k3).trans (Only.of_kept k4)))
          clear hK K hHeld2
          try simp only [Act.put, List.setIfInBounds_toArray, List.set_cons_zero, List.set_cons_succ, List.getElem_toArray, List.getElem_cons_succ, List.getElem_cons_zero]
          refine wpAnyH_ready (rs := [20]) (by kernel_rfl) (by simp) ?_
          refine AllReadyH.cons rfl (fun K hK => ?_) AllReadyH.nil
          first | (with_reducible refine iteYes ?hcx ?htx; case hcx => kernel_rfl) | rw [if_pos (by rfl)]
          simp only [List.getElem_toArray, List.getElem_cons_succ, List.getElem_cons_zero]
          go_simp
          (go_at_call 24; refine (HME.out _).mono ?_; rintro e w5 ⟨rfl, k5⟩)
          try go_wp2_with fail
          refine hK.out _ _ ?_ (fun hHeld4 => ?_)
          · (try dsimp only); exact HP.out _ ((Only.refl _ _).drew.trans ((Only.of_kept k3).trans ((Only.of_kept k4).trans (Only.of_kept k5))))
          clear hK K hHeld3
          try simp only [Act.put, List.setIfInBounds_toArray, List.set_cons_zero, List.set_cons_succ, List.getElem_toArray, List.getElem_cons_succ, List.getElem_cons_zero]
          refine tkW 21 rfl ?_
          try simp only [Act.put, List.setIfInBounds_toArray, List.set_cons_zero, List.set_cons_succ, List.getElem_toArray, List.getElem_cons_succ, List.getElem_cons_zero]
          refine wpAnyH_done (by kernel_rfl) ?_ _
          have O5 : Only [] w2 w5 := (Only.refl _ _).drew.trans ((Only.of_kept k3).trans ((Only.of_kept k4).trans (Only.of_kept k5)))
          have ODR := O5
          cases mb with
          | false =>
            go_wp2_with fail
            go_roundg (xs.length + 1 - (i + 1))
            case measure => have := H1.out.2; omega
            case rel =>
              refine ⟨i + 1, by go_num, ⟨by omega, rfl⟩, ?_⟩
              rw [takeR_seen HXI.out, if_neg (by rw [HSE.out]; simp), List.append_nil]
              exact ⟨H4.out.1.kept ODR (by simp), H4.out.2.1.trans ODR, (ODR.block ka (Array.getElem?_eq_some_iff.1 H4.out.2.2.1).1 (by simp)).trans H4.out.2.2.1, H4.out.2.2.2.1⟩
          | true =>
            have p0 := (H4.out.2.2.2.2.only O5 (by simp)).off 0
            simp only [List.getElem?_toArray, List.getElem?_cons_zero] at p0
            obtain ⟨R, hR⟩ : ∃ R, ((xs.take i).filter (seesB ax ay az far tm)).map Bd.id = R := ⟨_, rfl⟩
            have HR : Hid (((xs.take i).filter (seesB ax ay az far tm)).map Bd.id = R ∧ R.length ≤ 100) := by
              refine ⟨hR, ?_⟩
              rw [← hR, List.length_map]
              exact Nat.le_trans (List.length_filter_le _ _) (by rw [List.length_take]; omega)
            have hRl := HR.out.2
            have hS5 : SlInts w5 u9 R := by rw [← hR]; exact H4.out.1.kept O5 (by simp)
            clear hR
            obtain ⟨i0, hi0, hz0, hz1, hz2⟩ := info_parts intInfo
            have hlen1 : R.length + 1 ≤ maxLen := by unfold maxLen; omega
            have hlen2 : (R.length + 1) * 8 ≤ 140737488355328 := by omega
            go_wp2_with (first | (at_builtin; refine wpList_append_own_at _ rfl _ _ 42 rfl 0 3 i0 (.int .i64 0) 1 8 Try.underlying42 hi0 hz0 hz1 hz2 rfl (by decide) u9 R.length (R.map (Value.int .i64)) rfl (World.ownsRow.alloc hS5 _) ⟨w5.heap.size, 0, none⟩ 1 1 [.int .i64 (q.id)] rfl rfl (cell_one_new _ _ _) (by simp [Value.oneCell']) hlen1 hlen2 (Nat.zero_le _) ?_; intro u9' w6 hown hgrow _ hat))
            go_roundg (xs.length + 1 - (i + 1))
            case measure => have := H1.out.2; omega
            case rel =>
              refine ⟨i + 1, by go_num, ⟨by omega, rfl⟩, ?_⟩
              have hsz : w.heap.size ≤ w5.heap.size := Nat.le_trans H4.out.2.1.size O5.size
              have o6 : Only [] w w6 := ((H4.out.2.1.trans O5).alloc _).grown hgrow (fun k hk => Or.inr (H4.out.2.2.2.1 k (by simp [ownL, hk])))
              rw [takeR_seen HXI.out, if_pos HSE.out, HR.out.1]
              refine ⟨?_, o6, ?_, ?_⟩
              · have : (R ++ [q.id]).map (Value.int .i64) = R.map (Value.int .i64) ++ [.int .i64 (q.id)] := by simp
                show World.ownsRow _ _ _ _ _ _ _
                rw [this, List.length_append]; exact hown
              · have hk5 := (O5.block ka (Array.getElem?_eq_some_iff.1 H4.out.2.2.1).1 (by simp)).trans H4.out.2.2.1
                have hl5 := (Array.getElem?_eq_some_iff.1 hk5).1
                refine (hgrow.block ka (by simp; omega) (fun e => ?_)).trans ((Below.heap_alloc _ _ _ hl5).trans hk5)
                have h2 := hS5.lt ka (by simp [ownL, ← e])
                obtain ⟨_, ⟨rfl, _⟩ | ⟨g9, cap9, cur9, rfl, _, hg9, _⟩⟩ := hS5
                · cases e
                · injection e with e
                  subst e
                  rw [hk5] at hg9
                  injection hg9 with hg9
                  injection hg9 with _ hg9 _
                  exact absurd hg9 (by decide)
              · intro b hb
                unfold ownL at hb
                rw [Option.mem_toList] at hb
                rcases hat with h1 | h1
                · exact H4.out.2.2.2.1 b (by rw [hb] at h1; simp [ownL, ← h1])
                · rw [hb] at h1; injection h1 with h1
                  simp at h1
                  omega
      · have dA : decide (far ≥ 0) = false := by simpa using hfar
        have HSE : Hid (seesB ax ay az far tm q = false) := by show _ = _; rw [seesB_eq, dA]; simp
        refine wp_region_held_drew (S := (fun w' => w'.cell? ⟨ka, 0, none⟩ = some (.int .i64 ax) ∧ w'.cell? ⟨ka, 1, none⟩ = some (.int .i64 ay) ∧ w'.cell? ⟨ka, 2, none⟩ = some (.int .i64 az) ∧ w'.cell? ⟨kp, 16, none⟩ = some (.int .i64 (q.tm)) ∧ w'.cell? ⟨kp, 2, none⟩ = some (.int .i64 (q.kd)) ∧ w'.cell? ⟨kp, 3, none⟩ = some (.int .i64 (q.sx)) ∧ w'.cell? ⟨kp, 4, none⟩ = some (.int .i64 (q.sy)) ∧ w'.cell? ⟨kp, 5, none⟩ = some (.int .i64 (q.sz)) ∧ w'.cell? ⟨kp, 6, none⟩ = some (.int .i64 (q.ax)) ∧ w'.cell? ⟨kp, 7, none⟩ = some (.int .i64 (q.ay)) ∧ w'.cell? ⟨kp, 8, none⟩ = some (.int .i64 (q.az)))) (by kernel_rfl) ?_ (fun hHeld1 => ?_)
        · (try dsimp only); exact HP.out _ (Only.refl _ _).drew
        refine tkW 0 rfl ?_; refine tkW 1 rfl ?_; refine tkW 2 rfl ?_
        try simp only [Act.put, List.setIfInBounds_toArray, List.set_cons_zero, List.set_cons_succ, List.getElem_toArray, List.getElem_cons_succ, List.getElem_cons_zero]
        refine skW 3 rfl ?_; refine skW 4 rfl ?_; refine skW 5 rfl ?_; refine skW 6 rfl ?_
        try simp only [Act.put, List.setIfInBounds_toArray, List.set_cons_zero, List.set_cons_succ, List.getElem_toArray, List.getElem_cons_succ, List.getElem_cons_zero]
        refine skW 7 rfl ?_
        try simp only [Act.put, List.setIfInBounds_toArray, List.set_cons_zero, List.set_cons_succ, List.getElem_toArray, List.getElem_cons_succ, List.getElem_cons_zero]
        refine tkW 8 rfl ?_; refine tkW 9 rfl ?_
        try simp only [Act.put, List.setIfInBounds_toArray, List.set_cons_zero, List.set_cons_succ, List.getElem_toArray, List.getElem_cons_succ, List.getElem_cons_zero]
        refine skW 10 rfl ?_; refine skW 11 rfl ?_; refine skW 12 rfl ?_; refine skW 13 rfl ?_
        try simp only [Act.put, List.setIfInBounds_toArray, List.set_cons_zero, List.set_cons_succ, List.getElem_toArray, List.getElem_cons_succ, List.getElem_cons_zero]
        refine skW 14 rfl ?_; refine skW 15 rfl ?_; refine skW 16 rfl ?_; refine skW 17 rfl ?_
        try simp only [Act.put, List.setIfInBounds_toArray, List.set_cons_zero, List.set_cons_succ, List.getElem_toArray, List.getElem_cons_succ, List.getElem_cons_zero]
        refine skW 18 rfl ?_; refine skW 19 rfl ?_; refine skW 20 rfl ?_
        try simp only [Act.put, List.setIfInBounds_toArray, List.set_cons_zero, List.set_cons_succ, List.getElem_toArray, List.getElem_cons_succ, List.getElem_cons_zero]
        refine tkW 21 rfl ?_
        try simp only [Act.put, List.setIfInBounds_toArray, List.set_cons_zero, List.set_cons_succ, List.getElem_toArray, List.getElem_cons_succ, List.getElem_cons_zero]
        refine wpAnyH_done (by kernel_rfl) ?_ _
        go_wp2_with fail
        go_roundg (xs.length + 1 - (i + 1))
        case measure => have := H1.out.2; omega
        case rel =>
          refine ⟨i + 1, by go_num, ⟨by omega, rfl⟩, ?_⟩
          rw [takeR_seen HXI.out, if_neg (by rw [HSE.out]; simp), List.append_nil]
          exact ⟨H4.out.1.kept ODR (by simp), H4.out.2.1.trans ODR, (ODR.block ka (Array.getElem?_eq_some_iff.1 H4.out.2.2.1).1 (by simp)).trans H4.out.2.2.1, H4.out.2.2.2.1⟩
    · have tin : ¬ (i : Int) < (xs.length : Int) := by omega
      have hie : i = xs.length := by omega
      have hR2 := H2.out.1
      rw [hie, List.take_length] at hR2
      have hlen : ((xs.filter (seesB ax ay az far tm)).map Bd.id).length ≤ 1000 := by
        rw [List.length_map]
        have := List.length_filter_le (seesB ax ay az far tm) xs
        omega
      go_wp2_with (first | (go_at_call 27; refine (ints_calls u9 ((xs.filter (seesB ax ay az far tm)).map Bd.id) wr hR2 hlen).mono ?_; rintro e w2 ⟨rfl, h2, o2⟩))
      go_ret
      refine ⟨u9, rfl, h2, H2.out.2.1.then o2 (fun b hb => Or.inr (H2.out.2.2.2 b hb)), H2.out.2.2.2⟩
end Go.Proofs.Ytdbjbjgnkkhgcaa
