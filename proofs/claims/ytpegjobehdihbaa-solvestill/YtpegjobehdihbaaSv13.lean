/- solve.Speeds: whatever the bodies, no two of one number, the touches and the law. -/
import Derived.Test.YtpegjobehdihbaaSv12
namespace Go.Proofs.Ytpegjobehdihbaa
open Go.ChangeShapes Go.WideShapes Go.ChangeAt Go.RowKit
set_option linter.unusedVariables false
set_option linter.unusedSimpArgs false

def hitM (bo ru : Int) (B : Nat → Bd) (t : Mt) : Nat → Bd := hitX B t.i t.k t.x t.y t.all t.way bo ru
def iterM (bo ru : Int) (ms : List Mt) (B : Nat → Bd) : Nat → Nat → Bd
  | 0 => B
  | p + 1 => ms.foldl (hitM bo ru) (iterM bo ru ms B p)
def clampB (q : Bd) : Bd := spX q (cl 6553600 q.vx) (cl 6553600 q.vy) (cl 6553600 q.vz)
def clampTo (B : Nat → Bd) (p : Nat) : Nat → Bd := fun j => if j < p then clampB (B j) else B j
theorem clampTo_succ (B : Nat → Bd) (p : Nat) : clampTo B (p + 1) = upd (clampTo B p) p (clampB (B p)) := by
  funext j
  unfold clampTo upd
  by_cases h : j = p
  · subst h; simp
  · by_cases h2 : j < p
    · simp [h, h2, show j < p + 1 by omega]
    · simp [h, h2, show ¬ j < p + 1 by omega]
theorem clampTo_at (B : Nat → Bd) (p : Nat) : clampTo B p p = B p := by unfold clampTo; simp
/-- What Speeds tells. -/
def speedsM (n : Nat) (B : Nat → Bd) (T : Nat → Tc) (m : Nat) (bo ru ro : Int) : Nat → Bd :=
  if rightX bo ru ro = true then clampTo (iterM bo ru (meetsX n B T m) B ro.toNat) n else B
theorem bound_speed : bound 6553600 = 6553600 := by decide
structure SW (w w1 : World) (a : Option Addr) (g n kl : Nat) (bo ru ro : Int) (C : Nat → Bd) (v : Value) (ms : List Mt) (wr : World) : Prop where
  pw : PW w w1 a g n C v ms wr
  lw : LawAt wr kl bo ru ro
  nl : n ≠ 0 → kl ≠ g
theorem SW.keep {w w1 : World} {a : Option Addr} {g n kl : Nat} {bo ru ro : Int} {C : Nat → Bd} {v : Value} {ms : List Mt} {wr w' : World} (h : SW w w1 a g n kl bo ru ro C v ms wr) (o : Only [] wr w') : SW w w1 a g n kl bo ru ro C v ms w' := ⟨h.pw.keep o, h.lw.only o (by simp), h.nl⟩
theorem SW.turn {w w1 : World} {a : Option Addr} {g n kl : Nat} {bo ru ro : Int} {C D : Nat → Bd} {v : Value} {ms : List Mt} {wr w' : World} (h : SW w w1 a g n kl bo ru ro C v ms wr) (h0 : n ≠ 0) (hO : OwnB w' g n D) (o : Only [g] wr w') : SW w w1 a g n kl bo ru ro D v ms w' := by
  have ha : a = some ⟨g, 0, none⟩ := by
    rcases h.pw.own with q | q
    · exact absurd q h0
    · exact q.1
  exact ⟨h.pw.turn h0 ha hO o, h.lw.only o (by simp only [List.mem_singleton]; exact h.nl h0), h.nl⟩
theorem SW.there {w w1 : World} {a : Option Addr} {g n kl : Nat} {bo ru ro : Int} {C : Nat → Bd} {v : Value} {ms : List Mt} {wr : World} (h : SW w w1 a g n kl bo ru ro C v ms wr) {i : Nat} (hi : i < n) : a = some ⟨g, 0, none⟩ ∧ OwnB wr g n C := by
  rcases h.pw.own with q | q
  · omega
  · exact q
set_option maxRecDepth 100000 in
set_option maxHeartbeats 8000000 in
theorem speedsOwn_calls (a b : Option Addr) (n c m d : Nat) (B : Nat → Bd) (T : Nat → Tc) (bo ru ro : Int) (w : World) (hn : n ≤ 60) (hm : m ≤ 3600) (h : BodiesAt w a n B) (hs : SlArg a n c) (ht : TouchesAt w b m T) (hal : Alone n B) (hid : ∀ j, j < n → In64S (B j).id) :
    Calls Try.prog 6 #[.slice a n c, .slice b m d, .agg #[.int .i64 bo, .int .i64 ru, .int .i64 ro]] w (OwnPost n (speedsM n B T m bo ru ro) w) := by
  have HB : Hid (BodiesAt w a n B ∧ SlArg a n c ∧ TouchesAt w b m T ∧ Alone n B ∧ (∀ j, j < n → In64S (B j).id) ∧ n ≤ 60 ∧ m ≤ 3600) := ⟨h, hs, ht, hal, hid, hn, hm⟩
  clear h hs ht hal hid hn hm
  go_enter Try.func6, Try.ntmps6
  go_wp2_with fail
  refine (fresh_calls a n c B _ (by have := HB.out.2.2.2.2.2.1; omega) (HB.out.1.only ((Only.refl [] w).alloc _)) HB.out.2.1).mono ?_
  rintro e w1 ⟨a1, g, c1, rfl, hO, o1, hg, hsl0⟩
  have HSL0 : Hid (SlArg a1 n c1) := hsl0
  clear hsl0
  have H1 : Hid (OwnS w1 a1 g n B ∧ Only [] w w1 ∧ w.heap.size ≤ g ∧ LawAt w1 w.heap.size bo ru ro ∧ w.heap.size ≠ g) := by
    have hs : (w.alloc (.cells #[.int .i64 bo, .int .i64 ru, .int .i64 ro] 37)).heap.size = w.heap.size + 1 := by simp
    rw [hs] at hg
    exact ⟨hO, ((Only.refl [] w).alloc _).trans o1, by omega, LawAt.only (MapKept.heap_alloc w _).1 o1 (by simp), by omega⟩
  have HGN : Hid (w.heap.size ≤ g) := H1.out.2.2.1
  clear hO o1 hg
  revert H1
  generalize hkl : w.heap.size = kl
  intro H1
  have HKL : Hid (w.heap.size = kl) := hkl
  clear hkl
  have l0 := H1.out.2.2.2.1.off 0; have l1 := H1.out.2.2.2.1.off 1; have l2 := H1.out.2.2.2.1.off 2
  simp only [List.getElem?_toArray, List.getElem?_cons_succ, List.getElem?_cons_zero] at l0 l1 l2
  go_wp2_with fail
  refine (lawRight_calls bo ru ro _).mono ?_
  rintro e w2 ⟨rfl, k2⟩
  have H2 : Hid (OwnS w2 a1 g n B ∧ Only [] w w2 ∧ LawAt w2 kl bo ru ro) := ⟨H1.out.1.only (Only.of_kept (D := []) k2) (by simp), H1.out.2.1.trans (Only.of_kept k2), H1.out.2.2.2.1.only (Only.of_kept (D := []) k2) (by simp)⟩
  clear k2 l0 l1 l2
  cases hrt : rightX bo ru ro with
  | false =>
    have HE : Hid (speedsM n B T m bo ru ro = B) := by show speedsM n B T m bo ru ro = B; unfold speedsM; rw [hrt]; rfl
    clear hrt
    go_wp2_with fail
    go_ret
    exact ⟨a1, g, c1, rfl, by rw [HE.out]; exact H2.out.1, H2.out.2.1, HGN.out, HSL0.out⟩
  | true =>
    obtain ⟨R, hR, hR1, hb0, hb1⟩ : ∃ R : Nat, ro = R ∧ R ≤ 20 ∧ 0 ≤ bo ∧ bo ≤ 65536 := by
      unfold rightX shareX at hrt
      simp only [Bool.and_eq_true, decide_eq_true_eq] at hrt
      exact ⟨ro.toNat, by omega, by omega, by omega, by omega⟩
    have HE : Hid (speedsM n B T m bo ru ro = clampTo (iterM bo ru (meetsX n B T m) B R) n) := by
      show speedsM n B T m bo ru ro = _
      unfold speedsM; rw [if_pos hrt, hR]; simp
    subst hR
    have HRB : Hid (R ≤ 20 ∧ 0 ≤ bo ∧ bo ≤ 65536) := ⟨hR1, hb0, hb1⟩
    clear hrt hR1 hb0 hb1
    go_wp2_with fail
    refine (meetings_calls a1 b g n c1 m d B T w2 HB.out.2.2.2.2.2.1 HB.out.2.2.2.2.2.2 H2.out.1 (HB.out.2.2.1.only H2.out.2.1) HB.out.2.2.2.1 HB.out.2.2.2.2.1).mono ?_
    rintro e w3 ⟨v, rfl, hsl, o3, hv⟩
    have HL : Hid ((∀ t ∈ meetsX n B T m, t.i < n ∧ t.k < n ∧ t.i ≠ t.k) ∧ (meetsX n B T m).length ≤ 3600) := ⟨fun t ht => meetsX_lt ht, Nat.le_trans (meetsX_len n B T m) HB.out.2.2.2.2.2.2⟩
    generalize meetsX n B T m = ms at HE HL hsl
    obtain ⟨av, cv, rfl, hsh⟩ := hsl.shape
    have H3 : Hid (SW w w2 a1 g n kl bo ru R B (.slice av ms.length cv) ms w3) := by
      refine ⟨⟨H2.out.1.only o3 (by simp), hsl, H2.out.2.1.trans o3, by have := HKL.out; have := H1.out.2.2.1; omega, fun h0 x hx => ?_⟩, H2.out.2.2.only o3 (by simp), fun _ => H1.out.2.2.2.2⟩
      rcases H2.out.1 with q | q
      · exact absurd q h0
      · have h1 := hv x hx
        have h2 := q.2.lt
        omega
    clear hsl hsh o3 hv H1 H2
    have l2 := H3.out.lw.off 2
    simp only [List.getElem?_toArray, List.getElem?_cons_succ, List.getElem?_cons_zero] at l2
    go_wp2_with fail
    clear l2
    go_loopg [23] R (fun k idx wr => ∃ p : Nat, idx = .int .i64 (p : Int) ∧ Hid (p ≤ R ∧ k = R - p) ∧ Hid (SW w w2 a1 g n kl bo ru R (iterM bo ru ms B p) (.slice av ms.length cv) ms wr))
    case atStart => exact ⟨0, rfl, ⟨by omega, rfl⟩, H3⟩
    case round =>
      clear H3
      obtain ⟨p, rfl, H4, HP⟩ := hrel
      have hR20 := HRB.out.1
      by_cases hp : p < R
      · have hpl : (p : Int) < (R : Int) := by omega
        go_wp2_with fail
        go_loopg [27] ms.length (fun k idx wr => ∃ j : Nat, idx = .int .i64 (j : Int) ∧ Hid (j ≤ ms.length ∧ k = ms.length - j) ∧ Hid (SW w w2 a1 g n kl bo ru R ((ms.take j).foldl (hitM bo ru) (iterM bo ru ms B p)) (.slice av ms.length cv) ms wr))
        case atStart => exact ⟨0, rfl, ⟨by omega, rfl⟩, HP⟩
        case round =>
          clear HP
          obtain ⟨j, rfl, H5, HP⟩ := hrel
          have hl60 := HL.out.2
          by_cases hj : j < ms.length
          · have hjl : (j : Int) < (ms.length : Int) := by omega
            obtain ⟨a', c', ev, hsh⟩ := HP.out.pw.sl.shape
            obtain ⟨bm, ha', hbm, hc⟩ := hsh j hj
            injection ev with ev1 ev2 ev3
            rw [← ev1] at ha'
            subst ha'
            have htk : (ms.take (j + 1)).foldl (hitM bo ru) (iterM bo ru ms B p) = hitM bo ru ((ms.take j).foldl (hitM bo ru) (iterM bo ru ms B p)) ms[j] := by
              rw [List.take_add_one, List.getElem?_eq_getElem hj, Option.toList_some, List.foldl_append]; rfl
            have HJ := HL.out.1 ms[j] (List.getElem_mem hj)
            generalize ms[j] = t at hc htk HJ
            have HE5 : Hid ((ms.take (j + 1)).foldl (hitM bo ru) (iterM bo ru ms B p) = hitM bo ru ((ms.take j).foldl (hitM bo ru) (iterM bo ru ms B p)) t ∧ t.i < n ∧ t.k < n) := ⟨htk, HJ.1, HJ.2.1⟩
            have q0 := hc 0 (by omega); have q1 := hc 1 (by omega); have q2 := hc 2 (by omega); have q3 := hc 3 (by omega); have q4 := hc 4 (by omega); have q5 := hc 5 (by omega); have q6 := hc 6 (by omega); have q7 := hc 7 (by omega); have q8 := hc 8 (by omega)
            simp only [mtL, List.getElem?_cons_succ, List.getElem?_cons_zero, Nat.add_zero] at q0 q1 q2 q3 q4 q5 q6 q7 q8
            clear hc htk HJ hsh ev1 ev2 ev3 hbm
            generalize hC : (ms.take j).foldl (hitM bo ru) (iterM bo ru ms B p) = C at HP HE5
            clear hC
            go_upto_region 10 with fail
            have H6 : Hid (SW w w2 a1 g n kl bo ru R C (.slice (some ⟨bm, 0, none⟩) ms.length cv) ms (wr.alloc (.cells #[.pointer (some ⟨g, t.i * 17, none⟩), .pointer (some ⟨g, t.k * 17, none⟩), .int .i64 (t.x), .int .i64 (t.y), .int .i64 (t.all), .int .i64 (t.way.x), .int .i64 (t.way.y), .int .i64 (t.way.z), .int .i64 (t.deep)] 49)) ∧ (wr.alloc (.cells #[.pointer (some ⟨g, t.i * 17, none⟩), .pointer (some ⟨g, t.k * 17, none⟩), .int .i64 (t.x), .int .i64 (t.y), .int .i64 (t.all), .int .i64 (t.way.x), .int .i64 (t.way.y), .int .i64 (t.way.z), .int .i64 (t.deep)] 49)).heap[wr.heap.size]? = some (.cells #[.pointer (some ⟨g, t.i * 17, none⟩), .pointer (some ⟨g, t.k * 17, none⟩), .int .i64 (t.x), .int .i64 (t.y), .int .i64 (t.all), .int .i64 (t.way.x), .int .i64 (t.way.y), .int .i64 (t.way.z), .int .i64 (t.deep)] 49)) := ⟨HP.out.keep ((Only.refl [] wr).alloc _), (MapKept.heap_alloc wr _).1⟩
            clear q0 q1 q2 q3 q4 q5 q6 q7 q8
            revert H6
            generalize wr.heap.size = km
            generalize World.alloc wr _ = w6
            intro H6
            have m5 : MtAt w6 km g t.i t.k t.x t.y t.all t.way t.deep := H6.out.2
            have q0 := m5.off 0; have q1 := m5.off 1; have q2 := m5.off 2; have q3 := m5.off 3; have q4 := m5.off 4; have q5 := m5.off 5; have q6 := m5.off 6; have q7 := m5.off 7; have q8 := m5.off 8
            have l0 := H6.out.1.lw.off 0; have l1 := H6.out.1.lw.off 1; have l2 := H6.out.1.lw.off 2
            simp only [List.getElem?_toArray, List.getElem?_cons_succ, List.getElem?_cons_zero] at q0 q1 q2 q3 q4 q5 q6 q7 q8 l0 l1 l2
            clear m5
            go_wp2_with fail
            refine (show Calls Try.prog 14 #[.agg #[.pointer (some ⟨g, t.i * 17, none⟩), .pointer (some ⟨g, t.k * 17, none⟩), .int .i64 (t.x), .int .i64 (t.y), .int .i64 (t.all), .int .i64 (t.way.x), .int .i64 (t.way.y), .int .i64 (t.way.z), .int .i64 (t.deep)], .agg #[.int .i64 bo, .int .i64 ru, .int .i64 R]] w6 _ from hit_calls g n t.i t.k t.x t.y t.all t.way t.deep bo ru R C w6 (H6.out.1.there HE5.out.2.1).2 HE5.out.2.1 HE5.out.2.2 HRB.out.2.1 HRB.out.2.2).mono ?_
            rintro e w7 ⟨rfl, hO7, o7⟩
            have H7 : Hid (SW w w2 a1 g n kl bo ru R (hitM bo ru C t) (.slice (some ⟨bm, 0, none⟩) ms.length cv) ms w7) := H6.out.1.turn (by have := HE5.out.2.1; omega) hO7 o7
            clear hO7 o7 q0 q1 q2 q3 q4 q5 q6 q7 q8 l0 l1 l2 H6
            go_wp2_with fail
            go_roundg (ms.length - (j + 1))
            case measure => have := H5.out.2; omega
            case rel => exact ⟨j + 1, by go_num, ⟨by omega, rfl⟩, by rw [HE5.out.1]; exact H7⟩
          · have hjl : ¬ (j : Int) < (ms.length : Int) := by omega
            have HF : Hid ((ms.take j).foldl (hitM bo ru) (iterM bo ru ms B p) = iterM bo ru ms B (p + 1)) := by
              show (ms.take j).foldl (hitM bo ru) (iterM bo ru ms B p) = _
              rw [List.take_of_length_le (by omega)]; rfl
            go_wp2_with fail
            go_roundg (R - (p + 1))
            case measure => have := H4.out.2; omega
            case rel => exact ⟨p + 1, by go_num, ⟨by omega, rfl⟩, by rw [← HF.out]; exact HP⟩
      · have hpl : ¬ (p : Int) < (R : Int) := by omega
        obtain rfl : p = R := by have := H4.out.1; omega
        generalize hC : iterM bo ru ms B p = C at HP HE
        clear hC
        go_wp2_with fail
        go_loopg [38] n (fun k idx wr => ∃ j : Nat, idx = .int .i64 (j : Int) ∧ Hid (j ≤ n ∧ k = n - j) ∧ Hid (SW w w2 a1 g n kl bo ru p (clampTo C j) (.slice av ms.length cv) ms wr))
        case atStart => exact ⟨0, rfl, ⟨by omega, rfl⟩, HP⟩
        case round =>
          clear HP
          obtain ⟨j, rfl, H5, HP⟩ := hrel
          have hn30 := HB.out.2.2.2.2.2.1
          by_cases hj : j < n
          · have hjl : (j : Int) < (n : Int) := by omega
            obtain ⟨ha1, hO⟩ := HP.out.there hj
            subst ha1
            obtain ⟨q, hq⟩ : ∃ q, q = clampTo C j j := ⟨_, rfl⟩
            have c9 := hO.cell hj (show 9 < 17 by omega); have c10 := hO.cell hj (show 10 < 17 by omega); have c11 := hO.cell hj (show 11 < 17 by omega)
            rw [← hq] at c9 c10 c11
            simp only [bc] at c9 c10 c11
            have HQ : Hid (q = C j ∧ q = clampTo C j j) := ⟨by rw [hq, clampTo_at], hq⟩
            have HOO : Hid (OwnB wr g n (clampTo C j)) := hO
            clear hO hq
            go_wp2_with fail
            refine (clamp_calls _ _ _ _ _ (by decide)).mono ?_
            rintro e w7 ⟨rfl, k7⟩
            simp only [bound_speed]
            have e9 := kept_cell k7 c9; have e10 := kept_cell k7 c10; have e11 := kept_cell k7 c11
            have f9 := kept_frozen k7 (HOO.out.free (j * 17 + 9)); have f10 := kept_frozen k7 (HOO.out.free (j * 17 + 10)); have f11 := kept_frozen k7 (HOO.out.free (j * 17 + 11))
            have H8 : Hid (SW w w2 (some ⟨g, 0, none⟩) g n kl bo ru p (clampTo C (j + 1)) (.slice av ms.length cv) ms (((w7.setCell ⟨g, j * 17 + 9, none⟩ (.int .i64 (cl 6553600 q.vx))).setCell ⟨g, j * 17 + 10, none⟩ (.int .i64 (cl 6553600 q.vy))).setCell ⟨g, j * 17 + 11, none⟩ (.int .i64 (cl 6553600 q.vz)))) := by
              have h1 := (HOO.out.only (Only.of_kept (D := []) k7) (by simp)).putSp hj (cl 6553600 q.vx) (cl 6553600 q.vy) (cl 6553600 q.vz)
              rw [← HQ.out.2] at h1
              rw [clampTo_succ, ← HQ.out.1]
              exact HP.out.turn (by omega) h1 ((((Only.of_kept k7).setCell (p := ⟨g, j * 17 + 9, none⟩) (Or.inl (by simp)) _).setCell (p := ⟨g, j * 17 + 10, none⟩) (Or.inl (by simp)) _).setCell (p := ⟨g, j * 17 + 11, none⟩) (Or.inl (by simp)) _)
            clear k7 c9 c10 c11
            go_wp2_with fail
            go_roundg (n - (j + 1))
            case measure => have := H5.out.2; omega
            case rel => exact ⟨j + 1, by go_num, ⟨by omega, rfl⟩, H8⟩
          · have hjl : ¬ (j : Int) < (n : Int) := by omega
            obtain rfl : j = n := by have := H5.out.1; omega
            go_wp2_with fail
            go_ret
            exact ⟨a1, g, c1, rfl, by rw [HE.out]; exact HP.out.pw.own, HP.out.pw.only, HP.out.pw.new, HSL0.out⟩
theorem speeds_calls (a b : Option Addr) (n c m d : Nat) (B : Nat → Bd) (T : Nat → Tc) (bo ru ro : Int) (w : World) (hn : n ≤ 60) (hm : m ≤ 3600) (h : BodiesAt w a n B) (hs : SlArg a n c) (ht : TouchesAt w b m T) (hal : Alone n B) (hid : ∀ j, j < n → In64S (B j).id) :
    Calls Try.prog 6 #[.slice a n c, .slice b m d, .agg #[.int .i64 bo, .int .i64 ru, .int .i64 ro]] w (PlacesPost n (speedsM n B T m bo ru ro) w) := (speedsOwn_calls a b n c m d B T bo ru ro w hn hm h hs ht hal hid).mono fun _ _ h => h.places
end Go.Proofs.Ytpegjobehdihbaa
