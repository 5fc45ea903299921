/- solve.Places: whatever the bodies, no two of one number, and the touches. -/
import Derived.Test.YtpegjobehdihbaaSv7
namespace Go.Proofs.Ytpegjobehdihbaa
open Go.ChangeShapes Go.WideShapes Go.ChangeAt Go.RowKit
set_option linter.unusedVariables false
set_option linter.unusedSimpArgs false

theorem flat_at (g : Nat) : ∀ (ms : List Mt) (j q : Nat) (hj : j < ms.length), q < 9 → (ms.flatMap (mtL g))[j * 9 + q]? = (mtL g ms[j])[q]?
  | [], j, q, hj, _ => by simp at hj
  | t :: ms, 0, q, hj, hq => by
    rw [List.flatMap_cons, List.getElem?_append_left (by simp [mtL]; omega)]
    simp
  | t :: ms, j + 1, q, hj, hq => by
    have hj' : j < ms.length := by simpa using hj
    rw [List.flatMap_cons, List.getElem?_append_right (by simp [mtL]; omega)]
    have : (j + 1) * 9 + q - (mtL g t).length = j * 9 + q := by simp [mtL]; omega
    rw [this, flat_at g ms j q hj' hq]
    simp
theorem SlMt.shape {w : World} {v : Value} {g : Nat} {ms : List Mt} (h : SlMt w v g ms) : ∃ a c, v = .slice a ms.length c ∧ ∀ j (hj : j < ms.length), ∃ b, a = some ⟨b, 0, none⟩ ∧ b ∈ ownM v ∧ ∀ q, q < 9 → w.cell? ⟨b, j * 9 + q, none⟩ = (mtL g ms[j])[q]? := by
  obtain ⟨hl, ⟨rfl, hn⟩ | ⟨b, cap, cur, rfl, hb, hh, h1, h2, h3, h4⟩⟩ := h
  · exact ⟨none, 0, by rw [hn], fun j hj => by omega⟩
  · refine ⟨_, cap, rfl, fun j hj => ⟨b, rfl, by simp [ownM, Value.ownBlock], fun q hq => ?_⟩⟩
    have hf := flat_at g ms j q hj hq
    rw [← h4, List.getElem?_take_of_lt (by omega), Array.getElem?_toList] at hf
    simp [World.cell?, hh, hf]
def applyM (B : Nat → Bd) (t : Mt) : Nat → Bd := if 655 < t.deep then partX B t.i t.k t.x t.y t.all t.way t.deep else B
theorem meetX1_congr {n : Nat} {B C : Nat → Bd} (h1 : ∀ i, (B i).id = (C i).id) (h2 : ∀ i, (B i).ms = (C i).ms) (t : Tc) : meetX1 n B t = meetX1 n C t := by
  unfold meetX1
  rw [findX_congr h1 n, findX_congr h1 n]
  simp only [h2]
theorem fold_step (n : Nat) (P : Nat → Bd) (t : Tc) : (meetX1 n P t).foldl applyM P = stepX n P t := by
  unfold meetX1 stepX
  cases findX P t.a n with
  | none => rfl
  | some i =>
    cases findX P t.b n with
    | none => rfl
    | some k =>
      simp only
      by_cases e : i = k
      · simp [e]
      · by_cases ha : 0 < add (lightX (P i).ms) (lightX (P k).ms)
        · by_cases hd : t.deep ≤ 655
          · have hd' : ¬ 655 < t.deep := by omega
            simp [e, ha, hd, hd', applyM]
          · have hd' : 655 < t.deep := by omega
            simp [e, ha, hd, hd', applyM]
        · simp [e, ha]
theorem fold_places (n : Nat) (B : Nat → Bd) (T : Nat → Tc) : ∀ m, (meetsX n B T m).foldl applyM B = placesX n B T m
  | 0 => rfl
  | m + 1 => by
    simp only [meetsX, placesX, List.foldl_append, fold_places n B T m]
    rw [meetX1_congr (fun i => ((placesX_id n B T m i).1).symm) (fun i => ((placesX_id n B T m i).2).symm) (T m)]
    exact fold_step n _ (T m)
def PlacesPost (n : Nat) (C : Nat → Bd) (w : World) (e : Ending) (w' : World) : Prop := ∃ a c, e = .returned (.slice a n c) ∧ BodiesAt w' a n C ∧ Only [] w w'
def SlArg (a : Option Addr) (n c : Nat) : Prop := a = none → n = 0 ∧ c = 0
/-- Likewise, and the slice is one's own. -/
def OwnPost (n : Nat) (C : Nat → Bd) (w : World) (e : Ending) (w' : World) : Prop := ∃ a g c, e = .returned (.slice a n c) ∧ OwnS w' a g n C ∧ Only [] w w' ∧ w.heap.size ≤ g ∧ SlArg a n c
/-- Likewise, and there is room. -/
def OwnR (n : Nat) (C : Nat → Bd) (w : World) (e : Ending) (w' : World) : Prop := ∃ a g c, e = .returned (.slice a n c) ∧ OwnS w' a g n C ∧ Only [] w w' ∧ w.heap.size ≤ g ∧ SlArg a n c ∧ Room w' a n c ∧ Tied a g
theorem OwnPost.places {n : Nat} {C : Nat → Bd} {w : World} {e : Ending} {w' : World} (h : OwnPost n C w e w') : PlacesPost n C w e w' := by
  obtain ⟨a, g, c, he, ho, oo, _, _⟩ := h
  exact ⟨a, c, he, ho.bodies, oo⟩
structure PW (w w1 : World) (a : Option Addr) (g n : Nat) (C : Nat → Bd) (v : Value) (ms : List Mt) (wr : World) : Prop where
  own : OwnS wr a g n C
  sl : SlMt wr v g ms
  only : Only [] w wr
  new : w.heap.size ≤ g
  apart : n ≠ 0 → ∀ b ∈ ownM v, b ≠ g
theorem PW.keep {w w1 : World} {a : Option Addr} {g n : Nat} {C : Nat → Bd} {v : Value} {ms : List Mt} {wr w' : World} (h : PW w w1 a g n C v ms wr) (o : Only [] wr w') : PW w w1 a g n C v ms w' :=
  ⟨h.own.only o (by simp), h.sl.only o (by simp), h.only.trans o, h.new, h.apart⟩
theorem PW.turn {w w1 : World} {a : Option Addr} {g n : Nat} {C D : Nat → Bd} {v : Value} {ms : List Mt} {wr w' : World} (h : PW w w1 a g n C v ms wr) (h0 : n ≠ 0) (ha : a = some ⟨g, 0, none⟩) (hO : OwnB w' g n D) (o : Only [g] wr w') : PW w w1 a g n D v ms w' :=
  ⟨Or.inr ⟨ha, hO⟩, h.sl.only o (fun b hb => by simp only [List.mem_singleton]; exact h.apart h0 b hb), h.only.then o (fun b hb => by simp only [List.mem_singleton] at hb; subst hb; exact Or.inr h.new), h.new, h.apart⟩
set_option maxRecDepth 100000 in
set_option maxHeartbeats 4000000 in
theorem placesR_calls (a b : Option Addr) (n c m d : Nat) (B : Nat → Bd) (T : Nat → Tc) (w : World) (hn : n ≤ 60) (hm : m ≤ 3600) (h : BodiesAt w a n B) (hs : SlArg a n c) (ht : TouchesAt w b m T) (hal : Alone n B) (hid : ∀ j, j < n → In64S (B j).id) :
    Calls Try.prog 8 #[.slice a n c, .slice b m d] w (OwnR n (placesX n B T m) w) := by
  have HB : Hid (BodiesAt w a n B ∧ SlArg a n c ∧ TouchesAt w b m T ∧ Alone n B ∧ (∀ j, j < n → In64S (B j).id) ∧ n ≤ 60 ∧ m ≤ 3600) := ⟨h, hs, ht, hal, hid, hn, hm⟩
  clear h hs ht hal hid hn hm
  go_enter Try.func8, Try.ntmps8
  go_wp2_with fail
  refine (freshR_calls a n c B w (by have := HB.out.2.2.2.2.2.1; omega) HB.out.1 HB.out.2.1).mono ?_
  rintro e w1 ⟨a1, g, c1, rfl, hO, o1, hg, hsl0, hrm, htd⟩
  have HR1 : Hid (Room w1 a1 n c1) := hrm
  have HTD : Hid (Tied a1 g) := htd
  clear hrm htd
  have HSL0 : Hid (SlArg a1 n c1) := hsl0
  clear hsl0
  have H1 : Hid (OwnS w1 a1 g n B ∧ Only [] w w1 ∧ w.heap.size ≤ g) := ⟨hO, o1, hg⟩
  clear hO o1 hg
  go_wp2_with fail
  refine (meetings_calls a1 b g n c1 m d B T w1 HB.out.2.2.2.2.2.1 HB.out.2.2.2.2.2.2 H1.out.1 (HB.out.2.2.1.only H1.out.2.1) HB.out.2.2.2.1 HB.out.2.2.2.2.1).mono ?_
  rintro e w2 ⟨v, rfl, hsl, o2, hv⟩
  have HF : Hid ((meetsX n B T m).foldl applyM B = placesX n B T m) := fold_places n B T m
  have HL : Hid ((∀ t ∈ meetsX n B T m, t.i < n ∧ t.k < n ∧ t.i ≠ t.k) ∧ (meetsX n B T m).length ≤ 3600) := ⟨fun t ht => meetsX_lt ht, Nat.le_trans (meetsX_len n B T m) HB.out.2.2.2.2.2.2⟩
  generalize meetsX n B T m = ms at HF HL hsl
  obtain ⟨av, cv, rfl, hsh⟩ := hsl.shape
  have H2 : Hid (PW w w1 a1 g n B (.slice av ms.length cv) ms w2) := by
    refine ⟨H1.out.1.only o2 (by simp), hsl, H1.out.2.1.trans o2, H1.out.2.2, fun h0 x hx => ?_⟩
    rcases H1.out.1 with q | q
    · exact absurd q h0
    · have h1 := hv x hx
      have h2 := q.2.lt
      omega
  have HR2 : Hid (Room w2 a1 n c1) := HR1.out.only o2 (fun _ _ _ _ => by simp)
  clear hsl hsh o2 hv H1 HR1
  go_wp2_with fail
  go_loopg [14] ms.length (fun k idx wr => ∃ j : Nat, idx = .int .i64 (j : Int) ∧ Hid (j ≤ ms.length ∧ k = ms.length - j) ∧ Hid (PW w w1 a1 g n ((ms.take j).foldl applyM B) (.slice av ms.length cv) ms wr) ∧ Hid (Room wr a1 n c1))
  case atStart => exact ⟨0, rfl, ⟨by omega, rfl⟩, H2, HR2⟩
  case round =>
    obtain ⟨j, rfl, H4, HP, HR⟩ := hrel
    have hl60 := HL.out.2
    by_cases hj : j < ms.length
    · have hjl : (j : Int) < (ms.length : Int) := by omega
      obtain ⟨a', c', ev, hsh⟩ := HP.out.sl.shape
      obtain ⟨bm, ha', hbm, hc⟩ := hsh j hj
      injection ev with ev1 ev2 ev3
      rw [← ev1] at ha'
      subst ha'
      have htk : (ms.take (j + 1)).foldl applyM B = applyM ((ms.take j).foldl applyM B) ms[j] := by
        rw [List.take_add_one, List.getElem?_eq_getElem hj, Option.toList_some, List.foldl_append]; rfl
      have HJ := HL.out.1 ms[j] (List.getElem_mem hj)
      generalize ms[j] = t at hc htk HJ
      have HE : Hid ((ms.take (j + 1)).foldl applyM B = applyM ((ms.take j).foldl applyM B) t ∧ t.i < n ∧ t.k < n) := ⟨htk, HJ.1, HJ.2.1⟩
      have q0 := hc 0 (by omega); have q1 := hc 1 (by omega); have q2 := hc 2 (by omega); have q3 := hc 3 (by omega); have q4 := hc 4 (by omega); have q5 := hc 5 (by omega); have q6 := hc 6 (by omega); have q7 := hc 7 (by omega); have q8 := hc 8 (by omega)
      simp only [mtL, List.getElem?_cons_succ, List.getElem?_cons_zero, Nat.add_zero] at q0 q1 q2 q3 q4 q5 q6 q7 q8
      clear hc htk HJ hsh ev1 ev2 ev3 hbm
      generalize hC : (ms.take j).foldl applyM B = C at HP HE
      clear hC
      by_cases hd : 655 < t.deep
      · have HA : Hid (applyM C t = partX C t.i t.k t.x t.y t.all t.way t.deep) := if_pos hd
        go_wp2_with fail
        refine (show Calls Try.prog 16 #[.agg #[.pointer (some ⟨g, t.i * 17, none⟩), .pointer (some ⟨g, t.k * 17, none⟩), .int .i64 (t.x), .int .i64 (t.y), .int .i64 (t.all), .int .i64 (t.way.x), .int .i64 (t.way.y), .int .i64 (t.way.z), .int .i64 (t.deep)]] _ _ from part_calls g n t.i t.k t.x t.y t.all t.way t.deep C _ (by
          rcases HP.out.own with q | q
          · have := HE.out.2.1; omega
          · exact q.2.only ((Only.refl [] wr).alloc _) (by simp)) HE.out.2.1 HE.out.2.2).mono ?_
        rintro e w5 ⟨rfl, hO5, o5, hz5⟩
        have H5 : Hid (PW w w1 a1 g n (partX C t.i t.k t.x t.y t.all t.way t.deep) (.slice (some ⟨bm, 0, none⟩) ms.length cv) ms w5) := by
          have h0 : n ≠ 0 := by have := HE.out.2.1; omega
          have ha : a1 = some ⟨g, 0, none⟩ := by
            rcases HP.out.own with q | q
            · exact absurd q h0
            · exact q.1
          exact (HP.out.keep ((Only.refl [] wr).alloc _)).turn h0 ha hO5 o5
        have HR5 : Hid (Room w5 a1 n c1) := by
          have h0 : n ≠ 0 := by have := HE.out.2.1; omega
          have ha : a1 = some ⟨g, 0, none⟩ := by
            rcases HP.out.own with q | q
            · exact absurd q h0
            · exact q.1
          exact (HR.out.only ((Only.refl [] wr).alloc _) (fun _ _ _ _ => by simp)).turn ha hz5
        clear hO5 o5 hz5 q0 q1 q2 q3 q4 q5 q6 q7 q8
        go_wp2_with fail
        go_roundg (ms.length - (j + 1))
        case measure => have := H4.out.2; omega
        case rel => exact ⟨j + 1, by go_num, ⟨by omega, rfl⟩, by rw [HE.out.1, HA.out]; exact H5, HR5⟩
      · have HA : Hid (applyM C t = C) := if_neg hd
        go_wp2_with fail
        go_roundg (ms.length - (j + 1))
        case measure => have := H4.out.2; omega
        case rel => exact ⟨j + 1, by go_num, ⟨by omega, rfl⟩, by rw [HE.out.1, HA.out]; exact (HP.out.keep ((Only.refl [] wr).alloc _) : PW ..), HR.out.only ((Only.refl [] wr).alloc _) (fun _ _ _ _ => by simp)⟩
    · have hjl : ¬ (j : Int) < (ms.length : Int) := by omega
      have HE : Hid ((ms.take j).foldl applyM B = placesX n B T m) := by
        show (ms.take j).foldl applyM B = placesX n B T m
        rw [List.take_of_length_le (by omega)]; exact HF.out
      go_wp2_with fail
      go_ret
      refine ⟨a1, g, c1, rfl, ?_, HP.out.only, HP.out.new, HSL0.out, HR.out, HTD.out⟩
      rw [← HE.out]; exact HP.out.own
theorem placesOwn_calls (a b : Option Addr) (n c m d : Nat) (B : Nat → Bd) (T : Nat → Tc) (w : World) (hn : n ≤ 60) (hm : m ≤ 3600) (h : BodiesAt w a n B) (hs : SlArg a n c) (ht : TouchesAt w b m T) (hal : Alone n B) (hid : ∀ j, j < n → In64S (B j).id) :
    Calls Try.prog 8 #[.slice a n c, .slice b m d] w (OwnPost n (placesX n B T m) w) := (placesR_calls a b n c m d B T w hn hm h hs ht hal hid).mono fun _ _ ⟨a', g, c', h1, h2, h3, h4, h5, _⟩ => ⟨a', g, c', h1, h2, h3, h4, h5⟩
theorem places_calls (a b : Option Addr) (n c m d : Nat) (B : Nat → Bd) (T : Nat → Tc) (w : World) (hn : n ≤ 60) (hm : m ≤ 3600) (h : BodiesAt w a n B) (hs : SlArg a n c) (ht : TouchesAt w b m T) (hal : Alone n B) (hid : ∀ j, j < n → In64S (B j).id) :
    Calls Try.prog 8 #[.slice a n c, .slice b m d] w (PlacesPost n (placesX n B T m) w) := (placesOwn_calls a b n c m d B T w hn hm h hs ht hal hid).mono fun _ _ h => h.places
end Go.Proofs.Ytpegjobehdihbaa
