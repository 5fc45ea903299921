/- The reference's Open, and Get of its Tape: whichever bytes. -/
import Derived.Test.YtedhdmahdioboaaSu2
namespace Go.Proofs.Ytedhdmahdioboaa
open Go.ChangeShapes Go.WideShapes Go.ChangeAt Go.RowKit
set_option linter.unusedVariables false
set_option linter.unusedSimpArgs false

theorem BtAt.new (w : World) : BtAt (w.alloc (.cells #[.slice none 0 0] 111)) w.heap.size (.slice none 0 0) [] := ⟨(MapKept.heap_alloc w _).1, SlB.nil _, by simp [ownL, Value.ownBlock]⟩
theorem bitsOf_snoc (L : List Nat) (i : Nat) (h : i < L.length) : bitsOf (L.take (i + 1)) = bitsOf (L.take i) ++ putB (L.getD i 0) 8 := by
  rw [List.take_succ_eq_append_getElem h, bitsOf, List.flatMap_append, List.getD_eq_getElem?_getD, List.getElem?_eq_getElem h]
  simp [bitsOf]
set_option maxRecDepth 100000 in
set_option maxHeartbeats 4000000 in
theorem open_calls (a : Option Addr) (c : Nat) (L : List Nat) (w : World) (hl : L.length ≤ 4000) (hs : ∀ x ∈ L, x < 256) (h : ByAt w a L) :
    Calls Try.prog 78 #[.slice a L.length c] w fun e w' => ∃ v, e = .returned v ∧ SlB w' v (bitsOf L) ∧ Only [] w w' ∧ ∀ b ∈ ownL v, w.heap.size ≤ b := by
  have HB : Hid (ByAt w a L ∧ L.length ≤ 4000 ∧ ∀ x ∈ L, x < 256) := ⟨h, hl, hs⟩
  clear h hs
  go_enter Try.func78, Try.ntmps78
  go_upto_region 2 with fail
  have H0 : Hid (BtAt (w.alloc (.cells #[.slice none 0 0] 111)) w.heap.size (.slice none 0 0) (bitsOf (L.take 0)) ∧ Only [] w (w.alloc (.cells #[.slice none 0 0] 111)) ∧ (∀ b ∈ ownL (.slice none 0 0), w.heap.size ≤ b)) := ⟨BtAt.new w, (Only.refl [] w).alloc _, by simp [ownL, Value.ownBlock]⟩
  revert H0
  generalize World.alloc w _ = w1
  generalize hx : w.heap.size = kb
  intro H0
  have HX : Hid (w.heap.size = kb) := hx
  clear hx
  go_wp2_with fail
  go_loopg [8] L.length (fun k idx wr => ∃ i : Nat, idx = .int .i64 (i : Int) ∧ Hid (i ≤ L.length ∧ k = L.length - i) ∧ Hid (∃ v, BtAt wr kb v (bitsOf (L.take i)) ∧ Only [] w wr ∧ ∀ b ∈ ownL v, kb ≤ b))
  case atStart => exact ⟨0, rfl, ⟨by omega, rfl⟩, ⟨_, H0.out⟩⟩
  case round =>
    clear H0
    obtain ⟨i, rfl, H1, HE⟩ := hrel
    obtain ⟨v, hB, hO, hN⟩ := HE.out
    have H2 : Hid (BtAt wr kb v (bitsOf (L.take i)) ∧ Only [] w wr ∧ ∀ b ∈ ownL v, kb ≤ b) := ⟨hB, hO, hN⟩
    clear hB hO hN HE
    by_cases hi : i < L.length
    · have hil : (i : Int) < (L.length : Int) := by omega
      obtain ⟨g, o, rfl, hc0⟩ := HB.out.1 i hi
      have hc := H2.out.2.1.cell hc0 (by simp)
      have hy : L.getD i 0 < 256 := by rw [List.getD_eq_getElem?_getD, List.getElem?_eq_getElem hi]; exact HB.out.2.2 _ (List.getElem_mem hi)
      have hlen : (bitsOf (L.take i)).length ≤ 32000 := by rw [bitsOf_len, List.length_take]; omega
      have HS : Hid (bitsOf (L.take (i + 1)) = bitsOf (L.take i) ++ putB (L.getD i 0) 8) := bitsOf_snoc L i hi
      clear hc0
      revert HS
      generalize L.getD i 0 = y at hc hy
      intro HS
      go_wp2_with fail
      refine (refPut_calls kb v (bitsOf (L.take i)) y 8 wr H2.out.1 (by omega) (by omega) (by omega)).mono ?_
      rintro e w3 ⟨rfl, v3, hB3, hP3⟩
      have H3 : Hid (∃ v, BtAt w3 kb v (bitsOf (L.take (i + 1))) ∧ Only [] w w3 ∧ ∀ b ∈ ownL v, kb ≤ b) := by
        refine ⟨v3, by rw [HS.out]; exact hB3, H2.out.2.1.then hP3.only (fun b hb => ?_), fun b hb => ?_⟩
        · rcases List.mem_cons.1 hb with e | e
          · right; rw [e, HX.out]; exact Nat.le_refl _
          · right; rw [HX.out]; exact H2.out.2.2 b e
        · rcases hP3.loc b hb with e | e
          · exact H2.out.2.2 b e
          · have := H2.out.1.lt; omega
      clear hB3 hP3 hc
      go_wp2_with fail
      go_roundg (L.length - (i + 1))
      case measure => have := H1.out.2; omega
      case rel => exact ⟨i + 1, by go_num, ⟨by omega, rfl⟩, H3⟩
    · have hil : ¬ (i : Int) < (L.length : Int) := by omega
      obtain rfl : i = L.length := by have := H1.out.1; omega
      have c0 := H2.out.1.c0
      go_wp2_with fail
      go_ret
      exact ⟨v, rfl, by have := H2.out.1.sl; rw [List.take_length] at this; exact this, H2.out.2.1, fun b hb => by rw [HX.out]; exact H2.out.2.2 b hb⟩

/-! A Tape: bits that are read. -/
structure TpAt (w : World) (kt : Nat) (v : Value) (l : List Nat) (p : Nat) : Prop where
  at_ : w.heap[kt]? = some (.cells #[v, .int .i64 ((p : Nat) : Int)] 166)
  sl : SlB w v l
  apart : kt ∉ ownL v
  bits : Bits l
  len : l.length ≤ 100000
  pos : p ≤ l.length
theorem TpAt.lt {w : World} {kt : Nat} {v : Value} {l : List Nat} {p : Nat} (h : TpAt w kt v l p) : kt < w.heap.size := (Array.getElem?_eq_some_iff.1 h.at_).1
theorem TpAt.c0 {w : World} {kt : Nat} {v : Value} {l : List Nat} {p : Nat} (h : TpAt w kt v l p) : w.cell? ⟨kt, 0, none⟩ = some v := by simp [World.cell?, h.at_]
theorem TpAt.c1 {w : World} {kt : Nat} {v : Value} {l : List Nat} {p : Nat} (h : TpAt w kt v l p) : w.cell? ⟨kt, 1, none⟩ = some (.int .i64 ((p : Nat) : Int)) := by simp [World.cell?, h.at_]
theorem TpAt.free {w : World} {kt : Nat} {v : Value} {l : List Nat} {p : Nat} (h : TpAt w kt v l p) (i : Nat) : w.frozen? ⟨kt, i, none⟩ = false := by simp [World.frozen?, h.at_]
theorem TpAt.only {w w' : World} {kt : Nat} {v : Value} {l : List Nat} {p : Nat} (h : TpAt w kt v l p) {D : List Nat} (o : Only D w w') (hk : kt ∉ D) (s : ∀ b ∈ ownL v, b ∉ D) : TpAt w' kt v l p :=
  ⟨(o.block kt h.lt hk).trans h.at_, h.sl.kept o s, h.apart, h.bits, h.len, h.pos⟩
theorem TpAt.keep {w w' : World} {kt : Nat} {v : Value} {l : List Nat} {p : Nat} (h : TpAt w kt v l p) (o : Only [] w w') : TpAt w' kt v l p := h.only o (by simp) (by simp)
theorem TpAt.put {w : World} {kt : Nat} {v : Value} {l : List Nat} {p : Nat} (h : TpAt w kt v l p) {q : Nat} (hq : q ≤ l.length) : TpAt (w.setCell ⟨kt, 1, none⟩ (.int .i64 ((q : Nat) : Int))) kt v l q :=
  ⟨by rw [heap_put h.at_]; rfl, h.sl.kept ((Only.refl [kt] w).setCell (p := ⟨kt, 1, none⟩) (Or.inl (by simp)) _) (fun b hb => by simp only [List.mem_singleton]; exact fun e => h.apart (e ▸ hb)), h.apart, h.bits, h.len, hq⟩
/-- What a call of it tells. -/
def TpPost (kt : Nat) (v : Value) (l : List Nat) (er : Int) (n : Int) (q : Nat) (w : World) (e : Ending) (w' : World) : Prop :=
  e = .returned (.tuple #[.int .i64 n, .int .i64 er]) ∧ TpAt w' kt v l q ∧ Only [kt] w w'
def TGet (kt : Nat) (v : Value) (l : List Nat) (p : Nat) (wd : Int) (w : World) (e : Ending) (w' : World) : Prop :=
  (¬ (0 ≤ wd ∧ wd ≤ 62) ∧ TpPost kt v l 2 0 p w e w') ∨ ((0 ≤ wd ∧ wd ≤ 62) ∧ l.length < p + wd.toNat ∧ TpPost kt v l 8 0 p w e w') ∨ ((0 ≤ wd ∧ wd ≤ 62) ∧ p + wd.toNat ≤ l.length ∧ TpPost kt v l 0 (valB ((l.drop p).take wd.toNat) : Nat) (p + wd.toNat) w e w')
set_option maxRecDepth 100000 in
set_option maxHeartbeats 4000000 in
theorem tget_calls (kt : Nat) (v : Value) (l : List Nat) (p : Nat) (wd : Int) (w : World) (h : TpAt w kt v l p) :
    Calls Try.prog 81 #[.pointer (some ⟨kt, 0, none⟩), .int .i64 wd] w (TGet kt v l p wd w) := by
  have HT : Hid (TpAt w kt v l p) := h
  clear h
  by_cases h0 : wd < 0
  · go_enter Try.func81, Try.ntmps81
    go_wp2_with fail
    refine bodyPost_ret (v := .tuple #[.int .i64 0, .int .i64 2]) (by simp [results, Try.results81, go_sem]) rfl ?_
    exact Or.inl ⟨by omega, rfl, HT.out, Only.refl _ _⟩
  · by_cases h1 : wd > 62
    · go_enter Try.func81, Try.ntmps81
      go_wp2_with fail
      refine bodyPost_ret (v := .tuple #[.int .i64 0, .int .i64 2]) (by simp [results, Try.results81, go_sem]) rfl ?_
      exact Or.inl ⟨by omega, rfl, HT.out, Only.refl _ _⟩
    · obtain ⟨d, rfl⟩ : ∃ d : Nat, wd = (d : Int) := ⟨wd.toNat, by omega⟩
      have hd : d ≤ 62 := by omega
      have c0 := HT.out.c0; have c1 := HT.out.c1; have hlen := HT.out.len; have hpos := HT.out.pos
      obtain ⟨a, cv, rfl, hcap, hcell⟩ := HT.out.sl.shape
      have HC : Hid (∀ j, j < l.length → ∃ g, a = some ⟨g, 0, none⟩ ∧ w.cell? ⟨g, j, none⟩ = some (.int .u8 ((l.getD j 0 : Nat) : Int))) := hcell
      clear hcell hcap
      have HM : Hid (IntKind.i64.wrap ((p : Int) + (d : Int)) = (p : Int) + (d : Int)) := wrap_i64 (p + d) (by omega)
      go_enter Try.func81, Try.ntmps81
      go_upto_region 3 with fail
      refine wp_region_held_drew (S := (fun w' => w'.cell? ⟨kt, 0, none⟩ = some (.slice a l.length cv) ∧ w'.cell? ⟨kt, 1, none⟩ = some (.int .i64 ((p : Nat) : Int)))) (by kernel_rfl) ?_ (fun hHeld1 => ?_)
      · (try dsimp only); exact ⟨c0, c1⟩
      refine tkW 0 rfl ?_; refine tkW 1 rfl ?_; refine tkW 2 rfl ?_; refine tkW 3 rfl ?_
      try simp only [Act.put, List.setIfInBounds_toArray, List.set_cons_zero, List.set_cons_succ, List.getElem_toArray, List.getElem_cons_succ, List.getElem_cons_zero]
      refine tkW 4 rfl ?_
      try simp only [Act.put, List.setIfInBounds_toArray, List.set_cons_zero, List.set_cons_succ, List.getElem_toArray, List.getElem_cons_succ, List.getElem_cons_zero]
      refine tkW (v := .int .i64 ((p : Int) + (d : Int))) 5 rfl ?_ (by intro w'' hSw; (try dsimp only at hSw); simp only [List.getElem_toArray, List.getElem_cons_succ, List.getElem_cons_zero]; go_simp; rw [HM.out])
      try simp only [Act.put, List.setIfInBounds_toArray, List.set_cons_zero, List.set_cons_succ, List.getElem_toArray, List.getElem_cons_succ, List.getElem_cons_zero]
      refine tkW 6 rfl ?_; refine tkW 7 rfl ?_; refine tkW 8 rfl ?_; refine tkW 9 rfl ?_
      try simp only [Act.put, List.setIfInBounds_toArray, List.set_cons_zero, List.set_cons_succ, List.getElem_toArray, List.getElem_cons_succ, List.getElem_cons_zero]
      refine tkW 10 rfl ?_; refine tkW 11 rfl ?_
      try simp only [Act.put, List.setIfInBounds_toArray, List.set_cons_zero, List.set_cons_succ, List.getElem_toArray, List.getElem_cons_succ, List.getElem_cons_zero]
      refine wpAnyH_done (by kernel_rfl) ?_ _
      have HD : Hid (TpAt w.drew kt (.slice a l.length cv) l p ∧ Only [kt] w w.drew) := ⟨HT.out.keep (Only.refl [] w).drew, (Only.refl [kt] w).drew⟩
      have HC2 : Hid (∀ j, j < l.length → ∃ g, a = some ⟨g, 0, none⟩ ∧ w.drew.cell? ⟨g, j, none⟩ = some (.int .u8 ((l.getD j 0 : Nat) : Int))) := HC.out
      clear c0 c1 hHeld1 HT HC
      generalize World.drew w = w1 at HD HC2 ⊢
      by_cases hgt : (p : Int) + (d : Int) > (l.length : Int)
      · go_wp2_with fail
        refine bodyPost_ret (v := .tuple #[.int .i64 0, .int .i64 8]) (by simp [results, Try.results81, go_sem]) rfl ?_
        exact Or.inr (Or.inl ⟨by omega, by rw [Int.toNat_natCast]; omega, rfl, HD.out.1, HD.out.2⟩)
      · have HB : Hid (p + d ≤ l.length) := by show _ ≤ _; omega
        have H0 : Hid (TpAt w1 kt (.slice a l.length cv) l (p + 0) ∧ Only [kt] w w1 ∧ Only [kt] w1 w1) := ⟨HD.out.1, HD.out.2, Only.refl _ _⟩
        go_wp2_with fail
        clear hgt HD
        go_loopg [6, 26] d (fun k x idx wr => ∃ i m : Nat, x = .int .i64 (m : Int) ∧ idx = .int .i64 (i : Int) ∧ Hid (i ≤ d ∧ k = d - i ∧ m = valB ((l.drop p).take i)) ∧ Hid (TpAt wr kt (.slice a l.length cv) l (p + i) ∧ Only [kt] w wr ∧ Only [kt] w1 wr))
        case atStart => exact ⟨0, 0, rfl, rfl, ⟨by omega, rfl, by simp [valB]⟩, H0⟩
        case round =>
          clear H0
          obtain ⟨i, m, rfl, rfl, H1, HE⟩ := hrel
          by_cases hi : i < d
          · have hil : (i : Int) < (d : Int) := by omega
            have hmb : m < 2 ^ 61 := by
              rw [H1.out.2.2]
              refine Nat.lt_of_lt_of_le (valB_lt (fun b hb => HE.out.1.bits b (List.mem_of_mem_drop (List.mem_of_mem_take hb)))) ?_
              exact Nat.pow_le_pow_right (by omega) (by rw [List.length_take]; omega)
            obtain ⟨q, hq⟩ : ∃ q, q = p + i := ⟨_, rfl⟩
            have HS : Hid (TpAt wr kt (.slice a l.length cv) l q ∧ Only [kt] w wr ∧ Only [kt] w1 wr ∧ q = p + i ∧ q < l.length) := ⟨by rw [hq]; exact HE.out.1, HE.out.2.1, HE.out.2.2, hq, by have := HB.out; omega⟩
            have hql := HS.out.2.2.2.2
            obtain ⟨g, rfl, hc⟩ := HC2.out q hql
            have hcell : wr.cell? ⟨g, q, none⟩ = some (.int .u8 ((l.getD q 0 : Nat) : Int)) := HS.out.2.2.1.cell hc (by simp only [List.mem_singleton]; exact fun e => HS.out.1.apart (by simp [ownL, Value.ownBlock, e]))
            have hb1 := HS.out.1.bits.getD q
            have HG : Hid (l.getD q 0 = l.getD (p + i) 0) := by show _ = _; rw [hq]
            have c0 := HS.out.1.c0; have c1 := HS.out.1.c1
            clear hq HE hc
            revert HG
            generalize l.getD q 0 = b at hcell hb1
            intro HG
            have HMM : Hid (IntKind.i64.wrap (2 * (m : Int)) = ((2 * m : Nat) : Int)) := by show _ = _; rw [← wrap_i64 (2 * m) (by omega)]; rfl
            obtain ⟨m2, hm2⟩ : ∃ m2, m2 = 2 * m := ⟨_, rfl⟩
            obtain ⟨m3, hm3⟩ : ∃ m3, m3 = m2 + b := ⟨_, rfl⟩
            rw [← hm2] at HMM
            have HM3 : Hid (IntKind.i64.wrap ((m2 : Int) + (b : Int)) = (m3 : Int)) := by show _ = _; rw [← wrap_i64 m3 (by omega), hm3]; rfl
            have HMb : Hid (IntKind.i64.wrap (b : Int) = (b : Int)) := wrap_i64 b (by omega)
            have H33 : Hid (m3 = 2 * m + b) := by show _ = _; omega
            clear hm2 hm3 hmb
            have hq4 : (q : Int) < (l.length : Int) := by omega
            go_upto_region 8 with fail
            refine wp_region_held_drew (S := (fun w' => w'.cell? ⟨kt, 0, none⟩ = some (.slice (some ⟨g, 0, none⟩) l.length cv) ∧ w'.cell? ⟨kt, 1, none⟩ = some (.int .i64 ((q : Nat) : Int)) ∧ w'.cell? ⟨g, q, none⟩ = some (.int .u8 (b : Int)))) (by kernel_rfl) ?_ (fun hHeld1 => ?_)
            · (try dsimp only); exact ⟨c0, c1, hcell⟩
            refine tkW 0 rfl ?_
            try simp only [Act.put, List.setIfInBounds_toArray, List.set_cons_zero, List.set_cons_succ, List.getElem_toArray, List.getElem_cons_succ, List.getElem_cons_zero]
            refine tkW (v := .int .i64 (m2 : Int)) 1 rfl ?_ (by intro w'' hSw; (try dsimp only at hSw); simp only [List.getElem_toArray, List.getElem_cons_succ, List.getElem_cons_zero]; go_simp; rw [HMM.out])
            try simp only [Act.put, List.setIfInBounds_toArray, List.set_cons_zero, List.set_cons_succ, List.getElem_toArray, List.getElem_cons_succ, List.getElem_cons_zero]
            refine tkW 2 rfl ?_; refine tkW 3 rfl ?_; refine tkW 4 rfl ?_; refine tkW 5 rfl ?_
            try simp only [Act.put, List.setIfInBounds_toArray, List.set_cons_zero, List.set_cons_succ, List.getElem_toArray, List.getElem_cons_succ, List.getElem_cons_zero]
            refine tkW 6 rfl ?_; refine tkW 7 rfl ?_; refine tkW 8 rfl ?_; refine tkW 9 rfl ?_
            try simp only [Act.put, List.setIfInBounds_toArray, List.set_cons_zero, List.set_cons_succ, List.getElem_toArray, List.getElem_cons_succ, List.getElem_cons_zero]
            refine tkW 10 rfl ?_; refine tkW 11 rfl ?_
            try simp only [Act.put, List.setIfInBounds_toArray, List.set_cons_zero, List.set_cons_succ, List.getElem_toArray, List.getElem_cons_succ, List.getElem_cons_zero]
            refine tkW (v := .int .i64 (b : Int)) 12 rfl ?_ (by intro w'' hSw; (try dsimp only at hSw); simp only [List.getElem_toArray, List.getElem_cons_succ, List.getElem_cons_zero]; go_simp; first | done | rw [HMb.out])
            try simp only [Act.put, List.setIfInBounds_toArray, List.set_cons_zero, List.set_cons_succ, List.getElem_toArray, List.getElem_cons_succ, List.getElem_cons_zero]
            refine tkW (v := .int .i64 (m3 : Int)) 13 rfl ?_ (by intro w'' hSw; (try dsimp only at hSw); simp only [List.getElem_toArray, List.getElem_cons_succ, List.getElem_cons_zero]; go_simp; rw [HM3.out])
            try simp only [Act.put, List.setIfInBounds_toArray, List.set_cons_zero, List.set_cons_succ, List.getElem_toArray, List.getElem_cons_succ, List.getElem_cons_zero]
            refine tkW 14 rfl ?_
            try simp only [Act.put, List.setIfInBounds_toArray, List.set_cons_zero, List.set_cons_succ, List.getElem_toArray, List.getElem_cons_succ, List.getElem_cons_zero]
            refine wpAnyH_done (by kernel_rfl) ?_ _
            have H9 : Hid (TpAt (wr.drew.setCell ⟨kt, 1, none⟩ (.int .i64 ((q + 1 : Nat) : Int))) kt (.slice (some ⟨g, 0, none⟩) l.length cv) l (q + 1) ∧ Only [kt] w (wr.drew.setCell ⟨kt, 1, none⟩ (.int .i64 ((q + 1 : Nat) : Int))) ∧ Only [kt] w1 (wr.drew.setCell ⟨kt, 1, none⟩ (.int .i64 ((q + 1 : Nat) : Int)))) :=
              ⟨(HS.out.1.keep (Only.refl [] wr).drew).put (by omega), HS.out.2.1.drew.setCell (p := ⟨kt, 1, none⟩) (Or.inl (by simp)) _, HS.out.2.2.1.drew.setCell (p := ⟨kt, 1, none⟩) (Or.inl (by simp)) _⟩
            have c1' : wr.drew.cell? ⟨kt, 1, none⟩ = some (.int .i64 ((q : Nat) : Int)) := c1
            have f1' : wr.drew.frozen? ⟨kt, 1, none⟩ = false := HS.out.1.free 1
            clear c0 c1 hcell hHeld1
            generalize World.drew wr = w5 at H9 c1' f1' ⊢
            go_wp2_with fail
            go_roundg (d - (i + 1))
            case measure => have := H1.out.2.1; omega
            case rel =>
              refine ⟨i + 1, m3, rfl, by go_num, ⟨by omega, rfl, ?_⟩, ?_⟩
              · rw [H33.out, valB_take _ _ _ (by have := HB.out; omega), ← H1.out.2.2, ← HG.out]
              · rw [show p + (i + 1) = q + 1 by have := HS.out.2.2.2.1; omega]
                exact H9
          · have hil : ¬ (i : Int) < (d : Int) := by omega
            obtain rfl : i = d := by have := H1.out.1; omega
            go_wp2_with fail
            refine bodyPost_ret (v := .tuple #[.int .i64 ((m : Int)), .int .i64 0]) (by simp [results, Try.results81, go_sem]) rfl ?_
            exact Or.inr (Or.inr ⟨by omega, HB.out, by rw [H1.out.2.2]; rfl, HE.out.1, HE.out.2.1⟩)
end Go.Proofs.Ytedhdmahdioboaa
