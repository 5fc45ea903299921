/- gyreref.Speeds: whatever the bodies, the touches and the law (under way). -/
import Derived.Test.YtbfkloclmlnahaaSv16
namespace Go.Proofs.Ytbfkloclmlnahaa
open Go.ChangeShapes Go.WideShapes Go.ChangeAt Go.RowKit
set_option linter.unusedVariables false
set_option linter.unusedSimpArgs false

def RLawAt (w : World) (kb : Nat) (bo ru ro : Int) : Prop := w.heap[kb]? = some (.cells #[.int .i64 bo, .int .i64 ru, .int .i64 ro] 75)
theorem RLawAt.off {w : World} {b : Nat} {x y z : Int} (h : RLawAt w b x y z) (j : Nat) : w.cell? ⟨b, j, none⟩ = (#[.int .i64 x, .int .i64 y, .int .i64 z] : Array Value)[j]? := by
  unfold RLawAt at h; simp [World.cell?, h]
theorem RLawAt.only {D : List Nat} {w w' : World} {b : Nat} {x y z : Int} (h : RLawAt w b x y z) (o : Only D w w') (s : b ∉ D) : RLawAt w' b x y z := (o.block b (Array.getElem?_eq_some_iff.1 h).1 s).trans h
def FrT1 (w : World) (b0 : Nat) (w' : World) : Prop :=
  Kept w w' ∧
  w'.cell? ⟨b0, 0, none⟩ = some (cellV w' ⟨b0, 0, none⟩) ∧
  w'.frozen? ⟨b0, 0, none⟩ = false
theorem FrT1.step {w w1 w2 : World} {b0 : Nat} (k : Kept w1 w2) (h : FrT1 w b0 w1) : FrT1 w b0 w2 := by
  obtain ⟨h0, h1, h2⟩ := h
  exact ⟨h0.trans k, kept_there k h1, kept_frozen k h2⟩
theorem FrT1.drew {w w1 : World} {b0 : Nat} (h : FrT1 w b0 w1) : FrT1 w b0 w1.drew := h.step (Kept.refl _).drew
theorem FrT1.put {w w1 : World} {b0 : Nat} (i : Nat) (v : Value) (ho : w.heap.size ≤ b0)  (h : FrT1 w b0 w1) : FrT1 w b0 (w1.setCell ⟨b0, i, none⟩ v) := by
  obtain ⟨h0, h1, h2⟩ := h
  exact ⟨h0.setCell (p := ⟨b0, i, none⟩) ho v, put_there h1, (World.frozen?_setCell _ _ _ _).trans h2⟩

theorem FrT1.past {w w1 : World} {p q : Nat} (h : FrT1 w q w1) (hne : p ≠ q) : ∀ v0 : Value, (w1.setCell ⟨p, 0, none⟩ v0).cell? ⟨q, 0, none⟩ = some (cellV w1 ⟨q, 0, none⟩) ∧ (w1.setCell ⟨p, 0, none⟩ v0).frozen? ⟨q, 0, none⟩ = false := by
  obtain ⟨_, c0, f0⟩ := h
  have n1 : ∀ i j : Nat, (⟨p, i, none⟩ : Addr) ≠ ⟨q, j, none⟩ := fun i j e => hne (by injection e)
  intro v0
  exact ⟨(World.cell?_setCell_other _ _ _ _ (n1 0 _)).trans (c0), (World.frozen?_setCell _ _ _ _).trans (f0)⟩
theorem FrT1.two {w w1 : World} {p q : Nat} (hp : FrT1 w p w1) (hq : FrT1 w q w1) (hne : p ≠ q) (v0 u0 : Value) : ((w1.setCell ⟨p, 0, none⟩ v0).setCell ⟨q, 0, none⟩ u0).cell? ⟨p, 0, none⟩ = some v0 ∧ ((w1.setCell ⟨p, 0, none⟩ v0).setCell ⟨q, 0, none⟩ u0).cell? ⟨q, 0, none⟩ = some u0 := by
  have hne' : q ≠ p := fun e => hne e.symm
  obtain ⟨_, c0, _⟩ := hp
  obtain ⟨_, d0, _⟩ := hq
  constructor <;> go_simp
theorem kept_set1 {a b : World} {p : Nat} (h : Kept a b) (hp : a.heap.size ≤ p) (v0 : Value) : Kept a (b.setCell ⟨p, 0, none⟩ v0) := h.setCell (p := ⟨p, 0, none⟩) hp v0
def IdxAt (kl kt : Nat) (a1 : Option Addr) (n c1 : Nat) (t : Tc) (w' : World) : Prop := w'.cell? ⟨kl, 0, none⟩ = some (.slice a1 n c1) ∧ w'.cell? ⟨kt, 0, none⟩ = some (.int .i64 (t.a)) ∧ w'.cell? ⟨kt, 1, none⟩ = some (.int .i64 (t.b))
theorem IdxAt.step {kl kt : Nat} {a1 : Option Addr} {n c1 : Nat} {t : Tc} {w w' : World} (h : IdxAt kl kt a1 n c1 t w) (k : Kept w w') : IdxAt kl kt a1 n c1 t w' := ⟨kept_cell k h.1, kept_cell k h.2.1, kept_cell k h.2.2⟩
/-- What holds while gyreref.Speeds runs: the bodies, the law, the variable l. -/
structure QW (w : World) (a : Option Addr) (g n kb kl c1 : Nat) (bo ru ro : Int) (C : Nat → Bd) (wr : World) : Prop where
  rw : RW w a g n C wr
  lw : RLawAt wr kb bo ru ro
  var : wr.cell? ⟨kl, 0, none⟩ = some (.slice a n c1)
  nb : n ≠ 0 → kb ≠ g
  nl : n ≠ 0 → kl ≠ g
theorem QW.keep {w : World} {a : Option Addr} {g n kb kl c1 : Nat} {bo ru ro : Int} {C : Nat → Bd} {wr w' : World} (h : QW w a g n kb kl c1 bo ru ro C wr) (o : Only [] wr w') : QW w a g n kb kl c1 bo ru ro C w' :=
  ⟨h.rw.keep o, h.lw.only o (by simp), cell_old1 o h.var, h.nb, h.nl⟩
theorem QW.turn {w : World} {a : Option Addr} {g n kb kl c1 : Nat} {bo ru ro : Int} {C D : Nat → Bd} {wr w' : World} (h : QW w a g n kb kl c1 bo ru ro C wr) (h0 : n ≠ 0) (hO : OwnB w' g n D) (o : Only [g] wr w') : QW w a g n kb kl c1 bo ru ro D w' := by
  have ha : a = some ⟨g, 0, none⟩ := by
    rcases h.rw.own with q | q
    · exact absurd q h0
    · exact q.1
  exact ⟨h.rw.turn ha hO o, h.lw.only o (by simp only [List.mem_singleton]; exact h.nb h0), cell_only o h.var (by simp only [List.mem_singleton]; exact h.nl h0), h.nb, h.nl⟩
/-- What holds in a round of gyreref.Speeds once both bodies are found. -/
structure RB (w : World) (g n kb kl c1 : Nat) (bo ru ro : Int) (kt : Nat) (t : Tc) (ki kk i k : Nat) (C : Nat → Bd) (wr : World) : Prop where
  q : QW w (some ⟨g, 0, none⟩) g n kb kl c1 bo ru ro C wr
  nz : n ≠ 0
  tc : TouchAt wr kt t
  vi : wr.cell? ⟨ki, 0, none⟩ = some (.int .i64 ((i : Int)))
  vk : wr.cell? ⟨kk, 0, none⟩ = some (.int .i64 ((k : Int)))
  nt : kt ≠ g
  ni : ki ≠ g
  nk : kk ≠ g
theorem RB.keep {w : World} {g n kb kl c1 : Nat} {bo ru ro : Int} {kt : Nat} {t : Tc} {ki kk i k : Nat} {C : Nat → Bd} {wr w' : World} (h : RB w g n kb kl c1 bo ru ro kt t ki kk i k C wr) (o : Only [] wr w') : RB w g n kb kl c1 bo ru ro kt t ki kk i k C w' :=
  ⟨h.q.keep o, h.nz, h.tc.only o (by simp), cell_old1 o h.vi, cell_old1 o h.vk, h.nt, h.ni, h.nk⟩
theorem RB.turn {w : World} {g n kb kl c1 : Nat} {bo ru ro : Int} {kt : Nat} {t : Tc} {ki kk i k : Nat} {C D : Nat → Bd} {wr w' : World} (h : RB w g n kb kl c1 bo ru ro kt t ki kk i k C wr) (hO : OwnB w' g n D) (o : Only [g] wr w') : RB w g n kb kl c1 bo ru ro kt t ki kk i k D w' :=
  ⟨h.q.turn h.nz hO o, h.nz, h.tc.only o (by simp only [List.mem_singleton]; exact h.nt), cell_only o h.vi (by simp only [List.mem_singleton]; exact h.ni), cell_only o h.vk (by simp only [List.mem_singleton]; exact h.nk), h.nt, h.ni, h.nk⟩
theorem RB.own {w : World} {g n kb kl c1 : Nat} {bo ru ro : Int} {kt : Nat} {t : Tc} {ki kk i k : Nat} {C : Nat → Bd} {wr : World} (h : RB w g n kb kl c1 bo ru ro kt t ki kk i k C wr) : OwnB wr g n C := (h.q.rw.there (i := 0) (Nat.pos_of_ne_zero h.nz)).2
/-- Likewise, once both lights are known. -/
structure RC (w : World) (g n kb kl c1 : Nat) (bo ru ro : Int) (kt : Nat) (t : Tc) (ki kk i k : Nat) (kx ky : Nat) (x y : Int) (C : Nat → Bd) (wr : World) : Prop where
  b : RB w g n kb kl c1 bo ru ro kt t ki kk i k C wr
  vx : wr.cell? ⟨kx, 0, none⟩ = some (.int .i64 x)
  vy : wr.cell? ⟨ky, 0, none⟩ = some (.int .i64 y)
  nx : kx ≠ g
  ny : ky ≠ g
theorem RC.keep {w : World} {g n kb kl c1 : Nat} {bo ru ro : Int} {kt : Nat} {t : Tc} {ki kk i k : Nat} {kx ky : Nat} {x y : Int} {C : Nat → Bd} {wr w' : World} (h : RC w g n kb kl c1 bo ru ro kt t ki kk i k kx ky x y C wr) (o : Only [] wr w') : RC w g n kb kl c1 bo ru ro kt t ki kk i k kx ky x y C w' :=
  ⟨h.b.keep o, cell_old1 o h.vx, cell_old1 o h.vy, h.nx, h.ny⟩
theorem RC.turn {w : World} {g n kb kl c1 : Nat} {bo ru ro : Int} {kt : Nat} {t : Tc} {ki kk i k : Nat} {kx ky : Nat} {x y : Int} {C D : Nat → Bd} {wr w' : World} (h : RC w g n kb kl c1 bo ru ro kt t ki kk i k kx ky x y C wr) (hO : OwnB w' g n D) (o : Only [g] wr w') : RC w g n kb kl c1 bo ru ro kt t ki kk i k kx ky x y D w' :=
  ⟨h.b.turn hO o, cell_only o h.vx (by simp only [List.mem_singleton]; exact h.nx), cell_only o h.vy (by simp only [List.mem_singleton]; exact h.ny), h.nx, h.ny⟩
theorem RC.vars {w : World} {g n kb kl c1 : Nat} {bo ru ro : Int} {kt : Nat} {t : Tc} {ki kk i k : Nat} {kx ky : Nat} {x y : Int} {C : Nat → Bd} {wr : World} (h : RC w g n kb kl c1 bo ru ro kt t ki kk i k kx ky x y C wr) : VarsAt wr kl ki kx kk ky g n c1 i k x y ∧ (kl ≠ g ∧ ki ≠ g ∧ kx ≠ g ∧ kk ≠ g ∧ ky ≠ g) :=
  ⟨⟨h.b.q.var, h.b.vi, h.vx, h.b.vk, h.vy⟩, h.b.q.nl h.b.nz, h.b.ni, h.nx, h.b.nk, h.ny⟩
def LgAt (kl ki kk g n c1 i k : Nat) (w' : World) : Prop := w'.cell? ⟨kl, 0, none⟩ = some (.slice (some ⟨g, 0, none⟩) n c1) ∧ w'.cell? ⟨ki, 0, none⟩ = some (.int .i64 ((i : Int))) ∧ w'.cell? ⟨kk, 0, none⟩ = some (.int .i64 ((k : Int)))
theorem LgAt.step {kl ki kk g n c1 i k : Nat} {w w' : World} (h : LgAt kl ki kk g n c1 i k w) (o : Kept w w') : LgAt kl ki kk g n c1 i k w' := ⟨kept_cell o h.1, kept_cell o h.2.1, kept_cell o h.2.2⟩
def WyAt (kt kv : Nat) (v : V3) (vx vy vz : Int) (w' : World) : Prop := w'.cell? ⟨kt, 2, none⟩ = some (.int .i64 (v.x)) ∧ w'.cell? ⟨kt, 3, none⟩ = some (.int .i64 (v.y)) ∧ w'.cell? ⟨kt, 4, none⟩ = some (.int .i64 (v.z)) ∧ w'.cell? ⟨kv, 0, none⟩ = some (.int .i64 vx) ∧ w'.cell? ⟨kv, 1, none⟩ = some (.int .i64 vy) ∧ w'.cell? ⟨kv, 2, none⟩ = some (.int .i64 vz)
theorem WyAt.step {kt kv : Nat} {v : V3} {vx vy vz : Int} {w w' : World} (h : WyAt kt kv v vx vy vz w) (k : Kept w w') : WyAt kt kv v vx vy vz w' := ⟨kept_cell k h.1, kept_cell k h.2.1, kept_cell k h.2.2.1, kept_cell k h.2.2.2.1, kept_cell k h.2.2.2.2.1, kept_cell k h.2.2.2.2.2⟩
def SpOf (w' : World) (g i : Nat) (q : Bd) : Prop := w'.cell? ⟨g, i * 17 + 9, none⟩ = some (.int .i64 (q.vx)) ∧ w'.cell? ⟨g, i * 17 + 10, none⟩ = some (.int .i64 (q.vy)) ∧ w'.cell? ⟨g, i * 17 + 11, none⟩ = some (.int .i64 (q.vz))
theorem OwnB.sp {w w' : World} {g n : Nat} {B : Nat → Bd} (h : OwnB w g n B) {i : Nat} (hi : i < n) {q : Bd} (hq : q = B i) (o : Kept w w') : SpOf w' g i q := by
  subst hq
  exact ⟨kept_cell o (h.cell hi (show 9 < 17 by omega)), kept_cell o (h.cell hi (show 10 < 17 by omega)), kept_cell o (h.cell hi (show 11 < 17 by omega))⟩
set_option maxRecDepth 100000 in
set_option maxHeartbeats 8000000 in
theorem refSpeeds_calls (a b : Option Addr) (n c m d : Nat) (B : Nat → Bd) (T : Nat → Tc) (bo ru ro : Int) (w : World) (hn : n ≤ 30) (hm : m ≤ 60) (h : BodiesAt w a n B) (hs : SlArg a n c) (ht : TouchesAt w b m T) :
    Calls Try.prog 70 #[.slice a n c, .slice b m d, .agg #[.int .i64 bo, .int .i64 ru, .int .i64 ro]] w (PlacesPost n (speedsT n B T m bo ru ro) w) := by
  have HB : Hid (TouchesAt w b m T ∧ n ≤ 30 ∧ m ≤ 60) := ⟨ht, hn, hm⟩
  have HS : Hid (BodiesAt w a n B ∧ SlArg a n c) := ⟨h, hs⟩
  clear h hs ht hn hm
  go_enter Try.func70, Try.ntmps70
  go_upto_region 1 with fail
  have H0 : Hid (BodiesAt (w.alloc (.cells #[.int .i64 bo, .int .i64 ru, .int .i64 ro] 75)) a n B ∧ SlArg a n c ∧ RLawAt (w.alloc (.cells #[.int .i64 bo, .int .i64 ru, .int .i64 ro] 75)) w.heap.size bo ru ro ∧ Only [] w (w.alloc (.cells #[.int .i64 bo, .int .i64 ru, .int .i64 ro] 75)) ∧ w.heap.size < (w.alloc (.cells #[.int .i64 bo, .int .i64 ru, .int .i64 ro] 75)).heap.size) :=
    ⟨HS.out.1.only ((Only.refl [] w).alloc _), HS.out.2, (MapKept.heap_alloc w _).1, (Only.refl [] w).alloc _, by simp⟩
  clear HS
  revert H0
  generalize w.heap.size = kb
  generalize World.alloc w _ = w0
  intro H0
  go_cut [7] from 24 to 26 (fun s7 wc => ∃ a1 g c1 kl, s7 = .pointer (some ⟨kl, 0, none⟩) ∧ QW w a1 g n kb kl c1 bo ru ro B wc)
  case first =>
    have key : ∀ (a' : Option Addr) (g' c' : Nat) (w5 : World), RW w0 a' g' n B w5 → Hid (QW w a' g' n kb w5.heap.size c' bo ru ro B (w5.alloc (.cells #[.slice a' n c'] 70))) := fun a' g' c' w5 hr => by
      have o5 : Only [] w5 (w5.alloc (.cells #[.slice a' n c'] 70)) := (Only.refl [] w5).alloc _
      have hk := H0.out.2.2.2.2
      have hnew := hr.new
      refine ⟨⟨hr.own.only o5 (by simp), (H0.out.2.2.2.1.trans hr.only).trans o5, Nat.le_trans H0.out.2.2.2.1.size hnew⟩, (H0.out.2.2.1.only hr.only (by simp)).only o5 (by simp), by simp, fun _ => by omega, fun h0 => ?_⟩
      rcases hr.own with q | q
      · exact absurd q h0
      · have := q.2.lt; omega
    have HKEY : Hid (∀ (a' : Option Addr) (g' c' : Nat) (w5 : World), RW w0 a' g' n B w5 → Hid (QW w a' g' n kb w5.heap.size c' bo ru ro B (w5.alloc (.cells #[.slice a' n c'] 70)))) := key
    clear key
    cases a with
    | none =>
      obtain ⟨rfl, rfl⟩ := H0.out.2.1 rfl
      have hk0 := (HKEY.out (some ⟨w0.heap.size, 0, none⟩) w0.heap.size 0 (w0.alloc (.cells #[] 83)) ⟨Or.inl rfl, (Only.refl [] w0).alloc _, Nat.le_refl _⟩).out
      have hs0 : (w0.alloc (.cells #[] 83)).heap.size = w0.heap.size + 1 := by simp
      rw [hs0] at hk0
      have HK0 : Hid (QW w (some ⟨w0.heap.size, 0, none⟩) w0.heap.size 0 kb (w0.heap.size + 1) 0 bo ru ro B ((w0.alloc (.cells #[] 83)).alloc (.cells #[.slice (some ⟨w0.heap.size, 0, none⟩) 0 0] 70))) := hk0
      clear hk0 hs0
      go_wp2_with fail
      go_meet
      case rel => exact ⟨_, w0.heap.size, _, _, rfl, HK0.out⟩
    | some ad =>
      obtain ⟨i2, hi0, hz0, hz1, hz2⟩ := info_parts' bodyInfo
      have hcell := rowsL_all (H0.out.1.only ((Only.refl [] w0).alloc (.cells #[] 83)))
      have hn := HB.out.2.1
      have hown : (w0.alloc (.cells #[] 83)).ownsRow w0.heap.size 83 17 (.slice (some ⟨w0.heap.size, 0, none⟩) 0 0) 0 [] := ⟨rfl, Or.inr ⟨w0.heap.size, 0, #[], rfl, Nat.le_refl _, (MapKept.heap_alloc w0 _).1, by omega, by unfold maxLen; omega, rfl, rfl⟩⟩
      go_wp2_with (first | (at_builtin; refine wpList_append_own_at _ rfl _ _ 70 rfl w0.heap.size 83 i2 (.agg #[.int .i64 0, .int .i64 0, .int .i64 0, .int .i64 0, .int .i64 0, .int .i64 0, .int .i64 0, .int .i64 0, .int .i64 0, .int .i64 0, .int .i64 0, .int .i64 0, .int .i64 0, .int .i64 0, .int .i64 0, .int .i64 0, .int .i64 0]) 17 136 Try.underlying70 hi0 hz0 hz1 hz2 rfl (by decide) (.slice (some ⟨w0.heap.size, 0, none⟩) 0 0) 0 [] rfl hown ad n c (rowsL B n) rfl (rowsL_len B n) hcell (rowsL_one B n) (by unfold maxLen; omega) (by omega) (by simp) ?_; intro v' w5 hown hgrow hnil hloc; simp only [Nat.zero_add, List.nil_append] at hown; have H5 : Hid (w5.ownsRow w0.heap.size 83 17 v' n (rowsL B n) ∧ Only [] w0 w5) := ⟨hown, ((Only.refl [] w0).alloc _).grown hgrow (fun k hk => by simp [Value.ownBlock] at hk; exact Or.inr (by omega))⟩; clear hown hgrow hnil hloc hcell; obtain ⟨a', g', c', rfl, hS, hg⟩ := OwnS.of_row H5.out.1; have H6 : Hid (∃ g, RW w0 a' g n B w5) := (by by_cases h0 : n = 0; exact ⟨w0.heap.size, Or.inl h0, H5.out.2, Nat.le_refl _⟩; exact ⟨g', hS, H5.out.2, hg h0⟩); clear hS hg H5))
      go_meet
      case rel => exact ⟨a', H6.out.choose, c', _, rfl, (HKEY.out a' H6.out.choose c' w5 H6.out.choose_spec).out⟩
  case rest =>
    obtain ⟨a1, g, c1, kl, rfl, hq⟩ := hcut
    have H1 : Hid (QW w a1 g n kb kl c1 bo ru ro B wc) := hq
    clear hq H0
    have l0 := H1.out.lw.off 0; have l1 := H1.out.lw.off 1; have l2 := H1.out.lw.off 2
    have lv := H1.out.var
    simp only [List.getElem?_toArray, List.getElem?_cons_succ, List.getElem?_cons_zero] at l0 l1 l2
    go_wp2_with fail
    refine (refRight_calls bo ru ro _).mono ?_
    rintro e w2 ⟨rfl, k2⟩
    have H2 : Hid (QW w a1 g n kb kl c1 bo ru ro B w2) := H1.out.keep (Only.of_kept k2)
    clear l0 l1 l2 lv k2 H1
    cases hrt : rightX bo ru ro with
    | false =>
      have HE : Hid (speedsT n B T m bo ru ro = B) := by show speedsT n B T m bo ru ro = B; unfold speedsT; rw [hrt]; rfl
      clear hrt
      have lv := H2.out.var
      go_wp2_with fail
      go_ret
      exact ⟨a1, c1, rfl, by rw [HE.out]; exact H2.out.rw.own.bodies, H2.out.rw.only⟩
    | true =>
      obtain ⟨R, hR, hR1, hb0, hb1⟩ : ∃ R : Nat, ro = R ∧ R ≤ 20 ∧ 0 ≤ bo ∧ bo ≤ 65536 := by
        unfold rightX shareX at hrt
        simp only [Bool.and_eq_true, decide_eq_true_eq] at hrt
        exact ⟨ro.toNat, by omega, by omega, by omega, by omega⟩
      have HE : Hid (speedsT n B T m bo ru ro = clampTo (roundsT n bo ru B T m R) n) := by
        show speedsT n B T m bo ru ro = _
        unfold speedsT; rw [if_pos hrt, hR]; simp
      subst hR
      have HRB : Hid (R ≤ 20 ∧ 0 ≤ bo ∧ bo ≤ 65536) := ⟨hR1, hb0, hb1⟩
      clear hrt hR1 hb0 hb1
      have l2 := H2.out.lw.off 2
      simp only [List.getElem?_toArray, List.getElem?_cons_succ, List.getElem?_cons_zero] at l2
      go_wp2_with fail
      clear l2
      go_loopg [33] R (fun k idx wr => ∃ p : Nat, idx = .int .i64 (p : Int) ∧ Hid (p ≤ R ∧ k = R - p) ∧ Hid (QW w a1 g n kb kl c1 bo ru R (roundsT n bo ru B T m p) wr))
      case atStart => exact ⟨0, rfl, ⟨by omega, rfl⟩, H2⟩
      case round =>
        clear H2
        obtain ⟨p, rfl, H4, HP⟩ := hrel
        have hR20 := HRB.out.1
        by_cases hp : p < R
        · have hpl : (p : Int) < (R : Int) := by omega
          go_wp2_with fail
          go_loopg [37] m (fun k idx wr => ∃ j : Nat, idx = .int .i64 (j : Int) ∧ Hid (j ≤ m ∧ k = m - j) ∧ Hid (QW w a1 g n kb kl c1 bo ru R (roundT n bo ru (roundsT n bo ru B T m p) T j) wr))
          case atStart => exact ⟨0, rfl, ⟨by omega, rfl⟩, HP⟩
          case round =>
            clear HP
            obtain ⟨j, rfl, H5, HP⟩ := hrel
            have hm := HB.out.2.2
            have hn := HB.out.2.1
            by_cases hj : j < m
            · have hjl : (j : Int) < (m : Int) := by omega
              obtain ⟨i1, i2, gt, ot, rfl, c0, c1', c2, c3, c4, c5⟩ := (HB.out.1.only HP.out.rw.only) j hj
              clear i1 i2
              obtain ⟨t, htj⟩ : ∃ t, t = T j := ⟨_, rfl⟩
              rw [← htj] at c0 c1' c2 c3 c4 c5
              have HT : Hid (t = T j) := htj
              obtain ⟨C, hC⟩ : ∃ C, C = roundT n bo ru (roundsT n bo ru B T m p) T j := ⟨_, rfl⟩
              rw [← hC] at HP
              have HC : Hid (C = roundT n bo ru (roundsT n bo ru B T m p) T j) := hC
              clear htj hC
              go_upto_region 9 with fail
              clear c0 c1' c2 c3 c4 c5
              have H3 : Hid (QW w a1 g n kb kl c1 bo ru R C (wr.alloc (.cells #[.int .i64 (t.a), .int .i64 (t.b), .int .i64 (t.way.x), .int .i64 (t.way.y), .int .i64 (t.way.z), .int .i64 (t.deep)] 86)) ∧ TouchAt (wr.alloc (.cells #[.int .i64 (t.a), .int .i64 (t.b), .int .i64 (t.way.x), .int .i64 (t.way.y), .int .i64 (t.way.z), .int .i64 (t.deep)] 86)) wr.heap.size t ∧ ∀ q, q < n → wr.heap.size ≠ g) := ⟨HP.out.keep ((Only.refl [] wr).alloc _), (MapKept.heap_alloc wr _).1, fun q hq => by have := (HP.out.rw.there hq).2.lt; omega⟩
              clear HP
              revert H3
              generalize wr.heap.size = kt
              generalize World.alloc wr _ = wA
              intro H3
              have HA : IdxAt kl kt a1 n c1 t wA := ⟨H3.out.1.var, H3.out.2.1.off 0, H3.out.2.1.off 1⟩
              have HBD : Hid (BodiesAt wA a1 n C) := H3.out.1.rw.own.bodies
              go_cut [10, 11] from 41 to 148 (fun s10 s11 wc => ∃ ki kk, s10 = .pointer (some ⟨ki, 0, none⟩) ∧ s11 = .pointer (some ⟨kk, 0, none⟩) ∧ Kept wA wc ∧ wA.heap.size ≤ ki ∧ wA.heap.size ≤ kk ∧ ki ≠ kk ∧ wc.cell? ⟨ki, 0, none⟩ = some (.int .i64 (numX (findX C t.a n))) ∧ wc.cell? ⟨kk, 0, none⟩ = some (.int .i64 (numX (findX C t.b n))))
              case first =>
                as_aux_lemma =>
                  refine wp_region_held_drew (S := fun w' => Kept wA w' ∧ (w'.cell? ⟨kl, 0, none⟩ = some (.slice a1 n c1) ∧ w'.cell? ⟨kt, 0, none⟩ = some (.int .i64 (t.a)) ∧ w'.cell? ⟨kt, 1, none⟩ = some (.int .i64 (t.b)))) (by kernel_rfl) ?_ (fun hH0 => ?_)
                  · (try dsimp only); exact ⟨(Kept.refl _).drew, HA.step (Kept.refl _).drew⟩
                  refine wpAnyH_take (i := 0) (v := ?_) rfl (by kernel_rfl) (by kernel_rfl) (by kernel_rfl) (fun _ _ _ h => h) (Or.inl ⟨by kernel_rfl, ?_⟩) (by assumption) ?_
                  rotate_left
                  · intro w'' hSw; (try dsimp only at hSw); simp only [List.getElem_toArray, List.getElem_cons_succ, List.getElem_cons_zero]; (go_simp <;> with_reducible rfl)
                  try simp only [Act.put, List.setIfInBounds_toArray, List.set_cons_zero, List.set_cons_succ, List.getElem_toArray, List.getElem_cons_succ, List.getElem_cons_zero]
                  refine wpAnyH_take (i := 1) (v := ?_) rfl (by kernel_rfl) (by kernel_rfl) (by kernel_rfl) (fun _ _ _ h => h) (Or.inl ⟨by kernel_rfl, ?_⟩) (by assumption) ?_
                  rotate_left
                  · intro w'' hSw; (try dsimp only at hSw); simp only [List.getElem_toArray, List.getElem_cons_succ, List.getElem_cons_zero]; (go_simp <;> with_reducible rfl)
                  try simp only [Act.put, List.setIfInBounds_toArray, List.set_cons_zero, List.set_cons_succ, List.getElem_toArray, List.getElem_cons_succ, List.getElem_cons_zero]
                  refine wpAnyH_take (i := 2) (v := ?_) rfl (by kernel_rfl) (by kernel_rfl) (by kernel_rfl) (fun _ _ _ h => h) (Or.inl ⟨by kernel_rfl, ?_⟩) (by assumption) ?_
                  rotate_left
                  · intro w'' hSw; (try dsimp only at hSw); simp only [List.getElem_toArray, List.getElem_cons_succ, List.getElem_cons_zero]; (go_simp <;> with_reducible rfl)
                  try simp only [Act.put, List.setIfInBounds_toArray, List.set_cons_zero, List.set_cons_succ, List.getElem_toArray, List.getElem_cons_succ, List.getElem_cons_zero]
                  refine wpAnyH_take (i := 4) (v := ?_) rfl (by kernel_rfl) (by kernel_rfl) (by kernel_rfl) (fun _ _ _ h => h) (Or.inl ⟨by kernel_rfl, ?_⟩) (by assumption) ?_
                  rotate_left
                  · intro w'' hSw; (try dsimp only at hSw); simp only [List.getElem_toArray, List.getElem_cons_succ, List.getElem_cons_zero]; (go_simp <;> with_reducible rfl)
                  try simp only [Act.put, List.setIfInBounds_toArray, List.set_cons_zero, List.set_cons_succ, List.getElem_toArray, List.getElem_cons_succ, List.getElem_cons_zero]
                  refine wpAnyH_take (i := 5) (v := ?_) rfl (by kernel_rfl) (by kernel_rfl) (by kernel_rfl) (fun _ _ _ h => h) (Or.inl ⟨by kernel_rfl, ?_⟩) (by assumption) ?_
                  rotate_left
                  · intro w'' hSw; (try dsimp only at hSw); simp only [List.getElem_toArray, List.getElem_cons_succ, List.getElem_cons_zero]; (go_simp <;> with_reducible rfl)
                  try simp only [Act.put, List.setIfInBounds_toArray, List.set_cons_zero, List.set_cons_succ, List.getElem_toArray, List.getElem_cons_succ, List.getElem_cons_zero]
                  refine wpAnyH_take (i := 6) (v := ?_) rfl (by kernel_rfl) (by kernel_rfl) (by kernel_rfl) (fun _ _ _ h => h) (Or.inl ⟨by kernel_rfl, ?_⟩) (by assumption) ?_
                  rotate_left
                  · intro w'' hSw; (try dsimp only at hSw); simp only [List.getElem_toArray, List.getElem_cons_succ, List.getElem_cons_zero]; (go_simp <;> with_reducible rfl)
                  try simp only [Act.put, List.setIfInBounds_toArray, List.set_cons_zero, List.set_cons_succ, List.getElem_toArray, List.getElem_cons_succ, List.getElem_cons_zero]
                  refine wpAnyH_ready (rs := [3, 8, 9]) (by kernel_rfl) (by simp) ?_
                  refine AllReadyH.cons rfl (fun K hK => ?_) (AllReadyH.cons rfl (fun K hK => ?_) (AllReadyH.cons rfl (fun K hK => ?_) AllReadyH.nil))
                  · rw [if_pos (by rfl)]
                    simp only [List.getElem_toArray, List.getElem_cons_succ, List.getElem_cons_zero]
                    go_simp
                    (go_at_call 119; refine (index_calls a1 n c1 C t.a _ hn (HBD.out.only (Only.of_kept (And.left (by assumption))))).mono ?_; rintro e wc1 ⟨rfl, kc1⟩)
                    try go_wp2_with fail
                    refine hK.out _ _ ?_ (fun hH1 => ?_)
                    · exact ⟨hH0.1.trans kc1, HA.step (hH0.1.trans kc1)⟩
                    clear hK K hH0
                    try simp only [Act.put, List.setIfInBounds_toArray, List.set_cons_zero, List.set_cons_succ, List.getElem_toArray, List.getElem_cons_succ, List.getElem_cons_zero]
                    refine wpAnyH_ready (rs := [7, 8, 9]) (by kernel_rfl) (by simp) ?_
                    refine AllReadyH.cons rfl (fun K hK => ?_) (AllReadyH.cons rfl (fun K hK => ?_) (AllReadyH.cons rfl (fun K hK => ?_) AllReadyH.nil))
                    · rw [if_pos (by rfl)]
                      simp only [List.getElem_toArray, List.getElem_cons_succ, List.getElem_cons_zero]
                      go_simp
                      (go_at_call 119; refine (index_calls a1 n c1 C t.b _ hn (HBD.out.only (Only.of_kept (And.left (by assumption))))).mono ?_; rintro e wc2 ⟨rfl, kc2⟩)
                      try go_wp2_with fail
                      refine hK.out _ _ ?_ (fun hH2 => ?_)
                      · exact ⟨hH1.1.trans kc2, HA.step (hH1.1.trans kc2)⟩
                      clear hK K hH1
                      try simp only [Act.put, List.setIfInBounds_toArray, List.set_cons_zero, List.set_cons_succ, List.getElem_toArray, List.getElem_cons_succ, List.getElem_cons_zero]
                      refine wpAnyH_ready (rs := [8, 9]) (by kernel_rfl) (by simp) ?_
                      refine AllReadyH.cons rfl (fun K hK => ?_) (AllReadyH.cons rfl (fun K hK => ?_) AllReadyH.nil)
                      · rw [if_pos (by rfl)]
                        simp only [List.getElem_toArray, List.getElem_cons_succ, List.getElem_cons_zero]
                        go_simp
                        refine hK.out _ _ ?_ (fun hH3 => ?_)
                        · exact ⟨hH2.1.alloc _ _, HA.step (hH2.1.alloc _ _)⟩
                        have hp : wA.heap.size ≤ wc2.heap.size := Nat.le_trans hH2.1.below.size (Nat.le_of_eq (by simp))
                        have hP : FrT1 wA (wc2.heap.size) (wc2.alloc (.cells #[.int .i64 0] 3)) := by refine ⟨hH2.1.alloc _ _, cellV_of (v := .int .i64 0) ?_, ?_⟩ <;> go_simp
                        clear hK K hH2
                        try simp only [Act.put, List.setIfInBounds_toArray, List.set_cons_zero, List.set_cons_succ, List.getElem_toArray, List.getElem_cons_succ, List.getElem_cons_zero]
                        refine wpAnyH_ready (rs := [9]) (by kernel_rfl) (by simp) ?_
                        refine AllReadyH.cons rfl (fun K hK => ?_) AllReadyH.nil
                        rw [if_pos (by rfl)]
                        simp only [List.getElem_toArray, List.getElem_cons_succ, List.getElem_cons_zero]
                        go_simp
                        refine hK.out _ _ ?_ (fun hH4 => ?_)
                        · exact ⟨hH3.1.alloc _ _, HA.step (hH3.1.alloc _ _)⟩
                        have hq : wA.heap.size ≤ wc2.heap.size + 1 := Nat.le_trans hH3.1.below.size (Nat.le_of_eq (by simp))
                        have hlt := World.block_lt_of_cell? _ _ hP.2.1
                        simp at hlt
                        have hne : wc2.heap.size ≠ wc2.heap.size + 1 := by omega
                        clear hlt
                        replace hP := hP.step ((Kept.refl _).alloc #[.int .i64 0] 3)
                        have hQ : FrT1 wA (wc2.heap.size + 1) ((wc2.alloc (.cells #[.int .i64 0] 3)).alloc (.cells #[.int .i64 0] 3)) := by refine ⟨hH3.1.alloc _ _, cellV_of (v := .int .i64 0) ?_, ?_⟩ <;> go_simp
                        clear hK K hH3
                        try simp only [Act.put, List.setIfInBounds_toArray, List.set_cons_zero, List.set_cons_succ, List.getElem_toArray, List.getElem_cons_succ, List.getElem_cons_zero]
                        generalize ((wc2.alloc (.cells #[.int .i64 0] 3)).alloc (.cells #[.int .i64 0] 3)) = wz5 at hH4 hP hQ ⊢
                        have hP0 := hP
                        obtain ⟨_, cp0, fp0⟩ := hP0
                        have hY := hQ.past hne
                        skip
                        refine wpAnyH_ready (rs := [10]) (by kernel_rfl) (by simp) ?_
                        refine AllReadyH.cons rfl (fun K hK => ?_) AllReadyH.nil
                        rw [if_pos (by rfl)]
                        simp only [List.getElem_toArray, List.getElem_cons_succ, List.getElem_cons_zero]
                        go_simp
                        refine hK.out _ _ ?_ (fun hS1 => ?_)
                        · exact ⟨kept_set1 hH4.1 hp _, HA.step (kept_set1 hH4.1 hp _)⟩
                        clear hK K
                        try simp only [Act.put, List.setIfInBounds_toArray, List.set_cons_zero, List.set_cons_succ, List.getElem_toArray, List.getElem_cons_succ, List.getElem_cons_zero]
                        refine wpAnyH_ready (rs := [11]) (by kernel_rfl) (by simp) ?_
                        refine AllReadyH.cons rfl (fun K hK => ?_) AllReadyH.nil
                        rw [if_pos (by rfl)]
                        simp only [List.getElem_toArray, List.getElem_cons_succ, List.getElem_cons_zero]
                        go_simp
                        refine hK.out _ _ ?_ (fun hS2 => ?_)
                        · exact ⟨kept_set1 hS1.1 hq _, HA.step (kept_set1 hS1.1 hq _)⟩
                        clear hK K
                        try simp only [Act.put, List.setIfInBounds_toArray, List.set_cons_zero, List.set_cons_succ, List.getElem_toArray, List.getElem_cons_succ, List.getElem_cons_zero]
                        refine wpAnyH_done (by kernel_rfl) ?_ _
                        have hne1 := hne
                        obtain ⟨y0, y1⟩ := FrT1.two hP hQ hne (.int .i64 (numX (findX C t.a n))) (.int .i64 (numX (findX C t.b n)))
                        go_wp2_with fail
                        go_meet
                        case rel => exact ⟨_, _, rfl, rfl, hS2.1, hp, hq, hne1, y0, y1⟩
                      · rw [if_pos (by rfl)]
                        simp only [List.getElem_toArray, List.getElem_cons_succ, List.getElem_cons_zero]
                        go_simp
                        refine hK.out _ _ ?_ (fun hH6 => ?_)
                        · exact ⟨hH2.1.alloc _ _, HA.step (hH2.1.alloc _ _)⟩
                        have hq : wA.heap.size ≤ wc2.heap.size := Nat.le_trans hH2.1.below.size (Nat.le_of_eq (by simp))
                        have hQ : FrT1 wA (wc2.heap.size) (wc2.alloc (.cells #[.int .i64 0] 3)) := by refine ⟨hH2.1.alloc _ _, cellV_of (v := .int .i64 0) ?_, ?_⟩ <;> go_simp
                        clear hK K hH2
                        try simp only [Act.put, List.setIfInBounds_toArray, List.set_cons_zero, List.set_cons_succ, List.getElem_toArray, List.getElem_cons_succ, List.getElem_cons_zero]
                        refine wpAnyH_ready (rs := [8]) (by kernel_rfl) (by simp) ?_
                        refine AllReadyH.cons rfl (fun K hK => ?_) AllReadyH.nil
                        rw [if_pos (by rfl)]
                        simp only [List.getElem_toArray, List.getElem_cons_succ, List.getElem_cons_zero]
                        go_simp
                        refine hK.out _ _ ?_ (fun hH7 => ?_)
                        · exact ⟨hH6.1.alloc _ _, HA.step (hH6.1.alloc _ _)⟩
                        have hp : wA.heap.size ≤ wc2.heap.size + 1 := Nat.le_trans hH6.1.below.size (Nat.le_of_eq (by simp))
                        have hlt := World.block_lt_of_cell? _ _ hQ.2.1
                        simp at hlt
                        have hne : wc2.heap.size + 1 ≠ wc2.heap.size := by omega
                        clear hlt
                        replace hQ := hQ.step ((Kept.refl _).alloc #[.int .i64 0] 3)
                        have hP : FrT1 wA (wc2.heap.size + 1) ((wc2.alloc (.cells #[.int .i64 0] 3)).alloc (.cells #[.int .i64 0] 3)) := by refine ⟨hH6.1.alloc _ _, cellV_of (v := .int .i64 0) ?_, ?_⟩ <;> go_simp
                        clear hK K hH6
                        try simp only [Act.put, List.setIfInBounds_toArray, List.set_cons_zero, List.set_cons_succ, List.getElem_toArray, List.getElem_cons_succ, List.getElem_cons_zero]
                        generalize ((wc2.alloc (.cells #[.int .i64 0] 3)).alloc (.cells #[.int .i64 0] 3)) = wz8 at hH7 hP hQ ⊢
                        have hP0 := hP
                        obtain ⟨_, cp0, fp0⟩ := hP0
                        have hY := hQ.past hne
                        skip
                        refine wpAnyH_ready (rs := [10]) (by kernel_rfl) (by simp) ?_
                        refine AllReadyH.cons rfl (fun K hK => ?_) AllReadyH.nil
                        rw [if_pos (by rfl)]
                        simp only [List.getElem_toArray, List.getElem_cons_succ, List.getElem_cons_zero]
                        go_simp
                        refine hK.out _ _ ?_ (fun hS1 => ?_)
                        · exact ⟨kept_set1 hH7.1 hp _, HA.step (kept_set1 hH7.1 hp _)⟩
                        clear hK K
                        try simp only [Act.put, List.setIfInBounds_toArray, List.set_cons_zero, List.set_cons_succ, List.getElem_toArray, List.getElem_cons_succ, List.getElem_cons_zero]
                        refine wpAnyH_ready (rs := [11]) (by kernel_rfl) (by simp) ?_
                        refine AllReadyH.cons rfl (fun K hK => ?_) AllReadyH.nil
                        rw [if_pos (by rfl)]
                        simp only [List.getElem_toArray, List.getElem_cons_succ, List.getElem_cons_zero]
                        go_simp
                        refine hK.out _ _ ?_ (fun hS2 => ?_)
                        · exact ⟨kept_set1 hS1.1 hq _, HA.step (kept_set1 hS1.1 hq _)⟩
                        clear hK K
                        try simp only [Act.put, List.setIfInBounds_toArray, List.set_cons_zero, List.set_cons_succ, List.getElem_toArray, List.getElem_cons_succ, List.getElem_cons_zero]
                        refine wpAnyH_done (by kernel_rfl) ?_ _
                        have hne1 := hne
                        obtain ⟨y0, y1⟩ := FrT1.two hP hQ hne (.int .i64 (numX (findX C t.a n))) (.int .i64 (numX (findX C t.b n)))
                        go_wp2_with fail
                        go_meet
                        case rel => exact ⟨_, _, rfl, rfl, hS2.1, hp, hq, hne1, y0, y1⟩
                    · rw [if_pos (by rfl)]
                      simp only [List.getElem_toArray, List.getElem_cons_succ, List.getElem_cons_zero]
                      go_simp
                      refine hK.out _ _ ?_ (fun hH9 => ?_)
                      · exact ⟨hH1.1.alloc _ _, HA.step (hH1.1.alloc _ _)⟩
                      have hp : wA.heap.size ≤ wc1.heap.size := Nat.le_trans hH1.1.below.size (Nat.le_of_eq (by simp))
                      have hP : FrT1 wA (wc1.heap.size) (wc1.alloc (.cells #[.int .i64 0] 3)) := by refine ⟨hH1.1.alloc _ _, cellV_of (v := .int .i64 0) ?_, ?_⟩ <;> go_simp
                      clear hK K hH1
                      try simp only [Act.put, List.setIfInBounds_toArray, List.set_cons_zero, List.set_cons_succ, List.getElem_toArray, List.getElem_cons_succ, List.getElem_cons_zero]
                      refine wpAnyH_ready (rs := [7, 9]) (by kernel_rfl) (by simp) ?_
                      refine AllReadyH.cons rfl (fun K hK => ?_) (AllReadyH.cons rfl (fun K hK => ?_) AllReadyH.nil)
                      · rw [if_pos (by rfl)]
                        simp only [List.getElem_toArray, List.getElem_cons_succ, List.getElem_cons_zero]
                        go_simp
                        (go_at_call 119; refine (index_calls a1 n c1 C t.b _ hn (HBD.out.only (Only.of_kept (And.left (by assumption))))).mono ?_; rintro e wc10 ⟨rfl, kc10⟩)
                        try go_wp2_with fail
                        refine hK.out _ _ ?_ (fun hH10 => ?_)
                        · exact ⟨hH9.1.trans kc10, HA.step (hH9.1.trans kc10)⟩
                        replace hP := hP.step kc10
                        clear hK K hH9
                        try simp only [Act.put, List.setIfInBounds_toArray, List.set_cons_zero, List.set_cons_succ, List.getElem_toArray, List.getElem_cons_succ, List.getElem_cons_zero]
                        refine wpAnyH_ready (rs := [9]) (by kernel_rfl) (by simp) ?_
                        refine AllReadyH.cons rfl (fun K hK => ?_) AllReadyH.nil
                        rw [if_pos (by rfl)]
                        simp only [List.getElem_toArray, List.getElem_cons_succ, List.getElem_cons_zero]
                        go_simp
                        refine hK.out _ _ ?_ (fun hH11 => ?_)
                        · exact ⟨hH10.1.alloc _ _, HA.step (hH10.1.alloc _ _)⟩
                        have hq : wA.heap.size ≤ wc10.heap.size := Nat.le_trans hH10.1.below.size (Nat.le_of_eq (by simp))
                        have hlt := World.block_lt_of_cell? _ _ hP.2.1
                        simp at hlt
                        have hne : wc1.heap.size ≠ wc10.heap.size := by omega
                        clear hlt
                        replace hP := hP.step ((Kept.refl _).alloc #[.int .i64 0] 3)
                        have hQ : FrT1 wA (wc10.heap.size) (wc10.alloc (.cells #[.int .i64 0] 3)) := by refine ⟨hH10.1.alloc _ _, cellV_of (v := .int .i64 0) ?_, ?_⟩ <;> go_simp
                        clear hK K hH10
                        try simp only [Act.put, List.setIfInBounds_toArray, List.set_cons_zero, List.set_cons_succ, List.getElem_toArray, List.getElem_cons_succ, List.getElem_cons_zero]
                        generalize (wc10.alloc (.cells #[.int .i64 0] 3)) = wz12 at hH11 hP hQ ⊢
                        have hP0 := hP
                        obtain ⟨_, cp0, fp0⟩ := hP0
                        have hY := hQ.past hne
                        skip
                        refine wpAnyH_ready (rs := [10]) (by kernel_rfl) (by simp) ?_
                        refine AllReadyH.cons rfl (fun K hK => ?_) AllReadyH.nil
                        rw [if_pos (by rfl)]
                        simp only [List.getElem_toArray, List.getElem_cons_succ, List.getElem_cons_zero]
                        go_simp
                        refine hK.out _ _ ?_ (fun hS1 => ?_)
                        · exact ⟨kept_set1 hH11.1 hp _, HA.step (kept_set1 hH11.1 hp _)⟩
                        clear hK K
                        try simp only [Act.put, List.setIfInBounds_toArray, List.set_cons_zero, List.set_cons_succ, List.getElem_toArray, List.getElem_cons_succ, List.getElem_cons_zero]
                        refine wpAnyH_ready (rs := [11]) (by kernel_rfl) (by simp) ?_
                        refine AllReadyH.cons rfl (fun K hK => ?_) AllReadyH.nil
                        rw [if_pos (by rfl)]
                        simp only [List.getElem_toArray, List.getElem_cons_succ, List.getElem_cons_zero]
                        go_simp
                        refine hK.out _ _ ?_ (fun hS2 => ?_)
                        · exact ⟨kept_set1 hS1.1 hq _, HA.step (kept_set1 hS1.1 hq _)⟩
                        clear hK K
                        try simp only [Act.put, List.setIfInBounds_toArray, List.set_cons_zero, List.set_cons_succ, List.getElem_toArray, List.getElem_cons_succ, List.getElem_cons_zero]
                        refine wpAnyH_done (by kernel_rfl) ?_ _
                        have hne1 := hne
                        obtain ⟨y0, y1⟩ := FrT1.two hP hQ hne (.int .i64 (numX (findX C t.a n))) (.int .i64 (numX (findX C t.b n)))
                        go_wp2_with fail
                        go_meet
                        case rel => exact ⟨_, _, rfl, rfl, hS2.1, hp, hq, hne1, y0, y1⟩
                      · rw [if_pos (by rfl)]
                        simp only [List.getElem_toArray, List.getElem_cons_succ, List.getElem_cons_zero]
                        go_simp
                        refine hK.out _ _ ?_ (fun hH13 => ?_)
                        · exact ⟨hH9.1.alloc _ _, HA.step (hH9.1.alloc _ _)⟩
                        have hq : wA.heap.size ≤ wc1.heap.size + 1 := Nat.le_trans hH9.1.below.size (Nat.le_of_eq (by simp))
                        have hlt := World.block_lt_of_cell? _ _ hP.2.1
                        simp at hlt
                        have hne : wc1.heap.size ≠ wc1.heap.size + 1 := by omega
                        clear hlt
                        replace hP := hP.step ((Kept.refl _).alloc #[.int .i64 0] 3)
                        have hQ : FrT1 wA (wc1.heap.size + 1) ((wc1.alloc (.cells #[.int .i64 0] 3)).alloc (.cells #[.int .i64 0] 3)) := by refine ⟨hH9.1.alloc _ _, cellV_of (v := .int .i64 0) ?_, ?_⟩ <;> go_simp
                        clear hK K hH9
                        try simp only [Act.put, List.setIfInBounds_toArray, List.set_cons_zero, List.set_cons_succ, List.getElem_toArray, List.getElem_cons_succ, List.getElem_cons_zero]
                        refine wpAnyH_ready (rs := [7]) (by kernel_rfl) (by simp) ?_
                        refine AllReadyH.cons rfl (fun K hK => ?_) AllReadyH.nil
                        rw [if_pos (by rfl)]
                        simp only [List.getElem_toArray, List.getElem_cons_succ, List.getElem_cons_zero]
                        go_simp
                        (go_at_call 119; refine (index_calls a1 n c1 C t.b _ hn (HBD.out.only (Only.of_kept (And.left (by assumption))))).mono ?_; rintro e wc14 ⟨rfl, kc14⟩)
                        try go_wp2_with fail
                        refine hK.out _ _ ?_ (fun hH14 => ?_)
                        · exact ⟨hH13.1.trans kc14, HA.step (hH13.1.trans kc14)⟩
                        replace hP := hP.step kc14
                        replace hQ := hQ.step kc14
                        clear hK K hH13
                        try simp only [Act.put, List.setIfInBounds_toArray, List.set_cons_zero, List.set_cons_succ, List.getElem_toArray, List.getElem_cons_succ, List.getElem_cons_zero]
                        have hP0 := hP
                        obtain ⟨_, cp0, fp0⟩ := hP0
                        have hY := hQ.past hne
                        skip
                        refine wpAnyH_ready (rs := [10]) (by kernel_rfl) (by simp) ?_
                        refine AllReadyH.cons rfl (fun K hK => ?_) AllReadyH.nil
                        rw [if_pos (by rfl)]
                        simp only [List.getElem_toArray, List.getElem_cons_succ, List.getElem_cons_zero]
                        go_simp
                        refine hK.out _ _ ?_ (fun hS1 => ?_)
                        · exact ⟨kept_set1 hH14.1 hp _, HA.step (kept_set1 hH14.1 hp _)⟩
                        clear hK K
                        try simp only [Act.put, List.setIfInBounds_toArray, List.set_cons_zero, List.set_cons_succ, List.getElem_toArray, List.getElem_cons_succ, List.getElem_cons_zero]
                        refine wpAnyH_ready (rs := [11]) (by kernel_rfl) (by simp) ?_
                        refine AllReadyH.cons rfl (fun K hK => ?_) AllReadyH.nil
                        rw [if_pos (by rfl)]
                        simp only [List.getElem_toArray, List.getElem_cons_succ, List.getElem_cons_zero]
                        go_simp
                        refine hK.out _ _ ?_ (fun hS2 => ?_)
                        · exact ⟨kept_set1 hS1.1 hq _, HA.step (kept_set1 hS1.1 hq _)⟩
                        clear hK K
                        try simp only [Act.put, List.setIfInBounds_toArray, List.set_cons_zero, List.set_cons_succ, List.getElem_toArray, List.getElem_cons_succ, List.getElem_cons_zero]
                        refine wpAnyH_done (by kernel_rfl) ?_ _
                        have hne1 := hne
                        obtain ⟨y0, y1⟩ := FrT1.two hP hQ hne (.int .i64 (numX (findX C t.a n))) (.int .i64 (numX (findX C t.b n)))
                        go_wp2_with fail
                        go_meet
                        case rel => exact ⟨_, _, rfl, rfl, hS2.1, hp, hq, hne1, y0, y1⟩
                    · rw [if_pos (by rfl)]
                      simp only [List.getElem_toArray, List.getElem_cons_succ, List.getElem_cons_zero]
                      go_simp
                      refine hK.out _ _ ?_ (fun hH15 => ?_)
                      · exact ⟨hH1.1.alloc _ _, HA.step (hH1.1.alloc _ _)⟩
                      have hq : wA.heap.size ≤ wc1.heap.size := Nat.le_trans hH1.1.below.size (Nat.le_of_eq (by simp))
                      have hQ : FrT1 wA (wc1.heap.size) (wc1.alloc (.cells #[.int .i64 0] 3)) := by refine ⟨hH1.1.alloc _ _, cellV_of (v := .int .i64 0) ?_, ?_⟩ <;> go_simp
                      clear hK K hH1
                      try simp only [Act.put, List.setIfInBounds_toArray, List.set_cons_zero, List.set_cons_succ, List.getElem_toArray, List.getElem_cons_succ, List.getElem_cons_zero]
                      refine wpAnyH_ready (rs := [7, 8]) (by kernel_rfl) (by simp) ?_
                      refine AllReadyH.cons rfl (fun K hK => ?_) (AllReadyH.cons rfl (fun K hK => ?_) AllReadyH.nil)
                      · rw [if_pos (by rfl)]
                        simp only [List.getElem_toArray, List.getElem_cons_succ, List.getElem_cons_zero]
                        go_simp
                        (go_at_call 119; refine (index_calls a1 n c1 C t.b _ hn (HBD.out.only (Only.of_kept (And.left (by assumption))))).mono ?_; rintro e wc16 ⟨rfl, kc16⟩)
                        try go_wp2_with fail
                        refine hK.out _ _ ?_ (fun hH16 => ?_)
                        · exact ⟨hH15.1.trans kc16, HA.step (hH15.1.trans kc16)⟩
                        replace hQ := hQ.step kc16
                        clear hK K hH15
                        try simp only [Act.put, List.setIfInBounds_toArray, List.set_cons_zero, List.set_cons_succ, List.getElem_toArray, List.getElem_cons_succ, List.getElem_cons_zero]
                        refine wpAnyH_ready (rs := [8]) (by kernel_rfl) (by simp) ?_
                        refine AllReadyH.cons rfl (fun K hK => ?_) AllReadyH.nil
                        rw [if_pos (by rfl)]
                        simp only [List.getElem_toArray, List.getElem_cons_succ, List.getElem_cons_zero]
                        go_simp
                        refine hK.out _ _ ?_ (fun hH17 => ?_)
                        · exact ⟨hH16.1.alloc _ _, HA.step (hH16.1.alloc _ _)⟩
                        have hp : wA.heap.size ≤ wc16.heap.size := Nat.le_trans hH16.1.below.size (Nat.le_of_eq (by simp))
                        have hlt := World.block_lt_of_cell? _ _ hQ.2.1
                        simp at hlt
                        have hne : wc16.heap.size ≠ wc1.heap.size := by omega
                        clear hlt
                        replace hQ := hQ.step ((Kept.refl _).alloc #[.int .i64 0] 3)
                        have hP : FrT1 wA (wc16.heap.size) (wc16.alloc (.cells #[.int .i64 0] 3)) := by refine ⟨hH16.1.alloc _ _, cellV_of (v := .int .i64 0) ?_, ?_⟩ <;> go_simp
                        clear hK K hH16
                        try simp only [Act.put, List.setIfInBounds_toArray, List.set_cons_zero, List.set_cons_succ, List.getElem_toArray, List.getElem_cons_succ, List.getElem_cons_zero]
                        generalize (wc16.alloc (.cells #[.int .i64 0] 3)) = wz18 at hH17 hP hQ ⊢
                        have hP0 := hP
                        obtain ⟨_, cp0, fp0⟩ := hP0
                        have hY := hQ.past hne
                        skip
                        refine wpAnyH_ready (rs := [10]) (by kernel_rfl) (by simp) ?_
                        refine AllReadyH.cons rfl (fun K hK => ?_) AllReadyH.nil
                        rw [if_pos (by rfl)]
                        simp only [List.getElem_toArray, List.getElem_cons_succ, List.getElem_cons_zero]
                        go_simp
                        refine hK.out _ _ ?_ (fun hS1 => ?_)
                        · exact ⟨kept_set1 hH17.1 hp _, HA.step (kept_set1 hH17.1 hp _)⟩
                        clear hK K
                        try simp only [Act.put, List.setIfInBounds_toArray, List.set_cons_zero, List.set_cons_succ, List.getElem_toArray, List.getElem_cons_succ, List.getElem_cons_zero]
                        refine wpAnyH_ready (rs := [11]) (by kernel_rfl) (by simp) ?_
                        refine AllReadyH.cons rfl (fun K hK => ?_) AllReadyH.nil
                        rw [if_pos (by rfl)]
                        simp only [List.getElem_toArray, List.getElem_cons_succ, List.getElem_cons_zero]
                        go_simp
                        refine hK.out _ _ ?_ (fun hS2 => ?_)
                        · exact ⟨kept_set1 hS1.1 hq _, HA.step (kept_set1 hS1.1 hq _)⟩
                        clear hK K
                        try simp only [Act.put, List.setIfInBounds_toArray, List.set_cons_zero, List.set_cons_succ, List.getElem_toArray, List.getElem_cons_succ, List.getElem_cons_zero]
                        refine wpAnyH_done (by kernel_rfl) ?_ _
                        have hne1 := hne
                        obtain ⟨y0, y1⟩ := FrT1.two hP hQ hne (.int .i64 (numX (findX C t.a n))) (.int .i64 (numX (findX C t.b n)))
                        go_wp2_with fail
                        go_meet
                        case rel => exact ⟨_, _, rfl, rfl, hS2.1, hp, hq, hne1, y0, y1⟩
                      · rw [if_pos (by rfl)]
                        simp only [List.getElem_toArray, List.getElem_cons_succ, List.getElem_cons_zero]
                        go_simp
                        refine hK.out _ _ ?_ (fun hH19 => ?_)
                        · exact ⟨hH15.1.alloc _ _, HA.step (hH15.1.alloc _ _)⟩
                        have hp : wA.heap.size ≤ wc1.heap.size + 1 := Nat.le_trans hH15.1.below.size (Nat.le_of_eq (by simp))
                        have hlt := World.block_lt_of_cell? _ _ hQ.2.1
                        simp at hlt
                        have hne : wc1.heap.size + 1 ≠ wc1.heap.size := by omega
                        clear hlt
                        replace hQ := hQ.step ((Kept.refl _).alloc #[.int .i64 0] 3)
                        have hP : FrT1 wA (wc1.heap.size + 1) ((wc1.alloc (.cells #[.int .i64 0] 3)).alloc (.cells #[.int .i64 0] 3)) := by refine ⟨hH15.1.alloc _ _, cellV_of (v := .int .i64 0) ?_, ?_⟩ <;> go_simp
                        clear hK K hH15
                        try simp only [Act.put, List.setIfInBounds_toArray, List.set_cons_zero, List.set_cons_succ, List.getElem_toArray, List.getElem_cons_succ, List.getElem_cons_zero]
                        refine wpAnyH_ready (rs := [7]) (by kernel_rfl) (by simp) ?_
                        refine AllReadyH.cons rfl (fun K hK => ?_) AllReadyH.nil
                        rw [if_pos (by rfl)]
                        simp only [List.getElem_toArray, List.getElem_cons_succ, List.getElem_cons_zero]
                        go_simp
                        (go_at_call 119; refine (index_calls a1 n c1 C t.b _ hn (HBD.out.only (Only.of_kept (And.left (by assumption))))).mono ?_; rintro e wc20 ⟨rfl, kc20⟩)
                        try go_wp2_with fail
                        refine hK.out _ _ ?_ (fun hH20 => ?_)
                        · exact ⟨hH19.1.trans kc20, HA.step (hH19.1.trans kc20)⟩
                        replace hP := hP.step kc20
                        replace hQ := hQ.step kc20
                        clear hK K hH19
                        try simp only [Act.put, List.setIfInBounds_toArray, List.set_cons_zero, List.set_cons_succ, List.getElem_toArray, List.getElem_cons_succ, List.getElem_cons_zero]
                        have hP0 := hP
                        obtain ⟨_, cp0, fp0⟩ := hP0
                        have hY := hQ.past hne
                        skip
                        refine wpAnyH_ready (rs := [10]) (by kernel_rfl) (by simp) ?_
                        refine AllReadyH.cons rfl (fun K hK => ?_) AllReadyH.nil
                        rw [if_pos (by rfl)]
                        simp only [List.getElem_toArray, List.getElem_cons_succ, List.getElem_cons_zero]
                        go_simp
                        refine hK.out _ _ ?_ (fun hS1 => ?_)
                        · exact ⟨kept_set1 hH20.1 hp _, HA.step (kept_set1 hH20.1 hp _)⟩
                        clear hK K
                        try simp only [Act.put, List.setIfInBounds_toArray, List.set_cons_zero, List.set_cons_succ, List.getElem_toArray, List.getElem_cons_succ, List.getElem_cons_zero]
                        refine wpAnyH_ready (rs := [11]) (by kernel_rfl) (by simp) ?_
                        refine AllReadyH.cons rfl (fun K hK => ?_) AllReadyH.nil
                        rw [if_pos (by rfl)]
                        simp only [List.getElem_toArray, List.getElem_cons_succ, List.getElem_cons_zero]
                        go_simp
                        refine hK.out _ _ ?_ (fun hS2 => ?_)
                        · exact ⟨kept_set1 hS1.1 hq _, HA.step (kept_set1 hS1.1 hq _)⟩
                        clear hK K
                        try simp only [Act.put, List.setIfInBounds_toArray, List.set_cons_zero, List.set_cons_succ, List.getElem_toArray, List.getElem_cons_succ, List.getElem_cons_zero]
                        refine wpAnyH_done (by kernel_rfl) ?_ _
                        have hne1 := hne
                        obtain ⟨y0, y1⟩ := FrT1.two hP hQ hne (.int .i64 (numX (findX C t.a n))) (.int .i64 (numX (findX C t.b n)))
                        go_wp2_with fail
                        go_meet
                        case rel => exact ⟨_, _, rfl, rfl, hS2.1, hp, hq, hne1, y0, y1⟩
                  · rw [if_pos (by rfl)]
                    simp only [List.getElem_toArray, List.getElem_cons_succ, List.getElem_cons_zero]
                    go_simp
                    refine hK.out _ _ ?_ (fun hH21 => ?_)
                    · exact ⟨hH0.1.alloc _ _, HA.step (hH0.1.alloc _ _)⟩
                    have hp : wA.heap.size ≤ wA.heap.size := Nat.le_trans hH0.1.below.size (Nat.le_of_eq (by simp))
                    have hP : FrT1 wA (wA.heap.size) (wA.drew.alloc (.cells #[.int .i64 0] 3)) := by refine ⟨hH0.1.alloc _ _, cellV_of (v := .int .i64 0) ?_, ?_⟩ <;> go_simp
                    clear hK K hH0
                    try simp only [Act.put, List.setIfInBounds_toArray, List.set_cons_zero, List.set_cons_succ, List.getElem_toArray, List.getElem_cons_succ, List.getElem_cons_zero]
                    refine wpAnyH_ready (rs := [3, 9]) (by kernel_rfl) (by simp) ?_
                    refine AllReadyH.cons rfl (fun K hK => ?_) (AllReadyH.cons rfl (fun K hK => ?_) AllReadyH.nil)
                    · rw [if_pos (by rfl)]
                      simp only [List.getElem_toArray, List.getElem_cons_succ, List.getElem_cons_zero]
                      go_simp
                      (go_at_call 119; refine (index_calls a1 n c1 C t.a _ hn (HBD.out.only (Only.of_kept (And.left (by assumption))))).mono ?_; rintro e wc22 ⟨rfl, kc22⟩)
                      try go_wp2_with fail
                      refine hK.out _ _ ?_ (fun hH22 => ?_)
                      · exact ⟨hH21.1.trans kc22, HA.step (hH21.1.trans kc22)⟩
                      replace hP := hP.step kc22
                      clear hK K hH21
                      try simp only [Act.put, List.setIfInBounds_toArray, List.set_cons_zero, List.set_cons_succ, List.getElem_toArray, List.getElem_cons_succ, List.getElem_cons_zero]
                      refine wpAnyH_ready (rs := [7, 9]) (by kernel_rfl) (by simp) ?_
                      refine AllReadyH.cons rfl (fun K hK => ?_) (AllReadyH.cons rfl (fun K hK => ?_) AllReadyH.nil)
                      · rw [if_pos (by rfl)]
                        simp only [List.getElem_toArray, List.getElem_cons_succ, List.getElem_cons_zero]
                        go_simp
                        (go_at_call 119; refine (index_calls a1 n c1 C t.b _ hn (HBD.out.only (Only.of_kept (And.left (by assumption))))).mono ?_; rintro e wc23 ⟨rfl, kc23⟩)
                        try go_wp2_with fail
                        refine hK.out _ _ ?_ (fun hH23 => ?_)
                        · exact ⟨hH22.1.trans kc23, HA.step (hH22.1.trans kc23)⟩
                        replace hP := hP.step kc23
                        clear hK K hH22
                        try simp only [Act.put, List.setIfInBounds_toArray, List.set_cons_zero, List.set_cons_succ, List.getElem_toArray, List.getElem_cons_succ, List.getElem_cons_zero]
                        refine wpAnyH_ready (rs := [9]) (by kernel_rfl) (by simp) ?_
                        refine AllReadyH.cons rfl (fun K hK => ?_) AllReadyH.nil
                        rw [if_pos (by rfl)]
                        simp only [List.getElem_toArray, List.getElem_cons_succ, List.getElem_cons_zero]
                        go_simp
                        refine hK.out _ _ ?_ (fun hH24 => ?_)
                        · exact ⟨hH23.1.alloc _ _, HA.step (hH23.1.alloc _ _)⟩
                        have hq : wA.heap.size ≤ wc23.heap.size := Nat.le_trans hH23.1.below.size (Nat.le_of_eq (by simp))
                        have hlt := World.block_lt_of_cell? _ _ hP.2.1
                        simp at hlt
                        have hne : wA.heap.size ≠ wc23.heap.size := by omega
                        clear hlt
                        replace hP := hP.step ((Kept.refl _).alloc #[.int .i64 0] 3)
                        have hQ : FrT1 wA (wc23.heap.size) (wc23.alloc (.cells #[.int .i64 0] 3)) := by refine ⟨hH23.1.alloc _ _, cellV_of (v := .int .i64 0) ?_, ?_⟩ <;> go_simp
                        clear hK K hH23
                        try simp only [Act.put, List.setIfInBounds_toArray, List.set_cons_zero, List.set_cons_succ, List.getElem_toArray, List.getElem_cons_succ, List.getElem_cons_zero]
                        generalize (wc23.alloc (.cells #[.int .i64 0] 3)) = wz25 at hH24 hP hQ ⊢
                        have hP0 := hP
                        obtain ⟨_, cp0, fp0⟩ := hP0
                        have hY := hQ.past hne
                        skip
                        refine wpAnyH_ready (rs := [10]) (by kernel_rfl) (by simp) ?_
                        refine AllReadyH.cons rfl (fun K hK => ?_) AllReadyH.nil
                        rw [if_pos (by rfl)]
                        simp only [List.getElem_toArray, List.getElem_cons_succ, List.getElem_cons_zero]
                        go_simp
                        refine hK.out _ _ ?_ (fun hS1 => ?_)
                        · exact ⟨kept_set1 hH24.1 hp _, HA.step (kept_set1 hH24.1 hp _)⟩
                        clear hK K
                        try simp only [Act.put, List.setIfInBounds_toArray, List.set_cons_zero, List.set_cons_succ, List.getElem_toArray, List.getElem_cons_succ, List.getElem_cons_zero]
                        refine wpAnyH_ready (rs := [11]) (by kernel_rfl) (by simp) ?_
                        refine AllReadyH.cons rfl (fun K hK => ?_) AllReadyH.nil
                        rw [if_pos (by rfl)]
                        simp only [List.getElem_toArray, List.getElem_cons_succ, List.getElem_cons_zero]
                        go_simp
                        refine hK.out _ _ ?_ (fun hS2 => ?_)
                        · exact ⟨kept_set1 hS1.1 hq _, HA.step (kept_set1 hS1.1 hq _)⟩
                        clear hK K
                        try simp only [Act.put, List.setIfInBounds_toArray, List.set_cons_zero, List.set_cons_succ, List.getElem_toArray, List.getElem_cons_succ, List.getElem_cons_zero]
                        refine wpAnyH_done (by kernel_rfl) ?_ _
                        have hne1 := hne
                        obtain ⟨y0, y1⟩ := FrT1.two hP hQ hne (.int .i64 (numX (findX C t.a n))) (.int .i64 (numX (findX C t.b n)))
                        go_wp2_with fail
                        go_meet
                        case rel => exact ⟨_, _, rfl, rfl, hS2.1, hp, hq, hne1, y0, y1⟩
                      · rw [if_pos (by rfl)]
                        simp only [List.getElem_toArray, List.getElem_cons_succ, List.getElem_cons_zero]
                        go_simp
                        refine hK.out _ _ ?_ (fun hH26 => ?_)
                        · exact ⟨hH22.1.alloc _ _, HA.step (hH22.1.alloc _ _)⟩
                        have hq : wA.heap.size ≤ wc22.heap.size := Nat.le_trans hH22.1.below.size (Nat.le_of_eq (by simp))
                        have hlt := World.block_lt_of_cell? _ _ hP.2.1
                        simp at hlt
                        have hne : wA.heap.size ≠ wc22.heap.size := by omega
                        clear hlt
                        replace hP := hP.step ((Kept.refl _).alloc #[.int .i64 0] 3)
                        have hQ : FrT1 wA (wc22.heap.size) (wc22.alloc (.cells #[.int .i64 0] 3)) := by refine ⟨hH22.1.alloc _ _, cellV_of (v := .int .i64 0) ?_, ?_⟩ <;> go_simp
                        clear hK K hH22
                        try simp only [Act.put, List.setIfInBounds_toArray, List.set_cons_zero, List.set_cons_succ, List.getElem_toArray, List.getElem_cons_succ, List.getElem_cons_zero]
                        refine wpAnyH_ready (rs := [7]) (by kernel_rfl) (by simp) ?_
                        refine AllReadyH.cons rfl (fun K hK => ?_) AllReadyH.nil
                        rw [if_pos (by rfl)]
                        simp only [List.getElem_toArray, List.getElem_cons_succ, List.getElem_cons_zero]
                        go_simp
                        (go_at_call 119; refine (index_calls a1 n c1 C t.b _ hn (HBD.out.only (Only.of_kept (And.left (by assumption))))).mono ?_; rintro e wc27 ⟨rfl, kc27⟩)
                        try go_wp2_with fail
                        refine hK.out _ _ ?_ (fun hH27 => ?_)
                        · exact ⟨hH26.1.trans kc27, HA.step (hH26.1.trans kc27)⟩
                        replace hP := hP.step kc27
                        replace hQ := hQ.step kc27
                        clear hK K hH26
                        try simp only [Act.put, List.setIfInBounds_toArray, List.set_cons_zero, List.set_cons_succ, List.getElem_toArray, List.getElem_cons_succ, List.getElem_cons_zero]
                        have hP0 := hP
                        obtain ⟨_, cp0, fp0⟩ := hP0
                        have hY := hQ.past hne
                        skip
                        refine wpAnyH_ready (rs := [10]) (by kernel_rfl) (by simp) ?_
                        refine AllReadyH.cons rfl (fun K hK => ?_) AllReadyH.nil
                        rw [if_pos (by rfl)]
                        simp only [List.getElem_toArray, List.getElem_cons_succ, List.getElem_cons_zero]
                        go_simp
                        refine hK.out _ _ ?_ (fun hS1 => ?_)
                        · exact ⟨kept_set1 hH27.1 hp _, HA.step (kept_set1 hH27.1 hp _)⟩
                        clear hK K
                        try simp only [Act.put, List.setIfInBounds_toArray, List.set_cons_zero, List.set_cons_succ, List.getElem_toArray, List.getElem_cons_succ, List.getElem_cons_zero]
                        refine wpAnyH_ready (rs := [11]) (by kernel_rfl) (by simp) ?_
                        refine AllReadyH.cons rfl (fun K hK => ?_) AllReadyH.nil
                        rw [if_pos (by rfl)]
                        simp only [List.getElem_toArray, List.getElem_cons_succ, List.getElem_cons_zero]
                        go_simp
                        refine hK.out _ _ ?_ (fun hS2 => ?_)
                        · exact ⟨kept_set1 hS1.1 hq _, HA.step (kept_set1 hS1.1 hq _)⟩
                        clear hK K
                        try simp only [Act.put, List.setIfInBounds_toArray, List.set_cons_zero, List.set_cons_succ, List.getElem_toArray, List.getElem_cons_succ, List.getElem_cons_zero]
                        refine wpAnyH_done (by kernel_rfl) ?_ _
                        have hne1 := hne
                        obtain ⟨y0, y1⟩ := FrT1.two hP hQ hne (.int .i64 (numX (findX C t.a n))) (.int .i64 (numX (findX C t.b n)))
                        go_wp2_with fail
                        go_meet
                        case rel => exact ⟨_, _, rfl, rfl, hS2.1, hp, hq, hne1, y0, y1⟩
                    · rw [if_pos (by rfl)]
                      simp only [List.getElem_toArray, List.getElem_cons_succ, List.getElem_cons_zero]
                      go_simp
                      refine hK.out _ _ ?_ (fun hH28 => ?_)
                      · exact ⟨hH21.1.alloc _ _, HA.step (hH21.1.alloc _ _)⟩
                      have hq : wA.heap.size ≤ wA.heap.size + 1 := Nat.le_trans hH21.1.below.size (Nat.le_of_eq (by simp))
                      have hlt := World.block_lt_of_cell? _ _ hP.2.1
                      simp at hlt
                      have hne : wA.heap.size ≠ wA.heap.size + 1 := by omega
                      clear hlt
                      replace hP := hP.step ((Kept.refl _).alloc #[.int .i64 0] 3)
                      have hQ : FrT1 wA (wA.heap.size + 1) ((wA.drew.alloc (.cells #[.int .i64 0] 3)).alloc (.cells #[.int .i64 0] 3)) := by refine ⟨hH21.1.alloc _ _, cellV_of (v := .int .i64 0) ?_, ?_⟩ <;> go_simp
                      clear hK K hH21
                      try simp only [Act.put, List.setIfInBounds_toArray, List.set_cons_zero, List.set_cons_succ, List.getElem_toArray, List.getElem_cons_succ, List.getElem_cons_zero]
                      refine wpAnyH_ready (rs := [3]) (by kernel_rfl) (by simp) ?_
                      refine AllReadyH.cons rfl (fun K hK => ?_) AllReadyH.nil
                      rw [if_pos (by rfl)]
                      simp only [List.getElem_toArray, List.getElem_cons_succ, List.getElem_cons_zero]
                      go_simp
                      (go_at_call 119; refine (index_calls a1 n c1 C t.a _ hn (HBD.out.only (Only.of_kept (And.left (by assumption))))).mono ?_; rintro e wc29 ⟨rfl, kc29⟩)
                      try go_wp2_with fail
                      refine hK.out _ _ ?_ (fun hH29 => ?_)
                      · exact ⟨hH28.1.trans kc29, HA.step (hH28.1.trans kc29)⟩
                      replace hP := hP.step kc29
                      replace hQ := hQ.step kc29
                      clear hK K hH28
                      try simp only [Act.put, List.setIfInBounds_toArray, List.set_cons_zero, List.set_cons_succ, List.getElem_toArray, List.getElem_cons_succ, List.getElem_cons_zero]
                      refine wpAnyH_ready (rs := [7]) (by kernel_rfl) (by simp) ?_
                      refine AllReadyH.cons rfl (fun K hK => ?_) AllReadyH.nil
                      rw [if_pos (by rfl)]
                      simp only [List.getElem_toArray, List.getElem_cons_succ, List.getElem_cons_zero]
                      go_simp
                      (go_at_call 119; refine (index_calls a1 n c1 C t.b _ hn (HBD.out.only (Only.of_kept (And.left (by assumption))))).mono ?_; rintro e wc30 ⟨rfl, kc30⟩)
                      try go_wp2_with fail
                      refine hK.out _ _ ?_ (fun hH30 => ?_)
                      · exact ⟨hH29.1.trans kc30, HA.step (hH29.1.trans kc30)⟩
                      replace hP := hP.step kc30
                      replace hQ := hQ.step kc30
                      clear hK K hH29
                      try simp only [Act.put, List.setIfInBounds_toArray, List.set_cons_zero, List.set_cons_succ, List.getElem_toArray, List.getElem_cons_succ, List.getElem_cons_zero]
                      have hP0 := hP
                      obtain ⟨_, cp0, fp0⟩ := hP0
                      have hY := hQ.past hne
                      skip
                      refine wpAnyH_ready (rs := [10]) (by kernel_rfl) (by simp) ?_
                      refine AllReadyH.cons rfl (fun K hK => ?_) AllReadyH.nil
                      rw [if_pos (by rfl)]
                      simp only [List.getElem_toArray, List.getElem_cons_succ, List.getElem_cons_zero]
                      go_simp
                      refine hK.out _ _ ?_ (fun hS1 => ?_)
                      · exact ⟨kept_set1 hH30.1 hp _, HA.step (kept_set1 hH30.1 hp _)⟩
                      clear hK K
                      try simp only [Act.put, List.setIfInBounds_toArray, List.set_cons_zero, List.set_cons_succ, List.getElem_toArray, List.getElem_cons_succ, List.getElem_cons_zero]
                      refine wpAnyH_ready (rs := [11]) (by kernel_rfl) (by simp) ?_
                      refine AllReadyH.cons rfl (fun K hK => ?_) AllReadyH.nil
                      rw [if_pos (by rfl)]
                      simp only [List.getElem_toArray, List.getElem_cons_succ, List.getElem_cons_zero]
                      go_simp
                      refine hK.out _ _ ?_ (fun hS2 => ?_)
                      · exact ⟨kept_set1 hS1.1 hq _, HA.step (kept_set1 hS1.1 hq _)⟩
                      clear hK K
                      try simp only [Act.put, List.setIfInBounds_toArray, List.set_cons_zero, List.set_cons_succ, List.getElem_toArray, List.getElem_cons_succ, List.getElem_cons_zero]
                      refine wpAnyH_done (by kernel_rfl) ?_ _
                      have hne1 := hne
                      obtain ⟨y0, y1⟩ := FrT1.two hP hQ hne (.int .i64 (numX (findX C t.a n))) (.int .i64 (numX (findX C t.b n)))
                      go_wp2_with fail
                      go_meet
                      case rel => exact ⟨_, _, rfl, rfl, hS2.1, hp, hq, hne1, y0, y1⟩
                  · rw [if_pos (by rfl)]
                    simp only [List.getElem_toArray, List.getElem_cons_succ, List.getElem_cons_zero]
                    go_simp
                    refine hK.out _ _ ?_ (fun hH31 => ?_)
                    · exact ⟨hH0.1.alloc _ _, HA.step (hH0.1.alloc _ _)⟩
                    have hq : wA.heap.size ≤ wA.heap.size := Nat.le_trans hH0.1.below.size (Nat.le_of_eq (by simp))
                    have hQ : FrT1 wA (wA.heap.size) (wA.drew.alloc (.cells #[.int .i64 0] 3)) := by refine ⟨hH0.1.alloc _ _, cellV_of (v := .int .i64 0) ?_, ?_⟩ <;> go_simp
                    clear hK K hH0
                    try simp only [Act.put, List.setIfInBounds_toArray, List.set_cons_zero, List.set_cons_succ, List.getElem_toArray, List.getElem_cons_succ, List.getElem_cons_zero]
                    refine wpAnyH_ready (rs := [3, 8]) (by kernel_rfl) (by simp) ?_
                    refine AllReadyH.cons rfl (fun K hK => ?_) (AllReadyH.cons rfl (fun K hK => ?_) AllReadyH.nil)
                    · rw [if_pos (by rfl)]
                      simp only [List.getElem_toArray, List.getElem_cons_succ, List.getElem_cons_zero]
                      go_simp
                      (go_at_call 119; refine (index_calls a1 n c1 C t.a _ hn (HBD.out.only (Only.of_kept (And.left (by assumption))))).mono ?_; rintro e wc32 ⟨rfl, kc32⟩)
                      try go_wp2_with fail
                      refine hK.out _ _ ?_ (fun hH32 => ?_)
                      · exact ⟨hH31.1.trans kc32, HA.step (hH31.1.trans kc32)⟩
                      replace hQ := hQ.step kc32
                      clear hK K hH31
                      try simp only [Act.put, List.setIfInBounds_toArray, List.set_cons_zero, List.set_cons_succ, List.getElem_toArray, List.getElem_cons_succ, List.getElem_cons_zero]
                      refine wpAnyH_ready (rs := [7, 8]) (by kernel_rfl) (by simp) ?_
                      refine AllReadyH.cons rfl (fun K hK => ?_) (AllReadyH.cons rfl (fun K hK => ?_) AllReadyH.nil)
                      · rw [if_pos (by rfl)]
                        simp only [List.getElem_toArray, List.getElem_cons_succ, List.getElem_cons_zero]
                        go_simp
                        (go_at_call 119; refine (index_calls a1 n c1 C t.b _ hn (HBD.out.only (Only.of_kept (And.left (by assumption))))).mono ?_; rintro e wc33 ⟨rfl, kc33⟩)
                        try go_wp2_with fail
                        refine hK.out _ _ ?_ (fun hH33 => ?_)
                        · exact ⟨hH32.1.trans kc33, HA.step (hH32.1.trans kc33)⟩
                        replace hQ := hQ.step kc33
                        clear hK K hH32
                        try simp only [Act.put, List.setIfInBounds_toArray, List.set_cons_zero, List.set_cons_succ, List.getElem_toArray, List.getElem_cons_succ, List.getElem_cons_zero]
                        refine wpAnyH_ready (rs := [8]) (by kernel_rfl) (by simp) ?_
                        refine AllReadyH.cons rfl (fun K hK => ?_) AllReadyH.nil
                        rw [if_pos (by rfl)]
                        simp only [List.getElem_toArray, List.getElem_cons_succ, List.getElem_cons_zero]
                        go_simp
                        refine hK.out _ _ ?_ (fun hH34 => ?_)
                        · exact ⟨hH33.1.alloc _ _, HA.step (hH33.1.alloc _ _)⟩
                        have hp : wA.heap.size ≤ wc33.heap.size := Nat.le_trans hH33.1.below.size (Nat.le_of_eq (by simp))
                        have hlt := World.block_lt_of_cell? _ _ hQ.2.1
                        simp at hlt
                        have hne : wc33.heap.size ≠ wA.heap.size := by omega
                        clear hlt
                        replace hQ := hQ.step ((Kept.refl _).alloc #[.int .i64 0] 3)
                        have hP : FrT1 wA (wc33.heap.size) (wc33.alloc (.cells #[.int .i64 0] 3)) := by refine ⟨hH33.1.alloc _ _, cellV_of (v := .int .i64 0) ?_, ?_⟩ <;> go_simp
                        clear hK K hH33
                        try simp only [Act.put, List.setIfInBounds_toArray, List.set_cons_zero, List.set_cons_succ, List.getElem_toArray, List.getElem_cons_succ, List.getElem_cons_zero]
                        generalize (wc33.alloc (.cells #[.int .i64 0] 3)) = wz35 at hH34 hP hQ ⊢
                        have hP0 := hP
                        obtain ⟨_, cp0, fp0⟩ := hP0
                        have hY := hQ.past hne
                        skip
                        refine wpAnyH_ready (rs := [10]) (by kernel_rfl) (by simp) ?_
                        refine AllReadyH.cons rfl (fun K hK => ?_) AllReadyH.nil
                        rw [if_pos (by rfl)]
                        simp only [List.getElem_toArray, List.getElem_cons_succ, List.getElem_cons_zero]
                        go_simp
                        refine hK.out _ _ ?_ (fun hS1 => ?_)
                        · exact ⟨kept_set1 hH34.1 hp _, HA.step (kept_set1 hH34.1 hp _)⟩
                        clear hK K
                        try simp only [Act.put, List.setIfInBounds_toArray, List.set_cons_zero, List.set_cons_succ, List.getElem_toArray, List.getElem_cons_succ, List.getElem_cons_zero]
                        refine wpAnyH_ready (rs := [11]) (by kernel_rfl) (by simp) ?_
                        refine AllReadyH.cons rfl (fun K hK => ?_) AllReadyH.nil
                        rw [if_pos (by rfl)]
                        simp only [List.getElem_toArray, List.getElem_cons_succ, List.getElem_cons_zero]
                        go_simp
                        refine hK.out _ _ ?_ (fun hS2 => ?_)
                        · exact ⟨kept_set1 hS1.1 hq _, HA.step (kept_set1 hS1.1 hq _)⟩
                        clear hK K
                        try simp only [Act.put, List.setIfInBounds_toArray, List.set_cons_zero, List.set_cons_succ, List.getElem_toArray, List.getElem_cons_succ, List.getElem_cons_zero]
                        refine wpAnyH_done (by kernel_rfl) ?_ _
                        have hne1 := hne
                        obtain ⟨y0, y1⟩ := FrT1.two hP hQ hne (.int .i64 (numX (findX C t.a n))) (.int .i64 (numX (findX C t.b n)))
                        go_wp2_with fail
                        go_meet
                        case rel => exact ⟨_, _, rfl, rfl, hS2.1, hp, hq, hne1, y0, y1⟩
                      · rw [if_pos (by rfl)]
                        simp only [List.getElem_toArray, List.getElem_cons_succ, List.getElem_cons_zero]
                        go_simp
                        refine hK.out _ _ ?_ (fun hH36 => ?_)
                        · exact ⟨hH32.1.alloc _ _, HA.step (hH32.1.alloc _ _)⟩
                        have hp : wA.heap.size ≤ wc32.heap.size := Nat.le_trans hH32.1.below.size (Nat.le_of_eq (by simp))
                        have hlt := World.block_lt_of_cell? _ _ hQ.2.1
                        simp at hlt
                        have hne : wc32.heap.size ≠ wA.heap.size := by omega
                        clear hlt
                        replace hQ := hQ.step ((Kept.refl _).alloc #[.int .i64 0] 3)
                        have hP : FrT1 wA (wc32.heap.size) (wc32.alloc (.cells #[.int .i64 0] 3)) := by refine ⟨hH32.1.alloc _ _, cellV_of (v := .int .i64 0) ?_, ?_⟩ <;> go_simp
                        clear hK K hH32
                        try simp only [Act.put, List.setIfInBounds_toArray, List.set_cons_zero, List.set_cons_succ, List.getElem_toArray, List.getElem_cons_succ, List.getElem_cons_zero]
                        refine wpAnyH_ready (rs := [7]) (by kernel_rfl) (by simp) ?_
                        refine AllReadyH.cons rfl (fun K hK => ?_) AllReadyH.nil
                        rw [if_pos (by rfl)]
                        simp only [List.getElem_toArray, List.getElem_cons_succ, List.getElem_cons_zero]
                        go_simp
                        (go_at_call 119; refine (index_calls a1 n c1 C t.b _ hn (HBD.out.only (Only.of_kept (And.left (by assumption))))).mono ?_; rintro e wc37 ⟨rfl, kc37⟩)
                        try go_wp2_with fail
                        refine hK.out _ _ ?_ (fun hH37 => ?_)
                        · exact ⟨hH36.1.trans kc37, HA.step (hH36.1.trans kc37)⟩
                        replace hP := hP.step kc37
                        replace hQ := hQ.step kc37
                        clear hK K hH36
                        try simp only [Act.put, List.setIfInBounds_toArray, List.set_cons_zero, List.set_cons_succ, List.getElem_toArray, List.getElem_cons_succ, List.getElem_cons_zero]
                        have hP0 := hP
                        obtain ⟨_, cp0, fp0⟩ := hP0
                        have hY := hQ.past hne
                        skip
                        refine wpAnyH_ready (rs := [10]) (by kernel_rfl) (by simp) ?_
                        refine AllReadyH.cons rfl (fun K hK => ?_) AllReadyH.nil
                        rw [if_pos (by rfl)]
                        simp only [List.getElem_toArray, List.getElem_cons_succ, List.getElem_cons_zero]
                        go_simp
                        refine hK.out _ _ ?_ (fun hS1 => ?_)
                        · exact ⟨kept_set1 hH37.1 hp _, HA.step (kept_set1 hH37.1 hp _)⟩
                        clear hK K
                        try simp only [Act.put, List.setIfInBounds_toArray, List.set_cons_zero, List.set_cons_succ, List.getElem_toArray, List.getElem_cons_succ, List.getElem_cons_zero]
                        refine wpAnyH_ready (rs := [11]) (by kernel_rfl) (by simp) ?_
                        refine AllReadyH.cons rfl (fun K hK => ?_) AllReadyH.nil
                        rw [if_pos (by rfl)]
                        simp only [List.getElem_toArray, List.getElem_cons_succ, List.getElem_cons_zero]
                        go_simp
                        refine hK.out _ _ ?_ (fun hS2 => ?_)
                        · exact ⟨kept_set1 hS1.1 hq _, HA.step (kept_set1 hS1.1 hq _)⟩
                        clear hK K
                        try simp only [Act.put, List.setIfInBounds_toArray, List.set_cons_zero, List.set_cons_succ, List.getElem_toArray, List.getElem_cons_succ, List.getElem_cons_zero]
                        refine wpAnyH_done (by kernel_rfl) ?_ _
                        have hne1 := hne
                        obtain ⟨y0, y1⟩ := FrT1.two hP hQ hne (.int .i64 (numX (findX C t.a n))) (.int .i64 (numX (findX C t.b n)))
                        go_wp2_with fail
                        go_meet
                        case rel => exact ⟨_, _, rfl, rfl, hS2.1, hp, hq, hne1, y0, y1⟩
                    · rw [if_pos (by rfl)]
                      simp only [List.getElem_toArray, List.getElem_cons_succ, List.getElem_cons_zero]
                      go_simp
                      refine hK.out _ _ ?_ (fun hH38 => ?_)
                      · exact ⟨hH31.1.alloc _ _, HA.step (hH31.1.alloc _ _)⟩
                      have hp : wA.heap.size ≤ wA.heap.size + 1 := Nat.le_trans hH31.1.below.size (Nat.le_of_eq (by simp))
                      have hlt := World.block_lt_of_cell? _ _ hQ.2.1
                      simp at hlt
                      have hne : wA.heap.size + 1 ≠ wA.heap.size := by omega
                      clear hlt
                      replace hQ := hQ.step ((Kept.refl _).alloc #[.int .i64 0] 3)
                      have hP : FrT1 wA (wA.heap.size + 1) ((wA.drew.alloc (.cells #[.int .i64 0] 3)).alloc (.cells #[.int .i64 0] 3)) := by refine ⟨hH31.1.alloc _ _, cellV_of (v := .int .i64 0) ?_, ?_⟩ <;> go_simp
                      clear hK K hH31
                      try simp only [Act.put, List.setIfInBounds_toArray, List.set_cons_zero, List.set_cons_succ, List.getElem_toArray, List.getElem_cons_succ, List.getElem_cons_zero]
                      refine wpAnyH_ready (rs := [3]) (by kernel_rfl) (by simp) ?_
                      refine AllReadyH.cons rfl (fun K hK => ?_) AllReadyH.nil
                      rw [if_pos (by rfl)]
                      simp only [List.getElem_toArray, List.getElem_cons_succ, List.getElem_cons_zero]
                      go_simp
                      (go_at_call 119; refine (index_calls a1 n c1 C t.a _ hn (HBD.out.only (Only.of_kept (And.left (by assumption))))).mono ?_; rintro e wc39 ⟨rfl, kc39⟩)
                      try go_wp2_with fail
                      refine hK.out _ _ ?_ (fun hH39 => ?_)
                      · exact ⟨hH38.1.trans kc39, HA.step (hH38.1.trans kc39)⟩
                      replace hP := hP.step kc39
                      replace hQ := hQ.step kc39
                      clear hK K hH38
                      try simp only [Act.put, List.setIfInBounds_toArray, List.set_cons_zero, List.set_cons_succ, List.getElem_toArray, List.getElem_cons_succ, List.getElem_cons_zero]
                      refine wpAnyH_ready (rs := [7]) (by kernel_rfl) (by simp) ?_
                      refine AllReadyH.cons rfl (fun K hK => ?_) AllReadyH.nil
                      rw [if_pos (by rfl)]
                      simp only [List.getElem_toArray, List.getElem_cons_succ, List.getElem_cons_zero]
                      go_simp
                      (go_at_call 119; refine (index_calls a1 n c1 C t.b _ hn (HBD.out.only (Only.of_kept (And.left (by assumption))))).mono ?_; rintro e wc40 ⟨rfl, kc40⟩)
                      try go_wp2_with fail
                      refine hK.out _ _ ?_ (fun hH40 => ?_)
                      · exact ⟨hH39.1.trans kc40, HA.step (hH39.1.trans kc40)⟩
                      replace hP := hP.step kc40
                      replace hQ := hQ.step kc40
                      clear hK K hH39
                      try simp only [Act.put, List.setIfInBounds_toArray, List.set_cons_zero, List.set_cons_succ, List.getElem_toArray, List.getElem_cons_succ, List.getElem_cons_zero]
                      have hP0 := hP
                      obtain ⟨_, cp0, fp0⟩ := hP0
                      have hY := hQ.past hne
                      skip
                      refine wpAnyH_ready (rs := [10]) (by kernel_rfl) (by simp) ?_
                      refine AllReadyH.cons rfl (fun K hK => ?_) AllReadyH.nil
                      rw [if_pos (by rfl)]
                      simp only [List.getElem_toArray, List.getElem_cons_succ, List.getElem_cons_zero]
                      go_simp
                      refine hK.out _ _ ?_ (fun hS1 => ?_)
                      · exact ⟨kept_set1 hH40.1 hp _, HA.step (kept_set1 hH40.1 hp _)⟩
                      clear hK K
                      try simp only [Act.put, List.setIfInBounds_toArray, List.set_cons_zero, List.set_cons_succ, List.getElem_toArray, List.getElem_cons_succ, List.getElem_cons_zero]
                      refine wpAnyH_ready (rs := [11]) (by kernel_rfl) (by simp) ?_
                      refine AllReadyH.cons rfl (fun K hK => ?_) AllReadyH.nil
                      rw [if_pos (by rfl)]
                      simp only [List.getElem_toArray, List.getElem_cons_succ, List.getElem_cons_zero]
                      go_simp
                      refine hK.out _ _ ?_ (fun hS2 => ?_)
                      · exact ⟨kept_set1 hS1.1 hq _, HA.step (kept_set1 hS1.1 hq _)⟩
                      clear hK K
                      try simp only [Act.put, List.setIfInBounds_toArray, List.set_cons_zero, List.set_cons_succ, List.getElem_toArray, List.getElem_cons_succ, List.getElem_cons_zero]
                      refine wpAnyH_done (by kernel_rfl) ?_ _
                      have hne1 := hne
                      obtain ⟨y0, y1⟩ := FrT1.two hP hQ hne (.int .i64 (numX (findX C t.a n))) (.int .i64 (numX (findX C t.b n)))
                      go_wp2_with fail
                      go_meet
                      case rel => exact ⟨_, _, rfl, rfl, hS2.1, hp, hq, hne1, y0, y1⟩
              case rest =>
                obtain ⟨ki, kk, rfl, rfl, kw, hki, hkk, hnik, ci, ck⟩ := hcut
                have HR0 : Hid (QW w a1 g n kb kl c1 bo ru R C wc ∧ TouchAt wc kt t ∧ (∀ q, q < n → kt ≠ g ∧ ki ≠ g ∧ kk ≠ g)) := ⟨H3.out.1.keep (Only.of_kept kw), H3.out.2.1.only (Only.of_kept (D := []) kw) (by simp), fun q hq => ⟨H3.out.2.2 q hq, by have := (H3.out.1.rw.there hq).2.lt; omega, by have := (H3.out.1.rw.there hq).2.lt; omega⟩⟩
                clear kw hki hkk hnik H3 HA HBD
                have HGO : Hid (∀ D wz, hitStep n bo ru C t = D → QW w a1 g n kb kl c1 bo ru R D wz → QW w a1 g n kb kl c1 bo ru R (roundT n bo ru (roundsT n bo ru B T m p) T (j + 1)) wz) := fun D wz e h => by
                  show QW w a1 g n kb kl c1 bo ru R (hitStep n bo ru (roundT n bo ru (roundsT n bo ru B T m p) T j) (T j)) wz
                  rw [← HT.out, ← HC.out, e]; exact h
                clear HT HC
                cases hfa : findX C t.a n with
                | none =>
                  have HE : Hid (hitStep n bo ru C t = C) := by show hitStep n bo ru C t = C; simp [hitStep, hfa]
                  rw [hfa] at ci
                  clear hfa
                  generalize numX (findX C t.b n) = nb at ck
                  simp only [numX] at ci
                  go_wp2_with fail
                  go_roundg (m - (j + 1))
                  case measure => have := H5.out.2; omega
                  case rel => exact ⟨j + 1, by go_num, ⟨by omega, rfl⟩, HGO.out _ _ HE.out HR0.out.1⟩
                | some i =>
                  rw [hfa] at ci
                  simp only [numX] at ci
                  cases hfb : findX C t.b n with
                  | none =>
                    have HE : Hid (hitStep n bo ru C t = C) := by show hitStep n bo ru C t = C; simp [hitStep, hfa, hfb]
                    rw [hfb] at ck
                    simp only [numX] at ck
                    obtain ⟨hin, _⟩ := findX_some hfa
                    clear hfa hfb
                    have ti : ¬ (i : Int) < 0 := by omega
                    go_wp2_with fail
                    go_roundg (m - (j + 1))
                    case measure => have := H5.out.2; omega
                    case rel => exact ⟨j + 1, by go_num, ⟨by omega, rfl⟩, HGO.out _ _ HE.out HR0.out.1⟩
                  | some k =>
                    rw [hfb] at ck
                    simp only [numX] at ck
                    obtain ⟨hin, _⟩ := findX_some hfa
                    obtain ⟨hkn, _⟩ := findX_some hfb
                    have ti : ¬ (i : Int) < 0 := by omega
                    have tk : ¬ (k : Int) < 0 := by omega
                    by_cases hik : i = k
                    · subst hik
                      have HE : Hid (hitStep n bo ru C t = C) := by show hitStep n bo ru C t = C; simp [hitStep, hfa, hfb]
                      clear hfa hfb
                      go_wp2_with fail
                      go_roundg (m - (j + 1))
                      case measure => have := H5.out.2; omega
                      case rel => exact ⟨j + 1, by go_num, ⟨by omega, rfl⟩, HGO.out _ _ HE.out HR0.out.1⟩
                    · have tik : ((i : Int) == (k : Int)) = false := by simp; omega
                      have HE : Hid (hitStep n bo ru C t = if add (lightX (C i).ms) (lightX (C k).ms) = 0 then C else hitX C i k (lightX (C i).ms) (lightX (C k).ms) (add (lightX (C i).ms) (lightX (C k).ms)) t.way bo ru) := by show hitStep n bo ru C t = _; simp [hitStep, hfa, hfb, hik]
                      clear hfa hfb
                      as_aux_lemma =>
                        have hil : (i : Int) < (n : Int) := by omega
                        have hkl : (k : Int) < (n : Int) := by omega
                        have HIK : Hid (i < n ∧ k < n) := ⟨hin, hkn⟩
                        obtain ⟨ha1, _⟩ := HR0.out.1.rw.there hin
                        subst ha1
                        have HR1 : Hid (RB w g n kb kl c1 bo ru R kt t ki kk i k C wc) := ⟨HR0.out.1, by omega, HR0.out.2.1, ci, ck, (HR0.out.2.2 i hin).1, (HR0.out.2.2 i hin).2.1, (HR0.out.2.2 i hin).2.2⟩
                        go_upto_region 11 with fail
                        clear ci ck HR0 ti tk tik hik
                        obtain ⟨qi, hqi⟩ : ∃ q, q = C i := ⟨_, rfl⟩
                        obtain ⟨qk, hqk⟩ : ∃ q, q = C k := ⟨_, rfl⟩
                        have HQQ : Hid (qi = C i ∧ qk = C k) := ⟨hqi, hqk⟩
                        rw [← hqi, ← hqk] at HE
                        clear hqi hqk
                        obtain ⟨wA, hwA⟩ : ∃ wA, wA = wc := ⟨_, rfl⟩
                        subst hwA
                        have HA : LgAt kl ki kk g n c1 i k wA := ⟨HR1.out.q.var, HR1.out.vi, HR1.out.vk⟩
                        have HLI : Hid (∀ w', Kept wA w' → AllAt w' g i qi) := fun w' o => (HR1.out.own.all HIK.out.1 HQQ.out.1).kept o
                        have HLK : Hid (∀ w', Kept wA w' → AllAt w' g k qk) := fun w' o => (HR1.out.own.all HIK.out.2 HQQ.out.2).kept o
                        go_cut [12, 13] from 60 to 148 (fun s12 s13 wc => ∃ kx ky, s12 = .pointer (some ⟨kx, 0, none⟩) ∧ s13 = .pointer (some ⟨ky, 0, none⟩) ∧ Kept wA wc ∧ wA.heap.size ≤ kx ∧ wA.heap.size ≤ ky ∧ wc.cell? ⟨kx, 0, none⟩ = some (.int .i64 (lightX qi.ms)) ∧ wc.cell? ⟨ky, 0, none⟩ = some (.int .i64 (lightX qk.ms)))
                        case first =>
                          as_aux_lemma =>
                            refine wp_region_held_drew (S := fun w' => Kept wA w' ∧ (w'.cell? ⟨kl, 0, none⟩ = some (.slice (some ⟨g, 0, none⟩) n c1) ∧ w'.cell? ⟨ki, 0, none⟩ = some (.int .i64 ((i : Int))) ∧ w'.cell? ⟨kk, 0, none⟩ = some (.int .i64 ((k : Int))))) (by kernel_rfl) ?_ (fun hH0 => ?_)
                            · (try dsimp only); exact ⟨(Kept.refl _).drew, HA.step (Kept.refl _).drew⟩
                            refine wpAnyH_take (i := 0) (v := ?_) rfl (by kernel_rfl) (by kernel_rfl) (by kernel_rfl) (fun _ _ _ h => h) (Or.inl ⟨by kernel_rfl, ?_⟩) (by assumption) ?_
                            rotate_left
                            · intro w'' hSw; (try dsimp only at hSw); simp only [List.getElem_toArray, List.getElem_cons_succ, List.getElem_cons_zero]; (go_simp <;> with_reducible rfl)
                            try simp only [Act.put, List.setIfInBounds_toArray, List.set_cons_zero, List.set_cons_succ, List.getElem_toArray, List.getElem_cons_succ, List.getElem_cons_zero]
                            refine wpAnyH_take (i := 1) (v := ?_) rfl (by kernel_rfl) (by kernel_rfl) (by kernel_rfl) (fun _ _ _ h => h) (Or.inl ⟨by kernel_rfl, ?_⟩) (by assumption) ?_
                            rotate_left
                            · intro w'' hSw; (try dsimp only at hSw); simp only [List.getElem_toArray, List.getElem_cons_succ, List.getElem_cons_zero]; (go_simp <;> with_reducible rfl)
                            try simp only [Act.put, List.setIfInBounds_toArray, List.set_cons_zero, List.set_cons_succ, List.getElem_toArray, List.getElem_cons_succ, List.getElem_cons_zero]
                            refine wpAnyH_take (i := 2) (v := ?_) rfl (by kernel_rfl) (by kernel_rfl) (by kernel_rfl) (fun _ _ _ h => h) (Or.inl ⟨by kernel_rfl, ?_⟩) (by assumption) ?_
                            rotate_left
                            · intro w'' hSw; (try dsimp only at hSw); simp only [List.getElem_toArray, List.getElem_cons_succ, List.getElem_cons_zero]; (go_simp <;> with_reducible rfl)
                            try simp only [Act.put, List.setIfInBounds_toArray, List.set_cons_zero, List.set_cons_succ, List.getElem_toArray, List.getElem_cons_succ, List.getElem_cons_zero]
                            refine wpAnyH_take (i := 3) (v := ?_) rfl (by kernel_rfl) (by kernel_rfl) (by kernel_rfl) (fun _ _ _ h => h) (Or.inl ⟨by kernel_rfl, ?_⟩) (by assumption) ?_
                            rotate_left
                            · intro w'' hSw; (try dsimp only at hSw); obtain ⟨d0, d1, d2, d3, d4, d5, d6, d7, d8, d9, d10, d11, d12, d13, d14, d15, d16⟩ := HLI.out _ hSw.1; simp only [List.getElem_toArray, List.getElem_cons_succ, List.getElem_cons_zero]; (go_simp <;> with_reducible rfl)
                            try simp only [Act.put, List.setIfInBounds_toArray, List.set_cons_zero, List.set_cons_succ, List.getElem_toArray, List.getElem_cons_succ, List.getElem_cons_zero]
                            refine wpAnyH_take (i := 5) (v := ?_) rfl (by kernel_rfl) (by kernel_rfl) (by kernel_rfl) (fun _ _ _ h => h) (Or.inl ⟨by kernel_rfl, ?_⟩) (by assumption) ?_
                            rotate_left
                            · intro w'' hSw; (try dsimp only at hSw); simp only [List.getElem_toArray, List.getElem_cons_succ, List.getElem_cons_zero]; (go_simp <;> with_reducible rfl)
                            try simp only [Act.put, List.setIfInBounds_toArray, List.set_cons_zero, List.set_cons_succ, List.getElem_toArray, List.getElem_cons_succ, List.getElem_cons_zero]
                            refine wpAnyH_take (i := 6) (v := ?_) rfl (by kernel_rfl) (by kernel_rfl) (by kernel_rfl) (fun _ _ _ h => h) (Or.inl ⟨by kernel_rfl, ?_⟩) (by assumption) ?_
                            rotate_left
                            · intro w'' hSw; (try dsimp only at hSw); simp only [List.getElem_toArray, List.getElem_cons_succ, List.getElem_cons_zero]; (go_simp <;> with_reducible rfl)
                            try simp only [Act.put, List.setIfInBounds_toArray, List.set_cons_zero, List.set_cons_succ, List.getElem_toArray, List.getElem_cons_succ, List.getElem_cons_zero]
                            refine wpAnyH_take (i := 7) (v := ?_) rfl (by kernel_rfl) (by kernel_rfl) (by kernel_rfl) (fun _ _ _ h => h) (Or.inl ⟨by kernel_rfl, ?_⟩) (by assumption) ?_
                            rotate_left
                            · intro w'' hSw; (try dsimp only at hSw); simp only [List.getElem_toArray, List.getElem_cons_succ, List.getElem_cons_zero]; (go_simp <;> with_reducible rfl)
                            try simp only [Act.put, List.setIfInBounds_toArray, List.set_cons_zero, List.set_cons_succ, List.getElem_toArray, List.getElem_cons_succ, List.getElem_cons_zero]
                            refine wpAnyH_take (i := 8) (v := ?_) rfl (by kernel_rfl) (by kernel_rfl) (by kernel_rfl) (fun _ _ _ h => h) (Or.inl ⟨by kernel_rfl, ?_⟩) (by assumption) ?_
                            rotate_left
                            · intro w'' hSw; (try dsimp only at hSw); obtain ⟨d0, d1, d2, d3, d4, d5, d6, d7, d8, d9, d10, d11, d12, d13, d14, d15, d16⟩ := HLK.out _ hSw.1; simp only [List.getElem_toArray, List.getElem_cons_succ, List.getElem_cons_zero]; (go_simp <;> with_reducible rfl)
                            try simp only [Act.put, List.setIfInBounds_toArray, List.set_cons_zero, List.set_cons_succ, List.getElem_toArray, List.getElem_cons_succ, List.getElem_cons_zero]
                            refine wpAnyH_ready (rs := [4, 10, 11]) (by kernel_rfl) (by simp) ?_
                            refine AllReadyH.cons rfl (fun K hK => ?_) (AllReadyH.cons rfl (fun K hK => ?_) (AllReadyH.cons rfl (fun K hK => ?_) AllReadyH.nil))
                            · skip
                              as_aux_lemma =>
                                rw [if_pos (by rfl)]
                                simp only [List.getElem_toArray, List.getElem_cons_succ, List.getElem_cons_zero]
                                go_simp
                                (go_at_call 120; refine (refLight_calls qi _).mono ?_; rintro e wc1 ⟨rfl, kc1⟩)
                                try go_wp2_with fail
                                refine hK.out _ _ ?_ (fun hH1 => ?_)
                                · exact ⟨hH0.1.trans kc1, HA.step (hH0.1.trans kc1)⟩
                                clear hK K hH0
                                try simp only [Act.put, List.setIfInBounds_toArray, List.set_cons_zero, List.set_cons_succ, List.getElem_toArray, List.getElem_cons_succ, List.getElem_cons_zero]
                                refine wpAnyH_ready (rs := [9, 10, 11]) (by kernel_rfl) (by simp) ?_
                                refine AllReadyH.cons rfl (fun K hK => ?_) (AllReadyH.cons rfl (fun K hK => ?_) (AllReadyH.cons rfl (fun K hK => ?_) AllReadyH.nil))
                                · skip
                                  as_aux_lemma =>
                                    rw [if_pos (by rfl)]
                                    simp only [List.getElem_toArray, List.getElem_cons_succ, List.getElem_cons_zero]
                                    go_simp
                                    (go_at_call 120; refine (refLight_calls qk _).mono ?_; rintro e wc2 ⟨rfl, kc2⟩)
                                    try go_wp2_with fail
                                    refine hK.out _ _ ?_ (fun hH2 => ?_)
                                    · exact ⟨hH1.1.trans kc2, HA.step (hH1.1.trans kc2)⟩
                                    clear hK K hH1
                                    try simp only [Act.put, List.setIfInBounds_toArray, List.set_cons_zero, List.set_cons_succ, List.getElem_toArray, List.getElem_cons_succ, List.getElem_cons_zero]
                                    refine wpAnyH_ready (rs := [10, 11]) (by kernel_rfl) (by simp) ?_
                                    refine AllReadyH.cons rfl (fun K hK => ?_) (AllReadyH.cons rfl (fun K hK => ?_) AllReadyH.nil)
                                    · skip
                                      as_aux_lemma =>
                                        rw [if_pos (by rfl)]
                                        simp only [List.getElem_toArray, List.getElem_cons_succ, List.getElem_cons_zero]
                                        go_simp
                                        refine hK.out _ _ ?_ (fun hH3 => ?_)
                                        · exact ⟨hH2.1.alloc _ _, HA.step (hH2.1.alloc _ _)⟩
                                        have hp : wA.heap.size ≤ wc2.heap.size := Nat.le_trans hH2.1.below.size (Nat.le_of_eq (by simp))
                                        have hP : FrT1 wA (wc2.heap.size) (wc2.alloc (.cells #[.int .i64 0] 3)) := by refine ⟨hH2.1.alloc _ _, cellV_of (v := .int .i64 0) ?_, ?_⟩ <;> go_simp
                                        clear hK K hH2
                                        try simp only [Act.put, List.setIfInBounds_toArray, List.set_cons_zero, List.set_cons_succ, List.getElem_toArray, List.getElem_cons_succ, List.getElem_cons_zero]
                                        refine wpAnyH_ready (rs := [11]) (by kernel_rfl) (by simp) ?_
                                        refine AllReadyH.cons rfl (fun K hK => ?_) AllReadyH.nil
                                        rw [if_pos (by rfl)]
                                        simp only [List.getElem_toArray, List.getElem_cons_succ, List.getElem_cons_zero]
                                        go_simp
                                        refine hK.out _ _ ?_ (fun hH4 => ?_)
                                        · exact ⟨hH3.1.alloc _ _, HA.step (hH3.1.alloc _ _)⟩
                                        have hq : wA.heap.size ≤ wc2.heap.size + 1 := Nat.le_trans hH3.1.below.size (Nat.le_of_eq (by simp))
                                        have hlt := World.block_lt_of_cell? _ _ hP.2.1
                                        simp at hlt
                                        have hne : wc2.heap.size ≠ wc2.heap.size + 1 := by omega
                                        clear hlt
                                        replace hP := hP.step ((Kept.refl _).alloc #[.int .i64 0] 3)
                                        have hQ : FrT1 wA (wc2.heap.size + 1) ((wc2.alloc (.cells #[.int .i64 0] 3)).alloc (.cells #[.int .i64 0] 3)) := by refine ⟨hH3.1.alloc _ _, cellV_of (v := .int .i64 0) ?_, ?_⟩ <;> go_simp
                                        clear hK K hH3
                                        try simp only [Act.put, List.setIfInBounds_toArray, List.set_cons_zero, List.set_cons_succ, List.getElem_toArray, List.getElem_cons_succ, List.getElem_cons_zero]
                                        generalize ((wc2.alloc (.cells #[.int .i64 0] 3)).alloc (.cells #[.int .i64 0] 3)) = wz5 at hH4 hP hQ ⊢
                                        have hP0 := hP
                                        obtain ⟨_, cp0, fp0⟩ := hP0
                                        have hY := hQ.past hne
                                        skip
                                        refine wpAnyH_ready (rs := [12]) (by kernel_rfl) (by simp) ?_
                                        refine AllReadyH.cons rfl (fun K hK => ?_) AllReadyH.nil
                                        rw [if_pos (by rfl)]
                                        simp only [List.getElem_toArray, List.getElem_cons_succ, List.getElem_cons_zero]
                                        go_simp
                                        refine hK.out _ _ ?_ (fun hS1 => ?_)
                                        · exact ⟨kept_set1 hH4.1 hp _, HA.step (kept_set1 hH4.1 hp _)⟩
                                        clear hK K
                                        try simp only [Act.put, List.setIfInBounds_toArray, List.set_cons_zero, List.set_cons_succ, List.getElem_toArray, List.getElem_cons_succ, List.getElem_cons_zero]
                                        refine wpAnyH_ready (rs := [13]) (by kernel_rfl) (by simp) ?_
                                        refine AllReadyH.cons rfl (fun K hK => ?_) AllReadyH.nil
                                        rw [if_pos (by rfl)]
                                        simp only [List.getElem_toArray, List.getElem_cons_succ, List.getElem_cons_zero]
                                        go_simp
                                        refine hK.out _ _ ?_ (fun hS2 => ?_)
                                        · exact ⟨kept_set1 hS1.1 hq _, HA.step (kept_set1 hS1.1 hq _)⟩
                                        clear hK K
                                        try simp only [Act.put, List.setIfInBounds_toArray, List.set_cons_zero, List.set_cons_succ, List.getElem_toArray, List.getElem_cons_succ, List.getElem_cons_zero]
                                        refine wpAnyH_done (by kernel_rfl) ?_ _
                                        obtain ⟨y0, y1⟩ := FrT1.two hP hQ hne (.int .i64 (lightX qi.ms)) (.int .i64 (lightX qk.ms))
                                        go_wp2_with fail
                                        go_meet
                                        case rel => exact ⟨_, _, rfl, rfl, hS2.1, hp, hq, y0, y1⟩
                                    · skip
                                      as_aux_lemma =>
                                        rw [if_pos (by rfl)]
                                        simp only [List.getElem_toArray, List.getElem_cons_succ, List.getElem_cons_zero]
                                        go_simp
                                        refine hK.out _ _ ?_ (fun hH6 => ?_)
                                        · exact ⟨hH2.1.alloc _ _, HA.step (hH2.1.alloc _ _)⟩
                                        have hq : wA.heap.size ≤ wc2.heap.size := Nat.le_trans hH2.1.below.size (Nat.le_of_eq (by simp))
                                        have hQ : FrT1 wA (wc2.heap.size) (wc2.alloc (.cells #[.int .i64 0] 3)) := by refine ⟨hH2.1.alloc _ _, cellV_of (v := .int .i64 0) ?_, ?_⟩ <;> go_simp
                                        clear hK K hH2
                                        try simp only [Act.put, List.setIfInBounds_toArray, List.set_cons_zero, List.set_cons_succ, List.getElem_toArray, List.getElem_cons_succ, List.getElem_cons_zero]
                                        refine wpAnyH_ready (rs := [10]) (by kernel_rfl) (by simp) ?_
                                        refine AllReadyH.cons rfl (fun K hK => ?_) AllReadyH.nil
                                        rw [if_pos (by rfl)]
                                        simp only [List.getElem_toArray, List.getElem_cons_succ, List.getElem_cons_zero]
                                        go_simp
                                        refine hK.out _ _ ?_ (fun hH7 => ?_)
                                        · exact ⟨hH6.1.alloc _ _, HA.step (hH6.1.alloc _ _)⟩
                                        have hp : wA.heap.size ≤ wc2.heap.size + 1 := Nat.le_trans hH6.1.below.size (Nat.le_of_eq (by simp))
                                        have hlt := World.block_lt_of_cell? _ _ hQ.2.1
                                        simp at hlt
                                        have hne : wc2.heap.size + 1 ≠ wc2.heap.size := by omega
                                        clear hlt
                                        replace hQ := hQ.step ((Kept.refl _).alloc #[.int .i64 0] 3)
                                        have hP : FrT1 wA (wc2.heap.size + 1) ((wc2.alloc (.cells #[.int .i64 0] 3)).alloc (.cells #[.int .i64 0] 3)) := by refine ⟨hH6.1.alloc _ _, cellV_of (v := .int .i64 0) ?_, ?_⟩ <;> go_simp
                                        clear hK K hH6
                                        try simp only [Act.put, List.setIfInBounds_toArray, List.set_cons_zero, List.set_cons_succ, List.getElem_toArray, List.getElem_cons_succ, List.getElem_cons_zero]
                                        generalize ((wc2.alloc (.cells #[.int .i64 0] 3)).alloc (.cells #[.int .i64 0] 3)) = wz8 at hH7 hP hQ ⊢
                                        have hP0 := hP
                                        obtain ⟨_, cp0, fp0⟩ := hP0
                                        have hY := hQ.past hne
                                        skip
                                        refine wpAnyH_ready (rs := [12]) (by kernel_rfl) (by simp) ?_
                                        refine AllReadyH.cons rfl (fun K hK => ?_) AllReadyH.nil
                                        rw [if_pos (by rfl)]
                                        simp only [List.getElem_toArray, List.getElem_cons_succ, List.getElem_cons_zero]
                                        go_simp
                                        refine hK.out _ _ ?_ (fun hS1 => ?_)
                                        · exact ⟨kept_set1 hH7.1 hp _, HA.step (kept_set1 hH7.1 hp _)⟩
                                        clear hK K
                                        try simp only [Act.put, List.setIfInBounds_toArray, List.set_cons_zero, List.set_cons_succ, List.getElem_toArray, List.getElem_cons_succ, List.getElem_cons_zero]
                                        refine wpAnyH_ready (rs := [13]) (by kernel_rfl) (by simp) ?_
                                        refine AllReadyH.cons rfl (fun K hK => ?_) AllReadyH.nil
                                        rw [if_pos (by rfl)]
                                        simp only [List.getElem_toArray, List.getElem_cons_succ, List.getElem_cons_zero]
                                        go_simp
                                        refine hK.out _ _ ?_ (fun hS2 => ?_)
                                        · exact ⟨kept_set1 hS1.1 hq _, HA.step (kept_set1 hS1.1 hq _)⟩
                                        clear hK K
                                        try simp only [Act.put, List.setIfInBounds_toArray, List.set_cons_zero, List.set_cons_succ, List.getElem_toArray, List.getElem_cons_succ, List.getElem_cons_zero]
                                        refine wpAnyH_done (by kernel_rfl) ?_ _
                                        obtain ⟨y0, y1⟩ := FrT1.two hP hQ hne (.int .i64 (lightX qi.ms)) (.int .i64 (lightX qk.ms))
                                        go_wp2_with fail
                                        go_meet
                                        case rel => exact ⟨_, _, rfl, rfl, hS2.1, hp, hq, y0, y1⟩
                                · skip
                                  as_aux_lemma =>
                                    rw [if_pos (by rfl)]
                                    simp only [List.getElem_toArray, List.getElem_cons_succ, List.getElem_cons_zero]
                                    go_simp
                                    refine hK.out _ _ ?_ (fun hH9 => ?_)
                                    · exact ⟨hH1.1.alloc _ _, HA.step (hH1.1.alloc _ _)⟩
                                    have hp : wA.heap.size ≤ wc1.heap.size := Nat.le_trans hH1.1.below.size (Nat.le_of_eq (by simp))
                                    have hP : FrT1 wA (wc1.heap.size) (wc1.alloc (.cells #[.int .i64 0] 3)) := by refine ⟨hH1.1.alloc _ _, cellV_of (v := .int .i64 0) ?_, ?_⟩ <;> go_simp
                                    clear hK K hH1
                                    try simp only [Act.put, List.setIfInBounds_toArray, List.set_cons_zero, List.set_cons_succ, List.getElem_toArray, List.getElem_cons_succ, List.getElem_cons_zero]
                                    refine wpAnyH_ready (rs := [9, 11]) (by kernel_rfl) (by simp) ?_
                                    refine AllReadyH.cons rfl (fun K hK => ?_) (AllReadyH.cons rfl (fun K hK => ?_) AllReadyH.nil)
                                    · skip
                                      as_aux_lemma =>
                                        rw [if_pos (by rfl)]
                                        simp only [List.getElem_toArray, List.getElem_cons_succ, List.getElem_cons_zero]
                                        go_simp
                                        (go_at_call 120; refine (refLight_calls qk _).mono ?_; rintro e wc10 ⟨rfl, kc10⟩)
                                        try go_wp2_with fail
                                        refine hK.out _ _ ?_ (fun hH10 => ?_)
                                        · exact ⟨hH9.1.trans kc10, HA.step (hH9.1.trans kc10)⟩
                                        replace hP := hP.step kc10
                                        clear hK K hH9
                                        try simp only [Act.put, List.setIfInBounds_toArray, List.set_cons_zero, List.set_cons_succ, List.getElem_toArray, List.getElem_cons_succ, List.getElem_cons_zero]
                                        refine wpAnyH_ready (rs := [11]) (by kernel_rfl) (by simp) ?_
                                        refine AllReadyH.cons rfl (fun K hK => ?_) AllReadyH.nil
                                        rw [if_pos (by rfl)]
                                        simp only [List.getElem_toArray, List.getElem_cons_succ, List.getElem_cons_zero]
                                        go_simp
                                        refine hK.out _ _ ?_ (fun hH11 => ?_)
                                        · exact ⟨hH10.1.alloc _ _, HA.step (hH10.1.alloc _ _)⟩
                                        have hq : wA.heap.size ≤ wc10.heap.size := Nat.le_trans hH10.1.below.size (Nat.le_of_eq (by simp))
                                        have hlt := World.block_lt_of_cell? _ _ hP.2.1
                                        simp at hlt
                                        have hne : wc1.heap.size ≠ wc10.heap.size := by omega
                                        clear hlt
                                        replace hP := hP.step ((Kept.refl _).alloc #[.int .i64 0] 3)
                                        have hQ : FrT1 wA (wc10.heap.size) (wc10.alloc (.cells #[.int .i64 0] 3)) := by refine ⟨hH10.1.alloc _ _, cellV_of (v := .int .i64 0) ?_, ?_⟩ <;> go_simp
                                        clear hK K hH10
                                        try simp only [Act.put, List.setIfInBounds_toArray, List.set_cons_zero, List.set_cons_succ, List.getElem_toArray, List.getElem_cons_succ, List.getElem_cons_zero]
                                        generalize (wc10.alloc (.cells #[.int .i64 0] 3)) = wz12 at hH11 hP hQ ⊢
                                        have hP0 := hP
                                        obtain ⟨_, cp0, fp0⟩ := hP0
                                        have hY := hQ.past hne
                                        skip
                                        refine wpAnyH_ready (rs := [12]) (by kernel_rfl) (by simp) ?_
                                        refine AllReadyH.cons rfl (fun K hK => ?_) AllReadyH.nil
                                        rw [if_pos (by rfl)]
                                        simp only [List.getElem_toArray, List.getElem_cons_succ, List.getElem_cons_zero]
                                        go_simp
                                        refine hK.out _ _ ?_ (fun hS1 => ?_)
                                        · exact ⟨kept_set1 hH11.1 hp _, HA.step (kept_set1 hH11.1 hp _)⟩
                                        clear hK K
                                        try simp only [Act.put, List.setIfInBounds_toArray, List.set_cons_zero, List.set_cons_succ, List.getElem_toArray, List.getElem_cons_succ, List.getElem_cons_zero]
                                        refine wpAnyH_ready (rs := [13]) (by kernel_rfl) (by simp) ?_
                                        refine AllReadyH.cons rfl (fun K hK => ?_) AllReadyH.nil
                                        rw [if_pos (by rfl)]
                                        simp only [List.getElem_toArray, List.getElem_cons_succ, List.getElem_cons_zero]
                                        go_simp
                                        refine hK.out _ _ ?_ (fun hS2 => ?_)
                                        · exact ⟨kept_set1 hS1.1 hq _, HA.step (kept_set1 hS1.1 hq _)⟩
                                        clear hK K
                                        try simp only [Act.put, List.setIfInBounds_toArray, List.set_cons_zero, List.set_cons_succ, List.getElem_toArray, List.getElem_cons_succ, List.getElem_cons_zero]
                                        refine wpAnyH_done (by kernel_rfl) ?_ _
                                        obtain ⟨y0, y1⟩ := FrT1.two hP hQ hne (.int .i64 (lightX qi.ms)) (.int .i64 (lightX qk.ms))
                                        go_wp2_with fail
                                        go_meet
                                        case rel => exact ⟨_, _, rfl, rfl, hS2.1, hp, hq, y0, y1⟩
                                    · skip
                                      as_aux_lemma =>
                                        rw [if_pos (by rfl)]
                                        simp only [List.getElem_toArray, List.getElem_cons_succ, List.getElem_cons_zero]
                                        go_simp
                                        refine hK.out _ _ ?_ (fun hH13 => ?_)
                                        · exact ⟨hH9.1.alloc _ _, HA.step (hH9.1.alloc _ _)⟩
                                        have hq : wA.heap.size ≤ wc1.heap.size + 1 := Nat.le_trans hH9.1.below.size (Nat.le_of_eq (by simp))
                                        have hlt := World.block_lt_of_cell? _ _ hP.2.1
                                        simp at hlt
                                        have hne : wc1.heap.size ≠ wc1.heap.size + 1 := by omega
                                        clear hlt
                                        replace hP := hP.step ((Kept.refl _).alloc #[.int .i64 0] 3)
                                        have hQ : FrT1 wA (wc1.heap.size + 1) ((wc1.alloc (.cells #[.int .i64 0] 3)).alloc (.cells #[.int .i64 0] 3)) := by refine ⟨hH9.1.alloc _ _, cellV_of (v := .int .i64 0) ?_, ?_⟩ <;> go_simp
                                        clear hK K hH9
                                        try simp only [Act.put, List.setIfInBounds_toArray, List.set_cons_zero, List.set_cons_succ, List.getElem_toArray, List.getElem_cons_succ, List.getElem_cons_zero]
                                        refine wpAnyH_ready (rs := [9]) (by kernel_rfl) (by simp) ?_
                                        refine AllReadyH.cons rfl (fun K hK => ?_) AllReadyH.nil
                                        rw [if_pos (by rfl)]
                                        simp only [List.getElem_toArray, List.getElem_cons_succ, List.getElem_cons_zero]
                                        go_simp
                                        (go_at_call 120; refine (refLight_calls qk _).mono ?_; rintro e wc14 ⟨rfl, kc14⟩)
                                        try go_wp2_with fail
                                        refine hK.out _ _ ?_ (fun hH14 => ?_)
                                        · exact ⟨hH13.1.trans kc14, HA.step (hH13.1.trans kc14)⟩
                                        replace hP := hP.step kc14
                                        replace hQ := hQ.step kc14
                                        clear hK K hH13
                                        try simp only [Act.put, List.setIfInBounds_toArray, List.set_cons_zero, List.set_cons_succ, List.getElem_toArray, List.getElem_cons_succ, List.getElem_cons_zero]
                                        have hP0 := hP
                                        obtain ⟨_, cp0, fp0⟩ := hP0
                                        have hY := hQ.past hne
                                        skip
                                        refine wpAnyH_ready (rs := [12]) (by kernel_rfl) (by simp) ?_
                                        refine AllReadyH.cons rfl (fun K hK => ?_) AllReadyH.nil
                                        rw [if_pos (by rfl)]
                                        simp only [List.getElem_toArray, List.getElem_cons_succ, List.getElem_cons_zero]
                                        go_simp
                                        refine hK.out _ _ ?_ (fun hS1 => ?_)
                                        · exact ⟨kept_set1 hH14.1 hp _, HA.step (kept_set1 hH14.1 hp _)⟩
                                        clear hK K
                                        try simp only [Act.put, List.setIfInBounds_toArray, List.set_cons_zero, List.set_cons_succ, List.getElem_toArray, List.getElem_cons_succ, List.getElem_cons_zero]
                                        refine wpAnyH_ready (rs := [13]) (by kernel_rfl) (by simp) ?_
                                        refine AllReadyH.cons rfl (fun K hK => ?_) AllReadyH.nil
                                        rw [if_pos (by rfl)]
                                        simp only [List.getElem_toArray, List.getElem_cons_succ, List.getElem_cons_zero]
                                        go_simp
                                        refine hK.out _ _ ?_ (fun hS2 => ?_)
                                        · exact ⟨kept_set1 hS1.1 hq _, HA.step (kept_set1 hS1.1 hq _)⟩
                                        clear hK K
                                        try simp only [Act.put, List.setIfInBounds_toArray, List.set_cons_zero, List.set_cons_succ, List.getElem_toArray, List.getElem_cons_succ, List.getElem_cons_zero]
                                        refine wpAnyH_done (by kernel_rfl) ?_ _
                                        obtain ⟨y0, y1⟩ := FrT1.two hP hQ hne (.int .i64 (lightX qi.ms)) (.int .i64 (lightX qk.ms))
                                        go_wp2_with fail
                                        go_meet
                                        case rel => exact ⟨_, _, rfl, rfl, hS2.1, hp, hq, y0, y1⟩
                                · skip
                                  as_aux_lemma =>
                                    rw [if_pos (by rfl)]
                                    simp only [List.getElem_toArray, List.getElem_cons_succ, List.getElem_cons_zero]
                                    go_simp
                                    refine hK.out _ _ ?_ (fun hH15 => ?_)
                                    · exact ⟨hH1.1.alloc _ _, HA.step (hH1.1.alloc _ _)⟩
                                    have hq : wA.heap.size ≤ wc1.heap.size := Nat.le_trans hH1.1.below.size (Nat.le_of_eq (by simp))
                                    have hQ : FrT1 wA (wc1.heap.size) (wc1.alloc (.cells #[.int .i64 0] 3)) := by refine ⟨hH1.1.alloc _ _, cellV_of (v := .int .i64 0) ?_, ?_⟩ <;> go_simp
                                    clear hK K hH1
                                    try simp only [Act.put, List.setIfInBounds_toArray, List.set_cons_zero, List.set_cons_succ, List.getElem_toArray, List.getElem_cons_succ, List.getElem_cons_zero]
                                    refine wpAnyH_ready (rs := [9, 10]) (by kernel_rfl) (by simp) ?_
                                    refine AllReadyH.cons rfl (fun K hK => ?_) (AllReadyH.cons rfl (fun K hK => ?_) AllReadyH.nil)
                                    · skip
                                      as_aux_lemma =>
                                        rw [if_pos (by rfl)]
                                        simp only [List.getElem_toArray, List.getElem_cons_succ, List.getElem_cons_zero]
                                        go_simp
                                        (go_at_call 120; refine (refLight_calls qk _).mono ?_; rintro e wc16 ⟨rfl, kc16⟩)
                                        try go_wp2_with fail
                                        refine hK.out _ _ ?_ (fun hH16 => ?_)
                                        · exact ⟨hH15.1.trans kc16, HA.step (hH15.1.trans kc16)⟩
                                        replace hQ := hQ.step kc16
                                        clear hK K hH15
                                        try simp only [Act.put, List.setIfInBounds_toArray, List.set_cons_zero, List.set_cons_succ, List.getElem_toArray, List.getElem_cons_succ, List.getElem_cons_zero]
                                        refine wpAnyH_ready (rs := [10]) (by kernel_rfl) (by simp) ?_
                                        refine AllReadyH.cons rfl (fun K hK => ?_) AllReadyH.nil
                                        rw [if_pos (by rfl)]
                                        simp only [List.getElem_toArray, List.getElem_cons_succ, List.getElem_cons_zero]
                                        go_simp
                                        refine hK.out _ _ ?_ (fun hH17 => ?_)
                                        · exact ⟨hH16.1.alloc _ _, HA.step (hH16.1.alloc _ _)⟩
                                        have hp : wA.heap.size ≤ wc16.heap.size := Nat.le_trans hH16.1.below.size (Nat.le_of_eq (by simp))
                                        have hlt := World.block_lt_of_cell? _ _ hQ.2.1
                                        simp at hlt
                                        have hne : wc16.heap.size ≠ wc1.heap.size := by omega
                                        clear hlt
                                        replace hQ := hQ.step ((Kept.refl _).alloc #[.int .i64 0] 3)
                                        have hP : FrT1 wA (wc16.heap.size) (wc16.alloc (.cells #[.int .i64 0] 3)) := by refine ⟨hH16.1.alloc _ _, cellV_of (v := .int .i64 0) ?_, ?_⟩ <;> go_simp
                                        clear hK K hH16
                                        try simp only [Act.put, List.setIfInBounds_toArray, List.set_cons_zero, List.set_cons_succ, List.getElem_toArray, List.getElem_cons_succ, List.getElem_cons_zero]
                                        generalize (wc16.alloc (.cells #[.int .i64 0] 3)) = wz18 at hH17 hP hQ ⊢
                                        have hP0 := hP
                                        obtain ⟨_, cp0, fp0⟩ := hP0
                                        have hY := hQ.past hne
                                        skip
                                        refine wpAnyH_ready (rs := [12]) (by kernel_rfl) (by simp) ?_
                                        refine AllReadyH.cons rfl (fun K hK => ?_) AllReadyH.nil
                                        rw [if_pos (by rfl)]
                                        simp only [List.getElem_toArray, List.getElem_cons_succ, List.getElem_cons_zero]
                                        go_simp
                                        refine hK.out _ _ ?_ (fun hS1 => ?_)
                                        · exact ⟨kept_set1 hH17.1 hp _, HA.step (kept_set1 hH17.1 hp _)⟩
                                        clear hK K
                                        try simp only [Act.put, List.setIfInBounds_toArray, List.set_cons_zero, List.set_cons_succ, List.getElem_toArray, List.getElem_cons_succ, List.getElem_cons_zero]
                                        refine wpAnyH_ready (rs := [13]) (by kernel_rfl) (by simp) ?_
                                        refine AllReadyH.cons rfl (fun K hK => ?_) AllReadyH.nil
                                        rw [if_pos (by rfl)]
                                        simp only [List.getElem_toArray, List.getElem_cons_succ, List.getElem_cons_zero]
                                        go_simp
                                        refine hK.out _ _ ?_ (fun hS2 => ?_)
                                        · exact ⟨kept_set1 hS1.1 hq _, HA.step (kept_set1 hS1.1 hq _)⟩
                                        clear hK K
                                        try simp only [Act.put, List.setIfInBounds_toArray, List.set_cons_zero, List.set_cons_succ, List.getElem_toArray, List.getElem_cons_succ, List.getElem_cons_zero]
                                        refine wpAnyH_done (by kernel_rfl) ?_ _
                                        obtain ⟨y0, y1⟩ := FrT1.two hP hQ hne (.int .i64 (lightX qi.ms)) (.int .i64 (lightX qk.ms))
                                        go_wp2_with fail
                                        go_meet
                                        case rel => exact ⟨_, _, rfl, rfl, hS2.1, hp, hq, y0, y1⟩
                                    · skip
                                      as_aux_lemma =>
                                        rw [if_pos (by rfl)]
                                        simp only [List.getElem_toArray, List.getElem_cons_succ, List.getElem_cons_zero]
                                        go_simp
                                        refine hK.out _ _ ?_ (fun hH19 => ?_)
                                        · exact ⟨hH15.1.alloc _ _, HA.step (hH15.1.alloc _ _)⟩
                                        have hp : wA.heap.size ≤ wc1.heap.size + 1 := Nat.le_trans hH15.1.below.size (Nat.le_of_eq (by simp))
                                        have hlt := World.block_lt_of_cell? _ _ hQ.2.1
                                        simp at hlt
                                        have hne : wc1.heap.size + 1 ≠ wc1.heap.size := by omega
                                        clear hlt
                                        replace hQ := hQ.step ((Kept.refl _).alloc #[.int .i64 0] 3)
                                        have hP : FrT1 wA (wc1.heap.size + 1) ((wc1.alloc (.cells #[.int .i64 0] 3)).alloc (.cells #[.int .i64 0] 3)) := by refine ⟨hH15.1.alloc _ _, cellV_of (v := .int .i64 0) ?_, ?_⟩ <;> go_simp
                                        clear hK K hH15
                                        try simp only [Act.put, List.setIfInBounds_toArray, List.set_cons_zero, List.set_cons_succ, List.getElem_toArray, List.getElem_cons_succ, List.getElem_cons_zero]
                                        refine wpAnyH_ready (rs := [9]) (by kernel_rfl) (by simp) ?_
                                        refine AllReadyH.cons rfl (fun K hK => ?_) AllReadyH.nil
                                        rw [if_pos (by rfl)]
                                        simp only [List.getElem_toArray, List.getElem_cons_succ, List.getElem_cons_zero]
                                        go_simp
                                        (go_at_call 120; refine (refLight_calls qk _).mono ?_; rintro e wc20 ⟨rfl, kc20⟩)
                                        try go_wp2_with fail
                                        refine hK.out _ _ ?_ (fun hH20 => ?_)
                                        · exact ⟨hH19.1.trans kc20, HA.step (hH19.1.trans kc20)⟩
                                        replace hP := hP.step kc20
                                        replace hQ := hQ.step kc20
                                        clear hK K hH19
                                        try simp only [Act.put, List.setIfInBounds_toArray, List.set_cons_zero, List.set_cons_succ, List.getElem_toArray, List.getElem_cons_succ, List.getElem_cons_zero]
                                        have hP0 := hP
                                        obtain ⟨_, cp0, fp0⟩ := hP0
                                        have hY := hQ.past hne
                                        skip
                                        refine wpAnyH_ready (rs := [12]) (by kernel_rfl) (by simp) ?_
                                        refine AllReadyH.cons rfl (fun K hK => ?_) AllReadyH.nil
                                        rw [if_pos (by rfl)]
                                        simp only [List.getElem_toArray, List.getElem_cons_succ, List.getElem_cons_zero]
                                        go_simp
                                        refine hK.out _ _ ?_ (fun hS1 => ?_)
                                        · exact ⟨kept_set1 hH20.1 hp _, HA.step (kept_set1 hH20.1 hp _)⟩
                                        clear hK K
                                        try simp only [Act.put, List.setIfInBounds_toArray, List.set_cons_zero, List.set_cons_succ, List.getElem_toArray, List.getElem_cons_succ, List.getElem_cons_zero]
                                        refine wpAnyH_ready (rs := [13]) (by kernel_rfl) (by simp) ?_
                                        refine AllReadyH.cons rfl (fun K hK => ?_) AllReadyH.nil
                                        rw [if_pos (by rfl)]
                                        simp only [List.getElem_toArray, List.getElem_cons_succ, List.getElem_cons_zero]
                                        go_simp
                                        refine hK.out _ _ ?_ (fun hS2 => ?_)
                                        · exact ⟨kept_set1 hS1.1 hq _, HA.step (kept_set1 hS1.1 hq _)⟩
                                        clear hK K
                                        try simp only [Act.put, List.setIfInBounds_toArray, List.set_cons_zero, List.set_cons_succ, List.getElem_toArray, List.getElem_cons_succ, List.getElem_cons_zero]
                                        refine wpAnyH_done (by kernel_rfl) ?_ _
                                        obtain ⟨y0, y1⟩ := FrT1.two hP hQ hne (.int .i64 (lightX qi.ms)) (.int .i64 (lightX qk.ms))
                                        go_wp2_with fail
                                        go_meet
                                        case rel => exact ⟨_, _, rfl, rfl, hS2.1, hp, hq, y0, y1⟩
                            · skip
                              as_aux_lemma =>
                                rw [if_pos (by rfl)]
                                simp only [List.getElem_toArray, List.getElem_cons_succ, List.getElem_cons_zero]
                                go_simp
                                refine hK.out _ _ ?_ (fun hH21 => ?_)
                                · exact ⟨hH0.1.alloc _ _, HA.step (hH0.1.alloc _ _)⟩
                                have hp : wA.heap.size ≤ wA.heap.size := Nat.le_trans hH0.1.below.size (Nat.le_of_eq (by simp))
                                have hP : FrT1 wA (wA.heap.size) (wA.drew.alloc (.cells #[.int .i64 0] 3)) := by refine ⟨hH0.1.alloc _ _, cellV_of (v := .int .i64 0) ?_, ?_⟩ <;> go_simp
                                clear hK K hH0
                                try simp only [Act.put, List.setIfInBounds_toArray, List.set_cons_zero, List.set_cons_succ, List.getElem_toArray, List.getElem_cons_succ, List.getElem_cons_zero]
                                refine wpAnyH_ready (rs := [4, 11]) (by kernel_rfl) (by simp) ?_
                                refine AllReadyH.cons rfl (fun K hK => ?_) (AllReadyH.cons rfl (fun K hK => ?_) AllReadyH.nil)
                                · skip
                                  as_aux_lemma =>
                                    rw [if_pos (by rfl)]
                                    simp only [List.getElem_toArray, List.getElem_cons_succ, List.getElem_cons_zero]
                                    go_simp
                                    (go_at_call 120; refine (refLight_calls qi _).mono ?_; rintro e wc22 ⟨rfl, kc22⟩)
                                    try go_wp2_with fail
                                    refine hK.out _ _ ?_ (fun hH22 => ?_)
                                    · exact ⟨hH21.1.trans kc22, HA.step (hH21.1.trans kc22)⟩
                                    replace hP := hP.step kc22
                                    clear hK K hH21
                                    try simp only [Act.put, List.setIfInBounds_toArray, List.set_cons_zero, List.set_cons_succ, List.getElem_toArray, List.getElem_cons_succ, List.getElem_cons_zero]
                                    refine wpAnyH_ready (rs := [9, 11]) (by kernel_rfl) (by simp) ?_
                                    refine AllReadyH.cons rfl (fun K hK => ?_) (AllReadyH.cons rfl (fun K hK => ?_) AllReadyH.nil)
                                    · skip
                                      as_aux_lemma =>
                                        rw [if_pos (by rfl)]
                                        simp only [List.getElem_toArray, List.getElem_cons_succ, List.getElem_cons_zero]
                                        go_simp
                                        (go_at_call 120; refine (refLight_calls qk _).mono ?_; rintro e wc23 ⟨rfl, kc23⟩)
                                        try go_wp2_with fail
                                        refine hK.out _ _ ?_ (fun hH23 => ?_)
                                        · exact ⟨hH22.1.trans kc23, HA.step (hH22.1.trans kc23)⟩
                                        replace hP := hP.step kc23
                                        clear hK K hH22
                                        try simp only [Act.put, List.setIfInBounds_toArray, List.set_cons_zero, List.set_cons_succ, List.getElem_toArray, List.getElem_cons_succ, List.getElem_cons_zero]
                                        refine wpAnyH_ready (rs := [11]) (by kernel_rfl) (by simp) ?_
                                        refine AllReadyH.cons rfl (fun K hK => ?_) AllReadyH.nil
                                        rw [if_pos (by rfl)]
                                        simp only [List.getElem_toArray, List.getElem_cons_succ, List.getElem_cons_zero]
                                        go_simp
                                        refine hK.out _ _ ?_ (fun hH24 => ?_)
                                        · exact ⟨hH23.1.alloc _ _, HA.step (hH23.1.alloc _ _)⟩
                                        have hq : wA.heap.size ≤ wc23.heap.size := Nat.le_trans hH23.1.below.size (Nat.le_of_eq (by simp))
                                        have hlt := World.block_lt_of_cell? _ _ hP.2.1
                                        simp at hlt
                                        have hne : wA.heap.size ≠ wc23.heap.size := by omega
                                        clear hlt
                                        replace hP := hP.step ((Kept.refl _).alloc #[.int .i64 0] 3)
                                        have hQ : FrT1 wA (wc23.heap.size) (wc23.alloc (.cells #[.int .i64 0] 3)) := by refine ⟨hH23.1.alloc _ _, cellV_of (v := .int .i64 0) ?_, ?_⟩ <;> go_simp
                                        clear hK K hH23
                                        try simp only [Act.put, List.setIfInBounds_toArray, List.set_cons_zero, List.set_cons_succ, List.getElem_toArray, List.getElem_cons_succ, List.getElem_cons_zero]
                                        generalize (wc23.alloc (.cells #[.int .i64 0] 3)) = wz25 at hH24 hP hQ ⊢
                                        have hP0 := hP
                                        obtain ⟨_, cp0, fp0⟩ := hP0
                                        have hY := hQ.past hne
                                        skip
                                        refine wpAnyH_ready (rs := [12]) (by kernel_rfl) (by simp) ?_
                                        refine AllReadyH.cons rfl (fun K hK => ?_) AllReadyH.nil
                                        rw [if_pos (by rfl)]
                                        simp only [List.getElem_toArray, List.getElem_cons_succ, List.getElem_cons_zero]
                                        go_simp
                                        refine hK.out _ _ ?_ (fun hS1 => ?_)
                                        · exact ⟨kept_set1 hH24.1 hp _, HA.step (kept_set1 hH24.1 hp _)⟩
                                        clear hK K
                                        try simp only [Act.put, List.setIfInBounds_toArray, List.set_cons_zero, List.set_cons_succ, List.getElem_toArray, List.getElem_cons_succ, List.getElem_cons_zero]
                                        refine wpAnyH_ready (rs := [13]) (by kernel_rfl) (by simp) ?_
                                        refine AllReadyH.cons rfl (fun K hK => ?_) AllReadyH.nil
                                        rw [if_pos (by rfl)]
                                        simp only [List.getElem_toArray, List.getElem_cons_succ, List.getElem_cons_zero]
                                        go_simp
                                        refine hK.out _ _ ?_ (fun hS2 => ?_)
                                        · exact ⟨kept_set1 hS1.1 hq _, HA.step (kept_set1 hS1.1 hq _)⟩
                                        clear hK K
                                        try simp only [Act.put, List.setIfInBounds_toArray, List.set_cons_zero, List.set_cons_succ, List.getElem_toArray, List.getElem_cons_succ, List.getElem_cons_zero]
                                        refine wpAnyH_done (by kernel_rfl) ?_ _
                                        obtain ⟨y0, y1⟩ := FrT1.two hP hQ hne (.int .i64 (lightX qi.ms)) (.int .i64 (lightX qk.ms))
                                        go_wp2_with fail
                                        go_meet
                                        case rel => exact ⟨_, _, rfl, rfl, hS2.1, hp, hq, y0, y1⟩
                                    · skip
                                      as_aux_lemma =>
                                        rw [if_pos (by rfl)]
                                        simp only [List.getElem_toArray, List.getElem_cons_succ, List.getElem_cons_zero]
                                        go_simp
                                        refine hK.out _ _ ?_ (fun hH26 => ?_)
                                        · exact ⟨hH22.1.alloc _ _, HA.step (hH22.1.alloc _ _)⟩
                                        have hq : wA.heap.size ≤ wc22.heap.size := Nat.le_trans hH22.1.below.size (Nat.le_of_eq (by simp))
                                        have hlt := World.block_lt_of_cell? _ _ hP.2.1
                                        simp at hlt
                                        have hne : wA.heap.size ≠ wc22.heap.size := by omega
                                        clear hlt
                                        replace hP := hP.step ((Kept.refl _).alloc #[.int .i64 0] 3)
                                        have hQ : FrT1 wA (wc22.heap.size) (wc22.alloc (.cells #[.int .i64 0] 3)) := by refine ⟨hH22.1.alloc _ _, cellV_of (v := .int .i64 0) ?_, ?_⟩ <;> go_simp
                                        clear hK K hH22
                                        try simp only [Act.put, List.setIfInBounds_toArray, List.set_cons_zero, List.set_cons_succ, List.getElem_toArray, List.getElem_cons_succ, List.getElem_cons_zero]
                                        refine wpAnyH_ready (rs := [9]) (by kernel_rfl) (by simp) ?_
                                        refine AllReadyH.cons rfl (fun K hK => ?_) AllReadyH.nil
                                        rw [if_pos (by rfl)]
                                        simp only [List.getElem_toArray, List.getElem_cons_succ, List.getElem_cons_zero]
                                        go_simp
                                        (go_at_call 120; refine (refLight_calls qk _).mono ?_; rintro e wc27 ⟨rfl, kc27⟩)
                                        try go_wp2_with fail
                                        refine hK.out _ _ ?_ (fun hH27 => ?_)
                                        · exact ⟨hH26.1.trans kc27, HA.step (hH26.1.trans kc27)⟩
                                        replace hP := hP.step kc27
                                        replace hQ := hQ.step kc27
                                        clear hK K hH26
                                        try simp only [Act.put, List.setIfInBounds_toArray, List.set_cons_zero, List.set_cons_succ, List.getElem_toArray, List.getElem_cons_succ, List.getElem_cons_zero]
                                        have hP0 := hP
                                        obtain ⟨_, cp0, fp0⟩ := hP0
                                        have hY := hQ.past hne
                                        skip
                                        refine wpAnyH_ready (rs := [12]) (by kernel_rfl) (by simp) ?_
                                        refine AllReadyH.cons rfl (fun K hK => ?_) AllReadyH.nil
                                        rw [if_pos (by rfl)]
                                        simp only [List.getElem_toArray, List.getElem_cons_succ, List.getElem_cons_zero]
                                        go_simp
                                        refine hK.out _ _ ?_ (fun hS1 => ?_)
                                        · exact ⟨kept_set1 hH27.1 hp _, HA.step (kept_set1 hH27.1 hp _)⟩
                                        clear hK K
                                        try simp only [Act.put, List.setIfInBounds_toArray, List.set_cons_zero, List.set_cons_succ, List.getElem_toArray, List.getElem_cons_succ, List.getElem_cons_zero]
                                        refine wpAnyH_ready (rs := [13]) (by kernel_rfl) (by simp) ?_
                                        refine AllReadyH.cons rfl (fun K hK => ?_) AllReadyH.nil
                                        rw [if_pos (by rfl)]
                                        simp only [List.getElem_toArray, List.getElem_cons_succ, List.getElem_cons_zero]
                                        go_simp
                                        refine hK.out _ _ ?_ (fun hS2 => ?_)
                                        · exact ⟨kept_set1 hS1.1 hq _, HA.step (kept_set1 hS1.1 hq _)⟩
                                        clear hK K
                                        try simp only [Act.put, List.setIfInBounds_toArray, List.set_cons_zero, List.set_cons_succ, List.getElem_toArray, List.getElem_cons_succ, List.getElem_cons_zero]
                                        refine wpAnyH_done (by kernel_rfl) ?_ _
                                        obtain ⟨y0, y1⟩ := FrT1.two hP hQ hne (.int .i64 (lightX qi.ms)) (.int .i64 (lightX qk.ms))
                                        go_wp2_with fail
                                        go_meet
                                        case rel => exact ⟨_, _, rfl, rfl, hS2.1, hp, hq, y0, y1⟩
                                · skip
                                  as_aux_lemma =>
                                    rw [if_pos (by rfl)]
                                    simp only [List.getElem_toArray, List.getElem_cons_succ, List.getElem_cons_zero]
                                    go_simp
                                    refine hK.out _ _ ?_ (fun hH28 => ?_)
                                    · exact ⟨hH21.1.alloc _ _, HA.step (hH21.1.alloc _ _)⟩
                                    have hq : wA.heap.size ≤ wA.heap.size + 1 := Nat.le_trans hH21.1.below.size (Nat.le_of_eq (by simp))
                                    have hlt := World.block_lt_of_cell? _ _ hP.2.1
                                    simp at hlt
                                    have hne : wA.heap.size ≠ wA.heap.size + 1 := by omega
                                    clear hlt
                                    replace hP := hP.step ((Kept.refl _).alloc #[.int .i64 0] 3)
                                    have hQ : FrT1 wA (wA.heap.size + 1) ((wA.drew.alloc (.cells #[.int .i64 0] 3)).alloc (.cells #[.int .i64 0] 3)) := by refine ⟨hH21.1.alloc _ _, cellV_of (v := .int .i64 0) ?_, ?_⟩ <;> go_simp
                                    clear hK K hH21
                                    try simp only [Act.put, List.setIfInBounds_toArray, List.set_cons_zero, List.set_cons_succ, List.getElem_toArray, List.getElem_cons_succ, List.getElem_cons_zero]
                                    refine wpAnyH_ready (rs := [4]) (by kernel_rfl) (by simp) ?_
                                    refine AllReadyH.cons rfl (fun K hK => ?_) AllReadyH.nil
                                    rw [if_pos (by rfl)]
                                    simp only [List.getElem_toArray, List.getElem_cons_succ, List.getElem_cons_zero]
                                    go_simp
                                    (go_at_call 120; refine (refLight_calls qi _).mono ?_; rintro e wc29 ⟨rfl, kc29⟩)
                                    try go_wp2_with fail
                                    refine hK.out _ _ ?_ (fun hH29 => ?_)
                                    · exact ⟨hH28.1.trans kc29, HA.step (hH28.1.trans kc29)⟩
                                    replace hP := hP.step kc29
                                    replace hQ := hQ.step kc29
                                    clear hK K hH28
                                    try simp only [Act.put, List.setIfInBounds_toArray, List.set_cons_zero, List.set_cons_succ, List.getElem_toArray, List.getElem_cons_succ, List.getElem_cons_zero]
                                    refine wpAnyH_ready (rs := [9]) (by kernel_rfl) (by simp) ?_
                                    refine AllReadyH.cons rfl (fun K hK => ?_) AllReadyH.nil
                                    rw [if_pos (by rfl)]
                                    simp only [List.getElem_toArray, List.getElem_cons_succ, List.getElem_cons_zero]
                                    go_simp
                                    (go_at_call 120; refine (refLight_calls qk _).mono ?_; rintro e wc30 ⟨rfl, kc30⟩)
                                    try go_wp2_with fail
                                    refine hK.out _ _ ?_ (fun hH30 => ?_)
                                    · exact ⟨hH29.1.trans kc30, HA.step (hH29.1.trans kc30)⟩
                                    replace hP := hP.step kc30
                                    replace hQ := hQ.step kc30
                                    clear hK K hH29
                                    try simp only [Act.put, List.setIfInBounds_toArray, List.set_cons_zero, List.set_cons_succ, List.getElem_toArray, List.getElem_cons_succ, List.getElem_cons_zero]
                                    have hP0 := hP
                                    obtain ⟨_, cp0, fp0⟩ := hP0
                                    have hY := hQ.past hne
                                    skip
                                    refine wpAnyH_ready (rs := [12]) (by kernel_rfl) (by simp) ?_
                                    refine AllReadyH.cons rfl (fun K hK => ?_) AllReadyH.nil
                                    rw [if_pos (by rfl)]
                                    simp only [List.getElem_toArray, List.getElem_cons_succ, List.getElem_cons_zero]
                                    go_simp
                                    refine hK.out _ _ ?_ (fun hS1 => ?_)
                                    · exact ⟨kept_set1 hH30.1 hp _, HA.step (kept_set1 hH30.1 hp _)⟩
                                    clear hK K
                                    try simp only [Act.put, List.setIfInBounds_toArray, List.set_cons_zero, List.set_cons_succ, List.getElem_toArray, List.getElem_cons_succ, List.getElem_cons_zero]
                                    refine wpAnyH_ready (rs := [13]) (by kernel_rfl) (by simp) ?_
                                    refine AllReadyH.cons rfl (fun K hK => ?_) AllReadyH.nil
                                    rw [if_pos (by rfl)]
                                    simp only [List.getElem_toArray, List.getElem_cons_succ, List.getElem_cons_zero]
                                    go_simp
                                    refine hK.out _ _ ?_ (fun hS2 => ?_)
                                    · exact ⟨kept_set1 hS1.1 hq _, HA.step (kept_set1 hS1.1 hq _)⟩
                                    clear hK K
                                    try simp only [Act.put, List.setIfInBounds_toArray, List.set_cons_zero, List.set_cons_succ, List.getElem_toArray, List.getElem_cons_succ, List.getElem_cons_zero]
                                    refine wpAnyH_done (by kernel_rfl) ?_ _
                                    obtain ⟨y0, y1⟩ := FrT1.two hP hQ hne (.int .i64 (lightX qi.ms)) (.int .i64 (lightX qk.ms))
                                    go_wp2_with fail
                                    go_meet
                                    case rel => exact ⟨_, _, rfl, rfl, hS2.1, hp, hq, y0, y1⟩
                            · skip
                              as_aux_lemma =>
                                rw [if_pos (by rfl)]
                                simp only [List.getElem_toArray, List.getElem_cons_succ, List.getElem_cons_zero]
                                go_simp
                                refine hK.out _ _ ?_ (fun hH31 => ?_)
                                · exact ⟨hH0.1.alloc _ _, HA.step (hH0.1.alloc _ _)⟩
                                have hq : wA.heap.size ≤ wA.heap.size := Nat.le_trans hH0.1.below.size (Nat.le_of_eq (by simp))
                                have hQ : FrT1 wA (wA.heap.size) (wA.drew.alloc (.cells #[.int .i64 0] 3)) := by refine ⟨hH0.1.alloc _ _, cellV_of (v := .int .i64 0) ?_, ?_⟩ <;> go_simp
                                clear hK K hH0
                                try simp only [Act.put, List.setIfInBounds_toArray, List.set_cons_zero, List.set_cons_succ, List.getElem_toArray, List.getElem_cons_succ, List.getElem_cons_zero]
                                refine wpAnyH_ready (rs := [4, 10]) (by kernel_rfl) (by simp) ?_
                                refine AllReadyH.cons rfl (fun K hK => ?_) (AllReadyH.cons rfl (fun K hK => ?_) AllReadyH.nil)
                                · skip
                                  as_aux_lemma =>
                                    rw [if_pos (by rfl)]
                                    simp only [List.getElem_toArray, List.getElem_cons_succ, List.getElem_cons_zero]
                                    go_simp
                                    (go_at_call 120; refine (refLight_calls qi _).mono ?_; rintro e wc32 ⟨rfl, kc32⟩)
                                    try go_wp2_with fail
                                    refine hK.out _ _ ?_ (fun hH32 => ?_)
                                    · exact ⟨hH31.1.trans kc32, HA.step (hH31.1.trans kc32)⟩
                                    replace hQ := hQ.step kc32
                                    clear hK K hH31
                                    try simp only [Act.put, List.setIfInBounds_toArray, List.set_cons_zero, List.set_cons_succ, List.getElem_toArray, List.getElem_cons_succ, List.getElem_cons_zero]
                                    refine wpAnyH_ready (rs := [9, 10]) (by kernel_rfl) (by simp) ?_
                                    refine AllReadyH.cons rfl (fun K hK => ?_) (AllReadyH.cons rfl (fun K hK => ?_) AllReadyH.nil)
                                    · skip
                                      as_aux_lemma =>
                                        rw [if_pos (by rfl)]
                                        simp only [List.getElem_toArray, List.getElem_cons_succ, List.getElem_cons_zero]
                                        go_simp
                                        (go_at_call 120; refine (refLight_calls qk _).mono ?_; rintro e wc33 ⟨rfl, kc33⟩)
                                        try go_wp2_with fail
                                        refine hK.out _ _ ?_ (fun hH33 => ?_)
                                        · exact ⟨hH32.1.trans kc33, HA.step (hH32.1.trans kc33)⟩
                                        replace hQ := hQ.step kc33
                                        clear hK K hH32
                                        try simp only [Act.put, List.setIfInBounds_toArray, List.set_cons_zero, List.set_cons_succ, List.getElem_toArray, List.getElem_cons_succ, List.getElem_cons_zero]
                                        refine wpAnyH_ready (rs := [10]) (by kernel_rfl) (by simp) ?_
                                        refine AllReadyH.cons rfl (fun K hK => ?_) AllReadyH.nil
                                        rw [if_pos (by rfl)]
                                        simp only [List.getElem_toArray, List.getElem_cons_succ, List.getElem_cons_zero]
                                        go_simp
                                        refine hK.out _ _ ?_ (fun hH34 => ?_)
                                        · exact ⟨hH33.1.alloc _ _, HA.step (hH33.1.alloc _ _)⟩
                                        have hp : wA.heap.size ≤ wc33.heap.size := Nat.le_trans hH33.1.below.size (Nat.le_of_eq (by simp))
                                        have hlt := World.block_lt_of_cell? _ _ hQ.2.1
                                        simp at hlt
                                        have hne : wc33.heap.size ≠ wA.heap.size := by omega
                                        clear hlt
                                        replace hQ := hQ.step ((Kept.refl _).alloc #[.int .i64 0] 3)
                                        have hP : FrT1 wA (wc33.heap.size) (wc33.alloc (.cells #[.int .i64 0] 3)) := by refine ⟨hH33.1.alloc _ _, cellV_of (v := .int .i64 0) ?_, ?_⟩ <;> go_simp
                                        clear hK K hH33
                                        try simp only [Act.put, List.setIfInBounds_toArray, List.set_cons_zero, List.set_cons_succ, List.getElem_toArray, List.getElem_cons_succ, List.getElem_cons_zero]
                                        generalize (wc33.alloc (.cells #[.int .i64 0] 3)) = wz35 at hH34 hP hQ ⊢
                                        have hP0 := hP
                                        obtain ⟨_, cp0, fp0⟩ := hP0
                                        have hY := hQ.past hne
                                        skip
                                        refine wpAnyH_ready (rs := [12]) (by kernel_rfl) (by simp) ?_
                                        refine AllReadyH.cons rfl (fun K hK => ?_) AllReadyH.nil
                                        rw [if_pos (by rfl)]
                                        simp only [List.getElem_toArray, List.getElem_cons_succ, List.getElem_cons_zero]
                                        go_simp
                                        refine hK.out _ _ ?_ (fun hS1 => ?_)
                                        · exact ⟨kept_set1 hH34.1 hp _, HA.step (kept_set1 hH34.1 hp _)⟩
                                        clear hK K
                                        try simp only [Act.put, List.setIfInBounds_toArray, List.set_cons_zero, List.set_cons_succ, List.getElem_toArray, List.getElem_cons_succ, List.getElem_cons_zero]
                                        refine wpAnyH_ready (rs := [13]) (by kernel_rfl) (by simp) ?_
                                        refine AllReadyH.cons rfl (fun K hK => ?_) AllReadyH.nil
                                        rw [if_pos (by rfl)]
                                        simp only [List.getElem_toArray, List.getElem_cons_succ, List.getElem_cons_zero]
                                        go_simp
                                        refine hK.out _ _ ?_ (fun hS2 => ?_)
                                        · exact ⟨kept_set1 hS1.1 hq _, HA.step (kept_set1 hS1.1 hq _)⟩
                                        clear hK K
                                        try simp only [Act.put, List.setIfInBounds_toArray, List.set_cons_zero, List.set_cons_succ, List.getElem_toArray, List.getElem_cons_succ, List.getElem_cons_zero]
                                        refine wpAnyH_done (by kernel_rfl) ?_ _
                                        obtain ⟨y0, y1⟩ := FrT1.two hP hQ hne (.int .i64 (lightX qi.ms)) (.int .i64 (lightX qk.ms))
                                        go_wp2_with fail
                                        go_meet
                                        case rel => exact ⟨_, _, rfl, rfl, hS2.1, hp, hq, y0, y1⟩
                                    · skip
                                      as_aux_lemma =>
                                        rw [if_pos (by rfl)]
                                        simp only [List.getElem_toArray, List.getElem_cons_succ, List.getElem_cons_zero]
                                        go_simp
                                        refine hK.out _ _ ?_ (fun hH36 => ?_)
                                        · exact ⟨hH32.1.alloc _ _, HA.step (hH32.1.alloc _ _)⟩
                                        have hp : wA.heap.size ≤ wc32.heap.size := Nat.le_trans hH32.1.below.size (Nat.le_of_eq (by simp))
                                        have hlt := World.block_lt_of_cell? _ _ hQ.2.1
                                        simp at hlt
                                        have hne : wc32.heap.size ≠ wA.heap.size := by omega
                                        clear hlt
                                        replace hQ := hQ.step ((Kept.refl _).alloc #[.int .i64 0] 3)
                                        have hP : FrT1 wA (wc32.heap.size) (wc32.alloc (.cells #[.int .i64 0] 3)) := by refine ⟨hH32.1.alloc _ _, cellV_of (v := .int .i64 0) ?_, ?_⟩ <;> go_simp
                                        clear hK K hH32
                                        try simp only [Act.put, List.setIfInBounds_toArray, List.set_cons_zero, List.set_cons_succ, List.getElem_toArray, List.getElem_cons_succ, List.getElem_cons_zero]
                                        refine wpAnyH_ready (rs := [9]) (by kernel_rfl) (by simp) ?_
                                        refine AllReadyH.cons rfl (fun K hK => ?_) AllReadyH.nil
                                        rw [if_pos (by rfl)]
                                        simp only [List.getElem_toArray, List.getElem_cons_succ, List.getElem_cons_zero]
                                        go_simp
                                        (go_at_call 120; refine (refLight_calls qk _).mono ?_; rintro e wc37 ⟨rfl, kc37⟩)
                                        try go_wp2_with fail
                                        refine hK.out _ _ ?_ (fun hH37 => ?_)
                                        · exact ⟨hH36.1.trans kc37, HA.step (hH36.1.trans kc37)⟩
                                        replace hP := hP.step kc37
                                        replace hQ := hQ.step kc37
                                        clear hK K hH36
                                        try simp only [Act.put, List.setIfInBounds_toArray, List.set_cons_zero, List.set_cons_succ, List.getElem_toArray, List.getElem_cons_succ, List.getElem_cons_zero]
                                        have hP0 := hP
                                        obtain ⟨_, cp0, fp0⟩ := hP0
                                        have hY := hQ.past hne
                                        skip
                                        refine wpAnyH_ready (rs := [12]) (by kernel_rfl) (by simp) ?_
                                        refine AllReadyH.cons rfl (fun K hK => ?_) AllReadyH.nil
                                        rw [if_pos (by rfl)]
                                        simp only [List.getElem_toArray, List.getElem_cons_succ, List.getElem_cons_zero]
                                        go_simp
                                        refine hK.out _ _ ?_ (fun hS1 => ?_)
                                        · exact ⟨kept_set1 hH37.1 hp _, HA.step (kept_set1 hH37.1 hp _)⟩
                                        clear hK K
                                        try simp only [Act.put, List.setIfInBounds_toArray, List.set_cons_zero, List.set_cons_succ, List.getElem_toArray, List.getElem_cons_succ, List.getElem_cons_zero]
                                        refine wpAnyH_ready (rs := [13]) (by kernel_rfl) (by simp) ?_
                                        refine AllReadyH.cons rfl (fun K hK => ?_) AllReadyH.nil
                                        rw [if_pos (by rfl)]
                                        simp only [List.getElem_toArray, List.getElem_cons_succ, List.getElem_cons_zero]
                                        go_simp
                                        refine hK.out _ _ ?_ (fun hS2 => ?_)
                                        · exact ⟨kept_set1 hS1.1 hq _, HA.step (kept_set1 hS1.1 hq _)⟩
                                        clear hK K
                                        try simp only [Act.put, List.setIfInBounds_toArray, List.set_cons_zero, List.set_cons_succ, List.getElem_toArray, List.getElem_cons_succ, List.getElem_cons_zero]
                                        refine wpAnyH_done (by kernel_rfl) ?_ _
                                        obtain ⟨y0, y1⟩ := FrT1.two hP hQ hne (.int .i64 (lightX qi.ms)) (.int .i64 (lightX qk.ms))
                                        go_wp2_with fail
                                        go_meet
                                        case rel => exact ⟨_, _, rfl, rfl, hS2.1, hp, hq, y0, y1⟩
                                · skip
                                  as_aux_lemma =>
                                    rw [if_pos (by rfl)]
                                    simp only [List.getElem_toArray, List.getElem_cons_succ, List.getElem_cons_zero]
                                    go_simp
                                    refine hK.out _ _ ?_ (fun hH38 => ?_)
                                    · exact ⟨hH31.1.alloc _ _, HA.step (hH31.1.alloc _ _)⟩
                                    have hp : wA.heap.size ≤ wA.heap.size + 1 := Nat.le_trans hH31.1.below.size (Nat.le_of_eq (by simp))
                                    have hlt := World.block_lt_of_cell? _ _ hQ.2.1
                                    simp at hlt
                                    have hne : wA.heap.size + 1 ≠ wA.heap.size := by omega
                                    clear hlt
                                    replace hQ := hQ.step ((Kept.refl _).alloc #[.int .i64 0] 3)
                                    have hP : FrT1 wA (wA.heap.size + 1) ((wA.drew.alloc (.cells #[.int .i64 0] 3)).alloc (.cells #[.int .i64 0] 3)) := by refine ⟨hH31.1.alloc _ _, cellV_of (v := .int .i64 0) ?_, ?_⟩ <;> go_simp
                                    clear hK K hH31
                                    try simp only [Act.put, List.setIfInBounds_toArray, List.set_cons_zero, List.set_cons_succ, List.getElem_toArray, List.getElem_cons_succ, List.getElem_cons_zero]
                                    refine wpAnyH_ready (rs := [4]) (by kernel_rfl) (by simp) ?_
                                    refine AllReadyH.cons rfl (fun K hK => ?_) AllReadyH.nil
                                    rw [if_pos (by rfl)]
                                    simp only [List.getElem_toArray, List.getElem_cons_succ, List.getElem_cons_zero]
                                    go_simp
                                    (go_at_call 120; refine (refLight_calls qi _).mono ?_; rintro e wc39 ⟨rfl, kc39⟩)
                                    try go_wp2_with fail
                                    refine hK.out _ _ ?_ (fun hH39 => ?_)
                                    · exact ⟨hH38.1.trans kc39, HA.step (hH38.1.trans kc39)⟩
                                    replace hP := hP.step kc39
                                    replace hQ := hQ.step kc39
                                    clear hK K hH38
                                    try simp only [Act.put, List.setIfInBounds_toArray, List.set_cons_zero, List.set_cons_succ, List.getElem_toArray, List.getElem_cons_succ, List.getElem_cons_zero]
                                    refine wpAnyH_ready (rs := [9]) (by kernel_rfl) (by simp) ?_
                                    refine AllReadyH.cons rfl (fun K hK => ?_) AllReadyH.nil
                                    rw [if_pos (by rfl)]
                                    simp only [List.getElem_toArray, List.getElem_cons_succ, List.getElem_cons_zero]
                                    go_simp
                                    (go_at_call 120; refine (refLight_calls qk _).mono ?_; rintro e wc40 ⟨rfl, kc40⟩)
                                    try go_wp2_with fail
                                    refine hK.out _ _ ?_ (fun hH40 => ?_)
                                    · exact ⟨hH39.1.trans kc40, HA.step (hH39.1.trans kc40)⟩
                                    replace hP := hP.step kc40
                                    replace hQ := hQ.step kc40
                                    clear hK K hH39
                                    try simp only [Act.put, List.setIfInBounds_toArray, List.set_cons_zero, List.set_cons_succ, List.getElem_toArray, List.getElem_cons_succ, List.getElem_cons_zero]
                                    have hP0 := hP
                                    obtain ⟨_, cp0, fp0⟩ := hP0
                                    have hY := hQ.past hne
                                    skip
                                    refine wpAnyH_ready (rs := [12]) (by kernel_rfl) (by simp) ?_
                                    refine AllReadyH.cons rfl (fun K hK => ?_) AllReadyH.nil
                                    rw [if_pos (by rfl)]
                                    simp only [List.getElem_toArray, List.getElem_cons_succ, List.getElem_cons_zero]
                                    go_simp
                                    refine hK.out _ _ ?_ (fun hS1 => ?_)
                                    · exact ⟨kept_set1 hH40.1 hp _, HA.step (kept_set1 hH40.1 hp _)⟩
                                    clear hK K
                                    try simp only [Act.put, List.setIfInBounds_toArray, List.set_cons_zero, List.set_cons_succ, List.getElem_toArray, List.getElem_cons_succ, List.getElem_cons_zero]
                                    refine wpAnyH_ready (rs := [13]) (by kernel_rfl) (by simp) ?_
                                    refine AllReadyH.cons rfl (fun K hK => ?_) AllReadyH.nil
                                    rw [if_pos (by rfl)]
                                    simp only [List.getElem_toArray, List.getElem_cons_succ, List.getElem_cons_zero]
                                    go_simp
                                    refine hK.out _ _ ?_ (fun hS2 => ?_)
                                    · exact ⟨kept_set1 hS1.1 hq _, HA.step (kept_set1 hS1.1 hq _)⟩
                                    clear hK K
                                    try simp only [Act.put, List.setIfInBounds_toArray, List.set_cons_zero, List.set_cons_succ, List.getElem_toArray, List.getElem_cons_succ, List.getElem_cons_zero]
                                    refine wpAnyH_done (by kernel_rfl) ?_ _
                                    obtain ⟨y0, y1⟩ := FrT1.two hP hQ hne (.int .i64 (lightX qi.ms)) (.int .i64 (lightX qk.ms))
                                    go_wp2_with fail
                                    go_meet
                                    case rel => exact ⟨_, _, rfl, rfl, hS2.1, hp, hq, y0, y1⟩
                        case rest =>
                          obtain ⟨kx, ky, rfl, rfl, k11, hkx, hky, cx, cy⟩ := hcut
                          have HRC : Hid (RC w g n kb kl c1 bo ru R kt t ki kk i k kx ky (lightX qi.ms) (lightX qk.ms) C wc) := ⟨HR1.out.keep (Only.of_kept k11), cx, cy, by have := HR1.out.own.lt; omega, by have := HR1.out.own.lt; omega⟩
                          clear k11 hkx hky HA HLI HLK HR1
                          generalize hx : lightX qi.ms = x at HE HRC cx
                          generalize hy : lightX qk.ms = y at HE HRC cy
                          clear hx hy
                          obtain ⟨w5, hw5⟩ : ∃ w5, w5 = wc := ⟨_, rfl⟩
                          subst hw5
                          go_wp2_with fail
                          refine (refAdd_calls x y _).mono ?_
                          rintro e w6 ⟨rfl, hw6⟩
                          subst hw6
                          clear cx cy
                          generalize hal : add x y = al at HE
                          clear hal
                          go_upto_region 13 with fail
                          have HLI : Hid (∀ w', Kept w6 w' → SpOf w' g i qi) := fun w' o => HRC.out.b.own.sp HIK.out.1 HQQ.out.1 o
                          have HLK : Hid (∀ w', Kept w6 w' → SpOf w' g k qk) := fun w' o => HRC.out.b.own.sp HIK.out.2 HQQ.out.2 o
                          have HK : Hid (∀ w', Kept w6 w' → Kept w6 w' ∧ (w'.cell? ⟨kl, 0, none⟩ = some (.slice (some ⟨g, 0, none⟩) n c1) ∧ w'.cell? ⟨ki, 0, none⟩ = some (.int .i64 ((i : Int))) ∧ w'.cell? ⟨kk, 0, none⟩ = some (.int .i64 ((k : Int)))) ∧ w'.cell? ⟨kt, 2, none⟩ = some (.int .i64 (t.way.x)) ∧ w'.cell? ⟨kt, 3, none⟩ = some (.int .i64 (t.way.y)) ∧ w'.cell? ⟨kt, 4, none⟩ = some (.int .i64 (t.way.z))) := fun w' o => ⟨o, ⟨kept_cell o HRC.out.b.q.var, kept_cell o HRC.out.b.vi, kept_cell o HRC.out.b.vk⟩, kept_cell o (HRC.out.b.tc.off 2), kept_cell o (HRC.out.b.tc.off 3), kept_cell o (HRC.out.b.tc.off 4)⟩
                          refine wp_region_held_drew (S := (fun w' => Kept w6 w' ∧ (w'.cell? ⟨kl, 0, none⟩ = some (.slice (some ⟨g, 0, none⟩) n c1) ∧ w'.cell? ⟨ki, 0, none⟩ = some (.int .i64 ((i : Int))) ∧ w'.cell? ⟨kk, 0, none⟩ = some (.int .i64 ((k : Int)))) ∧ w'.cell? ⟨kt, 2, none⟩ = some (.int .i64 (t.way.x)) ∧ w'.cell? ⟨kt, 3, none⟩ = some (.int .i64 (t.way.y)) ∧ w'.cell? ⟨kt, 4, none⟩ = some (.int .i64 (t.way.z)))) (by kernel_rfl) ?_ (fun hHeld1 => ?_)
                          · (try dsimp only); exact HK.out _ (Kept.refl _).drew
                          refine wpAnyH_take (i := 0) (v := ?_) rfl (by kernel_rfl) (by kernel_rfl) (by kernel_rfl) (fun _ _ _ h => h) (Or.inl ⟨by kernel_rfl, ?_⟩) (by assumption) ?_
                          rotate_left
                          · intro w'' hSw; (try dsimp only at hSw); simp only [List.getElem_toArray, List.getElem_cons_succ, List.getElem_cons_zero]; (go_simp <;> with_reducible rfl)
                          try simp only [Act.put, List.setIfInBounds_toArray, List.set_cons_zero, List.set_cons_succ, List.getElem_toArray, List.getElem_cons_succ, List.getElem_cons_zero]
                          refine wpAnyH_take (i := 1) (v := ?_) rfl (by kernel_rfl) (by kernel_rfl) (by kernel_rfl) (fun _ _ _ h => h) (Or.inl ⟨by kernel_rfl, ?_⟩) (by assumption) ?_
                          rotate_left
                          · intro w'' hSw; (try dsimp only at hSw); simp only [List.getElem_toArray, List.getElem_cons_succ, List.getElem_cons_zero]; (go_simp <;> with_reducible rfl)
                          try simp only [Act.put, List.setIfInBounds_toArray, List.set_cons_zero, List.set_cons_succ, List.getElem_toArray, List.getElem_cons_succ, List.getElem_cons_zero]
                          refine wpAnyH_take (i := 2) (v := ?_) rfl (by kernel_rfl) (by kernel_rfl) (by kernel_rfl) (fun _ _ _ h => h) (Or.inl ⟨by kernel_rfl, ?_⟩) (by assumption) ?_
                          rotate_left
                          · intro w'' hSw; (try dsimp only at hSw); simp only [List.getElem_toArray, List.getElem_cons_succ, List.getElem_cons_zero]; (go_simp <;> with_reducible rfl)
                          try simp only [Act.put, List.setIfInBounds_toArray, List.set_cons_zero, List.set_cons_succ, List.getElem_toArray, List.getElem_cons_succ, List.getElem_cons_zero]
                          refine wpAnyH_take (i := 3) (v := ?_) rfl (by kernel_rfl) (by kernel_rfl) (by kernel_rfl) (fun _ _ _ h => h) (Or.inl ⟨by kernel_rfl, ?_⟩) (by assumption) ?_
                          rotate_left
                          · intro w'' hSw; (try dsimp only at hSw); simp only [List.getElem_toArray, List.getElem_cons_succ, List.getElem_cons_zero]; (go_simp <;> with_reducible rfl)
                          try simp only [Act.put, List.setIfInBounds_toArray, List.set_cons_zero, List.set_cons_succ, List.getElem_toArray, List.getElem_cons_succ, List.getElem_cons_zero]
                          refine wpAnyH_take (i := 4) (v := ?_) rfl (by kernel_rfl) (by kernel_rfl) (by kernel_rfl) (fun _ _ _ h => h) (Or.inl ⟨by kernel_rfl, ?_⟩) (by assumption) ?_
                          rotate_left
                          · intro w'' hSw; (try dsimp only at hSw); obtain ⟨l0, l1, l2⟩ := HLK.out _ hSw.1; simp only [List.getElem_toArray, List.getElem_cons_succ, List.getElem_cons_zero]; (go_simp <;> with_reducible rfl)
                          try simp only [Act.put, List.setIfInBounds_toArray, List.set_cons_zero, List.set_cons_succ, List.getElem_toArray, List.getElem_cons_succ, List.getElem_cons_zero]
                          refine wpAnyH_take (i := 5) (v := ?_) rfl (by kernel_rfl) (by kernel_rfl) (by kernel_rfl) (fun _ _ _ h => h) (Or.inl ⟨by kernel_rfl, ?_⟩) (by assumption) ?_
                          rotate_left
                          · intro w'' hSw; (try dsimp only at hSw); simp only [List.getElem_toArray, List.getElem_cons_succ, List.getElem_cons_zero]; (go_simp <;> with_reducible rfl)
                          try simp only [Act.put, List.setIfInBounds_toArray, List.set_cons_zero, List.set_cons_succ, List.getElem_toArray, List.getElem_cons_succ, List.getElem_cons_zero]
                          refine wpAnyH_take (i := 6) (v := ?_) rfl (by kernel_rfl) (by kernel_rfl) (by kernel_rfl) (fun _ _ _ h => h) (Or.inl ⟨by kernel_rfl, ?_⟩) (by assumption) ?_
                          rotate_left
                          · intro w'' hSw; (try dsimp only at hSw); simp only [List.getElem_toArray, List.getElem_cons_succ, List.getElem_cons_zero]; (go_simp <;> with_reducible rfl)
                          try simp only [Act.put, List.setIfInBounds_toArray, List.set_cons_zero, List.set_cons_succ, List.getElem_toArray, List.getElem_cons_succ, List.getElem_cons_zero]
                          refine wpAnyH_take (i := 7) (v := ?_) rfl (by kernel_rfl) (by kernel_rfl) (by kernel_rfl) (fun _ _ _ h => h) (Or.inl ⟨by kernel_rfl, ?_⟩) (by assumption) ?_
                          rotate_left
                          · intro w'' hSw; (try dsimp only at hSw); simp only [List.getElem_toArray, List.getElem_cons_succ, List.getElem_cons_zero]; (go_simp <;> with_reducible rfl)
                          try simp only [Act.put, List.setIfInBounds_toArray, List.set_cons_zero, List.set_cons_succ, List.getElem_toArray, List.getElem_cons_succ, List.getElem_cons_zero]
                          refine wpAnyH_take (i := 8) (v := ?_) rfl (by kernel_rfl) (by kernel_rfl) (by kernel_rfl) (fun _ _ _ h => h) (Or.inl ⟨by kernel_rfl, ?_⟩) (by assumption) ?_
                          rotate_left
                          · intro w'' hSw; (try dsimp only at hSw); simp only [List.getElem_toArray, List.getElem_cons_succ, List.getElem_cons_zero]; (go_simp <;> with_reducible rfl)
                          try simp only [Act.put, List.setIfInBounds_toArray, List.set_cons_zero, List.set_cons_succ, List.getElem_toArray, List.getElem_cons_succ, List.getElem_cons_zero]
                          refine wpAnyH_take (i := 9) (v := ?_) rfl (by kernel_rfl) (by kernel_rfl) (by kernel_rfl) (fun _ _ _ h => h) (Or.inl ⟨by kernel_rfl, ?_⟩) (by assumption) ?_
                          rotate_left
                          · intro w'' hSw; (try dsimp only at hSw); obtain ⟨l0, l1, l2⟩ := HLI.out _ hSw.1; simp only [List.getElem_toArray, List.getElem_cons_succ, List.getElem_cons_zero]; (go_simp <;> with_reducible rfl)
                          try simp only [Act.put, List.setIfInBounds_toArray, List.set_cons_zero, List.set_cons_succ, List.getElem_toArray, List.getElem_cons_succ, List.getElem_cons_zero]
                          refine wpAnyH_take (i := 11) (v := ?_) rfl (by kernel_rfl) (by kernel_rfl) (by kernel_rfl) (fun _ _ _ h => h) (Or.inl ⟨by kernel_rfl, ?_⟩) (by assumption) ?_
                          rotate_left
                          · intro w'' hSw; (try dsimp only at hSw); simp only [List.getElem_toArray, List.getElem_cons_succ, List.getElem_cons_zero]; (go_simp <;> with_reducible rfl)
                          try simp only [Act.put, List.setIfInBounds_toArray, List.set_cons_zero, List.set_cons_succ, List.getElem_toArray, List.getElem_cons_succ, List.getElem_cons_zero]
                          refine wpAnyH_take (i := 12) (v := ?_) rfl (by kernel_rfl) (by kernel_rfl) (by kernel_rfl) (fun _ _ _ h => h) (Or.inl ⟨by kernel_rfl, ?_⟩) (by assumption) ?_
                          rotate_left
                          · intro w'' hSw; (try dsimp only at hSw); simp only [List.getElem_toArray, List.getElem_cons_succ, List.getElem_cons_zero]; (go_simp <;> with_reducible rfl)
                          try simp only [Act.put, List.setIfInBounds_toArray, List.set_cons_zero, List.set_cons_succ, List.getElem_toArray, List.getElem_cons_succ, List.getElem_cons_zero]
                          refine wpAnyH_ready (rs := [10]) (by kernel_rfl) (by simp) ?_
                          refine AllReadyH.cons rfl (fun K hK => ?_) AllReadyH.nil
                          first | (with_reducible refine iteYes ?hcx ?htx; case hcx => kernel_rfl) | rw [if_pos (by rfl)]
                          simp only [List.getElem_toArray, List.getElem_cons_succ, List.getElem_cons_zero]
                          go_simp
                          (go_at_call 29; refine (refMinus_calls _ _ _ _ _ _ _).mono ?_; rintro e w7 ⟨rfl, k7⟩)
                          try go_wp2_with fail
                          refine hK.out _ _ ?_ (fun hHeld2 => ?_)
                          · (try dsimp only); exact HK.out _ ((Kept.refl w6).drew.trans k7)
                          clear hK K hHeld1
                          try simp only [Act.put, List.setIfInBounds_toArray, List.set_cons_zero, List.set_cons_succ, List.getElem_toArray, List.getElem_cons_succ, List.getElem_cons_zero]
                          refine wpAnyH_ready (rs := [13]) (by kernel_rfl) (by simp) ?_
                          refine AllReadyH.cons rfl (fun K hK => ?_) AllReadyH.nil
                          first | (with_reducible refine iteYes ?hcx ?htx; case hcx => kernel_rfl) | rw [if_pos (by rfl)]
                          simp only [List.getElem_toArray, List.getElem_cons_succ, List.getElem_cons_zero]
                          go_simp
                          (go_at_call 33; refine (refDot_calls _ _ _ _ _ _ _).mono ?_; rintro e w8 ⟨rfl, k8⟩)
                          try go_wp2_with fail
                          refine hK.out _ _ ?_ (fun hHeld3 => ?_)
                          · (try dsimp only); exact HK.out _ (((Kept.refl w6).drew.trans k7).trans k8)
                          clear hK K hHeld2
                          try simp only [Act.put, List.setIfInBounds_toArray, List.set_cons_zero, List.set_cons_succ, List.getElem_toArray, List.getElem_cons_succ, List.getElem_cons_zero]
                          refine wpAnyH_take (i := 14) (v := ?_) rfl (by kernel_rfl) (by kernel_rfl) (by kernel_rfl) (fun _ _ _ h => h) (Or.inl ⟨by kernel_rfl, ?_⟩) (by assumption) ?_
                          rotate_left
                          · intro w'' hSw; (try dsimp only at hSw); simp only [List.getElem_toArray, List.getElem_cons_succ, List.getElem_cons_zero]; (go_simp <;> with_reducible rfl)
                          try simp only [Act.put, List.setIfInBounds_toArray, List.set_cons_zero, List.set_cons_succ, List.getElem_toArray, List.getElem_cons_succ, List.getElem_cons_zero]
                          refine wpAnyH_done (by kernel_rfl) ?_ _
                          have H8 : Hid (RC w g n kb kl c1 bo ru R kt t ki kk i k kx ky x y C w8) := HRC.out.keep (Only.of_kept (((Kept.refl w6).drew.trans k7).trans k8))
                          clear hHeld3 HK HLI HLK k7 k8 HRC
                          have HN : Hid (dotX (relX qi qk) t.way = dot (sub qk.vx qi.vx) (sub qk.vy qi.vy) (sub qk.vz qi.vz) t.way.x t.way.y t.way.z) := rfl
                          have hd := dot_in (sub qk.vx qi.vx) (sub qk.vy qi.vy) (sub qk.vz qi.vz) t.way.x t.way.y t.way.z
                          generalize dot (sub qk.vx qi.vx) (sub qk.vy qi.vy) (sub qk.vz qi.vz) t.way.x t.way.y t.way.z = nn at HN hd ⊢
                          by_cases hal : al = 0
                          · have HE1 : Hid (hitStep n bo ru C t = C) := by show hitStep n bo ru C t = C; rw [HE.out, if_pos hal]
                            have tal : (al == 0) = true := by simpa using hal
                            clear hal hd
                            go_wp2_with fail
                            go_roundg (m - (j + 1))
                            case measure => have := H5.out.2; omega
                            case rel => exact ⟨j + 1, by go_num, ⟨by omega, rfl⟩, HGO.out _ _ HE1.out H8.out.b.q⟩
                          · have HE1 : Hid (hitStep n bo ru C t = hitX C i k x y al t.way bo ru) := by show hitStep n bo ru C t = _; rw [HE.out, if_neg hal]
                            have tal : (al == 0) = false := by simpa using hal
                            clear hal HE
                            by_cases hnn : 0 ≤ nn
                            · have HE2 : Hid (hitStep n bo ru C t = C) := by
                                show hitStep n bo ru C t = C
                                rw [HE1.out]
                                unfold hitX
                                rw [← HQQ.out.1, ← HQQ.out.2, HN.out, if_pos hnn]
                              clear hd
                              go_wp2_with fail
                              go_roundg (m - (j + 1))
                              case measure => have := H5.out.2; omega
                              case rel => exact ⟨j + 1, by go_num, ⟨by omega, rfl⟩, HGO.out _ _ HE2.out H8.out.b.q⟩
                            · skip
                              as_aux_lemma =>
                                have hneg : IntKind.i64.wrap (-nn) = -nn := by rw [IntKind.wrap_i64]; omega
                                have hbb : IntKind.i64.wrap (65536 + bo) = 65536 + bo := by have := HRB.out.2; rw [IntKind.wrap_i64]; omega
                                have hmf : ∀ (fn : Fn) (first cap : Array Value) (w : World), (Instr.makeFunc fn first cap).run Try.prog w = .ok (.func fn first cap) w := fun _ _ _ _ => rfl
                                have hbc := H8.out.b.q.lw.off 0
                                simp only [List.getElem?_toArray, List.getElem?_cons_succ, List.getElem?_cons_zero] at hbc
                                clear hd
                                go_wp2_with fail
                                refine (refMul_calls _ _ _).mono ?_
                                rintro e wm ⟨rfl, hwm⟩
                                subst hwm
                                go_wp2_with fail
                                refine (refDiv_calls _ _ _).mono ?_
                                rintro e wd ⟨rfl, hwd⟩
                                subst hwd
                                have HJ : Hid (div (mul (-dotX (relX qi qk) t.way) (65536 + bo)) al = div (mul (-nn) (65536 + bo)) al ∧ ¬ 0 ≤ nn) := by rw [HN.out]; exact ⟨rfl, by omega⟩
                                clear hneg hbb hmf hbc hnn
                                generalize div (mul (-nn) (65536 + bo)) al = jj at HJ ⊢
                                have m2 := H8.out.b.tc.off 2; have m3 := H8.out.b.tc.off 3; have m4 := H8.out.b.tc.off 4
                                simp only [List.getElem?_toArray, List.getElem?_cons_succ, List.getElem?_cons_zero] at m2 m3 m4
                                go_wp2_with fail
                                refine (show Calls Try.prog 121 #[.agg #[.int .i64 (t.way.x), .int .i64 (t.way.y), .int .i64 (t.way.z)], .int .i64 jj, .pointer (some ⟨kl, 0, none⟩), .pointer (some ⟨ki, 0, none⟩), .pointer (some ⟨kx, 0, none⟩), .pointer (some ⟨kk, 0, none⟩), .pointer (some ⟨ky, 0, none⟩)] _ _ from refGive_calls kl ki kx kk ky g n c1 i k x y _ _ _ _ C _ H8.out.b.own H8.out.vars.1 HIK.out.1 HIK.out.2 hn H8.out.vars.2).mono ?_
                                rintro e w9 ⟨rfl, hO9, o9⟩
                                obtain ⟨B1, hB1⟩ : ∃ B1, B1 = giveX C i k x y t.way.x t.way.y t.way.z jj := ⟨_, rfl⟩
                                rw [← hB1] at hO9
                                have HB1 : Hid (B1 = giveX C i k x y t.way.x t.way.y t.way.z jj) := hB1
                                have H9 : Hid (RC w g n kb kl c1 bo ru R kt t ki kk i k kx ky x y B1 w9) := H8.out.turn hO9 o9
                                clear hB1 hO9 o9 m2 m3 m4 H8
                                obtain ⟨p1, hp⟩ : ∃ q, q = B1 i := ⟨_, rfl⟩
                                obtain ⟨q1, hq⟩ : ∃ q, q = B1 k := ⟨_, rfl⟩
                                have HPQ1 : Hid (p1 = B1 i ∧ q1 = B1 k) := ⟨hp, hq⟩
                                clear hp hq
                                go_upto_region 18 with fail
                                have HLI : Hid (∀ w', Kept w9 w' → SpOf w' g i p1) := fun w' o => H9.out.b.own.sp HIK.out.1 HPQ1.out.1 o
                                have HLK : Hid (∀ w', Kept w9 w' → SpOf w' g k q1) := fun w' o => H9.out.b.own.sp HIK.out.2 HPQ1.out.2 o
                                have HA : LgAt kl ki kk g n c1 i k w9 := ⟨H9.out.b.q.var, H9.out.b.vi, H9.out.b.vk⟩
                                go_cut [18] from 107 to 148 (fun s18 wc => ∃ r, s18 = .pointer (some ⟨r, 0, none⟩) ∧ Kept w9 wc ∧ w9.heap.size ≤ r ∧ wc.cell? ⟨r, 0, none⟩ = some (.int .i64 (sub q1.vx p1.vx)) ∧ wc.cell? ⟨r, 1, none⟩ = some (.int .i64 (sub q1.vy p1.vy)) ∧ wc.cell? ⟨r, 2, none⟩ = some (.int .i64 (sub q1.vz p1.vz)))
                                case first =>
                                  as_aux_lemma =>
                                    refine wp_region_held_drew (S := fun w' => Kept w9 w' ∧ (w'.cell? ⟨kl, 0, none⟩ = some (.slice (some ⟨g, 0, none⟩) n c1) ∧ w'.cell? ⟨ki, 0, none⟩ = some (.int .i64 ((i : Int))) ∧ w'.cell? ⟨kk, 0, none⟩ = some (.int .i64 ((k : Int))))) (by kernel_rfl) ?_ (fun hH0 => ?_)
                                    · (try dsimp only); exact ⟨(Kept.refl _).drew, HA.step (Kept.refl _).drew⟩
                                    refine wpAnyH_take (i := 0) (v := ?_) rfl (by kernel_rfl) (by kernel_rfl) (by kernel_rfl) (fun _ _ _ h => h) (Or.inl ⟨by kernel_rfl, ?_⟩) (by assumption) ?_
                                    rotate_left
                                    · intro w'' hSw; (try dsimp only at hSw); simp only [List.getElem_toArray, List.getElem_cons_succ, List.getElem_cons_zero]; (go_simp <;> with_reducible rfl)
                                    try simp only [Act.put, List.setIfInBounds_toArray, List.set_cons_zero, List.set_cons_succ, List.getElem_toArray, List.getElem_cons_succ, List.getElem_cons_zero]
                                    refine wpAnyH_take (i := 1) (v := ?_) rfl (by kernel_rfl) (by kernel_rfl) (by kernel_rfl) (fun _ _ _ h => h) (Or.inl ⟨by kernel_rfl, ?_⟩) (by assumption) ?_
                                    rotate_left
                                    · intro w'' hSw; (try dsimp only at hSw); simp only [List.getElem_toArray, List.getElem_cons_succ, List.getElem_cons_zero]; (go_simp <;> with_reducible rfl)
                                    try simp only [Act.put, List.setIfInBounds_toArray, List.set_cons_zero, List.set_cons_succ, List.getElem_toArray, List.getElem_cons_succ, List.getElem_cons_zero]
                                    refine wpAnyH_take (i := 2) (v := ?_) rfl (by kernel_rfl) (by kernel_rfl) (by kernel_rfl) (fun _ _ _ h => h) (Or.inl ⟨by kernel_rfl, ?_⟩) (by assumption) ?_
                                    rotate_left
                                    · intro w'' hSw; (try dsimp only at hSw); simp only [List.getElem_toArray, List.getElem_cons_succ, List.getElem_cons_zero]; (go_simp <;> with_reducible rfl)
                                    try simp only [Act.put, List.setIfInBounds_toArray, List.set_cons_zero, List.set_cons_succ, List.getElem_toArray, List.getElem_cons_succ, List.getElem_cons_zero]
                                    refine wpAnyH_take (i := 3) (v := ?_) rfl (by kernel_rfl) (by kernel_rfl) (by kernel_rfl) (fun _ _ _ h => h) (Or.inl ⟨by kernel_rfl, ?_⟩) (by assumption) ?_
                                    rotate_left
                                    · intro w'' hSw; (try dsimp only at hSw); simp only [List.getElem_toArray, List.getElem_cons_succ, List.getElem_cons_zero]; (go_simp <;> with_reducible rfl)
                                    try simp only [Act.put, List.setIfInBounds_toArray, List.set_cons_zero, List.set_cons_succ, List.getElem_toArray, List.getElem_cons_succ, List.getElem_cons_zero]
                                    refine wpAnyH_take (i := 4) (v := ?_) rfl (by kernel_rfl) (by kernel_rfl) (by kernel_rfl) (fun _ _ _ h => h) (Or.inl ⟨by kernel_rfl, ?_⟩) (by assumption) ?_
                                    rotate_left
                                    · intro w'' hSw; (try dsimp only at hSw); obtain ⟨l0, l1, l2⟩ := HLK.out _ hSw.1; simp only [List.getElem_toArray, List.getElem_cons_succ, List.getElem_cons_zero]; (go_simp <;> with_reducible rfl)
                                    try simp only [Act.put, List.setIfInBounds_toArray, List.set_cons_zero, List.set_cons_succ, List.getElem_toArray, List.getElem_cons_succ, List.getElem_cons_zero]
                                    refine wpAnyH_take (i := 5) (v := ?_) rfl (by kernel_rfl) (by kernel_rfl) (by kernel_rfl) (fun _ _ _ h => h) (Or.inl ⟨by kernel_rfl, ?_⟩) (by assumption) ?_
                                    rotate_left
                                    · intro w'' hSw; (try dsimp only at hSw); simp only [List.getElem_toArray, List.getElem_cons_succ, List.getElem_cons_zero]; (go_simp <;> with_reducible rfl)
                                    try simp only [Act.put, List.setIfInBounds_toArray, List.set_cons_zero, List.set_cons_succ, List.getElem_toArray, List.getElem_cons_succ, List.getElem_cons_zero]
                                    refine wpAnyH_take (i := 6) (v := ?_) rfl (by kernel_rfl) (by kernel_rfl) (by kernel_rfl) (fun _ _ _ h => h) (Or.inl ⟨by kernel_rfl, ?_⟩) (by assumption) ?_
                                    rotate_left
                                    · intro w'' hSw; (try dsimp only at hSw); simp only [List.getElem_toArray, List.getElem_cons_succ, List.getElem_cons_zero]; (go_simp <;> with_reducible rfl)
                                    try simp only [Act.put, List.setIfInBounds_toArray, List.set_cons_zero, List.set_cons_succ, List.getElem_toArray, List.getElem_cons_succ, List.getElem_cons_zero]
                                    refine wpAnyH_take (i := 7) (v := ?_) rfl (by kernel_rfl) (by kernel_rfl) (by kernel_rfl) (fun _ _ _ h => h) (Or.inl ⟨by kernel_rfl, ?_⟩) (by assumption) ?_
                                    rotate_left
                                    · intro w'' hSw; (try dsimp only at hSw); simp only [List.getElem_toArray, List.getElem_cons_succ, List.getElem_cons_zero]; (go_simp <;> with_reducible rfl)
                                    try simp only [Act.put, List.setIfInBounds_toArray, List.set_cons_zero, List.set_cons_succ, List.getElem_toArray, List.getElem_cons_succ, List.getElem_cons_zero]
                                    refine wpAnyH_take (i := 8) (v := ?_) rfl (by kernel_rfl) (by kernel_rfl) (by kernel_rfl) (fun _ _ _ h => h) (Or.inl ⟨by kernel_rfl, ?_⟩) (by assumption) ?_
                                    rotate_left
                                    · intro w'' hSw; (try dsimp only at hSw); simp only [List.getElem_toArray, List.getElem_cons_succ, List.getElem_cons_zero]; (go_simp <;> with_reducible rfl)
                                    try simp only [Act.put, List.setIfInBounds_toArray, List.set_cons_zero, List.set_cons_succ, List.getElem_toArray, List.getElem_cons_succ, List.getElem_cons_zero]
                                    refine wpAnyH_take (i := 9) (v := ?_) rfl (by kernel_rfl) (by kernel_rfl) (by kernel_rfl) (fun _ _ _ h => h) (Or.inl ⟨by kernel_rfl, ?_⟩) (by assumption) ?_
                                    rotate_left
                                    · intro w'' hSw; (try dsimp only at hSw); obtain ⟨l0, l1, l2⟩ := HLI.out _ hSw.1; simp only [List.getElem_toArray, List.getElem_cons_succ, List.getElem_cons_zero]; (go_simp <;> with_reducible rfl)
                                    try simp only [Act.put, List.setIfInBounds_toArray, List.set_cons_zero, List.set_cons_succ, List.getElem_toArray, List.getElem_cons_succ, List.getElem_cons_zero]
                                    refine wpAnyH_ready (rs := [10, 11]) (by kernel_rfl) (by simp) ?_
                                    refine AllReadyH.cons rfl (fun K hK => ?_) (AllReadyH.cons rfl (fun K hK => ?_) AllReadyH.nil)
                                    · rw [if_pos (by rfl)]
                                      simp only [List.getElem_toArray, List.getElem_cons_succ, List.getElem_cons_zero]
                                      go_simp
                                      (go_at_call 29; refine (refMinus_calls _ _ _ _ _ _ _).mono ?_; rintro e wc1 ⟨rfl, kc1⟩)
                                      try go_wp2_with fail
                                      refine hK.out _ _ ?_ (fun hH1 => ?_)
                                      · exact ⟨hH0.1.trans kc1, HA.step (hH0.1.trans kc1)⟩
                                      clear hK K hH0
                                      try simp only [Act.put, List.setIfInBounds_toArray, List.set_cons_zero, List.set_cons_succ, List.getElem_toArray, List.getElem_cons_succ, List.getElem_cons_zero]
                                      refine wpAnyH_ready (rs := [11]) (by kernel_rfl) (by simp) ?_
                                      refine AllReadyH.cons rfl (fun K hK => ?_) AllReadyH.nil
                                      rw [if_pos (by rfl)]
                                      simp only [List.getElem_toArray, List.getElem_cons_succ, List.getElem_cons_zero]
                                      go_simp
                                      refine hK.out _ _ ?_ (fun hH2 => ?_)
                                      · exact ⟨hH1.1.alloc _ _, HA.step (hH1.1.alloc _ _)⟩
                                      have hp : w9.heap.size ≤ wc1.heap.size := Nat.le_trans hH1.1.below.size (Nat.le_of_eq (by simp))
                                      have hP : FrS3 w9 (wc1.heap.size) (wc1.alloc (.cells #[.int .i64 0, .int .i64 0, .int .i64 0] 26)) := by refine ⟨hH1.1.alloc _ _, cellV_of (v := .int .i64 0) ?_, cellV_of (v := .int .i64 0) ?_, cellV_of (v := .int .i64 0) ?_, ?_, ?_, ?_⟩ <;> go_simp
                                      clear hK K hH1
                                      try simp only [Act.put, List.setIfInBounds_toArray, List.set_cons_zero, List.set_cons_succ, List.getElem_toArray, List.getElem_cons_succ, List.getElem_cons_zero]
                                      generalize (wc1.alloc (.cells #[.int .i64 0, .int .i64 0, .int .i64 0] 26)) = wz3 at hH2 hP ⊢
                                      have hP0 := hP
                                      obtain ⟨_, cp0, cp1, cp2, fp0, fp1, fp2⟩ := hP0
                                      refine wpAnyH_ready (rs := [12]) (by kernel_rfl) (by simp) ?_
                                      refine AllReadyH.cons rfl (fun K hK => ?_) AllReadyH.nil
                                      rw [if_pos (by rfl)]
                                      simp only [List.getElem_toArray, List.getElem_cons_succ, List.getElem_cons_zero]
                                      go_simp
                                      refine hK.out _ _ ?_ (fun hS1 => ?_)
                                      · exact ⟨kept_set3 hH2.1 hp _ _ _, HA.step (kept_set3 hH2.1 hp _ _ _)⟩
                                      clear hK K
                                      try simp only [Act.put, List.setIfInBounds_toArray, List.set_cons_zero, List.set_cons_succ, List.getElem_toArray, List.getElem_cons_succ, List.getElem_cons_zero]
                                      refine wpAnyH_done (by kernel_rfl) ?_ _
                                      obtain ⟨s0, s1, s2⟩ := set3_of (v0 := .int .i64 (sub q1.vx p1.vx)) (v1 := .int .i64 (sub q1.vy p1.vy)) (v2 := .int .i64 (sub q1.vz p1.vz)) cp0 cp1 cp2
                                      go_wp2_with fail
                                      go_meet
                                      case rel => exact ⟨_, rfl, hS1.1, hp, s0, s1, s2⟩
                                    · rw [if_pos (by rfl)]
                                      simp only [List.getElem_toArray, List.getElem_cons_succ, List.getElem_cons_zero]
                                      go_simp
                                      refine hK.out _ _ ?_ (fun hH4 => ?_)
                                      · exact ⟨hH0.1.alloc _ _, HA.step (hH0.1.alloc _ _)⟩
                                      have hp : w9.heap.size ≤ w9.heap.size := Nat.le_trans hH0.1.below.size (Nat.le_of_eq (by simp))
                                      have hP : FrS3 w9 (w9.heap.size) (w9.drew.alloc (.cells #[.int .i64 0, .int .i64 0, .int .i64 0] 26)) := by refine ⟨hH0.1.alloc _ _, cellV_of (v := .int .i64 0) ?_, cellV_of (v := .int .i64 0) ?_, cellV_of (v := .int .i64 0) ?_, ?_, ?_, ?_⟩ <;> go_simp
                                      clear hK K hH0
                                      try simp only [Act.put, List.setIfInBounds_toArray, List.set_cons_zero, List.set_cons_succ, List.getElem_toArray, List.getElem_cons_succ, List.getElem_cons_zero]
                                      refine wpAnyH_ready (rs := [10]) (by kernel_rfl) (by simp) ?_
                                      refine AllReadyH.cons rfl (fun K hK => ?_) AllReadyH.nil
                                      rw [if_pos (by rfl)]
                                      simp only [List.getElem_toArray, List.getElem_cons_succ, List.getElem_cons_zero]
                                      go_simp
                                      (go_at_call 29; refine (refMinus_calls _ _ _ _ _ _ _).mono ?_; rintro e wc5 ⟨rfl, kc5⟩)
                                      try go_wp2_with fail
                                      refine hK.out _ _ ?_ (fun hH5 => ?_)
                                      · exact ⟨hH4.1.trans kc5, HA.step (hH4.1.trans kc5)⟩
                                      replace hP := hP.step kc5
                                      clear hK K hH4
                                      try simp only [Act.put, List.setIfInBounds_toArray, List.set_cons_zero, List.set_cons_succ, List.getElem_toArray, List.getElem_cons_succ, List.getElem_cons_zero]
                                      have hP0 := hP
                                      obtain ⟨_, cp0, cp1, cp2, fp0, fp1, fp2⟩ := hP0
                                      refine wpAnyH_ready (rs := [12]) (by kernel_rfl) (by simp) ?_
                                      refine AllReadyH.cons rfl (fun K hK => ?_) AllReadyH.nil
                                      rw [if_pos (by rfl)]
                                      simp only [List.getElem_toArray, List.getElem_cons_succ, List.getElem_cons_zero]
                                      go_simp
                                      refine hK.out _ _ ?_ (fun hS1 => ?_)
                                      · exact ⟨kept_set3 hH5.1 hp _ _ _, HA.step (kept_set3 hH5.1 hp _ _ _)⟩
                                      clear hK K
                                      try simp only [Act.put, List.setIfInBounds_toArray, List.set_cons_zero, List.set_cons_succ, List.getElem_toArray, List.getElem_cons_succ, List.getElem_cons_zero]
                                      refine wpAnyH_done (by kernel_rfl) ?_ _
                                      obtain ⟨s0, s1, s2⟩ := set3_of (v0 := .int .i64 (sub q1.vx p1.vx)) (v1 := .int .i64 (sub q1.vy p1.vy)) (v2 := .int .i64 (sub q1.vz p1.vz)) cp0 cp1 cp2
                                      go_wp2_with fail
                                      go_meet
                                      case rel => exact ⟨_, rfl, hS1.1, hp, s0, s1, s2⟩
                                case rest =>
                                  clear HA HLI HLK
                                  obtain ⟨kv, rfl, k10, hkv, s0, s1, s2⟩ := hcut
                                  have H10 : Hid (RC w g n kb kl c1 bo ru R kt t ki kk i k kx ky x y B1 wc) := H9.out.keep (Only.of_kept k10)
                                  clear k10 hkv H9
                                  have HV : Hid (relX p1 q1 = ⟨sub q1.vx p1.vx, sub q1.vy p1.vy, sub q1.vz p1.vz⟩) := rfl
                                  generalize sub q1.vx p1.vx = vx at HV s0
                                  generalize sub q1.vy p1.vy = vy at HV s1
                                  generalize sub q1.vz p1.vz = vz at HV s2
                                  obtain ⟨w10, hw10⟩ : ∃ w10, w10 = wc := ⟨_, rfl⟩
                                  subst hw10
                                  have HD : Hid (sideX (relX p1 q1) t.way = ⟨sub vx (mul t.way.x (dot vx vy vz t.way.x t.way.y t.way.z)), sub vy (mul t.way.y (dot vx vy vz t.way.x t.way.y t.way.z)), sub vz (mul t.way.z (dot vx vy vz t.way.x t.way.y t.way.z))⟩) := by rw [HV.out]; exact rfl
                                  generalize hdd : dot vx vy vz t.way.x t.way.y t.way.z = dd at HD
                                  have HDD : Hid (dot vx vy vz t.way.x t.way.y t.way.z = dd) := hdd
                                  clear hdd
                                  have HA : WyAt kt kv t.way vx vy vz w10 := ⟨H10.out.b.tc.off 2, H10.out.b.tc.off 3, H10.out.b.tc.off 4, s0, s1, s2⟩
                                  clear s0 s1 s2
                                  go_upto_region 19 with fail
                                  go_cut [19] from 118 to 148 (fun s19 wc => ∃ r, s19 = .pointer (some ⟨r, 0, none⟩) ∧ Kept w10 wc ∧ w10.heap.size ≤ r ∧ wc.cell? ⟨r, 0, none⟩ = some (.int .i64 (sub vx (mul t.way.x dd))) ∧ wc.cell? ⟨r, 1, none⟩ = some (.int .i64 (sub vy (mul t.way.y dd))) ∧ wc.cell? ⟨r, 2, none⟩ = some (.int .i64 (sub vz (mul t.way.z dd))))
                                  case first =>
                                    as_aux_lemma =>
                                      refine wp_region_held_drew (S := fun w' => Kept w10 w' ∧ (w'.cell? ⟨kt, 2, none⟩ = some (.int .i64 (t.way.x)) ∧ w'.cell? ⟨kt, 3, none⟩ = some (.int .i64 (t.way.y)) ∧ w'.cell? ⟨kt, 4, none⟩ = some (.int .i64 (t.way.z)) ∧ w'.cell? ⟨kv, 0, none⟩ = some (.int .i64 vx) ∧ w'.cell? ⟨kv, 1, none⟩ = some (.int .i64 vy) ∧ w'.cell? ⟨kv, 2, none⟩ = some (.int .i64 vz))) (by kernel_rfl) ?_ (fun hH0 => ?_)
                                      · (try dsimp only); exact ⟨(Kept.refl _).drew, HA.step (Kept.refl _).drew⟩
                                      refine wpAnyH_take (i := 0) (v := ?_) rfl (by kernel_rfl) (by kernel_rfl) (by kernel_rfl) (fun _ _ _ h => h) (Or.inl ⟨by kernel_rfl, ?_⟩) (by assumption) ?_
                                      rotate_left
                                      · intro w'' hSw; (try dsimp only at hSw); simp only [List.getElem_toArray, List.getElem_cons_succ, List.getElem_cons_zero]; (go_simp <;> with_reducible rfl)
                                      try simp only [Act.put, List.setIfInBounds_toArray, List.set_cons_zero, List.set_cons_succ, List.getElem_toArray, List.getElem_cons_succ, List.getElem_cons_zero]
                                      refine wpAnyH_take (i := 1) (v := ?_) rfl (by kernel_rfl) (by kernel_rfl) (by kernel_rfl) (fun _ _ _ h => h) (Or.inl ⟨by kernel_rfl, ?_⟩) (by assumption) ?_
                                      rotate_left
                                      · intro w'' hSw; (try dsimp only at hSw); simp only [List.getElem_toArray, List.getElem_cons_succ, List.getElem_cons_zero]; (go_simp <;> with_reducible rfl)
                                      try simp only [Act.put, List.setIfInBounds_toArray, List.set_cons_zero, List.set_cons_succ, List.getElem_toArray, List.getElem_cons_succ, List.getElem_cons_zero]
                                      refine wpAnyH_take (i := 2) (v := ?_) rfl (by kernel_rfl) (by kernel_rfl) (by kernel_rfl) (fun _ _ _ h => h) (Or.inl ⟨by kernel_rfl, ?_⟩) (by assumption) ?_
                                      rotate_left
                                      · intro w'' hSw; (try dsimp only at hSw); simp only [List.getElem_toArray, List.getElem_cons_succ, List.getElem_cons_zero]; (go_simp <;> with_reducible rfl)
                                      try simp only [Act.put, List.setIfInBounds_toArray, List.set_cons_zero, List.set_cons_succ, List.getElem_toArray, List.getElem_cons_succ, List.getElem_cons_zero]
                                      refine wpAnyH_take (i := 3) (v := ?_) rfl (by kernel_rfl) (by kernel_rfl) (by kernel_rfl) (fun _ _ _ h => h) (Or.inl ⟨by kernel_rfl, ?_⟩) (by assumption) ?_
                                      rotate_left
                                      · intro w'' hSw; (try dsimp only at hSw); simp only [List.getElem_toArray, List.getElem_cons_succ, List.getElem_cons_zero]; (go_simp <;> with_reducible rfl)
                                      try simp only [Act.put, List.setIfInBounds_toArray, List.set_cons_zero, List.set_cons_succ, List.getElem_toArray, List.getElem_cons_succ, List.getElem_cons_zero]
                                      refine wpAnyH_take (i := 4) (v := ?_) rfl (by kernel_rfl) (by kernel_rfl) (by kernel_rfl) (fun _ _ _ h => h) (Or.inl ⟨by kernel_rfl, ?_⟩) (by assumption) ?_
                                      rotate_left
                                      · intro w'' hSw; (try dsimp only at hSw); simp only [List.getElem_toArray, List.getElem_cons_succ, List.getElem_cons_zero]; (go_simp <;> with_reducible rfl)
                                      try simp only [Act.put, List.setIfInBounds_toArray, List.set_cons_zero, List.set_cons_succ, List.getElem_toArray, List.getElem_cons_succ, List.getElem_cons_zero]
                                      refine wpAnyH_take (i := 5) (v := ?_) rfl (by kernel_rfl) (by kernel_rfl) (by kernel_rfl) (fun _ _ _ h => h) (Or.inl ⟨by kernel_rfl, ?_⟩) (by assumption) ?_
                                      rotate_left
                                      · intro w'' hSw; (try dsimp only at hSw); simp only [List.getElem_toArray, List.getElem_cons_succ, List.getElem_cons_zero]; (go_simp <;> with_reducible rfl)
                                      try simp only [Act.put, List.setIfInBounds_toArray, List.set_cons_zero, List.set_cons_succ, List.getElem_toArray, List.getElem_cons_succ, List.getElem_cons_zero]
                                      refine wpAnyH_ready (rs := [6, 9]) (by kernel_rfl) (by simp) ?_
                                      refine AllReadyH.cons rfl (fun K hK => ?_) (AllReadyH.cons rfl (fun K hK => ?_) AllReadyH.nil)
                                      · rw [if_pos (by rfl)]
                                        simp only [List.getElem_toArray, List.getElem_cons_succ, List.getElem_cons_zero]
                                        go_simp
                                        (go_at_call 33; refine (refDot_calls _ _ _ _ _ _ _).mono ?_; rintro e wc1 ⟨rfl, kc1⟩; simp only [HDD.out])
                                        try go_wp2_with fail
                                        refine hK.out _ _ ?_ (fun hH1 => ?_)
                                        · exact ⟨hH0.1.trans kc1, HA.step (hH0.1.trans kc1)⟩
                                        clear hK K hH0
                                        try simp only [Act.put, List.setIfInBounds_toArray, List.set_cons_zero, List.set_cons_succ, List.getElem_toArray, List.getElem_cons_succ, List.getElem_cons_zero]
                                        refine wpAnyH_ready (rs := [7, 9]) (by kernel_rfl) (by simp) ?_
                                        refine AllReadyH.cons rfl (fun K hK => ?_) (AllReadyH.cons rfl (fun K hK => ?_) AllReadyH.nil)
                                        · rw [if_pos (by rfl)]
                                          simp only [List.getElem_toArray, List.getElem_cons_succ, List.getElem_cons_zero]
                                          go_simp
                                          (go_at_call 31; refine (refTimes_calls _ _ _ _ _).mono ?_; rintro e wc2 ⟨rfl, kc2⟩)
                                          try go_wp2_with fail
                                          refine hK.out _ _ ?_ (fun hH2 => ?_)
                                          · exact ⟨hH1.1.trans kc2, HA.step (hH1.1.trans kc2)⟩
                                          clear hK K hH1
                                          try simp only [Act.put, List.setIfInBounds_toArray, List.set_cons_zero, List.set_cons_succ, List.getElem_toArray, List.getElem_cons_succ, List.getElem_cons_zero]
                                          refine wpAnyH_ready (rs := [8, 9]) (by kernel_rfl) (by simp) ?_
                                          refine AllReadyH.cons rfl (fun K hK => ?_) (AllReadyH.cons rfl (fun K hK => ?_) AllReadyH.nil)
                                          · rw [if_pos (by rfl)]
                                            simp only [List.getElem_toArray, List.getElem_cons_succ, List.getElem_cons_zero]
                                            go_simp
                                            (go_at_call 29; refine (refMinus_calls _ _ _ _ _ _ _).mono ?_; rintro e wc3 ⟨rfl, kc3⟩)
                                            try go_wp2_with fail
                                            refine hK.out _ _ ?_ (fun hH3 => ?_)
                                            · exact ⟨hH2.1.trans kc3, HA.step (hH2.1.trans kc3)⟩
                                            clear hK K hH2
                                            try simp only [Act.put, List.setIfInBounds_toArray, List.set_cons_zero, List.set_cons_succ, List.getElem_toArray, List.getElem_cons_succ, List.getElem_cons_zero]
                                            refine wpAnyH_ready (rs := [9]) (by kernel_rfl) (by simp) ?_
                                            refine AllReadyH.cons rfl (fun K hK => ?_) AllReadyH.nil
                                            rw [if_pos (by rfl)]
                                            simp only [List.getElem_toArray, List.getElem_cons_succ, List.getElem_cons_zero]
                                            go_simp
                                            refine hK.out _ _ ?_ (fun hH4 => ?_)
                                            · exact ⟨hH3.1.alloc _ _, HA.step (hH3.1.alloc _ _)⟩
                                            have hp : w10.heap.size ≤ wc3.heap.size := Nat.le_trans hH3.1.below.size (Nat.le_of_eq (by simp))
                                            have hP : FrS3 w10 (wc3.heap.size) (wc3.alloc (.cells #[.int .i64 0, .int .i64 0, .int .i64 0] 26)) := by refine ⟨hH3.1.alloc _ _, cellV_of (v := .int .i64 0) ?_, cellV_of (v := .int .i64 0) ?_, cellV_of (v := .int .i64 0) ?_, ?_, ?_, ?_⟩ <;> go_simp
                                            clear hK K hH3
                                            try simp only [Act.put, List.setIfInBounds_toArray, List.set_cons_zero, List.set_cons_succ, List.getElem_toArray, List.getElem_cons_succ, List.getElem_cons_zero]
                                            generalize (wc3.alloc (.cells #[.int .i64 0, .int .i64 0, .int .i64 0] 26)) = wz5 at hH4 hP ⊢
                                            have hP0 := hP
                                            obtain ⟨_, cp0, cp1, cp2, fp0, fp1, fp2⟩ := hP0
                                            refine wpAnyH_ready (rs := [10]) (by kernel_rfl) (by simp) ?_
                                            refine AllReadyH.cons rfl (fun K hK => ?_) AllReadyH.nil
                                            rw [if_pos (by rfl)]
                                            simp only [List.getElem_toArray, List.getElem_cons_succ, List.getElem_cons_zero]
                                            go_simp
                                            refine hK.out _ _ ?_ (fun hS1 => ?_)
                                            · exact ⟨kept_set3 hH4.1 hp _ _ _, HA.step (kept_set3 hH4.1 hp _ _ _)⟩
                                            clear hK K
                                            try simp only [Act.put, List.setIfInBounds_toArray, List.set_cons_zero, List.set_cons_succ, List.getElem_toArray, List.getElem_cons_succ, List.getElem_cons_zero]
                                            refine wpAnyH_done (by kernel_rfl) ?_ _
                                            obtain ⟨s0, s1, s2⟩ := set3_of (v0 := .int .i64 (sub vx (mul t.way.x dd))) (v1 := .int .i64 (sub vy (mul t.way.y dd))) (v2 := .int .i64 (sub vz (mul t.way.z dd))) cp0 cp1 cp2
                                            go_wp2_with fail
                                            go_meet
                                            case rel => exact ⟨_, rfl, hS1.1, hp, s0, s1, s2⟩
                                          · rw [if_pos (by rfl)]
                                            simp only [List.getElem_toArray, List.getElem_cons_succ, List.getElem_cons_zero]
                                            go_simp
                                            refine hK.out _ _ ?_ (fun hH6 => ?_)
                                            · exact ⟨hH2.1.alloc _ _, HA.step (hH2.1.alloc _ _)⟩
                                            have hp : w10.heap.size ≤ wc2.heap.size := Nat.le_trans hH2.1.below.size (Nat.le_of_eq (by simp))
                                            have hP : FrS3 w10 (wc2.heap.size) (wc2.alloc (.cells #[.int .i64 0, .int .i64 0, .int .i64 0] 26)) := by refine ⟨hH2.1.alloc _ _, cellV_of (v := .int .i64 0) ?_, cellV_of (v := .int .i64 0) ?_, cellV_of (v := .int .i64 0) ?_, ?_, ?_, ?_⟩ <;> go_simp
                                            clear hK K hH2
                                            try simp only [Act.put, List.setIfInBounds_toArray, List.set_cons_zero, List.set_cons_succ, List.getElem_toArray, List.getElem_cons_succ, List.getElem_cons_zero]
                                            refine wpAnyH_ready (rs := [8]) (by kernel_rfl) (by simp) ?_
                                            refine AllReadyH.cons rfl (fun K hK => ?_) AllReadyH.nil
                                            rw [if_pos (by rfl)]
                                            simp only [List.getElem_toArray, List.getElem_cons_succ, List.getElem_cons_zero]
                                            go_simp
                                            (go_at_call 29; refine (refMinus_calls _ _ _ _ _ _ _).mono ?_; rintro e wc7 ⟨rfl, kc7⟩)
                                            try go_wp2_with fail
                                            refine hK.out _ _ ?_ (fun hH7 => ?_)
                                            · exact ⟨hH6.1.trans kc7, HA.step (hH6.1.trans kc7)⟩
                                            replace hP := hP.step kc7
                                            clear hK K hH6
                                            try simp only [Act.put, List.setIfInBounds_toArray, List.set_cons_zero, List.set_cons_succ, List.getElem_toArray, List.getElem_cons_succ, List.getElem_cons_zero]
                                            have hP0 := hP
                                            obtain ⟨_, cp0, cp1, cp2, fp0, fp1, fp2⟩ := hP0
                                            refine wpAnyH_ready (rs := [10]) (by kernel_rfl) (by simp) ?_
                                            refine AllReadyH.cons rfl (fun K hK => ?_) AllReadyH.nil
                                            rw [if_pos (by rfl)]
                                            simp only [List.getElem_toArray, List.getElem_cons_succ, List.getElem_cons_zero]
                                            go_simp
                                            refine hK.out _ _ ?_ (fun hS1 => ?_)
                                            · exact ⟨kept_set3 hH7.1 hp _ _ _, HA.step (kept_set3 hH7.1 hp _ _ _)⟩
                                            clear hK K
                                            try simp only [Act.put, List.setIfInBounds_toArray, List.set_cons_zero, List.set_cons_succ, List.getElem_toArray, List.getElem_cons_succ, List.getElem_cons_zero]
                                            refine wpAnyH_done (by kernel_rfl) ?_ _
                                            obtain ⟨s0, s1, s2⟩ := set3_of (v0 := .int .i64 (sub vx (mul t.way.x dd))) (v1 := .int .i64 (sub vy (mul t.way.y dd))) (v2 := .int .i64 (sub vz (mul t.way.z dd))) cp0 cp1 cp2
                                            go_wp2_with fail
                                            go_meet
                                            case rel => exact ⟨_, rfl, hS1.1, hp, s0, s1, s2⟩
                                        · rw [if_pos (by rfl)]
                                          simp only [List.getElem_toArray, List.getElem_cons_succ, List.getElem_cons_zero]
                                          go_simp
                                          refine hK.out _ _ ?_ (fun hH8 => ?_)
                                          · exact ⟨hH1.1.alloc _ _, HA.step (hH1.1.alloc _ _)⟩
                                          have hp : w10.heap.size ≤ wc1.heap.size := Nat.le_trans hH1.1.below.size (Nat.le_of_eq (by simp))
                                          have hP : FrS3 w10 (wc1.heap.size) (wc1.alloc (.cells #[.int .i64 0, .int .i64 0, .int .i64 0] 26)) := by refine ⟨hH1.1.alloc _ _, cellV_of (v := .int .i64 0) ?_, cellV_of (v := .int .i64 0) ?_, cellV_of (v := .int .i64 0) ?_, ?_, ?_, ?_⟩ <;> go_simp
                                          clear hK K hH1
                                          try simp only [Act.put, List.setIfInBounds_toArray, List.set_cons_zero, List.set_cons_succ, List.getElem_toArray, List.getElem_cons_succ, List.getElem_cons_zero]
                                          refine wpAnyH_ready (rs := [7]) (by kernel_rfl) (by simp) ?_
                                          refine AllReadyH.cons rfl (fun K hK => ?_) AllReadyH.nil
                                          rw [if_pos (by rfl)]
                                          simp only [List.getElem_toArray, List.getElem_cons_succ, List.getElem_cons_zero]
                                          go_simp
                                          (go_at_call 31; refine (refTimes_calls _ _ _ _ _).mono ?_; rintro e wc9 ⟨rfl, kc9⟩)
                                          try go_wp2_with fail
                                          refine hK.out _ _ ?_ (fun hH9 => ?_)
                                          · exact ⟨hH8.1.trans kc9, HA.step (hH8.1.trans kc9)⟩
                                          replace hP := hP.step kc9
                                          clear hK K hH8
                                          try simp only [Act.put, List.setIfInBounds_toArray, List.set_cons_zero, List.set_cons_succ, List.getElem_toArray, List.getElem_cons_succ, List.getElem_cons_zero]
                                          refine wpAnyH_ready (rs := [8]) (by kernel_rfl) (by simp) ?_
                                          refine AllReadyH.cons rfl (fun K hK => ?_) AllReadyH.nil
                                          rw [if_pos (by rfl)]
                                          simp only [List.getElem_toArray, List.getElem_cons_succ, List.getElem_cons_zero]
                                          go_simp
                                          (go_at_call 29; refine (refMinus_calls _ _ _ _ _ _ _).mono ?_; rintro e wc10 ⟨rfl, kc10⟩)
                                          try go_wp2_with fail
                                          refine hK.out _ _ ?_ (fun hH10 => ?_)
                                          · exact ⟨hH9.1.trans kc10, HA.step (hH9.1.trans kc10)⟩
                                          replace hP := hP.step kc10
                                          clear hK K hH9
                                          try simp only [Act.put, List.setIfInBounds_toArray, List.set_cons_zero, List.set_cons_succ, List.getElem_toArray, List.getElem_cons_succ, List.getElem_cons_zero]
                                          have hP0 := hP
                                          obtain ⟨_, cp0, cp1, cp2, fp0, fp1, fp2⟩ := hP0
                                          refine wpAnyH_ready (rs := [10]) (by kernel_rfl) (by simp) ?_
                                          refine AllReadyH.cons rfl (fun K hK => ?_) AllReadyH.nil
                                          rw [if_pos (by rfl)]
                                          simp only [List.getElem_toArray, List.getElem_cons_succ, List.getElem_cons_zero]
                                          go_simp
                                          refine hK.out _ _ ?_ (fun hS1 => ?_)
                                          · exact ⟨kept_set3 hH10.1 hp _ _ _, HA.step (kept_set3 hH10.1 hp _ _ _)⟩
                                          clear hK K
                                          try simp only [Act.put, List.setIfInBounds_toArray, List.set_cons_zero, List.set_cons_succ, List.getElem_toArray, List.getElem_cons_succ, List.getElem_cons_zero]
                                          refine wpAnyH_done (by kernel_rfl) ?_ _
                                          obtain ⟨s0, s1, s2⟩ := set3_of (v0 := .int .i64 (sub vx (mul t.way.x dd))) (v1 := .int .i64 (sub vy (mul t.way.y dd))) (v2 := .int .i64 (sub vz (mul t.way.z dd))) cp0 cp1 cp2
                                          go_wp2_with fail
                                          go_meet
                                          case rel => exact ⟨_, rfl, hS1.1, hp, s0, s1, s2⟩
                                      · rw [if_pos (by rfl)]
                                        simp only [List.getElem_toArray, List.getElem_cons_succ, List.getElem_cons_zero]
                                        go_simp
                                        refine hK.out _ _ ?_ (fun hH11 => ?_)
                                        · exact ⟨hH0.1.alloc _ _, HA.step (hH0.1.alloc _ _)⟩
                                        have hp : w10.heap.size ≤ w10.heap.size := Nat.le_trans hH0.1.below.size (Nat.le_of_eq (by simp))
                                        have hP : FrS3 w10 (w10.heap.size) (w10.drew.alloc (.cells #[.int .i64 0, .int .i64 0, .int .i64 0] 26)) := by refine ⟨hH0.1.alloc _ _, cellV_of (v := .int .i64 0) ?_, cellV_of (v := .int .i64 0) ?_, cellV_of (v := .int .i64 0) ?_, ?_, ?_, ?_⟩ <;> go_simp
                                        clear hK K hH0
                                        try simp only [Act.put, List.setIfInBounds_toArray, List.set_cons_zero, List.set_cons_succ, List.getElem_toArray, List.getElem_cons_succ, List.getElem_cons_zero]
                                        refine wpAnyH_ready (rs := [6]) (by kernel_rfl) (by simp) ?_
                                        refine AllReadyH.cons rfl (fun K hK => ?_) AllReadyH.nil
                                        rw [if_pos (by rfl)]
                                        simp only [List.getElem_toArray, List.getElem_cons_succ, List.getElem_cons_zero]
                                        go_simp
                                        (go_at_call 33; refine (refDot_calls _ _ _ _ _ _ _).mono ?_; rintro e wc12 ⟨rfl, kc12⟩; simp only [HDD.out])
                                        try go_wp2_with fail
                                        refine hK.out _ _ ?_ (fun hH12 => ?_)
                                        · exact ⟨hH11.1.trans kc12, HA.step (hH11.1.trans kc12)⟩
                                        replace hP := hP.step kc12
                                        clear hK K hH11
                                        try simp only [Act.put, List.setIfInBounds_toArray, List.set_cons_zero, List.set_cons_succ, List.getElem_toArray, List.getElem_cons_succ, List.getElem_cons_zero]
                                        refine wpAnyH_ready (rs := [7]) (by kernel_rfl) (by simp) ?_
                                        refine AllReadyH.cons rfl (fun K hK => ?_) AllReadyH.nil
                                        rw [if_pos (by rfl)]
                                        simp only [List.getElem_toArray, List.getElem_cons_succ, List.getElem_cons_zero]
                                        go_simp
                                        (go_at_call 31; refine (refTimes_calls _ _ _ _ _).mono ?_; rintro e wc13 ⟨rfl, kc13⟩)
                                        try go_wp2_with fail
                                        refine hK.out _ _ ?_ (fun hH13 => ?_)
                                        · exact ⟨hH12.1.trans kc13, HA.step (hH12.1.trans kc13)⟩
                                        replace hP := hP.step kc13
                                        clear hK K hH12
                                        try simp only [Act.put, List.setIfInBounds_toArray, List.set_cons_zero, List.set_cons_succ, List.getElem_toArray, List.getElem_cons_succ, List.getElem_cons_zero]
                                        refine wpAnyH_ready (rs := [8]) (by kernel_rfl) (by simp) ?_
                                        refine AllReadyH.cons rfl (fun K hK => ?_) AllReadyH.nil
                                        rw [if_pos (by rfl)]
                                        simp only [List.getElem_toArray, List.getElem_cons_succ, List.getElem_cons_zero]
                                        go_simp
                                        (go_at_call 29; refine (refMinus_calls _ _ _ _ _ _ _).mono ?_; rintro e wc14 ⟨rfl, kc14⟩)
                                        try go_wp2_with fail
                                        refine hK.out _ _ ?_ (fun hH14 => ?_)
                                        · exact ⟨hH13.1.trans kc14, HA.step (hH13.1.trans kc14)⟩
                                        replace hP := hP.step kc14
                                        clear hK K hH13
                                        try simp only [Act.put, List.setIfInBounds_toArray, List.set_cons_zero, List.set_cons_succ, List.getElem_toArray, List.getElem_cons_succ, List.getElem_cons_zero]
                                        have hP0 := hP
                                        obtain ⟨_, cp0, cp1, cp2, fp0, fp1, fp2⟩ := hP0
                                        refine wpAnyH_ready (rs := [10]) (by kernel_rfl) (by simp) ?_
                                        refine AllReadyH.cons rfl (fun K hK => ?_) AllReadyH.nil
                                        rw [if_pos (by rfl)]
                                        simp only [List.getElem_toArray, List.getElem_cons_succ, List.getElem_cons_zero]
                                        go_simp
                                        refine hK.out _ _ ?_ (fun hS1 => ?_)
                                        · exact ⟨kept_set3 hH14.1 hp _ _ _, HA.step (kept_set3 hH14.1 hp _ _ _)⟩
                                        clear hK K
                                        try simp only [Act.put, List.setIfInBounds_toArray, List.set_cons_zero, List.set_cons_succ, List.getElem_toArray, List.getElem_cons_succ, List.getElem_cons_zero]
                                        refine wpAnyH_done (by kernel_rfl) ?_ _
                                        obtain ⟨s0, s1, s2⟩ := set3_of (v0 := .int .i64 (sub vx (mul t.way.x dd))) (v1 := .int .i64 (sub vy (mul t.way.y dd))) (v2 := .int .i64 (sub vz (mul t.way.z dd))) cp0 cp1 cp2
                                        go_wp2_with fail
                                        go_meet
                                        case rel => exact ⟨_, rfl, hS1.1, hp, s0, s1, s2⟩
                                  case rest =>
                                    clear HA
                                    obtain ⟨r, rfl, k11, hr, s0, s1, s2⟩ := hcut
                                    have H11 : Hid (RC w g n kb kl c1 bo ru R kt t ki kk i k kx ky x y B1 wc) := H10.out.keep (Only.of_kept k11)
                                    clear k11 hr H10
                                    generalize sub vx (mul t.way.x dd) = sx at HD s0
                                    generalize sub vy (mul t.way.y dd) = sy at HD s1
                                    generalize sub vz (mul t.way.z dd) = sz at HD s2
                                    obtain ⟨w11, hw11⟩ : ∃ w11, w11 = wc := ⟨_, rfl⟩
                                    subst hw11
                                    go_wp2_with fail
                                    refine (refLong_calls sx sy sz _).mono ?_
                                    rintro e w12 ⟨rfl, k12⟩
                                    have H12 : Hid (RC w g n kb kl c1 bo ru R kt t ki kk i k kx ky x y B1 w12) := H11.out.keep (Only.of_kept k12)
                                    have z0 := kept_cell k12 s0
                                    have z1 := kept_cell k12 s1
                                    have z2 := kept_cell k12 s2
                                    clear k12 s0 s1 s2 H11
                                    have HLG : Hid (longX ⟨sx, sy, sz⟩ = long sx sy sz ∧ unitX ⟨sx, sy, sz⟩ = ⟨unitPart (long sx sy sz) 0 sx, unitPart (long sx sy sz) 65536 sy, unitPart (long sx sy sz) 0 sz⟩) := ⟨rfl, rfl⟩
                                    have HUN : Hid (∀ w', Calls Try.prog 37 #[.agg #[.int .i64 sx, .int .i64 sy, .int .i64 sz]] w' fun e w'' => e = .returned (.agg #[.int .i64 (unitPart (long sx sy sz) 0 sx), .int .i64 (unitPart (long sx sy sz) 65536 sy), .int .i64 (unitPart (long sx sy sz) 0 sz)]) ∧ Kept w' w'') := fun w' => refUnit_calls sx sy sz w'
                                    generalize long sx sy sz = lg at HLG HUN
                                    by_cases hl : lg = 0
                                    · have HE2 : Hid (hitStep n bo ru C t = B1) := by
                                        show hitStep n bo ru C t = B1
                                        rw [HE1.out]
                                        unfold hitX
                                        rw [← HQQ.out.1, ← HQQ.out.2, HN.out, if_neg (by have := HJ.out.2; omega)]
                                        have hj := HJ.out.1
                                        rw [HN.out] at hj
                                        simp only [hj, ← HB1.out, ← HPQ1.out.1, ← HPQ1.out.2, HD.out, HLG.out.1, hl, if_true]
                                      have tl : (lg == 0) = true := by simpa using hl
                                      clear hl
                                      go_wp2_with fail
                                      go_roundg (m - (j + 1))
                                      case measure => have := H5.out.2; omega
                                      case rel => exact ⟨j + 1, by go_num, ⟨by omega, rfl⟩, HGO.out _ _ HE2.out H12.out.b.q⟩
                                    · have HE2 : Hid (hitStep n bo ru C t = giveX B1 i k x y (unitPart lg 0 sx) (unitPart lg 65536 sy) (unitPart lg 0 sz) (-(minX (mul jj ru) (div lg al)))) := by
                                        show hitStep n bo ru C t = _
                                        rw [HE1.out]
                                        unfold hitX
                                        rw [← HQQ.out.1, ← HQQ.out.2, HN.out, if_neg (by have := HJ.out.2; omega)]
                                        have hj := HJ.out.1
                                        rw [HN.out] at hj
                                        simp only [hj, ← HB1.out, ← HPQ1.out.1, ← HPQ1.out.2, HD.out, HLG.out.1, HLG.out.2, hl, if_false]
                                      have tl : (lg == 0) = false := by simpa using hl
                                      clear hl
                                      have hrc := H12.out.b.q.lw.off 1
                                      simp only [List.getElem?_toArray, List.getElem?_cons_succ, List.getElem?_cons_zero] at hrc
                                      go_wp2_with fail
                                      refine (refMul_calls _ _ _).mono ?_
                                      rintro e wm ⟨rfl, hwm⟩
                                      subst hwm
                                      clear hrc
                                      go_wp2_with fail
                                      refine (refDiv_calls _ _ _).mono ?_
                                      rintro e w13 ⟨rfl, hwd⟩
                                      subst hwd
                                      have H13 := H12
                                      clear H12
                                      by_cases hlt : div lg al < mul jj ru
                                      · have HE3 : Hid (hitStep n bo ru C t = giveX B1 i k x y (unitPart lg 0 sx) (unitPart lg 65536 sy) (unitPart lg 0 sz) (-(div lg al))) := by
                                          show hitStep n bo ru C t = _
                                          rw [HE2.out]; unfold minX; rw [if_pos hlt]
                                        have hmn : IntKind.i64.wrap (-(div lg al)) = -(div lg al) := by have h1 := mul_in jj ru; have h2 := div_in lg al; rw [IntKind.wrap_i64]; omega
                                        clear HE2
                                        as_aux_lemma =>
                                          go_wp2_with fail
                                          refine (HUN.out _).mono ?_
                                          rintro e w14 ⟨rfl, k14⟩
                                          have HG : Hid (RC w g n kb kl c1 bo ru R kt t ki kk i k kx ky x y B1 w14) := H13.out.keep (Only.of_kept k14)
                                          clear k14 z0 z1 z2 H13
                                          go_wp2_with fail
                                          refine (show Calls Try.prog 121 #[.agg #[.int .i64 (unitPart lg 0 sx), .int .i64 (unitPart lg 65536 sy), .int .i64 (unitPart lg 0 sz)], .int .i64 (-(div lg al)), .pointer (some ⟨kl, 0, none⟩), .pointer (some ⟨ki, 0, none⟩), .pointer (some ⟨kx, 0, none⟩), .pointer (some ⟨kk, 0, none⟩), .pointer (some ⟨ky, 0, none⟩)] w14 _ from refGive_calls kl ki kx kk ky g n c1 i k x y _ _ _ _ B1 w14 HG.out.b.own HG.out.vars.1 HIK.out.1 HIK.out.2 hn HG.out.vars.2).mono ?_
                                          rintro e w15 ⟨rfl, hO15, o15⟩
                                          have HF : Hid (RC w g n kb kl c1 bo ru R kt t ki kk i k kx ky x y (giveX B1 i k x y (unitPart lg 0 sx) (unitPart lg 65536 sy) (unitPart lg 0 sz) (-(div lg al))) w15) := HG.out.turn hO15 o15
                                          clear hO15 o15 HG
                                          go_wp2_with fail
                                          go_roundg (m - (j + 1))
                                          case measure => have := H5.out.2; omega
                                          case rel => exact ⟨j + 1, by go_num, ⟨by omega, rfl⟩, HGO.out _ _ HE3.out HF.out.b.q⟩
                                      · have HE3 : Hid (hitStep n bo ru C t = giveX B1 i k x y (unitPart lg 0 sx) (unitPart lg 65536 sy) (unitPart lg 0 sz) (-(mul jj ru))) := by
                                          show hitStep n bo ru C t = _
                                          rw [HE2.out]; unfold minX; rw [if_neg hlt]
                                        have hmn : IntKind.i64.wrap (-(mul jj ru)) = -(mul jj ru) := by have h1 := mul_in jj ru; have h2 := div_in lg al; rw [IntKind.wrap_i64]; omega
                                        clear HE2
                                        as_aux_lemma =>
                                          go_wp2_with fail
                                          refine (HUN.out _).mono ?_
                                          rintro e w14 ⟨rfl, k14⟩
                                          have HG : Hid (RC w g n kb kl c1 bo ru R kt t ki kk i k kx ky x y B1 w14) := H13.out.keep (Only.of_kept k14)
                                          clear k14 z0 z1 z2 H13
                                          go_wp2_with fail
                                          refine (show Calls Try.prog 121 #[.agg #[.int .i64 (unitPart lg 0 sx), .int .i64 (unitPart lg 65536 sy), .int .i64 (unitPart lg 0 sz)], .int .i64 (-(mul jj ru)), .pointer (some ⟨kl, 0, none⟩), .pointer (some ⟨ki, 0, none⟩), .pointer (some ⟨kx, 0, none⟩), .pointer (some ⟨kk, 0, none⟩), .pointer (some ⟨ky, 0, none⟩)] w14 _ from refGive_calls kl ki kx kk ky g n c1 i k x y _ _ _ _ B1 w14 HG.out.b.own HG.out.vars.1 HIK.out.1 HIK.out.2 hn HG.out.vars.2).mono ?_
                                          rintro e w15 ⟨rfl, hO15, o15⟩
                                          have HF : Hid (RC w g n kb kl c1 bo ru R kt t ki kk i k kx ky x y (giveX B1 i k x y (unitPart lg 0 sx) (unitPart lg 65536 sy) (unitPart lg 0 sz) (-(mul jj ru))) w15) := HG.out.turn hO15 o15
                                          clear hO15 o15 HG
                                          go_wp2_with fail
                                          go_roundg (m - (j + 1))
                                          case measure => have := H5.out.2; omega
                                          case rel => exact ⟨j + 1, by go_num, ⟨by omega, rfl⟩, HGO.out _ _ HE3.out HF.out.b.q⟩
            · have hjl : ¬ (j : Int) < (m : Int) := by omega
              obtain rfl : j = m := by have := H5.out.1; omega
              go_wp2_with fail
              go_roundg (R - (p + 1))
              case measure => have := H4.out.2; omega
              case rel => exact ⟨p + 1, by go_num, ⟨by omega, rfl⟩, HP⟩
        · skip
          have hpl : ¬ (p : Int) < (R : Int) := by omega
          obtain rfl : p = R := by have := H4.out.1; omega
          generalize hC : roundsT n bo ru B T m p = C at HP HE
          clear hC
          have lv := HP.out.var
          go_wp2_with fail
          clear lv
          go_loopg [152] n (fun k idx wr => ∃ j : Nat, idx = .int .i64 (j : Int) ∧ Hid (j ≤ n ∧ k = n - j) ∧ Hid (QW w a1 g n kb kl c1 bo ru p (clampTo C j) wr))
          case atStart => exact ⟨0, rfl, ⟨by omega, rfl⟩, HP⟩
          case round =>
            clear HP
            obtain ⟨j, rfl, H5, HP⟩ := hrel
            have hn30 := HB.out.2.1
            by_cases hj : j < n
            · have hjl : (j : Int) < (n : Int) := by omega
              obtain ⟨ha1, hO⟩ := HP.out.rw.there hj
              subst ha1
              obtain ⟨q, hq⟩ : ∃ q, q = clampTo C j j := ⟨_, rfl⟩
              have HQ : Hid (q = C j ∧ q = clampTo C j j) := ⟨by rw [hq, clampTo_at], hq⟩
              have HOO : Hid (OwnB wr g n (clampTo C j)) := hO
              clear hO hq
              go_upto_region 32 with fail
              as_aux_lemma =>
                have HLD : Hid (∀ w', Kept wr w' → SpOf w' g j q) := fun w' o => HOO.out.sp hj HQ.out.2 o
                have HK : Hid (∀ w', Only [g] wr w' → Only [g] wr w' ∧ w'.cell? ⟨kl, 0, none⟩ = some (.slice (some ⟨g, 0, none⟩) n c1)) := fun w' o => ⟨o, cell_only o HP.out.var (by simp only [List.mem_singleton]; exact HP.out.nl (by omega))⟩
                refine wp_region_held_drew (S := (fun w' => Only [g] wr w' ∧ w'.cell? ⟨kl, 0, none⟩ = some (.slice (some ⟨g, 0, none⟩) n c1))) (by kernel_rfl) ?_ (fun hHeld1 => ?_)
                · (try dsimp only); exact HK.out _ (Only.refl _ _).drew
                refine wpAnyH_take (i := 0) (v := ?_) rfl (by kernel_rfl) (by kernel_rfl) (by kernel_rfl) (fun _ _ _ h => h) (Or.inl ⟨by kernel_rfl, ?_⟩) (by assumption) ?_
                rotate_left
                · intro w'' hSw; (try dsimp only at hSw); simp only [List.getElem_toArray, List.getElem_cons_succ, List.getElem_cons_zero]; (go_simp <;> with_reducible rfl)
                try simp only [Act.put, List.setIfInBounds_toArray, List.set_cons_zero, List.set_cons_succ, List.getElem_toArray, List.getElem_cons_succ, List.getElem_cons_zero]
                refine wpAnyH_take (i := 1) (v := ?_) rfl (by kernel_rfl) (by kernel_rfl) (by kernel_rfl) (fun _ _ _ h => h) (Or.inl ⟨by kernel_rfl, ?_⟩) (by assumption) ?_
                rotate_left
                · intro w'' hSw; (try dsimp only at hSw); simp only [List.getElem_toArray, List.getElem_cons_succ, List.getElem_cons_zero]; (go_simp <;> with_reducible rfl)
                try simp only [Act.put, List.setIfInBounds_toArray, List.set_cons_zero, List.set_cons_succ, List.getElem_toArray, List.getElem_cons_succ, List.getElem_cons_zero]
                refine wpAnyH_take (i := 2) (v := ?_) rfl (by kernel_rfl) (by kernel_rfl) (by kernel_rfl) (fun _ _ _ h => h) (Or.inl ⟨by kernel_rfl, ?_⟩) (by assumption) ?_
                rotate_left
                · intro w'' hSw; (try dsimp only at hSw); simp only [List.getElem_toArray, List.getElem_cons_succ, List.getElem_cons_zero]; (go_simp <;> with_reducible rfl)
                try simp only [Act.put, List.setIfInBounds_toArray, List.set_cons_zero, List.set_cons_succ, List.getElem_toArray, List.getElem_cons_succ, List.getElem_cons_zero]
                refine wpAnyH_take (i := 3) (v := ?_) rfl (by kernel_rfl) (by kernel_rfl) (by kernel_rfl) (fun _ _ _ h => h) (Or.inl ⟨by kernel_rfl, ?_⟩) (by assumption) ?_
                rotate_left
                · intro w'' hSw; (try dsimp only at hSw); simp only [List.getElem_toArray, List.getElem_cons_succ, List.getElem_cons_zero]; (go_simp <;> with_reducible rfl)
                try simp only [Act.put, List.setIfInBounds_toArray, List.set_cons_zero, List.set_cons_succ, List.getElem_toArray, List.getElem_cons_succ, List.getElem_cons_zero]
                refine wpAnyH_take (i := 4) (v := ?_) rfl (by kernel_rfl) (by kernel_rfl) (by kernel_rfl) (fun _ _ _ h => h) (Or.inl ⟨by kernel_rfl, ?_⟩) (by assumption) ?_
                rotate_left
                · intro w'' hSw; (try dsimp only at hSw); simp only [List.getElem_toArray, List.getElem_cons_succ, List.getElem_cons_zero]; (go_simp <;> with_reducible rfl)
                try simp only [Act.put, List.setIfInBounds_toArray, List.set_cons_zero, List.set_cons_succ, List.getElem_toArray, List.getElem_cons_succ, List.getElem_cons_zero]
                refine wpAnyH_take (i := 5) (v := ?_) rfl (by kernel_rfl) (by kernel_rfl) (by kernel_rfl) (fun _ _ _ h => h) (Or.inl ⟨by kernel_rfl, ?_⟩) (by assumption) ?_
                rotate_left
                · intro w'' hSw; (try dsimp only at hSw); simp only [List.getElem_toArray, List.getElem_cons_succ, List.getElem_cons_zero]; (go_simp <;> with_reducible rfl)
                try simp only [Act.put, List.setIfInBounds_toArray, List.set_cons_zero, List.set_cons_succ, List.getElem_toArray, List.getElem_cons_succ, List.getElem_cons_zero]
                refine wpAnyH_ready (rs := [6]) (by kernel_rfl) (by simp) ?_
                refine AllReadyH.cons rfl (fun K hK => ?_) AllReadyH.nil
                rw [if_pos (by rfl)]
                obtain ⟨l0, l1, l2⟩ := HLD.out _ (Kept.refl wr).drew
                simp only [List.getElem_toArray, List.getElem_cons_succ, List.getElem_cons_zero]
                go_simp
                clear l0 l1 l2
                refine hK.out _ _ ?_ (fun hH1 => ?_)
                · (try dsimp only); exact HK.out _ (Only.of_kept (Kept.refl wr).drew)
                clear hK K hHeld1
                try simp only [Act.put, List.setIfInBounds_toArray, List.set_cons_zero, List.set_cons_succ, List.getElem_toArray, List.getElem_cons_succ, List.getElem_cons_zero]
                refine wpAnyH_ready (rs := [7]) (by kernel_rfl) (by simp) ?_
                refine AllReadyH.cons rfl (fun K hK => ?_) AllReadyH.nil
                rw [if_pos (by rfl)]
                simp only [List.getElem_toArray, List.getElem_cons_succ, List.getElem_cons_zero]
                go_simp
                (go_at_call 39; refine (refClamp_calls _ _ _ _ _ (by decide)).mono ?_; rintro e w7 ⟨rfl, k7⟩)
                try go_wp2_with fail
                refine hK.out _ _ ?_ (fun hH2 => ?_)
                · (try dsimp only); exact HK.out _ (Only.of_kept ((Kept.refl wr).drew.trans k7))
                clear hK K hH1
                try simp only [Act.put, List.setIfInBounds_toArray, List.set_cons_zero, List.set_cons_succ, List.getElem_toArray, List.getElem_cons_succ, List.getElem_cons_zero]
                simp only [bound_speed]
                have K7 : Hid (Kept wr w7) := (Kept.refl wr).drew.trans k7
                clear k7
                obtain ⟨e6, e7, e8⟩ := HLD.out _ K7.out
                have f6 := kept_frozen K7.out (HOO.out.free (j * 17 + 9)); have f7 := kept_frozen K7.out (HOO.out.free (j * 17 + 10)); have f8 := kept_frozen K7.out (HOO.out.free (j * 17 + 11))
                refine wpAnyH_take (i := 8) (v := ?_) rfl (by kernel_rfl) (by kernel_rfl) (by kernel_rfl) (fun _ _ _ h => h) (Or.inl ⟨by kernel_rfl, ?_⟩) (by assumption) ?_
                rotate_left
                · intro w'' hSw; (try dsimp only at hSw); simp only [List.getElem_toArray, List.getElem_cons_succ, List.getElem_cons_zero]; (go_simp <;> with_reducible rfl)
                try simp only [Act.put, List.setIfInBounds_toArray, List.set_cons_zero, List.set_cons_succ, List.getElem_toArray, List.getElem_cons_succ, List.getElem_cons_zero]
                refine wpAnyH_take (i := 9) (v := ?_) rfl (by kernel_rfl) (by kernel_rfl) (by kernel_rfl) (fun _ _ _ h => h) (Or.inl ⟨by kernel_rfl, ?_⟩) (by assumption) ?_
                rotate_left
                · intro w'' hSw; (try dsimp only at hSw); simp only [List.getElem_toArray, List.getElem_cons_succ, List.getElem_cons_zero]; (go_simp <;> with_reducible rfl)
                try simp only [Act.put, List.setIfInBounds_toArray, List.set_cons_zero, List.set_cons_succ, List.getElem_toArray, List.getElem_cons_succ, List.getElem_cons_zero]
                refine wpAnyH_ready (rs := [10]) (by kernel_rfl) (by simp) ?_
                refine AllReadyH.cons rfl (fun K hK => ?_) AllReadyH.nil
                rw [if_pos (by rfl)]
                simp only [List.getElem_toArray, List.getElem_cons_succ, List.getElem_cons_zero]
                go_simp
                refine hK.out _ _ ?_ (fun hH3 => ?_)
                · (try dsimp only); exact HK.out _ ((((Only.of_kept K7.out).setCell (p := ⟨g, j * 17 + 9, none⟩) (Or.inl (by simp)) _).setCell (p := ⟨g, j * 17 + 10, none⟩) (Or.inl (by simp)) _).setCell (p := ⟨g, j * 17 + 11, none⟩) (Or.inl (by simp)) _)
                clear hK K
                try simp only [Act.put, List.setIfInBounds_toArray, List.set_cons_zero, List.set_cons_succ, List.getElem_toArray, List.getElem_cons_succ, List.getElem_cons_zero]
                refine wpAnyH_done (by kernel_rfl) ?_ _
                have H8 : Hid (QW w (some ⟨g, 0, none⟩) g n kb kl c1 bo ru p (clampTo C (j + 1)) (((w7.setCell ⟨g, j * 17 + 9, none⟩ (.int .i64 (cl 6553600 q.vx))).setCell ⟨g, j * 17 + 10, none⟩ (.int .i64 (cl 6553600 q.vy))).setCell ⟨g, j * 17 + 11, none⟩ (.int .i64 (cl 6553600 q.vz)))) := by
                  have h1 := (HOO.out.only (Only.of_kept (D := []) K7.out) (by simp)).putSp hj (cl 6553600 q.vx) (cl 6553600 q.vy) (cl 6553600 q.vz)
                  rw [← HQ.out.2] at h1
                  rw [clampTo_succ, ← HQ.out.1]
                  exact HP.out.turn (by omega) h1 ((((Only.of_kept K7.out).setCell (p := ⟨g, j * 17 + 9, none⟩) (Or.inl (by simp)) _).setCell (p := ⟨g, j * 17 + 10, none⟩) (Or.inl (by simp)) _).setCell (p := ⟨g, j * 17 + 11, none⟩) (Or.inl (by simp)) _)
                clear e6 e7 e8 f6 f7 f8 K7 hH3 hH2 HLD HK
                go_wp2_with fail
                go_roundg (n - (j + 1))
                case measure => have := H5.out.2; omega
                case rel => exact ⟨j + 1, by go_num, ⟨by omega, rfl⟩, H8⟩
            · have hjl : ¬ (j : Int) < (n : Int) := by omega
              obtain rfl : j = n := by have := H5.out.1; omega
              have lv := HP.out.var
              go_wp2_with fail
              go_ret
              exact ⟨a1, c1, rfl, by rw [HE.out]; exact HP.out.rw.own.bodies, HP.out.rw.only⟩
end Go.Proofs.Ytbfkloclmlnahaa
