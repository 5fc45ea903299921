/- gyreref.Parts, gyreref.RightView: whatever the view. -/
import Derived.Test.YtedhdmahdioboaaSn2
namespace Go.Proofs.Ytedhdmahdioboaa
open Go.ChangeShapes Go.WideShapes Go.ChangeAt Go.RowKit
set_option linter.unusedVariables false
set_option linter.unusedSimpArgs false

theorem refParts_calls (x y z : Int) (w : World) : Calls Try.prog 26 #[.agg #[.int .i64 x, .int .i64 y, .int .i64 z]] w fun e w' => ∃ g, e = .returned (.slice (some ⟨g, 0, none⟩) 3 3) ∧ w.heap.size ≤ g ∧ IntsIn w' g [x, y, z] ∧ Only [] w w' := by
  go_enter Try.func26, Try.ntmps26
  go_wp2
  go_ret
  exact ⟨_, rfl, by simp, by simpa using ints_new3 (w.alloc (.cells #[.int .i64 x, .int .i64 y, .int .i64 z] 27)) x y z 3, ((Only.refl [] w).alloc _).alloc _⟩
/-- A number that may be. -/
def farB (n : Int) : Bool := !(decide (1099511627776 < n) || decide (n < -1099511627776))
def fld (s : Sn) : Nat → Int
  | 0 => s.sx
  | 1 => s.sy
  | 2 => s.sz
  | 3 => s.ax
  | 4 => s.ay
  | 5 => s.az
  | 6 => s.vx
  | 7 => s.vy
  | _ => s.vz
def farsM (s : Sn) : Nat → Bool
  | 0 => true
  | m + 1 => farsM s m && farB (fld s m)
def headB (last : Int) (s : Sn) : Bool := !(decide (s.id ≤ last) || decide (1099511627776 < s.id) || decide (s.kd < 0) || decide (7 < s.kd))
def okB (last : Int) (s : Sn) : Bool := headB last s && farsM s 9
def okN (V : Nat → Sn) : Nat → Bool
  | 0 => true
  | i + 1 => okN V i && okB (lastM V i) (V i)
def rightR (V : Nat → Sn) (n : Nat) : Bool := okN V n && decide (n ≤ 60)
theorem okN_false {V : Nat → Sn} {i n : Nat} (h : okN V i = false) (hi : i ≤ n) : okN V n = false := by
  induction n with
  | zero => obtain rfl : i = 0 := by omega
            exact h
  | succ n ih =>
    by_cases e : i = n + 1
    · rw [← e]; exact h
    · show (okN V n && _) = false
      rw [ih (by omega)]; rfl
theorem farsM_false {s : Sn} {i n : Nat} (h : farsM s i = false) (hi : i ≤ n) : farsM s n = false := by
  induction n with
  | zero => obtain rfl : i = 0 := by omega
            exact h
  | succ n ih =>
    by_cases e : i = n + 1
    · rw [← e]; exact h
    · show (farsM s n && _) = false
      rw [ih (by omega)]; rfl
theorem rightR_false {V : Nat → Sn} {i n : Nat} (hi : i < n) (h : okB (lastM V i) (V i) = false) : rightR V n = false := by
  have : okN V (i + 1) = false := by show (okN V i && _) = false; rw [h, Bool.and_false]
  unfold rightR
  rw [okN_false this (by omega)]; rfl
theorem okB_far {last : Int} {s : Sn} {m : Nat} (hm : m < 9) (h : farB (fld s m) = false) : okB last s = false := by
  have : farsM s (m + 1) = false := by show (farsM s m && _) = false; rw [h, Bool.and_false]
  unfold okB
  rw [farsM_false this (by omega), Bool.and_false]
def NineAt (w : World) (kv : Nat) (s : Sn) : Prop := ∀ m, m < 9 → w.cell? ⟨kv, m, none⟩ = some (.int .i64 (fld s m))
theorem NineAt.only {w w' : World} {kv : Nat} {s : Sn} (h : NineAt w kv s) (o : Only [] w w') : NineAt w' kv s := fun m hm => o.cell (h m hm) (by simp)
theorem nine_new (w : World) (q : Sn) (t : TypeId) : NineAt (w.alloc (.cells #[.int .i64 (q.sx), .int .i64 (q.sy), .int .i64 (q.sz), .int .i64 (q.ax), .int .i64 (q.ay), .int .i64 (q.az), .int .i64 (q.vx), .int .i64 (q.vy), .int .i64 (q.vz)] t)) w.heap.size q := by
  have h0 := (MapKept.heap_alloc w (.cells #[.int .i64 (q.sx), .int .i64 (q.sy), .int .i64 (q.sz), .int .i64 (q.ax), .int .i64 (q.ay), .int .i64 (q.az), .int .i64 (q.vx), .int .i64 (q.vy), .int .i64 (q.vz)] t)).1
  generalize w.alloc _ = w2 at h0 ⊢
  generalize w.heap.size = b at h0 ⊢
  intro m hm
  match m, hm with
  | 0, _ => simp [World.cell?, h0, fld]
  | 1, _ => simp [World.cell?, h0, fld]
  | 2, _ => simp [World.cell?, h0, fld]
  | 3, _ => simp [World.cell?, h0, fld]
  | 4, _ => simp [World.cell?, h0, fld]
  | 5, _ => simp [World.cell?, h0, fld]
  | 6, _ => simp [World.cell?, h0, fld]
  | 7, _ => simp [World.cell?, h0, fld]
  | 8, _ => simp [World.cell?, h0, fld]
  | m + 9, h => exact absurd h (by omega)
set_option maxRecDepth 100000 in
set_option maxHeartbeats 4000000 in
theorem rightView_calls (a : Option Addr) (n c : Nat) (V : Nat → Sn) (w : World) (hn : n ≤ 1000000) (h : SeenAt w a n V) :
    Calls Try.prog 39 #[.slice a n c] w fun e w' => e = .returned (.bool (rightR V n)) ∧ Only [] w w' := by
  have HB : Hid (SeenAt w a n V ∧ n ≤ 1000000) := ⟨h, hn⟩
  clear h hn
  go_enter Try.func39, Try.ntmps39
  go_wp2_with fail
  go_loopg [3, 12] n (fun k last idx wr => ∃ i : Nat, last = .int .i64 (lastM V i) ∧ idx = .int .i64 (i : Int) ∧ Hid (i ≤ n ∧ k = n - i ∧ okN V i = true) ∧ Hid (Only [] w wr))
  case atStart => exact ⟨0, rfl, rfl, ⟨by omega, rfl, rfl⟩, Only.refl _ _⟩
  case round =>
    obtain ⟨i, rfl, rfl, H1, HO⟩ := hrel
    have hn := HB.out.2
    by_cases hi : i < n
    · have hil : (i : Int) < (n : Int) := by omega
      obtain ⟨g1, f1, ha1, hc⟩ := (HB.out.1.only HO.out) i hi
      obtain ⟨u, hq⟩ : ∃ u, V i = u := ⟨_, rfl⟩
      have HC : Hid ((okB (lastM V i) u = false → rightR V n = false) ∧ (okB (lastM V i) u = true → okN V (i + 1) = true) ∧ lastM V (i + 1) = u.id) := by
        rw [← hq]; exact ⟨fun e => rightR_false hi e, fun e => by show (okN V i && _) = true; rw [H1.out.2.2, e]; rfl, rfl⟩
      rw [hq] at hc
      clear hq
      subst ha1
      go_upto_region 5 with (first | (refine wpList_load_mid rfl 116 (.tmp 14) rfl g1 (f1 + i * 11) rfl [.int .i64 (u.id), .int .i64 (u.kd), .int .i64 (u.sx), .int .i64 (u.sy), .int .i64 (u.sz), .int .i64 (u.ax), .int .i64 (u.ay), .int .i64 (u.az), .int .i64 (u.vx), .int .i64 (u.vy), .int .i64 (u.vz)] _ (range11 hc) Try.underlying116 rfl refSeenSize ?_))
      clear hc
      have H9 : Hid (Only [] w (wr.alloc (.cells #[.int .i64 (u.id), .int .i64 (u.kd), .int .i64 (u.sx), .int .i64 (u.sy), .int .i64 (u.sz), .int .i64 (u.ax), .int .i64 (u.ay), .int .i64 (u.az), .int .i64 (u.vx), .int .i64 (u.vy), .int .i64 (u.vz)] 116)) ∧ SnAt 116 (wr.alloc (.cells #[.int .i64 (u.id), .int .i64 (u.kd), .int .i64 (u.sx), .int .i64 (u.sy), .int .i64 (u.sz), .int .i64 (u.ax), .int .i64 (u.ay), .int .i64 (u.az), .int .i64 (u.vx), .int .i64 (u.vy), .int .i64 (u.vz)] 116)) wr.heap.size u) := ⟨HO.out.alloc _, SnAt.new _ wr u⟩
      clear HO
      revert HC H9
      generalize wr.heap.size = ks
      generalize World.alloc wr _ = w9
      generalize lastM V i = la
      intro HC H9
      have e0 := H9.out.2.off 0
      have e1 := H9.out.2.off 1
      simp only [List.getElem?_toArray, List.getElem?_cons_succ, List.getElem?_cons_zero] at e0 e1
      by_cases hh : headB la u = true
      · have HH : Hid (headB la u = true) := hh
        unfold headB at hh
        simp only [Bool.not_eq_true', Bool.or_eq_false_iff] at hh
        obtain ⟨⟨⟨h1, h2⟩, h3⟩, h4⟩ := hh
        have e2 := H9.out.2.off 2
        have e3 := H9.out.2.off 3
        have e4 := H9.out.2.off 4
        have e5 := H9.out.2.off 5
        have e6 := H9.out.2.off 6
        have e7 := H9.out.2.off 7
        have e8 := H9.out.2.off 8
        have e9 := H9.out.2.off 9
        have e10 := H9.out.2.off 10
        simp only [List.getElem?_toArray, List.getElem?_cons_succ, List.getElem?_cons_zero] at e2 e3 e4 e5 e6 e7 e8 e9 e10
        go_wp2_with fail
        have H5 : Hid (Only [] w (w9.alloc (.cells #[.int .i64 (u.sx), .int .i64 (u.sy), .int .i64 (u.sz), .int .i64 (u.ax), .int .i64 (u.ay), .int .i64 (u.az), .int .i64 (u.vx), .int .i64 (u.vy), .int .i64 (u.vz)] 27)) ∧ NineAt (w9.alloc (.cells #[.int .i64 (u.sx), .int .i64 (u.sy), .int .i64 (u.sz), .int .i64 (u.ax), .int .i64 (u.ay), .int .i64 (u.az), .int .i64 (u.vx), .int .i64 (u.vy), .int .i64 (u.vz)] 27)) w9.heap.size u) := ⟨H9.out.1.alloc _, nine_new w9 u _⟩
        clear e0 e1 e2 e3 e4 e5 e6 e7 e8 e9 e10 h1 h2 h3 h4 H9
        revert H5
        generalize w9.heap.size = kv
        generalize World.alloc w9 _ = w5
        intro H5
        clear hil
        go_loopg [45] 3 (fun k idx wr => ∃ j : Nat, idx = .int .i64 (j : Int) ∧ Hid (j ≤ 3 ∧ k = 3 - j ∧ farsM u (3 * j) = true) ∧ Hid (Only [] w wr ∧ NineAt wr kv u))
        case atStart => exact ⟨0, rfl, ⟨by omega, rfl, rfl⟩, H5⟩
        case round =>
          clear H5
          obtain ⟨j, rfl, H6, HO⟩ := hrel
          by_cases hj : j < 3
          · have hjl : (j : Int) < 3 := by omega
            have c0 := HO.out.2 (j * 3) (by omega)
            have c1 := HO.out.2 (j * 3 + 1) (by omega)
            have c2 := HO.out.2 (j * 3 + 2) (by omega)
            go_wp2_with fail
            have H7 : Hid (Only [] w (wr.alloc (.cells #[.int .i64 (fld u (j * 3)), .int .i64 (fld u (j * 3 + 1)), .int .i64 (fld u (j * 3 + 2))] 27)) ∧ NineAt (wr.alloc (.cells #[.int .i64 (fld u (j * 3)), .int .i64 (fld u (j * 3 + 1)), .int .i64 (fld u (j * 3 + 2))] 27)) kv u) := ⟨HO.out.1.alloc _, HO.out.2.only ((Only.refl [] _).alloc _)⟩
            clear c0 c1 c2 HO
            generalize World.alloc wr _ = w7 at H7 ⊢
            refine (refParts_calls _ _ _ _).mono ?_
            rintro e w8 ⟨gp, rfl, hgp, hin, o8⟩
            have H8 : Hid (Only [] w w8 ∧ NineAt w8 kv u ∧ ∀ m, m < 3 → w8.cell? ⟨gp, m, none⟩ = some (.int .i64 (fld u (3 * j + m)))) := by
              refine ⟨H7.out.1.trans o8, H7.out.2.only o8, fun m hm => ?_⟩
              have h3 := hin m (by simpa using hm)
              rw [h3]
              match m, hm with
              | 0, _ => rw [Nat.mul_comm 3 j]; rfl
              | 1, _ => rw [Nat.mul_comm 3 j]; rfl
              | 2, _ => rw [Nat.mul_comm 3 j]; rfl
              | m + 3, h => exact absurd h (by omega)
            clear hin hgp o8 H7
            go_wp2_with fail
            go_loopg [52] 3 (fun k idx wr => ∃ m : Nat, idx = .int .i64 (m : Int) ∧ Hid (m ≤ 3 ∧ k = 3 - m ∧ farsM u (3 * j + m) = true) ∧ Hid (Only [] w wr ∧ NineAt wr kv u ∧ ∀ m, m < 3 → wr.cell? ⟨gp, m, none⟩ = some (.int .i64 (fld u (3 * j + m)))))
            case atStart => exact ⟨0, rfl, ⟨by omega, rfl, H6.out.2.2⟩, H8⟩
            case round =>
              clear H8
              obtain ⟨m, rfl, H2, HP⟩ := hrel
              by_cases hm : m < 3
              · have hml : (m : Int) < 3 := by omega
                have hc := HP.out.2.2 m hm
                have HF : Hid ((farB (fld u (3 * j + m)) = false → rightR V n = false) ∧ (farB (fld u (3 * j + m)) = true → farsM u (3 * j + (m + 1)) = true)) :=
                  ⟨fun e => HC.out.1 (okB_far (by omega) e), fun e => by show (farsM u (3 * j + m) && farB (fld u (3 * j + m))) = true; rw [H2.out.2.2, e]; rfl⟩
                generalize fld u (3 * j + m) = v at hc HF
                by_cases h1 : 1099511627776 < v
                · have HV : Hid (rightR V n = false) := HF.out.1 (by simp [farB, h1])
                  have d1 : decide (1099511627776 < v) = true := by simpa using h1
                  clear HF
                  go_wp2_with fail
                  go_ret
                  exact ⟨(congrArg (fun b => Ending.returned (Value.bool b)) HV.out).symm, HP.out.1⟩
                · have d1 : decide (1099511627776 < v) = false := by simpa using h1
                  by_cases h2 : v < -1099511627776
                  · have HV : Hid (rightR V n = false) := HF.out.1 (by simp [farB, h2])
                    have d2 : decide (v < -1099511627776) = true := by simpa using h2
                    clear HF
                    go_wp2_with fail
                    go_ret
                    exact ⟨(congrArg (fun b => Ending.returned (Value.bool b)) HV.out).symm, HP.out.1⟩
                  · have HV : Hid (farsM u (3 * j + (m + 1)) = true) := HF.out.2 (by simp [farB]; omega)
                    have d2 : decide (v < -1099511627776) = false := by simpa using h2
                    clear HF
                    go_wp2_with fail
                    go_roundg (3 - (m + 1))
                    case measure => have := H2.out.2.1; omega
                    case rel => exact ⟨m + 1, by go_num, ⟨by omega, rfl, HV.out⟩, HP⟩
              · have hml : ¬ (m : Int) < 3 := by omega
                obtain rfl : m = 3 := by have := H2.out.1; omega
                go_wp2_with fail
                go_roundg (3 - (j + 1))
                case measure => have := H6.out.2.1; omega
                case rel => exact ⟨j + 1, by go_num, ⟨by omega, rfl, H2.out.2.2⟩, HP.out.1, HP.out.2.1⟩
          · have hjl : ¬ (j : Int) < 3 := by omega
            obtain rfl : j = 3 := by have := H6.out.1; omega
            go_wp2_with fail
            go_roundg (n - (i + 1))
            case measure => have := H1.out.2.1; omega
            case rel => exact ⟨i + 1, by rw [HC.out.2.2], by go_num, ⟨by omega, rfl, HC.out.2.1 (by unfold okB; rw [HH.out]; exact H6.out.2.2)⟩, HO.out.1⟩
      · have HV : Hid (rightR V n = false) := HC.out.1 (by unfold okB; rw [Bool.not_eq_true] at hh; rw [hh]; rfl)
        unfold headB at hh
        by_cases h1 : u.id ≤ la
        · have d1 : decide (u.id ≤ la) = true := by simpa using h1
          clear hh
          go_wp2_with fail
          go_ret
          exact ⟨(congrArg (fun b => Ending.returned (Value.bool b)) HV.out).symm, H9.out.1⟩
        · have d1 : decide (u.id ≤ la) = false := by simpa using h1
          by_cases h2 : 1099511627776 < u.id
          · have d2 : decide (1099511627776 < u.id) = true := by simpa using h2
            clear hh
            go_wp2_with fail
            go_ret
            exact ⟨(congrArg (fun b => Ending.returned (Value.bool b)) HV.out).symm, H9.out.1⟩
          · have d2 : decide (1099511627776 < u.id) = false := by simpa using h2
            by_cases h3 : u.kd < 0
            · have d3 : decide (u.kd < 0) = true := by simpa using h3
              clear hh
              go_wp2_with fail
              go_ret
              exact ⟨(congrArg (fun b => Ending.returned (Value.bool b)) HV.out).symm, H9.out.1⟩
            · have d3 : decide (u.kd < 0) = false := by simpa using h3
              have d4 : decide (7 < u.kd) = true := by simp [d1, d2, d3] at hh; simpa using hh
              clear hh
              go_wp2_with fail
              go_ret
              exact ⟨(congrArg (fun b => Ending.returned (Value.bool b)) HV.out).symm, H9.out.1⟩
    · have hil : ¬ (i : Int) < (n : Int) := by omega
      obtain rfl : i = n := by have := H1.out.1; omega
      go_wp2_with fail
      go_ret
      exact ⟨by unfold rightR; rw [H1.out.2.2]; by_cases q : i ≤ 60 <;> simp [q] <;> omega, HO.out⟩
end Go.Proofs.Ytedhdmahdioboaa
