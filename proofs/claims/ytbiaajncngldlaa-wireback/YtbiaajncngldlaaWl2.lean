/- What was asked, or told, is of bounded length; gyrekeep.sent. -/
import Derived.Test.YtbiaajncngldlaaWl1
import Derived.Test.YtbiaajncngldlaaWk2
namespace Go.Proofs.Ytbiaajncngldlaa
open Go.ChangeShapes Go.WideShapes Go.ChangeAt Go.RowKit
set_option linter.unusedVariables false
set_option linter.unusedSimpArgs false

theorem bare_askT (c : Cm) (hk : 0 ≤ c.kd ∧ c.kd ≤ 2) : askT (bareM c) = askT c := by
  obtain ⟨tk, nm, sn, kd, bd, x, y, z⟩ := c
  simp only at hk
  rcases (show kd = 0 ∨ kd = 1 ∨ kd = 2 by omega) with rfl | rfl | rfl <;> rfl
theorem intsB_78 (xs : List Int) (h : ∀ n ∈ xs, ¬ badInt n) : (intsB xs).length ≤ 78 * xs.length := flat_len _ 78 _ (fun n hn => varB_78 (codeM_lt (h n hn)))
theorem askT_len (c : Cm) (hk : 0 ≤ c.kd ∧ c.kd ≤ 2) (ok : askOk c) : (askT c).length ≤ 1000 := by
  obtain ⟨ok1, ok2⟩ := ok
  have r := inM_all ok1
  have s := inM_all ok2
  have r4 := r (bareM c).bd (by simp)
  have hv : ∀ n ∈ [c.tk, c.nm, c.sn], ¬ badVar n := fun n hn => by have := r n (by simp at hn ⊢; rcases hn with h | h | h <;> simp [h]); unfold badVar; omega
  have h1 := varsB_len _ hv
  have h2 := putsB_len 2 [c.kd]
  obtain ⟨tk, nm, sn, kd, bd, x, y, z⟩ := c
  simp only at hk h1 h2
  unfold askT
  simp only [List.length_append]
  rcases (show kd = 0 ∨ kd = 1 ∨ kd = 2 by omega) with rfl | rfl | rfl
  · simp at h1 h2 ⊢
    omega
  · have r4' : 0 ≤ bd ∧ bd ≤ 70368744177664 := r4
    have h3 := varsB_len [bd] (fun n hn => by simp at hn; subst hn; unfold badVar; omega)
    have h4 := intsB_78 [x, y, z] (fun n hn => by have := s n (by simpa [bareM] using hn); unfold badInt; omega)
    simp at h1 h2 h3 h4 ⊢
    omega
  · have r4' : 0 ≤ bd ∧ bd ≤ 70368744177664 := r4
    have h3 := varsB_len [bd] (fun n hn => by simp at hn; subst hn; unfold badVar; omega)
    simp at h1 h2 h3 ⊢
    omega
theorem tellT_len (p : Pc) (B : List Nat) (ok : tellOk p B.length) : (tellT p B).length ≤ 2000 := by
  obtain ⟨o1, o2, o3, o4⟩ := ok
  have h1 := varsB_len [p.st, p.ba] (fun n hn => by simp at hn; unfold badVar; rcases hn with rfl | rfl <;> omega)
  have h2 := putsB_len 6 [p.mn, p.ix]
  have h3 := putsB_len 7 [(B.length : Int)]
  have h4 := putsB_len 8 (B.map (fun c : Nat => (c : Int)))
  unfold tellT
  simp only [List.length_append]
  simp at h1 h2 h3 h4
  omega
theorem bytesOf_256 {l : List Nat} (h : Bits l) : ∀ x ∈ bytesOf l, x < 256 := by
  intro x hx
  obtain ⟨k, _, rfl⟩ := List.mem_map.1 hx
  exact byteAt_lt h k
/-- Bytes that ask a command. -/
structure AskBack (c : Cm) (T : List Nat) : Prop where
  kd : 0 ≤ c.kd ∧ c.kd ≤ 2
  ok : askOk c
  len : T.length ≤ 100000
  small : ∀ x ∈ T, x < 256
  good : askedGood T
  back : askedC T = bareM c
  is : T = bytesOf (askT c)
theorem AskBack.mk' {c : Cm} (hk : 0 ≤ c.kd ∧ c.kd ≤ 2) (ok : askOk c) : AskBack c (bytesOf (askT c)) :=
  ⟨hk, ok, by rw [bytesOf_len]; have := askT_len c hk ok; omega, bytesOf_256 (askT_ok c), (asked_back c hk ok).1, (asked_back c hk ok).2, rfl⟩
theorem ask_ways {c : Cm} {w w' : World} {e : Ending} (h : AskPost c w e w') : (∃ n, e = .returned (.tuple #[.slice none 0 0, errV n])) ∨ ∃ g m cv T, e = .returned (.tuple #[.slice (some ⟨g, 0, none⟩) m cv, .nilIface]) ∧ m = T.length ∧ AskBack c T ∧ ByAt w' (some ⟨g, 0, none⟩) T := by
  obtain ⟨_, ⟨_, e⟩ | ⟨_, _, e⟩ | ⟨hk, ok, v, e, g, cv, rfl, _, _, hb, _⟩⟩ := h
  · exact Or.inl ⟨1, e⟩
  · exact Or.inl ⟨2, e⟩
  · exact Or.inr ⟨g, _, cv, _, e, rfl, AskBack.mk' hk ok, hb⟩
theorem ask_again {c : Cm} {T : List Nat} {w w' : World} {e : Ending} (q : AskBack c T) (h : AskPost (bareM c) w e w') : ∃ a m cv, e = .returned (.tuple #[.slice a m cv, .nilIface]) ∧ ReadsAs w' (.slice a m cv) T := by
  have hg := q.good
  obtain ⟨_, h1, h2, _⟩ := hg
  rw [q.back] at h1 h2
  obtain ⟨_, ⟨n, e⟩ | ⟨_, n, e⟩ | ⟨hk, ok, v, e, hf⟩⟩ := h
  · exact absurd h1 n
  · exact absurd h2 n
  · have hr := hf.reads
    rw [bare_askT c q.kd, ← q.is] at hr
    obtain ⟨g, cv, rfl, _⟩ := hf
    exact ⟨_, _, _, e, hr⟩
theorem asked_ok {c : Cm} {T : List Nat} {w w' : World} {e : Ending} (q : AskBack c T) (h : AskedPost T w e w') : e = .returned (.tuple #[cmV (bareM c), .nilIface]) := by
  obtain ⟨_, ⟨_, e⟩ | ⟨n, _⟩⟩ := h
  · rw [q.back] at e; exact e
  · exact absurd q.good n
set_option maxRecDepth 100000 in
set_option maxHeartbeats 2000000 in
theorem sent_calls (w : World) : Calls Try.prog 4 #[] w fun e w' => e = .returned (.bool true) ∧ Only [] w w' := by
  go_enter Try.func4, Try.ntmps4
  go_wp2_with fail
  refine (ask_calls ⟨1, 2, 3, 1, 4, 0, -9, 0⟩ w).mono ?_
  intro e w1 ha
  have H1 : Hid (Only [] w w1) := ha.1
  rcases ask_ways ha with ⟨n, q⟩ | ⟨g, m, cv, T, rfl, hm, hq, hb⟩
  · exfalso
    obtain ⟨_, ⟨n, _⟩ | ⟨_, n, _⟩ | ⟨_, _, v, q', _⟩⟩ := ha
    · exact n ⟨by decide, by decide⟩
    · exact n ⟨by decide, by decide⟩
    · rw [q] at q'
      injection q' with q'; injection q' with q'; injection q' with q'; injection q' with _ q'; injection q' with q' _
      cases q'
  clear ha
  have HT : Hid (AskBack ⟨1, 2, 3, 1, 4, 0, -9, 0⟩ T ∧ ByAt w1 (some ⟨g, 0, none⟩) T ∧ m = T.length) := ⟨hq, hb, hm⟩
  clear hq hb hm
  go_wp2_with fail
  rw [HT.out.2.2]
  refine (asked_calls (some ⟨g, 0, none⟩) cv T w1 HT.out.1.len HT.out.1.small HT.out.2.1 (by simp)).mono ?_
  intro e w2 h2
  have H2 : Hid (Only [] w w2) := H1.out.trans h2.1
  have he := asked_ok HT.out.1 h2
  clear h2 H1
  rw [show cmV (bareM ⟨1, 2, 3, 1, 4, 0, -9, 0⟩) = .agg #[.int .i64 1, .int .i64 2, .int .i64 3, .int .i64 1, .int .i64 4, .int .i64 0, .int .i64 (-9), .int .i64 0] from rfl] at he
  subst he
  go_wp2_with fail
  go_ret
  exact ⟨ret_bool (by simp), H2.out.alloc _⟩
end Go.Proofs.Ytbiaajncngldlaa
