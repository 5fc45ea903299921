/- As text Fin; an operation may be taken first where none of the last ones can come ahead of it, be it through others: plain laws, no condition but those typed. -/
import Derived.Test.YtpegjobehdihbaaFin
import Derived.Test.YtpegjobehdihbaaAny
namespace Go.Proofs.Ytpegjobehdihbaa

theorem setN_size : ∀ (ns : List Nat) (l : Array Bool), (setN ns l).size = l.size
  | [], _ => rfl
  | n :: ns, l => by show (setN ns (l.setIfInBounds n true)).size = _; rw [setN_size]; simp
theorem setN_at : ∀ (ns : List Nat) (l : Array Bool) (j : Nat), (setN ns l).getD j false = true ↔ l.getD j false = true ∨ (j ∈ ns ∧ j < l.size)
  | [], l, j => by simp [setN]
  | n :: ns, l, j => by
    show (setN ns (l.setIfInBounds n true)).getD j false = true ↔ _
    rw [setN_at ns]
    by_cases e : n = j
    · subst e
      by_cases h : n < l.size
      · simp [h]
      · simp [h]
    · rw [getD_set_ne false e]
      simp [Ne.symm e]
section
variable {P : Program} {ops : Array Oper} {Q : Exit → Act → World → Prop} {md : Region.Mode} {S : World → Prop} {f : Nat}
def growL (md : Region.Mode) (ops : Array Oper) (i : Nat) (l : Array Bool) : Array Bool := setN ((Region.ready md ops l).filter (fun j => j != i)) l
/-- None of the last operations comes up as long as number i does not. -/
def lateN (md : Region.Mode) (ops : Array Oper) (f i : Nat) : Nat → Array Bool → Bool
  | 0, _ => true
  | n + 1, l => (Region.ready md ops l).all (fun j => decide (j < f) || j == i) && lateN md ops f i n (growL md ops i l)
theorem ready_in {l : Array Bool} {j : Nat} (h : j ∈ Region.ready md ops l) : j < l.size ∧ l.getD j false = false := by
  have h0 := (mem_ready.1 h).1
  rcases Nat.lt_or_ge j l.size with q | q
  · simp [q] at h0 ⊢; exact h0
  · simp [Array.getElem?_eq_none q] at h0
theorem ready_or {l m : Array Bool} (hs : l.size = m.size) (hle : ∀ j, l.getD j false = true → m.getD j false = true) {j : Nat} (h : j ∈ Region.ready md ops l) : m.getD j false = true ∨ j ∈ Region.ready md ops m := by
  have hin := ready_in h
  obtain ⟨h0, o, ho, hall⟩ := mem_ready.1 h
  cases hm : m.getD j false with
  | true => exact Or.inl rfl
  | false =>
    refine Or.inr (mem_ready.2 ⟨?_, o, ho, fun e he hb => hle _ (hall e he hb)⟩)
    have q : j < m.size := by omega
    simp [q] at hm ⊢; exact hm
theorem growL_at (i : Nat) (l : Array Bool) (j : Nat) : (growL md ops i l).getD j false = true ↔ l.getD j false = true ∨ (j ∈ Region.ready md ops l ∧ j ≠ i) := by
  unfold growL
  rw [setN_at]
  constructor
  · rintro (h | ⟨h, _⟩)
    · exact Or.inl h
    · have := List.mem_filter.1 h
      exact Or.inr ⟨this.1, by simpa using this.2⟩
  · rintro (h | ⟨h, h1⟩)
    · exact Or.inl h
    · exact Or.inr ⟨List.mem_filter.2 ⟨h, by simpa using h1⟩, (ready_in h).1⟩
theorem late_mono {i : Nat} : ∀ (n : Nat) (l m : Array Bool), l.size = m.size → (∀ j, l.getD j false = true → m.getD j false = true) → (∀ j, m.getD j false = true → l.getD j false = true ∨ j < f ∨ j = i) → lateN md ops f i n m = true → lateN md ops f i n l = true
  | 0, _, _, _, _, _, _ => rfl
  | n + 1, l, m, hs, hle, hok, h => by
    simp only [lateN, Bool.and_eq_true, List.all_eq_true, Bool.or_eq_true, decide_eq_true_eq, beq_iff_eq] at h ⊢
    refine ⟨fun j hj => ?_, late_mono n (growL md ops i l) (growL md ops i m) (by unfold growL; rw [setN_size, setN_size]; exact hs) (fun j hj => ?_) (fun j hj => ?_) h.2⟩
    · rcases ready_or hs hle hj with q | q
      · rcases hok j q with e | e
        · rw [(ready_in hj).2] at e; cases e
        · exact e
      · exact h.1 j q
    · rw [growL_at] at hj ⊢
      rcases hj with q | ⟨q, q1⟩
      · exact Or.inl (hle j q)
      · rcases ready_or hs hle q with e | e
        · exact Or.inl e
        · exact Or.inr ⟨e, q1⟩
    · rw [growL_at] at hj
      rcases hj with q | ⟨q, q1⟩
      · rcases hok j q with e | e
        · exact Or.inl ((growL_at i l j).2 (Or.inl e))
        · exact Or.inr e
      · exact Or.inr (h.1 j q)
theorem late_lt {i n : Nat} {l : Array Bool} (h : lateN md ops f i (n + 1) l = true) {j : Nat} (hj : j ∈ Region.ready md ops l) (hji : j ≠ i) : j < f := by
  simp only [lateN, Bool.and_eq_true, List.all_eq_true, Bool.or_eq_true, decide_eq_true_eq, beq_iff_eq] at h
  rcases h.1 j hj with e | e
  · exact e
  · exact absurd e hji
theorem late_step {i n : Nat} {l : Array Bool} (h : lateN md ops f i (n + 1) l = true) {j : Nat} (hj : j ∈ Region.ready md ops l) (hji : j ≠ i) : lateN md ops f i n (l.setIfInBounds j true) = true := by
  have h' := h
  simp only [lateN, Bool.and_eq_true, List.all_eq_true, Bool.or_eq_true, decide_eq_true_eq, beq_iff_eq] at h
  have hset : ∀ k, (l.setIfInBounds j true).getD k false = true ↔ l.getD k false = true ∨ (k = j) := fun k => by
    have := setN_at [j] l k
    rw [show setN [j] l = l.setIfInBounds j true from rfl] at this
    rw [this]
    simp only [List.mem_singleton]
    constructor
    · rintro (q | ⟨q, _⟩)
      · exact Or.inl q
      · exact Or.inr q
    · rintro (q | q)
      · exact Or.inl q
      · exact Or.inr ⟨q, by rw [q]; exact (ready_in hj).1⟩
  refine late_mono n _ (growL md ops i l) (by unfold growL; rw [setN_size]; simp) (fun k hk => ?_) (fun k hk => ?_) h.2
  · rw [growL_at]
    rcases (hset k).1 hk with q | q
    · exact Or.inl q
    · rw [q]; exact Or.inr ⟨hj, hji⟩
  · rw [growL_at] at hk
    rcases hk with q | ⟨q, q1⟩
    · exact Or.inl ((hset k).2 (Or.inl q))
    · exact Or.inr (h.1 k q)
theorem wpAnyF_firstL {i : Nat} {oi : Oper} {v : Value} (hi : ops[i]? = some oi) (hsel : ∀ (j : Nat) (o : Oper) cs b, ops[j]? = some o → o.op ≠ .select cs b)
    (hQ : ∀ c a w, Q (.panic c) (a.put oi.dst v) w → Q (.panic c) a w) :
    ∀ (fuel : Nat) (listed : Array Bool) (a : Act) (w : World), lateN md ops f i fuel listed = true →
      (∀ j oj, ops[j]? = some oj → j ≠ i → listed.getD j true = false → (∀ e ∈ oj.after, Region.binds md e = true → e.on ≠ i) → oi.apart ops oj = true) →
      i ∈ Region.ready md ops listed → YieldsIf P ops S oi v a → S w →
      wpAnyF P md ops Q S f fuel (listed.setIfInBounds i true) (a.put oi.dst v) w → wpAnyF P md ops Q S f (fuel + 1) listed a w := by
  intro fuel
  induction fuel with
  | zero =>
    intro listed a w _ _ hr hy hS H
    refine ⟨fun h => (by rw [h] at hr; cases hr), fun j hj => ?_⟩
    by_cases hji : j = i
    · subst hji; exact hy.wpOp hi hS ⟨fun _ => hS, H⟩
    · have := ready_mono hj hji
      rw [H.1] at this
      cases this
  | succ fuel ih =>
    intro listed a w hlate hfree hr hy hS H
    refine ⟨fun h => (by rw [h] at hr; cases hr), fun j hj => ?_⟩
    by_cases hji : j = i
    · subst hji; exact hy.wpOp hi hS ⟨fun _ => hS, H⟩
    · have h1 := H.2 j (ready_mono hj hji)
      obtain ⟨hjun, oj, hoj, hall⟩ := mem_ready.1 hj
      have hnot : ∀ e ∈ oj.after, Region.binds md e = true → e.on ≠ i := fun e he hb heq => by
        have h1 := hall e he hb
        have h0 := (mem_ready.1 hr).1
        rw [heq] at h1
        rcases Nat.lt_or_ge i listed.size with h' | h'
        · simp [h'] at h0 h1; rw [h0] at h1; cases h1
        · simp [Array.getElem?_eq_none h'] at h1
      have hjf : j < f := late_lt hlate hj hji
      have h2 := wpOp_putIf hoj (hfree j oj hoj hji hjun hnot) (fun cs b => hsel i oi cs b hi) (fun cs b => hsel j oj cs b hoj) hQ hy h1
      have hfree' : ∀ k ok, ops[k]? = some ok → k ≠ i → (listed.setIfInBounds j true).getD k true = false →
          (∀ e ∈ ok.after, Region.binds md e = true → e.on ≠ i) → oi.apart ops ok = true := fun k ok hk hki hun hno => by
        refine hfree k ok hk hki ?_ hno
        by_cases hjk : j = k
        · subst hjk; exact hjun
        · rw [getD_set_ne true hjk] at hun; exact hun
      refine wpOp_mono (fun a' w' h3 => ⟨h3.2.1, ih (listed.setIfInBounds j true) a' w' (late_step hlate hj hji) hfree' (ready_mono hr (Ne.symm hji)) h3.1 (h3.2.1 hjf) ?_⟩) h2
      rw [Array.setIfInBounds_comm _ _ hji]
      exact h3.2.2
theorem tkL {v : Value} {oi : Oper} {fuel : Nat} {listed : Array Bool} {a : Act} {w : World} (i : Nat) (hi : ops[i]? = some oi)
    (h : wpAnyF P md ops Q S f fuel (listed.setIfInBounds i true) (a.put oi.dst v) w)
    (hy : ∀ w'', S w'' → (execOp a.eval oi).run P w'' = .ok (.value v) w'' := by intro w'' hSw; (try dsimp only at hSw); simp only [List.getElem_toArray, List.getElem_cons_succ, List.getElem_cons_zero]; (go_simp <;> with_reducible rfl))
    (hs : Region.noSelect ops = true := by kernel_rfl) (hf : Region.free md ops listed i = true := by kernel_rfl) (hr : (Region.ready md ops listed).contains i = true := by kernel_rfl) (hw : lateN md ops f i fuel listed = true := by kernel_rfl)
    (hQ : ∀ c a w, Q (.panic c) (a.put oi.dst v) w → Q (.panic c) a w := by exact fun _ _ _ h => h) (hwt : Region.wanted oi (yielded ops a.tmps) = true := by kernel_rfl) (hS : S w := by assumption) : wpAnyF P md ops Q S f (fuel + 1) listed a w :=
  wpAnyF_firstL hi (Region.noSelect_spec hs) hQ fuel listed a w hw (Region.free_spec hi hf) (by simpa using hr) (Or.inl ⟨hwt, hy⟩) hS h
end
end Go.Proofs.Ytpegjobehdihbaa
