/- Calls in their order, and variables that are laid among them in whichever order: one goal instead of one an order. Plain laws over the library's own (OrdersHeld), no condition but those typed. -/
import Derived.Test.YtpegjobehdihbaaBase
import Derived.OrdersHeld
import Derived.Below
import Derived.Deep.RegionHeld
namespace Go.Proofs.Ytpegjobehdihbaa
open Go.ChangeShapes Go.WideShapes Go.ChangeAt Go.RowKit

/-- A call: its number, its slot, what it yields. -/
structure CS where
  (i d : Nat) (v : Value)
def ptrV (b : Nat) : Value := .pointer (some ⟨b, 0, none⟩)
def putCs (cs : List CS) (a : Act) : Act := cs.foldl (fun a c => a.put (some c.d) c.v) a
def putX (ps : List (Nat × Nat)) (xs : Nat → Value) (a : Act) : Act := ps.foldl (fun a p => a.put (some p.2) (xs p.2)) a
def setN (ns : List Nat) (l : Array Bool) : Array Bool := ns.foldl (fun l n => l.setIfInBounds n true) l
def readyAny (md : Region.Mode) (ops : Array Oper) : Nat → List CS → List (Nat × Nat) → Array Bool → Bool
  | 0, _, _, _ => true
  | k + 1, cs, ps, l => !(Region.ready md ops l).isEmpty && (Region.ready md ops l).all (fun i => (cs.head?.any (fun c => c.i == i)) || ps.any (fun p => p.1 == i)) &&
    (match cs with
      | [] => true
      | c :: cs' => readyAny md ops k cs' ps (l.setIfInBounds c.i true)) && ps.all (fun p => readyAny md ops k cs (ps.erase p) (l.setIfInBounds p.1 true))
theorem setN_perm {ns ms : List Nat} (h : ns.Perm ms) (l : Array Bool) : setN ns l = setN ms l :=
  h.foldl_eq' (fun x _ y _ z => by
    by_cases e : x = y
    · rw [e]
    · exact Array.setIfInBounds_comm _ _ e) l
theorem setN_more (ns : List Nat) (n : Nat) (l : Array Bool) : (setN ns l).setIfInBounds n true = setN (ns ++ [n]) l := by unfold setN; rw [List.foldl_append]; rfl
theorem put_put (a : Act) (d : Nat) (u v : Value) : (a.put (some d) u).put (some d) v = a.put (some d) v := by simp [Act.put]
theorem put_far (a : Act) {d e : Nat} (u v : Value) (h : d ≠ e) : (a.put (some d) u).put (some e) v = (a.put (some e) v).put (some d) u :=
  Act.put_comm a u v (fun x hx hy => h (by injection hx with hx; injection hy with hy; rw [hx, hy]))
theorem putX_far : ∀ (ps : List (Nat × Nat)) (xs : Nat → Value) (a : Act) (d : Nat) (v : Value), d ∉ ps.map (·.2) → (putX ps xs a).put (some d) v = putX ps xs (a.put (some d) v)
  | [], _, _, _, _, _ => rfl
  | p :: ps, xs, a, d, v, h => by
    simp only [List.map_cons, List.mem_cons, not_or] at h
    show (putX ps xs (a.put (some p.2) (xs p.2))).put (some d) v = putX ps xs ((a.put (some d) v).put (some p.2) (xs p.2))
    rw [putX_far ps xs _ d v h.2, put_far _ _ _ (fun e => h.1 e.symm)]
theorem putX_congr : ∀ (ps : List (Nat × Nat)) {xs ys : Nat → Value} (a : Act), (∀ p ∈ ps, xs p.2 = ys p.2) → putX ps xs a = putX ps ys a
  | [], _, _, _, _ => rfl
  | p :: ps, xs, ys, a, h => by
    show putX ps xs (a.put (some p.2) (xs p.2)) = putX ps ys (a.put (some p.2) (ys p.2))
    rw [h p (by simp), putX_congr ps _ (fun q hq => h q (List.mem_cons_of_mem _ hq))]
theorem putX_cons (p : Nat × Nat) (ps : List (Nat × Nat)) (xs : Nat → Value) (a : Act) : putX (p :: ps) xs a = putX ps xs (a.put (some p.2) (xs p.2)) := rfl
theorem putX_in : ∀ (ps : List (Nat × Nat)) (xs : Nat → Value) (a : Act) (d : Nat) (v : Value), (ps.map (·.2)).Nodup → d ∈ ps.map (·.2) → (putX ps xs a).put (some d) v = putX ps (fun e => if e = d then v else xs e) a
  | [], _, _, _, _, _, h => by simp at h
  | p :: ps, xs, a, d, v, hn, h => by
    simp only [List.map_cons, List.nodup_cons, List.mem_cons] at hn h
    by_cases e : d = p.2
    · subst e
      rw [putX_cons, putX_cons, putX_far ps xs _ _ v hn.1, put_put, if_pos rfl]
      exact putX_congr ps _ (fun q hq => by
        have : q.2 ≠ p.2 := fun e => hn.1 (e ▸ List.mem_map_of_mem (f := (·.2)) hq)
        simp [this])
    · rw [putX_cons, putX_cons, putX_in ps xs _ d v hn.2 (h.resolve_left e), if_neg (fun q => e q.symm)]
theorem putX_old (ps : List (Nat × Nat)) (a : Act) : putX ps (fun d => a.tmps.getD d undef) a = a := by
  have key : ∀ d, a.put (some d) (a.tmps.getD d undef) = a := fun d => by
    unfold Act.put
    have : a.tmps.setIfInBounds d (a.tmps.getD d undef) = a.tmps := by
      apply Array.ext
      · simp
      · intro i h1 h2
        rw [Array.getElem_setIfInBounds]
        split
        · rename_i e; subst e; simp [h2]
        · rfl
    simp only [this]
  induction ps with
  | nil => rfl
  | cons p ps ih =>
    rw [putX_cons, key, ih]
theorem calls1 {c1 cc : CS} {done rest : List CS} (h : [c1] = done ++ cc :: rest) : done = [] ∧ cc = c1 := by
  cases done with
  | nil => simp at h; exact ⟨rfl, h.1.symm⟩
  | cons d ds => simp at h
theorem calls2 {c1 c2 cc : CS} {done rest : List CS} (h : [c1, c2] = done ++ cc :: rest) : (done = [] ∧ cc = c1) ∨ (done = [c1] ∧ cc = c2) := by
  cases done with
  | nil => simp at h; exact Or.inl ⟨rfl, h.1.symm⟩
  | cons d ds =>
    simp at h
    obtain ⟨rfl, h⟩ := h
    obtain ⟨rfl, e⟩ := calls1 h
    exact Or.inr ⟨rfl, e⟩
theorem calls3 {c1 c2 c3 cc : CS} {done rest : List CS} (h : [c1, c2, c3] = done ++ cc :: rest) : (done = [] ∧ cc = c1) ∨ (done = [c1] ∧ cc = c2) ∨ (done = [c1, c2] ∧ cc = c3) := by
  cases done with
  | nil => simp at h; exact Or.inl ⟨rfl, h.1.symm⟩
  | cons d ds =>
    simp at h
    obtain ⟨rfl, h⟩ := h
    rcases calls2 h with ⟨rfl, e⟩ | ⟨rfl, e⟩
    · exact Or.inr (Or.inl ⟨rfl, e⟩)
    · exact Or.inr (Or.inr ⟨rfl, e⟩)
theorem cell_of {w : World} {b : Nat} {c : Array Value} {t : TypeId} (h : w.heap[b]? = some (.cells c t)) (j : Nat) : w.cell? ⟨b, j, none⟩ = c[j]? := by simp [World.cell?, h]
theorem free_of {w : World} {b : Nat} {c : Array Value} {t : TypeId} (h : w.heap[b]? = some (.cells c t)) (j : Nat) : w.frozen? ⟨b, j, none⟩ = false := by simp [World.frozen?, h]
theorem heap_set {w : World} {b : Nat} {c : Array Value} {t : TypeId} (h : w.heap[b]? = some (.cells c t)) (i : Nat) (v : Value) : (w.setCell ⟨b, i, none⟩ v).heap[b]? = some (.cells (c.setIfInBounds i v) t) := by
  simp only [World.setCell, Array.getElem?_modify, if_true, h, Option.map_some]; rfl
theorem heap_far {w : World} {b q : Nat} {o : Obj} (h : w.heap[q]? = some o) (hne : q ≠ b) (i : Nat) (v : Value) : (w.setCell ⟨b, i, none⟩ v).heap[q]? = some o := (Below.heap_setCell w ⟨b, i, none⟩ v q hne).trans h
section
variable {P : Program} {ops : Array Oper} {Q : Exit → Act → World → Prop} {md : Region.Mode} {S : World → Prop}
theorem any_aux (a : Act) (w : World) (calls : List CS) (ALL : List (Nat × Nat)) (c : Array Value) (t : TypeId) (listed : Array Bool) (fuel : Nat)
    (hcalls : ∀ done cc rest, calls = done ++ cc :: rest → ∀ (xs : Nat → Value) (w' : World) (K : Act → World → Prop), Kept w w' → S w' → (∀ w'', Kept w' w'' → S w'' → K ((putX ALL xs (putCs done a)).put (some cc.d) cc.v) w'') → wpOp P ops Q cc.i K (putX ALL xs (putCs done a)) w')
    (hal : ∀ p ∈ ALL, ∀ (a' : Act) (w' : World) (K : Act → World → Prop), K (a'.put (some p.2) (ptrV w'.heap.size)) (w'.alloc (.cells c t)) → wpOp P ops Q p.1 K a' w')
    (hS : ∀ w', Kept w w' → S w' → S (w'.alloc (.cells c t))) (hnd : (ALL.map (·.2)).Nodup) (hdis : ∀ cc ∈ calls, cc.d ∉ ALL.map (·.2))
    (hfin : ∀ (f : Nat → Nat) (w' : World), (∀ p ∈ ALL, w.heap.size ≤ f p.2 ∧ w'.heap[f p.2]? = some (.cells c t)) → (∀ p ∈ ALL, ∀ q ∈ ALL, f p.2 = f q.2 → p.2 = q.2) → Kept w w' → S w' → wpAnyH P md ops Q S fuel (setN (calls.map (·.i) ++ ALL.map (·.1)) listed) (putX ALL (fun d => ptrV (f d)) (putCs calls a)) w') :
    ∀ (k : Nat) (done cs : List CS) (dps ps : List (Nat × Nat)) (xs : Nat → Value) (f : Nat → Nat) (w' : World), cs.length + ps.length = k → calls = done ++ cs → (dps ++ ps).Perm ALL → readyAny md ops k cs ps (setN (done.map (·.i) ++ dps.map (·.1)) listed) = true →
      (∀ p ∈ dps, xs p.2 = ptrV (f p.2) ∧ w.heap.size ≤ f p.2 ∧ w'.heap[f p.2]? = some (.cells c t)) → (∀ p ∈ dps, ∀ q ∈ dps, f p.2 = f q.2 → p.2 = q.2) → Kept w w' → S w' →
      wpAnyH P md ops Q S (fuel + k) (setN (done.map (·.i) ++ dps.map (·.1)) listed) (putX ALL xs (putCs done a)) w' := by
  intro k
  induction k with
  | zero =>
    intro done cs dps ps xs f w' hk hc hp _ hx hinj hw hs
    have e1 : cs = [] := List.length_eq_zero_iff.1 (by omega)
    have e2 : ps = [] := List.length_eq_zero_iff.1 (by omega)
    subst e1 e2
    rw [List.append_nil] at hc hp
    subst hc
    have key := hfin f w' (fun p hq => (hx p (hp.mem_iff.2 hq)).2) (fun p h1 q h2 => hinj p (hp.mem_iff.2 h1) q (hp.mem_iff.2 h2)) hw hs
    rw [setN_perm (List.Perm.append (List.Perm.refl _) (hp.map (·.1))), putX_congr ALL (ys := fun d => ptrV (f d)) _ (fun p hq => (hx p (hp.mem_iff.2 hq)).1)]
    exact key
  | succ k ih =>
    intro done cs dps ps xs f w' hk hc hp hr hx hinj hw hs
    simp only [readyAny, Bool.and_eq_true, Bool.not_eq_true', List.all_eq_true, Bool.or_eq_true] at hr
    obtain ⟨⟨⟨hne, hall⟩, hcs⟩, hps⟩ := hr
    refine wpAnyH_all rfl (fun e => by rw [e] at hne; cases hne) (fun i hi => ?_)
    rcases hall i hi with h1 | h1
    · cases cs with
      | nil => simp at h1
      | cons cc cs' =>
        simp only [List.head?_cons, Option.any_some, beq_iff_eq] at h1
        subst h1
        refine hcalls done cc cs' hc xs w' _ hw hs (fun w'' kw hs' => ⟨hs', ?_⟩)
        have hnot : cc.d ∉ ALL.map (·.2) := hdis cc (by rw [hc]; simp)
        have e1 : (putX ALL xs (putCs done a)).put (some cc.d) cc.v = putX ALL xs (putCs (done ++ [cc]) a) := by
          rw [putX_far _ _ _ _ _ hnot]; unfold putCs; rw [List.foldl_append]; rfl
        have e2 : (setN (done.map (·.i) ++ dps.map (·.1)) listed).setIfInBounds cc.i true = setN ((done ++ [cc]).map (·.i) ++ dps.map (·.1)) listed := by
          rw [setN_more]
          refine setN_perm ?_ listed
          rw [List.map_append, List.append_assoc, List.append_assoc]
          exact List.Perm.append (List.Perm.refl _) List.perm_append_comm
        rw [e1, e2]
        have hcs' : readyAny md ops k cs' ps ((setN (done.map (·.i) ++ dps.map (·.1)) listed).setIfInBounds cc.i true) = true := hcs
        rw [e2] at hcs'
        exact ih (done ++ [cc]) cs' dps ps xs f w'' (by simp at hk; omega) (by rw [hc]; simp) hp hcs' (fun p hp' => ⟨(hx p hp').1, (hx p hp').2.1, by
          rw [kw.below.block _ (Array.getElem?_eq_some_iff.1 (hx p hp').2.2).1]; exact (hx p hp').2.2⟩) hinj (hw.trans kw) hs'
    · obtain ⟨p, hpm, hpi⟩ := List.any_eq_true.1 h1
      simp only [beq_iff_eq] at hpi
      subst hpi
      have hpA : p ∈ ALL := hp.mem_iff.1 (by simp [hpm])
      refine hal p hpA _ _ _ ⟨hS w' hw hs, ?_⟩
      have hperm : ps.Perm (p :: ps.erase p) := List.perm_cons_erase hpm
      have hnd2 : ((dps ++ p :: ps.erase p).map (·.2)).Nodup := (((List.Perm.append (List.Perm.refl dps) hperm).symm.trans hp).map (·.2)).nodup_iff.2 hnd
      have hdp : ∀ q ∈ dps, q.2 ≠ p.2 := fun q hq e => by
        rw [List.map_append, List.nodup_append] at hnd2
        exact hnd2.2.2 q.2 (List.mem_map_of_mem (f := (·.2)) hq) p.2 (by simp) e
      have e1 := putX_in ALL xs (putCs done a) p.2 (ptrV w'.heap.size) hnd (List.mem_map_of_mem (f := (·.2)) hpA)
      have e2 : (setN (done.map (·.i) ++ dps.map (·.1)) listed).setIfInBounds p.1 true = setN (done.map (·.i) ++ (dps ++ [p]).map (·.1)) listed := by
        rw [setN_more, List.map_append, List.append_assoc]; rfl
      rw [e1, e2]
      have hr2 := hps p hpm
      rw [e2] at hr2
      have hal' : Kept w (w'.alloc (.cells c t)) := hw.alloc c t
      refine ih done cs (dps ++ [p]) (ps.erase p) _ (fun d => if d = p.2 then w'.heap.size else f d) _ (by rw [List.length_erase_of_mem hpm]; have := List.length_pos_of_mem hpm; omega) hc (by rw [List.append_assoc]; exact (List.Perm.append (List.Perm.refl dps) hperm).symm.trans hp) hr2 (fun q hq => ?_) (fun q hq r hr' => ?_) hal' (hS w' hw hs)
      · rcases List.mem_append.1 hq with hq | hq
        · have h2 := hx q hq
          simp only [hdp q hq, if_false]
          refine ⟨h2.1, h2.2.1, ?_⟩
          rw [((Kept.refl w').alloc c t).below.block _ (Array.getElem?_eq_some_iff.1 h2.2.2).1]; exact h2.2.2
        · simp only [List.mem_singleton] at hq
          subst hq
          simp only [if_true]
          exact ⟨trivial, hw.below.size, by show (w'.heap.push _)[w'.heap.size]? = _; simp⟩
      · have hlt : ∀ z ∈ dps, f z.2 < w'.heap.size := fun z hz => (Array.getElem?_eq_some_iff.1 (hx z hz).2.2).1
        have key : ∀ z ∈ dps ++ [p], (z ∈ dps ∧ z.2 ≠ p.2) ∨ z = p := fun z hz => by
          rcases List.mem_append.1 hz with q | q
          · exact Or.inl ⟨q, hdp z q⟩
          · simp only [List.mem_singleton] at q
            exact Or.inr q
        rcases key q hq with ⟨h1, n1⟩ | h1 <;> rcases key r hr' with ⟨h2, n2⟩ | h2
        · simp only [n1, n2, if_false]; exact hinj q h1 r h2
        · rw [h2]
          simp only [n1, if_false, if_true]
          intro e; have := hlt q h1; omega
        · rw [h1]
          simp only [n2, if_false, if_true]
          intro e; have := hlt r h2; omega
        · rw [h1, h2]
          intro _; rfl
/-- Calls and variables, in whichever order. -/
theorem any_order (calls : List CS) (ALL : List (Nat × Nat)) (c : Array Value) (t : TypeId) {a : Act} {w : World} {listed : Array Bool} (fuel : Nat)
    (hr : readyAny md ops (calls.length + ALL.length) calls ALL listed = true) (hnd : (ALL.map (·.2)).Nodup) (hdis : ∀ cc ∈ calls, cc.d ∉ ALL.map (·.2))
    (hcalls : ∀ done cc rest, calls = done ++ cc :: rest → ∀ (xs : Nat → Value) (w' : World) (K : Act → World → Prop), Kept w w' → S w' → (∀ w'', Kept w' w'' → S w'' → K ((putX ALL xs (putCs done a)).put (some cc.d) cc.v) w'') → wpOp P ops Q cc.i K (putX ALL xs (putCs done a)) w')
    (hal : ∀ p ∈ ALL, ∀ (a' : Act) (w' : World) (K : Act → World → Prop), K (a'.put (some p.2) (ptrV w'.heap.size)) (w'.alloc (.cells c t)) → wpOp P ops Q p.1 K a' w')
    (hS : ∀ w', Kept w w' → S w' → S (w'.alloc (.cells c t))) (h0 : S w)
    (hfin : ∀ (f : Nat → Nat) (w' : World), (∀ p ∈ ALL, w.heap.size ≤ f p.2 ∧ w'.heap[f p.2]? = some (.cells c t)) → (∀ p ∈ ALL, ∀ q ∈ ALL, f p.2 = f q.2 → p.2 = q.2) → Kept w w' → S w' → wpAnyH P md ops Q S fuel (setN (calls.map (·.i) ++ ALL.map (·.1)) listed) (putX ALL (fun d => ptrV (f d)) (putCs calls a)) w') :
    wpAnyH P md ops Q S (fuel + (calls.length + ALL.length)) listed a w := by
  have key := any_aux a w calls ALL c t listed fuel hcalls hal hS hnd hdis hfin (calls.length + ALL.length) [] calls [] ALL (fun d => a.tmps.getD d undef) (fun _ => 0) w rfl rfl (List.Perm.refl _) (by simpa [setN] using hr) (by simp) (by simp) (Kept.refl w) h0
  rw [show putCs [] a = a from rfl, putX_old] at key
  simpa [setN] using key
end
end Go.Proofs.Ytpegjobehdihbaa
