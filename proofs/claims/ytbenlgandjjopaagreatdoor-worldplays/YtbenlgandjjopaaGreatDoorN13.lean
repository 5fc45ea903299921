/- . -/
import Derived.OrdersHeld
import Derived.Deep.RegionHeld
import Derived.Test.YtbenlgandjjopaaGreatDoorN0
import Derived.Below
open List renaming mem_singleton → zrc,mem_cons → zrd
namespace Go.Proofs.YtbenlgandjjopaaGreatDoor
variable {w : World} {a : Act} {i fuel b j n : Nat} {listed l : Array Bool} {v : Value} {oi o : Oper} {t : TypeId} {rs : List Nat} {c : Array Value}
section
variable {P : Program} {ops : Array Oper} {Q : Exit → Act → World → Prop} {md : Region.Mode} {S : World → Prop} {f : Nat}
def wpAnyF (P : Program) (md : Region.Mode) (ops : Array Oper) (Q : Exit → Act → World → Prop) (S : World → Prop) (f : Nat) : Nat → Array Bool → Act → World → Prop
 | 0,listed,a,w => Region.ready md ops listed = [] ∧ Q .normal a w
 | fuel + 1,listed,a,w =>
  (Region.ready md ops listed = [] → Q .normal a w) ∧
  ∀ i ∈ Region.ready md ops listed,wpOp P ops Q i (fun a' w' => (i < f → S w') ∧ wpAnyF P md ops Q S f fuel (listed.setIfInBounds i true) a' w') a w
theorem yam : ∀ (fuel : Nat) (listed : Array Bool) (a : Act) (w : World),wpAnyF P md ops Q S f fuel listed a w → wpAny P md ops Q fuel listed a w
 | 0,_,_,_,h => h
 | fuel + 1,_,_,_,h => ⟨h.1,fun i hi => wpOp_mono (fun a' w' h' => yam fuel _ a' w' h'.2) (h.2 i hi)⟩
theorem ye2 (hi : ops[i]? = some oi) (hsel : ∀ (j : Nat) (o : Oper) cs b,ops[j]? = some o → o.op ≠ .select cs b)
  (hQ : ∀ c a w,Q (.panic c) (a.put oi.dst v) w → Q (.panic c) a w)
  (hF : ∀ j oj,ops[j]? = some oj → f ≤ j → j ≠ i → ∃ e ∈ oj.after,Region.binds md e = true ∧ e.on = i) :
  ∀ (fuel : Nat) (listed : Array Bool) (a : Act) (w : World),
   (∀ j oj,ops[j]? = some oj → j ≠ i → listed.getD j true = false → (∀ e ∈ oj.after,Region.binds md e = true → e.on ≠ i) → oi.apart ops oj = true) →
   i ∈ Region.ready md ops listed → YieldsIf P ops S oi v a → S w →
   wpAnyF P md ops Q S f fuel (listed.setIfInBounds i true) (a.put oi.dst v) w → wpAnyF P md ops Q S f (fuel + 1) listed a w := by
 intro fuel
 induction fuel with
 | zero =>
  intro listed a w _ hr hy hS H;refine ⟨fun h => (by rw [h] at hr; cases hr),fun j hj => ?_⟩;by_cases hji : j = i
  ·subst hji; exact hy.wpOp hi hS ⟨fun _ => hS,H⟩
  ·have := ready_mono hj hji
   rw [H.1] at this;cases this
 | succ fuel ih =>
  intro listed a w hfree hr hy hS H;refine ⟨fun h => (by rw [h] at hr; cases hr),fun j hj => ?_⟩;by_cases hji : j = i
  ·subst hji; exact hy.wpOp hi hS ⟨fun _ => hS,H⟩
  ·have h1 := H.2 j (ready_mono hj hji)
   obtain ⟨hjun,oj,hoj,hall⟩ := mem_ready.1 hj
   have hnot : ∀ e ∈ oj.after,Region.binds md e = true → e.on ≠ i := fun e he hb heq => by
    have h1 := hall e he hb;have h0 := (mem_ready.1 hr).1;rw [heq] at h1;rcases Nat.lt_or_ge i listed.size with h' | h'
    ·simp [h'] at h0 h1; rw [h0] at h1; cases h1
    ·simp [Array.getElem?_eq_none h'] at h1
   have hjf : j < f := by
    rcases Nat.lt_or_ge j f with q | q
    ·exact q
    ·obtain ⟨e,he,hb,hon⟩ := hF j oj hoj q hji
     exact absurd hon (hnot e he hb)
   have h2 := wpOp_putIf hoj (hfree j oj hoj hji hjun hnot) (fun cs b => hsel i oi cs b hi) (fun cs b => hsel j oj cs b hoj) hQ hy h1
   have hfree' : ∀ k ok,ops[k]? = some ok → k ≠ i → (listed.setIfInBounds j true).getD k true = false →
     (∀ e ∈ ok.after,Region.binds md e = true → e.on ≠ i) → oi.apart ops ok = true := fun k ok hk hki hun hno => by
    refine hfree k ok hk hki ?_ hno;by_cases hjk : j = k
    ·subst hjk; exact hjun
    ·rw [getD_set_ne true hjk] at hun; exact hun
   refine wpOp_mono (fun a' w' h3 => ⟨h3.2.1,ih (listed.setIfInBounds j true) a' w' hfree' (ready_mono hr (Ne.symm hji)) h3.1 (h3.2.1 hjf) ?_⟩) h2;rw [Array.setIfInBounds_comm _ _ hji];exact h3.2.2
def waitsF (md : Region.Mode) (ops : Array Oper) (f i : Nat) : Bool :=
 (List.range ops.size).all fun j => decide (j < f) || j == i || ((ops[j]?).map (fun o => o.after.any (fun e => Region.binds md e && e.on == i))).getD true
theorem yft (h : waitsF md ops f i = true) : ∀ j oj,ops[j]? = some oj → f ≤ j → j ≠ i → ∃ e ∈ oj.after,Region.binds md e = true ∧ e.on = i := fun j oj hj hf hji => by
 have hs : j < ops.size := (Array.getElem?_eq_some_iff.1 hj).1;have h1 := List.all_eq_true.1 h j (List.mem_range.2 hs);have h2 : decide (j < f) = false := by simp; omega
 have h3 : (j == i) = false := by simpa using hji
 rw [h2,h3,hj] at h1;simp only [Bool.false_or,Option.map_some,Option.getD_some,Array.any_eq_true'] at h1;obtain ⟨e,he,hb⟩ := h1;simp only [Bool.and_eq_true,beq_iff_eq] at hb;exact ⟨e,he,hb.1,hb.2⟩
theorem yfy (hi : ops[i]? = some oi)
  (hs : Region.noSelect ops = true) (hf : Region.free md ops listed i = true) (hr : (Region.ready md ops listed).contains i = true) (hw : waitsF md ops f i = true)
  (hQ : ∀ c a w,Q (.panic c) (a.put oi.dst v) w → Q (.panic c) a w) (hy : YieldsIf P ops S oi v a) (hS : S w)
  (h : wpAnyF P md ops Q S f fuel (listed.setIfInBounds i true) (a.put oi.dst v) w) : wpAnyF P md ops Q S f (fuel + 1) listed a w :=
 ye2 hi (Region.noSelect_spec hs) hQ (yft hw) fuel listed a w (Region.free_spec hi hf) (by simpa using hr) hy hS h
theorem y1f (hr : Region.ready md ops listed = []) (h : Q .normal a w) :
  ∀ fuel,wpAnyF P md ops Q S f fuel listed a w
 | 0 => ⟨hr,h⟩
 | _ + 1 => ⟨fun _ => h,by rw [hr]; simp⟩
def AllReadyF (P : Program) (md : Region.Mode) (ops : Array Oper) (Q : Exit → Act → World → Prop) (S : World → Prop) (f fuel : Nat) (listed : Array Bool) (a : Act) (w : World) (rs : List Nat) : Prop :=
 ∀ i ∈ rs,wpOp P ops Q i (fun a' w' => (i < f → S w') ∧ wpAnyF P md ops Q S f fuel (listed.setIfInBounds i true) a' w') a w
theorem AllReadyF.nil : AllReadyF P md ops Q S f fuel listed a w [] := fun _ h => by cases h
theorem AllReadyF.cons (ho : ops[i]? = some o)
  (h : ∀ K' : Act → World → Prop,Shut (∀ a w,S w → (S w → wpAnyF P md ops Q S f fuel (listed.setIfInBounds i true) a w) → K' a w) → if Region.wanted o (yielded ops a.tmps) = true then Oper.wp P o a w K' Q else K' (a.put o.dst undef) w)
  (hs : AllReadyF P md ops Q S f fuel listed a w rs) : AllReadyF P md ops Q S f fuel listed a w (i :: rs) := fun j hj => by
 rcases zrd.1 hj with rfl | hj
 ·exact wpOp_step ho (fun K' hK => h K' (fun a w hS hW => hK a w ⟨fun _ => hS,hW hS⟩))
 ·exact hs j hj
theorem AllReadyF.fin (ho : ops[i]? = some o) (hf : f ≤ i)
  (h : ∀ K' : Act → World → Prop,Shut (∀ a w,wpAnyF P md ops Q S f fuel (listed.setIfInBounds i true) a w → K' a w) → if Region.wanted o (yielded ops a.tmps) = true then Oper.wp P o a w K' Q else K' (a.put o.dst undef) w)
  (hs : AllReadyF P md ops Q S f fuel listed a w rs) : AllReadyF P md ops Q S f fuel listed a w (i :: rs) := fun j hj => by
 rcases zrd.1 hj with rfl | hj
 ·exact wpOp_step ho (fun K' hK => h K' (fun a w hW => hK a w ⟨fun q => absurd q (Nat.not_lt.2 hf),hW⟩))
 ·exact hs j hj
theorem y05 (hr : Region.ready md ops listed = rs) (hne : rs ≠ [])
  (h : AllReadyF P md ops Q S f fuel listed a w rs) : wpAnyF P md ops Q S f (fuel + 1) listed a w := ⟨fun h0 => absurd (hr ▸ h0) hne,hr ▸ h⟩
theorem y0v {id : Nat} (f : Nat) (S : World → Prop) (hm : P.follows .mixedOrders = true) (hS : S w.drew)
  (h : S w.drew → wpAnyF P .any ops Q S f ops.size (Array.replicate ops.size false) a w.drew) : (Code.region id ops true).wp P Q a w :=
 wp_region_any hm (yam _ _ _ _ (h hS))
theorem tkF (i : Nat) (hi : ops[i]? = some oi)
  (h : wpAnyF P md ops Q S f fuel (listed.setIfInBounds i true) (a.put oi.dst v) w)
  (hy : ∀ w'',S w'' → (execOp a.eval oi).run P w'' = .ok (.value v) w'' := by intro w'' hSw; (try dsimp only at hSw); simp only [zQ]; (go_simp <;> with_reducible rfl))
  (hs : Region.noSelect ops = true := by kernel_rfl) (hf : Region.free md ops listed i = true := by kernel_rfl) (hr : (Region.ready md ops listed).contains i = true := by kernel_rfl) (hw : waitsF md ops f i = true := by kernel_rfl)
  (hQ : ∀ c a w,Q (.panic c) (a.put oi.dst v) w → Q (.panic c) a w := by exact fun _ _ _ h => h) (hwt : Region.wanted oi (yielded ops a.tmps) = true := by kernel_rfl) (hS : S w := by assumption) : wpAnyF P md ops Q S f (fuel + 1) listed a w :=
 yfy hi hs hf hr hw hQ (Or.inl ⟨hwt,hy⟩) hS h
theorem y0z {w' : World} {s x : Operand} {u v' : Value} {K : Act → World → Prop} (ho : o.op = .call { callee := .builtin .append,args := #[s,x],argTypes := #[t,t] }) (hs : a.eval s = v) (hx : a.eval x = u)
  (hr : (Builtin.append_ #[t,t] o.type #[v,u]).run P w = .ok v' w') (hK : K (a.put o.dst v') w') : Oper.wp P o a w K Q := by
 unfold Oper.wp execOp;simp only [ho,resolve,invoke,builtin,Sem.run_bind,Sem.run_pure,Result.andThen_ok,List.map_toArray,List.map_cons,List.map_nil,hs,hx,hr];exact hK
end
open Go.ChangeShapes Go.WideShapes Go.ChangeAt Go.RowKit
structure CS where
 (i d : Nat) (v : Value)
variable {c1 cc c2 : CS} {done rest : List CS}
def ptrV (b : Nat) : Value := .pointer (some ⟨b,0,none⟩)
def putCs (cs : List CS) (a : Act) : Act := cs.foldl (fun a c => a.put (some c.d) c.v) a
def putX (ps : List (Nat × Nat)) (xs : Nat → Value) (a : Act) : Act := ps.foldl (fun a p => a.put (some p.2) (xs p.2)) a
def setN (ns : List Nat) (l : Array Bool) : Array Bool := ns.foldl (fun l n => l.setIfInBounds n true) l
def readyAny (md : Region.Mode) (ops : Array Oper) : Nat → List CS → List (Nat × Nat) → Array Bool → Bool
 | 0,_,_,_ => true
 | k + 1,cs,ps,l => !(Region.ready md ops l).isEmpty && (Region.ready md ops l).all (fun i => (cs.head?.any (fun c => c.i == i)) || ps.any (fun p => p.1 == i)) &&
  (match cs with
   | [] => true
   | c :: cs' => readyAny md ops k cs' ps (l.setIfInBounds c.i true)) && ps.all (fun p => readyAny md ops k cs (ps.erase p) (l.setIfInBounds p.1 true))
theorem yei {ns ms : List Nat} (h : ns.Perm ms) (l : Array Bool) : setN ns l = setN ms l :=
 h.foldl_eq' (fun x _ y _ z => by
  by_cases e : x = y
  ·rw [e]
  ·exact Array.setIfInBounds_comm _ _ e) l
theorem ycv (ns : List Nat) (n : Nat) (l : Array Bool) : (setN ns l).setIfInBounds n true = setN (ns ++ [n]) l := by unfold setN; rw [List.foldl_append]; rfl
theorem put_put (a : Act) (d : Nat) (u v : Value) : (a.put (some d) u).put (some d) v = a.put (some d) v := by simp [Act.put]
theorem put_far (a : Act) {d e : Nat} (u v : Value) (h : d ≠ e) : (a.put (some d) u).put (some e) v = (a.put (some e) v).put (some d) u :=
 Act.put_comm a u v (fun x hx hy => h (by injection hx with hx; injection hy with hy; rw [hx,hy]))
theorem ybg : ∀ (ps : List (Nat × Nat)) (xs : Nat → Value) (a : Act) (d : Nat) (v : Value),d ∉ ps.map (·.2) → (putX ps xs a).put (some d) v = putX ps xs (a.put (some d) v)
 | [],_,_,_,_,_ => rfl
 | p :: ps,xs,a,d,v,h => by
  simp only [List.map_cons,zrd,not_or] at h;show (putX ps xs (a.put (some p.2) (xs p.2))).put (some d) v = putX ps xs ((a.put (some d) v).put (some p.2) (xs p.2));rw [ybg ps xs _ d v h.2,put_far _ _ _ (fun e => h.1 e.symm)]
theorem y6t : ∀ (ps : List (Nat × Nat)) {xs ys : Nat → Value} (a : Act),(∀ p ∈ ps,xs p.2 = ys p.2) → putX ps xs a = putX ps ys a
 | [],_,_,_,_ => rfl
 | p :: ps,xs,ys,a,h => by
  show putX ps xs (a.put (some p.2) (xs p.2)) = putX ps ys (a.put (some p.2) (ys p.2));rw [h p (by simp),y6t ps _ (fun q hq => h q (List.mem_cons_of_mem _ hq))]
theorem y4j (p : Nat × Nat) (ps : List (Nat × Nat)) (xs : Nat → Value) (a : Act) : putX (p :: ps) xs a = putX ps xs (a.put (some p.2) (xs p.2)) := rfl
theorem yk9 : ∀ (ps : List (Nat × Nat)) (xs : Nat → Value) (a : Act) (d : Nat) (v : Value),(ps.map (·.2)).Nodup → d ∈ ps.map (·.2) → (putX ps xs a).put (some d) v = putX ps (fun e => if e = d then v else xs e) a
 | [],_,_,_,_,_,h => by simp at h
 | p :: ps,xs,a,d,v,hn,h => by
  simp only [List.map_cons,List.nodup_cons,zrd] at hn h;by_cases e : d = p.2
  ·subst e
   rw [y4j,y4j,ybg ps xs _ _ v hn.1,put_put,if_pos rfl]
   exact y6t ps _ (fun q hq => by
    have : q.2 ≠ p.2 := fun e => hn.1 (e ▸ List.mem_map_of_mem (f := (·.2)) hq)
    simp [this])
  ·rw [y4j,y4j,yk9 ps xs _ d v hn.2 (h.resolve_left e),if_neg (fun q => e q.symm)]
theorem putX_old (ps : List (Nat × Nat)) (a : Act) : putX ps (fun d => a.tmps.getD d undef) a = a := by
 have key : ∀ d,a.put (some d) (a.tmps.getD d undef) = a := fun d => by
  unfold Act.put
  have : a.tmps.setIfInBounds d (a.tmps.getD d undef) = a.tmps := by
   apply Array.ext
   ·simp
   ·intro i h1 h2
    rw [Array.getElem_setIfInBounds];split
    ·rename_i e; subst e; simp [h2]
    ·rfl
  simp only [this]
 induction ps with
 | nil => rfl
 | cons p ps ih =>
  rw [y4j,key,ih]
theorem calls1 (h : [c1] = done ++ cc :: rest) : done = [] ∧ cc = c1 := by
 cases done with
 | nil => simp at h; exact ⟨rfl,h.1.symm⟩
 | cons d ds => simp at h
theorem calls2 (h : [c1,c2] = done ++ cc :: rest) : (done = [] ∧ cc = c1) ∨ (done = [c1] ∧ cc = c2) := by
 cases done with
 | nil => simp at h; exact Or.inl ⟨rfl,h.1.symm⟩
 | cons d ds =>
  simp at h;obtain ⟨rfl,h⟩ := h;obtain ⟨rfl,e⟩ := calls1 h;exact Or.inr ⟨rfl,e⟩
theorem calls3 {c3 : CS} (h : [c1,c2,c3] = done ++ cc :: rest) : (done = [] ∧ cc = c1) ∨ (done = [c1] ∧ cc = c2) ∨ (done = [c1,c2] ∧ cc = c3) := by
 cases done with
 | nil => simp at h; exact Or.inl ⟨rfl,h.1.symm⟩
 | cons d ds =>
  simp at h;obtain ⟨rfl,h⟩ := h;rcases calls2 h with ⟨rfl,e⟩ | ⟨rfl,e⟩
  ·exact Or.inr (Or.inl ⟨rfl,e⟩)
  ·exact Or.inr (Or.inr ⟨rfl,e⟩)
theorem y08 (h : w.heap[b]? = some (.cells c t)) (j : Nat) : w.cell? (Y b j) = c[j]? := by simp [World.cell?,h]
theorem y0h (h : w.heap[b]? = some (.cells c t)) (j : Nat) : w.frozen? (Y b j) = false := by simp [World.frozen?,h]
theorem y0d (h : w.heap[b]? = some (.cells c t)) (i : Nat) (v : Value) : (w.setCell (Y b i) v).heap[b]? = some (.cells (c.setIfInBounds i v) t) := by
 simp only [World.setCell,Array.getElem?_modify,if_true,h,Option.map_some]; rfl
theorem y0r {q : Nat} {o : Obj} (h : w.heap[q]? = some o) (hne : q ≠ b) (i : Nat) (v : Value) : (w.setCell (Y b i) v).heap[q]? = some o := (Below.heap_setCell w (Y b i) v q hne).trans h
section
variable {P : Program} {ops : Array Oper} {Q : Exit → Act → World → Prop} {md : Region.Mode} {S : World → Prop}
theorem any_aux (a : Act) (w : World) (calls : List CS) (ALL : List (Nat × Nat)) (c : Array Value) (t : TypeId) (listed : Array Bool) (fuel : Nat)
  (hcalls : ∀ done cc rest,calls = done ++ cc :: rest → ∀ (xs : Nat → Value) (w' : World) (K : Act → World → Prop),Kept w w' → S w' → (∀ w'',Kept w' w'' → S w'' → K ((putX ALL xs (putCs done a)).put (some cc.d) cc.v) w'') → wpOp P ops Q cc.i K (putX ALL xs (putCs done a)) w')
  (hal : ∀ p ∈ ALL,∀ (a' : Act) (w' : World) (K : Act → World → Prop),K (a'.put (some p.2) (ptrV w'.heap.size)) (w'.alloc (.cells c t)) → wpOp P ops Q p.1 K a' w')
  (hS : ∀ w',Kept w w' → S w' → S (w'.alloc (.cells c t))) (hnd : (ALL.map (·.2)).Nodup) (hdis : ∀ cc ∈ calls,cc.d ∉ ALL.map (·.2))
  (hfin : ∀ (f : Nat → Nat) (w' : World),(∀ p ∈ ALL,w.heap.size ≤ f p.2 ∧ w'.heap[f p.2]? = some (.cells c t)) → (∀ p ∈ ALL,∀ q ∈ ALL,f p.2 = f q.2 → p.2 = q.2) → Kept w w' → S w' → wpAnyH P md ops Q S fuel (setN (calls.map (·.i) ++ ALL.map (·.1)) listed) (putX ALL (fun d => ptrV (f d)) (putCs calls a)) w') :
  ∀ (k : Nat) (done cs : List CS) (dps ps : List (Nat × Nat)) (xs : Nat → Value) (f : Nat → Nat) (w' : World),cs.length + ps.length = k → calls = done ++ cs → (dps ++ ps).Perm ALL → readyAny md ops k cs ps (setN (done.map (·.i) ++ dps.map (·.1)) listed) = true →
   (∀ p ∈ dps,xs p.2 = ptrV (f p.2) ∧ w.heap.size ≤ f p.2 ∧ w'.heap[f p.2]? = some (.cells c t)) → (∀ p ∈ dps,∀ q ∈ dps,f p.2 = f q.2 → p.2 = q.2) → Kept w w' → S w' →
   wpAnyH P md ops Q S (fuel + k) (setN (done.map (·.i) ++ dps.map (·.1)) listed) (putX ALL xs (putCs done a)) w' := by
 intro k
 induction k with
 | zero =>
  intro done cs dps ps xs f w' hk hc hp _ hx hinj hw hs;have e1 : cs = [] := List.length_eq_zero_iff.1 (by omega);have e2 : ps = [] := List.length_eq_zero_iff.1 (by omega);subst e1 e2;rw [List.append_nil] at hc hp;subst hc;have key := hfin f w' (fun p hq => (hx p (hp.mem_iff.2 hq)).2) (fun p h1 q h2 => hinj p (hp.mem_iff.2 h1) q (hp.mem_iff.2 h2)) hw hs;rw [yei (List.Perm.append (List.Perm.refl _) (hp.map (·.1))),y6t ALL (ys := fun d => ptrV (f d)) _ (fun p hq => (hx p (hp.mem_iff.2 hq)).1)];exact key
 | succ k ih =>
  intro done cs dps ps xs f w' hk hc hp hr hx hinj hw hs;simp only [readyAny,Bool.and_eq_true,Bool.not_eq_true',List.all_eq_true,Bool.or_eq_true] at hr;obtain ⟨⟨⟨hne,hall⟩,hcs⟩,hps⟩ := hr;refine wpAnyH_all rfl (fun e => by rw [e] at hne; cases hne) (fun i hi => ?_);rcases hall i hi with h1 | h1
  ·cases cs with
   | nil => simp at h1
   | cons cc cs' =>
    simp only [List.head?_cons,Option.any_some,beq_iff_eq] at h1;subst h1;refine hcalls done cc cs' hc xs w' _ hw hs (fun w'' kw hs' => ⟨hs',?_⟩);have hnot : cc.d ∉ ALL.map (·.2) := hdis cc (by rw [hc]; simp)
    have e1 : (putX ALL xs (putCs done a)).put (some cc.d) cc.v = putX ALL xs (putCs (done ++ [cc]) a) := by
     rw [ybg _ _ _ _ _ hnot]; unfold putCs; rw [List.foldl_append]; rfl
    have e2 : (setN (done.map (·.i) ++ dps.map (·.1)) listed).setIfInBounds cc.i true = setN ((done ++ [cc]).map (·.i) ++ dps.map (·.1)) listed := by
     rw [ycv];refine yei ?_ listed;rw [List.map_append,List.append_assoc,List.append_assoc];exact List.Perm.append (List.Perm.refl _) List.perm_append_comm
    rw [e1,e2];have hcs' : readyAny md ops k cs' ps ((setN (done.map (·.i) ++ dps.map (·.1)) listed).setIfInBounds cc.i true) = true := hcs;rw [e2] at hcs'
    exact ih (done ++ [cc]) cs' dps ps xs f w'' (by simp at hk; omega) (by rw [hc]; simp) hp hcs' (fun p hp' => ⟨(hx p hp').1,(hx p hp').2.1,by
     rw [kw.below.block _ (Array.getElem?_eq_some_iff.1 (hx p hp').2.2).1]; exact (hx p hp').2.2⟩) hinj (hw.trans kw) hs'
  ·obtain ⟨p,hpm,hpi⟩ := List.any_eq_true.1 h1
   simp only [beq_iff_eq] at hpi;subst hpi;have hpA : p ∈ ALL := hp.mem_iff.1 (by simp [hpm]);refine hal p hpA _ _ _ ⟨hS w' hw hs,?_⟩;have hperm : ps.Perm (p :: ps.erase p) := List.perm_cons_erase hpm;have hnd2 : ((dps ++ p :: ps.erase p).map (·.2)).Nodup := (((List.Perm.append (List.Perm.refl dps) hperm).symm.trans hp).map (·.2)).nodup_iff.2 hnd
   have hdp : ∀ q ∈ dps,q.2 ≠ p.2 := fun q hq e => by
    rw [List.map_append,List.nodup_append] at hnd2;exact hnd2.2.2 q.2 (List.mem_map_of_mem (f := (·.2)) hq) p.2 (by simp) e
   have e1 := yk9 ALL xs (putCs done a) p.2 (ptrV w'.heap.size) hnd (List.mem_map_of_mem (f := (·.2)) hpA)
   have e2 : (setN (done.map (·.i) ++ dps.map (·.1)) listed).setIfInBounds p.1 true = setN (done.map (·.i) ++ (dps ++ [p]).map (·.1)) listed := by
    rw [ycv,List.map_append,List.append_assoc]; rfl
   rw [e1,e2];have hr2 := hps p hpm;rw [e2] at hr2;have hal' : Kept w (w'.alloc (.cells c t)) := hw.alloc c t;refine ih done cs (dps ++ [p]) (ps.erase p) _ (fun d => if d = p.2 then w'.heap.size else f d) _ (by rw [List.length_erase_of_mem hpm]; have := List.length_pos_of_mem hpm; omega) hc (by rw [List.append_assoc]; exact (List.Perm.append (List.Perm.refl dps) hperm).symm.trans hp) hr2 (fun q hq => ?_) (fun q hq r hr' => ?_) hal' (hS w' hw hs)
   ·rcases List.mem_append.1 hq with hq | hq
    ·have h2 := hx q hq
     simp only [hdp q hq,if_false];refine ⟨h2.1,h2.2.1,?_⟩;rw [((Kept.refl w').alloc c t).below.block _ (Array.getElem?_eq_some_iff.1 h2.2.2).1]; exact h2.2.2
    ·simp only [zrc] at hq
     subst hq;simp only [if_true];exact ⟨trivial,hw.below.size,by show (w'.heap.push _)[w'.heap.size]? = _; simp⟩
   ·have hlt : ∀ z ∈ dps,f z.2 < w'.heap.size := fun z hz => (Array.getElem?_eq_some_iff.1 (hx z hz).2.2).1
    have key : ∀ z ∈ dps ++ [p],(z ∈ dps ∧ z.2 ≠ p.2) ∨ z = p := fun z hz => by
     rcases List.mem_append.1 hz with q | q
     ·exact Or.inl ⟨q,hdp z q⟩
     ·simp only [zrc] at q
      exact Or.inr q
    rcases key q hq with ⟨h1,n1⟩ | h1 <;> rcases key r hr' with ⟨h2,n2⟩ | h2
    ·simp only [n1,n2,if_false]; exact hinj q h1 r h2
    ·rw [h2]
     simp only [n1,if_false,if_true];intro e; have := hlt q h1; omega
    ·rw [h1]
     simp only [n2,if_false,if_true];intro e; have := hlt r h2; omega
    ·rw [h1,h2]
     intro _; rfl
theorem y22 (calls : List CS) (ALL : List (Nat × Nat)) (c : Array Value) (t : TypeId) (fuel : Nat)
  (hr : readyAny md ops (calls.length + ALL.length) calls ALL listed = true) (hnd : (ALL.map (·.2)).Nodup) (hdis : ∀ cc ∈ calls,cc.d ∉ ALL.map (·.2))
  (hcalls : ∀ done cc rest,calls = done ++ cc :: rest → ∀ (xs : Nat → Value) (w' : World) (K : Act → World → Prop),Kept w w' → S w' → (∀ w'',Kept w' w'' → S w'' → K ((putX ALL xs (putCs done a)).put (some cc.d) cc.v) w'') → wpOp P ops Q cc.i K (putX ALL xs (putCs done a)) w')
  (hal : ∀ p ∈ ALL,∀ (a' : Act) (w' : World) (K : Act → World → Prop),K (a'.put (some p.2) (ptrV w'.heap.size)) (w'.alloc (.cells c t)) → wpOp P ops Q p.1 K a' w')
  (hS : ∀ w',Kept w w' → S w' → S (w'.alloc (.cells c t))) (h0 : S w)
  (hfin : ∀ (f : Nat → Nat) (w' : World),(∀ p ∈ ALL,w.heap.size ≤ f p.2 ∧ w'.heap[f p.2]? = some (.cells c t)) → (∀ p ∈ ALL,∀ q ∈ ALL,f p.2 = f q.2 → p.2 = q.2) → Kept w w' → S w' → wpAnyH P md ops Q S fuel (setN (calls.map (·.i) ++ ALL.map (·.1)) listed) (putX ALL (fun d => ptrV (f d)) (putCs calls a)) w') :
  wpAnyH P md ops Q S (fuel + (calls.length + ALL.length)) listed a w := by
 have key := any_aux a w calls ALL c t listed fuel hcalls hal hS hnd hdis hfin (calls.length + ALL.length) [] calls [] ALL (fun d => a.tmps.getD d undef) (fun _ => 0) w rfl rfl (List.Perm.refl _) (by simpa [setN] using hr) (by simp) (by simp) (Kept.refl w) h0;rw [show putCs [] a = a from rfl,putX_old] at key;simpa [setN] using key
end
theorem y68 : ∀ (ns : List Nat) (l : Array Bool),(setN ns l).size = l.size
 | [],_ => rfl
 | n :: ns,l => by show (setN ns (l.setIfInBounds n true)).size = _; rw [y68]; simp
theorem yfe : ∀ (ns : List Nat) (l : Array Bool) (j : Nat),(setN ns l).getD j false = true ↔ l.getD j false = true ∨ (j ∈ ns ∧ j < l.size)
 | [],l,j => by simp [setN]
 | n :: ns,l,j => by
  show (setN ns (l.setIfInBounds n true)).getD j false = true ↔ _;rw [yfe ns];by_cases e : n = j
  ·subst e
   by_cases h : n < l.size
   ·simp [h]
   ·simp [h]
  ·rw [getD_set_ne false e]
   simp [Ne.symm e]
section
variable {P : Program} {ops : Array Oper} {Q : Exit → Act → World → Prop} {md : Region.Mode} {S : World → Prop} {f : Nat}
def growL (md : Region.Mode) (ops : Array Oper) (i : Nat) (l : Array Bool) : Array Bool := setN ((Region.ready md ops l).filter (fun j => j != i)) l
def lateN (md : Region.Mode) (ops : Array Oper) (f i : Nat) : Nat → Array Bool → Bool
 | 0,_ => true
 | n + 1,l => (Region.ready md ops l).all (fun j => decide (j < f) || j == i) && lateN md ops f i n (growL md ops i l)
theorem y7n (h : j ∈ Region.ready md ops l) : j < l.size ∧ l.getD j false = false := by
 have h0 := (mem_ready.1 h).1;rcases Nat.lt_or_ge j l.size with q | q
 ·simp [q] at h0 ⊢; exact h0
 ·simp [Array.getElem?_eq_none q] at h0
theorem ygo {m : Array Bool} (hs : l.size = m.size) (hle : ∀ j,l.getD j false = true → m.getD j false = true) (h : j ∈ Region.ready md ops l) : m.getD j false = true ∨ j ∈ Region.ready md ops m := by
 have hin := y7n h;obtain ⟨h0,o,ho,hall⟩ := mem_ready.1 h
 cases hm : m.getD j false with
 | true => exact Or.inl rfl
 | false =>
  refine Or.inr (mem_ready.2 ⟨?_,o,ho,fun e he hb => hle _ (hall e he hb)⟩);have q : j < m.size := by omega
  simp [q] at hm ⊢; exact hm
theorem y5y (i : Nat) (l : Array Bool) (j : Nat) : (growL md ops i l).getD j false = true ↔ l.getD j false = true ∨ (j ∈ Region.ready md ops l ∧ j ≠ i) := by
 unfold growL;rw [yfe];constructor
 ·rintro (h | ⟨h,_⟩)
  ·exact Or.inl h
  ·have := List.mem_filter.1 h
   exact Or.inr ⟨this.1,by simpa using this.2⟩
 ·rintro (h | ⟨h,h1⟩)
  ·exact Or.inl h
  ·exact Or.inr ⟨List.mem_filter.2 ⟨h,by simpa using h1⟩,(y7n h).1⟩
theorem yec {i : Nat} : ∀ (n : Nat) (l m : Array Bool),l.size = m.size → (∀ j,l.getD j false = true → m.getD j false = true) → (∀ j,m.getD j false = true → l.getD j false = true ∨ j < f ∨ j = i) → lateN md ops f i n m = true → lateN md ops f i n l = true
 | 0,_,_,_,_,_,_ => rfl
 | n + 1,l,m,hs,hle,hok,h => by
  simp only [lateN,Bool.and_eq_true,List.all_eq_true,Bool.or_eq_true,decide_eq_true_eq,beq_iff_eq] at h ⊢;refine ⟨fun j hj => ?_,yec n (growL md ops i l) (growL md ops i m) (by unfold growL; rw [y68,y68]; exact hs) (fun j hj => ?_) (fun j hj => ?_) h.2⟩
  ·rcases ygo hs hle hj with q | q
   ·rcases hok j q with e | e
    ·rw [(y7n hj).2] at e; cases e
    ·exact e
   ·exact h.1 j q
  ·rw [y5y] at hj ⊢
   rcases hj with q | ⟨q,q1⟩
   ·exact Or.inl (hle j q)
   ·rcases ygo hs hle q with e | e
    ·exact Or.inl e
    ·exact Or.inr ⟨e,q1⟩
  ·rw [y5y] at hj
   rcases hj with q | ⟨q,q1⟩
   ·rcases hok j q with e | e
    ·exact Or.inl ((y5y i l j).2 (Or.inl e))
    ·exact Or.inr e
   ·exact Or.inr (h.1 j q)
theorem late_lt (h : lateN md ops f i (n + 1) l = true) (hj : j ∈ Region.ready md ops l) (hji : j ≠ i) : j < f := by
 simp only [lateN,Bool.and_eq_true,List.all_eq_true,Bool.or_eq_true,decide_eq_true_eq,beq_iff_eq] at h;rcases h.1 j hj with e | e
 ·exact e
 ·exact absurd e hji
theorem yk3 (h : lateN md ops f i (n + 1) l = true) (hj : j ∈ Region.ready md ops l) (hji : j ≠ i) : lateN md ops f i n (l.setIfInBounds j true) = true := by
 have h' := h;simp only [lateN,Bool.and_eq_true,List.all_eq_true,Bool.or_eq_true,decide_eq_true_eq,beq_iff_eq] at h
 have hset : ∀ k,(l.setIfInBounds j true).getD k false = true ↔ l.getD k false = true ∨ (k = j) := fun k => by
  have := yfe [j] l k;rw [show setN [j] l = l.setIfInBounds j true from rfl] at this;rw [this];simp only [zrc];constructor
  ·rintro (q | ⟨q,_⟩)
   ·exact Or.inl q
   ·exact Or.inr q
  ·rintro (q | q)
   ·exact Or.inl q
   ·exact Or.inr ⟨q,by rw [q]; exact (y7n hj).1⟩
 refine yec n _ (growL md ops i l) (by unfold growL; rw [y68]; simp) (fun k hk => ?_) (fun k hk => ?_) h.2
 ·rw [y5y]
  rcases (hset k).1 hk with q | q
  ·exact Or.inl q
  ·rw [q]; exact Or.inr ⟨hj,hji⟩
 ·rw [y5y] at hk
  rcases hk with q | ⟨q,q1⟩
  ·exact Or.inl ((hset k).2 (Or.inl q))
  ·exact Or.inr (h.1 k q)
theorem ybq (hi : ops[i]? = some oi) (hsel : ∀ (j : Nat) (o : Oper) cs b,ops[j]? = some o → o.op ≠ .select cs b)
  (hQ : ∀ c a w,Q (.panic c) (a.put oi.dst v) w → Q (.panic c) a w) :
  ∀ (fuel : Nat) (listed : Array Bool) (a : Act) (w : World),lateN md ops f i fuel listed = true →
   (∀ j oj,ops[j]? = some oj → j ≠ i → listed.getD j true = false → (∀ e ∈ oj.after,Region.binds md e = true → e.on ≠ i) → oi.apart ops oj = true) →
   i ∈ Region.ready md ops listed → YieldsIf P ops S oi v a → S w →
   wpAnyF P md ops Q S f fuel (listed.setIfInBounds i true) (a.put oi.dst v) w → wpAnyF P md ops Q S f (fuel + 1) listed a w := by
 intro fuel
 induction fuel with
 | zero =>
  intro listed a w _ _ hr hy hS H;refine ⟨fun h => (by rw [h] at hr; cases hr),fun j hj => ?_⟩;by_cases hji : j = i
  ·subst hji; exact hy.wpOp hi hS ⟨fun _ => hS,H⟩
  ·have := ready_mono hj hji
   rw [H.1] at this;cases this
 | succ fuel ih =>
  intro listed a w hlate hfree hr hy hS H;refine ⟨fun h => (by rw [h] at hr; cases hr),fun j hj => ?_⟩;by_cases hji : j = i
  ·subst hji; exact hy.wpOp hi hS ⟨fun _ => hS,H⟩
  ·have h1 := H.2 j (ready_mono hj hji)
   obtain ⟨hjun,oj,hoj,hall⟩ := mem_ready.1 hj
   have hnot : ∀ e ∈ oj.after,Region.binds md e = true → e.on ≠ i := fun e he hb heq => by
    have h1 := hall e he hb;have h0 := (mem_ready.1 hr).1;rw [heq] at h1;rcases Nat.lt_or_ge i listed.size with h' | h'
    ·simp [h'] at h0 h1; rw [h0] at h1; cases h1
    ·simp [Array.getElem?_eq_none h'] at h1
   have hjf : j < f := late_lt hlate hj hji;have h2 := wpOp_putIf hoj (hfree j oj hoj hji hjun hnot) (fun cs b => hsel i oi cs b hi) (fun cs b => hsel j oj cs b hoj) hQ hy h1
   have hfree' : ∀ k ok,ops[k]? = some ok → k ≠ i → (listed.setIfInBounds j true).getD k true = false →
     (∀ e ∈ ok.after,Region.binds md e = true → e.on ≠ i) → oi.apart ops ok = true := fun k ok hk hki hun hno => by
    refine hfree k ok hk hki ?_ hno;by_cases hjk : j = k
    ·subst hjk; exact hjun
    ·rw [getD_set_ne true hjk] at hun; exact hun
   refine wpOp_mono (fun a' w' h3 => ⟨h3.2.1,ih (listed.setIfInBounds j true) a' w' (yk3 hlate hj hji) hfree' (ready_mono hr (Ne.symm hji)) h3.1 (h3.2.1 hjf) ?_⟩) h2;rw [Array.setIfInBounds_comm _ _ hji];exact h3.2.2
theorem tkL (i : Nat) (hi : ops[i]? = some oi)
  (h : wpAnyF P md ops Q S f fuel (listed.setIfInBounds i true) (a.put oi.dst v) w)
  (hy : ∀ w'',S w'' → (execOp a.eval oi).run P w'' = .ok (.value v) w'' := by intro w'' hSw; (try dsimp only at hSw); simp only [zQ]; (go_simp <;> with_reducible rfl))
  (hs : Region.noSelect ops = true := by kernel_rfl) (hf : Region.free md ops listed i = true := by kernel_rfl) (hr : (Region.ready md ops listed).contains i = true := by kernel_rfl) (hw : lateN md ops f i fuel listed = true := by kernel_rfl)
  (hQ : ∀ c a w,Q (.panic c) (a.put oi.dst v) w → Q (.panic c) a w := by exact fun _ _ _ h => h) (hwt : Region.wanted oi (yielded ops a.tmps) = true := by kernel_rfl) (hS : S w := by assumption) : wpAnyF P md ops Q S f (fuel + 1) listed a w :=
 ybq hi (Region.noSelect_spec hs) hQ fuel listed a w hw (Region.free_spec hi hf) (by simpa using hr) (Or.inl ⟨hwt,hy⟩) hS h
end
end Go.Proofs.YtbenlgandjjopaaGreatDoor
