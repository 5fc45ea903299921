/- Whatever config and acts are given, WorldPlays returns true; no condition. -/
import Derived.Test.YtbenlgandjjopaaGreatDoorN39
import Derived.Test.YtbenlgandjjopaaGreatDoorN40
import Derived.Test.YtbenlgandjjopaaGreatDoorTie
import Derived.Test.YtbenlgandjjopaaGreatDoorCards
import Derived.ChangeSame
import Derived.ChangeVars
import Derived.JoinedOf
import Derived.RowKit
import Derived.LaidLaws
import Derived.LaidHandle
import Derived.Stop.Joined
import Derived.SevenTiedAt
open List renaming getElem?_cons_zero → zqi
open List renaming mem_singleton → zrc
namespace Go.Proofs.YtbenlgandjjopaaGreatDoor.worldPlays
set_option maxRecDepth 100000
set_option maxHeartbeats 800000
open Go.ChangeShapes Go.WideShapes Go.ChangeAt Go.RowKit Go.Joins Go.Deep SvF
set_option linter.unusedVariables false
theorem cellsAct : Tryz.prog.cellsOf 47 = 22 := by kernel_rfl
theorem cellsConf : Tryz.prog.cellsOf 27 = 7 := by kernel_rfl
theorem cellsLaw : Tryz.prog.cellsOf 25 = 3 := by kernel_rfl
section
variable {H : Type} {enc : TypeId × Value → H} {w : World} {base : Nat} {sp : Nat → Bool} {held : Bool}
theorem law_open {fuel : Nat} {cs : List Value} {x : DataW H × List MemPlace} (h : DataW.trod enc Tryz.prog w base sp held fuel 25 cs = some x) : ∃ a b c,cs = [.int .i64 a,.int .i64 b,.int .i64 c] := by
 obtain ⟨y0,y1,y2,n,rfl,hl,h0,h1,h2⟩ := trod_struct3 Tryz.underlying25 h
 rw [cellsLaw] at hl
 match cs,hl with
 | [c0,c1,c2],_ =>
  simp only [cellsInt] at h0 h1 h2
  obtain ⟨a,e0,_⟩ := int_open h0
  obtain ⟨b,e1,_⟩ := int_open h1
  obtain ⟨c,e2,_⟩ := int_open h2
  simp at e0 e1 e2
  subst e0 e1 e2
  exact ⟨a,b,c,rfl⟩
theorem conf_open {fuel : Nat} {cs : List Value} {x : DataW H × List MemPlace} (h : DataW.trod enc Tryz.prog w base sp held fuel 27 cs = some x) : ∃ c : Wc,cs = [.int .i64 (c.fx),.int .i64 (c.fy),.int .i64 (c.fz),.int .i64 (c.bo),.int .i64 (c.ru),.int .i64 (c.ro),.int .i64 (c.qt)] := by
 obtain ⟨y0,y1,y2,n,rfl,hl,h0,h1,h2⟩ := trod_struct3 Tryz.underlying27 h
 rw [cellsConf] at hl
 match cs,hl with
 | [c0,c1,c2,c3,c4,c5,c6],_ =>
  simp only [cellsInt,cellsVec,cellsLaw] at h0 h1 h2
  obtain ⟨a,b,c,e0⟩ := vec_open h0
  obtain ⟨d,e,f,e1⟩ := law_open h1
  obtain ⟨g,e2,_⟩ := int_open h2
  simp at e0 e1 e2
  obtain ⟨rfl,rfl,rfl⟩ := e0
  obtain ⟨rfl,rfl,rfl⟩ := e1
  subst e2
  exact ⟨⟨a,b,c,d,e,f,g⟩,rfl⟩
theorem arg_conf {r : Reach} {b0 : Nat} {v : Value} {d : DataW H} {p : List MemPlace} (hv : Value.okWide Tryz.prog w r b0 27 v) (h : DataW.Trod enc Tryz.prog w base sp held 27 v d p) :
  ∃ c : Wc,v = .agg #[.int .i64 (c.fx),.int .i64 (c.fy),.int .i64 (c.fz),.int .i64 (c.bo),.int .i64 (c.ru),.int .i64 (c.ro),.int .i64 (c.qt)] := by
 obtain ⟨cs,rfl,_⟩ := okWide_struct Tryz.underlying27 hv
 obtain ⟨fuel,hf⟩ := h
 obtain ⟨c,e⟩ := conf_open hf
 exact ⟨c,congrArg Value.agg (Array.ext' e)⟩
theorem act_open {fuel : Nat} {cs : List Value} {x : DataW H × List MemPlace} (h : DataW.trod enc Tryz.prog w base sp held fuel 47 cs = some x) : ∃ a : Ac,In64 a.id ∧ cs = acL a := by
 obtain ⟨y0,y1,y2,y3,n,rfl,hl,h0,h1,h2,h3⟩ := trod_struct4 Tryz.underlying47 h
 rw [cellsAct] at hl
 match cs,hl with
 | [c0,c1,c2,c3,c4,c5,c6,c7,c8,c9,c10,c11,c12,c13,c14,c15,c16,c17,c18,c19,c20,c21],_ =>
  simp only [cellsInt,cellsBody,cellsVec] at h0 h1 h2 h3
  obtain ⟨k,e0,_⟩ := int_open h0
  obtain ⟨i,e1,hwi⟩ := int_open h1
  obtain ⟨q,_,e2⟩ := body_open h2
  obtain ⟨v1,v2,v3,e3⟩ := vec_open h3
  simp at e0 e1
  simp [bdL] at e2
  simp at e3
  obtain ⟨rfl,rfl,rfl,rfl,rfl,rfl,rfl,rfl,rfl,rfl,rfl,rfl,rfl,rfl,rfl,rfl,rfl⟩ := e2
  obtain ⟨rfl,rfl,rfl⟩ := e3
  subst e0 e1
  exact ⟨⟨k,i,q,v1,v2,v3⟩,hwi,rfl⟩
theorem acts_open {fuel : Nat} {a : Option Addr} {len cap : Nat} {x : DataW H × List MemPlace} (h : DataW.trod enc Tryz.prog w 0 (fun _ => true) true fuel 28 [.slice a len cap] = some x) : ∃ L,ActsAt w a len L := by
 rcases open_slice Tryz.underlying28 h with ⟨e,_⟩ | ⟨ad,len',cap',m,n,D,Pl,e,hb,hl,hm,hmm,_,hx⟩
 ·simp at e
  obtain ⟨rfl,rfl,rfl⟩ := e
  exact ⟨fun _ => ⟨0,0,bd0,0,0,0⟩,fun j hj => by omega⟩
 ·simp at e
  obtain ⟨rfl,rfl,rfl⟩ := e
  simp only [if_true] at hmm
  subst hmm
  have key : ∀ j,∃ z : Ac,j < len → In64 z.id ∧ ∃ g o,some ad = some ⟨g,o,none⟩ ∧ w.rangeAt g (o + j * 22) (acL z) := by
   intro j
   by_cases hj : j < len
   ·obtain ⟨cs,hc,ht⟩ := hx j (by omega)
    rw [cellsAct] at hc
    obtain ⟨z,hi,rfl⟩ := act_open ht
    obtain ⟨_,_,hcell⟩ := World.cells?_some hc
    refine ⟨z,fun _ => ⟨hi,?_⟩⟩
    obtain ⟨b,o,spot⟩ := ad
    cases spot with
    | some s =>
     exfalso
     obtain ⟨cs0,hc0,ht0⟩ := hx 0 (by omega)
     rw [cellsAct] at hc0
     obtain ⟨z',_,rfl⟩ := act_open ht0
     obtain ⟨_,_,hcell0⟩ := World.cells?_some hc0
     have k := hcell0 0 (by omega)
     simp only [acL,Addr.add,Nat.zero_mul,if_true,World.cell?,Option.isSome_some,zqi] at k
     split at k <;> cases k
    | none =>
     refine ⟨b,o,rfl,fun i v hv => ?_⟩
     have hi22 : i < 22 := (List.getElem?_eq_some_iff.1 hv).1
     have k0 := hcell i (by omega)
     rw [add_plain,add_plain] at k0
     exact k0.trans hv
   ·exact ⟨⟨0,0,bd0,0,0,0⟩,fun h => absurd h hj⟩
  exact ⟨fun j => (key j).choose,fun j hj => (key j).choose_spec hj⟩
end
theorem et : Tryz.prog.globalNamed "errors.errorType" = some 0 := by kernel_rfl
theorem rt : (Tryz.prog.cutTypes.find? (·.1 == "internal/reflectlite.rtype")).map (·.2) = some 222 := by kernel_rfl
theorem oneRow : ((List.range 278).filter fun t => Tryz.prog.rowNamed t [101,114,114,111,114]) = [31] := by kernel_rfl
theorem size : Tryz.prog.types.size = 278 := by kernel_rfl
theorem handle_of_laid {W : World} (h : laidMetH Tryz.prog Rows.worldPlaysRow.laid W) : EtIs W := by
 have h' : laidMet Tryz.prog [] W ∧ handlesMet Tryz.prog Rows.worldPlaysRow.laid W := h
 obtain ⟨name,u,ty,e1,e2,e3,e4,e5⟩ := h'.2 _ (zrc.2 rfl)
 have en : name = [101,114,114,111,114] := (Option.some.inj e1).symm
 subst en
 obtain rfl := Option.some.inj (rt.symm.trans e2)
 have hm : ty ∈ (List.range 278).filter fun t => Tryz.prog.rowNamed t [101,114,114,111,114] := List.mem_filter.2 ⟨List.mem_range.2 (by rw [← size]; exact e3),e4⟩
 rw [oneRow] at hm
 obtain rfl := zrc.1 hm
 have hh : typeHandle Tryz.prog 31 = .pointer (some ⟨1,31,none⟩) := by kernel_rfl
 rw [hh] at e5
 unfold EtIs
 simpa using World.var?_cell et e5 0
def laidWorld (P : Program) (os : Os) : World :=
 let w0 := World.holding P os ⟨#[],#[],[]⟩
 { w0 with heap := w0.heap.modify 0 fun
   | .cells _ t frozen => .cells #[.iface 222 (.agg #[.pointer (some ⟨1,31,none⟩)])] t frozen
   | o => o }
theorem laidWorld_met (os : Os) (args : Array Value) : laidMetH Tryz.prog Rows.worldPlaysRow.laid ((laidWorld Tryz.prog os).forCall (fun _ _ => 0) ⟨#[],args,[]⟩).memory :=
 laidMetH_of_parts (laidMet_nil _ _) (by kernel_rfl)
theorem lifted (os : Os) (started : os.Started) (H : Type) (enc : TypeId × Value → H) :
  ReturnsInHanded {} Tryz.checked os 3 .any (fun w args => (Rows.worldPlaysSpec.pre enc Tryz.prog Tryz.f3 [] false w args ∧ laidMetH Tryz.prog Rows.worldPlaysRow.laid w) ∧ sizedMet enc Tryz.prog Tryz.f3 (OpenSpec.ofChange Rows.worldPlaysSpec) false w args)
   (Rows.worldPlaysSpec.post enc Tryz.prog Tryz.f3 false true false false) := by
 refine returnsInHanded_of_change_and (C := Tryz.checked) (X := fun w _ => laidMetH Tryz.prog Rows.worldPlaysRow.laid w) (fun _ _ _ hh h => h.of_heap hh) own started (by kernel_rfl) Tryz.func3
  (ChangeSpec.witness_at (enc := enc) (C := Tryz.checked) (os := os) (X := fun w _ => laidMetH Tryz.prog Rows.worldPlaysRow.laid w) false (laidWorld Tryz.prog os) #[.agg #[.int .i64 0,.int .i64 0,.int .i64 0,.int .i64 0,.int .i64 0,.int .i64 0,.int .i64 0],.slice none 0 0] 8 rfl (by kernel_rfl) (by kernel_rfl) (by kernel_rfl) (by kernel_rfl) (by kernel_rfl) (laidWorld_met os _)) ?_
 intro W base args ds gs before hval0 hW _ _ hL _
 have hval : ∀ (j : Nat) t v,Tryz.f3.params[j]? = some t → args[j]? = some v → Value.okWide Tryz.prog W .any base t v := hval0
 have hW' := hW
 obtain ⟨p,q,hA0,hV0,rfl,hfz,hnd⟩ := hW
 have hA : DataW.TrodAll enc Tryz.prog W 0 (fun _ => true) true Tryz.f3.params.toList args.toList ds p := hA0
 have hV : DataW.TrodVars enc Tryz.prog W (fun _ => true) [] gs q := hV0
 rw [Tryz.params3] at hA hval
 obtain ⟨v0,v1,d0,d1,q0,q1,rfl,rfl,rfl,h0,h1⟩ := trodAll_two hA
 obtain ⟨rfl,rfl⟩ : gs = [] ∧ q = [] := by
  cases gs with
  | nil => exact ⟨rfl,hV⟩
  | cons g r => exact absurd hV (by intro h; cases h)
 have h0k := h0
 obtain ⟨c,rfl⟩ := arg_conf (hval 0 27 v0 rfl rfl) h0
 obtain ⟨a1,len,cap,rfl⟩ := okWide_slice Tryz.underlying28 (hval 1 28 v1 rfl rfl)
 have h1k := h1
 obtain ⟨fuel,hf⟩ := h1
 have hg := handle_of_laid hL
 clear hA0 hval0
 simp only [List.append_nil] at hW'
 have hlt : ∀ y ∈ q0 ++ q1,y.block < W.heap.size := fun y hy => by simpa using hW'.lt y (by simpa using hy)
 have harg0 : ∀ W' : World,Below W.heap.size W W' → DataW.Trod enc Tryz.prog W' 0 (fun b => decide (b < W.heap.size)) true 27 (.agg #[.int .i64 (c.fx),.int .i64 (c.fy),.int .i64 (c.fz),.int .i64 (c.bo),.int .i64 (c.ru),.int .i64 (c.ro),.int .i64 (c.qt)]) d0 q0 :=
  fun W' hn => Below.trod laidOut (by kernel_rfl) (of_decide_eq_true (by kernel_rfl)) h0k hn (fun y hy => hlt y (by simp [hy]))
 have harg1 : ∀ W' : World,Below W.heap.size W W' → DataW.Trod enc Tryz.prog W' 0 (fun b => decide (b < W.heap.size)) true 28 (.slice a1 len cap) d1 q1 :=
  fun W' hn => Below.trod laidOut (by kernel_rfl) (of_decide_eq_true (by kernel_rfl)) h1k hn (fun y hy => hlt y (by simp [hy]))
 have hc : Calls Tryz.prog 3 #[.agg #[.int .i64 (c.fx),.int .i64 (c.fy),.int .i64 (c.fz),.int .i64 (c.bo),.int .i64 (c.ru),.int .i64 (c.ro),.int .i64 (c.qt)],.slice a1 len cap] W fun e w' => e = .returned (.bool true) ∧ Only [] W w' := by
  by_cases hl : 80 < len
  ·exact plays_long a1 len cap c W hl
  ·by_cases hb : newW c = 0
   ·obtain ⟨L,hS⟩ := acts_open (fuel := fuel) (by simpa [Value.cells] using hf)
    exact plays_main a1 len cap L c W (by omega) hg hb hS
   ·exact plays_wrong a1 len cap c W (by omega) hg hb
 refine hc.mono fun e W' ⟨he,ho⟩ => ?_
 have hn : Below W.heap.size W W' := ho.below (by simp) (Nat.le_refl _)
 subst he
 exact ⟨_,rfl,_,_,_,[],_,[],hW',trodAll_mk1 (shut_bool Tryz.underlying4 _),trodAll_mk2 (harg0 _ hn) (harg1 _ hn),rfl,hn.frame _,fun h => by cases h⟩
theorem row : Rows.WorldPlaysSaid :=
 OpenClaim.holds_of_wide 3 Tryz.f3 rfl rfl rfl rfl rfl rfl rfl ⟨rfl,rfl,rfl,rfl,rfl⟩ rfl rfl rfl rfl rfl (by kernel_rfl) Tryz.func3 (by kernel_rfl)
  (of_decide_eq_true (by kernel_rfl)) (by unfold Func.isWrapper; first | (rw [if_pos (by decide +kernel)]; kernel_rfl) | (rw [if_neg (by decide +kernel)]; exact ⟨rfl,rfl⟩))
  (fun os started H enc _ => lifted os started H enc)
end Go.Proofs.YtbenlgandjjopaaGreatDoor.worldPlays
namespace Go.Proofs.YtbenlgandjjopaaGreatDoor
theorem worldPlays_holds : Rows.WorldPlaysCardSaid :=
 Claim7.holds_tied_plain_at .later [] [.handle] true (true,"e09d7290c966b4de2184cae9639192cb291b046fa6e98e2b751b1fa85d06d237") true
  worldPlays.row (fun _ h => by cases h) (by kernel_rfl) (fun _ h => by cases h) worldPlays_row_tie rfl ⟨rfl,rfl⟩ (by kernel_rfl) rfl
  (fun f fn hf hfn => by
   obtain rfl : f = 3 := Option.some.inj ((show Tryz.prog.funcNamed "gyre/gyrelaw.WorldPlays" = some 3 by kernel_rfl).symm.trans hf) |>.symm
   obtain rfl : fn = Tryz.f3 := (Option.some.inj (Tryz.func3.symm.trans hfn)).symm
   exact ⟨by kernel_rfl,fun j t ht => by
    rw [Tryz.params3] at ht
    rcases j with _ | _ | j
    ·have h3 : t = 27 := by simpa using ht.symm
     subst h3
     exact (show Tryz.prog.wantsStandIn 27 = false by kernel_rfl)
    ·have h3 : t = 28 := by simpa using ht.symm
     subst h3
     exact (show Tryz.prog.wantsStandIn 28 = false by kernel_rfl)
    ·simp at ht⟩)
  (by kernel_rfl)
end Go.Proofs.YtbenlgandjjopaaGreatDoor
