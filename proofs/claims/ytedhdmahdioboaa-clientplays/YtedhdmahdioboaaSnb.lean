/- snap.take where there is none of that number; snap.lowest: whatever the views. -/
import Derived.Test.YtedhdmahdioboaaSna
namespace Go.Proofs.Ytedhdmahdioboaa
open Go.ChangeShapes Go.WideShapes Go.ChangeAt Go.RowKit
set_option linter.unusedVariables false
set_option linter.unusedSimpArgs false

theorem SvAt.heads {w : World} {a : Option Addr} {n c : Nat} {s : Sn} {L : List Sn} (h : SeenAt w a (s :: L).length (fun j => (s :: L).getD j zs)) : ∃ g o, a = some ⟨g, o, none⟩ ∧ w.cell? ⟨g, o, none⟩ = some (.int .i64 (s.id)) := by
  obtain ⟨g, o, rfl, hc⟩ := h 0 (by simp)
  exact ⟨g, o, rfl, by have := hc 0 (by omega); simpa [sc] using this⟩
set_option maxRecDepth 100000 in
set_option maxHeartbeats 4000000 in
theorem take_miss (L : List Sn) (id : Int) (v : Value) (w : World) (h : SvAt w v L) (hl : L.length ≤ 1000) (he : ∀ s L', L = s :: L' → s.id ≠ id) :
    Calls Try.prog 145 #[v, .int .i64 id] w fun e w' => e = .returned (.tuple #[.agg #[.int .i64 0, .int .i64 0, .int .i64 0, .int .i64 0, .int .i64 0, .int .i64 0, .int .i64 0, .int .i64 0, .int .i64 0, .int .i64 0, .int .i64 0], v]) ∧ Only [] w w' := by
  obtain ⟨a, c, rfl, hc, hv⟩ := h
  have HV : Hid (SeenAt w a L.length (fun j => L.getD j zs) ∧ L.length ≤ c) := ⟨hv, hc⟩
  clear hv hc
  go_enter Try.func145, Try.ntmps145
  go_upto_region 1 with fail
  have H1 : Hid (Only [] w (w.alloc (.cells #[.int .i64 0, .int .i64 0, .int .i64 0, .int .i64 0, .int .i64 0, .int .i64 0, .int .i64 0, .int .i64 0, .int .i64 0, .int .i64 0, .int .i64 0] 120)) ∧ SnAt 120 (w.alloc (.cells #[.int .i64 0, .int .i64 0, .int .i64 0, .int .i64 0, .int .i64 0, .int .i64 0, .int .i64 0, .int .i64 0, .int .i64 0, .int .i64 0, .int .i64 0] 120)) w.heap.size zs ∧ w.heap.size ≤ w.heap.size) := ⟨(Only.refl [] w).alloc _, zs_new w, Nat.le_refl _⟩
  revert H1
  generalize hk : w.heap.size = kr
  have HK : Hid (w.heap.size = kr) := hk
  clear hk
  generalize World.alloc w _ = w1
  intro H1
  have z0 := H1.out.2.1.off 0; have y0 := H1.out.2.1.free 0
  have z1 := H1.out.2.1.off 1; have y1 := H1.out.2.1.free 1
  have z2 := H1.out.2.1.off 2; have y2 := H1.out.2.1.free 2
  have z3 := H1.out.2.1.off 3; have y3 := H1.out.2.1.free 3
  have z4 := H1.out.2.1.off 4; have y4 := H1.out.2.1.free 4
  have z5 := H1.out.2.1.off 5; have y5 := H1.out.2.1.free 5
  have z6 := H1.out.2.1.off 6; have y6 := H1.out.2.1.free 6
  have z7 := H1.out.2.1.off 7; have y7 := H1.out.2.1.free 7
  have z8 := H1.out.2.1.off 8; have y8 := H1.out.2.1.free 8
  have z9 := H1.out.2.1.off 9; have y9 := H1.out.2.1.free 9
  have z10 := H1.out.2.1.off 10; have y10 := H1.out.2.1.free 10
  simp only [List.getElem?_toArray, List.getElem?_cons_succ, List.getElem?_cons_zero] at z0 z1 z2 z3 z4 z5 z6 z7 z8 z9 z10
  have HF : Hid (Only [] w (((((((((((w1.setCell ⟨kr, 0, none⟩ (.int .i64 0)).setCell ⟨kr, 1, none⟩ (.int .i64 0)).setCell ⟨kr, 2, none⟩ (.int .i64 0)).setCell ⟨kr, 3, none⟩ (.int .i64 0)).setCell ⟨kr, 4, none⟩ (.int .i64 0)).setCell ⟨kr, 5, none⟩ (.int .i64 0)).setCell ⟨kr, 6, none⟩ (.int .i64 0)).setCell ⟨kr, 7, none⟩ (.int .i64 0)).setCell ⟨kr, 8, none⟩ (.int .i64 0)).setCell ⟨kr, 9, none⟩ (.int .i64 0)).setCell ⟨kr, 10, none⟩ (.int .i64 0)) ∧ SnAt 120 (((((((((((w1.setCell ⟨kr, 0, none⟩ (.int .i64 0)).setCell ⟨kr, 1, none⟩ (.int .i64 0)).setCell ⟨kr, 2, none⟩ (.int .i64 0)).setCell ⟨kr, 3, none⟩ (.int .i64 0)).setCell ⟨kr, 4, none⟩ (.int .i64 0)).setCell ⟨kr, 5, none⟩ (.int .i64 0)).setCell ⟨kr, 6, none⟩ (.int .i64 0)).setCell ⟨kr, 7, none⟩ (.int .i64 0)).setCell ⟨kr, 8, none⟩ (.int .i64 0)).setCell ⟨kr, 9, none⟩ (.int .i64 0)).setCell ⟨kr, 10, none⟩ (.int .i64 0)) kr zs) := by
    refine ⟨H1.out.1.then (E := [kr]) ((((((((((((Only.refl [kr] w1).setCell (p := ⟨kr, 0, none⟩) (Or.inl (by simp)) _).setCell (p := ⟨kr, 1, none⟩) (Or.inl (by simp)) _).setCell (p := ⟨kr, 2, none⟩) (Or.inl (by simp)) _).setCell (p := ⟨kr, 3, none⟩) (Or.inl (by simp)) _).setCell (p := ⟨kr, 4, none⟩) (Or.inl (by simp)) _).setCell (p := ⟨kr, 5, none⟩) (Or.inl (by simp)) _).setCell (p := ⟨kr, 6, none⟩) (Or.inl (by simp)) _).setCell (p := ⟨kr, 7, none⟩) (Or.inl (by simp)) _).setCell (p := ⟨kr, 8, none⟩) (Or.inl (by simp)) _).setCell (p := ⟨kr, 9, none⟩) (Or.inl (by simp)) _).setCell (p := ⟨kr, 10, none⟩) (Or.inl (by simp)) _) (fun x hx => ?_), sn_put H1.out.2.1 zs⟩
    simp only [List.mem_singleton] at hx; right; rw [hx, HK.out]; exact Nat.le_refl _
  cases L with
  | nil =>
    simp only [List.length_nil]
    go_upto_region 3 with fail
    go_wp2_with fail
    generalize (((((((((((w1.setCell ⟨kr, 0, none⟩ (.int .i64 0)).setCell ⟨kr, 1, none⟩ (.int .i64 0)).setCell ⟨kr, 2, none⟩ (.int .i64 0)).setCell ⟨kr, 3, none⟩ (.int .i64 0)).setCell ⟨kr, 4, none⟩ (.int .i64 0)).setCell ⟨kr, 5, none⟩ (.int .i64 0)).setCell ⟨kr, 6, none⟩ (.int .i64 0)).setCell ⟨kr, 7, none⟩ (.int .i64 0)).setCell ⟨kr, 8, none⟩ (.int .i64 0)).setCell ⟨kr, 9, none⟩ (.int .i64 0)).setCell ⟨kr, 10, none⟩ (.int .i64 0)) = w5 at HF ⊢
    clear z0 y0 z1 y1 z2 y2 z3 y3 z4 y4 z5 y5 z6 y6 z7 y7 z8 y8 z9 y9 z10 y10
    have z0 := HF.out.2.off 0
    have z1 := HF.out.2.off 1
    have z2 := HF.out.2.off 2
    have z3 := HF.out.2.off 3
    have z4 := HF.out.2.off 4
    have z5 := HF.out.2.off 5
    have z6 := HF.out.2.off 6
    have z7 := HF.out.2.off 7
    have z8 := HF.out.2.off 8
    have z9 := HF.out.2.off 9
    have z10 := HF.out.2.off 10
    simp only [zs, List.getElem?_toArray, List.getElem?_cons_succ, List.getElem?_cons_zero] at z0 z1 z2 z3 z4 z5 z6 z7 z8 z9 z10
    exact bodyPost_ret (v := .tuple #[.agg #[.int .i64 0, .int .i64 0, .int .i64 0, .int .i64 0, .int .i64 0, .int .i64 0, .int .i64 0, .int .i64 0, .int .i64 0, .int .i64 0, .int .i64 0], .slice a 0 c]) (by simp [results, Try.results145, go_sem, z0, z1, z2, z3, z4, z5, z6, z7, z8, z9, z10]) rfl ⟨rfl, HF.out.1⟩
  | cons s L =>
    obtain ⟨g, o, rfl, e0⟩ := SvAt.heads (n := 0) (c := 0) (HV.out.1.only H1.out.1)
    have hq : (s.id == id) = false := by simp [he s L rfl]
    have hlen : (s :: L).length = L.length + 1 := rfl
    rw [hlen]
    go_wp2_with fail
    generalize (((((((((((w1.setCell ⟨kr, 0, none⟩ (.int .i64 0)).setCell ⟨kr, 1, none⟩ (.int .i64 0)).setCell ⟨kr, 2, none⟩ (.int .i64 0)).setCell ⟨kr, 3, none⟩ (.int .i64 0)).setCell ⟨kr, 4, none⟩ (.int .i64 0)).setCell ⟨kr, 5, none⟩ (.int .i64 0)).setCell ⟨kr, 6, none⟩ (.int .i64 0)).setCell ⟨kr, 7, none⟩ (.int .i64 0)).setCell ⟨kr, 8, none⟩ (.int .i64 0)).setCell ⟨kr, 9, none⟩ (.int .i64 0)).setCell ⟨kr, 10, none⟩ (.int .i64 0)) = w5 at HF ⊢
    clear z0 y0 z1 y1 z2 y2 z3 y3 z4 y4 z5 y5 z6 y6 z7 y7 z8 y8 z9 y9 z10 y10
    have z0 := HF.out.2.off 0
    have z1 := HF.out.2.off 1
    have z2 := HF.out.2.off 2
    have z3 := HF.out.2.off 3
    have z4 := HF.out.2.off 4
    have z5 := HF.out.2.off 5
    have z6 := HF.out.2.off 6
    have z7 := HF.out.2.off 7
    have z8 := HF.out.2.off 8
    have z9 := HF.out.2.off 9
    have z10 := HF.out.2.off 10
    simp only [zs, List.getElem?_toArray, List.getElem?_cons_succ, List.getElem?_cons_zero] at z0 z1 z2 z3 z4 z5 z6 z7 z8 z9 z10
    exact bodyPost_ret (v := .tuple #[.agg #[.int .i64 0, .int .i64 0, .int .i64 0, .int .i64 0, .int .i64 0, .int .i64 0, .int .i64 0, .int .i64 0, .int .i64 0, .int .i64 0, .int .i64 0], .slice (some ⟨g, o, none⟩) (L.length + 1) c]) (by simp [results, Try.results145, go_sem, z0, z1, z2, z3, z4, z5, z6, z7, z8, z9, z10]) rfl ⟨rfl, HF.out.1⟩
theorem takeN_calls (L : List Sn) (id : Int) (v : Value) (w : World) (h : SvAt w v L) (hl : L.length ≤ 1000) :
    Calls Try.prog 145 #[v, .int .i64 id] w fun e w' => ∃ v', e = .returned (.tuple #[.agg #[.int .i64 ((takeS id L).id), .int .i64 ((takeS id L).kd), .int .i64 ((takeS id L).sx), .int .i64 ((takeS id L).sy), .int .i64 ((takeS id L).sz), .int .i64 ((takeS id L).ax), .int .i64 ((takeS id L).ay), .int .i64 ((takeS id L).az), .int .i64 ((takeS id L).vx), .int .i64 ((takeS id L).vy), .int .i64 ((takeS id L).vz)], v']) ∧ (∀ w0, SvAt w0 v L → SvAt w0 v' (takeL id L)) ∧ (NilOk v → NilOk v') ∧ Only [] w w' := by
  cases L with
  | nil =>
    refine (take_miss [] id v w h hl (fun s L' e => by cases e)).mono fun e w' ⟨he, o⟩ => ⟨v, he, fun w0 h0 => h0, fun q => q, o⟩
  | cons s L =>
    by_cases he : s.id = id
    · have e1 : takeS id (s :: L) = s := by simp [takeS, he]
      have e2 : takeL id (s :: L) = L := by simp [takeL, he]
      rw [e1, e2]
      exact (take_hit L s id v w h (by simp at hl; omega) he).mono fun e w' ⟨v', h1, h2, h3, h4⟩ => ⟨v', h1, h2, fun _ => h3, h4⟩
    · have e1 : takeS id (s :: L) = zs := by simp [takeS, he]
      have e2 : takeL id (s :: L) = s :: L := by simp [takeL, he]
      rw [e1, e2]
      refine (take_miss (s :: L) id v w h hl (fun s' L' e => by injection e with e1 _; rw [← e1]; exact he)).mono fun e w' ⟨he, o⟩ => ⟨v, he, fun w0 h0 => h0, fun q => q, o⟩
theorem takeV_calls (L : List Sn) (id : Int) (v : Value) (w : World) (h : SvAt w v L) (hl : L.length ≤ 1000) :
    Calls Try.prog 145 #[v, .int .i64 id] w fun e w' => ∃ v', e = .returned (.tuple #[.agg #[.int .i64 ((takeS id L).id), .int .i64 ((takeS id L).kd), .int .i64 ((takeS id L).sx), .int .i64 ((takeS id L).sy), .int .i64 ((takeS id L).sz), .int .i64 ((takeS id L).ax), .int .i64 ((takeS id L).ay), .int .i64 ((takeS id L).az), .int .i64 ((takeS id L).vx), .int .i64 ((takeS id L).vy), .int .i64 ((takeS id L).vz)], v']) ∧ (∀ w0, SvAt w0 v L → SvAt w0 v' (takeL id L)) ∧ Only [] w w' :=
  (takeN_calls L id v w h hl).mono fun e w' ⟨v', h1, h2, h3, h4⟩ => ⟨v', h1, h2, h4⟩
end Go.Proofs.Ytedhdmahdioboaa
