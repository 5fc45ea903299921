/- gyrekeep.WireBack: whatever is given: true. -/
import Derived.Test.YtbiaajncngldlaaWl2
namespace Go.Proofs.Ytbiaajncngldlaa
open Go.ChangeShapes Go.WideShapes Go.ChangeAt Go.RowKit
set_option linter.unusedVariables false
set_option linter.unusedSimpArgs false

theorem own_kept {w w' : World} {b : Nat} {T : TypeId} {v : Value} {n : Nat} {xs : List Value} (h : w.ownsRow b T 1 v n xs) (o : Only [] w w') : w'.ownsRow b T 1 v n xs := by
  obtain ⟨h1, h2⟩ := h
  refine ⟨h1, ?_⟩
  rcases h2 with h2 | ⟨g, cap, cur, rfl, hb, hg, r⟩
  · exact Or.inl h2
  · exact Or.inr ⟨g, cap, cur, rfl, hb, (o.block g (Array.getElem?_eq_some_iff.1 hg).1 (by simp)).trans hg, r⟩
theorem own_shape {w : World} {b : Nat} {T : TypeId} {v : Value} {n : Nat} {xs : List Value} (h : w.ownsRow b T 1 v n xs) : ∃ a c, v = .slice a n c := by
  obtain ⟨_, ⟨rfl, rfl⟩ | ⟨g, cap, cur, rfl, _⟩⟩ := h
  · exact ⟨_, _, rfl⟩
  · exact ⟨_, _, rfl⟩
theorem own_block {w : World} {b : Nat} {T : TypeId} {v : Value} {n : Nat} {xs : List Value} (h : w.ownsRow b T 1 v n xs) {k : Nat} (hk : v.ownBlock = some k) : b ≤ k := by
  obtain ⟨_, ⟨rfl, rfl⟩ | ⟨g, cap, cur, rfl, hb, _⟩⟩ := h
  · simp [Value.ownBlock] at hk
  · simp [Value.ownBlock] at hk; omega
/-- While pieces are told: what they told so far. -/
structure LS (w0 : World) (L : List Nat) (i : Nat) (a : Option Addr) (n c : Nat) (wr : World) : Prop where
  own : wr.ownsRow w0.heap.size 5 1 (.slice a n c) n (byV (L.take (100 * i)))
  len : n = (L.take (100 * i)).length
  only : Only [] w0 wr
theorem LS.reads {w0 : World} {L : List Nat} {i : Nat} {a : Option Addr} {n c : Nat} {wr : World} (h : LS w0 L i a n c wr) (hL : L.length ≤ 100 * i) : ReadsAs wr (.slice a n c) L := by
  have hl := h.len
  have ho := h.own
  rw [List.take_of_length_le hL] at hl ho
  subst hl
  by_cases hv : Value.slice a L.length c = .slice none 0 0
  · injection hv with h1 h2 h3
    subst h1
    rw [List.eq_nil_of_length_eq_zero h2, h3]
    exact ReadsAs.nil _
  · exact (fresh_of ho hv).reads
theorem chunk_take (L : List Nat) (i : Nat) : L.take (100 * i) ++ chunk L i = L.take (100 * (i + 1)) := by
  unfold chunk
  rw [show 100 * (i + 1) = 100 * i + 100 by omega, List.take_add]
theorem LS.next {w0 : World} {L : List Nat} {i : Nat} {a : Option Addr} {n c : Nat} {wr w1 w' : World} {v' : Value} (h : LS w0 L i a n c wr) (o : Only [] wr w1) (hown : w'.ownsRow w0.heap.size 5 1 v' (n + (chunk L i).length) (byV (L.take (100 * i)) ++ byV (chunk L i))) (g : w1.grownBy w' (Value.slice a n c).ownBlock) :
    ∃ a' n' c', v' = .slice a' n' c' ∧ LS w0 L (i + 1) a' n' c' w' := by
  obtain ⟨a', c', rfl⟩ := own_shape hown
  refine ⟨a', _, c', rfl, ?_, ?_, (h.only.trans o).grown g (fun k hk => Or.inr (own_block h.own hk))⟩
  · have e : byV (L.take (100 * i)) ++ byV (chunk L i) = byV (L.take (100 * (i + 1))) := by unfold byV; rw [← List.map_append, chunk_take]
    rw [e] at hown
    exact hown
  · rw [← chunk_take, List.length_append, ← h.len]
theorem chunk_len (L : List Nat) (i : Nat) : (chunk L i).length ≤ 100 := by unfold chunk; rw [List.length_take]; omega
theorem chunk_small {L : List Nat} (h : ∀ x ∈ L, x < 256) (i : Nat) : ∀ x ∈ chunk L i, x < 256 := fun x hx => h x (List.mem_of_mem_drop (List.mem_of_mem_take hx))
/-- Bytes that tell a piece. -/
structure TellBack (p : Pc) (B T : List Nat) : Prop where
  len : T.length ≤ 100000
  small : ∀ x ∈ T, x < 256
  good : toldGood T
  back : toldP T = p
  data : toldY T = B
theorem TellBack.mk' {p : Pc} {B : List Nat} (hs : ∀ x ∈ B, x < 256) (ok : tellOk p B.length) : TellBack p B (bytesOf (tellT p B)) :=
  ⟨by rw [bytesOf_len]; have := tellT_len p B ok; omega, bytesOf_256 (tellT_ok p B), (told_back p B hs ok).1, (told_back p B hs ok).2.1, (told_back p B hs ok).2.2⟩
theorem tell_ok {p : Pc} {B : List Nat} {w w' : World} {e : Ending} (hs : ∀ x ∈ B, x < 256) (ok : tellOk p B.length) (h : TellPost p B w e w') : ∃ g m cv T, e = .returned (.tuple #[.slice (some ⟨g, 0, none⟩) m cv, .nilIface]) ∧ m = T.length ∧ TellBack p B T ∧ ByAt w' (some ⟨g, 0, none⟩) T := by
  obtain ⟨_, ⟨n, _⟩ | ⟨_, v, e, g, cv, rfl, _, _, hb, _⟩⟩ := h
  · exact absurd ok n
  · exact ⟨g, _, cv, _, e, rfl, TellBack.mk' hs ok, hb⟩
theorem told_ok {p : Pc} {B T : List Nat} {w w' : World} {e : Ending} (q : TellBack p B T) (h : ToldPost T w e w') : ∃ gb m, e = .returned (.tuple #[pcV p (.slice (some ⟨gb, 0, none⟩) m m), .nilIface]) ∧ m = B.length ∧ ByAt w' (some ⟨gb, 0, none⟩) B := by
  obtain ⟨_, ⟨_, gb, e, _, hb⟩ | ⟨n, _⟩⟩ := h
  · rw [q.back, q.data] at e
    rw [q.data] at hb
    exact ⟨gb, _, e, rfl, hb⟩
  · exact absurd q.good n
theorem cut_ways {st ba : Int} {L : List Nat} {w w' : World} {e : Ending} (h : CutPost st ba L w e w') : (∃ n : Int, e = .returned (.tuple #[.slice none 0 0, .iface 44 (.int .i64 n)])) ∨ (followM st ba = true ∧ L.length ≤ 4000 ∧ ∃ gl, e = .returned (.tuple #[.slice (some ⟨gl, 0, none⟩) (manyM L) (manyM L), .nilIface]) ∧ PcsAt w' gl (manyM L) st ba L (manyM L)) := by
  obtain ⟨_, ⟨_, e⟩ | ⟨_, _, e⟩ | ⟨h1, h2, gl, e, _, h3⟩⟩ := h
  · exact Or.inl ⟨2, e⟩
  · exact Or.inl ⟨4, e⟩
  · exact Or.inr ⟨h1, h2, gl, e, h3⟩
theorem ask_ways' {c : Cm} {w w' : World} {e : Ending} (h : AskPost c w e w') : (∃ n : Int, e = .returned (.tuple #[.slice none 0 0, .iface 44 (.int .i64 n)])) ∨ ∃ g m cv T, e = .returned (.tuple #[.slice (some ⟨g, 0, none⟩) m cv, .nilIface]) ∧ m = T.length ∧ AskBack c T ∧ ByAt w' (some ⟨g, 0, none⟩) T := by
  rcases ask_ways h with ⟨n, e⟩ | r
  · exact Or.inl ⟨n, e⟩
  · exact Or.inr r
theorem wireBack_long (cv : Value) (cs : Array Value) (hcv : cv = .agg cs) (st ba : Int) (a : Option Addr) (n c : Nat) (d : Cm) (hd : cs = #[.int .i64 (d.tk), .int .i64 (d.nm), .int .i64 (d.sn), .int .i64 (d.kd), .int .i64 (d.bd), .int .i64 (d.x), .int .i64 (d.y), .int .i64 (d.z)]) (w : World) (h : 3000 < n) : Calls Try.prog 3 #[cv, .int .i64 st, .int .i64 ba, .slice a n c] w fun e w' => e = .returned (.bool true) ∧ Only [] w w' := by
  subst hcv hd
  have hl : (n : Int) > 3000 := by omega
  go_enter Try.func3, Try.ntmps3
  go_wp2_with fail
  go_ret
  exact ⟨rfl, (Only.refl _ _).alloc _⟩
set_option maxRecDepth 100000 in
set_option maxHeartbeats 2000000 in
theorem wireBack_calls (c : Cm) (st ba : Int) (a : Option Addr) (cc : Nat) (L : List Nat) (w : World) (hl : L.length ≤ 3000) (hs : ∀ x ∈ L, x < 256) (hb : ByAt w a L) (hn : a = none → L = [] ∧ cc = 0) (hc : L.length ≤ cc) :
    Calls Try.prog 3 #[.agg #[.int .i64 (c.tk), .int .i64 (c.nm), .int .i64 (c.sn), .int .i64 (c.kd), .int .i64 (c.bd), .int .i64 (c.x), .int .i64 (c.y), .int .i64 (c.z)], .int .i64 st, .int .i64 ba, .slice a L.length cc] w fun e w' => e = .returned (.bool true) ∧ Only [] w w' := by
  obtain ⟨i0, hi0, hz0, hz1, hz2⟩ := info_parts byteInfo
  have HB : Hid (ByAt w a L ∧ (∀ x ∈ L, x < 256) ∧ (a = none → L = [] ∧ cc = 0) ∧ L.length ≤ cc ∧ L.length ≤ 3000) := ⟨hb, hs, hn, hc, hl⟩
  have hlg : ¬ (L.length : Int) > 3000 := by omega
  clear hb hs hn hc
  obtain ⟨ll, hll⟩ : ∃ ll, ll = L.length := ⟨_, rfl⟩
  have HLL : Hid (ll = L.length) := hll
  rw [← hll] at hl hlg ⊢
  clear hll
  go_enter Try.func3, Try.ntmps3
  go_upto_region 1 with fail
  have H0 : Hid (CmAt 25 (w.alloc (.cells #[.int .i64 (c.tk), .int .i64 (c.nm), .int .i64 (c.sn), .int .i64 (c.kd), .int .i64 (c.bd), .int .i64 (c.x), .int .i64 (c.y), .int .i64 (c.z)] 25)) w.heap.size c ∧ Only [] w (w.alloc (.cells #[.int .i64 (c.tk), .int .i64 (c.nm), .int .i64 (c.sn), .int .i64 (c.kd), .int .i64 (c.bd), .int .i64 (c.x), .int .i64 (c.y), .int .i64 (c.z)] 25))) := ⟨(MapKept.heap_alloc w _).1, (Only.refl _ _).alloc _⟩
  revert H0
  generalize w.heap.size = k
  generalize World.alloc w _ = w1
  intro H0
  go_wp2_with fail
  refine (sent_calls w1).mono ?_
  rintro e w2 ⟨rfl, o2⟩
  have H1 : Hid (CmAt 25 w2 k c ∧ Only [] w w2) := ⟨H0.out.1.only (D := []) o2 (by simp), H0.out.2.trans o2⟩
  clear o2 H0
  obtain ⟨c0, c1, c2, c3, c4, c5, c6, c7⟩ := H1.out.1.cells
  go_wp2_with fail
  refine (ask_calls c w2).mono ?_
  intro e1 w3 ha
  have HW := ask_ways' ha
  have H3 : Hid (Only [] w w3) := H1.out.2.trans ha.1
  clear ha c0 c1 c2 c3 c4 c5 c6 c7 H1
  rcases HW with ⟨n, rfl⟩ | ⟨g, m, cv, T, rfl, hm, hq, hbT⟩
  · go_upto_region 11 with fail
    go_wp2_with fail
    rw [HLL.out]
    refine (cut_calls st ba a cc L w3 (by have := HB.out.2.2.2.2; omega) (HB.out.1.only H3.out (by simp)) HB.out.2.2.1 HB.out.2.2.2.1).mono ?_
    intro e x0 hcut
    have ox := hcut.1
    rcases cut_ways hcut with ⟨n, rfl⟩ | ⟨hF, hL4, gl, rfl, hpc⟩
    · have HX : Hid (Only [] w x0) := H3.out.trans ox
      clear ox hcut
      go_wp2_with fail
      go_ret
      exact ⟨rfl, HX.out⟩
    obtain ⟨M, hM⟩ : ∃ M, M = manyM L := ⟨_, rfl⟩
    rw [← hM] at hpc ⊢
    have hM40 : M ≤ 40 := by rw [hM]; unfold manyM; omega
    have hM1 : 1 ≤ M := by rw [hM]; unfold manyM; omega
    have HX : Hid (Only [] w x0 ∧ PcsAt x0 gl M st ba L M ∧ L.length ≤ 100 * M ∧ (1 ≤ st ∧ st ≤ 70368744177664 ∧ 0 ≤ ba ∧ ba < st)) := ⟨H3.out.trans ox, hpc, by rw [hM]; unfold manyM; omega, by simpa [followM] using hF⟩
    clear ox hpc hM hF hL4 hcut H3
    go_upto_region 16 with fail
    go_loopg [17, 18] M (fun k' bv idx wr => ∃ (i : Nat) (ai : Option Addr) (ni ci : Nat), bv = .slice ai ni ci ∧ idx = .int .i64 (i : Int) ∧ Hid (i ≤ M ∧ k' = M - i) ∧ Hid (LS x0 L i ai ni ci wr))
    case atStart => exact ⟨0, none, 0, 0, rfl, rfl, ⟨by omega, rfl⟩, ⟨World.ownsRow_nil _ _ _ _, rfl, Only.refl _ _⟩⟩
    case round =>
      obtain ⟨i, ai, ni, ci, rfl, rfl, HI, HE⟩ := hrel
      by_cases hi : i < M
      case neg =>
        have hil : ¬ (i : Int) < (M : Int) := by omega
        obtain rfl : i = M := by have := HI.out.1; omega
        have hc1 := HE.out.reads HX.out.2.2.1 wr (Only.refl _ _)
        have hc2 := arg_reads (c := cc) (HB.out.1.only (HX.out.1.trans HE.out.only) (by simp)) HB.out.2.2.1 wr (Only.refl _ _)
        go_wp2_with fail
        go_ret
        exact ⟨ret_bool (by simp), HX.out.1.trans HE.out.only⟩
      have hil : (i : Int) < (M : Int) := by omega
      obtain ⟨pv, hrg, hsb⟩ := (HX.out.2.1.keep HE.out.only).2 i hi
      obtain ⟨ap, cp, rfl, _, hbp, _, _⟩ := hsb
      have HP : Hid (ByAt wr ap (chunk L i)) := hbp
      have HOK : Hid (tellOk ⟨st, ba, (i : Int), (M : Int)⟩ (chunk L i).length) := ⟨HX.out.2.2.2, by simp; omega, by simp; omega, chunk_len L i⟩
      clear hbp
      go_wp2_with (first | (refine wpList_load_mid rfl 39 (.tmp 76) rfl gl (i * 5) rfl [.int .i64 st, .int .i64 ba, .int .i64 ((i : Int)), .int .i64 ((M : Int)), .slice ap (chunk L i).length cp] _ hrg Try.underlying39 rfl pieceSize ?_))
      clear hrg
      refine (tell_calls ⟨st, ba, (i : Int), (M : Int)⟩ ap cp (chunk L i) wr (chunk_small HB.out.2.1 i) (by have := chunk_len L i; omega) HP.out).mono ?_
      intro e y1 h1
      have HY1 : Hid (Only [] wr y1) := h1.1
      obtain ⟨g1, m1, c1, T1, rfl, hm1, hq1, hb1⟩ := tell_ok (chunk_small HB.out.2.1 i) HOK.out h1
      have HQ : Hid (TellBack ⟨st, ba, (i : Int), (M : Int)⟩ (chunk L i) T1 ∧ ByAt y1 (some ⟨g1, 0, none⟩) T1 ∧ m1 = T1.length) := ⟨hq1, hb1, hm1⟩
      clear h1 hq1 hb1 hm1 HP
      go_wp2_with fail
      rw [HQ.out.2.2]
      refine (told_calls (some ⟨g1, 0, none⟩) c1 T1 y1 HQ.out.1.len HQ.out.1.small HQ.out.2.1 (by simp)).mono ?_
      intro e y2 h2
      have HY2 : Hid (Only [] wr y2) := HY1.out.trans h2.1
      obtain ⟨gb, mb, rfl, hmb, hby⟩ := told_ok HQ.out.1 h2
      have HMB : Hid (mb = (chunk L i).length) := hmb
      have HBY : Hid (ByAt y2 (some ⟨gb, 0, none⟩) (chunk L i)) := hby
      clear h2 HY1 hmb hby
      rw [show pcV ⟨st, ba, (i : Int), (M : Int)⟩ (.slice (some ⟨gb, 0, none⟩) mb mb) = .agg #[.int .i64 st, .int .i64 ba, .int .i64 ((i : Int)), .int .i64 ((M : Int)), .slice (some ⟨gb, 0, none⟩) mb mb] from rfl]
      go_upto_region 20 with fail
      have HZ : Hid (PcAt 39 (y2.alloc (.cells #[.int .i64 st, .int .i64 ba, .int .i64 ((i : Int)), .int .i64 ((M : Int)), .slice (some ⟨gb, 0, none⟩) mb mb] 39)) y2.heap.size ⟨st, ba, (i : Int), (M : Int)⟩ (.slice (some ⟨gb, 0, none⟩) mb mb) ∧ Only [] wr (y2.alloc (.cells #[.int .i64 st, .int .i64 ba, .int .i64 ((i : Int)), .int .i64 ((M : Int)), .slice (some ⟨gb, 0, none⟩) mb mb] 39)) ∧ ByAt (y2.alloc (.cells #[.int .i64 st, .int .i64 ba, .int .i64 ((i : Int)), .int .i64 ((M : Int)), .slice (some ⟨gb, 0, none⟩) mb mb] 39)) (some ⟨gb, 0, none⟩) (chunk L i)) := ⟨(MapKept.heap_alloc y2 _).1, HY2.out.alloc _, HBY.out.only (D := []) ((Only.refl _ _).alloc _) (by simp)⟩
      clear HY2 HBY HQ
      revert HZ
      generalize y2.heap.size = kz
      generalize World.alloc y2 _ = y3
      intro HZ
      obtain ⟨z0, z1, z2, z3, z4⟩ := HZ.out.1.cells
      simp only at z0 z1 z2 z3 z4
      go_upto_region 22 with fail
      have hnews : ∀ j u, (byV (chunk L i))[j]? = some u → y3.cell? ((⟨gb, 0, none⟩ : Addr).add j) = some u := fun j u hj => by
        have hjn : j < (chunk L i).length := by have := (List.getElem?_eq_some_iff.1 hj).1; simpa [byV] using this
        have e : (byV (chunk L i))[j]? = some (Value.int .u8 (((chunk L i).getD j 0 : Nat) : Int)) := by rw [byV, List.getElem?_map, List.getElem?_eq_getElem hjn, List.getD_eq_getElem?_getD, List.getElem?_eq_getElem hjn]; rfl
        rw [e] at hj
        exact (HZ.out.2.2.adds j hjn).trans hj
      have hmv : (byV (chunk L i)).length = mb * 1 := by simp [byV, HMB.out]
      have hone : ∀ u ∈ byV (chunk L i), u.oneCell' = true := by intro u hu; obtain ⟨y, _, rfl⟩ := List.mem_map.1 hu; rfl
      have hnb : ni ≤ 4000 := by rw [HE.out.len, List.length_take]; omega
      have hmb1 : mb ≤ 100 := by rw [HMB.out]; exact chunk_len L i
      have HG : Hid (∀ v' w', w'.ownsRow x0.heap.size 5 1 v' (ni + mb) (byV (L.take (100 * i)) ++ byV (chunk L i)) → y3.grownBy w' (Value.slice ai ni ci).ownBlock → ∃ a' n' c', v' = .slice a' n' c' ∧ LS x0 L (i + 1) a' n' c' w') := fun v' w' h1 h2 => HE.out.next HZ.out.2.1 (by rw [← HMB.out]; exact h1) h2
      have hown3 := own_kept HE.out.own HZ.out.2.1
      have hbase : x0.heap.size ≤ y3.heap.size := (HE.out.only.trans HZ.out.2.1).size
      clear HE HZ HMB
      go_wp2_with (first | (at_builtin; refine wpList_append_own_at _ rfl _ _ 26 rfl x0.heap.size 5 i0 (.int .u8 0) 1 1 Try.underlying26 hi0 hz0 hz1 hz2 rfl (by decide) (.slice ai ni ci) ni (byV (L.take (100 * i))) rfl hown3 ⟨gb, 0, none⟩ mb mb (byV (chunk L i)) rfl hmv hnews hone (by unfold maxLen; omega) (by omega) hbase ?_; intro v' w6 hown hgrow hnil hloc; obtain ⟨a9, n9, c9, hv9, hls⟩ := HG.out v' w6 hown hgrow; have H9 : Hid (LS x0 L (i + 1) a9 n9 c9 w6) := hls; subst hv9; clear hown hgrow hnil hloc hls hown3 hnews hmv hone hbase HG z0 z1 z2 z3 z4))
      go_roundg (M - (i + 1))
      case measure => have := HI.out.2; omega
      case rel => exact ⟨i + 1, a9, n9, c9, rfl, by go_num, ⟨by omega, rfl⟩, H9⟩
  · have HT : Hid (AskBack c T ∧ ByAt w3 (some ⟨g, 0, none⟩) T ∧ m = T.length) := ⟨hq, hbT, hm⟩
    clear hq hbT hm
    go_wp2_with fail
    rw [HT.out.2.2]
    refine (asked_calls (some ⟨g, 0, none⟩) cv T w3 HT.out.1.len HT.out.1.small HT.out.2.1 (by simp)).mono ?_
    intro e w4 h4
    have H4 : Hid (Only [] w w4 ∧ ByAt w4 (some ⟨g, 0, none⟩) T) := ⟨H3.out.trans h4.1, HT.out.2.1.only h4.1 (by simp)⟩
    have he := asked_ok HT.out.1 h4
    clear h4 H3
    obtain ⟨d, hd⟩ : ∃ d, d = bareM c := ⟨_, rfl⟩
    have HD : Hid (d = bareM c) := hd
    rw [← hd, show cmV d = .agg #[.int .i64 (d.tk), .int .i64 (d.nm), .int .i64 (d.sn), .int .i64 (d.kd), .int .i64 (d.bd), .int .i64 (d.x), .int .i64 (d.y), .int .i64 (d.z)] from rfl] at he
    clear hd
    subst he
    go_upto_region 8 with fail
    have H5 : Hid (CmAt 25 (w4.alloc (.cells #[.int .i64 (d.tk), .int .i64 (d.nm), .int .i64 (d.sn), .int .i64 (d.kd), .int .i64 (d.bd), .int .i64 (d.x), .int .i64 (d.y), .int .i64 (d.z)] 25)) w4.heap.size d ∧ Only [] w (w4.alloc (.cells #[.int .i64 (d.tk), .int .i64 (d.nm), .int .i64 (d.sn), .int .i64 (d.kd), .int .i64 (d.bd), .int .i64 (d.x), .int .i64 (d.y), .int .i64 (d.z)] 25)) ∧ ByAt (w4.alloc (.cells #[.int .i64 (d.tk), .int .i64 (d.nm), .int .i64 (d.sn), .int .i64 (d.kd), .int .i64 (d.bd), .int .i64 (d.x), .int .i64 (d.y), .int .i64 (d.z)] 25)) (some ⟨g, 0, none⟩) T) := ⟨(MapKept.heap_alloc w4 _).1, H4.out.1.alloc _, H4.out.2.only (D := []) ((Only.refl _ _).alloc _) (by simp)⟩
    clear H4
    revert H5
    generalize w4.heap.size = k5
    generalize World.alloc w4 _ = w5
    intro H5
    obtain ⟨c0, c1, c2, c3, c4, c5, c6, c7⟩ := H5.out.1.cells
    go_wp2_with fail
    refine (ask_calls d w5).mono ?_
    intro e w6 h6
    have H6 : Hid (Only [] w w6 ∧ ReadsAs w6 (.slice (some ⟨g, 0, none⟩) T.length cv) T) := ⟨H5.out.2.1.trans h6.1, arg_reads (H5.out.2.2.only h6.1 (by simp)) (by simp)⟩
    have hag := ask_again HT.out.1 (HD.out ▸ h6)
    clear h6 c0 c1 c2 c3 c4 c5 c6 c7 H5
    obtain ⟨a6, m6, c6, rfl, hr6⟩ := hag
    have hc1 := hr6 w6 (Only.refl _ _)
    have hc2 := H6.out.2 w6 (Only.refl _ _)
    clear hr6
    have H7 : Hid (Only [] w w6) := H6.out.1
    clear H6
    go_upto_region 11 with fail
    clear hc1 hc2
    go_wp2_with fail
    rw [HLL.out]
    refine (cut_calls st ba a cc L w6 (by have := HB.out.2.2.2.2; omega) (HB.out.1.only H7.out (by simp)) HB.out.2.2.1 HB.out.2.2.2.1).mono ?_
    intro e x0 hcut
    have ox := hcut.1
    rcases cut_ways hcut with ⟨n, rfl⟩ | ⟨hF, hL4, gl, rfl, hpc⟩
    · have HX : Hid (Only [] w x0) := H7.out.trans ox
      clear ox hcut
      go_wp2_with fail
      go_ret
      exact ⟨rfl, HX.out⟩
    obtain ⟨M, hM⟩ : ∃ M, M = manyM L := ⟨_, rfl⟩
    rw [← hM] at hpc ⊢
    have hM40 : M ≤ 40 := by rw [hM]; unfold manyM; omega
    have hM1 : 1 ≤ M := by rw [hM]; unfold manyM; omega
    have HX : Hid (Only [] w x0 ∧ PcsAt x0 gl M st ba L M ∧ L.length ≤ 100 * M ∧ (1 ≤ st ∧ st ≤ 70368744177664 ∧ 0 ≤ ba ∧ ba < st)) := ⟨H7.out.trans ox, hpc, by rw [hM]; unfold manyM; omega, by simpa [followM] using hF⟩
    clear ox hpc hM hF hL4 hcut H7
    go_upto_region 16 with fail
    go_loopg [17, 18] M (fun k' bv idx wr => ∃ (i : Nat) (ai : Option Addr) (ni ci : Nat), bv = .slice ai ni ci ∧ idx = .int .i64 (i : Int) ∧ Hid (i ≤ M ∧ k' = M - i) ∧ Hid (LS x0 L i ai ni ci wr))
    case atStart => exact ⟨0, none, 0, 0, rfl, rfl, ⟨by omega, rfl⟩, ⟨World.ownsRow_nil _ _ _ _, rfl, Only.refl _ _⟩⟩
    case round =>
      obtain ⟨i, ai, ni, ci, rfl, rfl, HI, HE⟩ := hrel
      by_cases hi : i < M
      case neg =>
        have hil : ¬ (i : Int) < (M : Int) := by omega
        obtain rfl : i = M := by have := HI.out.1; omega
        have hc1 := HE.out.reads HX.out.2.2.1 wr (Only.refl _ _)
        have hc2 := arg_reads (c := cc) (HB.out.1.only (HX.out.1.trans HE.out.only) (by simp)) HB.out.2.2.1 wr (Only.refl _ _)
        go_wp2_with fail
        go_ret
        exact ⟨ret_bool (by simp), HX.out.1.trans HE.out.only⟩
      have hil : (i : Int) < (M : Int) := by omega
      obtain ⟨pv, hrg, hsb⟩ := (HX.out.2.1.keep HE.out.only).2 i hi
      obtain ⟨ap, cp, rfl, _, hbp, _, _⟩ := hsb
      have HP : Hid (ByAt wr ap (chunk L i)) := hbp
      have HOK : Hid (tellOk ⟨st, ba, (i : Int), (M : Int)⟩ (chunk L i).length) := ⟨HX.out.2.2.2, by simp; omega, by simp; omega, chunk_len L i⟩
      clear hbp
      go_wp2_with (first | (refine wpList_load_mid rfl 39 (.tmp 76) rfl gl (i * 5) rfl [.int .i64 st, .int .i64 ba, .int .i64 ((i : Int)), .int .i64 ((M : Int)), .slice ap (chunk L i).length cp] _ hrg Try.underlying39 rfl pieceSize ?_))
      clear hrg
      refine (tell_calls ⟨st, ba, (i : Int), (M : Int)⟩ ap cp (chunk L i) wr (chunk_small HB.out.2.1 i) (by have := chunk_len L i; omega) HP.out).mono ?_
      intro e y1 h1
      have HY1 : Hid (Only [] wr y1) := h1.1
      obtain ⟨g1, m1, c1, T1, rfl, hm1, hq1, hb1⟩ := tell_ok (chunk_small HB.out.2.1 i) HOK.out h1
      have HQ : Hid (TellBack ⟨st, ba, (i : Int), (M : Int)⟩ (chunk L i) T1 ∧ ByAt y1 (some ⟨g1, 0, none⟩) T1 ∧ m1 = T1.length) := ⟨hq1, hb1, hm1⟩
      clear h1 hq1 hb1 hm1 HP
      go_wp2_with fail
      rw [HQ.out.2.2]
      refine (told_calls (some ⟨g1, 0, none⟩) c1 T1 y1 HQ.out.1.len HQ.out.1.small HQ.out.2.1 (by simp)).mono ?_
      intro e y2 h2
      have HY2 : Hid (Only [] wr y2) := HY1.out.trans h2.1
      obtain ⟨gb, mb, rfl, hmb, hby⟩ := told_ok HQ.out.1 h2
      have HMB : Hid (mb = (chunk L i).length) := hmb
      have HBY : Hid (ByAt y2 (some ⟨gb, 0, none⟩) (chunk L i)) := hby
      clear h2 HY1 hmb hby
      rw [show pcV ⟨st, ba, (i : Int), (M : Int)⟩ (.slice (some ⟨gb, 0, none⟩) mb mb) = .agg #[.int .i64 st, .int .i64 ba, .int .i64 ((i : Int)), .int .i64 ((M : Int)), .slice (some ⟨gb, 0, none⟩) mb mb] from rfl]
      go_upto_region 20 with fail
      have HZ : Hid (PcAt 39 (y2.alloc (.cells #[.int .i64 st, .int .i64 ba, .int .i64 ((i : Int)), .int .i64 ((M : Int)), .slice (some ⟨gb, 0, none⟩) mb mb] 39)) y2.heap.size ⟨st, ba, (i : Int), (M : Int)⟩ (.slice (some ⟨gb, 0, none⟩) mb mb) ∧ Only [] wr (y2.alloc (.cells #[.int .i64 st, .int .i64 ba, .int .i64 ((i : Int)), .int .i64 ((M : Int)), .slice (some ⟨gb, 0, none⟩) mb mb] 39)) ∧ ByAt (y2.alloc (.cells #[.int .i64 st, .int .i64 ba, .int .i64 ((i : Int)), .int .i64 ((M : Int)), .slice (some ⟨gb, 0, none⟩) mb mb] 39)) (some ⟨gb, 0, none⟩) (chunk L i)) := ⟨(MapKept.heap_alloc y2 _).1, HY2.out.alloc _, HBY.out.only (D := []) ((Only.refl _ _).alloc _) (by simp)⟩
      clear HY2 HBY HQ
      revert HZ
      generalize y2.heap.size = kz
      generalize World.alloc y2 _ = y3
      intro HZ
      obtain ⟨z0, z1, z2, z3, z4⟩ := HZ.out.1.cells
      simp only at z0 z1 z2 z3 z4
      go_upto_region 22 with fail
      have hnews : ∀ j u, (byV (chunk L i))[j]? = some u → y3.cell? ((⟨gb, 0, none⟩ : Addr).add j) = some u := fun j u hj => by
        have hjn : j < (chunk L i).length := by have := (List.getElem?_eq_some_iff.1 hj).1; simpa [byV] using this
        have e : (byV (chunk L i))[j]? = some (Value.int .u8 (((chunk L i).getD j 0 : Nat) : Int)) := by rw [byV, List.getElem?_map, List.getElem?_eq_getElem hjn, List.getD_eq_getElem?_getD, List.getElem?_eq_getElem hjn]; rfl
        rw [e] at hj
        exact (HZ.out.2.2.adds j hjn).trans hj
      have hmv : (byV (chunk L i)).length = mb * 1 := by simp [byV, HMB.out]
      have hone : ∀ u ∈ byV (chunk L i), u.oneCell' = true := by intro u hu; obtain ⟨y, _, rfl⟩ := List.mem_map.1 hu; rfl
      have hnb : ni ≤ 4000 := by rw [HE.out.len, List.length_take]; omega
      have hmb1 : mb ≤ 100 := by rw [HMB.out]; exact chunk_len L i
      have HG : Hid (∀ v' w', w'.ownsRow x0.heap.size 5 1 v' (ni + mb) (byV (L.take (100 * i)) ++ byV (chunk L i)) → y3.grownBy w' (Value.slice ai ni ci).ownBlock → ∃ a' n' c', v' = .slice a' n' c' ∧ LS x0 L (i + 1) a' n' c' w') := fun v' w' h1 h2 => HE.out.next HZ.out.2.1 (by rw [← HMB.out]; exact h1) h2
      have hown3 := own_kept HE.out.own HZ.out.2.1
      have hbase : x0.heap.size ≤ y3.heap.size := (HE.out.only.trans HZ.out.2.1).size
      clear HE HZ HMB
      go_wp2_with (first | (at_builtin; refine wpList_append_own_at _ rfl _ _ 26 rfl x0.heap.size 5 i0 (.int .u8 0) 1 1 Try.underlying26 hi0 hz0 hz1 hz2 rfl (by decide) (.slice ai ni ci) ni (byV (L.take (100 * i))) rfl hown3 ⟨gb, 0, none⟩ mb mb (byV (chunk L i)) rfl hmv hnews hone (by unfold maxLen; omega) (by omega) hbase ?_; intro v' w6 hown hgrow hnil hloc; obtain ⟨a9, n9, c9, hv9, hls⟩ := HG.out v' w6 hown hgrow; have H9 : Hid (LS x0 L (i + 1) a9 n9 c9 w6) := hls; subst hv9; clear hown hgrow hnil hloc hls hown3 hnews hmv hone hbase HG z0 z1 z2 z3 z4))
      go_roundg (M - (i + 1))
      case measure => have := HI.out.2; omega
      case rel => exact ⟨i + 1, a9, n9, c9, rfl, by go_num, ⟨by omega, rfl⟩, H9⟩
end Go.Proofs.Ytbiaajncngldlaa
