import Derived.Test.YtieacfenoomaeaaQk2
import Derived.Test.YtieacfenoomaeaaQh4
import Derived.Test.YtieacfenoomaeaaQk4
import Derived.Deep.RegionWith
set_option linter.unusedSimpArgs false
set_option linter.unusedVariables false
namespace Go.Proofs.Ytieacfenoomaeaa
open Go.RowKit

/-- The rows that the law takes, cut. -/
def cutR (vs : List (Value × List Int)) : List (List Int) := (vs.map fun y => y.2.take 20).take 100
/-- A list of slices of its own, whose rows lie in older memory. -/
theorem ils_own {w0 W : World} {base : Nat} {v : Value} {ps : List (Value × List Int)} (h : W.ownsRow base 22 1 v ps.length (ps.map Prod.fst)) (hi : ∀ y ∈ ps, Is w0 y.1 y.2) (k : Kp [] w0 W) : Ils W v ps := by
  rcases h.2 with ⟨h1, h2⟩ | ⟨g, cap, cur, h1, h2, h3, h4, h5, h6, h7⟩
  · have h0 : ps = [] := List.length_eq_zero_iff.1 h2
    subst h0
    exact ⟨none, 0, h1, Nat.le_refl _, by omega, fun y hy => by simp at hy, .inl rfl⟩
  · refine ⟨_, cap, h1, h4, by unfold maxLen at h5; omega, fun y hy => (hi y hy).kp k, ?_⟩
    by_cases h0 : ps = []
    · exact .inl h0
    · refine .inr ⟨g, 0, rfl, fun j hj => ?_⟩
      refine Blk.cell (show Blk W g 22 cur from h3) (0 + j) ?_
      have e : (ps.map Prod.fst)[j]? = some ps[j].1 := by simp [hj]
      rw [← h7, List.getElem?_take, if_pos (by omega)] at e
      rw [Nat.zero_add]
      simpa using e
theorem cut_snoc {vs ps : List (Value × List Int)} {k : Nat} (hk : k < vs.length) (h1 : k < 100) (hp : ps.map Prod.snd = (vs.map fun y => y.2.take 20).take k) (v : Value) : (ps ++ [(v, vs[k].2.take 20)]).map Prod.snd = (vs.map fun y => y.2.take 20).take (k + 1) := by
  have e := List.take_succ_eq_append_getElem (l := vs.map fun y => y.2.take 20) (i := k) (by rw [List.length_map]; exact hk)
  rw [List.map_append, hp, e]
  simp
theorem cut_end {vs ps : List (Value × List Int)} {k : Nat} (hk : k = vs.length ∨ k = 100) (hk2 : k ≤ vs.length) (hk3 : k ≤ 100) (hp : ps.map Prod.snd = (vs.map fun y => y.2.take 20).take k) : ps.map Prod.snd = cutR vs := by
  rw [hp]
  unfold cutR
  rcases hk with rfl | rfl
  · rw [List.take_of_length_le (by simp), List.take_of_length_le (by simpa using hk3)]
  · rfl
set_option maxRecDepth 100000 in
set_option maxHeartbeats 8000000 in
theorem rlaw_no (nm9 : ByteArray) (hk9 : ∀ i, i < 9 → nm9 ≠ nmb i) (v vI vT : Value) (w : World) (zs ts : List Int) (vs : List (Value × List Int)) (hz : Is w v zs) (hI : Ils w vI vs) (hT : Is w vT ts) :
    Calls Try.prog 4 #[.string nm9, v, vI, vT] w fun r w' => r = .returned (.bool true) ∧ Kp [] w w' := by
  replace hk9 := Lib.hid hk9
  obtain ⟨p1, c1, rfl, h11, h12⟩ := hz.val
  obtain ⟨pI, cI, rfl, hI1, hI2⟩ := hI.val
  obtain ⟨pT, cT, rfl, hT1, hT2⟩ := hT.val
  obtain ⟨N, hN⟩ : ∃ N, vs.length = N := ⟨_, rfl⟩
  obtain ⟨NT, hNT⟩ : ∃ N, ts.length = N := ⟨_, rfl⟩
  obtain ⟨N1, hN1⟩ : ∃ N, zs.length = N := ⟨_, rfl⟩
  rw [hN] at hI1 hI ⊢
  rw [hNT] at hT1 hT ⊢
  rw [hN1] at h11 hz ⊢
  obtain ⟨m, hm⟩ : ∃ m, min NT 101 = m := ⟨_, rfl⟩
  obtain ⟨m1, hm1⟩ : ∃ m, min N1 20 = m := ⟨_, rfl⟩
  have hTt : Hid (∀ W, Kp [] w W → Is W (.slice pT m cT) (ts.take 101)) := fun W k => is_take' (hT.kp k) (by rw [hNT]; exact hm.symm)
  have hZt : Hid (∀ W, Kp [] w W → Is W (.slice p1 m1 c1) (zs.take 20)) := fun W k => is_take' (hz.kp k) (by rw [hN1]; exact hm1.symm)
  have hmi : (min (NT : Int) 101) = (m : Int) := by omega
  have t1 : (0 : Int) ≤ (m : Int) := by omega
  have t2 : (m : Int) ≤ (cT : Int) := by omega
  have t3 : m ≤ cT := by omega
  have tl : Hid ((ts.take 101).length ≤ 1000) := by show _ ≤ _; rw [List.length_take]; omega
  have hlc := Lib.hid (fun W p n c m h1 h2 => lcut_at W p n c m h1 h2)
  have hIs := Lib.hid hI
  replace hN := Lib.hid hN
  replace hNT := Lib.hid hNT
  replace hN1 := Lib.hid hN1
  replace hm := Lib.hid hm
  replace hm1 := Lib.hid hm1
  clear hI hT hz
  rcases pT with - | ⟨bT, oT, xT⟩
  all_goals
    go_enter Try.func4, Try.ntmps4
    go_wp2_with fail
    go_loopw [9, 10] (fun o ix wr => ∃ (k : Nat) (ps : List (Value × List Int)), k ≤ N ∧ k ≤ 100 ∧ ix = .int .i64 k ∧ Hid (ps.length = k) ∧ Hid (wr.ownsRow w.heap.size 22 1 o ps.length (ps.map Prod.fst)) ∧ Hid (∀ y ∈ ps, Is w y.1 y.2) ∧ Hid (ps.map Prod.snd = (vs.map fun y => y.2.take 20).take k) ∧ Hid (Kp [] w wr)) (fun _ ix _ => 100 - (intOf ix).toNat)
    case atStart => exact ⟨0, [], Nat.zero_le _, Nat.zero_le _, rfl, rfl, World.ownsRow_nil _ _ _ _, fun y hy => (by cases hy), rfl, Kp.refl _ _⟩
    case round =>
      obtain ⟨k, ps, hk, hk1, rfl, hpl, hown, hpi, hps, hK⟩ := hrel
      by_cases hgo : k < N ∧ k < 100
      · obtain ⟨hlt, hl2⟩ := hgo
        have hkv : k < vs.length := by rw [hN.out]; exact hlt
        obtain ⟨bI, oI, q, cc, rfl, hcI, hIr, hcc1, hcc2⟩ := hIs.out.at_ k hkv
        have hsn := Lib.hid (fun v => cut_snoc (ps := ps) hkv hl2 hps.out v)
        have hcI2 := hK.out.cell hcI (by simp)
        obtain ⟨row, hrow⟩ : ∃ r, vs[k].2 = r := ⟨_, rfl⟩
        rw [hrow] at hcI2 hIr hcc1 hsn
        obtain ⟨R, hR⟩ : ∃ r, row.length = r := ⟨_, rfl⟩
        rw [hR] at hcI2 hIr hcc1
        obtain ⟨mR, hmR⟩ : ∃ m, min R 20 = m := ⟨_, rfl⟩
        have hIc := Lib.hid (is_take' (m := mR) hIr (K := 20) (by rw [hR]; exact hmR.symm))
        replace hrow := Lib.hid hrow
        replace hR := Lib.hid hR
        replace hIr := Lib.hid hIr
        obtain ⟨i1, hj0, hj1, hj2, hj3⟩ := info_parts infoSm
        have hRa := Lib.hid (hown.out.alloc (.cells #[.slice q mR cc] 22))
        have hnew := Lib.hid (slc_cell wr (.slice q mR cc))
        have hK8 := Lib.hid (hK.out.alloc (.cells #[.slice q mR cc] 22))
        have hbs := Lib.hid hK8.out.size
        have hpl9 : ps.length ≤ 1000 := by rw [hpl.out]; omega
        clear hcI hown
        go_wp2_with fail
        refine (hlc.out _ _ _ _ _ hcc1 hmR).mono ?_
        rintro r w2 ⟨rfl, hw2⟩
        obtain rfl : wr = w2 := hw2.symm
        replace hmR := Lib.hid hmR
        go_wp2_with (at_builtin; refine wpList_append_own _ rfl _ _ 42 rfl w.heap.size 22 i1 _ 1 24 Try.underlying42 hj0 hj1 hj2 hj3 rfl (by decide) _ _ _ rfl hRa.out ⟨wr.heap.size, 0, none⟩ 1 1 [.slice q mR cc] rfl rfl hnew.out (slc_one _ _ _) (by unfold maxLen; omega) (by omega) hbs.out ?_; intro v' w8 hown' hgrow _)
        have hK9 := Lib.hid (hK8.out.grown hgrow (fun b hb => .inr (hRa.out.lt b hb).1))
        replace hown' := Lib.hid hown'
        clear hgrow
        go_wp2_with fail
        go_roundw
        case rel =>
          refine ⟨k + 1, ps ++ [(Value.slice q mR cc, row.take 20)], by omega, by omega, by go_num, ?_, ?_, ?_, hsn.out _, hK9.out⟩
          · show _ = _
            rw [List.length_append, hpl.out]; rfl
          · show World.ownsRow _ _ _ _ _ _ _
            rw [List.length_append, List.map_append]; exact hown'.out
          · intro y hy
            rcases List.mem_append.1 hy with hy | hy
            · exact hpi.out y hy
            · simp at hy
              subst hy
              exact hIc.out
        case measure => simp [intOf]; omega
      · have hend := Lib.hid (cut_end (vs := vs) (ps := ps) (k := k) (by rw [hN.out]; omega) (by rw [hN.out]; exact hk) hk1 hps.out)
        have hIl : Hid (∀ W, Kp [] wr W → Ils W u9 ps) := fun W kw => (ils_own hown.out hpi.out hK.out).kp kw
        obtain ⟨po, no, co, rfl⟩ := own_sl hown.out
        have hvl : Hid (ps.length ≤ 1000) := by show _ ≤ _; rw [hpl.out]; omega
        rcases (show ¬ k < N ∨ (k < N ∧ ¬ k < 100) by omega) with hx | ⟨hx, hy⟩
        all_goals
          clear hgo
          go_wp2_with fail
          refine (hlc.out _ _ _ _ _ h11 hm1.out).mono ?_
          rintro r w2 ⟨rfl, rfl⟩
          go_wp2_with fail
          refine (run_err_no nm9 _ _ _ _ (Lib.hid (partOf_no nm9 hk9.out _ _))).mono ?_
          rintro r w3 ⟨rfl, hk3⟩
          replace hk3 := Lib.hid hk3
          go_wp2_with fail
          refine (rstd_no nm9 _ hk9.out).mono ?_
          rintro r w4 ⟨rfl, rfl⟩
          go_wp2_with fail
          refine (awake_c _).mono ?_
          rintro r wa ⟨rfl, hka⟩
          go_wp2
          go_ret
          exact ⟨rfl, (hK.out.trans hk3.out).trans hka⟩
set_option maxRecDepth 100000 in
set_option maxHeartbeats 8000000 in
theorem rlaw_bad (i : Nat) (hi : i < 9) (nm9 : ByteArray) (hnm : nmb i = nm9) (v vI vT : Value) (w : World) (zs ts : List Int) (vs : List (Value × List Int)) (hz : Is w v zs) (hI : Ils w vI vs) (hT : Is w vT ts) (hok : okB i (zs.take 20) (cutR vs) (ts.take 101) = false) :
    Calls Try.prog 4 #[.string nm9, v, vI, vT] w fun r w' => r = .returned (.bool true) ∧ Kp [] w w' := by
  have hst := Lib.hid (fun W => rstd_ok i hi W)
  have hRun := Lib.hid (fun W v vI vT ps h1 h2 h3 h4 h5 => prun_no i hi W v vI vT (zs.take 20) (ts.take 101) ps h1 h2 h3 h4 h5)
  have hRef := Lib.hid (fun W v vI vT ps h1 h2 h3 h4 h5 => rrun_no i hi W v vI vT (zs.take 20) (ts.take 101) ps h1 h2 h3 h4 h5)
  rw [hnm] at hst hRun hRef
  clear hnm
  replace hok := Lib.hid hok
  obtain ⟨p1, c1, rfl, h11, h12⟩ := hz.val
  obtain ⟨pI, cI, rfl, hI1, hI2⟩ := hI.val
  obtain ⟨pT, cT, rfl, hT1, hT2⟩ := hT.val
  obtain ⟨N, hN⟩ : ∃ N, vs.length = N := ⟨_, rfl⟩
  obtain ⟨NT, hNT⟩ : ∃ N, ts.length = N := ⟨_, rfl⟩
  obtain ⟨N1, hN1⟩ : ∃ N, zs.length = N := ⟨_, rfl⟩
  rw [hN] at hI1 hI ⊢
  rw [hNT] at hT1 hT ⊢
  rw [hN1] at h11 hz ⊢
  obtain ⟨m, hm⟩ : ∃ m, min NT 101 = m := ⟨_, rfl⟩
  obtain ⟨m1, hm1⟩ : ∃ m, min N1 20 = m := ⟨_, rfl⟩
  have hTt : Hid (∀ W, Kp [] w W → Is W (.slice pT m cT) (ts.take 101)) := fun W k => is_take' (hT.kp k) (by rw [hNT]; exact hm.symm)
  have hZt : Hid (∀ W, Kp [] w W → Is W (.slice p1 m1 c1) (zs.take 20)) := fun W k => is_take' (hz.kp k) (by rw [hN1]; exact hm1.symm)
  have hmi : (min (NT : Int) 101) = (m : Int) := by omega
  have t1 : (0 : Int) ≤ (m : Int) := by omega
  have t2 : (m : Int) ≤ (cT : Int) := by omega
  have t3 : m ≤ cT := by omega
  have tl : Hid ((ts.take 101).length ≤ 1000) := by show _ ≤ _; rw [List.length_take]; omega
  have hlc := Lib.hid (fun W p n c m h1 h2 => lcut_at W p n c m h1 h2)
  have hIs := Lib.hid hI
  replace hN := Lib.hid hN
  replace hNT := Lib.hid hNT
  replace hN1 := Lib.hid hN1
  replace hm := Lib.hid hm
  replace hm1 := Lib.hid hm1
  clear hI hT hz
  rcases pT with - | ⟨bT, oT, xT⟩
  all_goals
    go_enter Try.func4, Try.ntmps4
    go_wp2_with fail
    go_loopw [9, 10] (fun o ix wr => ∃ (k : Nat) (ps : List (Value × List Int)), k ≤ N ∧ k ≤ 100 ∧ ix = .int .i64 k ∧ Hid (ps.length = k) ∧ Hid (wr.ownsRow w.heap.size 22 1 o ps.length (ps.map Prod.fst)) ∧ Hid (∀ y ∈ ps, Is w y.1 y.2) ∧ Hid (ps.map Prod.snd = (vs.map fun y => y.2.take 20).take k) ∧ Hid (Kp [] w wr)) (fun _ ix _ => 100 - (intOf ix).toNat)
    case atStart => exact ⟨0, [], Nat.zero_le _, Nat.zero_le _, rfl, rfl, World.ownsRow_nil _ _ _ _, fun y hy => (by cases hy), rfl, Kp.refl _ _⟩
    case round =>
      obtain ⟨k, ps, hk, hk1, rfl, hpl, hown, hpi, hps, hK⟩ := hrel
      by_cases hgo : k < N ∧ k < 100
      · obtain ⟨hlt, hl2⟩ := hgo
        have hkv : k < vs.length := by rw [hN.out]; exact hlt
        obtain ⟨bI, oI, q, cc, rfl, hcI, hIr, hcc1, hcc2⟩ := hIs.out.at_ k hkv
        have hsn := Lib.hid (fun v => cut_snoc (ps := ps) hkv hl2 hps.out v)
        have hcI2 := hK.out.cell hcI (by simp)
        obtain ⟨row, hrow⟩ : ∃ r, vs[k].2 = r := ⟨_, rfl⟩
        rw [hrow] at hcI2 hIr hcc1 hsn
        obtain ⟨R, hR⟩ : ∃ r, row.length = r := ⟨_, rfl⟩
        rw [hR] at hcI2 hIr hcc1
        obtain ⟨mR, hmR⟩ : ∃ m, min R 20 = m := ⟨_, rfl⟩
        have hIc := Lib.hid (is_take' (m := mR) hIr (K := 20) (by rw [hR]; exact hmR.symm))
        replace hrow := Lib.hid hrow
        replace hR := Lib.hid hR
        replace hIr := Lib.hid hIr
        obtain ⟨i1, hj0, hj1, hj2, hj3⟩ := info_parts infoSm
        have hRa := Lib.hid (hown.out.alloc (.cells #[.slice q mR cc] 22))
        have hnew := Lib.hid (slc_cell wr (.slice q mR cc))
        have hK8 := Lib.hid (hK.out.alloc (.cells #[.slice q mR cc] 22))
        have hbs := Lib.hid hK8.out.size
        have hpl9 : ps.length ≤ 1000 := by rw [hpl.out]; omega
        clear hcI hown
        go_wp2_with fail
        refine (hlc.out _ _ _ _ _ hcc1 hmR).mono ?_
        rintro r w2 ⟨rfl, hw2⟩
        obtain rfl : wr = w2 := hw2.symm
        replace hmR := Lib.hid hmR
        go_wp2_with (at_builtin; refine wpList_append_own _ rfl _ _ 42 rfl w.heap.size 22 i1 _ 1 24 Try.underlying42 hj0 hj1 hj2 hj3 rfl (by decide) _ _ _ rfl hRa.out ⟨wr.heap.size, 0, none⟩ 1 1 [.slice q mR cc] rfl rfl hnew.out (slc_one _ _ _) (by unfold maxLen; omega) (by omega) hbs.out ?_; intro v' w8 hown' hgrow _)
        have hK9 := Lib.hid (hK8.out.grown hgrow (fun b hb => .inr (hRa.out.lt b hb).1))
        replace hown' := Lib.hid hown'
        clear hgrow
        go_wp2_with fail
        go_roundw
        case rel =>
          refine ⟨k + 1, ps ++ [(Value.slice q mR cc, row.take 20)], by omega, by omega, by go_num, ?_, ?_, ?_, hsn.out _, hK9.out⟩
          · show _ = _
            rw [List.length_append, hpl.out]; rfl
          · show World.ownsRow _ _ _ _ _ _ _
            rw [List.length_append, List.map_append]; exact hown'.out
          · intro y hy
            rcases List.mem_append.1 hy with hy | hy
            · exact hpi.out y hy
            · simp at hy
              subst hy
              exact hIc.out
        case measure => simp [intOf]; omega
      · have hend := Lib.hid (cut_end (vs := vs) (ps := ps) (k := k) (by rw [hN.out]; omega) (by rw [hN.out]; exact hk) hk1 hps.out)
        have hIl : Hid (∀ W, Kp [] wr W → Ils W u9 ps) := fun W kw => (ils_own hown.out hpi.out hK.out).kp kw
        obtain ⟨po, no, co, rfl⟩ := own_sl hown.out
        have hvl : Hid (ps.length ≤ 1000) := by show _ ≤ _; rw [hpl.out]; omega
        rcases (show ¬ k < N ∨ (k < N ∧ ¬ k < 100) by omega) with hx | ⟨hx, hy⟩
        all_goals
          clear hgo
          go_wp2_with fail
          refine (hlc.out _ _ _ _ _ h11 hm1.out).mono ?_
          rintro r w2 ⟨rfl, rfl⟩
          go_wp2_with fail
          refine (hRun.out _ _ _ _ ps (hZt.out _ hK.out) (hIl.out _ (Kp.refl _ _)) (hTt.out _ hK.out) tl.out (by rw [hend.out]; exact hok.out)).mono ?_
          
          rintro r w3 ⟨rfl, hk3⟩
          have hK3 := Lib.hid (hK.out.trans hk3)
          have hQ3 := Lib.hid hk3
          clear hk3
          
          go_wp2_with fail
          refine (hst.out _).mono ?_
          rintro r w4 ⟨v4, rfl, hk4⟩
          have hK4 := Lib.hid (hK3.out.trans hk4)
          have hQ4 := Lib.hid (hQ3.out.trans hk4)
          go_wp2_with fail
          refine (hlc.out _ _ _ _ _ h11 hm1.out).mono ?_
          rintro r w5 ⟨rfl, rfl⟩
          go_wp2_with fail
          refine (hRef.out _ _ _ _ ps (hZt.out _ hK4.out) (hIl.out _ hQ4.out) (hTt.out _ hK4.out) hvl.out (by rw [hend.out]; exact hok.out)).mono ?_
          
          rintro r w6 ⟨rfl, hk6⟩
          have hK6 := Lib.hid (hK4.out.trans hk6)
          clear hk6 hk4
          go_wp2_with fail
          refine (awake_c _).mono ?_
          rintro r wa ⟨rfl, hka⟩
          go_wp2
          go_ret
          exact ⟨rfl, hK6.out.trans hka⟩
set_option maxRecDepth 100000 in
set_option maxHeartbeats 8000000 in
theorem rlaw_yes (i : Nat) (hi : i < 9) (nm9 : ByteArray) (hnm : nmb i = nm9) (v vI vT : Value) (w : World) (zs ts : List Int) (vs : List (Value × List Int)) (hz : Is w v zs) (hI : Ils w vI vs) (hT : Is w vT ts) (hok : okB i (zs.take 20) (cutR vs) (ts.take 101) = true) :
    Calls Try.prog 4 #[.string nm9, v, vI, vT] w fun r w' => r = .returned (.bool true) ∧ Kp [] w w' := by
  have hst := Lib.hid (fun W => rstd_ok i hi W)
  have hRun := Lib.hid (fun W v vI vT ps h1 h2 h3 h4 h5 => prun_yes i hi W v vI vT (zs.take 20) (ts.take 101) ps h1 h2 h3 h4 h5)
  have hRef := Lib.hid (fun W v vI vT ps h1 h2 h3 h4 h5 => rrun_yes i hi W v vI vT (zs.take 20) (ts.take 101) ps h1 h2 h3 h4 h5)
  rw [hnm] at hst hRun hRef
  clear hnm
  replace hok := Lib.hid hok
  obtain ⟨p1, c1, rfl, h11, h12⟩ := hz.val
  obtain ⟨pI, cI, rfl, hI1, hI2⟩ := hI.val
  obtain ⟨pT, cT, rfl, hT1, hT2⟩ := hT.val
  obtain ⟨N, hN⟩ : ∃ N, vs.length = N := ⟨_, rfl⟩
  obtain ⟨NT, hNT⟩ : ∃ N, ts.length = N := ⟨_, rfl⟩
  obtain ⟨N1, hN1⟩ : ∃ N, zs.length = N := ⟨_, rfl⟩
  rw [hN] at hI1 hI ⊢
  rw [hNT] at hT1 hT ⊢
  rw [hN1] at h11 hz ⊢
  obtain ⟨m, hm⟩ : ∃ m, min NT 101 = m := ⟨_, rfl⟩
  obtain ⟨m1, hm1⟩ : ∃ m, min N1 20 = m := ⟨_, rfl⟩
  have hTt : Hid (∀ W, Kp [] w W → Is W (.slice pT m cT) (ts.take 101)) := fun W k => is_take' (hT.kp k) (by rw [hNT]; exact hm.symm)
  have hZt : Hid (∀ W, Kp [] w W → Is W (.slice p1 m1 c1) (zs.take 20)) := fun W k => is_take' (hz.kp k) (by rw [hN1]; exact hm1.symm)
  have hmi : (min (NT : Int) 101) = (m : Int) := by omega
  have t1 : (0 : Int) ≤ (m : Int) := by omega
  have t2 : (m : Int) ≤ (cT : Int) := by omega
  have t3 : m ≤ cT := by omega
  have tl : Hid ((ts.take 101).length ≤ 1000) := by show _ ≤ _; rw [List.length_take]; omega
  have hlc := Lib.hid (fun W p n c m h1 h2 => lcut_at W p n c m h1 h2)
  have hIs := Lib.hid hI
  replace hN := Lib.hid hN
  replace hNT := Lib.hid hNT
  replace hN1 := Lib.hid hN1
  replace hm := Lib.hid hm
  replace hm1 := Lib.hid hm1
  clear hI hT hz
  rcases pT with - | ⟨bT, oT, xT⟩
  all_goals
    go_enter Try.func4, Try.ntmps4
    go_wp2_with fail
    go_loopw [9, 10] (fun o ix wr => ∃ (k : Nat) (ps : List (Value × List Int)), k ≤ N ∧ k ≤ 100 ∧ ix = .int .i64 k ∧ Hid (ps.length = k) ∧ Hid (wr.ownsRow w.heap.size 22 1 o ps.length (ps.map Prod.fst)) ∧ Hid (∀ y ∈ ps, Is w y.1 y.2) ∧ Hid (ps.map Prod.snd = (vs.map fun y => y.2.take 20).take k) ∧ Hid (Kp [] w wr)) (fun _ ix _ => 100 - (intOf ix).toNat)
    case atStart => exact ⟨0, [], Nat.zero_le _, Nat.zero_le _, rfl, rfl, World.ownsRow_nil _ _ _ _, fun y hy => (by cases hy), rfl, Kp.refl _ _⟩
    case round =>
      obtain ⟨k, ps, hk, hk1, rfl, hpl, hown, hpi, hps, hK⟩ := hrel
      by_cases hgo : k < N ∧ k < 100
      · obtain ⟨hlt, hl2⟩ := hgo
        have hkv : k < vs.length := by rw [hN.out]; exact hlt
        obtain ⟨bI, oI, q, cc, rfl, hcI, hIr, hcc1, hcc2⟩ := hIs.out.at_ k hkv
        have hsn := Lib.hid (fun v => cut_snoc (ps := ps) hkv hl2 hps.out v)
        have hcI2 := hK.out.cell hcI (by simp)
        obtain ⟨row, hrow⟩ : ∃ r, vs[k].2 = r := ⟨_, rfl⟩
        rw [hrow] at hcI2 hIr hcc1 hsn
        obtain ⟨R, hR⟩ : ∃ r, row.length = r := ⟨_, rfl⟩
        rw [hR] at hcI2 hIr hcc1
        obtain ⟨mR, hmR⟩ : ∃ m, min R 20 = m := ⟨_, rfl⟩
        have hIc := Lib.hid (is_take' (m := mR) hIr (K := 20) (by rw [hR]; exact hmR.symm))
        replace hrow := Lib.hid hrow
        replace hR := Lib.hid hR
        replace hIr := Lib.hid hIr
        obtain ⟨i1, hj0, hj1, hj2, hj3⟩ := info_parts infoSm
        have hRa := Lib.hid (hown.out.alloc (.cells #[.slice q mR cc] 22))
        have hnew := Lib.hid (slc_cell wr (.slice q mR cc))
        have hK8 := Lib.hid (hK.out.alloc (.cells #[.slice q mR cc] 22))
        have hbs := Lib.hid hK8.out.size
        have hpl9 : ps.length ≤ 1000 := by rw [hpl.out]; omega
        clear hcI hown
        go_wp2_with fail
        refine (hlc.out _ _ _ _ _ hcc1 hmR).mono ?_
        rintro r w2 ⟨rfl, hw2⟩
        obtain rfl : wr = w2 := hw2.symm
        replace hmR := Lib.hid hmR
        go_wp2_with (at_builtin; refine wpList_append_own _ rfl _ _ 42 rfl w.heap.size 22 i1 _ 1 24 Try.underlying42 hj0 hj1 hj2 hj3 rfl (by decide) _ _ _ rfl hRa.out ⟨wr.heap.size, 0, none⟩ 1 1 [.slice q mR cc] rfl rfl hnew.out (slc_one _ _ _) (by unfold maxLen; omega) (by omega) hbs.out ?_; intro v' w8 hown' hgrow _)
        have hK9 := Lib.hid (hK8.out.grown hgrow (fun b hb => .inr (hRa.out.lt b hb).1))
        replace hown' := Lib.hid hown'
        clear hgrow
        go_wp2_with fail
        go_roundw
        case rel =>
          refine ⟨k + 1, ps ++ [(Value.slice q mR cc, row.take 20)], by omega, by omega, by go_num, ?_, ?_, ?_, hsn.out _, hK9.out⟩
          · show _ = _
            rw [List.length_append, hpl.out]; rfl
          · show World.ownsRow _ _ _ _ _ _ _
            rw [List.length_append, List.map_append]; exact hown'.out
          · intro y hy
            rcases List.mem_append.1 hy with hy | hy
            · exact hpi.out y hy
            · simp at hy
              subst hy
              exact hIc.out
        case measure => simp [intOf]; omega
      · have hend := Lib.hid (cut_end (vs := vs) (ps := ps) (k := k) (by rw [hN.out]; omega) (by rw [hN.out]; exact hk) hk1 hps.out)
        have hIl : Hid (∀ W, Kp [] wr W → Ils W u9 ps) := fun W kw => (ils_own hown.out hpi.out hK.out).kp kw
        obtain ⟨po, no, co, rfl⟩ := own_sl hown.out
        have hvl : Hid (ps.length ≤ 1000) := by show _ ≤ _; rw [hpl.out]; omega
        rcases (show ¬ k < N ∨ (k < N ∧ ¬ k < 100) by omega) with hx | ⟨hx, hy⟩
        all_goals
          clear hgo
          go_wp2_with fail
          refine (hlc.out _ _ _ _ _ h11 hm1.out).mono ?_
          rintro r w2 ⟨rfl, rfl⟩
          go_wp2_with fail
          refine (hRun.out _ _ _ _ ps (hZt.out _ hK.out) (hIl.out _ (Kp.refl _ _)) (hTt.out _ hK.out) tl.out (by rw [hend.out]; exact hok.out)).mono ?_
          
          rintro r w3 ⟨vl, bl, pl, rfl, hRl, hpe, hk3⟩
          have hK3 := Lib.hid (hK.out.trans hk3)
          have hQ3 := Lib.hid hk3
          have hL3 := hRl.at_
          obtain ⟨pa, ca, rfl, hca1, hca2⟩ := hL3.val
          obtain ⟨ML, hML⟩ : ∃ n, pl.length = n := ⟨_, rfl⟩
          rw [hML] at hL3 hca1 ⊢
          replace hL3 := Lib.hid hL3
          replace hpe := Lib.hid hpe
          replace hML := Lib.hid hML
          clear hk3 hRl
          
          go_wp2_with fail
          refine (hst.out _).mono ?_
          rintro r w4 ⟨v4, rfl, hk4⟩
          have hK4 := Lib.hid (hK3.out.trans hk4)
          have hQ4 := Lib.hid (hQ3.out.trans hk4)
          go_wp2_with fail
          refine (hlc.out _ _ _ _ _ h11 hm1.out).mono ?_
          rintro r w5 ⟨rfl, rfl⟩
          go_wp2_with fail
          refine (hRef.out _ _ _ _ ps (hZt.out _ hK4.out) (hIl.out _ hQ4.out) (hTt.out _ hK4.out) hvl.out (by rw [hend.out]; exact hok.out)).mono ?_
          
          rintro r w6 ⟨vr, br, pr, rfl, hRr, hpr, hk6⟩
          have hK6 := Lib.hid (hK4.out.trans hk6)
          have hL6 := Lib.hid (hL3.out.kp (hk4.trans hk6))
          have hM6 := hRr.at_
          have hMR : pr.length = ML := by
            have e1 := congrArg List.length hpr
            have e2 := congrArg List.length hpe.out
            rw [List.length_map] at e1 e2
            rw [← hML.out, e1, e2]
          obtain ⟨pb, cb, rfl, hcb1, hcb2⟩ := hM6.val
          rw [hMR] at hM6 hcb1 ⊢
          have hsame : Hid (∀ j (h1 : j < pl.length) (h2 : j < pr.length), pr[j].2 = pl[j].2) := by
            intro j h1 h2
            have e : (pr.map Prod.snd)[j]? = (pl.map Prod.snd)[j]? := by rw [hpr, hpe.out]
            simpa [h1, h2] using e
          replace hM6 := Lib.hid hM6
          replace hMR := Lib.hid hMR
          clear hk6 hk4 hRr hpr
          have r1 : ((ML : Int) != (ML : Int)) = false := by simp
          have hMb : ML ≤ 9223372036854775807 := by omega
          go_wp2_with fail
          go_loopw [19] (fun ix wr => ∃ j : Nat, j ≤ ML ∧ ix = .int .i64 j ∧ Hid (Kp [] w6 wr)) (fun ix _ => ML - (intOf ix).toNat)
          case atStart => exact ⟨0, Nat.zero_le _, rfl, Kp.refl _ _⟩
          case round =>
            obtain ⟨j, hj, rfl, hKj⟩ := hrel
            by_cases hlt : j < ML
            · have h1 : j < pl.length := by rw [hML.out]; exact hlt
              have h2 : j < pr.length := by rw [hMR.out]; exact hlt
              obtain ⟨ba, oa, qa, xa, rfl, hxa, hya, -, -⟩ := (hL6.out.kp hKj.out).at_ j h1
              obtain ⟨bb, ob, qb, xb, rfl, hxb, hyb, -, -⟩ := (hM6.out.kp hKj.out).at_ j h2
              have hS := hsame.out j h1 h2
              rw [hS] at hxb hyb
              obtain ⟨row, hrow⟩ : ∃ x, pl[j].2 = x := ⟨_, rfl⟩
              rw [hrow] at hxa hya hxb hyb
              have hsc := Lib.hid (fun W (kw : Kp [] wr W) => same_c W _ _ row (hya.kp kw) (hyb.kp kw))
              obtain ⟨R, hR⟩ : ∃ x, row.length = x := ⟨_, rfl⟩
              rw [hR] at hxa hxb hsc
              clear hya hyb hS hrow
              replace hR := Lib.hid hR
              go_wp2_with fail
              go_region_with ((refine (hsc.out _ ((Kp.refl [] wr).drew)).mono ?_; rintro r w7 ⟨rfl, hk7⟩; replace hk7 := Lib.hid ((Kp.refl [] wr).drew.trans hk7)))
              all_goals
                go_wp2_with fail
                go_roundw
                case rel => exact ⟨j + 1, by omega, by go_num, hKj.out.trans hk7.out⟩
                case measure => simp [intOf]; omega
            · obtain rfl : j = ML := by omega
              go_wp2_with fail
              refine (awake_c _).mono ?_
              rintro r wa ⟨rfl, hka⟩
              go_wp2
              go_ret
              exact ⟨rfl, (hK6.out.trans hKj.out).trans hka⟩

/-- The law. -/
theorem rlaw_c (k : ByteArray) (v vI vT : Value) (w : World) (zs ts : List Int) (vs : List (Value × List Int)) (hz : Is w v zs) (hI : Ils w vI vs) (hT : Is w vT ts) : Calls Try.prog 4 #[.string k, v, vI, vT] w fun r w' => r = .returned (.bool true) ∧ Kp [] w w' := by
  by_cases hk : ∃ i, i < 9 ∧ k = nmb i
  · obtain ⟨i, hi, rfl⟩ := hk
    cases hok : okB i (zs.take 20) (cutR vs) (ts.take 101)
    · exact rlaw_bad i hi _ rfl v vI vT w zs ts vs hz hI hT hok
    · exact rlaw_yes i hi _ rfl v vI vT w zs ts vs hz hI hT hok
  · exact rlaw_no k (fun i hi e => hk ⟨i, hi, e⟩) v vI vT w zs ts vs hz hI hT
end Go.Proofs.Ytieacfenoomaeaa
