import Derived.Test.YtieacfenoomaeaaQim
import Derived.Test.YtieacfenoomaeaaQg5
set_option linter.unusedSimpArgs false
set_option linter.unusedVariables false
namespace Go.Proofs.Ytieacfenoomaeaa
open Go.RowKit

theorem infoSl : (Try.prog.info? 22).map (fun i => (i.zero, i.size, i.bytes)) = some (some (.slice none 0 0), 1, 24) := by kernel_rfl
theorem slice_one (p : Option Addr) (n c : Nat) : ∀ u ∈ [Value.slice p n c], u.oneCell' = true := by intro u hu; simp at hu; subst hu; rfl
theorem slice_cell (W : World) (u : Value) : ∀ j x, ([u] : List Value)[j]? = some x → (W.alloc (.cells #[u] 22)).cell? ((⟨W.heap.size, 0, none⟩ : Addr).add j) = some x := by
  intro j x hj
  have hb := Blk.new W 22 #[u]
  match j, hj with
  | 0, hj => exact hb.cell 0 hj
theorem all_no {i : Nat} {rs : List (List Int)} {k : Nat} (hk : k < rs.length) (h : areV (kinIn i) rs[k] = false) : rs.all (areV (kinIn i)) = false := by
  cases hb : rs.all (areV (kinIn i))
  · rfl
  · exact absurd (List.all_eq_true.1 hb rs[k] (List.getElem_mem hk)) (by rw [h]; simp)
theorem all_step {i : Nat} {rs : List (List Int)} {k : Nat} (hk : k < rs.length) (h0 : (rs.take k).all (areV (kinIn i)) = true) (h : areV (kinIn i) rs[k] = true) : (rs.take (k + 1)).all (areV (kinIn i)) = true := by
  rw [List.take_succ_eq_append_getElem hk, List.all_append, h0]
  simpa using h
theorem kinIn_no {i : Nat} (hi : i < 9) {row : List Int} (h : row.length ≠ inN i) : areV (kinIn i) row = false := by
  cases hb : areV (kinIn i) row
  · rfl
  · exact absurd (areV_len hb) (by rw [inN_len hi]; omega)
theorem kin_over {i : Nat} (hi : i < 9) {zs row : List Int} (h : row.length = inN i) (h1 : inN i ≤ (kin i).length) (hv : areV (kin i) zs = true) : areV (kin i) (row ++ zs.drop row.length) = areV (kinIn i) row := by
  have := over_not (n := inN i) h h1 hv
  rw [h]
  exact this
set_option maxRecDepth 100000 in
set_option maxHeartbeats 8000000 in
theorem rrun_main (nm : ByteArray) (i n : Nat) (hi : i < 9) (L : List (ByteArray × Int × Int)) (hR : RKind nm i n L) (hC : ClsOk i n L) (hnm : nmb i = nm) (w : World) (v1 vI vT : Value) (zs ts : List Int) (vs : List (Value × List Int)) (hz : Is w v1 zs) (hv : areV (kin i) zs = true) (hI : Ils w vI vs) (hT : Is w vT ts)
    (hl : ts.length = vs.length) (ht : tmsB ts = true) (hM9 : vs.length ≤ 1000) :
    Calls Try.prog 25 #[.string nm, v1, vI, vT] w (RunRes i zs (vs.map Prod.snd) ts ((vs.map Prod.snd).all (areV (kinIn i))) w) := by
  have hright := Lib.hid (fun W v zs h => right_gen nm i n L hR W v zs h)
  have hcel := Lib.hid hR.cells
  have htm := Lib.hid (fun W h => rtimes_c W vT ts (vs.length : Int) h)
  have hsc : Hid (∀ w0 W g m c zs now, Ow w0 W (.slice (some ⟨g, 0, none⟩) m c) zs → areV (kin i) zs = true → isT now = true → Calls Try.prog 22 #[.string nm, .slice (some ⟨g, 0, none⟩) m c, .int .i64 now] W (Wr w0 g m c (stp i zs now) W)) := by
    intro w0 W g m c zs now h1 h2 h3
    have h9 := rscan_c i hi w0 W g m c zs now h1 h2 h3
    rw [hnm] at h9
    exact h9
  have hnk : n = (kin i).length := by rw [← hR.len, ← hR.kinds, List.length_map]
  have hzl : zs.length = n := by rw [hnk]; exact (areV_len hv).symm
  have hn6 := hR.le
  have hn0 := hR.pos
  obtain ⟨hC1, hC2, hC3, hC4⟩ := hC
  obtain ⟨IN, hIN⟩ : ∃ x, inN i = x := ⟨_, rfl⟩
  obtain ⟨IO, hIO⟩ : ∃ x, ioN i = x := ⟨_, rfl⟩
  rw [hIN] at hC1 hC3 hC4
  rw [hIO] at hC2 hC3 hC4
  obtain ⟨rs, hrs⟩ : ∃ rs, vs.map Prod.snd = rs := ⟨_, rfl⟩
  have hrl : rs.length = vs.length := by rw [← hrs, List.length_map]
  have hrk : Hid (∀ k (h : k < vs.length) (h2 : k < rs.length), vs[k].2 = rs[k]) := fun k h h2 => by simp [← hrs]
  rw [hrs]
  clear hrs
  have hTt : Hid (∀ j, j < ts.length → isT (ts.getD j 0) = true) := fun j hj => tms_isT ht hj
  obtain ⟨pI, cI, rfl, hI1, hI2⟩ := hI.val
  obtain ⟨p1, c1, rfl, h11, h12⟩ := hz.val
  obtain ⟨pT, cT, rfl, hT1, hT2⟩ := hT.val
  obtain ⟨M, hM⟩ : ∃ M, vs.length = M := ⟨_, rfl⟩
  rw [hl] at hT1 htm ⊢
  rw [hM] at hI1 hM9 htm hrl hT1 ⊢
  rw [hzl] at h11 ⊢
  have hkk : Hid (areV (kin i) zs = true) := hv
  rw [hM] at hI
  rw [hl, hM] at hT
  rw [hzl] at hz
  replace hnk := Lib.hid hnk
  replace hl := Lib.hid (hl.trans hM)
  replace hz := Lib.hid hz
  replace hI := Lib.hid hI
  replace hT := Lib.hid hT
  replace hIN := Lib.hid hIN
  replace hIO := Lib.hid hIO
  replace hrl := Lib.hid hrl
  replace hM := Lib.hid hM
  replace hzl := Lib.hid hzl
  replace hC4 := Lib.hid hC4
  replace ht := Lib.hid ht
  clear hnm hv
  go_enter Try.func25, Try.ntmps25
  go_wp2_with fail
  refine (hcel.out _).mono ?_
  rintro r w1 ⟨u, rfl, hr, hk1⟩
  obtain ⟨g1, c9, rfl, hc9⟩ := own_slice hr hn0
  have hcls : Hid (∀ W, Kp [] w1 W → ∀ j, j < n → W.cell? ⟨g1, j * 5 + 2, none⟩ = some (.int .i64 ((L.map fun x => x.2.1).getD j 0))) := fun W k j hj => by
    rw [World.ownsRow.cellAt (ownsRow_kp hr k) (j * 5 + 2) (by omega), classAt (by rw [hR.len]; exact hj)]
  clear hr hcel hR
  replace hk1 := Lib.hid hk1
  go_wp2_with fail
  refine (hright.out _ _ zs (hz.out.kp hk1.out)).mono ?_
  rintro r w2 ⟨rfl, hk2⟩
  rw [hkk.out]
  have hK2 := Lib.hid (hk1.out.trans hk2)
  have hQ2 := Lib.hid hk2
  clear hk2
  go_wp2_with fail
  refine (htm.out _ (hT.out.kp hK2.out)).mono ?_
  rintro r w3 ⟨rfl, hk3⟩
  rw [ht.out]
  have hK3 := Lib.hid (hK2.out.trans hk3)
  have hQ3 := Lib.hid (hQ2.out.trans hk3)
  clear hk3 htm hQ2 hK2 hk1
  have hz3 := hz.out.kp hK3.out
  obtain ⟨b, off, rfl, -⟩ := hz3.at_ 0 (by rw [hzl.out]; omega)
  have hadd := Lib.hid hz3.adds
  clear hz3
  obtain ⟨i0, hi0, hz0, hy1, hz2⟩ := info_parts infoInt
  have hnil := Lib.hid (World.ownsRow_nil w3 w3.heap.size 3 1)
  have hl1 : Hid ((zs.map (Value.int .i64)).length = n * 1) := by show _ = _; rw [List.length_map, hzl.out]; omega
  have hone : Hid (∀ u ∈ zs.map (Value.int .i64), u.oneCell' = true) := by
    intro u hu
    obtain ⟨x, _, rfl⟩ := List.mem_map.1 hu
    rfl
  go_wp2_with (at_builtin; refine wpList_append_own _ rfl _ _ 22 rfl w3.heap.size 3 i0 _ 1 8 Try.underlying22 hi0 hz0 hy1 hz2 rfl (by decide) _ _ _ rfl hnil.out ⟨b, off, none⟩ n c1 (zs.map (Value.int .i64)) rfl hl1.out hadd.out hone.out (by unfold maxLen; omega) (by omega) (Nat.le_refl _) ?_; intro v' w4 hown' hgrow _)
  have hk4 : Kp [] w3 w4 := (Kp.refl [] w3).grown hgrow (fun k hk => by cases hk)
  have hO : Ow w3 w4 v' zs := by
    show World.ownsRow _ _ _ _ _ _ _
    rw [hzl.out]
    simpa using hown'
  obtain ⟨g, c8, rfl, hg1, hg2, -, -⟩ := hO.at_ (by rw [hzl.out]; omega)
  rw [hzl.out] at hO ⊢
  replace hO := Lib.hid hO
  replace hk4 := Lib.hid hk4
  clear hown' hgrow hnil hl1 hone hadd
  go_wp2_with fail
  obtain ⟨B, hB⟩ : ∃ B, w4.heap.size = B := ⟨_, rfl⟩
  rw [hB] at hg2
  replace hB := Lib.hid hB
  go_loopw [13, 14] (fun o ix wr => ∃ (k : Nat) (ps : List (Value × List Int)), k ≤ M ∧ ix = .int .i64 k ∧ Hid (ps.length = k) ∧ Hid (Rws wr B o ps) ∧ Hid (ps.map Prod.snd = runR i zs (rs.take k) ts) ∧ Hid ((rs.take k).all (areV (kinIn i)) = true) ∧ Hid (areV (kin i) (nxts i zs (rs.take k) ts) = true) ∧ Hid (Ow w3 wr (.slice (some ⟨g, 0, none⟩) n c8) (nxts i zs (rs.take k) ts)) ∧ Hid (Kp [] w3 wr) ∧ Hid (B ≤ wr.heap.size)) (fun _ ix _ => M - (intOf ix).toNat)
  case atStart => exact ⟨0, [], Nat.zero_le _, rfl, rfl, Rws.nil _ _, rfl, rfl, hkk.out, hO.out, hk4.out, Nat.le_of_eq hB.out.symm⟩
  case round =>
    obtain ⟨k, ps, hk, rfl, hpl, hRw, hps, hal, hkv, hOw, hK, hBw⟩ := hrel
    by_cases hlt : k < M
    · have hk2 : k < vs.length := by rw [hM.out]; exact hlt
      have hk3 : k < rs.length := by rw [hrl.out]; exact hlt
      have hkt : k < ts.length := by rw [hl.out]; exact hlt
      have hsn := nxts_snoc i k rs zs ts hk3 hkt
      have hrn := runR_snoc i k rs zs ts hk3 hkt
      have hAN : Hid (areV (kinIn i) rs[k] = false → rs.all (areV (kinIn i)) = false) := all_no hk3
      have hAS : Hid (areV (kinIn i) rs[k] = true → (rs.take (k + 1)).all (areV (kinIn i)) = true) := all_step hk3 hal.out
      obtain ⟨zk, hzk⟩ : ∃ x, nxts i zs (rs.take k) ts = x := ⟨_, rfl⟩
      rw [hzk] at hkv hOw hsn
      have hzkl : zk.length = n := by rw [hnk.out]; exact (areV_len hkv.out).symm
      obtain ⟨bI, oI, q, cc, rfl, hcI, hIr, hcc1, hcc2⟩ := hI.out.at_ k hk2
      rw [hrk.out k hk2 hk3] at hcI hIr hcc1
      obtain ⟨row, hrow⟩ : ∃ x, rs[k] = x := ⟨_, rfl⟩
      rw [hrow] at hcI hIr hcc1 hsn hAN hAS
      clear hrow hzk
      have hAL : Hid (row.length ≠ IN → areV (kinIn i) row = false) := fun h => kinIn_no hi (by rw [hIN.out]; exact h)
      have hrv : Hid (IN = row.length → areV (kin i) (row ++ zk.drop row.length) = areV (kinIn i) row) := fun h => kin_over hi (by rw [hIN.out]; exact h.symm) (by rw [hIN.out, ← hnk.out]; exact hC1) hkv.out
      have hst : Hid (∀ j, j < row.length → j < n → (overK j row zk).set j (row.getD j 0) = overK (j + 1) row zk) := fun j h1 h2 => overK_step h1 (by omega)
      have hol : Hid (∀ j, j ≤ row.length → j ≤ n → (overK j row zk).length = n) := fun j h1 h2 => by rw [overK_len h1 (by omega)]; exact hzkl
      have hof : Hid (IN = row.length → overK IN row zk = row ++ zk.drop row.length) := fun h => overK_full h
      obtain ⟨R, hRl⟩ : ∃ x, row.length = x := ⟨_, rfl⟩
      have hIn : Hid (∀ W, Kp [] w3 W → W.cell? ⟨bI, oI + k, none⟩ = some (.slice q R cc)) := fun W kw => by rw [← hRl]; exact (hK3.out.trans kw).cell hcI (by simp)
      have hRc : Hid (∀ W, Kp [] w3 W → ∀ j, j < R → ∃ br off, q = some ⟨br, off, none⟩ ∧ W.cell? ⟨br, off + j, none⟩ = some (.int .i64 (row.getD j 0))) := fun W kw j hj => (hIr.kp (hK3.out.trans kw)).at_ j (by rw [hRl]; exact hj)
      have hTm : Hid (∀ W, Kp [] w3 W → ∃ bt ot, pT = some ⟨bt, ot, none⟩ ∧ W.cell? ⟨bt, ot + k, none⟩ = some (.int .i64 (ts.getD k 0))) := fun W kw => (hT.out.kp (hK3.out.trans kw)).at_ k hkt
      have hTb := hTt.out k hkt
      rw [hRl] at hcc1
      rw [hRl] at hAL hrv hst hol hof
      clear hcI hIr
      replace hRl := Lib.hid hRl
      replace hsn := Lib.hid hsn
      replace hrn := Lib.hid hrn
      replace hTb := Lib.hid hTb
      replace hzkl := Lib.hid hzkl
      go_wp2_with fail
      go_loopw [15, 16] (fun a bx wr2 => ∃ (j m : Nat), j ≤ n ∧ bx = .int .i64 j ∧ a = .int .i64 m ∧ m = min j IN ∧ m ≤ R ∧ Hid (Ow w3 wr2 (.slice (some ⟨g, 0, none⟩) n c8) (overK m row zk)) ∧ Hid (Kp [g] wr wr2)) (fun _ bx _ => n - (intOf bx).toNat)
      case atStart => exact ⟨0, 0, Nat.zero_le _, rfl, rfl, by omega, Nat.zero_le _, by show Ow _ _ _ _; rw [overK_0]; exact hOw.out, Kp.refl _ _⟩
      case round =>
        obtain ⟨j, m, hj, rfl, rfl, hm, hmR, hO2, hKg⟩ := hrel
        have hKj := Lib.hid (hK.out.trans' hKg.out (fun x hx hlt => by simp at hx; omega))
        by_cases hjn : j < n
        · have hc := hcls.out _ (hQ3.out.trans hKj.out) j hjn
          have hCl := (hC4.out j hjn).1
          by_cases hin : j < IN
          · have e1 := hCl.2 hin
            rw [e1] at hc
            obtain rfl : m = j := by omega
            have hi1 := hIn.out _ hKj.out
            clear hCl e1 hm
            by_cases hjr : m < R
            · obtain ⟨br, offr, rfl, hrc⟩ := hRc.out _ hKj.out m hjr
              have hol2 := hol.out m (by omega) (by omega)
              obtain ⟨g', c', e2, -, -, hcg, hfg⟩ := hO2.out.at_ (by rw [hol2]; omega)
              simp at e2
              obtain ⟨rfl, -, rfl⟩ := e2
              have hcm := hcg m (by rw [hol2]; exact hjn)
              have hfm := hfg m
              obtain ⟨ov, hov⟩ : ∃ x, (overK m row zk).getD m 0 = x := ⟨_, rfl⟩
              rw [hov] at hcm
              have hS := hO2.out.set m (by rw [hol2]; exact hjn) (row.getD m 0)
              rw [hst.out m (by omega) hjn] at hS
              have hkS := hKg.out.setCell (p := ⟨g, m, none⟩) (.inl (by simp)) (.int .i64 (row.getD m 0))
              obtain ⟨x, hx⟩ : ∃ x, row.getD m 0 = x := ⟨_, rfl⟩
              rw [hx] at hrc hS hkS
              replace hx := Lib.hid hx
              replace hov := Lib.hid hov
              replace hS := Lib.hid hS
              replace hkS := Lib.hid hkS
              clear hcg hfg hol2 hO2 hKg hKj
              go_wp2_with fail
              go_roundw
              case rel => exact ⟨m + 1, m + 1, by omega, by go_num, by go_num, by omega, by omega, hS.out, hkS.out⟩
              case measure => simp [intOf]; omega
            · have hno := Lib.hid (hAN.out (hAL.out (by omega)))
              clear hO2 hKg
              go_wp2_with fail
              go_ret2
              exact RunRes.no hno.out (hK3.out.trans hKj.out)
          · have hne : ¬ (L.map fun x => x.2.1).getD j 0 = 1 := fun e => hin (hCl.1 e)
            obtain ⟨cv, hcv⟩ : ∃ x, (L.map fun x => x.2.1).getD j 0 = x := ⟨_, rfl⟩
            rw [hcv] at hc hne
            have n1 : (cv != 1) = true := by simpa using hne
            have n2 : (cv == 1) = false := by simpa using hne
            clear hCl hcv hKj
            go_wp2_with fail
            go_roundw
            case rel => exact ⟨j + 1, m, by omega, by go_num, rfl, by omega, by omega, hO2.out, hKg.out⟩
            case measure => simp [intOf]; omega
        · obtain rfl : j = n := by omega
          obtain rfl : m = IN := by omega
          clear hj hjn hm
          have hi1 := hIn.out _ hKj.out
          by_cases hRn : m = R
          · have hrv2 := hrv.out hRn
            rw [hof.out hRn] at hO2
            have hrg := Lib.hid (hright.out _ _ _ hO2.out.is)
            rw [hrv2] at hrg
            have hnx : Hid (nxts i zs (rs.take (k + 1)) ts = stp i (row ++ zk.drop R) (ts.getD k 0)) := by show _ = _; rw [hsn.out, nxt, hRl.out]
            obtain ⟨Z, hZ⟩ : ∃ Z, row ++ zk.drop R = Z := ⟨_, rfl⟩
            rw [hZ] at hO2 hrv2 hnx
            clear hZ
            subst hRn
            have r1 : ((m : Int) != (m : Int)) = false := by simp
            go_wp2_with fail
            refine hrg.out.mono ?_
            rintro r W1 ⟨rfl, hkr⟩
            have hK1 := Lib.hid (hKj.out.trans hkr)
            have hG1 := Lib.hid (hKg.out.trans hkr.any)
            cases hb : areV (kinIn i) row
            · have hno := Lib.hid (hAN.out hb)
              go_wp2
              go_ret2
              exact RunRes.no hno.out (hK3.out.trans hK1.out)
            · have hAS2 := Lib.hid (hAS.out hb)
              have hO3 := hO2.out.kp hkr
              obtain ⟨bt, ot, rfl, htc⟩ := hTm.out W1 hK1.out
              have hsC := Lib.hid (hsc.out w3 W1 g j c8 Z (ts.getD k 0) hO3 (hrv2.trans hb) hTb.out)
              have hkn : Hid (areV (kin i) (stp i Z (ts.getD k 0)) = true) := stp_kin hi (hrv2.trans hb) hTb.out
              obtain ⟨t, ht9⟩ : ∃ t, ts.getD k 0 = t := ⟨_, rfl⟩
              rw [ht9] at htc hsC hnx hkn
              replace ht9 := Lib.hid ht9
              obtain ⟨z9, hz9⟩ : ∃ z, stp i Z t = z := ⟨_, rfl⟩
              rw [hz9] at hsC hnx hkn
              replace hz9 := Lib.hid hz9
              clear hO2 hO3 hrg hi1 r1 hkr hrv2
              go_wp2_with fail
              refine hsC.out.mono ?_
              rintro r W2 ⟨rfl, ⟨L2, hO4, hL2⟩, hk5⟩
              rw [hL2] at hO4
              have hK2 := Lib.hid (hK1.out.trans' hk5 (fun x hx hlt => by simp at hx; omega))
              have hG2 := Lib.hid (hG1.out.trans hk5)
              have hBw2 : Hid (B ≤ W2.heap.size) := Nat.le_trans hBw.out hG2.out.size
              have hz9l : z9.length = j := by rw [hnk.out]; exact (areV_len hkn.out).symm
              have ho1 : Hid (∀ a, ¬ (m ≤ a ∧ a < IO) → outK i (a + 1) z9 = outK i a z9) := fun a ha => outK_no (by rw [hIN.out, hIO.out]; exact ha)
              have ho2 : Hid (∀ a, m ≤ a → a < IO → a < j → outK i (a + 1) z9 = outK i a z9 ++ [z9.getD a 0]) := fun a h1 h2 h3 => outK_yes (by rw [hIN.out]; exact h1) (by rw [hIO.out]; exact h2) (by omega)
              have ho3 : Hid (outK i j z9 = outN i z9) := outK_end (by rw [hIO.out]; exact hC2)
              replace hO4 := Lib.hid hO4
              replace hk5 := Lib.hid hk5
              replace hz9l := Lib.hid hz9l
              clear hL2 hsC
              go_wp2_with fail
              go_loopw [17, 18] (fun v bx wr3 => ∃ a : Nat, a ≤ j ∧ bx = .int .i64 a ∧ Hid (wr3.ownsRow W2.heap.size 3 1 v (outK i a z9).length ((outK i a z9).map (Value.int .i64))) ∧ Hid (Kp [] W2 wr3)) (fun _ bx _ => j - (intOf bx).toNat)
              case atStart => exact ⟨0, Nat.zero_le _, rfl, by show World.ownsRow _ _ _ _ _ _ _; rw [outK_0]; exact World.ownsRow_nil _ _ _ _, Kp.refl _ _⟩
              case round =>
                obtain ⟨a, ha, rfl, hrr, hK6⟩ := hrel
                have hK7 := Lib.hid (hK2.out.trans hK6.out)
                have hlen : (outK i a z9).length ≤ 5 := outK_len _ _ _
                by_cases haj : a < j
                · have hc := hcls.out _ (hQ3.out.trans hK7.out) a haj
                  have hCl := (hC4.out a haj).2
                  by_cases hio : m ≤ a ∧ a < IO
                  · have e1 := hCl.2 hio
                    rw [e1] at hc
                    obtain ⟨g', c', e2, -, -, hcg, -⟩ := (hO4.out.kp hK6.out).at_ (by rw [hz9l.out]; omega)
                    simp at e2
                    obtain ⟨rfl, -, rfl⟩ := e2
                    have hcm := hcg a (by rw [hz9l.out]; exact haj)
                    have ho4 := Lib.hid (ho2.out a hio.1 hio.2 haj)
                    obtain ⟨x, hx⟩ : ∃ x, z9.getD a 0 = x := ⟨_, rfl⟩
                    rw [hx] at hcm ho4
                    have hR2 := Lib.hid (hrr.out.alloc (.cells #[.int .i64 x] 3))
                    have hnew := Lib.hid (int_cell wr x)
                    have hbs : Hid (W2.heap.size ≤ (wr.alloc (.cells #[.int .i64 x] 3)).heap.size) := by
                      show _ ≤ _
                      rw [World.size_alloc]
                      have := hK6.out.size
                      omega
                    replace hx := Lib.hid hx
                    clear hcg hCl e1
                    go_wp2_with (at_builtin; refine wpList_append_own _ rfl _ _ 22 rfl W2.heap.size 3 i0 _ 1 8 Try.underlying22 hi0 hz0 hy1 hz2 rfl (by decide) _ _ _ rfl hR2.out ⟨wr.heap.size, 0, none⟩ 1 1 [.int .i64 x] rfl rfl hnew.out (int_one x) (by unfold maxLen; omega) (by omega) hbs.out ?_; intro v' w7 hown' hgrow _)
                    have hK8 := Lib.hid ((hK6.out.alloc (.cells #[.int .i64 x] 3)).grown hgrow (fun b hb => .inr (hR2.out.lt b hb).1))
                    replace hown' := Lib.hid hown'
                    clear hgrow
                    go_wp2_with fail
                    go_roundw
                    case rel => exact ⟨a + 1, by omega, by go_num, by show World.ownsRow _ _ _ _ _ _ _; rw [ho4.out]; simpa using hown'.out, hK8.out⟩
                    case measure => simp [intOf]; omega
                  · have hne : ¬ (L.map fun x => x.2.1).getD a 0 = 2 := fun e => hio (hCl.1 e)
                    obtain ⟨cv, hcv⟩ : ∃ x, (L.map fun x => x.2.1).getD a 0 = x := ⟨_, rfl⟩
                    rw [hcv] at hc hne
                    have n1 : (cv != 2) = true := by simpa using hne
                    have n2 : (cv == 2) = false := by simpa using hne
                    have ho4 := Lib.hid (ho1.out a hio)
                    clear hCl hcv
                    go_wp2_with fail
                    go_roundw
                    case rel => exact ⟨a + 1, by omega, by go_num, by show World.ownsRow _ _ _ _ _ _ _; rw [ho4.out]; exact hrr.out, hK6.out⟩
                    case measure => simp [intOf]; omega
                · obtain rfl : a = j := by omega
                  have hrr2 : Hid (wr.ownsRow W2.heap.size 3 1 u17 (outN i z9).length ((outN i z9).map (Value.int .i64))) := by
                    show World.ownsRow _ _ _ _ _ _ _
                    rw [← ho3.out]
                    exact hrr.out
                  obtain ⟨pa, na, ca, rfl⟩ := own_sl hrr2.out
                  have hRw7 := (hRw.out.kps (hG2.out.trans hK6.out.any) (fun x hx hm => by simp at hm; omega)).kp ((Kp.refl [] wr).alloc (.cells #[.slice pa na ca] 22))
                  have hu7 := (own_base hrr2.out hBw2.out).alloc (.cells #[.slice pa na ca] 22)
                  have hc7 := (hO4.out.kp hK6.out).kp ((Kp.refl [] wr).alloc (.cells #[.slice pa na ca] 22))
                  have hRa := Lib.hid hRw7.1
                  obtain ⟨i1, hj0, hj1, hj2, hj3⟩ := info_parts infoSl
                  have hnew := Lib.hid (slice_cell wr (.slice pa na ca))
                  have hbs : Hid (B ≤ (wr.alloc (.cells #[.slice pa na ca] 22)).heap.size) := by
                    show _ ≤ _
                    rw [World.size_alloc]
                    have := hBw2.out
                    have := hK6.out.size
                    omega
                  have hpl9 : ps.length ≤ 1000 := by rw [hpl.out]; omega
                  replace hRw7 := Lib.hid hRw7
                  replace hu7 := Lib.hid hu7
                  replace hc7 := Lib.hid hc7
                  clear hrr
                  go_wp2_with (at_builtin; refine wpList_append_own _ rfl _ _ 42 rfl B 22 i1 _ 1 24 Try.underlying42 hj0 hj1 hj2 hj3 rfl (by decide) _ _ _ rfl hRa.out ⟨wr.heap.size, 0, none⟩ 1 1 [.slice pa na ca] rfl rfl hnew.out (slice_one _ _ _) (by unfold maxLen; omega) (by omega) hbs.out ?_; intro v' w8 hown' hgrow _)
                  have hRn := Lib.hid (Rws.snoc hRw7.out hu7.out hown' hgrow)
                  have hcn : Hid (Ow w3 w8 (.slice (some ⟨g, 0, none⟩) a c8) z9) := World.ownsRow.kept hc7.out hgrow (own_ne hc7.out hRa.out (by decide))
                  have hK9 := Lib.hid ((hK7.out.alloc (.cells #[.slice pa na ca] 22)).grown hgrow (fun b hb => .inr (by have := (hRa.out.lt b hb).1; omega)))
                  have hB9 : Hid (B ≤ w8.heap.size) := Nat.le_trans hbs.out hgrow.size
                  clear hown' hgrow
                  go_wp2_with fail
                  go_roundw
                  case rel =>
                    refine ⟨k + 1, ps ++ [(Value.slice pa na ca, outN i z9)], by omega, by go_num, ?_, hRn.out, ?_, hAS2.out, ?_, ?_, hK9.out, hB9.out⟩
                    · show _ = _
                      rw [List.length_append, hpl.out]; rfl
                    · show _ = _
                      rw [List.map_append, hps.out, hrn.out, hnx.out]; rfl
                    · show _ = _
                      rw [hnx.out]; exact hkn.out
                    · show Ow _ _ _ _
                      rw [hnx.out]; exact hcn.out
                  case measure => simp [intOf]; omega
          · have hno := Lib.hid (hAN.out (hAL.out (by omega)))
            have r1 : ((m : Int) != (R : Int)) = true := by simp; omega
            have r2 : ((m : Int) == (R : Int)) = false := by simp; omega
            have r3 : (m != R) = true := by simpa using hRn
            have r4 : (m == R) = false := by simpa using hRn
            clear hO2 hKg hrv hof hol hst
            go_wp2_with fail
            go_ret2
            exact RunRes.no hno.out (hK3.out.trans hKj.out)
    · obtain rfl : k = M := by omega
      have hrt : rs.take k = rs := List.take_of_length_le (by rw [hrl.out]; exact Nat.le_refl _)
      have hfin : Hid (rs.all (areV (kinIn i)) = true) := by
        have := hal.out
        rwa [hrt] at this
      have hps2 : Hid (ps.map Prod.snd = runR i zs rs ts) := by
        have := hps.out
        rwa [hrt] at this
      clear hrt
      go_wp2_with fail
      go_ret2
      exact RunRes.yes hfin.out hRw.out hps2.out (hK3.out.trans hK.out)
end Go.Proofs.Ytieacfenoomaeaa
