import Derived.Test.YtldfddjacmgiaaaQf2
import Derived.Test.YtldfddjacmgiaaaQm1
import Derived.Deep.RegionHeld3
set_option linter.unusedSimpArgs false
set_option linter.unusedVariables false
namespace Go.Proofs.Ytldfddjacmgiaaa
open Go.RowKit

theorem Is.tri {w : World} {v : Value} {z0 z1 z2 : Int} (h : Is w v [z0, z1, z2]) : ∃ b o c, v = .slice (some ⟨b, o, none⟩) 3 c ∧ w.cell? ⟨b, o + 0, none⟩ = some (.int .i64 z0) ∧ w.cell? ⟨b, o + 1, none⟩ = some (.int .i64 z1) ∧ w.cell? ⟨b, o + 2, none⟩ = some (.int .i64 z2) := by
  obtain ⟨p, c, h1, h2, h3, h4⟩ := h
  rcases h4 with h4 | ⟨b, o, rfl, h5⟩
  · cases h4
  · exact ⟨b, o, c, h1, h5 0 (Nat.succ_pos _), h5 1 (by show 1 < 3; omega), h5 2 (by show 2 < 3; omega)⟩
set_option maxRecDepth 100000 in
set_option maxHeartbeats 1000000 in
theorem twice_off (k : ByteArray) (v : Value) (now : Int) (w : World) (hr : Hid (∀ W, Kp [] w W → Calls Try.prog 26 #[.string k, v, .int .i64 now] W fun r w' => r = .returned (.bool false) ∧ Kp [] W w')) :
    Calls Try.prog 5 #[.string k, v, .int .i64 now] w fun r w' => r = .returned (.bool true) ∧ Kp [] w w' := by
  go_enter Try.func5, Try.ntmps5
  go_wp2_with fail
  refine (hr.out _ (Kp.refl _ _)).mono ?_
  rintro r w1 ⟨rfl, hk⟩
  replace hk := Lib.hid hk
  go_wp2_with (go_at_call 19; refine (awake_c _).mono ?_; rintro r w3 ⟨rfl, hk3⟩)
  go_ret
  exact ⟨rfl, hk.out.trans hk3⟩
set_option maxRecDepth 100000 in
set_option maxHeartbeats 2000000 in
theorem twice_ton (v : Value) (zs : List Int) (now : Int) (w : World) (hz : Is w v zs) (hv : areV (kin 0) zs = true) (ht : isT now = true)
    (hr : Hid (∀ W, Kp [] w W → Calls Try.prog 26 #[.string ⟨#[116, 111, 110]⟩, v, .int .i64 now] W fun r w' => r = .returned (.bool true) ∧ Kp [] W w')) :
    Calls Try.prog 5 #[.string ⟨#[116, 111, 110]⟩, v, .int .i64 now] w fun r w' => r = .returned (.bool true) ∧ Kp [] w w' := by
  obtain ⟨hA, hB⟩ : Good 0 zs now := good_ton hv ht
  have hin := kept_ton (now := now) hv
  have hzl : zs.length = 6 := (areV_len hv).symm
  have hAl : (stp 0 zs now).length = 6 := (areV_len hA).symm
  have hs1 := Lib.hid (fun W (k : Kp [] w W) => scan_ton zs now W v (hz.kp k) hv ht)
  have hs2 := Lib.hid (fun W u (h : Is W u (stp 0 zs now)) => scan_ton (stp 0 zs now) now W u h hA ht)
  have hR := Lib.hid (fun W u (h : Is W u (stp 0 zs now)) => right_gen _ 0 6 timerL rk_ton W u _ h)
  rw [hA] at hR
  obtain ⟨A, hAA⟩ : ∃ A, stp 0 zs now = A := ⟨_, rfl⟩
  rw [hAA] at hin hAl hs1 hs2 hR hB
  obtain ⟨p0, c0, rfl, hc0, hc02⟩ := hz.val
  rw [hzl] at hz hc0 hs1 hr ⊢
  replace hin := Lib.hid hin
  replace hz := Lib.hid hz
  replace hzl := Lib.hid hzl
  replace hAl := Lib.hid hAl
  replace hAA := Lib.hid hAA
  replace hv := Lib.hid hv
  replace ht := Lib.hid ht
  replace hA := Lib.hid hA
  have hcl := Lib.hid (fun W => rk_ton.cells W)
  replace hB := Lib.hid hB
  go_enter Try.func5, Try.ntmps5
  go_wp2_with fail
  refine (hr.out _ (Kp.refl _ _)).mono ?_
  rintro r w1 ⟨rfl, hk1⟩
  replace hk1 := Lib.hid hk1
  go_wp2_with fail
  refine (hs1.out _ hk1.out).mono ?_
  rintro r w2 ⟨va, rfl, hva, hk2, -⟩
  replace hk2 := Lib.hid (hk1.out.trans hk2)
  replace hva := Lib.hid hva
  go_wp2_with fail
  refine (hs2.out _ _ hva.out).mono ?_
  rintro r w3 ⟨vb, rfl, hvb, hk3, -⟩
  have hva3 := hva.out.kp hk3
  replace hk3 := Lib.hid (hk2.out.trans hk3)
  rw [hB.out] at hvb
  obtain ⟨pa, ca, rfl, -, -⟩ := hva3.val
  obtain ⟨pb, cb, rfl, -, -⟩ := hvb.val
  rw [hAl.out] at hva3 ⊢
  rw [hAl.out] at hvb
  replace hva3 := Lib.hid hva3
  replace hvb := Lib.hid hvb
  clear hs1 hs2 hva
  go_wp2_with fail
  refine (hR.out _ _ hva3.out).mono ?_
  rintro r w4 ⟨rfl, hk4⟩
  replace hva3 := Lib.hid (hva3.out.kp hk4)
  replace hvb := Lib.hid (hvb.out.kp hk4)
  replace hk4 := Lib.hid (hk3.out.trans hk4)
  clear hR
  go_wp2_with fail
  refine (hcl.out _).mono ?_
  rintro r w5 ⟨vl, rfl, hvl, hk5⟩
  replace hva3 := Lib.hid (hva3.out.kp hk5)
  replace hvb := Lib.hid (hvb.out.kp hk5)
  replace hk5 := Lib.hid (hk4.out.trans hk5)
  obtain ⟨gl, cl, rfl, hcl2⟩ := own_slice hvl (by omega)
  have hcla : Hid (∀ j, j < 6 → w5.cell? ⟨gl, j * 5 + 2, none⟩ = some (.int .i64 ((timerL.map fun x => x.2.1).getD j 0))) := fun j hj => by
    rw [World.ownsRow.cellAt hvl (j * 5 + 2) (by omega), classAt hj]
  have hzw := Lib.hid (hz.out.kp hk5.out)
  clear hvl hcl
  go_wp2_with fail
  go_loopw [13] (fun i wr => ∃ (j : Nat), j ≤ 6 ∧ i = .int .i64 j ∧ Hid (Kp [] w5 wr)) (fun i _ => 6 - (intOf i).toNat)
  case atStart => exact ⟨0, Nat.zero_le _, rfl, Kp.refl _ _⟩
  case round =>
    obtain ⟨j, hj, rfl, hK⟩ := hrel
    by_cases hlt : j < 6
    · have e1 := hK.out.cell (hcla.out j hlt) (by simp)
      obtain ⟨ba, oa, rfl, e2⟩ := (hva3.out.kp hK.out).at_ j (by rw [hAl.out]; exact hlt)
      obtain ⟨bz, oz, rfl, e3⟩ := (hzw.out.kp hK.out).at_ j (by rw [hzl.out]; exact hlt)
      have hij := hin.out j hlt
      obtain ⟨cc, hcc⟩ : ∃ z, (timerL.map fun x => x.2.1).getD j 0 = z := ⟨_, rfl⟩
      rw [hcc] at e1 hij
      replace hcc := Lib.hid hcc
      by_cases h1 : cc = 1
      · subst h1
        rw [hij rfl] at e2
        obtain ⟨z, hzz⟩ : ∃ z, zs.getD j 0 = z := ⟨_, rfl⟩
        rw [hzz] at e2 e3
        clear hij hzz
        go_wp2_with fail
        go_quiet (fail)
        go_wp2
        go_roundw
        case rel => exact ⟨j + 1, by omega, by go_num, hK.out.drewN _⟩
        case measure => simp [intOf]; omega
      · have hc1 : (cc == 1) = false := by simpa using h1
        replace h1 := Lib.hid h1
        clear hij
        go_wp2_with fail
        go_quiet (fail)
        go_wp2
        go_roundw
        case rel => exact ⟨j + 1, by omega, by go_num, hK.out.drewN _⟩
        case measure => simp [intOf]; omega
    · obtain rfl : j = 6 := by omega
      have hvaw := Lib.hid (hva3.out.kp hK.out)
      have hvbw := Lib.hid (hvb.out.kp hK.out)
      have hsame := Lib.hid (same_c wr _ _ A hvaw.out hvbw.out)
      clear hcla hzw hva3 hvb
      go_wp2_with fail
      refine hsame.out.mono ?_
      rintro r w7 ⟨rfl, hk7⟩
      replace hk7 := Lib.hid hk7
      go_wp2_with (go_at_call 19; refine (awake_c _).mono ?_; rintro r w8 ⟨rfl, hk8⟩)
      go_ret
      exact ⟨rfl, ((hk5.out.trans hK.out).trans hk7.out).trans hk8⟩
set_option maxRecDepth 100000 in
set_option maxHeartbeats 2000000 in
theorem twice_tof (v : Value) (zs : List Int) (now : Int) (w : World) (hz : Is w v zs) (hv : areV (kin 1) zs = true) (ht : isT now = true)
    (hr : Hid (∀ W, Kp [] w W → Calls Try.prog 26 #[.string ⟨#[116, 111, 102]⟩, v, .int .i64 now] W fun r w' => r = .returned (.bool true) ∧ Kp [] W w')) :
    Calls Try.prog 5 #[.string ⟨#[116, 111, 102]⟩, v, .int .i64 now] w fun r w' => r = .returned (.bool true) ∧ Kp [] w w' := by
  obtain ⟨hA, hB⟩ : Good 1 zs now := good_tof hv ht
  have hin := kept_tof (now := now) hv
  have hzl : zs.length = 6 := (areV_len hv).symm
  have hAl : (stp 1 zs now).length = 6 := (areV_len hA).symm
  have hs1 := Lib.hid (fun W (k : Kp [] w W) => scan_tof zs now W v (hz.kp k) hv ht)
  have hs2 := Lib.hid (fun W u (h : Is W u (stp 1 zs now)) => scan_tof (stp 1 zs now) now W u h hA ht)
  have hR := Lib.hid (fun W u (h : Is W u (stp 1 zs now)) => right_gen _ 1 6 timerL rk_tof W u _ h)
  rw [hA] at hR
  obtain ⟨A, hAA⟩ : ∃ A, stp 1 zs now = A := ⟨_, rfl⟩
  rw [hAA] at hin hAl hs1 hs2 hR hB
  obtain ⟨p0, c0, rfl, hc0, hc02⟩ := hz.val
  rw [hzl] at hz hc0 hs1 hr ⊢
  replace hin := Lib.hid hin
  replace hz := Lib.hid hz
  replace hzl := Lib.hid hzl
  replace hAl := Lib.hid hAl
  replace hAA := Lib.hid hAA
  replace hv := Lib.hid hv
  replace ht := Lib.hid ht
  replace hA := Lib.hid hA
  have hcl := Lib.hid (fun W => rk_tof.cells W)
  replace hB := Lib.hid hB
  go_enter Try.func5, Try.ntmps5
  go_wp2_with fail
  refine (hr.out _ (Kp.refl _ _)).mono ?_
  rintro r w1 ⟨rfl, hk1⟩
  replace hk1 := Lib.hid hk1
  go_wp2_with fail
  refine (hs1.out _ hk1.out).mono ?_
  rintro r w2 ⟨va, rfl, hva, hk2, -⟩
  replace hk2 := Lib.hid (hk1.out.trans hk2)
  replace hva := Lib.hid hva
  go_wp2_with fail
  refine (hs2.out _ _ hva.out).mono ?_
  rintro r w3 ⟨vb, rfl, hvb, hk3, -⟩
  have hva3 := hva.out.kp hk3
  replace hk3 := Lib.hid (hk2.out.trans hk3)
  rw [hB.out] at hvb
  obtain ⟨pa, ca, rfl, -, -⟩ := hva3.val
  obtain ⟨pb, cb, rfl, -, -⟩ := hvb.val
  rw [hAl.out] at hva3 ⊢
  rw [hAl.out] at hvb
  replace hva3 := Lib.hid hva3
  replace hvb := Lib.hid hvb
  clear hs1 hs2 hva
  go_wp2_with fail
  refine (hR.out _ _ hva3.out).mono ?_
  rintro r w4 ⟨rfl, hk4⟩
  replace hva3 := Lib.hid (hva3.out.kp hk4)
  replace hvb := Lib.hid (hvb.out.kp hk4)
  replace hk4 := Lib.hid (hk3.out.trans hk4)
  clear hR
  go_wp2_with fail
  refine (hcl.out _).mono ?_
  rintro r w5 ⟨vl, rfl, hvl, hk5⟩
  replace hva3 := Lib.hid (hva3.out.kp hk5)
  replace hvb := Lib.hid (hvb.out.kp hk5)
  replace hk5 := Lib.hid (hk4.out.trans hk5)
  obtain ⟨gl, cl, rfl, hcl2⟩ := own_slice hvl (by omega)
  have hcla : Hid (∀ j, j < 6 → w5.cell? ⟨gl, j * 5 + 2, none⟩ = some (.int .i64 ((timerL.map fun x => x.2.1).getD j 0))) := fun j hj => by
    rw [World.ownsRow.cellAt hvl (j * 5 + 2) (by omega), classAt hj]
  have hzw := Lib.hid (hz.out.kp hk5.out)
  clear hvl hcl
  go_wp2_with fail
  go_loopw [13] (fun i wr => ∃ (j : Nat), j ≤ 6 ∧ i = .int .i64 j ∧ Hid (Kp [] w5 wr)) (fun i _ => 6 - (intOf i).toNat)
  case atStart => exact ⟨0, Nat.zero_le _, rfl, Kp.refl _ _⟩
  case round =>
    obtain ⟨j, hj, rfl, hK⟩ := hrel
    by_cases hlt : j < 6
    · have e1 := hK.out.cell (hcla.out j hlt) (by simp)
      obtain ⟨ba, oa, rfl, e2⟩ := (hva3.out.kp hK.out).at_ j (by rw [hAl.out]; exact hlt)
      obtain ⟨bz, oz, rfl, e3⟩ := (hzw.out.kp hK.out).at_ j (by rw [hzl.out]; exact hlt)
      have hij := hin.out j hlt
      obtain ⟨cc, hcc⟩ : ∃ z, (timerL.map fun x => x.2.1).getD j 0 = z := ⟨_, rfl⟩
      rw [hcc] at e1 hij
      replace hcc := Lib.hid hcc
      by_cases h1 : cc = 1
      · subst h1
        rw [hij rfl] at e2
        obtain ⟨z, hzz⟩ : ∃ z, zs.getD j 0 = z := ⟨_, rfl⟩
        rw [hzz] at e2 e3
        clear hij hzz
        go_wp2_with fail
        go_quiet (fail)
        go_wp2
        go_roundw
        case rel => exact ⟨j + 1, by omega, by go_num, hK.out.drewN _⟩
        case measure => simp [intOf]; omega
      · have hc1 : (cc == 1) = false := by simpa using h1
        replace h1 := Lib.hid h1
        clear hij
        go_wp2_with fail
        go_quiet (fail)
        go_wp2
        go_roundw
        case rel => exact ⟨j + 1, by omega, by go_num, hK.out.drewN _⟩
        case measure => simp [intOf]; omega
    · obtain rfl : j = 6 := by omega
      have hvaw := Lib.hid (hva3.out.kp hK.out)
      have hvbw := Lib.hid (hvb.out.kp hK.out)
      have hsame := Lib.hid (same_c wr _ _ A hvaw.out hvbw.out)
      clear hcla hzw hva3 hvb
      go_wp2_with fail
      refine hsame.out.mono ?_
      rintro r w7 ⟨rfl, hk7⟩
      replace hk7 := Lib.hid hk7
      go_wp2_with (go_at_call 19; refine (awake_c _).mono ?_; rintro r w8 ⟨rfl, hk8⟩)
      go_ret
      exact ⟨rfl, ((hk5.out.trans hK.out).trans hk7.out).trans hk8⟩
set_option maxRecDepth 100000 in
set_option maxHeartbeats 2000000 in
theorem twice_tp (v : Value) (zs : List Int) (now : Int) (w : World) (hz : Is w v zs) (hv : areV (kin 2) zs = true) (ht : isT now = true)
    (hr : Hid (∀ W, Kp [] w W → Calls Try.prog 26 #[.string ⟨#[116, 112]⟩, v, .int .i64 now] W fun r w' => r = .returned (.bool true) ∧ Kp [] W w')) :
    Calls Try.prog 5 #[.string ⟨#[116, 112]⟩, v, .int .i64 now] w fun r w' => r = .returned (.bool true) ∧ Kp [] w w' := by
  obtain ⟨hA, hB⟩ : Good 2 zs now := good_tp hv ht
  have hin := kept_tp (now := now) hv
  have hzl : zs.length = 6 := (areV_len hv).symm
  have hAl : (stp 2 zs now).length = 6 := (areV_len hA).symm
  have hs1 := Lib.hid (fun W (k : Kp [] w W) => scan_tp zs now W v (hz.kp k) hv ht)
  have hs2 := Lib.hid (fun W u (h : Is W u (stp 2 zs now)) => scan_tp (stp 2 zs now) now W u h hA ht)
  have hR := Lib.hid (fun W u (h : Is W u (stp 2 zs now)) => right_gen _ 2 6 timerL rk_tp W u _ h)
  rw [hA] at hR
  obtain ⟨A, hAA⟩ : ∃ A, stp 2 zs now = A := ⟨_, rfl⟩
  rw [hAA] at hin hAl hs1 hs2 hR hB
  obtain ⟨p0, c0, rfl, hc0, hc02⟩ := hz.val
  rw [hzl] at hz hc0 hs1 hr ⊢
  replace hin := Lib.hid hin
  replace hz := Lib.hid hz
  replace hzl := Lib.hid hzl
  replace hAl := Lib.hid hAl
  replace hAA := Lib.hid hAA
  replace hv := Lib.hid hv
  replace ht := Lib.hid ht
  replace hA := Lib.hid hA
  have hcl := Lib.hid (fun W => rk_tp.cells W)
  replace hB := Lib.hid hB
  go_enter Try.func5, Try.ntmps5
  go_wp2_with fail
  refine (hr.out _ (Kp.refl _ _)).mono ?_
  rintro r w1 ⟨rfl, hk1⟩
  replace hk1 := Lib.hid hk1
  go_wp2_with fail
  refine (hs1.out _ hk1.out).mono ?_
  rintro r w2 ⟨va, rfl, hva, hk2, -⟩
  replace hk2 := Lib.hid (hk1.out.trans hk2)
  replace hva := Lib.hid hva
  go_wp2_with fail
  refine (hs2.out _ _ hva.out).mono ?_
  rintro r w3 ⟨vb, rfl, hvb, hk3, -⟩
  have hva3 := hva.out.kp hk3
  replace hk3 := Lib.hid (hk2.out.trans hk3)
  rw [hB.out] at hvb
  obtain ⟨pa, ca, rfl, -, -⟩ := hva3.val
  obtain ⟨pb, cb, rfl, -, -⟩ := hvb.val
  rw [hAl.out] at hva3 ⊢
  rw [hAl.out] at hvb
  replace hva3 := Lib.hid hva3
  replace hvb := Lib.hid hvb
  clear hs1 hs2 hva
  go_wp2_with fail
  refine (hR.out _ _ hva3.out).mono ?_
  rintro r w4 ⟨rfl, hk4⟩
  replace hva3 := Lib.hid (hva3.out.kp hk4)
  replace hvb := Lib.hid (hvb.out.kp hk4)
  replace hk4 := Lib.hid (hk3.out.trans hk4)
  clear hR
  go_wp2_with fail
  refine (hcl.out _).mono ?_
  rintro r w5 ⟨vl, rfl, hvl, hk5⟩
  replace hva3 := Lib.hid (hva3.out.kp hk5)
  replace hvb := Lib.hid (hvb.out.kp hk5)
  replace hk5 := Lib.hid (hk4.out.trans hk5)
  obtain ⟨gl, cl, rfl, hcl2⟩ := own_slice hvl (by omega)
  have hcla : Hid (∀ j, j < 6 → w5.cell? ⟨gl, j * 5 + 2, none⟩ = some (.int .i64 ((timerL.map fun x => x.2.1).getD j 0))) := fun j hj => by
    rw [World.ownsRow.cellAt hvl (j * 5 + 2) (by omega), classAt hj]
  have hzw := Lib.hid (hz.out.kp hk5.out)
  clear hvl hcl
  go_wp2_with fail
  go_loopw [13] (fun i wr => ∃ (j : Nat), j ≤ 6 ∧ i = .int .i64 j ∧ Hid (Kp [] w5 wr)) (fun i _ => 6 - (intOf i).toNat)
  case atStart => exact ⟨0, Nat.zero_le _, rfl, Kp.refl _ _⟩
  case round =>
    obtain ⟨j, hj, rfl, hK⟩ := hrel
    by_cases hlt : j < 6
    · have e1 := hK.out.cell (hcla.out j hlt) (by simp)
      obtain ⟨ba, oa, rfl, e2⟩ := (hva3.out.kp hK.out).at_ j (by rw [hAl.out]; exact hlt)
      obtain ⟨bz, oz, rfl, e3⟩ := (hzw.out.kp hK.out).at_ j (by rw [hzl.out]; exact hlt)
      have hij := hin.out j hlt
      obtain ⟨cc, hcc⟩ : ∃ z, (timerL.map fun x => x.2.1).getD j 0 = z := ⟨_, rfl⟩
      rw [hcc] at e1 hij
      replace hcc := Lib.hid hcc
      by_cases h1 : cc = 1
      · subst h1
        rw [hij rfl] at e2
        obtain ⟨z, hzz⟩ : ∃ z, zs.getD j 0 = z := ⟨_, rfl⟩
        rw [hzz] at e2 e3
        clear hij hzz
        go_wp2_with fail
        go_quiet (fail)
        go_wp2
        go_roundw
        case rel => exact ⟨j + 1, by omega, by go_num, hK.out.drewN _⟩
        case measure => simp [intOf]; omega
      · have hc1 : (cc == 1) = false := by simpa using h1
        replace h1 := Lib.hid h1
        clear hij
        go_wp2_with fail
        go_quiet (fail)
        go_wp2
        go_roundw
        case rel => exact ⟨j + 1, by omega, by go_num, hK.out.drewN _⟩
        case measure => simp [intOf]; omega
    · obtain rfl : j = 6 := by omega
      have hvaw := Lib.hid (hva3.out.kp hK.out)
      have hvbw := Lib.hid (hvb.out.kp hK.out)
      have hsame := Lib.hid (same_c wr _ _ A hvaw.out hvbw.out)
      clear hcla hzw hva3 hvb
      go_wp2_with fail
      refine hsame.out.mono ?_
      rintro r w7 ⟨rfl, hk7⟩
      replace hk7 := Lib.hid hk7
      go_wp2_with (go_at_call 19; refine (awake_c _).mono ?_; rintro r w8 ⟨rfl, hk8⟩)
      go_ret
      exact ⟨rfl, ((hk5.out.trans hK.out).trans hk7.out).trans hk8⟩
set_option maxRecDepth 100000 in
set_option maxHeartbeats 2000000 in
theorem twice_ctu (v : Value) (zs : List Int) (now : Int) (w : World) (hz : Is w v zs) (hv : areV (kin 3) zs = true) (ht : isT now = true)
    (hr : Hid (∀ W, Kp [] w W → Calls Try.prog 26 #[.string ⟨#[99, 116, 117]⟩, v, .int .i64 now] W fun r w' => r = .returned (.bool true) ∧ Kp [] W w')) :
    Calls Try.prog 5 #[.string ⟨#[99, 116, 117]⟩, v, .int .i64 now] w fun r w' => r = .returned (.bool true) ∧ Kp [] w w' := by
  obtain ⟨hA, hB⟩ : Good 3 zs now := good_ctu hv
  have hin := kept_ctu (now := now) hv
  have hzl : zs.length = 6 := (areV_len hv).symm
  have hAl : (stp 3 zs now).length = 6 := (areV_len hA).symm
  have hs1 := Lib.hid (fun W (k : Kp [] w W) => scan_ctu zs now W v (hz.kp k) hv ht)
  have hs2 := Lib.hid (fun W u (h : Is W u (stp 3 zs now)) => scan_ctu (stp 3 zs now) now W u h hA ht)
  have hR := Lib.hid (fun W u (h : Is W u (stp 3 zs now)) => right_gen _ 3 6 ctuL rk_ctu W u _ h)
  rw [hA] at hR
  obtain ⟨A, hAA⟩ : ∃ A, stp 3 zs now = A := ⟨_, rfl⟩
  rw [hAA] at hin hAl hs1 hs2 hR hB
  obtain ⟨p0, c0, rfl, hc0, hc02⟩ := hz.val
  rw [hzl] at hz hc0 hs1 hr ⊢
  replace hin := Lib.hid hin
  replace hz := Lib.hid hz
  replace hzl := Lib.hid hzl
  replace hAl := Lib.hid hAl
  replace hAA := Lib.hid hAA
  replace hv := Lib.hid hv
  replace ht := Lib.hid ht
  replace hA := Lib.hid hA
  have hcl := Lib.hid (fun W => rk_ctu.cells W)
  replace hB := Lib.hid hB
  go_enter Try.func5, Try.ntmps5
  go_wp2_with fail
  refine (hr.out _ (Kp.refl _ _)).mono ?_
  rintro r w1 ⟨rfl, hk1⟩
  replace hk1 := Lib.hid hk1
  go_wp2_with fail
  refine (hs1.out _ hk1.out).mono ?_
  rintro r w2 ⟨va, rfl, hva, hk2, -⟩
  replace hk2 := Lib.hid (hk1.out.trans hk2)
  replace hva := Lib.hid hva
  go_wp2_with fail
  refine (hs2.out _ _ hva.out).mono ?_
  rintro r w3 ⟨vb, rfl, hvb, hk3, -⟩
  have hva3 := hva.out.kp hk3
  replace hk3 := Lib.hid (hk2.out.trans hk3)
  rw [hB.out] at hvb
  obtain ⟨pa, ca, rfl, -, -⟩ := hva3.val
  obtain ⟨pb, cb, rfl, -, -⟩ := hvb.val
  rw [hAl.out] at hva3 ⊢
  rw [hAl.out] at hvb
  replace hva3 := Lib.hid hva3
  replace hvb := Lib.hid hvb
  clear hs1 hs2 hva
  go_wp2_with fail
  refine (hR.out _ _ hva3.out).mono ?_
  rintro r w4 ⟨rfl, hk4⟩
  replace hva3 := Lib.hid (hva3.out.kp hk4)
  replace hvb := Lib.hid (hvb.out.kp hk4)
  replace hk4 := Lib.hid (hk3.out.trans hk4)
  clear hR
  go_wp2_with fail
  refine (hcl.out _).mono ?_
  rintro r w5 ⟨vl, rfl, hvl, hk5⟩
  replace hva3 := Lib.hid (hva3.out.kp hk5)
  replace hvb := Lib.hid (hvb.out.kp hk5)
  replace hk5 := Lib.hid (hk4.out.trans hk5)
  obtain ⟨gl, cl, rfl, hcl2⟩ := own_slice hvl (by omega)
  have hcla : Hid (∀ j, j < 6 → w5.cell? ⟨gl, j * 5 + 2, none⟩ = some (.int .i64 ((ctuL.map fun x => x.2.1).getD j 0))) := fun j hj => by
    rw [World.ownsRow.cellAt hvl (j * 5 + 2) (by omega), classAt hj]
  have hzw := Lib.hid (hz.out.kp hk5.out)
  clear hvl hcl
  go_wp2_with fail
  go_loopw [13] (fun i wr => ∃ (j : Nat), j ≤ 6 ∧ i = .int .i64 j ∧ Hid (Kp [] w5 wr)) (fun i _ => 6 - (intOf i).toNat)
  case atStart => exact ⟨0, Nat.zero_le _, rfl, Kp.refl _ _⟩
  case round =>
    obtain ⟨j, hj, rfl, hK⟩ := hrel
    by_cases hlt : j < 6
    · have e1 := hK.out.cell (hcla.out j hlt) (by simp)
      obtain ⟨ba, oa, rfl, e2⟩ := (hva3.out.kp hK.out).at_ j (by rw [hAl.out]; exact hlt)
      obtain ⟨bz, oz, rfl, e3⟩ := (hzw.out.kp hK.out).at_ j (by rw [hzl.out]; exact hlt)
      have hij := hin.out j hlt
      obtain ⟨cc, hcc⟩ : ∃ z, (ctuL.map fun x => x.2.1).getD j 0 = z := ⟨_, rfl⟩
      rw [hcc] at e1 hij
      replace hcc := Lib.hid hcc
      by_cases h1 : cc = 1
      · subst h1
        rw [hij rfl] at e2
        obtain ⟨z, hzz⟩ : ∃ z, zs.getD j 0 = z := ⟨_, rfl⟩
        rw [hzz] at e2 e3
        clear hij hzz
        go_wp2_with fail
        go_quiet (fail)
        go_wp2
        go_roundw
        case rel => exact ⟨j + 1, by omega, by go_num, hK.out.drewN _⟩
        case measure => simp [intOf]; omega
      · have hc1 : (cc == 1) = false := by simpa using h1
        replace h1 := Lib.hid h1
        clear hij
        go_wp2_with fail
        go_quiet (fail)
        go_wp2
        go_roundw
        case rel => exact ⟨j + 1, by omega, by go_num, hK.out.drewN _⟩
        case measure => simp [intOf]; omega
    · obtain rfl : j = 6 := by omega
      have hvaw := Lib.hid (hva3.out.kp hK.out)
      have hvbw := Lib.hid (hvb.out.kp hK.out)
      have hsame := Lib.hid (same_c wr _ _ A hvaw.out hvbw.out)
      clear hcla hzw hva3 hvb
      go_wp2_with fail
      refine hsame.out.mono ?_
      rintro r w7 ⟨rfl, hk7⟩
      replace hk7 := Lib.hid hk7
      go_wp2_with (go_at_call 19; refine (awake_c _).mono ?_; rintro r w8 ⟨rfl, hk8⟩)
      go_ret
      exact ⟨rfl, ((hk5.out.trans hK.out).trans hk7.out).trans hk8⟩
set_option maxRecDepth 100000 in
set_option maxHeartbeats 2000000 in
theorem twice_ctd (v : Value) (zs : List Int) (now : Int) (w : World) (hz : Is w v zs) (hv : areV (kin 4) zs = true) (ht : isT now = true)
    (hr : Hid (∀ W, Kp [] w W → Calls Try.prog 26 #[.string ⟨#[99, 116, 100]⟩, v, .int .i64 now] W fun r w' => r = .returned (.bool true) ∧ Kp [] W w')) :
    Calls Try.prog 5 #[.string ⟨#[99, 116, 100]⟩, v, .int .i64 now] w fun r w' => r = .returned (.bool true) ∧ Kp [] w w' := by
  obtain ⟨hA, hB⟩ : Good 4 zs now := good_ctd hv
  have hin := kept_ctd (now := now) hv
  have hzl : zs.length = 6 := (areV_len hv).symm
  have hAl : (stp 4 zs now).length = 6 := (areV_len hA).symm
  have hs1 := Lib.hid (fun W (k : Kp [] w W) => scan_ctd zs now W v (hz.kp k) hv ht)
  have hs2 := Lib.hid (fun W u (h : Is W u (stp 4 zs now)) => scan_ctd (stp 4 zs now) now W u h hA ht)
  have hR := Lib.hid (fun W u (h : Is W u (stp 4 zs now)) => right_gen _ 4 6 ctdL rk_ctd W u _ h)
  rw [hA] at hR
  obtain ⟨A, hAA⟩ : ∃ A, stp 4 zs now = A := ⟨_, rfl⟩
  rw [hAA] at hin hAl hs1 hs2 hR hB
  obtain ⟨p0, c0, rfl, hc0, hc02⟩ := hz.val
  rw [hzl] at hz hc0 hs1 hr ⊢
  replace hin := Lib.hid hin
  replace hz := Lib.hid hz
  replace hzl := Lib.hid hzl
  replace hAl := Lib.hid hAl
  replace hAA := Lib.hid hAA
  replace hv := Lib.hid hv
  replace ht := Lib.hid ht
  replace hA := Lib.hid hA
  have hcl := Lib.hid (fun W => rk_ctd.cells W)
  replace hB := Lib.hid hB
  go_enter Try.func5, Try.ntmps5
  go_wp2_with fail
  refine (hr.out _ (Kp.refl _ _)).mono ?_
  rintro r w1 ⟨rfl, hk1⟩
  replace hk1 := Lib.hid hk1
  go_wp2_with fail
  refine (hs1.out _ hk1.out).mono ?_
  rintro r w2 ⟨va, rfl, hva, hk2, -⟩
  replace hk2 := Lib.hid (hk1.out.trans hk2)
  replace hva := Lib.hid hva
  go_wp2_with fail
  refine (hs2.out _ _ hva.out).mono ?_
  rintro r w3 ⟨vb, rfl, hvb, hk3, -⟩
  have hva3 := hva.out.kp hk3
  replace hk3 := Lib.hid (hk2.out.trans hk3)
  rw [hB.out] at hvb
  obtain ⟨pa, ca, rfl, -, -⟩ := hva3.val
  obtain ⟨pb, cb, rfl, -, -⟩ := hvb.val
  rw [hAl.out] at hva3 ⊢
  rw [hAl.out] at hvb
  replace hva3 := Lib.hid hva3
  replace hvb := Lib.hid hvb
  clear hs1 hs2 hva
  go_wp2_with fail
  refine (hR.out _ _ hva3.out).mono ?_
  rintro r w4 ⟨rfl, hk4⟩
  replace hva3 := Lib.hid (hva3.out.kp hk4)
  replace hvb := Lib.hid (hvb.out.kp hk4)
  replace hk4 := Lib.hid (hk3.out.trans hk4)
  clear hR
  go_wp2_with fail
  refine (hcl.out _).mono ?_
  rintro r w5 ⟨vl, rfl, hvl, hk5⟩
  replace hva3 := Lib.hid (hva3.out.kp hk5)
  replace hvb := Lib.hid (hvb.out.kp hk5)
  replace hk5 := Lib.hid (hk4.out.trans hk5)
  obtain ⟨gl, cl, rfl, hcl2⟩ := own_slice hvl (by omega)
  have hcla : Hid (∀ j, j < 6 → w5.cell? ⟨gl, j * 5 + 2, none⟩ = some (.int .i64 ((ctdL.map fun x => x.2.1).getD j 0))) := fun j hj => by
    rw [World.ownsRow.cellAt hvl (j * 5 + 2) (by omega), classAt hj]
  have hzw := Lib.hid (hz.out.kp hk5.out)
  clear hvl hcl
  go_wp2_with fail
  go_loopw [13] (fun i wr => ∃ (j : Nat), j ≤ 6 ∧ i = .int .i64 j ∧ Hid (Kp [] w5 wr)) (fun i _ => 6 - (intOf i).toNat)
  case atStart => exact ⟨0, Nat.zero_le _, rfl, Kp.refl _ _⟩
  case round =>
    obtain ⟨j, hj, rfl, hK⟩ := hrel
    by_cases hlt : j < 6
    · have e1 := hK.out.cell (hcla.out j hlt) (by simp)
      obtain ⟨ba, oa, rfl, e2⟩ := (hva3.out.kp hK.out).at_ j (by rw [hAl.out]; exact hlt)
      obtain ⟨bz, oz, rfl, e3⟩ := (hzw.out.kp hK.out).at_ j (by rw [hzl.out]; exact hlt)
      have hij := hin.out j hlt
      obtain ⟨cc, hcc⟩ : ∃ z, (ctdL.map fun x => x.2.1).getD j 0 = z := ⟨_, rfl⟩
      rw [hcc] at e1 hij
      replace hcc := Lib.hid hcc
      by_cases h1 : cc = 1
      · subst h1
        rw [hij rfl] at e2
        obtain ⟨z, hzz⟩ : ∃ z, zs.getD j 0 = z := ⟨_, rfl⟩
        rw [hzz] at e2 e3
        clear hij hzz
        go_wp2_with fail
        go_quiet (fail)
        go_wp2
        go_roundw
        case rel => exact ⟨j + 1, by omega, by go_num, hK.out.drewN _⟩
        case measure => simp [intOf]; omega
      · have hc1 : (cc == 1) = false := by simpa using h1
        replace h1 := Lib.hid h1
        clear hij
        go_wp2_with fail
        go_quiet (fail)
        go_wp2
        go_roundw
        case rel => exact ⟨j + 1, by omega, by go_num, hK.out.drewN _⟩
        case measure => simp [intOf]; omega
    · obtain rfl : j = 6 := by omega
      have hvaw := Lib.hid (hva3.out.kp hK.out)
      have hvbw := Lib.hid (hvb.out.kp hK.out)
      have hsame := Lib.hid (same_c wr _ _ A hvaw.out hvbw.out)
      clear hcla hzw hva3 hvb
      go_wp2_with fail
      refine hsame.out.mono ?_
      rintro r w7 ⟨rfl, hk7⟩
      replace hk7 := Lib.hid hk7
      go_wp2_with (go_at_call 19; refine (awake_c _).mono ?_; rintro r w8 ⟨rfl, hk8⟩)
      go_ret
      exact ⟨rfl, ((hk5.out.trans hK.out).trans hk7.out).trans hk8⟩
set_option maxRecDepth 100000 in
set_option maxHeartbeats 2000000 in
theorem twice_sr (v : Value) (zs : List Int) (now : Int) (w : World) (hz : Is w v zs) (hv : areV (kin 5) zs = true) (ht : isT now = true)
    (hr : Hid (∀ W, Kp [] w W → Calls Try.prog 26 #[.string ⟨#[115, 114]⟩, v, .int .i64 now] W fun r w' => r = .returned (.bool true) ∧ Kp [] W w')) :
    Calls Try.prog 5 #[.string ⟨#[115, 114]⟩, v, .int .i64 now] w fun r w' => r = .returned (.bool true) ∧ Kp [] w w' := by
  obtain ⟨hA, hB⟩ : Good 5 zs now := good_s 5 (.inl rfl) hv
  have hin := kept_sr (now := now) hv
  have hzl : zs.length = 3 := (areV_len hv).symm
  have hAl : (stp 5 zs now).length = 3 := (areV_len hA).symm
  have hs1 := Lib.hid (fun W (k : Kp [] w W) => scan_sr zs now W v (hz.kp k) hv ht)
  have hs2 := Lib.hid (fun W u (h : Is W u (stp 5 zs now)) => scan_sr (stp 5 zs now) now W u h hA ht)
  have hR := Lib.hid (fun W u (h : Is W u (stp 5 zs now)) => right_gen _ 5 3 srL rk_sr W u _ h)
  rw [hA] at hR
  obtain ⟨A, hAA⟩ : ∃ A, stp 5 zs now = A := ⟨_, rfl⟩
  rw [hAA] at hin hAl hs1 hs2 hR hB
  obtain ⟨p0, c0, rfl, hc0, hc02⟩ := hz.val
  rw [hzl] at hz hc0 hs1 hr ⊢
  replace hin := Lib.hid hin
  replace hz := Lib.hid hz
  replace hzl := Lib.hid hzl
  replace hAl := Lib.hid hAl
  replace hAA := Lib.hid hAA
  replace hv := Lib.hid hv
  replace ht := Lib.hid ht
  replace hA := Lib.hid hA
  have hcl := Lib.hid (fun W => rk_sr.cells W)
  replace hB := Lib.hid hB
  go_enter Try.func5, Try.ntmps5
  go_wp2_with fail
  refine (hr.out _ (Kp.refl _ _)).mono ?_
  rintro r w1 ⟨rfl, hk1⟩
  replace hk1 := Lib.hid hk1
  go_wp2_with fail
  refine (hs1.out _ hk1.out).mono ?_
  rintro r w2 ⟨va, rfl, hva, hk2, -⟩
  replace hk2 := Lib.hid (hk1.out.trans hk2)
  replace hva := Lib.hid hva
  go_wp2_with fail
  refine (hs2.out _ _ hva.out).mono ?_
  rintro r w3 ⟨vb, rfl, hvb, hk3, -⟩
  have hva3 := hva.out.kp hk3
  replace hk3 := Lib.hid (hk2.out.trans hk3)
  rw [hB.out] at hvb
  obtain ⟨pa, ca, rfl, -, -⟩ := hva3.val
  obtain ⟨pb, cb, rfl, -, -⟩ := hvb.val
  rw [hAl.out] at hva3 ⊢
  rw [hAl.out] at hvb
  replace hva3 := Lib.hid hva3
  replace hvb := Lib.hid hvb
  clear hs1 hs2 hva
  go_wp2_with fail
  refine (hR.out _ _ hva3.out).mono ?_
  rintro r w4 ⟨rfl, hk4⟩
  replace hva3 := Lib.hid (hva3.out.kp hk4)
  replace hvb := Lib.hid (hvb.out.kp hk4)
  replace hk4 := Lib.hid (hk3.out.trans hk4)
  clear hR
  go_wp2_with fail
  refine (hcl.out _).mono ?_
  rintro r w5 ⟨vl, rfl, hvl, hk5⟩
  replace hva3 := Lib.hid (hva3.out.kp hk5)
  replace hvb := Lib.hid (hvb.out.kp hk5)
  replace hk5 := Lib.hid (hk4.out.trans hk5)
  obtain ⟨gl, cl, rfl, hcl2⟩ := own_slice hvl (by omega)
  have hcla : Hid (∀ j, j < 3 → w5.cell? ⟨gl, j * 5 + 2, none⟩ = some (.int .i64 ((srL.map fun x => x.2.1).getD j 0))) := fun j hj => by
    rw [World.ownsRow.cellAt hvl (j * 5 + 2) (by omega), classAt hj]
  have hzw := Lib.hid (hz.out.kp hk5.out)
  clear hvl hcl
  go_wp2_with fail
  go_loopw [13] (fun i wr => ∃ (j : Nat), j ≤ 3 ∧ i = .int .i64 j ∧ Hid (Kp [] w5 wr)) (fun i _ => 3 - (intOf i).toNat)
  case atStart => exact ⟨0, Nat.zero_le _, rfl, Kp.refl _ _⟩
  case round =>
    obtain ⟨j, hj, rfl, hK⟩ := hrel
    by_cases hlt : j < 3
    · have e1 := hK.out.cell (hcla.out j hlt) (by simp)
      obtain ⟨ba, oa, rfl, e2⟩ := (hva3.out.kp hK.out).at_ j (by rw [hAl.out]; exact hlt)
      obtain ⟨bz, oz, rfl, e3⟩ := (hzw.out.kp hK.out).at_ j (by rw [hzl.out]; exact hlt)
      have hij := hin.out j hlt
      obtain ⟨cc, hcc⟩ : ∃ z, (srL.map fun x => x.2.1).getD j 0 = z := ⟨_, rfl⟩
      rw [hcc] at e1 hij
      replace hcc := Lib.hid hcc
      by_cases h1 : cc = 1
      · subst h1
        rw [hij rfl] at e2
        obtain ⟨z, hzz⟩ : ∃ z, zs.getD j 0 = z := ⟨_, rfl⟩
        rw [hzz] at e2 e3
        clear hij hzz
        go_wp2_with fail
        go_quiet (fail)
        go_wp2
        go_roundw
        case rel => exact ⟨j + 1, by omega, by go_num, hK.out.drewN _⟩
        case measure => simp [intOf]; omega
      · have hc1 : (cc == 1) = false := by simpa using h1
        replace h1 := Lib.hid h1
        clear hij
        go_wp2_with fail
        go_quiet (fail)
        go_wp2
        go_roundw
        case rel => exact ⟨j + 1, by omega, by go_num, hK.out.drewN _⟩
        case measure => simp [intOf]; omega
    · obtain rfl : j = 3 := by omega
      have hvaw := Lib.hid (hva3.out.kp hK.out)
      have hvbw := Lib.hid (hvb.out.kp hK.out)
      have hsame := Lib.hid (same_c wr _ _ A hvaw.out hvbw.out)
      clear hcla hzw hva3 hvb
      go_wp2_with fail
      refine hsame.out.mono ?_
      rintro r w7 ⟨rfl, hk7⟩
      replace hk7 := Lib.hid hk7
      go_wp2_with (go_at_call 19; refine (awake_c _).mono ?_; rintro r w8 ⟨rfl, hk8⟩)
      go_ret
      exact ⟨rfl, ((hk5.out.trans hK.out).trans hk7.out).trans hk8⟩
set_option maxRecDepth 100000 in
set_option maxHeartbeats 2000000 in
theorem twice_rs (v : Value) (zs : List Int) (now : Int) (w : World) (hz : Is w v zs) (hv : areV (kin 6) zs = true) (ht : isT now = true)
    (hr : Hid (∀ W, Kp [] w W → Calls Try.prog 26 #[.string ⟨#[114, 115]⟩, v, .int .i64 now] W fun r w' => r = .returned (.bool true) ∧ Kp [] W w')) :
    Calls Try.prog 5 #[.string ⟨#[114, 115]⟩, v, .int .i64 now] w fun r w' => r = .returned (.bool true) ∧ Kp [] w w' := by
  obtain ⟨hA, hB⟩ : Good 6 zs now := good_s 6 (.inr rfl) hv
  have hin := kept_rs (now := now) hv
  have hzl : zs.length = 3 := (areV_len hv).symm
  have hAl : (stp 6 zs now).length = 3 := (areV_len hA).symm
  have hs1 := Lib.hid (fun W (k : Kp [] w W) => scan_rs zs now W v (hz.kp k) hv ht)
  have hs2 := Lib.hid (fun W u (h : Is W u (stp 6 zs now)) => scan_rs (stp 6 zs now) now W u h hA ht)
  have hR := Lib.hid (fun W u (h : Is W u (stp 6 zs now)) => right_gen _ 6 3 rsL rk_rs W u _ h)
  rw [hA] at hR
  obtain ⟨A, hAA⟩ : ∃ A, stp 6 zs now = A := ⟨_, rfl⟩
  rw [hAA] at hin hAl hs1 hs2 hR hB
  obtain ⟨p0, c0, rfl, hc0, hc02⟩ := hz.val
  rw [hzl] at hz hc0 hs1 hr ⊢
  replace hin := Lib.hid hin
  replace hz := Lib.hid hz
  replace hzl := Lib.hid hzl
  replace hAl := Lib.hid hAl
  replace hAA := Lib.hid hAA
  replace hv := Lib.hid hv
  replace ht := Lib.hid ht
  replace hA := Lib.hid hA
  have hcl := Lib.hid (fun W => rk_rs.cells W)
  replace hB := Lib.hid hB
  go_enter Try.func5, Try.ntmps5
  go_wp2_with fail
  refine (hr.out _ (Kp.refl _ _)).mono ?_
  rintro r w1 ⟨rfl, hk1⟩
  replace hk1 := Lib.hid hk1
  go_wp2_with fail
  refine (hs1.out _ hk1.out).mono ?_
  rintro r w2 ⟨va, rfl, hva, hk2, -⟩
  replace hk2 := Lib.hid (hk1.out.trans hk2)
  replace hva := Lib.hid hva
  go_wp2_with fail
  refine (hs2.out _ _ hva.out).mono ?_
  rintro r w3 ⟨vb, rfl, hvb, hk3, -⟩
  have hva3 := hva.out.kp hk3
  replace hk3 := Lib.hid (hk2.out.trans hk3)
  rw [hB.out] at hvb
  obtain ⟨pa, ca, rfl, -, -⟩ := hva3.val
  obtain ⟨pb, cb, rfl, -, -⟩ := hvb.val
  rw [hAl.out] at hva3 ⊢
  rw [hAl.out] at hvb
  replace hva3 := Lib.hid hva3
  replace hvb := Lib.hid hvb
  clear hs1 hs2 hva
  go_wp2_with fail
  refine (hR.out _ _ hva3.out).mono ?_
  rintro r w4 ⟨rfl, hk4⟩
  replace hva3 := Lib.hid (hva3.out.kp hk4)
  replace hvb := Lib.hid (hvb.out.kp hk4)
  replace hk4 := Lib.hid (hk3.out.trans hk4)
  clear hR
  go_wp2_with fail
  refine (hcl.out _).mono ?_
  rintro r w5 ⟨vl, rfl, hvl, hk5⟩
  replace hva3 := Lib.hid (hva3.out.kp hk5)
  replace hvb := Lib.hid (hvb.out.kp hk5)
  replace hk5 := Lib.hid (hk4.out.trans hk5)
  obtain ⟨gl, cl, rfl, hcl2⟩ := own_slice hvl (by omega)
  have hcla : Hid (∀ j, j < 3 → w5.cell? ⟨gl, j * 5 + 2, none⟩ = some (.int .i64 ((rsL.map fun x => x.2.1).getD j 0))) := fun j hj => by
    rw [World.ownsRow.cellAt hvl (j * 5 + 2) (by omega), classAt hj]
  have hzw := Lib.hid (hz.out.kp hk5.out)
  clear hvl hcl
  go_wp2_with fail
  go_loopw [13] (fun i wr => ∃ (j : Nat), j ≤ 3 ∧ i = .int .i64 j ∧ Hid (Kp [] w5 wr)) (fun i _ => 3 - (intOf i).toNat)
  case atStart => exact ⟨0, Nat.zero_le _, rfl, Kp.refl _ _⟩
  case round =>
    obtain ⟨j, hj, rfl, hK⟩ := hrel
    by_cases hlt : j < 3
    · have e1 := hK.out.cell (hcla.out j hlt) (by simp)
      obtain ⟨ba, oa, rfl, e2⟩ := (hva3.out.kp hK.out).at_ j (by rw [hAl.out]; exact hlt)
      obtain ⟨bz, oz, rfl, e3⟩ := (hzw.out.kp hK.out).at_ j (by rw [hzl.out]; exact hlt)
      have hij := hin.out j hlt
      obtain ⟨cc, hcc⟩ : ∃ z, (rsL.map fun x => x.2.1).getD j 0 = z := ⟨_, rfl⟩
      rw [hcc] at e1 hij
      replace hcc := Lib.hid hcc
      by_cases h1 : cc = 1
      · subst h1
        rw [hij rfl] at e2
        obtain ⟨z, hzz⟩ : ∃ z, zs.getD j 0 = z := ⟨_, rfl⟩
        rw [hzz] at e2 e3
        clear hij hzz
        go_wp2_with fail
        go_quiet (fail)
        go_wp2
        go_roundw
        case rel => exact ⟨j + 1, by omega, by go_num, hK.out.drewN _⟩
        case measure => simp [intOf]; omega
      · have hc1 : (cc == 1) = false := by simpa using h1
        replace h1 := Lib.hid h1
        clear hij
        go_wp2_with fail
        go_quiet (fail)
        go_wp2
        go_roundw
        case rel => exact ⟨j + 1, by omega, by go_num, hK.out.drewN _⟩
        case measure => simp [intOf]; omega
    · obtain rfl : j = 3 := by omega
      have hvaw := Lib.hid (hva3.out.kp hK.out)
      have hvbw := Lib.hid (hvb.out.kp hK.out)
      have hsame := Lib.hid (same_c wr _ _ A hvaw.out hvbw.out)
      clear hcla hzw hva3 hvb
      go_wp2_with fail
      refine hsame.out.mono ?_
      rintro r w7 ⟨rfl, hk7⟩
      replace hk7 := Lib.hid hk7
      go_wp2_with (go_at_call 19; refine (awake_c _).mono ?_; rintro r w8 ⟨rfl, hk8⟩)
      go_ret
      exact ⟨rfl, ((hk5.out.trans hK.out).trans hk7.out).trans hk8⟩
set_option maxRecDepth 100000 in
set_option maxHeartbeats 2000000 in
theorem twice_rtrig (v : Value) (zs : List Int) (now : Int) (w : World) (hz : Is w v zs) (hv : areV (kin 7) zs = true) (ht : isT now = true)
    (hr : Hid (∀ W, Kp [] w W → Calls Try.prog 26 #[.string ⟨#[114, 116, 114, 105, 103]⟩, v, .int .i64 now] W fun r w' => r = .returned (.bool true) ∧ Kp [] W w')) :
    Calls Try.prog 5 #[.string ⟨#[114, 116, 114, 105, 103]⟩, v, .int .i64 now] w fun r w' => r = .returned (.bool true) ∧ Kp [] w w' := by
  obtain ⟨hA, ea, eq, es, eb, ec, hzs, hAe, hBe⟩ := edge_2 7 (.inl rfl) (now := now) hv
  have hin := kept_rtrig (now := now) hv
  have hzl : zs.length = 3 := (areV_len hv).symm
  have hAl : (stp 7 zs now).length = 3 := (areV_len hA).symm
  have hs1 := Lib.hid (fun W (k : Kp [] w W) => scan_rtrig zs now W v (hz.kp k) hv ht)
  have hs2 := Lib.hid (fun W u (h : Is W u (stp 7 zs now)) => scan_rtrig (stp 7 zs now) now W u h hA ht)
  have hR := Lib.hid (fun W u (h : Is W u (stp 7 zs now)) => right_gen _ 7 3 edgeL rk_rtrig W u _ h)
  rw [hA] at hR
  obtain ⟨A, hAA⟩ : ∃ A, stp 7 zs now = A := ⟨_, rfl⟩
  rw [hAA] at hin hAl hs1 hs2 hR hAe hBe
  obtain ⟨p0, c0, rfl, hc0, hc02⟩ := hz.val
  rw [hzl] at hz hc0 hs1 hr ⊢
  replace hin := Lib.hid hin
  replace hz := Lib.hid hz
  replace hzl := Lib.hid hzl
  replace hAl := Lib.hid hAl
  replace hAA := Lib.hid hAA
  replace hv := Lib.hid hv
  replace ht := Lib.hid ht
  replace hA := Lib.hid hA
  have hcl := Lib.hid (fun W => rk_rtrig.cells W)
  replace hAe := Lib.hid hAe
  replace hBe := Lib.hid hBe
  replace hzs := Lib.hid hzs
  go_enter Try.func5, Try.ntmps5
  go_wp2_with fail
  refine (hr.out _ (Kp.refl _ _)).mono ?_
  rintro r w1 ⟨rfl, hk1⟩
  replace hk1 := Lib.hid hk1
  go_wp2_with fail
  refine (hs1.out _ hk1.out).mono ?_
  rintro r w2 ⟨va, rfl, hva, hk2, -⟩
  replace hk2 := Lib.hid (hk1.out.trans hk2)
  replace hva := Lib.hid hva
  go_wp2_with fail
  refine (hs2.out _ _ hva.out).mono ?_
  rintro r w3 ⟨vb, rfl, hvb, hk3, -⟩
  have hva3 := hva.out.kp hk3
  replace hk3 := Lib.hid (hk2.out.trans hk3)
  rw [hBe.out] at hvb
  have hBl : ([ea, 0, es] : List Int).length = 3 := rfl
  obtain ⟨pa, ca, rfl, -, -⟩ := hva3.val
  obtain ⟨pb, cb, rfl, -, -⟩ := hvb.val
  rw [hAl.out] at hva3 ⊢
  rw [hBl] at hvb
  replace hva3 := Lib.hid hva3
  replace hvb := Lib.hid hvb
  clear hs1 hs2 hva
  go_wp2_with fail
  refine (hR.out _ _ hva3.out).mono ?_
  rintro r w4 ⟨rfl, hk4⟩
  replace hva3 := Lib.hid (hva3.out.kp hk4)
  replace hvb := Lib.hid (hvb.out.kp hk4)
  replace hk4 := Lib.hid (hk3.out.trans hk4)
  clear hR
  go_wp2_with fail
  refine (hcl.out _).mono ?_
  rintro r w5 ⟨vl, rfl, hvl, hk5⟩
  replace hva3 := Lib.hid (hva3.out.kp hk5)
  replace hvb := Lib.hid (hvb.out.kp hk5)
  replace hk5 := Lib.hid (hk4.out.trans hk5)
  obtain ⟨gl, cl, rfl, hcl2⟩ := own_slice hvl (by omega)
  have hcla : Hid (∀ j, j < 3 → w5.cell? ⟨gl, j * 5 + 2, none⟩ = some (.int .i64 ((edgeL.map fun x => x.2.1).getD j 0))) := fun j hj => by
    rw [World.ownsRow.cellAt hvl (j * 5 + 2) (by omega), classAt hj]
  have hzw := Lib.hid (hz.out.kp hk5.out)
  clear hvl hcl
  go_wp2_with fail
  go_loopw [13] (fun i wr => ∃ (j : Nat), j ≤ 3 ∧ i = .int .i64 j ∧ Hid (Kp [] w5 wr)) (fun i _ => 3 - (intOf i).toNat)
  case atStart => exact ⟨0, Nat.zero_le _, rfl, Kp.refl _ _⟩
  case round =>
    obtain ⟨j, hj, rfl, hK⟩ := hrel
    by_cases hlt : j < 3
    · have e1 := hK.out.cell (hcla.out j hlt) (by simp)
      obtain ⟨ba, oa, rfl, e2⟩ := (hva3.out.kp hK.out).at_ j (by rw [hAl.out]; exact hlt)
      obtain ⟨bz, oz, rfl, e3⟩ := (hzw.out.kp hK.out).at_ j (by rw [hzl.out]; exact hlt)
      have hij := hin.out j hlt
      obtain ⟨cc, hcc⟩ : ∃ z, (edgeL.map fun x => x.2.1).getD j 0 = z := ⟨_, rfl⟩
      rw [hcc] at e1 hij
      replace hcc := Lib.hid hcc
      by_cases h1 : cc = 1
      · subst h1
        rw [hij rfl] at e2
        obtain ⟨z, hzz⟩ : ∃ z, zs.getD j 0 = z := ⟨_, rfl⟩
        rw [hzz] at e2 e3
        clear hij hzz
        go_wp2_with fail
        go_quiet (fail)
        go_wp2
        go_roundw
        case rel => exact ⟨j + 1, by omega, by go_num, hK.out.drewN _⟩
        case measure => simp [intOf]; omega
      · have hc1 : (cc == 1) = false := by simpa using h1
        replace h1 := Lib.hid h1
        clear hij
        go_wp2_with fail
        go_quiet (fail)
        go_wp2
        go_roundw
        case rel => exact ⟨j + 1, by omega, by go_num, hK.out.drewN _⟩
        case measure => simp [intOf]; omega
    · obtain rfl : j = 3 := by omega
      have hvaw := Lib.hid (hva3.out.kp hK.out)
      have hvbw := Lib.hid (hvb.out.kp hK.out)
      rw [hAe.out] at hvaw
      obtain ⟨ba, oa, ca', hpa, -, -, y2⟩ := hvaw.out.tri
      obtain ⟨bb, ob, cb', hpb, -, u1, u2⟩ := hvbw.out.tri
      simp at hpa hpb
      obtain ⟨rfl, rfl⟩ := hpa
      obtain ⟨rfl, rfl⟩ := hpb
      have haw2 := Lib.hid (awake_c wr.drew)
      have hall : Hid (∀ W', Kp [] wr W' → W'.cell? ⟨ba, oa + 2, none⟩ = some (.int .i64 es) ∧ W'.cell? ⟨bb, ob + 1, none⟩ = some (.int .i64 0) ∧ W'.cell? ⟨bb, ob + 2, none⟩ = some (.int .i64 es)) := fun W' k => ⟨k.cell y2 (by simp), k.cell u1 (by simp), k.cell u2 (by simp)⟩
      clear hcla hzw hva3 hvb y2 u1 u2
      go_wp2_with fail
      go_region_held3 (fun W' => W'.cell? ⟨ba, oa + 2, none⟩ = some (.int .i64 es) ∧ W'.cell? ⟨bb, ob + 1, none⟩ = some (.int .i64 0) ∧ W'.cell? ⟨bb, ob + 2, none⟩ = some (.int .i64 es))
        (first | exact hall.out _ hk9.out | exact hall.out _ (Kp.refl _ _) | exact hall.out _ (Kp.refl _ _).drew)
        (first | (go_at_call 19; refine haw2.out.mono ?_; rintro r w9 ⟨rfl, hk9⟩; replace hk9 := Lib.hid ((Kp.refl [] wr).drew.trans hk9)))
      all_goals
        go_wp2_with fail
        go_ret
        exact ⟨rfl, (hk5.out.trans hK.out).trans hk9.out⟩
set_option maxRecDepth 100000 in
set_option maxHeartbeats 2000000 in
theorem twice_ftrig (v : Value) (zs : List Int) (now : Int) (w : World) (hz : Is w v zs) (hv : areV (kin 8) zs = true) (ht : isT now = true)
    (hr : Hid (∀ W, Kp [] w W → Calls Try.prog 26 #[.string ⟨#[102, 116, 114, 105, 103]⟩, v, .int .i64 now] W fun r w' => r = .returned (.bool true) ∧ Kp [] W w')) :
    Calls Try.prog 5 #[.string ⟨#[102, 116, 114, 105, 103]⟩, v, .int .i64 now] w fun r w' => r = .returned (.bool true) ∧ Kp [] w w' := by
  obtain ⟨hA, ea, eq, es, eb, ec, hzs, hAe, hBe⟩ := edge_2 8 (.inr rfl) (now := now) hv
  have hin := kept_ftrig (now := now) hv
  have hzl : zs.length = 3 := (areV_len hv).symm
  have hAl : (stp 8 zs now).length = 3 := (areV_len hA).symm
  have hs1 := Lib.hid (fun W (k : Kp [] w W) => scan_ftrig zs now W v (hz.kp k) hv ht)
  have hs2 := Lib.hid (fun W u (h : Is W u (stp 8 zs now)) => scan_ftrig (stp 8 zs now) now W u h hA ht)
  have hR := Lib.hid (fun W u (h : Is W u (stp 8 zs now)) => right_gen _ 8 3 edgeL rk_ftrig W u _ h)
  rw [hA] at hR
  obtain ⟨A, hAA⟩ : ∃ A, stp 8 zs now = A := ⟨_, rfl⟩
  rw [hAA] at hin hAl hs1 hs2 hR hAe hBe
  obtain ⟨p0, c0, rfl, hc0, hc02⟩ := hz.val
  rw [hzl] at hz hc0 hs1 hr ⊢
  replace hin := Lib.hid hin
  replace hz := Lib.hid hz
  replace hzl := Lib.hid hzl
  replace hAl := Lib.hid hAl
  replace hAA := Lib.hid hAA
  replace hv := Lib.hid hv
  replace ht := Lib.hid ht
  replace hA := Lib.hid hA
  have hcl := Lib.hid (fun W => rk_ftrig.cells W)
  replace hAe := Lib.hid hAe
  replace hBe := Lib.hid hBe
  replace hzs := Lib.hid hzs
  go_enter Try.func5, Try.ntmps5
  go_wp2_with fail
  refine (hr.out _ (Kp.refl _ _)).mono ?_
  rintro r w1 ⟨rfl, hk1⟩
  replace hk1 := Lib.hid hk1
  go_wp2_with fail
  refine (hs1.out _ hk1.out).mono ?_
  rintro r w2 ⟨va, rfl, hva, hk2, -⟩
  replace hk2 := Lib.hid (hk1.out.trans hk2)
  replace hva := Lib.hid hva
  go_wp2_with fail
  refine (hs2.out _ _ hva.out).mono ?_
  rintro r w3 ⟨vb, rfl, hvb, hk3, -⟩
  have hva3 := hva.out.kp hk3
  replace hk3 := Lib.hid (hk2.out.trans hk3)
  rw [hBe.out] at hvb
  have hBl : ([ea, 0, es] : List Int).length = 3 := rfl
  obtain ⟨pa, ca, rfl, -, -⟩ := hva3.val
  obtain ⟨pb, cb, rfl, -, -⟩ := hvb.val
  rw [hAl.out] at hva3 ⊢
  rw [hBl] at hvb
  replace hva3 := Lib.hid hva3
  replace hvb := Lib.hid hvb
  clear hs1 hs2 hva
  go_wp2_with fail
  refine (hR.out _ _ hva3.out).mono ?_
  rintro r w4 ⟨rfl, hk4⟩
  replace hva3 := Lib.hid (hva3.out.kp hk4)
  replace hvb := Lib.hid (hvb.out.kp hk4)
  replace hk4 := Lib.hid (hk3.out.trans hk4)
  clear hR
  go_wp2_with fail
  refine (hcl.out _).mono ?_
  rintro r w5 ⟨vl, rfl, hvl, hk5⟩
  replace hva3 := Lib.hid (hva3.out.kp hk5)
  replace hvb := Lib.hid (hvb.out.kp hk5)
  replace hk5 := Lib.hid (hk4.out.trans hk5)
  obtain ⟨gl, cl, rfl, hcl2⟩ := own_slice hvl (by omega)
  have hcla : Hid (∀ j, j < 3 → w5.cell? ⟨gl, j * 5 + 2, none⟩ = some (.int .i64 ((edgeL.map fun x => x.2.1).getD j 0))) := fun j hj => by
    rw [World.ownsRow.cellAt hvl (j * 5 + 2) (by omega), classAt hj]
  have hzw := Lib.hid (hz.out.kp hk5.out)
  clear hvl hcl
  go_wp2_with fail
  go_loopw [13] (fun i wr => ∃ (j : Nat), j ≤ 3 ∧ i = .int .i64 j ∧ Hid (Kp [] w5 wr)) (fun i _ => 3 - (intOf i).toNat)
  case atStart => exact ⟨0, Nat.zero_le _, rfl, Kp.refl _ _⟩
  case round =>
    obtain ⟨j, hj, rfl, hK⟩ := hrel
    by_cases hlt : j < 3
    · have e1 := hK.out.cell (hcla.out j hlt) (by simp)
      obtain ⟨ba, oa, rfl, e2⟩ := (hva3.out.kp hK.out).at_ j (by rw [hAl.out]; exact hlt)
      obtain ⟨bz, oz, rfl, e3⟩ := (hzw.out.kp hK.out).at_ j (by rw [hzl.out]; exact hlt)
      have hij := hin.out j hlt
      obtain ⟨cc, hcc⟩ : ∃ z, (edgeL.map fun x => x.2.1).getD j 0 = z := ⟨_, rfl⟩
      rw [hcc] at e1 hij
      replace hcc := Lib.hid hcc
      by_cases h1 : cc = 1
      · subst h1
        rw [hij rfl] at e2
        obtain ⟨z, hzz⟩ : ∃ z, zs.getD j 0 = z := ⟨_, rfl⟩
        rw [hzz] at e2 e3
        clear hij hzz
        go_wp2_with fail
        go_quiet (fail)
        go_wp2
        go_roundw
        case rel => exact ⟨j + 1, by omega, by go_num, hK.out.drewN _⟩
        case measure => simp [intOf]; omega
      · have hc1 : (cc == 1) = false := by simpa using h1
        replace h1 := Lib.hid h1
        clear hij
        go_wp2_with fail
        go_quiet (fail)
        go_wp2
        go_roundw
        case rel => exact ⟨j + 1, by omega, by go_num, hK.out.drewN _⟩
        case measure => simp [intOf]; omega
    · obtain rfl : j = 3 := by omega
      have hvaw := Lib.hid (hva3.out.kp hK.out)
      have hvbw := Lib.hid (hvb.out.kp hK.out)
      rw [hAe.out] at hvaw
      obtain ⟨ba, oa, ca', hpa, -, -, y2⟩ := hvaw.out.tri
      obtain ⟨bb, ob, cb', hpb, -, u1, u2⟩ := hvbw.out.tri
      simp at hpa hpb
      obtain ⟨rfl, rfl⟩ := hpa
      obtain ⟨rfl, rfl⟩ := hpb
      have haw2 := Lib.hid (awake_c wr.drew)
      have hall : Hid (∀ W', Kp [] wr W' → W'.cell? ⟨ba, oa + 2, none⟩ = some (.int .i64 es) ∧ W'.cell? ⟨bb, ob + 1, none⟩ = some (.int .i64 0) ∧ W'.cell? ⟨bb, ob + 2, none⟩ = some (.int .i64 es)) := fun W' k => ⟨k.cell y2 (by simp), k.cell u1 (by simp), k.cell u2 (by simp)⟩
      clear hcla hzw hva3 hvb y2 u1 u2
      go_wp2_with fail
      go_region_held3 (fun W' => W'.cell? ⟨ba, oa + 2, none⟩ = some (.int .i64 es) ∧ W'.cell? ⟨bb, ob + 1, none⟩ = some (.int .i64 0) ∧ W'.cell? ⟨bb, ob + 2, none⟩ = some (.int .i64 es))
        (first | exact hall.out _ hk9.out | exact hall.out _ (Kp.refl _ _) | exact hall.out _ (Kp.refl _ _).drew)
        (first | (go_at_call 19; refine haw2.out.mono ?_; rintro r w9 ⟨rfl, hk9⟩; replace hk9 := Lib.hid ((Kp.refl [] wr).drew.trans hk9)))
      all_goals
        go_wp2_with fail
        go_ret
        exact ⟨rfl, (hk5.out.trans hK.out).trans hk9.out⟩
theorem twice_c (k : ByteArray) (v : Value) (zs : List Int) (now : Int) (w : World) (hz : Is w v zs) : Calls Try.prog 5 #[.string k, v, .int .i64 now] w fun r w' => r = .returned (.bool true) ∧ Kp [] w w' := by
  by_cases hk : ∀ i, i < 9 → k ≠ nmb i
  · exact twice_off k v now w (fun W kk => lright_c0 k v now W (fun W2 _ => (right_no k W2 v hk).mono fun r w' h => ⟨h.1, h.2 ▸ Kp.refl _ _⟩))
  · have hk' : ∃ i, i < 9 ∧ k = nmb i := by
      apply Classical.byContradiction
      intro hn
      exact hk fun i hi e => hn ⟨i, hi, e⟩
    obtain ⟨i, hi, rfl⟩ := hk'
    rcases (show i = 0 ∨ i = 1 ∨ i = 2 ∨ i = 3 ∨ i = 4 ∨ i = 5 ∨ i = 6 ∨ i = 7 ∨ i = 8 by omega) with rfl | rfl | rfl | rfl | rfl | rfl | rfl | rfl | rfl
    · have hR := fun W (kk : Kp [] w W) => right_gen _ 0 6 timerL rk_ton W v zs (hz.kp kk)
      cases hv : areV (kin 0) zs
      · rw [hv] at hR
        exact twice_off _ v now w (fun W kk => lright_c0 _ v now W (fun W2 k2 => hR W2 (kk.trans k2)))
      · rw [hv] at hR
        cases ht : isT now
        · exact twice_off _ v now w (fun W kk => by have h := lright_c1 _ v now W (fun W2 k2 => hR W2 (kk.trans k2)); rw [ht] at h; exact h)
        · exact twice_ton v zs now w hz hv ht (fun W kk => by have h := lright_c1 _ v now W (fun W2 k2 => hR W2 (kk.trans k2)); rw [ht] at h; exact h)
    · have hR := fun W (kk : Kp [] w W) => right_gen _ 1 6 timerL rk_tof W v zs (hz.kp kk)
      cases hv : areV (kin 1) zs
      · rw [hv] at hR
        exact twice_off _ v now w (fun W kk => lright_c0 _ v now W (fun W2 k2 => hR W2 (kk.trans k2)))
      · rw [hv] at hR
        cases ht : isT now
        · exact twice_off _ v now w (fun W kk => by have h := lright_c1 _ v now W (fun W2 k2 => hR W2 (kk.trans k2)); rw [ht] at h; exact h)
        · exact twice_tof v zs now w hz hv ht (fun W kk => by have h := lright_c1 _ v now W (fun W2 k2 => hR W2 (kk.trans k2)); rw [ht] at h; exact h)
    · have hR := fun W (kk : Kp [] w W) => right_gen _ 2 6 timerL rk_tp W v zs (hz.kp kk)
      cases hv : areV (kin 2) zs
      · rw [hv] at hR
        exact twice_off _ v now w (fun W kk => lright_c0 _ v now W (fun W2 k2 => hR W2 (kk.trans k2)))
      · rw [hv] at hR
        cases ht : isT now
        · exact twice_off _ v now w (fun W kk => by have h := lright_c1 _ v now W (fun W2 k2 => hR W2 (kk.trans k2)); rw [ht] at h; exact h)
        · exact twice_tp v zs now w hz hv ht (fun W kk => by have h := lright_c1 _ v now W (fun W2 k2 => hR W2 (kk.trans k2)); rw [ht] at h; exact h)
    · have hR := fun W (kk : Kp [] w W) => right_gen _ 3 6 ctuL rk_ctu W v zs (hz.kp kk)
      cases hv : areV (kin 3) zs
      · rw [hv] at hR
        exact twice_off _ v now w (fun W kk => lright_c0 _ v now W (fun W2 k2 => hR W2 (kk.trans k2)))
      · rw [hv] at hR
        cases ht : isT now
        · exact twice_off _ v now w (fun W kk => by have h := lright_c1 _ v now W (fun W2 k2 => hR W2 (kk.trans k2)); rw [ht] at h; exact h)
        · exact twice_ctu v zs now w hz hv ht (fun W kk => by have h := lright_c1 _ v now W (fun W2 k2 => hR W2 (kk.trans k2)); rw [ht] at h; exact h)
    · have hR := fun W (kk : Kp [] w W) => right_gen _ 4 6 ctdL rk_ctd W v zs (hz.kp kk)
      cases hv : areV (kin 4) zs
      · rw [hv] at hR
        exact twice_off _ v now w (fun W kk => lright_c0 _ v now W (fun W2 k2 => hR W2 (kk.trans k2)))
      · rw [hv] at hR
        cases ht : isT now
        · exact twice_off _ v now w (fun W kk => by have h := lright_c1 _ v now W (fun W2 k2 => hR W2 (kk.trans k2)); rw [ht] at h; exact h)
        · exact twice_ctd v zs now w hz hv ht (fun W kk => by have h := lright_c1 _ v now W (fun W2 k2 => hR W2 (kk.trans k2)); rw [ht] at h; exact h)
    · have hR := fun W (kk : Kp [] w W) => right_gen _ 5 3 srL rk_sr W v zs (hz.kp kk)
      cases hv : areV (kin 5) zs
      · rw [hv] at hR
        exact twice_off _ v now w (fun W kk => lright_c0 _ v now W (fun W2 k2 => hR W2 (kk.trans k2)))
      · rw [hv] at hR
        cases ht : isT now
        · exact twice_off _ v now w (fun W kk => by have h := lright_c1 _ v now W (fun W2 k2 => hR W2 (kk.trans k2)); rw [ht] at h; exact h)
        · exact twice_sr v zs now w hz hv ht (fun W kk => by have h := lright_c1 _ v now W (fun W2 k2 => hR W2 (kk.trans k2)); rw [ht] at h; exact h)
    · have hR := fun W (kk : Kp [] w W) => right_gen _ 6 3 rsL rk_rs W v zs (hz.kp kk)
      cases hv : areV (kin 6) zs
      · rw [hv] at hR
        exact twice_off _ v now w (fun W kk => lright_c0 _ v now W (fun W2 k2 => hR W2 (kk.trans k2)))
      · rw [hv] at hR
        cases ht : isT now
        · exact twice_off _ v now w (fun W kk => by have h := lright_c1 _ v now W (fun W2 k2 => hR W2 (kk.trans k2)); rw [ht] at h; exact h)
        · exact twice_rs v zs now w hz hv ht (fun W kk => by have h := lright_c1 _ v now W (fun W2 k2 => hR W2 (kk.trans k2)); rw [ht] at h; exact h)
    · have hR := fun W (kk : Kp [] w W) => right_gen _ 7 3 edgeL rk_rtrig W v zs (hz.kp kk)
      cases hv : areV (kin 7) zs
      · rw [hv] at hR
        exact twice_off _ v now w (fun W kk => lright_c0 _ v now W (fun W2 k2 => hR W2 (kk.trans k2)))
      · rw [hv] at hR
        cases ht : isT now
        · exact twice_off _ v now w (fun W kk => by have h := lright_c1 _ v now W (fun W2 k2 => hR W2 (kk.trans k2)); rw [ht] at h; exact h)
        · exact twice_rtrig v zs now w hz hv ht (fun W kk => by have h := lright_c1 _ v now W (fun W2 k2 => hR W2 (kk.trans k2)); rw [ht] at h; exact h)
    · have hR := fun W (kk : Kp [] w W) => right_gen _ 8 3 edgeL rk_ftrig W v zs (hz.kp kk)
      cases hv : areV (kin 8) zs
      · rw [hv] at hR
        exact twice_off _ v now w (fun W kk => lright_c0 _ v now W (fun W2 k2 => hR W2 (kk.trans k2)))
      · rw [hv] at hR
        cases ht : isT now
        · exact twice_off _ v now w (fun W kk => by have h := lright_c1 _ v now W (fun W2 k2 => hR W2 (kk.trans k2)); rw [ht] at h; exact h)
        · exact twice_ftrig v zs now w hz hv ht (fun W kk => by have h := lright_c1 _ v now W (fun W2 k2 => hR W2 (kk.trans k2)); rw [ht] at h; exact h)
end Go.Proofs.Ytldfddjacmgiaaa
