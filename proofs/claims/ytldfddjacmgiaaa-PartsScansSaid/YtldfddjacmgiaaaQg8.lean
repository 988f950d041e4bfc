import Derived.Test.YtldfddjacmgiaaaQg7
set_option linter.unusedSimpArgs false
set_option linter.unusedVariables false
namespace Go.Proofs.Ytldfddjacmgiaaa
open Go.RowKit

set_option maxRecDepth 100000 in
set_option maxHeartbeats 2000000 in
theorem slaw_no (k : ByteArray) (v : Value) (now : Int) (w : World) (zs : List Int) (hz : Is w v zs) (hk : ∀ i, i < 9 → k ≠ nmb i) : Calls Try.prog 3 #[.string k, v, .int .i64 now] w fun r w' => r = .returned (.bool true) ∧ Kp [] w w' := by
  replace hk := Lib.hid hk
  have hb := Lib.hid (fun W => isTimed_c k W)
  have hb2 := Lib.hid (fun W => risTimed_c k W)
  obtain ⟨tb, htb⟩ : ∃ tb, tmB k = tb := ⟨_, rfl⟩
  rw [htb] at hb hb2
  clear htb
  go_enter Try.func3, Try.ntmps3
  go_wp2_with fail
  refine (lcut_c _ _ _ hz).mono ?_
  rintro r w1 ⟨v1, rfl, hz1, rfl⟩
  obtain ⟨L, hL⟩ : ∃ L, zs.take 20 = L := ⟨_, rfl⟩
  rw [hL] at hz1
  clear hL
  obtain ⟨p, c, rfl, hc1, hc2⟩ := hz1.val
  obtain ⟨N, hN⟩ : ∃ N, L.length = N := ⟨_, rfl⟩
  rw [hN] at hz1 hc1 ⊢
  replace hN := Lib.hid hN
  replace hz1 := Lib.hid hz1
  go_wp2_with fail
  refine (scan_no k _ now _ (Lib.hid fun W _ => partOf_no k hk.out W _)).mono ?_
  rintro r w2 ⟨rfl, hk2⟩
  replace hk2 := Lib.hid hk2
  go_wp2_with fail
  refine (wakes_no k _ _ (Lib.hid fun W _ => partOf_no k hk.out W _)).mono ?_
  rintro r w3 ⟨rfl, hk3⟩
  have hK3 := Lib.hid (hk2.out.trans hk3)
  clear hk3
  go_wp2_with fail
  refine (names_c _).mono ?_
  rintro r w4 ⟨n1, rfl, hn1, hk4⟩
  replace hn1 := Lib.hid hn1
  have hK4 := Lib.hid (hK3.out.trans hk4)
  clear hk4
  go_wp2_with fail
  refine (rnames_c _).mono ?_
  rintro r w5 ⟨n2, rfl, hn2, hk5⟩
  replace hn2 := Lib.hid hn2
  have hn1' := Lib.hid (ownsRow_kp hn1.out hk5)
  have hK5 := Lib.hid (hK4.out.trans hk5)
  clear hk5
  go_wp2_with fail
  refine (samen_c _ _ _ _ _ hn1'.out hn2.out).mono ?_
  rintro r w6 ⟨rfl, hk6⟩
  have hK6 := Lib.hid (hK5.out.trans hk6)
  clear hk6
  go_wp2_with fail
  refine (hb.out _).mono ?_
  rintro r w7 ⟨rfl, rfl⟩
  go_wp2_with fail
  refine (hb2.out _).mono ?_
  rintro r w8 ⟨rfl, rfl⟩
  go_wp2_with fail
  refine (rstd_no k _ hk.out).mono ?_
  rintro r w9 ⟨rfl, rfl⟩
  go_wp2_with fail
  refine (awake_c _).mono ?_
  rintro r wa ⟨rfl, hka⟩
  go_wp2
  go_ret
  exact ⟨rfl, (hK6.out).trans hka⟩
set_option maxRecDepth 100000 in
set_option maxHeartbeats 2000000 in
theorem slaw_bad (i : Nat) (hi : i < 9) (v : Value) (now : Int) (w : World) (zs : List Int) (hz : Is w v zs) (hv : areV (kin i) (zs.take 20) = false) : Calls Try.prog 3 #[.string (nmb i), v, .int .i64 now] w fun r w' => r = .returned (.bool true) ∧ Kp [] w w' := by
  obtain ⟨k, hkn⟩ : ∃ k, nmb i = k := ⟨_, rfl⟩
  have hst := Lib.hid (fun W => rstd_ok i hi W)
  rw [hkn] at hst ⊢
  replace hkn := Lib.hid hkn
  replace hv := Lib.hid hv
  have hb := Lib.hid (fun W => isTimed_c k W)
  have hb2 := Lib.hid (fun W => risTimed_c k W)
  obtain ⟨tb, htb⟩ : ∃ tb, tmB k = tb := ⟨_, rfl⟩
  rw [htb] at hb hb2
  clear htb
  go_enter Try.func3, Try.ntmps3
  go_wp2_with fail
  refine (lcut_c _ _ _ hz).mono ?_
  rintro r w1 ⟨v1, rfl, hz1, rfl⟩
  obtain ⟨L, hL⟩ : ∃ L, zs.take 20 = L := ⟨_, rfl⟩
  rw [hL] at hz1 hv
  clear hL
  obtain ⟨p, c, rfl, hc1, hc2⟩ := hz1.val
  obtain ⟨N, hN⟩ : ∃ N, L.length = N := ⟨_, rfl⟩
  rw [hN] at hz1 hc1 ⊢
  replace hN := Lib.hid hN
  replace hz1 := Lib.hid hz1
  have hrt := Lib.hid (fun W hW => right_c i hi W _ L (hz1.out.kp hW))
  rw [hkn.out, hv.out] at hrt
  go_wp2_with fail
  refine (scan_bad k _ now _ (Lib.hid fun W hW => by have h9 := pbad_c i hi L W _ (hz1.out.kp hW) hv.out; rw [hkn.out] at h9; exact h9)).mono ?_
  rintro r w2 ⟨rfl, hk2⟩
  replace hk2 := Lib.hid hk2
  go_wp2_with fail
  refine (wakes_bad k _ _ (Lib.hid fun W hW => by have h9 := pbad_c i hi L W _ (hz1.out.kp (hk2.out.trans hW)) hv.out; rw [hkn.out] at h9; exact h9)).mono ?_
  rintro r w3 ⟨rfl, hk3⟩
  have hK3 := Lib.hid (hk2.out.trans hk3)
  clear hk3
  go_wp2_with fail
  refine (names_c _).mono ?_
  rintro r w4 ⟨n1, rfl, hn1, hk4⟩
  replace hn1 := Lib.hid hn1
  have hK4 := Lib.hid (hK3.out.trans hk4)
  clear hk4
  go_wp2_with fail
  refine (rnames_c _).mono ?_
  rintro r w5 ⟨n2, rfl, hn2, hk5⟩
  replace hn2 := Lib.hid hn2
  have hn1' := Lib.hid (ownsRow_kp hn1.out hk5)
  have hK5 := Lib.hid (hK4.out.trans hk5)
  clear hk5
  go_wp2_with fail
  refine (samen_c _ _ _ _ _ hn1'.out hn2.out).mono ?_
  rintro r w6 ⟨rfl, hk6⟩
  have hK6 := Lib.hid (hK5.out.trans hk6)
  clear hk6
  go_wp2_with fail
  refine (hb.out _).mono ?_
  rintro r w7 ⟨rfl, rfl⟩
  go_wp2_with fail
  refine (hb2.out _).mono ?_
  rintro r w8 ⟨rfl, rfl⟩
  go_wp2_with fail
  refine (hst.out _).mono ?_
  rintro r w9 ⟨sv, rfl, hk9⟩
  have hK9 := Lib.hid (hK6.out.trans hk9)
  clear hk9
  go_wp2_with fail
  refine (hrt.out _ hK9.out).mono ?_
  rintro r w10 ⟨rfl, hk10⟩
  have hK10 := Lib.hid (hK9.out.trans hk10)
  clear hk10
  go_wp2_with fail
  refine (awake_c _).mono ?_
  rintro r wa ⟨rfl, hka⟩
  go_wp2
  go_ret
  exact ⟨rfl, (hK10.out).trans hka⟩
set_option maxRecDepth 100000 in
set_option maxHeartbeats 4000000 in
theorem slaw_early (i : Nat) (hi : i < 9) (v : Value) (now : Int) (w : World) (zs : List Int) (hz : Is w v zs) (hv : areV (kin i) (zs.take 20) = true) (hn : now < 0) : Calls Try.prog 3 #[.string (nmb i), v, .int .i64 now] w fun r w' => r = .returned (.bool true) ∧ Kp [] w w' := by
  have hnt : Hid (isT now = false) := by show _ = _; simp [isT]; omega
  have h1 : decide (now < 0) = true := by simpa using hn
  clear hn
  obtain ⟨k, hkn⟩ : ∃ k, nmb i = k := ⟨_, rfl⟩
  have hst := Lib.hid (fun W => rstd_ok i hi W)
  rw [hkn] at hst ⊢
  replace hkn := Lib.hid hkn
  obtain ⟨wn, hwn⟩ : ∃ x, wk i (zs.take 20) = x := ⟨_, rfl⟩
  replace hv := Lib.hid hv
  replace hwn := Lib.hid hwn
  have hb := Lib.hid (fun W => isTimed_c k W)
  have hb2 := Lib.hid (fun W => risTimed_c k W)
  obtain ⟨tb, htb⟩ : ∃ tb, tmB k = tb := ⟨_, rfl⟩
  rw [htb] at hb hb2
  clear htb
  go_enter Try.func3, Try.ntmps3
  go_wp2_with fail
  refine (lcut_c _ _ _ hz).mono ?_
  rintro r w1 ⟨v1, rfl, hz1, rfl⟩
  obtain ⟨L, hL⟩ : ∃ L, zs.take 20 = L := ⟨_, rfl⟩
  rw [hL] at hz1 hv hwn
  clear hL
  obtain ⟨p, c, rfl, hc1, hc2⟩ := hz1.val
  obtain ⟨N, hN⟩ : ∃ N, L.length = N := ⟨_, rfl⟩
  rw [hN] at hz1 hc1 ⊢
  replace hN := Lib.hid hN
  replace hz1 := Lib.hid hz1
  have hrt := Lib.hid (fun W hW => right_c i hi W _ L (hz1.out.kp hW))
  rw [hkn.out, hv.out] at hrt
  have hwc := Lib.hid (fun W hW => rwakes_c i hi L W _ (hz1.out.kp hW) hv.out)
  rw [hkn.out, hwn.out] at hwc
  go_wp2_with fail
  refine (by have h9 := late_c i hi L now w1 _ hz1.out hv.out hnt.out; rw [hkn.out] at h9; exact h9 : Calls Try.prog 11 #[.string k, .slice p N c, .int .i64 now] w1 (ScanErr 2 w1)).mono ?_
  rintro r w2 ⟨rfl, hk2⟩
  replace hk2 := Lib.hid hk2
  go_wp2_with fail
  refine (by have h9 := wakes_c i hi L w2 _ (hz1.out.kp hk2.out) hv.out; rw [hkn.out, hwn.out] at h9; exact h9 : Calls Try.prog 12 #[.string k, .slice p N c] w2 (WakeOk wn w2)).mono ?_
  rintro r w3 ⟨rfl, hk3⟩
  have hK3 := Lib.hid (hk2.out.trans hk3)
  clear hk3
  go_wp2_with fail
  refine (names_c _).mono ?_
  rintro r w4 ⟨n1, rfl, hn1, hk4⟩
  replace hn1 := Lib.hid hn1
  have hK4 := Lib.hid (hK3.out.trans hk4)
  clear hk4
  go_wp2_with fail
  refine (rnames_c _).mono ?_
  rintro r w5 ⟨n2, rfl, hn2, hk5⟩
  replace hn2 := Lib.hid hn2
  have hn1' := Lib.hid (ownsRow_kp hn1.out hk5)
  have hK5 := Lib.hid (hK4.out.trans hk5)
  clear hk5
  go_wp2_with fail
  refine (samen_c _ _ _ _ _ hn1'.out hn2.out).mono ?_
  rintro r w6 ⟨rfl, hk6⟩
  have hK6 := Lib.hid (hK5.out.trans hk6)
  clear hk6
  go_wp2_with fail
  refine (hb.out _).mono ?_
  rintro r w7 ⟨rfl, rfl⟩
  go_wp2_with fail
  refine (hb2.out _).mono ?_
  rintro r w8 ⟨rfl, rfl⟩
  go_wp2_with fail
  refine (hst.out _).mono ?_
  rintro r w9 ⟨sv, rfl, hk9⟩
  have hK9 := Lib.hid (hK6.out.trans hk9)
  clear hk9
  go_wp2_with fail
  refine (hrt.out _ hK9.out).mono ?_
  rintro r w10 ⟨rfl, hk10⟩
  have hK10 := Lib.hid (hK9.out.trans hk10)
  clear hk10
  go_wp2_with fail
  refine (hwc.out _ hK10.out).mono ?_
  rintro r w11 ⟨rfl, hk11⟩
  have hK11 := Lib.hid (hK10.out.trans hk11)
  clear hk11
  go_wp2_with fail
  refine (awake_c _).mono ?_
  rintro r wa ⟨rfl, hka⟩
  go_wp2
  go_ret
  exact ⟨rfl, (hK11.out).trans hka⟩
set_option maxRecDepth 100000 in
set_option maxHeartbeats 4000000 in
theorem slaw_late (i : Nat) (hi : i < 9) (v : Value) (now : Int) (w : World) (zs : List Int) (hz : Is w v zs) (hv : areV (kin i) (zs.take 20) = true) (hn : 1000000000 < now) : Calls Try.prog 3 #[.string (nmb i), v, .int .i64 now] w fun r w' => r = .returned (.bool true) ∧ Kp [] w w' := by
  have hnt : Hid (isT now = false) := by show _ = _; simp [isT]; omega
  have h1 : decide (now < 0) = false := by simp; omega
  have h2 : decide (now > 1000000000) = true := by simpa using hn
  have h3 : decide (1000000000 < now) = true := by simpa using hn
  clear hn
  obtain ⟨k, hkn⟩ : ∃ k, nmb i = k := ⟨_, rfl⟩
  have hst := Lib.hid (fun W => rstd_ok i hi W)
  rw [hkn] at hst ⊢
  replace hkn := Lib.hid hkn
  obtain ⟨wn, hwn⟩ : ∃ x, wk i (zs.take 20) = x := ⟨_, rfl⟩
  replace hv := Lib.hid hv
  replace hwn := Lib.hid hwn
  have hb := Lib.hid (fun W => isTimed_c k W)
  have hb2 := Lib.hid (fun W => risTimed_c k W)
  obtain ⟨tb, htb⟩ : ∃ tb, tmB k = tb := ⟨_, rfl⟩
  rw [htb] at hb hb2
  clear htb
  go_enter Try.func3, Try.ntmps3
  go_wp2_with fail
  refine (lcut_c _ _ _ hz).mono ?_
  rintro r w1 ⟨v1, rfl, hz1, rfl⟩
  obtain ⟨L, hL⟩ : ∃ L, zs.take 20 = L := ⟨_, rfl⟩
  rw [hL] at hz1 hv hwn
  clear hL
  obtain ⟨p, c, rfl, hc1, hc2⟩ := hz1.val
  obtain ⟨N, hN⟩ : ∃ N, L.length = N := ⟨_, rfl⟩
  rw [hN] at hz1 hc1 ⊢
  replace hN := Lib.hid hN
  replace hz1 := Lib.hid hz1
  have hrt := Lib.hid (fun W hW => right_c i hi W _ L (hz1.out.kp hW))
  rw [hkn.out, hv.out] at hrt
  have hwc := Lib.hid (fun W hW => rwakes_c i hi L W _ (hz1.out.kp hW) hv.out)
  rw [hkn.out, hwn.out] at hwc
  go_wp2_with fail
  refine (by have h9 := late_c i hi L now w1 _ hz1.out hv.out hnt.out; rw [hkn.out] at h9; exact h9 : Calls Try.prog 11 #[.string k, .slice p N c, .int .i64 now] w1 (ScanErr 2 w1)).mono ?_
  rintro r w2 ⟨rfl, hk2⟩
  replace hk2 := Lib.hid hk2
  go_wp2_with fail
  refine (by have h9 := wakes_c i hi L w2 _ (hz1.out.kp hk2.out) hv.out; rw [hkn.out, hwn.out] at h9; exact h9 : Calls Try.prog 12 #[.string k, .slice p N c] w2 (WakeOk wn w2)).mono ?_
  rintro r w3 ⟨rfl, hk3⟩
  have hK3 := Lib.hid (hk2.out.trans hk3)
  clear hk3
  go_wp2_with fail
  refine (names_c _).mono ?_
  rintro r w4 ⟨n1, rfl, hn1, hk4⟩
  replace hn1 := Lib.hid hn1
  have hK4 := Lib.hid (hK3.out.trans hk4)
  clear hk4
  go_wp2_with fail
  refine (rnames_c _).mono ?_
  rintro r w5 ⟨n2, rfl, hn2, hk5⟩
  replace hn2 := Lib.hid hn2
  have hn1' := Lib.hid (ownsRow_kp hn1.out hk5)
  have hK5 := Lib.hid (hK4.out.trans hk5)
  clear hk5
  go_wp2_with fail
  refine (samen_c _ _ _ _ _ hn1'.out hn2.out).mono ?_
  rintro r w6 ⟨rfl, hk6⟩
  have hK6 := Lib.hid (hK5.out.trans hk6)
  clear hk6
  go_wp2_with fail
  refine (hb.out _).mono ?_
  rintro r w7 ⟨rfl, rfl⟩
  go_wp2_with fail
  refine (hb2.out _).mono ?_
  rintro r w8 ⟨rfl, rfl⟩
  go_wp2_with fail
  refine (hst.out _).mono ?_
  rintro r w9 ⟨sv, rfl, hk9⟩
  have hK9 := Lib.hid (hK6.out.trans hk9)
  clear hk9
  go_wp2_with fail
  refine (hrt.out _ hK9.out).mono ?_
  rintro r w10 ⟨rfl, hk10⟩
  have hK10 := Lib.hid (hK9.out.trans hk10)
  clear hk10
  go_wp2_with fail
  refine (hwc.out _ hK10.out).mono ?_
  rintro r w11 ⟨rfl, hk11⟩
  have hK11 := Lib.hid (hK10.out.trans hk11)
  clear hk11
  go_wp2_with fail
  refine (awake_c _).mono ?_
  rintro r wa ⟨rfl, hka⟩
  go_wp2
  go_ret
  exact ⟨rfl, (hK11.out).trans hka⟩
set_option maxRecDepth 100000 in
set_option maxHeartbeats 4000000 in
theorem slaw_ok (i : Nat) (hi : i < 9) (v : Value) (now : Int) (w : World) (zs : List Int) (hz : Is w v zs) (hv : areV (kin i) (zs.take 20) = true) (hn : 0 ≤ now ∧ now ≤ 1000000000) : Calls Try.prog 3 #[.string (nmb i), v, .int .i64 now] w fun r w' => r = .returned (.bool true) ∧ Kp [] w w' := by
  have hnt : Hid (isT now = true) := by show _ = _; simp [isT]; omega
  have h1 : decide (now < 0) = false := by simp; omega
  have h2 : decide (now > 1000000000) = false := by simp; omega
  have h3 : decide (1000000000 < now) = false := by simp; omega
  clear hn
  obtain ⟨k, hkn⟩ : ∃ k, nmb i = k := ⟨_, rfl⟩
  have hst := Lib.hid (fun W => rstd_ok i hi W)
  rw [hkn] at hst ⊢
  replace hkn := Lib.hid hkn
  obtain ⟨wn, hwn⟩ : ∃ x, wk i (zs.take 20) = x := ⟨_, rfl⟩
  replace hv := Lib.hid hv
  replace hwn := Lib.hid hwn
  have hb := Lib.hid (fun W => isTimed_c k W)
  have hb2 := Lib.hid (fun W => risTimed_c k W)
  obtain ⟨tb, htb⟩ : ∃ tb, tmB k = tb := ⟨_, rfl⟩
  rw [htb] at hb hb2
  clear htb
  go_enter Try.func3, Try.ntmps3
  go_wp2_with fail
  refine (lcut_c _ _ _ hz).mono ?_
  rintro r w1 ⟨v1, rfl, hz1, rfl⟩
  obtain ⟨L, hL⟩ : ∃ L, zs.take 20 = L := ⟨_, rfl⟩
  rw [hL] at hz1 hv hwn
  clear hL
  obtain ⟨p, c, rfl, hc1, hc2⟩ := hz1.val
  obtain ⟨N, hN⟩ : ∃ N, L.length = N := ⟨_, rfl⟩
  rw [hN] at hz1 hc1 ⊢
  replace hN := Lib.hid hN
  replace hz1 := Lib.hid hz1
  have hrt := Lib.hid (fun W hW => right_c i hi W _ L (hz1.out.kp hW))
  rw [hkn.out, hv.out] at hrt
  have hwc := Lib.hid (fun W hW => rwakes_c i hi L W _ (hz1.out.kp hW) hv.out)
  rw [hkn.out, hwn.out] at hwc
  go_wp2_with fail
  refine (by have h9 := scan_c i hi L now w1 _ hz1.out hv.out hnt.out; rw [hkn.out] at h9; exact h9 : Calls Try.prog 11 #[.string k, .slice p N c, .int .i64 now] w1 (ScanOk (stp i L now) w1)).mono ?_
  rintro r w2 ⟨rv, rfl, hr2, hk2, -⟩
  obtain ⟨pr, cr, rfl, -, -⟩ := hr2.val
  obtain ⟨NR, hNR⟩ : ∃ x, (stp i L now).length = x := ⟨_, rfl⟩
  rw [hNR] at hr2 ⊢
  replace hr2 := Lib.hid hr2
  replace hNR := Lib.hid hNR
  replace hk2 := Lib.hid hk2
  go_wp2_with fail
  refine (by have h9 := wakes_c i hi L w2 _ (hz1.out.kp hk2.out) hv.out; rw [hkn.out, hwn.out] at h9; exact h9 : Calls Try.prog 12 #[.string k, .slice p N c] w2 (WakeOk wn w2)).mono ?_
  rintro r w3 ⟨rfl, hk3⟩
  have hK3 := Lib.hid (hk2.out.trans hk3)
  have hQ3 := Lib.hid hk3
  clear hk3
  go_wp2_with fail
  refine (names_c _).mono ?_
  rintro r w4 ⟨n1, rfl, hn1, hk4⟩
  replace hn1 := Lib.hid hn1
  have hK4 := Lib.hid (hK3.out.trans hk4)
  have hQ4 := Lib.hid (hQ3.out.trans hk4)
  clear hk4
  go_wp2_with fail
  refine (rnames_c _).mono ?_
  rintro r w5 ⟨n2, rfl, hn2, hk5⟩
  replace hn2 := Lib.hid hn2
  have hn1' := Lib.hid (ownsRow_kp hn1.out hk5)
  have hK5 := Lib.hid (hK4.out.trans hk5)
  have hQ5 := Lib.hid (hQ4.out.trans hk5)
  clear hk5
  go_wp2_with fail
  refine (samen_c _ _ _ _ _ hn1'.out hn2.out).mono ?_
  rintro r w6 ⟨rfl, hk6⟩
  have hK6 := Lib.hid (hK5.out.trans hk6)
  have hQ6 := Lib.hid (hQ5.out.trans hk6)
  clear hk6
  go_wp2_with fail
  refine (hb.out _).mono ?_
  rintro r w7 ⟨rfl, rfl⟩
  go_wp2_with fail
  refine (hb2.out _).mono ?_
  rintro r w8 ⟨rfl, rfl⟩
  go_wp2_with fail
  refine (hst.out _).mono ?_
  rintro r w9 ⟨sv, rfl, hk9⟩
  have hK9 := Lib.hid (hK6.out.trans hk9)
  have hQ9 := Lib.hid (hQ6.out.trans hk9)
  clear hk9
  go_wp2_with fail
  refine (hrt.out _ hK9.out).mono ?_
  rintro r w10 ⟨rfl, hk10⟩
  have hK10 := Lib.hid (hK9.out.trans hk10)
  have hQ10 := Lib.hid (hQ9.out.trans hk10)
  clear hk10
  go_wp2_with fail
  refine (hwc.out _ hK10.out).mono ?_
  rintro r w11 ⟨rfl, hk11⟩
  have hK11 := Lib.hid (hK10.out.trans hk11)
  have hQ11 := Lib.hid (hQ10.out.trans hk11)
  clear hk11
  have hNk : N = (kin i).length := by rw [← hN.out]; exact (areV_len hv.out).symm
  have hNb : 0 < N ∧ N ≤ 6 := by
    rw [hNk]
    rcases (show i = 0 ∨ i = 1 ∨ i = 2 ∨ i = 3 ∨ i = 4 ∨ i = 5 ∨ i = 6 ∨ i = 7 ∨ i = 8 by omega) with rfl | rfl | rfl | rfl | rfl | rfl | rfl | rfl | rfl <;> decide
  have hz11 := hz1.out.kp hK11.out
  obtain ⟨b, off, rfl, -⟩ := hz11.at_ 0 (by rw [hN.out]; omega)
  have hadd := Lib.hid (hz11.adds)
  clear hz11 hNk
  obtain ⟨i0, hi0, hz0, hy1, hz2⟩ := info_parts infoInt
  have hnil := Lib.hid (World.ownsRow_nil w11 w11.heap.size 3 1)
  have hl1 : Hid ((L.map (Value.int .i64)).length = N * 1) := by show _ = _; rw [List.length_map, hN.out]; omega
  have hone : Hid (∀ u ∈ L.map (Value.int .i64), u.oneCell' = true) := by
    intro u hu
    obtain ⟨x, _, rfl⟩ := List.mem_map.1 hu
    rfl
  go_wp2_with (at_builtin; refine wpList_append_own _ rfl _ _ 22 rfl w11.heap.size 3 i0 _ 1 8 Try.underlying22 hi0 hz0 hy1 hz2 rfl (by decide) _ _ _ rfl hnil.out ⟨b, off, none⟩ N c (L.map (Value.int .i64)) rfl hl1.out hadd.out hone.out (by unfold maxLen; omega) (by omega) (Nat.le_refl _) ?_; intro v' w12 hown' hgrow _)
  have hk12 : Kp [] w11 w12 := (Kp.refl [] w11).grown hgrow (fun k hk => by cases hk)
  have hO : Ow w11 w12 v' L := by
    show World.ownsRow _ _ _ _ _ _ _
    rw [hN.out]
    simpa using hown'
  obtain ⟨g, c9, rfl, hg1, hg2, -, -⟩ := hO.at_ (by rw [hN.out]; omega)
  rw [hN.out] at hO ⊢
  replace hO := Lib.hid hO
  have hK12 := Lib.hid (hK11.out.trans hk12)
  have hQ12 := Lib.hid (hQ11.out.trans hk12)
  clear hown' hgrow
  go_wp2_with fail
  refine (by have h9 := rscan_c i hi w11 w12 g N c9 L now hO.out hv.out hnt.out; rw [hkn.out] at h9; exact h9 : Calls Try.prog 22 #[.string k, .slice (some ⟨g, 0, none⟩) N c9, .int .i64 now] w12 _).mono ?_
  rintro r w13 ⟨rfl, ⟨L2, hO2, hL2⟩, hk13⟩
  have hsz := hK11.out.size
  have hsz2 := hQ11.out.size
  have hQ13 := Lib.hid (hQ12.out.trans' hk13 (fun j hj hlt => by simp at hj; omega))
  have hK13 := Lib.hid (hK12.out.trans' hk13 (fun j hj hlt => by simp at hj; omega))
  go_wp2_with fail
  have hs9 := same_c w13 _ _ (stp i L now) (hr2.out.kp hQ13.out) (hL2 ▸ hO2.is)
  refine hs9.mono ?_
  rintro r w14 ⟨rfl, hk14⟩
  replace hk14 := Lib.hid hk14
  go_wp2_with fail
  refine (awake_c _).mono ?_
  rintro r wa ⟨rfl, hka⟩
  go_wp2
  go_ret
  exact ⟨rfl, (hK13.out.trans hk14.out).trans hka⟩

/-- The law. -/
theorem slaw_c (k : ByteArray) (v : Value) (zs : List Int) (now : Int) (w : World) (hz : Is w v zs) : Calls Try.prog 3 #[.string k, v, .int .i64 now] w fun r w' => r = .returned (.bool true) ∧ Kp [] w w' := by
  by_cases hk : ∃ i, i < 9 ∧ k = nmb i
  · obtain ⟨i, hi, rfl⟩ := hk
    cases hv : areV (kin i) (zs.take 20)
    · exact slaw_bad i hi v now w zs hz hv
    · by_cases h1 : now < 0
      · exact slaw_early i hi v now w zs hz hv h1
      · by_cases h2 : 1000000000 < now
        · exact slaw_late i hi v now w zs hz hv h2
        · exact slaw_ok i hi v now w zs hz hv (by omega)
  · exact slaw_no k v now w zs hz (fun i hi e => hk ⟨i, hi, e⟩)
end Go.Proofs.Ytldfddjacmgiaaa
