import Derived.Test.YtieacfenoomaeaaQc2
set_option linter.unusedSimpArgs false
set_option linter.unusedVariables false
namespace Go.Proofs.Ytieacfenoomaeaa
open Go.RowKit

def modF (x n : Int) : Int := (x % 18446744073709551616) % n
theorem modF_bd (x : Int) {n : Int} (h : 0 < n) : 0 ≤ modF x n ∧ modF x n < n := by
  unfold modF
  exact ⟨Int.emod_nonneg _ (by omega), Int.emod_lt_of_pos _ h⟩
set_option maxRecDepth 100000 in
theorem mod_c (x n : Int) (w : World) (h : 0 < n) (h2 : n ≤ 1000000) : Calls Try.prog 28 #[.int .i64 x, .int .i64 n] w fun r w' => r = .returned (.int .i64 (modF x n)) ∧ w' = w := by
  go_enter Try.func28, Try.ntmps28
  go_wp2
  go_ret
  refine ⟨ret_int ?_, rfl⟩
  have e : IntKind.u64.wrap x = x % 18446744073709551616 := by simp [IntKind.wrap, IntKind.bits, IntKind.signed]
  have hb := modF_bd x h
  rw [e, Int.tmod_eq_emod_of_nonneg (Int.emod_nonneg _ (by omega))]
  exact IntWalk.wrap64_in _ (by unfold modF at hb; omega)

theorem stp_ton0 (pt : Int) (h : 1 ≤ pt) : stp 0 [1, pt, 0, 0, 0, 0] 10 = [1, pt, 0, 0, 10, 1] := by
  have e : ¬ pre pt ≤ gone pt 10 10 := by unfold pre gone; omega
  have e2 : gone pt 10 10 = 0 := by unfold gone; omega
  simp [stp, stF, kin, tonF, f6, F6.list, e, e2, oneOf]
  unfold pre; omega
theorem stp_ton1 (pt Q E now : Int) (h : 1 ≤ pt) (hn : 10 ≤ now) : stp 0 [1, pt, Q, E, 10, 1] now = [1, pt, oneOf (decide (pt ≤ now - 10)), min pt (now - 10), 10, 1] := by
  have e2 : gone pt 10 now = min pt (now - 10) := by unfold gone; omega
  have e3 : pre pt = pt := by unfold pre; omega
  have e4 : (pt ≤ min pt (now - 10)) = (pt ≤ now - 10) := by apply propext; omega
  simp [stp, stF, kin, tonF, f6, F6.list, e2, e3]
  simp only [e4]
theorem are_ton {pt Q E : Int} (hp : -2147483648 ≤ pt ∧ pt ≤ 2147483647) (hQ : Q = 0 ∨ Q = 1) (hE : -2147483648 ≤ E ∧ E ≤ 2147483647) (s r : Int) (hs : -2147483648 ≤ s ∧ s ≤ 2147483647) (hr : r = 0 ∨ r = 1) : areV (kin 0) [1, pt, Q, E, s, r] = true := by
  simp [kin, areV, isV, bitB, valB]
  omega
/-- Six ints, cell by cell. -/
theorem Is.six {w : World} {v : Value} {z0 z1 z2 z3 z4 z5 : Int} (h : Is w v [z0, z1, z2, z3, z4, z5]) : ∃ b o c, v = .slice (some ⟨b, o, none⟩) 6 c ∧ w.cell? ⟨b, o + 0, none⟩ = some (.int .i64 z0) ∧ w.cell? ⟨b, o + 1, none⟩ = some (.int .i64 z1) ∧
    w.cell? ⟨b, o + 2, none⟩ = some (.int .i64 z2) ∧ w.cell? ⟨b, o + 3, none⟩ = some (.int .i64 z3) ∧ w.cell? ⟨b, o + 4, none⟩ = some (.int .i64 z4) ∧ w.cell? ⟨b, o + 5, none⟩ = some (.int .i64 z5) := by
  obtain ⟨p, c, h1, h2, h3, h4⟩ := h
  rcases h4 with h4 | ⟨b, o, rfl, h5⟩
  · cases h4
  · exact ⟨b, o, c, h1, h5 0 (Nat.succ_pos _), h5 1 (by show 1 < 6; omega), h5 2 (by show 2 < 6; omega), h5 3 (by show 3 < 6; omega), h5 4 (by show 4 < 6; omega), h5 5 (by show 5 < 6; omega)⟩
set_option maxRecDepth 100000 in
set_option maxHeartbeats 1000000 in
theorem delay_c (p : Int) (v1 : Value) (zs : List Int) (w : World) (hz : Is w v1 zs) : Calls Try.prog 7 #[.int .i64 p, v1] w fun r w' => r = .returned (.bool true) ∧ Kp [] w w' := by
  obtain ⟨q1, c1, rfl, hn1, hc1⟩ := hz.val
  obtain ⟨n, hn⟩ : ∃ n, zs.length = n := ⟨_, rfl⟩
  rw [hn] at hz hn1 ⊢
  replace hz := Lib.hid hz
  replace hn := Lib.hid hn
  have hbig : n ≤ 9223372036854775807 := by omega
  have hmb := modF_bd p (n := 100000) (by omega)
  obtain ⟨m, hm⟩ : ∃ m, modF p 100000 = m := ⟨_, rfl⟩
  rw [hm] at hmb
  have hw1 : wrap64 (1 + m) = 1 + m := IntWalk.wrap64_in _ (by omega)
  go_enter Try.func7, Try.ntmps7
  go_wp2_with fail
  refine (mod_c p 100000 _ (by omega) (by omega)).mono ?_
  rintro r w1 ⟨rfl, rfl⟩
  rw [hm]
  clear hm
  have hB := Blk.new w1 3 #[.int .i64 1, .int .i64 (1 + m), .int .i64 0, .int .i64 0, .int .i64 0, .int .i64 0]
  obtain ⟨W1, hW1⟩ : ∃ W1, w1.alloc (.cells #[.int .i64 1, .int .i64 (1 + m), .int .i64 0, .int .i64 0, .int .i64 0, .int .i64 0] 3) = W1 := ⟨_, rfl⟩
  have hk1 : Kp [] w1 W1 := hW1 ▸ (Kp.refl [] w1).alloc _
  rw [hW1] at hB
  have hi1 := Lib.hid (is_lit (n := 6) (zs := [1, 1 + m, 0, 0, 0, 0]) hB rfl (by omega) rfl)
  replace hB := Lib.hid hB
  replace hk1 := Lib.hid hk1
  replace hW1 := Lib.hid hW1
  go_wp2_with fail
  rw [hW1.out]
  have hsc := scan_ton [1, 1 + m, 0, 0, 0, 0] 10 W1 _ hi1.out (are_ton (by omega) (.inl rfl) (by omega) 0 0 (by omega) (.inl rfl)) (by decide)
  rw [stp_ton0 (1 + m) (by omega)] at hsc
  refine hsc.mono ?_
  clear hsc
  rintro r w2 ⟨u1, rfl, hu1, hk2, _⟩
  replace hk2 := Lib.hid (hk1.out.trans hk2)
  replace hu1 := Lib.hid hu1
  go_wp2_with fail
  go_loopw [5, 7, 8] (fun u t i wr => ∃ (k : Nat) (now Q E : Int), k ≤ n ∧ k ≤ 60 ∧ i = .int .i64 k ∧ t = .int .i64 now ∧ 10 ≤ now ∧ now ≤ 10 + 20000 * k ∧ (Q = 0 ∨ Q = 1) ∧ (0 ≤ E ∧ E ≤ 200000) ∧ Hid (Is wr u [1, 1 + m, Q, E, 10, 1]) ∧ Hid (Kp [] w1 wr)) (fun _ _ i _ => n - (intOf i).toNat)
  case atStart => exact ⟨0, 10, 0, 0, Nat.zero_le _, Nat.zero_le _, rfl, rfl, by omega, by omega, .inl rfl, by omega, hu1.out, hk2.out⟩
  case round =>
    obtain ⟨k, now, Q, E, hk, hk60, rfl, rfl, ht1, ht2, hQ, hE, hu, hK⟩ := hrel
    by_cases hlt : k < n ∧ k < 60
    · obtain ⟨hlt, hlt60⟩ := hlt
      obtain ⟨b, off, rfl, hc⟩ := (hz.out.kp hK.out).at_ k (by rw [hn.out]; exact hlt)
      obtain ⟨z, hzz⟩ : ∃ z, zs.getD k 0 = z := ⟨_, rfl⟩
      rw [hzz] at hc
      replace hzz := Lib.hid hzz
      have hd60 : decide ((k : Int) < 60) = true := by simp; omega
      go_wp2_with fail
      refine (mod_c z 20000 _ (by omega) (by omega)).mono ?_
      rintro r w3 ⟨rfl, rfl⟩
      have hdb := modF_bd z (n := 20000) (by omega)
      obtain ⟨d, hd⟩ : ∃ d, modF z 20000 = d := ⟨_, rfl⟩
      rw [hd] at hdb ⊢
      clear hd
      have hwn : wrap64 (now + d) = now + d := IntWalk.wrap64_in _ (by omega)
      go_wp2_with fail
      obtain ⟨t, ht⟩ : ∃ t, now + d = t := ⟨_, rfl⟩
      have htb : 10 ≤ t ∧ t ≤ 10 + 20000 * (k + 1) := by omega
      rw [ht]
      replace ht := Lib.hid ht
      have hsc := scan_ton [1, 1 + m, Q, E, 10, 1] t w3 _ hu.out (are_ton (by omega) hQ (by omega) 10 1 (by omega) (.inr rfl)) (by simp [isT]; omega)
      rw [stp_ton1 (1 + m) Q E t (by omega) (by omega)] at hsc
      refine hsc.mono ?_
      clear hsc
      rintro r w4 ⟨u4, rfl, hu4, hk4, _⟩
      have hK4 := Lib.hid (hK.out.trans hk4)
      have hw10 : wrap64 (t - 10) = t - 10 := IntWalk.wrap64_in _ (by omega)
      obtain ⟨M, hM⟩ : ∃ M, min (1 + m) (t - 10) = M := ⟨_, rfl⟩
      have hMb : 0 ≤ M ∧ M ≤ 200000 := by omega
      have hu4' := hu4
      obtain ⟨b4, o4, c4, rfl, _, _, d2, d3, _, _⟩ := hu4'.six
      clear hwn hk4
      by_cases hq : 1 + m ≤ t - 10
      · have hqb : decide (1 + m ≤ t - 10) = true := by simpa using hq
        rw [hqb] at d2 hu4
        rw [hM] at d3 hu4
        simp only [oneOf, if_true] at d2 hu4
        replace hu4 := Lib.hid hu4
        replace hq := Lib.hid hq
        go_wp2
        go_roundw
        case rel => exact ⟨k + 1, t, 1, M, by omega, by omega, by go_num, rfl, by omega, by omega, .inr rfl, by omega, hu4.out, hK4.out⟩
        case measure => simp [intOf]; omega
      · have hqb : decide (1 + m ≤ t - 10) = false := by simpa using hq
        rw [hqb] at d2 hu4
        rw [hM] at d3 hu4
        simp only [oneOf] at d2 hu4
        replace d2 : w4.cell? ⟨b4, o4 + 2, none⟩ = some (.int .i64 0) := d2
        replace hu4 : Is w4 (.slice (some ⟨b4, o4, none⟩) 6 c4) [1, 1 + m, 0, M, 10, 1] := hu4
        replace hu4 := Lib.hid hu4
        replace hq := Lib.hid hq
        go_wp2
        go_roundw
        case rel => exact ⟨k + 1, t, 0, M, by omega, by omega, by go_num, rfl, by omega, by omega, .inl rfl, by omega, hu4.out, hK4.out⟩
        case measure => simp [intOf]; omega
    · by_cases hlt2 : k < n
      · have hd60 : decide ((k : Int) < 60) = false := by simp; omega
        replace hlt := Lib.hid hlt
        go_wp2_with (go_at_call 19; refine (awake_c _).mono ?_; rintro r w3 ⟨rfl, hk3⟩)
        go_ret
        exact ⟨rfl, hK.out.trans hk3⟩
      · obtain rfl : k = n := by omega
        replace hlt := Lib.hid hlt
        go_wp2_with (go_at_call 19; refine (awake_c _).mono ?_; rintro r w3 ⟨rfl, hk3⟩)
        go_ret
        exact ⟨rfl, hK.out.trans hk3⟩
end Go.Proofs.Ytieacfenoomaeaa
