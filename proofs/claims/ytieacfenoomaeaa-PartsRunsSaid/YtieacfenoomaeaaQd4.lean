import Derived.Test.YtieacfenoomaeaaQd1
import Derived.Test.YtieacfenoomaeaaQc3
import Derived.Deep.RegionHeld3
set_option linter.unusedSimpArgs false
set_option linter.unusedVariables false
namespace Go.Proofs.Ytieacfenoomaeaa
open Go.RowKit

theorem wz_0 (t : Int) : stp 0 [1, 0, 0, 0, 0, 0] t = [1, 0, 1, 0, t, 1] := by
  have g0 : gone 0 t t = 0 := by unfold gone; omega
  have p0 : pre 0 = 0 := by unfold pre; omega
  simp [stp, stF, kin, f6, F6.list, tonF, tofF, tpF, tpE, g0, p0, oneOf]
theorem wp_0 (P t : Int) (h : 0 < P) : stp 0 [1, P, 0, 0, 0, 0] t = [1, P, 0, 0, t, 1] := by
  have g0 : gone P t t = 0 := by unfold gone; omega
  have p0 : pre P = P := by unfold pre; omega
  have h2 : ¬ P ≤ 0 := by omega
  simp [stp, stF, kin, f6, F6.list, tonF, tofF, tpF, tpE, g0, p0, oneOf, h, h2]
theorem wb_0 (P t l : Int) (h : 0 < P) (hl : 0 ≤ l) : ∃ et s r, stp 0 [1, P, 0, 0, t, 1] (t + l) = [1, P, if P ≤ l then 1 else 0, et, s, r] := by
  have g0 : gone P t (t + l) = min P l := by unfold gone; omega
  have p0 : pre P = P := by unfold pre; omega
  by_cases hp : P ≤ l
  · have h3 : P ≤ min P l := by omega
    simp [stp, stF, kin, f6, F6.list, tonF, tofF, tpF, tpE, g0, p0, oneOf, hp, h3]
  · have h3 : ¬ P ≤ min P l := by omega
    simp [stp, stF, kin, f6, F6.list, tonF, tofF, tpF, tpE, g0, p0, oneOf, hp, h3]
theorem wz_1 (t : Int) : stp 1 [0, 0, 1, 0, 0, 0] t = [0, 0, 0, 0, t, 0] := by
  have g0 : gone 0 t t = 0 := by unfold gone; omega
  have p0 : pre 0 = 0 := by unfold pre; omega
  simp [stp, stF, kin, f6, F6.list, tonF, tofF, tpF, tpE, g0, p0, oneOf]
theorem wp_1 (P t : Int) (h : 0 < P) : stp 1 [0, P, 1, 0, 0, 0] t = [0, P, 1, 0, t, 1] := by
  have g0 : gone P t t = 0 := by unfold gone; omega
  have p0 : pre P = P := by unfold pre; omega
  have h2 : ¬ P ≤ 0 := by omega
  simp [stp, stF, kin, f6, F6.list, tonF, tofF, tpF, tpE, g0, p0, oneOf, h, h2]
theorem wb_1 (P t l : Int) (h : 0 < P) (hl : 0 ≤ l) : ∃ et s r, stp 1 [0, P, 1, 0, t, 1] (t + l) = [0, P, if P ≤ l then 0 else 1, et, s, r] := by
  have g0 : gone P t (t + l) = min P l := by unfold gone; omega
  have p0 : pre P = P := by unfold pre; omega
  by_cases hp : P ≤ l
  · have h3 : P ≤ min P l := by omega
    simp [stp, stF, kin, f6, F6.list, tonF, tofF, tpF, tpE, g0, p0, oneOf, hp, h3]
  · have h3 : ¬ P ≤ min P l := by omega
    simp [stp, stF, kin, f6, F6.list, tonF, tofF, tpF, tpE, g0, p0, oneOf, hp, h3]
theorem wz_2 (t : Int) : stp 2 [1, 0, 0, 0, 0, 0] t = [1, 0, 0, 0, 0, 0] := by
  have g0 : gone 0 t t = 0 := by unfold gone; omega
  have p0 : pre 0 = 0 := by unfold pre; omega
  simp [stp, stF, kin, f6, F6.list, tonF, tofF, tpF, tpE, g0, p0, oneOf]
theorem wp_2 (P t : Int) (h : 0 < P) : stp 2 [1, P, 0, 0, 0, 0] t = [1, P, 1, 0, t, 1] := by
  have g0 : gone P t t = 0 := by unfold gone; omega
  have p0 : pre P = P := by unfold pre; omega
  have h2 : ¬ P ≤ 0 := by omega
  simp [stp, stF, kin, f6, F6.list, tonF, tofF, tpF, tpE, g0, p0, oneOf, h, h2]
theorem wb_2 (P t l : Int) (h : 0 < P) (hl : 0 ≤ l) : ∃ et s r, stp 2 [1, P, 1, 0, t, 1] (t + l) = [1, P, if P ≤ l then 0 else 1, et, s, r] := by
  have g0 : gone P t (t + l) = min P l := by unfold gone; omega
  have p0 : pre P = P := by unfold pre; omega
  by_cases hp : P ≤ l
  · have h3 : P ≤ min P l := by omega
    simp [stp, stF, kin, f6, F6.list, tonF, tofF, tpF, tpE, g0, p0, oneOf, hp, h3]
  · have h3 : ¬ P ≤ min P l := by omega
    simp [stp, stF, kin, f6, F6.list, tonF, tofF, tpF, tpE, g0, p0, oneOf, hp, h3]
set_option maxRecDepth 100000 in
set_option maxHeartbeats 2000000 in
theorem wlaw_0 (a0 a1 a2 a3 : Int) (w : World) (hm : modF a0 3 = 0) : Calls Try.prog 9 #[.int .i64 a0, .int .i64 a1, .int .i64 a2, .int .i64 a3] w fun r w' => r = .returned (.bool true) ∧ Kp [] w w' := by
  have hN := Blk.new w 54 #[.string ⟨#[116, 111, 110]⟩, .string ⟨#[116, 111, 102]⟩, .string ⟨#[116, 112]⟩]
  obtain ⟨w1, hw1⟩ : ∃ W1, w.alloc (.cells #[.string ⟨#[116, 111, 110]⟩, .string ⟨#[116, 111, 102]⟩, .string ⟨#[116, 112]⟩] 54) = W1 := ⟨_, rfl⟩
  have hk1 : Kp [] w w1 := hw1 ▸ (Kp.refl [] w).alloc _
  rw [hw1] at hN
  have nj := hN.cell 0 rfl
  replace hN := Lib.hid hN
  replace hw1 := Lib.hid hw1
  replace hk1 := Lib.hid hk1
  replace hm := Lib.hid hm
  obtain ⟨gn, hgn⟩ : ∃ x, w.heap.size = x := ⟨_, rfl⟩
  rw [hgn] at nj
  have hPb := modF_bd a1 (n := 5000) (by omega)
  have htb := modF_bd a2 (n := 100000) (by omega)
  have hlb := modF_bd a3 (n := 6000) (by omega)
  obtain ⟨P, hP⟩ : ∃ m, modF a1 5000 = m := ⟨_, rfl⟩
  obtain ⟨t, ht⟩ : ∃ m, modF a2 100000 = m := ⟨_, rfl⟩
  obtain ⟨l, hl⟩ : ∃ m, modF a3 6000 = m := ⟨_, rfl⟩
  rw [hP] at hPb
  rw [ht] at htb
  rw [hl] at hlb
  replace hP := Lib.hid hP
  replace ht := Lib.hid ht
  replace hl := Lib.hid hl
  go_enter Try.func9, Try.ntmps9
  go_wp2_with fail
  rw [hw1.out]
  refine (mod_c a0 3 _ (by omega) (by omega)).mono ?_
  rintro r w2 ⟨rfl, rfl⟩
  rw [hm.out]
  try rw [hgn]
  go_wp2_with fail
  refine (mod_c a1 5000 _ (by omega) (by omega)).mono ?_
  rintro r w3 ⟨rfl, rfl⟩
  rw [hP.out]
  go_wp2_with fail
  have hB := Blk.new w3 3 (([1, P, 0, 0, 0, 0] : List Int).map (Value.int .i64)).toArray
  obtain ⟨W3, hW3⟩ : ∃ W3, w3.alloc (.cells #[.int .i64 1, .int .i64 P, .int .i64 0, .int .i64 0, .int .i64 0, .int .i64 0] 3) = W3 := ⟨_, rfl⟩
  have hk3 : Kp [] w3 W3 := hW3 ▸ (Kp.refl [] w3).alloc _
  replace hB : Blk W3 w3.heap.size 3 #[.int .i64 1, .int .i64 P, .int .i64 0, .int .i64 0, .int .i64 0, .int .i64 0] := hW3 ▸ hB
  have hi := Lib.hid (is_lit (n := 6) (zs := [1, P, 0, 0, 0, 0]) hB rfl (by omega) rfl)
  rw [hW3]
  replace hB := Lib.hid hB
  replace hk3 := Lib.hid hk3
  replace hW3 := Lib.hid hW3
  clear nj hN
  refine (mod_c a2 100000 _ (by omega) (by omega)).mono ?_
  rintro r w4 ⟨rfl, rfl⟩
  rw [ht.out]
  have hav : areV (kin 0) [1, P, 0, 0, 0, 0] = true := by simp [kin, areV, isV, bitB, valB] <;> omega
  have htt : isT t = true := by simp [isT]; omega
  have hsc := Lib.hid (scan_ton [1, P, 0, 0, 0, 0] t w4 _ hi.out hav htt)
  replace hav := Lib.hid hav
  replace htt := Lib.hid htt
  go_wp2_with fail
  refine hsc.out.mono ?_
  rintro r w5 ⟨va, rfl, hva, hk5, -⟩
  have hK5 := Lib.hid (hk3.out.trans hk5)
  by_cases hz : P = 0
  · subst hz
    rw [wz_0 t] at hva
    have hwk := Lib.hid (wakes_ton [1, 0, 1, 0, t, 1] w5 va hva (by simp [kin, areV, isV, bitB, valB] <;> omega))
    have hwe : wk 0 [1, 0, 1, 0, t, 1] = -1 := by unfold wk wkF f6 pre; simp
    rw [hwe] at hwk
    obtain ⟨b6, o6, c6, rfl, -, -, y2, -, -, -⟩ := hva.six
    clear hwe hva hk5 hsc
    go_wp2_with fail
    refine hwk.out.mono ?_
    rintro r w6 ⟨rfl, hk6⟩
    clear hwk
    go_wp2_with (go_at_call 19; refine (awake_c _).mono ?_; rintro r w7 ⟨rfl, hk7⟩)
    go_ret
    exact ⟨rfl, ((hk1.out.trans hK5.out).trans hk6).trans hk7⟩
  · have hpos : 0 < P := by omega
    rw [wp_0 P t hpos] at hva
    have havp : areV (kin 0) [1, P, 0, 0, t, 1] = true := by simp [kin, areV, isV, bitB, valB] <;> omega
    have hwk := Lib.hid (wakes_ton [1, P, 0, 0, t, 1] w5 va hva havp)
    have hwe : wk 0 [1, P, 0, 0, t, 1] = t + P := by
      have p0 : pre P = P := by unfold pre; omega
      unfold wk wkF f6
      simp [p0, hpos]
    rw [hwe] at hwk
    replace hva := Lib.hid hva
    replace havp := Lib.hid havp
    obtain ⟨b6, o6, c6, rfl, -, -, y2, -, -, -⟩ := hva.out.six
    clear hwe hk5 hsc
    have hneg : decide (t + P < 0) = false := by simp; omega
    go_wp2_with fail
    refine hwk.out.mono ?_
    rintro r w6 ⟨rfl, hk6⟩
    clear hwk
    have hva6 := Lib.hid (hva.out.kp hk6)
    have hK6 := Lib.hid (hK5.out.trans hk6)
    have y26 := hk6.cell y2 (by simp)
    clear y2 hva hk6
    have hwtl : wrap64 (t + l) = t + l := IntWalk.wrap64_in _ (by omega)
    go_wp2_with fail
    refine (mod_c a3 6000 _ (by omega) (by omega)).mono ?_
    rintro r w7 ⟨rfl, rfl⟩
    rw [hl.out]
    have hsc2 := scan_ton [1, P, 0, 0, t, 1] (t + l) w7 _ hva6.out havp.out (by simp [isT]; omega)
    obtain ⟨et, s, r9, hst⟩ := wb_0 P t l hpos hlb.1
    rw [hst] at hsc2
    replace hsc2 := Lib.hid hsc2
    replace hst := Lib.hid hst
    go_wp2_with fail
    refine hsc2.out.mono ?_
    rintro r w8 ⟨vb, rfl, hvb, hk8, -⟩
    have hK8 := Lib.hid (hK6.out.trans hk8)
    have y28 := hk8.cell y26 (by simp)
    obtain ⟨b8, o8, c8, rfl, -, -, u28, -, -, -⟩ := hvb.six
    clear hsc2 hvb hk8 y26 hva6
    have hvw : valB (t + P) = true := by simp [valB]; omega
    have hval := Lib.hid (fun W => rValue_c (t + P) W)
    rw [hvw] at hval
    have haw := Lib.hid (fun W => awake_c W)
    clear hvw
    have hall : Hid (∀ W', Kp [] w8 W' → W'.cell? ⟨b6, o6 + 2, none⟩ = some (.int .i64 0) ∧ W'.cell? ⟨b8, o8 + 2, none⟩ = some (.int .i64 (if P ≤ l then 1 else 0))) := fun W' k => ⟨k.cell y28 (by simp), k.cell u28 (by simp)⟩
    have hval2 := Lib.hid (hval.out w8.drew)
    have haw2 := Lib.hid (haw.out w8.drew)
    clear hval haw
    by_cases hp : P ≤ l
    · rw [if_pos hp] at u28 hall
      have hlt : decide (t + l < t + P) = false := by simp; omega
      have hlt2 : decide (l < P) = false := by simp; omega
      replace hp := Lib.hid hp
      go_wp2_with fail
      clear y28 u28
      go_region_held3 (fun W' => W'.cell? ⟨b6, o6 + 2, none⟩ = some (.int .i64 0) ∧ W'.cell? ⟨b8, o8 + 2, none⟩ = some (.int .i64 1))
        (first | exact hall.out _ hk9.out | exact hall.out _ (Kp.refl _ _) | exact hall.out _ (Kp.refl _ _).drew)
        (first | (go_at_call 19; refine haw2.out.mono ?_; rintro r w9 ⟨rfl, hk9⟩; replace hk9 := Lib.hid ((Kp.refl [] w8).drew.trans hk9)) | (go_at_call 29; refine hval2.out.mono ?_; rintro r w10 ⟨rfl, rfl⟩))
      all_goals
        go_wp2_with fail
        go_ret
        exact ⟨rfl, (hk1.out.trans hK8.out).trans hk9.out⟩
    · rw [if_neg hp] at u28 hall
      have hlt : decide (t + l < t + P) = true := by simp; omega
      have hlt2 : decide (l < P) = true := by simp; omega
      replace hp := Lib.hid hp
      go_wp2_with fail
      clear y28 u28
      go_region_held3 (fun W' => W'.cell? ⟨b6, o6 + 2, none⟩ = some (.int .i64 0) ∧ W'.cell? ⟨b8, o8 + 2, none⟩ = some (.int .i64 0))
        (first | exact hall.out _ hk9.out | exact hall.out _ (Kp.refl _ _) | exact hall.out _ (Kp.refl _ _).drew)
        (first | (go_at_call 19; refine haw2.out.mono ?_; rintro r w9 ⟨rfl, hk9⟩; replace hk9 := Lib.hid ((Kp.refl [] w8).drew.trans hk9)) | (go_at_call 29; refine hval2.out.mono ?_; rintro r w10 ⟨rfl, rfl⟩))
      all_goals
        go_wp2_with fail
        go_ret
        exact ⟨rfl, (hk1.out.trans hK8.out).trans hk9.out⟩
set_option maxRecDepth 100000 in
set_option maxHeartbeats 2000000 in
theorem wlaw_1 (a0 a1 a2 a3 : Int) (w : World) (hm : modF a0 3 = 1) : Calls Try.prog 9 #[.int .i64 a0, .int .i64 a1, .int .i64 a2, .int .i64 a3] w fun r w' => r = .returned (.bool true) ∧ Kp [] w w' := by
  have hN := Blk.new w 54 #[.string ⟨#[116, 111, 110]⟩, .string ⟨#[116, 111, 102]⟩, .string ⟨#[116, 112]⟩]
  obtain ⟨w1, hw1⟩ : ∃ W1, w.alloc (.cells #[.string ⟨#[116, 111, 110]⟩, .string ⟨#[116, 111, 102]⟩, .string ⟨#[116, 112]⟩] 54) = W1 := ⟨_, rfl⟩
  have hk1 : Kp [] w w1 := hw1 ▸ (Kp.refl [] w).alloc _
  rw [hw1] at hN
  have nj := hN.cell 1 rfl
  replace hN := Lib.hid hN
  replace hw1 := Lib.hid hw1
  replace hk1 := Lib.hid hk1
  replace hm := Lib.hid hm
  obtain ⟨gn, hgn⟩ : ∃ x, w.heap.size = x := ⟨_, rfl⟩
  rw [hgn] at nj
  have hPb := modF_bd a1 (n := 5000) (by omega)
  have htb := modF_bd a2 (n := 100000) (by omega)
  have hlb := modF_bd a3 (n := 6000) (by omega)
  obtain ⟨P, hP⟩ : ∃ m, modF a1 5000 = m := ⟨_, rfl⟩
  obtain ⟨t, ht⟩ : ∃ m, modF a2 100000 = m := ⟨_, rfl⟩
  obtain ⟨l, hl⟩ : ∃ m, modF a3 6000 = m := ⟨_, rfl⟩
  rw [hP] at hPb
  rw [ht] at htb
  rw [hl] at hlb
  replace hP := Lib.hid hP
  replace ht := Lib.hid ht
  replace hl := Lib.hid hl
  go_enter Try.func9, Try.ntmps9
  go_wp2_with fail
  rw [hw1.out]
  refine (mod_c a0 3 _ (by omega) (by omega)).mono ?_
  rintro r w2 ⟨rfl, rfl⟩
  rw [hm.out]
  try rw [hgn]
  go_wp2_with fail
  refine (mod_c a1 5000 _ (by omega) (by omega)).mono ?_
  rintro r w3 ⟨rfl, rfl⟩
  rw [hP.out]
  go_wp2_with fail
  have hB := Blk.new w3 3 (([0, P, 1, 0, 0, 0] : List Int).map (Value.int .i64)).toArray
  obtain ⟨W3, hW3⟩ : ∃ W3, w3.alloc (.cells #[.int .i64 0, .int .i64 P, .int .i64 1, .int .i64 0, .int .i64 0, .int .i64 0] 3) = W3 := ⟨_, rfl⟩
  have hk3 : Kp [] w3 W3 := hW3 ▸ (Kp.refl [] w3).alloc _
  replace hB : Blk W3 w3.heap.size 3 #[.int .i64 0, .int .i64 P, .int .i64 1, .int .i64 0, .int .i64 0, .int .i64 0] := hW3 ▸ hB
  have hi := Lib.hid (is_lit (n := 6) (zs := [0, P, 1, 0, 0, 0]) hB rfl (by omega) rfl)
  rw [hW3]
  replace hB := Lib.hid hB
  replace hk3 := Lib.hid hk3
  replace hW3 := Lib.hid hW3
  clear nj hN
  refine (mod_c a2 100000 _ (by omega) (by omega)).mono ?_
  rintro r w4 ⟨rfl, rfl⟩
  rw [ht.out]
  have hav : areV (kin 1) [0, P, 1, 0, 0, 0] = true := by simp [kin, areV, isV, bitB, valB] <;> omega
  have htt : isT t = true := by simp [isT]; omega
  have hsc := Lib.hid (scan_tof [0, P, 1, 0, 0, 0] t w4 _ hi.out hav htt)
  replace hav := Lib.hid hav
  replace htt := Lib.hid htt
  go_wp2_with fail
  refine hsc.out.mono ?_
  rintro r w5 ⟨va, rfl, hva, hk5, -⟩
  have hK5 := Lib.hid (hk3.out.trans hk5)
  by_cases hz : P = 0
  · subst hz
    rw [wz_1 t] at hva
    have hwk := Lib.hid (wakes_tof [0, 0, 0, 0, t, 0] w5 va hva (by simp [kin, areV, isV, bitB, valB] <;> omega))
    have hwe : wk 1 [0, 0, 0, 0, t, 0] = -1 := by unfold wk wkF f6 pre; simp
    rw [hwe] at hwk
    obtain ⟨b6, o6, c6, rfl, -, -, y2, -, -, -⟩ := hva.six
    clear hwe hva hk5 hsc
    go_wp2_with fail
    refine hwk.out.mono ?_
    rintro r w6 ⟨rfl, hk6⟩
    clear hwk
    go_wp2_with (go_at_call 19; refine (awake_c _).mono ?_; rintro r w7 ⟨rfl, hk7⟩)
    go_ret
    exact ⟨rfl, ((hk1.out.trans hK5.out).trans hk6).trans hk7⟩
  · have hpos : 0 < P := by omega
    rw [wp_1 P t hpos] at hva
    have havp : areV (kin 1) [0, P, 1, 0, t, 1] = true := by simp [kin, areV, isV, bitB, valB] <;> omega
    have hwk := Lib.hid (wakes_tof [0, P, 1, 0, t, 1] w5 va hva havp)
    have hwe : wk 1 [0, P, 1, 0, t, 1] = t + P := by
      have p0 : pre P = P := by unfold pre; omega
      unfold wk wkF f6
      simp [p0, hpos]
    rw [hwe] at hwk
    replace hva := Lib.hid hva
    replace havp := Lib.hid havp
    obtain ⟨b6, o6, c6, rfl, -, -, y2, -, -, -⟩ := hva.out.six
    clear hwe hk5 hsc
    have hneg : decide (t + P < 0) = false := by simp; omega
    go_wp2_with fail
    refine hwk.out.mono ?_
    rintro r w6 ⟨rfl, hk6⟩
    clear hwk
    have hva6 := Lib.hid (hva.out.kp hk6)
    have hK6 := Lib.hid (hK5.out.trans hk6)
    have y26 := hk6.cell y2 (by simp)
    clear y2 hva hk6
    have hwtl : wrap64 (t + l) = t + l := IntWalk.wrap64_in _ (by omega)
    go_wp2_with fail
    refine (mod_c a3 6000 _ (by omega) (by omega)).mono ?_
    rintro r w7 ⟨rfl, rfl⟩
    rw [hl.out]
    have hsc2 := scan_tof [0, P, 1, 0, t, 1] (t + l) w7 _ hva6.out havp.out (by simp [isT]; omega)
    obtain ⟨et, s, r9, hst⟩ := wb_1 P t l hpos hlb.1
    rw [hst] at hsc2
    replace hsc2 := Lib.hid hsc2
    replace hst := Lib.hid hst
    go_wp2_with fail
    refine hsc2.out.mono ?_
    rintro r w8 ⟨vb, rfl, hvb, hk8, -⟩
    have hK8 := Lib.hid (hK6.out.trans hk8)
    have y28 := hk8.cell y26 (by simp)
    obtain ⟨b8, o8, c8, rfl, -, -, u28, -, -, -⟩ := hvb.six
    clear hsc2 hvb hk8 y26 hva6
    have hvw : valB (t + P) = true := by simp [valB]; omega
    have hval := Lib.hid (fun W => rValue_c (t + P) W)
    rw [hvw] at hval
    have haw := Lib.hid (fun W => awake_c W)
    clear hvw
    have hall : Hid (∀ W', Kp [] w8 W' → W'.cell? ⟨b6, o6 + 2, none⟩ = some (.int .i64 1) ∧ W'.cell? ⟨b8, o8 + 2, none⟩ = some (.int .i64 (if P ≤ l then 0 else 1))) := fun W' k => ⟨k.cell y28 (by simp), k.cell u28 (by simp)⟩
    have hval2 := Lib.hid (hval.out w8.drew)
    have haw2 := Lib.hid (haw.out w8.drew)
    clear hval haw
    by_cases hp : P ≤ l
    · rw [if_pos hp] at u28 hall
      have hlt : decide (t + l < t + P) = false := by simp; omega
      have hlt2 : decide (l < P) = false := by simp; omega
      replace hp := Lib.hid hp
      go_wp2_with fail
      clear y28 u28
      go_region_held3 (fun W' => W'.cell? ⟨b6, o6 + 2, none⟩ = some (.int .i64 1) ∧ W'.cell? ⟨b8, o8 + 2, none⟩ = some (.int .i64 0))
        (first | exact hall.out _ hk9.out | exact hall.out _ (Kp.refl _ _) | exact hall.out _ (Kp.refl _ _).drew)
        (first | (go_at_call 19; refine haw2.out.mono ?_; rintro r w9 ⟨rfl, hk9⟩; replace hk9 := Lib.hid ((Kp.refl [] w8).drew.trans hk9)) | (go_at_call 29; refine hval2.out.mono ?_; rintro r w10 ⟨rfl, rfl⟩))
      all_goals
        go_wp2_with fail
        go_ret
        exact ⟨rfl, (hk1.out.trans hK8.out).trans hk9.out⟩
    · rw [if_neg hp] at u28 hall
      have hlt : decide (t + l < t + P) = true := by simp; omega
      have hlt2 : decide (l < P) = true := by simp; omega
      replace hp := Lib.hid hp
      go_wp2_with fail
      clear y28 u28
      go_region_held3 (fun W' => W'.cell? ⟨b6, o6 + 2, none⟩ = some (.int .i64 1) ∧ W'.cell? ⟨b8, o8 + 2, none⟩ = some (.int .i64 1))
        (first | exact hall.out _ hk9.out | exact hall.out _ (Kp.refl _ _) | exact hall.out _ (Kp.refl _ _).drew)
        (first | (go_at_call 19; refine haw2.out.mono ?_; rintro r w9 ⟨rfl, hk9⟩; replace hk9 := Lib.hid ((Kp.refl [] w8).drew.trans hk9)) | (go_at_call 29; refine hval2.out.mono ?_; rintro r w10 ⟨rfl, rfl⟩))
      all_goals
        go_wp2_with fail
        go_ret
        exact ⟨rfl, (hk1.out.trans hK8.out).trans hk9.out⟩
set_option maxRecDepth 100000 in
set_option maxHeartbeats 2000000 in
theorem wlaw_2 (a0 a1 a2 a3 : Int) (w : World) (hm : modF a0 3 = 2) : Calls Try.prog 9 #[.int .i64 a0, .int .i64 a1, .int .i64 a2, .int .i64 a3] w fun r w' => r = .returned (.bool true) ∧ Kp [] w w' := by
  have hN := Blk.new w 54 #[.string ⟨#[116, 111, 110]⟩, .string ⟨#[116, 111, 102]⟩, .string ⟨#[116, 112]⟩]
  obtain ⟨w1, hw1⟩ : ∃ W1, w.alloc (.cells #[.string ⟨#[116, 111, 110]⟩, .string ⟨#[116, 111, 102]⟩, .string ⟨#[116, 112]⟩] 54) = W1 := ⟨_, rfl⟩
  have hk1 : Kp [] w w1 := hw1 ▸ (Kp.refl [] w).alloc _
  rw [hw1] at hN
  have nj := hN.cell 2 rfl
  replace hN := Lib.hid hN
  replace hw1 := Lib.hid hw1
  replace hk1 := Lib.hid hk1
  replace hm := Lib.hid hm
  obtain ⟨gn, hgn⟩ : ∃ x, w.heap.size = x := ⟨_, rfl⟩
  rw [hgn] at nj
  have hPb := modF_bd a1 (n := 5000) (by omega)
  have htb := modF_bd a2 (n := 100000) (by omega)
  have hlb := modF_bd a3 (n := 6000) (by omega)
  obtain ⟨P, hP⟩ : ∃ m, modF a1 5000 = m := ⟨_, rfl⟩
  obtain ⟨t, ht⟩ : ∃ m, modF a2 100000 = m := ⟨_, rfl⟩
  obtain ⟨l, hl⟩ : ∃ m, modF a3 6000 = m := ⟨_, rfl⟩
  rw [hP] at hPb
  rw [ht] at htb
  rw [hl] at hlb
  replace hP := Lib.hid hP
  replace ht := Lib.hid ht
  replace hl := Lib.hid hl
  go_enter Try.func9, Try.ntmps9
  go_wp2_with fail
  rw [hw1.out]
  refine (mod_c a0 3 _ (by omega) (by omega)).mono ?_
  rintro r w2 ⟨rfl, rfl⟩
  rw [hm.out]
  try rw [hgn]
  go_wp2_with fail
  refine (mod_c a1 5000 _ (by omega) (by omega)).mono ?_
  rintro r w3 ⟨rfl, rfl⟩
  rw [hP.out]
  go_wp2_with fail
  have hB := Blk.new w3 3 (([1, P, 0, 0, 0, 0] : List Int).map (Value.int .i64)).toArray
  obtain ⟨W3, hW3⟩ : ∃ W3, w3.alloc (.cells #[.int .i64 1, .int .i64 P, .int .i64 0, .int .i64 0, .int .i64 0, .int .i64 0] 3) = W3 := ⟨_, rfl⟩
  have hk3 : Kp [] w3 W3 := hW3 ▸ (Kp.refl [] w3).alloc _
  replace hB : Blk W3 w3.heap.size 3 #[.int .i64 1, .int .i64 P, .int .i64 0, .int .i64 0, .int .i64 0, .int .i64 0] := hW3 ▸ hB
  have hi := Lib.hid (is_lit (n := 6) (zs := [1, P, 0, 0, 0, 0]) hB rfl (by omega) rfl)
  rw [hW3]
  replace hB := Lib.hid hB
  replace hk3 := Lib.hid hk3
  replace hW3 := Lib.hid hW3
  clear nj hN
  refine (mod_c a2 100000 _ (by omega) (by omega)).mono ?_
  rintro r w4 ⟨rfl, rfl⟩
  rw [ht.out]
  have hav : areV (kin 2) [1, P, 0, 0, 0, 0] = true := by simp [kin, areV, isV, bitB, valB] <;> omega
  have htt : isT t = true := by simp [isT]; omega
  have hsc := Lib.hid (scan_tp [1, P, 0, 0, 0, 0] t w4 _ hi.out hav htt)
  replace hav := Lib.hid hav
  replace htt := Lib.hid htt
  go_wp2_with fail
  refine hsc.out.mono ?_
  rintro r w5 ⟨va, rfl, hva, hk5, -⟩
  have hK5 := Lib.hid (hk3.out.trans hk5)
  by_cases hz : P = 0
  · subst hz
    rw [wz_2 t] at hva
    have hwk := Lib.hid (wakes_tp [1, 0, 0, 0, 0, 0] w5 va hva (by simp [kin, areV, isV, bitB, valB] <;> omega))
    have hwe : wk 2 [1, 0, 0, 0, 0, 0] = -1 := by unfold wk wkF f6 pre; simp
    rw [hwe] at hwk
    obtain ⟨b6, o6, c6, rfl, -, -, y2, -, -, -⟩ := hva.six
    clear hwe hva hk5 hsc
    go_wp2_with fail
    refine hwk.out.mono ?_
    rintro r w6 ⟨rfl, hk6⟩
    clear hwk
    go_wp2_with (go_at_call 19; refine (awake_c _).mono ?_; rintro r w7 ⟨rfl, hk7⟩)
    go_ret
    exact ⟨rfl, ((hk1.out.trans hK5.out).trans hk6).trans hk7⟩
  · have hpos : 0 < P := by omega
    rw [wp_2 P t hpos] at hva
    have havp : areV (kin 2) [1, P, 1, 0, t, 1] = true := by simp [kin, areV, isV, bitB, valB] <;> omega
    have hwk := Lib.hid (wakes_tp [1, P, 1, 0, t, 1] w5 va hva havp)
    have hwe : wk 2 [1, P, 1, 0, t, 1] = t + P := by
      have p0 : pre P = P := by unfold pre; omega
      unfold wk wkF f6
      simp [p0, hpos]
    rw [hwe] at hwk
    replace hva := Lib.hid hva
    replace havp := Lib.hid havp
    obtain ⟨b6, o6, c6, rfl, -, -, y2, -, -, -⟩ := hva.out.six
    clear hwe hk5 hsc
    have hneg : decide (t + P < 0) = false := by simp; omega
    go_wp2_with fail
    refine hwk.out.mono ?_
    rintro r w6 ⟨rfl, hk6⟩
    clear hwk
    have hva6 := Lib.hid (hva.out.kp hk6)
    have hK6 := Lib.hid (hK5.out.trans hk6)
    have y26 := hk6.cell y2 (by simp)
    clear y2 hva hk6
    have hwtl : wrap64 (t + l) = t + l := IntWalk.wrap64_in _ (by omega)
    go_wp2_with fail
    refine (mod_c a3 6000 _ (by omega) (by omega)).mono ?_
    rintro r w7 ⟨rfl, rfl⟩
    rw [hl.out]
    have hsc2 := scan_tp [1, P, 1, 0, t, 1] (t + l) w7 _ hva6.out havp.out (by simp [isT]; omega)
    obtain ⟨et, s, r9, hst⟩ := wb_2 P t l hpos hlb.1
    rw [hst] at hsc2
    replace hsc2 := Lib.hid hsc2
    replace hst := Lib.hid hst
    go_wp2_with fail
    refine hsc2.out.mono ?_
    rintro r w8 ⟨vb, rfl, hvb, hk8, -⟩
    have hK8 := Lib.hid (hK6.out.trans hk8)
    have y28 := hk8.cell y26 (by simp)
    obtain ⟨b8, o8, c8, rfl, -, -, u28, -, -, -⟩ := hvb.six
    clear hsc2 hvb hk8 y26 hva6
    have hvw : valB (t + P) = true := by simp [valB]; omega
    have hval := Lib.hid (fun W => rValue_c (t + P) W)
    rw [hvw] at hval
    have haw := Lib.hid (fun W => awake_c W)
    clear hvw
    have hall : Hid (∀ W', Kp [] w8 W' → W'.cell? ⟨b6, o6 + 2, none⟩ = some (.int .i64 1) ∧ W'.cell? ⟨b8, o8 + 2, none⟩ = some (.int .i64 (if P ≤ l then 0 else 1))) := fun W' k => ⟨k.cell y28 (by simp), k.cell u28 (by simp)⟩
    have hval2 := Lib.hid (hval.out w8.drew)
    have haw2 := Lib.hid (haw.out w8.drew)
    clear hval haw
    by_cases hp : P ≤ l
    · rw [if_pos hp] at u28 hall
      have hlt : decide (t + l < t + P) = false := by simp; omega
      have hlt2 : decide (l < P) = false := by simp; omega
      replace hp := Lib.hid hp
      go_wp2_with fail
      clear y28 u28
      go_region_held3 (fun W' => W'.cell? ⟨b6, o6 + 2, none⟩ = some (.int .i64 1) ∧ W'.cell? ⟨b8, o8 + 2, none⟩ = some (.int .i64 0))
        (first | exact hall.out _ hk9.out | exact hall.out _ (Kp.refl _ _) | exact hall.out _ (Kp.refl _ _).drew)
        (first | (go_at_call 19; refine haw2.out.mono ?_; rintro r w9 ⟨rfl, hk9⟩; replace hk9 := Lib.hid ((Kp.refl [] w8).drew.trans hk9)) | (go_at_call 29; refine hval2.out.mono ?_; rintro r w10 ⟨rfl, rfl⟩))
      all_goals
        go_wp2_with fail
        go_ret
        exact ⟨rfl, (hk1.out.trans hK8.out).trans hk9.out⟩
    · rw [if_neg hp] at u28 hall
      have hlt : decide (t + l < t + P) = true := by simp; omega
      have hlt2 : decide (l < P) = true := by simp; omega
      replace hp := Lib.hid hp
      go_wp2_with fail
      clear y28 u28
      go_region_held3 (fun W' => W'.cell? ⟨b6, o6 + 2, none⟩ = some (.int .i64 1) ∧ W'.cell? ⟨b8, o8 + 2, none⟩ = some (.int .i64 1))
        (first | exact hall.out _ hk9.out | exact hall.out _ (Kp.refl _ _) | exact hall.out _ (Kp.refl _ _).drew)
        (first | (go_at_call 19; refine haw2.out.mono ?_; rintro r w9 ⟨rfl, hk9⟩; replace hk9 := Lib.hid ((Kp.refl [] w8).drew.trans hk9)) | (go_at_call 29; refine hval2.out.mono ?_; rintro r w10 ⟨rfl, rfl⟩))
      all_goals
        go_wp2_with fail
        go_ret
        exact ⟨rfl, (hk1.out.trans hK8.out).trans hk9.out⟩
theorem wlaw_c (a0 a1 a2 a3 : Int) (w : World) : Calls Try.prog 9 #[.int .i64 a0, .int .i64 a1, .int .i64 a2, .int .i64 a3] w fun r w' => r = .returned (.bool true) ∧ Kp [] w w' := by
  have h := modF_bd a0 (n := 3) (by omega)
  rcases (show modF a0 3 = 0 ∨ modF a0 3 = 1 ∨ modF a0 3 = 2 by omega) with hm | hm | hm
  · exact wlaw_0 a0 a1 a2 a3 w hm
  · exact wlaw_1 a0 a1 a2 a3 w hm
  · exact wlaw_2 a0 a1 a2 a3 w hm
end Go.Proofs.Ytieacfenoomaeaa
