import Derived.Test.YtldfddjacmgiaaaQd2
set_option linter.unusedSimpArgs false
set_option linter.unusedVariables false
namespace Go.Proofs.Ytldfddjacmgiaaa
open Go.RowKit

theorem Is.three {w : World} {v : Value} {z0 z1 z2 : Int} (h : Is w v [z0, z1, z2]) : ∃ b o c, v = .slice (some ⟨b, o, none⟩) 3 c ∧ w.cell? ⟨b, o + 0, none⟩ = some (.int .i64 z0) ∧ w.cell? ⟨b, o + 1, none⟩ = some (.int .i64 z1) ∧ w.cell? ⟨b, o + 2, none⟩ = some (.int .i64 z2) := by
  obtain ⟨p, c, h1, h2, h3, h4⟩ := h
  rcases h4 with h4 | ⟨b, o, rfl, h5⟩
  · cases h4
  · exact ⟨b, o, c, h1, h5 0 (Nat.succ_pos _), h5 1 (by show 1 < 3; omega), h5 2 (by show 2 < 3; omega)⟩
/-- What holds of a timer's cells that executions made. -/
def TOk (j : Nat) (q et s r : Int) : Prop := (q = 0 ∨ q = 1) ∧ (r = 0 ∨ r = 1) ∧ (0 ≤ et ∧ et ≤ 2000) ∧ (0 ≤ s ∧ s ≤ 1000000) ∧ (j = 1 → q = 0 → r = 0)
theorem pre_le {B : Int} (h : B ≤ 1990) : pre B ≤ 1990 := by unfold pre; omega
theorem gone_le {B e now : Int} (h : B ≤ 1990) : 0 ≤ gone B e now ∧ gone B e now ≤ 1990 ∧ gone B e now ≤ max B 0 := by unfold gone; omega
theorem timer_inv (j : Nat) (hj : j < 3) (C B q et s r now : Int) (hC : C = 0 ∨ C = 1) (hB : -10 ≤ B ∧ B ≤ 1990) (h : TOk j q et s r) (hn : 0 ≤ now ∧ now ≤ 1000000) :
    ∃ q' et' s' r', stp j [C, B, q, et, s, r] now = [C, B, q', et', s', r'] ∧ TOk j q' et' s' r' ∧ (r' = 1 → et' ≤ max B 0) := by
  obtain ⟨hq, hr, het, hs, hqr⟩ := h
  have g1 := gone_le (e := s) (now := now) hB.2
  have g2 := gone_le (e := now) (now := now) hB.2
  rcases (show j = 0 ∨ j = 1 ∨ j = 2 by omega) with rfl | rfl | rfl
  · have e : stp 0 [C, B, q, et, s, r] now = (tonF ⟨C, B, q, et, s, r⟩ now).list := rfl
    rw [e]
    unfold tonF
    by_cases hc : C = 0
    · exact ⟨0, 0, s, 0, by simp [hc, F6.list], ⟨.inl rfl, .inl rfl, by omega, hs, by omega⟩, by omega⟩
    · rcases hr with rfl | rfl
      · exact ⟨oneOf (decide (pre B ≤ gone B now now)), gone B now now, now, 1, by simp [hc, F6.list], ⟨oneOf_bit _, .inr rfl, by omega, hn, by omega⟩, fun _ => g2.2.2⟩
      · exact ⟨oneOf (decide (pre B ≤ gone B s now)), gone B s now, s, 1, by simp [hc, F6.list], ⟨oneOf_bit _, .inr rfl, by omega, hs, by omega⟩, fun _ => g1.2.2⟩
  · have e : stp 1 [C, B, q, et, s, r] now = (tofF ⟨C, B, q, et, s, r⟩ now).list := rfl
    rw [e]
    unfold tofF
    by_cases hc : C = 1
    · exact ⟨1, 0, s, 0, by simp [hc, F6.list], ⟨.inr rfl, .inl rfl, by omega, hs, by omega⟩, by omega⟩
    · rcases hq with rfl | rfl
      · have hr0 := hqr rfl rfl
        exact ⟨0, et, s, r, by simp [hc, F6.list], ⟨.inl rfl, hr, het, hs, fun _ _ => hr0⟩, by omega⟩
      · rcases hr with rfl | rfl
        · by_cases hb : pre B ≤ gone B now now
          · exact ⟨0, gone B now now, now, 0, by simp [hc, F6.list, hb], ⟨.inl rfl, .inl rfl, by omega, hn, fun _ _ => rfl⟩, by omega⟩
          · exact ⟨1, gone B now now, now, 1, by simp [hc, F6.list, hb], ⟨.inr rfl, .inr rfl, by omega, hn, by omega⟩, fun _ => g2.2.2⟩
        · by_cases hb : pre B ≤ gone B s now
          · exact ⟨0, gone B s now, s, 0, by simp [hc, F6.list, hb], ⟨.inl rfl, .inl rfl, by omega, hs, fun _ _ => rfl⟩, by omega⟩
          · exact ⟨1, gone B s now, s, 1, by simp [hc, F6.list, hb], ⟨.inr rfl, .inr rfl, by omega, hs, by omega⟩, fun _ => g1.2.2⟩
  · have e : stp 2 [C, B, q, et, s, r] now = (tpF ⟨C, B, q, et, s, r⟩ now).list := rfl
    rw [e]
    unfold tpF
    have key : ∀ q et s r : Int, (q = 0 ∨ q = 1) → (r = 0 ∨ r = 1) → (0 ≤ et ∧ et ≤ 2000) → (0 ≤ s ∧ s ≤ 1000000) → ∃ q' et' s' r', (tpE ⟨C, B, q, et, s, r⟩ now).list = [C, B, q', et', s', r'] ∧ TOk 2 q' et' s' r' ∧ (r' = 1 → et' ≤ max B 0) := by
      intro q et s r hq hr het hs
      have g1 := gone_le (e := s) (now := now) hB.2
      unfold tpE
      rcases hr with rfl | rfl
      · by_cases hc : C = 0
        · exact ⟨q, 0, s, 0, by simp [hc, F6.list], ⟨hq, .inl rfl, by omega, hs, by omega⟩, by omega⟩
        · exact ⟨q, et, s, 0, by simp [hc, F6.list], ⟨hq, .inl rfl, het, hs, by omega⟩, by omega⟩
      · by_cases hb : pre B ≤ gone B s now
        · by_cases hc : C = 0
          · exact ⟨0, 0, s, 0, by simp [hc, F6.list, hb], ⟨.inl rfl, .inl rfl, by omega, hs, by omega⟩, by omega⟩
          · exact ⟨0, gone B s now, s, 0, by simp [hc, F6.list, hb], ⟨.inl rfl, .inl rfl, by omega, hs, by omega⟩, by omega⟩
        · exact ⟨q, gone B s now, s, 1, by simp [F6.list, hb], ⟨hq, .inr rfl, by omega, hs, by omega⟩, fun _ => g1.2.2⟩
    by_cases hst : r = 0 ∧ C = 1 ∧ q = 0 ∧ et = 0 ∧ 0 < B
    · rw [if_pos hst]
      exact key 1 et now 1 (.inr rfl) (.inr rfl) het hn
    · rw [if_neg hst]
      exact key q et s r hq hr het hs
theorem are_tim {j : Nat} (hj : j < 3) {C B q et s r : Int} (hC : C = 0 ∨ C = 1) (hB : -10 ≤ B ∧ B ≤ 1990) (h : TOk j q et s r) : areV (kin j) [C, B, q, et, s, r] = true := by
  obtain ⟨hq, hr, het, hs, _⟩ := h
  have e : kin j = [1, 3, 1, 3, 3, 1] := by rcases (show j = 0 ∨ j = 1 ∨ j = 2 by omega) with rfl | rfl | rfl <;> rfl
  rw [e]
  simp [areV, isV, bitB, valB]
  omega
set_option maxRecDepth 100000 in
set_option maxHeartbeats 4000000 in
theorem timers_0 (a0 : Int) (v1 v2 : Value) (rs : List (Int × Int)) (zs : List Int) (w : World) (hz : Ps w v1 rs) (hy : Is w v2 zs) (hm : modF a0 3 = 0) : Calls Try.prog 6 #[.int .i64 a0, v1, v2] w fun r w' => r = .returned (.bool true) ∧ Kp [] w w' := by
  obtain ⟨q1, c1, rfl, hn1, hc1⟩ := hz.val
  obtain ⟨q2, c2, rfl, hn2, hc2⟩ := hy.val
  obtain ⟨len, hn⟩ : ∃ n, rs.length = n := ⟨_, rfl⟩
  obtain ⟨len2, hn'⟩ : ∃ n, zs.length = n := ⟨_, rfl⟩
  rw [hn] at hz hn1 ⊢
  rw [hn'] at hy hn2 ⊢
  have hbig : len ≤ 9223372036854775807 := by omega
  have hbig2 : len2 ≤ 9223372036854775807 := by omega
  have hN := Blk.new w 54 #[.string ⟨#[116, 111, 110]⟩, .string ⟨#[116, 111, 102]⟩, .string ⟨#[116, 112]⟩]
  obtain ⟨w1, hw1⟩ : ∃ W1, w.alloc (.cells #[.string ⟨#[116, 111, 110]⟩, .string ⟨#[116, 111, 102]⟩, .string ⟨#[116, 112]⟩] 54) = W1 := ⟨_, rfl⟩
  have hk1 : Kp [] w w1 := hw1 ▸ (Kp.refl [] w).alloc _
  rw [hw1] at hN
  have nj := hN.cell 0 rfl
  replace hz := Lib.hid (hz.kp hk1)
  replace hy := Lib.hid (hy.kp hk1)
  replace hn := Lib.hid hn
  replace hn' := Lib.hid hn'
  replace hN := Lib.hid hN
  replace hw1 := Lib.hid hw1
  replace hk1 := Lib.hid hk1
  replace hm := Lib.hid hm
  clear hn1 hn2 hc1 hc2
  obtain ⟨gn, hgn⟩ : ∃ x, w.heap.size = x := ⟨_, rfl⟩
  rw [hgn] at nj
  go_enter Try.func6, Try.ntmps6
  go_wp2_with fail
  rw [hw1.out]
  refine (mod_c a0 3 _ (by omega) (by omega)).mono ?_
  rintro r w2 ⟨rfl, rfl⟩
  rw [hm.out]
  try rw [hgn]
  have hA := ow_lit (w0 := w2) (w := w2) (zs := [0, 0, 0, 0, 0, 0]) (n := 6) rfl (by omega) (Nat.le_refl _) rfl
  have hk3 := ((Kp.refl [] w2).alloc (.cells #[.int .i64 0, .int .i64 0, .int .i64 0, .int .i64 0, .int .i64 0, .int .i64 0] 3))
  obtain ⟨W3, hW3⟩ : ∃ W3, w2.alloc (.cells #[.int .i64 0, .int .i64 0, .int .i64 0, .int .i64 0, .int .i64 0, .int .i64 0] 3) = W3 := ⟨_, rfl⟩
  replace hA : Ow w2 W3 (.slice (some ⟨w2.heap.size, 0, none⟩) 6 6) [0, 0, 0, 0, 0, 0] := hW3 ▸ hA
  rw [hW3] at hk3
  replace hA := Lib.hid hA
  replace hk3 := Lib.hid hk3
  replace hW3 := Lib.hid hW3
  go_wp2_with fail
  rw [hW3.out]
  obtain ⟨gx, hgx⟩ : ∃ x, w2.heap.size = x := ⟨_, rfl⟩
  rw [hgx] at hA ⊢
  clear nj hN
  go_loopw [9, 10, 11] (fun uc ut i wr => ∃ (k g d : Nat) (now a b q et s r : Int), k ≤ len ∧ k ≤ len2 ∧ k ≤ 60 ∧ i = .int .i64 k ∧ ut = .int .i64 now ∧ uc = .slice (some ⟨g, 0, none⟩) 6 d ∧ (0 ≤ now ∧ now ≤ 1000 * k) ∧ Hid (TOk 0 q et s r) ∧ Hid (Ow w2 wr (.slice (some ⟨g, 0, none⟩) 6 d) [a, b, q, et, s, r]) ∧ Hid (Kp [] w2 wr)) (fun _ _ i _ => len - (intOf i).toNat)
  case atStart => exact ⟨0, gx, 6, 0, 0, 0, 0, 0, 0, 0, Nat.zero_le _, Nat.zero_le _, Nat.zero_le _, rfl, rfl, rfl, by omega, ⟨.inl rfl, .inl rfl, by omega, by omega, fun _ _ => rfl⟩, hA.out, hk3.out⟩
  case round =>
    obtain ⟨k, g, d, now, a, b, q, et, s, r, hk, hkk, hk60, rfl, rfl, rfl, hnow, hT, hU, hK⟩ := hrel
    by_cases hlt : k < len ∧ k < len2 ∧ k < 60
    · obtain ⟨hlt, hlt2, hlt60⟩ := hlt
      obtain ⟨b1, off, x, y, rfl, hc, hd⟩ := (hz.out.kp hK.out).at_ k (by rw [hn.out]; exact hlt)
      obtain ⟨b2, off2, rfl, hst⟩ := (hy.out.kp hK.out).at_ k (by rw [hn'.out]; exact hlt2)
      obtain ⟨z, hzz⟩ : ∃ z, zs.getD k 0 = z := ⟨_, rfl⟩
      rw [hzz] at hst
      replace hzz := Lib.hid hzz
      have hd60 : decide ((k : Int) < 60) = true := by simp; omega
      obtain ⟨g', d', h', hg, hgl, e0, e1, -, -, -, -, f⟩ := hU.out.six
      simp at h'
      obtain ⟨rfl, rfl⟩ := h'
      have f0 := f 0
      have f1 := f 1
      clear f
      have hC := modF_bd x (n := 2) (by omega)
      have hB := modF_bd y (n := 2000) (by omega)
      have hS := modF_bd z (n := 1000) (by omega)
      obtain ⟨C, hCC⟩ : ∃ m, modF x 2 = m := ⟨_, rfl⟩
      obtain ⟨B, hBB⟩ : ∃ m, modF y 2000 = m := ⟨_, rfl⟩
      obtain ⟨S, hSS⟩ : ∃ m, modF z 1000 = m := ⟨_, rfl⟩
      rw [hCC] at hC
      rw [hBB] at hB
      rw [hSS] at hS
      replace hCC := Lib.hid hCC
      replace hBB := Lib.hid hBB
      replace hSS := Lib.hid hSS
      have hwB : wrap64 (B - 10) = B - 10 := IntWalk.wrap64_in _ (by omega)
      have hwS : wrap64 (now + S) = now + S := IntWalk.wrap64_in _ (by omega)
      have hb1 : b1 ∉ [g] := by
        obtain ⟨b1', off', x', y', hp', hc', -⟩ := hz.out.at_ k (by rw [hn.out]; exact hlt)
        simp at hp'
        obtain ⟨rfl, rfl⟩ := hp'
        have hlb : b1 < w2.heap.size := World.block_lt_of_cell? w2 _ hc'
        simp
        omega
      have hb2 : b2 ∉ [g] := by
        obtain ⟨b2', off2', hp', hc'⟩ := hy.out.at_ k (by rw [hn'.out]; exact hlt2)
        simp at hp'
        obtain ⟨rfl, rfl⟩ := hp'
        have hlb : b2 < w2.heap.size := World.block_lt_of_cell? w2 _ hc'
        simp
        omega
      have k1 : Kp [g] wr (wr.setCell ⟨g, 0, none⟩ (.int .i64 C)) := (Kp.refl [g] wr).setCell (p := ⟨g, 0, none⟩) (.inl (by simp)) _
      have k2 := k1.setCell (p := ⟨g, 1, none⟩) (.inl (by simp)) (.int .i64 (B - 10))
      have hd' := k1.cell hd hb1
      have hst' := k2.cell hst hb2
      replace k1 := Lib.hid k1
      replace k2 := Lib.hid k2
      replace hb1 := Lib.hid hb1
      replace hb2 := Lib.hid hb2
      clear hd hst
      go_wp2_with fail
      refine (mod_c x 2 _ (by omega) (by omega)).mono ?_
      rintro r' w4 ⟨rfl, rfl⟩
      rw [hCC.out]
      go_wp2_with fail
      refine (mod_c y 2000 _ (by omega) (by omega)).mono ?_
      rintro r' w5 ⟨rfl, hw5⟩
      rw [hBB.out]
      subst hw5
      go_wp2_with fail
      refine (mod_c z 1000 _ (by omega) (by omega)).mono ?_
      rintro r' w6 ⟨rfl, hw6⟩
      rw [hSS.out]
      subst hw6
      have hU3 : Ow w2 ((w4.setCell ⟨g, 0, none⟩ (.int .i64 C)).setCell ⟨g, 1, none⟩ (.int .i64 (B - 10))) (.slice (some ⟨g, 0, none⟩) 6 d) [C, B - 10, q, et, s, r] := (hU.out.set 0 (by show 0 < 6; omega) C).set 1 (by show 1 < 6; omega) (B - 10)
      have hK3 := Lib.hid ((hK.out.setCell (p := ⟨g, 0, none⟩) (.inr hg) (.int .i64 C)).setCell (p := ⟨g, 1, none⟩) (.inr hg) (.int .i64 (B - 10)))
      obtain ⟨W7, hW7⟩ : ∃ W7, (w4.setCell ⟨g, 0, none⟩ (.int .i64 C)).setCell ⟨g, 1, none⟩ (.int .i64 (B - 10)) = W7 := ⟨_, rfl⟩
      rw [hW7] at hU3 hK3 ⊢
      clear hc hd' hst' k1 k2 hb1 hb2 e0 e1 f0 f1
      replace hU3 := Lib.hid hU3
      replace hW7 := Lib.hid hW7
      have htt : 0 ≤ now + S ∧ now + S ≤ 1000 * (k + 1) := by omega
      obtain ⟨q', et', s', r2, hstp, hT', hle⟩ := timer_inv 0 (by omega) C (B - 10) q et s r (now + S) (by omega) (by omega) hT.out (by omega)
      have hsc := scan_ton [C, B - 10, q, et, s, r] (now + S) W7 _ hU3.out.is (are_tim (j := 0) (by omega) (by omega) (by omega) hT.out) (by simp [isT]; omega)
      rw [hstp] at hsc
      replace hsc := Lib.hid hsc
      replace hstp := Lib.hid hstp
      go_wp2_with fail
      obtain ⟨t, ht⟩ : ∃ t, now + S = t := ⟨_, rfl⟩
      rw [ht] at hsc htt ⊢
      replace ht := Lib.hid ht
      refine hsc.out.mono ?_
      rintro r' w8 ⟨vd, rfl, hvd, hk8, hO8⟩
      have hK8 := Lib.hid (hK3.out.trans hk8)
      have hO8' := hO8.base (w0 := w2) hK3.out.size
      obtain ⟨g8, d8, rfl, -, -, -, y1, -, y3, -, y5, -⟩ := hO8'.six
      obtain ⟨hq', hr', het', hs', hqr'⟩ := hT'
      have hTT := Lib.hid (show TOk 0 q' et' s' r2 from ⟨hq', hr', het', hs', hqr'⟩)
      replace hO8' := Lib.hid hO8'
      clear hsc hvd hk8 hO8 hU3 hK3 hU hT
      replace hqr' := Lib.hid hqr'
      have het0 : decide (et' < 0) = false := by simp; omega
      obtain ⟨M, hM⟩ : ∃ M, max (B - 10) 0 = M := ⟨_, rfl⟩
      rw [hM] at hle
      by_cases hgt : M < et'
      · have hg1 : decide (M < et') = true := by simpa using hgt
        obtain rfl : r2 = 0 := by omega
        replace hle := Lib.hid hle
        go_wp2_with fail
        go_quiet (fail)
        go_wp2
        go_roundw
        case rel => exact ⟨k + 1, g8, d8, t, C, B - 10, q', et', s', 0, by omega, by omega, by omega, by go_num, rfl, rfl, by omega, hTT.out, hO8'.out.kp ((Kp.refl [] _).drewN _), hK8.out.drewN _⟩
        case measure => simp [intOf]; omega
      · have hg1 : decide (M < et') = false := by simpa using hgt
        replace hle := Lib.hid hle
        go_wp2_with fail
        go_quiet (fail)
        go_wp2
        go_roundw
        case rel => exact ⟨k + 1, g8, d8, t, C, B - 10, q', et', s', r2, by omega, by omega, by omega, by go_num, rfl, rfl, by omega, hTT.out, hO8'.out.kp ((Kp.refl [] _).drewN _), hK8.out.drewN _⟩
        case measure => simp [intOf]; omega
    · have hfin : Hid (¬ (k < len ∧ k < len2 ∧ k < 60)) := hlt
      clear hz hy
      rcases (show k = len ∨ (k < len ∧ k = len2) ∨ (k < len ∧ k < len2 ∧ k = 60) by omega) with hf | ⟨hf0, hf⟩ | ⟨hf0, hf1, hf⟩
      · subst hf
        have hZ1 := Blk.new wr 3 #[.int .i64 1, .int .i64 1, .int .i64 0]
        obtain ⟨W5, hW5⟩ : ∃ W5, wr.alloc (.cells #[.int .i64 1, .int .i64 1, .int .i64 0] 3) = W5 := ⟨_, rfl⟩
        have hK5 : Kp [] w2 W5 := hW5 ▸ hK.out.alloc _
        rw [hW5] at hZ1
        have hi5 := Lib.hid (is_lit (n := 3) (zs := [1, 1, 0]) hZ1 rfl (by omega) rfl)
        replace hZ1 := Lib.hid hZ1
        replace hW5 := Lib.hid hW5
        replace hK5 := Lib.hid hK5
        clear hfin hlt hU
        go_wp2_with fail
        rw [hW5.out]
        have hsr := scan_sr [1, 1, 0] now W5 _ hi5.out (by decide) (by simp [isT]; omega)
        refine hsr.mono ?_
        clear hsr
        rintro r w6 ⟨va, rfl, hva, hk6, -⟩
        have hva' : Is w6 va [1, 1, 1] := hva
        have hK6 := Lib.hid (hK5.out.trans hk6)
        replace hva' := Lib.hid hva'
        clear hva hk6
        have hZ2 := Blk.new w6 3 #[.int .i64 1, .int .i64 1, .int .i64 1]
        obtain ⟨W7, hW7⟩ : ∃ W7, w6.alloc (.cells #[.int .i64 1, .int .i64 1, .int .i64 1] 3) = W7 := ⟨_, rfl⟩
        have hk7 : Kp [] w6 W7 := hW7 ▸ (Kp.refl [] w6).alloc _
        rw [hW7] at hZ2
        have hi7 := Lib.hid (is_lit (n := 3) (zs := [1, 1, 1]) hZ2 rfl (by omega) rfl)
        have hva7 := Lib.hid (hva'.out.kp hk7)
        have hK7 := Lib.hid (hK6.out.trans hk7)
        replace hZ2 := Lib.hid hZ2
        replace hW7 := Lib.hid hW7
        clear hk7
        go_wp2_with fail
        rw [hW7.out]
        have hsr := scan_rs [1, 1, 1] now W7 _ hi7.out (by decide) (by simp [isT]; omega)
        refine hsr.mono ?_
        clear hsr
        rintro r w8 ⟨vb, rfl, hvb, hk8, -⟩
        have hvb' : Is w8 vb [1, 1, 0] := hvb
        have hva8 := hva7.out.kp hk8
        have hK8 := Lib.hid (hK7.out.trans hk8)
        obtain ⟨b8, o8, c8, rfl, -, -, y2⟩ := hva8.three
        obtain ⟨b9, o9, c9, rfl, -, -, u2⟩ := hvb'.three
        clear hvb hk8 hva8 hvb' hva7 hva'
        go_wp2_with (go_at_call 19; refine (awake_c _).mono ?_; rintro r w9 ⟨rfl, hk9⟩)
        go_ret
        exact ⟨rfl, hk1.out.trans (hK8.out.trans hk9)⟩
      · subst hf
        have hd0 : decide ((k : Int) < len) = true := by simp; omega
        have hZ1 := Blk.new wr 3 #[.int .i64 1, .int .i64 1, .int .i64 0]
        obtain ⟨W5, hW5⟩ : ∃ W5, wr.alloc (.cells #[.int .i64 1, .int .i64 1, .int .i64 0] 3) = W5 := ⟨_, rfl⟩
        have hK5 : Kp [] w2 W5 := hW5 ▸ hK.out.alloc _
        rw [hW5] at hZ1
        have hi5 := Lib.hid (is_lit (n := 3) (zs := [1, 1, 0]) hZ1 rfl (by omega) rfl)
        replace hZ1 := Lib.hid hZ1
        replace hW5 := Lib.hid hW5
        replace hK5 := Lib.hid hK5
        clear hfin hlt hU
        go_wp2_with fail
        rw [hW5.out]
        have hsr := scan_sr [1, 1, 0] now W5 _ hi5.out (by decide) (by simp [isT]; omega)
        refine hsr.mono ?_
        clear hsr
        rintro r w6 ⟨va, rfl, hva, hk6, -⟩
        have hva' : Is w6 va [1, 1, 1] := hva
        have hK6 := Lib.hid (hK5.out.trans hk6)
        replace hva' := Lib.hid hva'
        clear hva hk6
        have hZ2 := Blk.new w6 3 #[.int .i64 1, .int .i64 1, .int .i64 1]
        obtain ⟨W7, hW7⟩ : ∃ W7, w6.alloc (.cells #[.int .i64 1, .int .i64 1, .int .i64 1] 3) = W7 := ⟨_, rfl⟩
        have hk7 : Kp [] w6 W7 := hW7 ▸ (Kp.refl [] w6).alloc _
        rw [hW7] at hZ2
        have hi7 := Lib.hid (is_lit (n := 3) (zs := [1, 1, 1]) hZ2 rfl (by omega) rfl)
        have hva7 := Lib.hid (hva'.out.kp hk7)
        have hK7 := Lib.hid (hK6.out.trans hk7)
        replace hZ2 := Lib.hid hZ2
        replace hW7 := Lib.hid hW7
        clear hk7
        go_wp2_with fail
        rw [hW7.out]
        have hsr := scan_rs [1, 1, 1] now W7 _ hi7.out (by decide) (by simp [isT]; omega)
        refine hsr.mono ?_
        clear hsr
        rintro r w8 ⟨vb, rfl, hvb, hk8, -⟩
        have hvb' : Is w8 vb [1, 1, 0] := hvb
        have hva8 := hva7.out.kp hk8
        have hK8 := Lib.hid (hK7.out.trans hk8)
        obtain ⟨b8, o8, c8, rfl, -, -, y2⟩ := hva8.three
        obtain ⟨b9, o9, c9, rfl, -, -, u2⟩ := hvb'.three
        clear hvb hk8 hva8 hvb' hva7 hva'
        go_wp2_with (go_at_call 19; refine (awake_c _).mono ?_; rintro r w9 ⟨rfl, hk9⟩)
        go_ret
        exact ⟨rfl, hk1.out.trans (hK8.out.trans hk9)⟩
      · have hd60 : decide ((k : Int) < 60) = false := by simp; omega
        have hZ1 := Blk.new wr 3 #[.int .i64 1, .int .i64 1, .int .i64 0]
        obtain ⟨W5, hW5⟩ : ∃ W5, wr.alloc (.cells #[.int .i64 1, .int .i64 1, .int .i64 0] 3) = W5 := ⟨_, rfl⟩
        have hK5 : Kp [] w2 W5 := hW5 ▸ hK.out.alloc _
        rw [hW5] at hZ1
        have hi5 := Lib.hid (is_lit (n := 3) (zs := [1, 1, 0]) hZ1 rfl (by omega) rfl)
        replace hZ1 := Lib.hid hZ1
        replace hW5 := Lib.hid hW5
        replace hK5 := Lib.hid hK5
        clear hfin hlt hU
        go_wp2_with fail
        rw [hW5.out]
        have hsr := scan_sr [1, 1, 0] now W5 _ hi5.out (by decide) (by simp [isT]; omega)
        refine hsr.mono ?_
        clear hsr
        rintro r w6 ⟨va, rfl, hva, hk6, -⟩
        have hva' : Is w6 va [1, 1, 1] := hva
        have hK6 := Lib.hid (hK5.out.trans hk6)
        replace hva' := Lib.hid hva'
        clear hva hk6
        have hZ2 := Blk.new w6 3 #[.int .i64 1, .int .i64 1, .int .i64 1]
        obtain ⟨W7, hW7⟩ : ∃ W7, w6.alloc (.cells #[.int .i64 1, .int .i64 1, .int .i64 1] 3) = W7 := ⟨_, rfl⟩
        have hk7 : Kp [] w6 W7 := hW7 ▸ (Kp.refl [] w6).alloc _
        rw [hW7] at hZ2
        have hi7 := Lib.hid (is_lit (n := 3) (zs := [1, 1, 1]) hZ2 rfl (by omega) rfl)
        have hva7 := Lib.hid (hva'.out.kp hk7)
        have hK7 := Lib.hid (hK6.out.trans hk7)
        replace hZ2 := Lib.hid hZ2
        replace hW7 := Lib.hid hW7
        clear hk7
        go_wp2_with fail
        rw [hW7.out]
        have hsr := scan_rs [1, 1, 1] now W7 _ hi7.out (by decide) (by simp [isT]; omega)
        refine hsr.mono ?_
        clear hsr
        rintro r w8 ⟨vb, rfl, hvb, hk8, -⟩
        have hvb' : Is w8 vb [1, 1, 0] := hvb
        have hva8 := hva7.out.kp hk8
        have hK8 := Lib.hid (hK7.out.trans hk8)
        obtain ⟨b8, o8, c8, rfl, -, -, y2⟩ := hva8.three
        obtain ⟨b9, o9, c9, rfl, -, -, u2⟩ := hvb'.three
        clear hvb hk8 hva8 hvb' hva7 hva'
        go_wp2_with (go_at_call 19; refine (awake_c _).mono ?_; rintro r w9 ⟨rfl, hk9⟩)
        go_ret
        exact ⟨rfl, hk1.out.trans (hK8.out.trans hk9)⟩
set_option maxRecDepth 100000 in
set_option maxHeartbeats 4000000 in
theorem timers_1 (a0 : Int) (v1 v2 : Value) (rs : List (Int × Int)) (zs : List Int) (w : World) (hz : Ps w v1 rs) (hy : Is w v2 zs) (hm : modF a0 3 = 1) : Calls Try.prog 6 #[.int .i64 a0, v1, v2] w fun r w' => r = .returned (.bool true) ∧ Kp [] w w' := by
  obtain ⟨q1, c1, rfl, hn1, hc1⟩ := hz.val
  obtain ⟨q2, c2, rfl, hn2, hc2⟩ := hy.val
  obtain ⟨len, hn⟩ : ∃ n, rs.length = n := ⟨_, rfl⟩
  obtain ⟨len2, hn'⟩ : ∃ n, zs.length = n := ⟨_, rfl⟩
  rw [hn] at hz hn1 ⊢
  rw [hn'] at hy hn2 ⊢
  have hbig : len ≤ 9223372036854775807 := by omega
  have hbig2 : len2 ≤ 9223372036854775807 := by omega
  have hN := Blk.new w 54 #[.string ⟨#[116, 111, 110]⟩, .string ⟨#[116, 111, 102]⟩, .string ⟨#[116, 112]⟩]
  obtain ⟨w1, hw1⟩ : ∃ W1, w.alloc (.cells #[.string ⟨#[116, 111, 110]⟩, .string ⟨#[116, 111, 102]⟩, .string ⟨#[116, 112]⟩] 54) = W1 := ⟨_, rfl⟩
  have hk1 : Kp [] w w1 := hw1 ▸ (Kp.refl [] w).alloc _
  rw [hw1] at hN
  have nj := hN.cell 1 rfl
  replace hz := Lib.hid (hz.kp hk1)
  replace hy := Lib.hid (hy.kp hk1)
  replace hn := Lib.hid hn
  replace hn' := Lib.hid hn'
  replace hN := Lib.hid hN
  replace hw1 := Lib.hid hw1
  replace hk1 := Lib.hid hk1
  replace hm := Lib.hid hm
  clear hn1 hn2 hc1 hc2
  obtain ⟨gn, hgn⟩ : ∃ x, w.heap.size = x := ⟨_, rfl⟩
  rw [hgn] at nj
  go_enter Try.func6, Try.ntmps6
  go_wp2_with fail
  rw [hw1.out]
  refine (mod_c a0 3 _ (by omega) (by omega)).mono ?_
  rintro r w2 ⟨rfl, rfl⟩
  rw [hm.out]
  try rw [hgn]
  have hA := ow_lit (w0 := w2) (w := w2) (zs := [0, 0, 0, 0, 0, 0]) (n := 6) rfl (by omega) (Nat.le_refl _) rfl
  have hk3 := ((Kp.refl [] w2).alloc (.cells #[.int .i64 0, .int .i64 0, .int .i64 0, .int .i64 0, .int .i64 0, .int .i64 0] 3))
  obtain ⟨W3, hW3⟩ : ∃ W3, w2.alloc (.cells #[.int .i64 0, .int .i64 0, .int .i64 0, .int .i64 0, .int .i64 0, .int .i64 0] 3) = W3 := ⟨_, rfl⟩
  replace hA : Ow w2 W3 (.slice (some ⟨w2.heap.size, 0, none⟩) 6 6) [0, 0, 0, 0, 0, 0] := hW3 ▸ hA
  rw [hW3] at hk3
  replace hA := Lib.hid hA
  replace hk3 := Lib.hid hk3
  replace hW3 := Lib.hid hW3
  go_wp2_with fail
  rw [hW3.out]
  obtain ⟨gx, hgx⟩ : ∃ x, w2.heap.size = x := ⟨_, rfl⟩
  rw [hgx] at hA ⊢
  clear nj hN
  go_loopw [9, 10, 11] (fun uc ut i wr => ∃ (k g d : Nat) (now a b q et s r : Int), k ≤ len ∧ k ≤ len2 ∧ k ≤ 60 ∧ i = .int .i64 k ∧ ut = .int .i64 now ∧ uc = .slice (some ⟨g, 0, none⟩) 6 d ∧ (0 ≤ now ∧ now ≤ 1000 * k) ∧ Hid (TOk 1 q et s r) ∧ Hid (Ow w2 wr (.slice (some ⟨g, 0, none⟩) 6 d) [a, b, q, et, s, r]) ∧ Hid (Kp [] w2 wr)) (fun _ _ i _ => len - (intOf i).toNat)
  case atStart => exact ⟨0, gx, 6, 0, 0, 0, 0, 0, 0, 0, Nat.zero_le _, Nat.zero_le _, Nat.zero_le _, rfl, rfl, rfl, by omega, ⟨.inl rfl, .inl rfl, by omega, by omega, fun _ _ => rfl⟩, hA.out, hk3.out⟩
  case round =>
    obtain ⟨k, g, d, now, a, b, q, et, s, r, hk, hkk, hk60, rfl, rfl, rfl, hnow, hT, hU, hK⟩ := hrel
    by_cases hlt : k < len ∧ k < len2 ∧ k < 60
    · obtain ⟨hlt, hlt2, hlt60⟩ := hlt
      obtain ⟨b1, off, x, y, rfl, hc, hd⟩ := (hz.out.kp hK.out).at_ k (by rw [hn.out]; exact hlt)
      obtain ⟨b2, off2, rfl, hst⟩ := (hy.out.kp hK.out).at_ k (by rw [hn'.out]; exact hlt2)
      obtain ⟨z, hzz⟩ : ∃ z, zs.getD k 0 = z := ⟨_, rfl⟩
      rw [hzz] at hst
      replace hzz := Lib.hid hzz
      have hd60 : decide ((k : Int) < 60) = true := by simp; omega
      obtain ⟨g', d', h', hg, hgl, e0, e1, -, -, -, -, f⟩ := hU.out.six
      simp at h'
      obtain ⟨rfl, rfl⟩ := h'
      have f0 := f 0
      have f1 := f 1
      clear f
      have hC := modF_bd x (n := 2) (by omega)
      have hB := modF_bd y (n := 2000) (by omega)
      have hS := modF_bd z (n := 1000) (by omega)
      obtain ⟨C, hCC⟩ : ∃ m, modF x 2 = m := ⟨_, rfl⟩
      obtain ⟨B, hBB⟩ : ∃ m, modF y 2000 = m := ⟨_, rfl⟩
      obtain ⟨S, hSS⟩ : ∃ m, modF z 1000 = m := ⟨_, rfl⟩
      rw [hCC] at hC
      rw [hBB] at hB
      rw [hSS] at hS
      replace hCC := Lib.hid hCC
      replace hBB := Lib.hid hBB
      replace hSS := Lib.hid hSS
      have hwB : wrap64 (B - 10) = B - 10 := IntWalk.wrap64_in _ (by omega)
      have hwS : wrap64 (now + S) = now + S := IntWalk.wrap64_in _ (by omega)
      have hb1 : b1 ∉ [g] := by
        obtain ⟨b1', off', x', y', hp', hc', -⟩ := hz.out.at_ k (by rw [hn.out]; exact hlt)
        simp at hp'
        obtain ⟨rfl, rfl⟩ := hp'
        have hlb : b1 < w2.heap.size := World.block_lt_of_cell? w2 _ hc'
        simp
        omega
      have hb2 : b2 ∉ [g] := by
        obtain ⟨b2', off2', hp', hc'⟩ := hy.out.at_ k (by rw [hn'.out]; exact hlt2)
        simp at hp'
        obtain ⟨rfl, rfl⟩ := hp'
        have hlb : b2 < w2.heap.size := World.block_lt_of_cell? w2 _ hc'
        simp
        omega
      have k1 : Kp [g] wr (wr.setCell ⟨g, 0, none⟩ (.int .i64 C)) := (Kp.refl [g] wr).setCell (p := ⟨g, 0, none⟩) (.inl (by simp)) _
      have k2 := k1.setCell (p := ⟨g, 1, none⟩) (.inl (by simp)) (.int .i64 (B - 10))
      have hd' := k1.cell hd hb1
      have hst' := k2.cell hst hb2
      replace k1 := Lib.hid k1
      replace k2 := Lib.hid k2
      replace hb1 := Lib.hid hb1
      replace hb2 := Lib.hid hb2
      clear hd hst
      go_wp2_with fail
      refine (mod_c x 2 _ (by omega) (by omega)).mono ?_
      rintro r' w4 ⟨rfl, rfl⟩
      rw [hCC.out]
      go_wp2_with fail
      refine (mod_c y 2000 _ (by omega) (by omega)).mono ?_
      rintro r' w5 ⟨rfl, hw5⟩
      rw [hBB.out]
      subst hw5
      go_wp2_with fail
      refine (mod_c z 1000 _ (by omega) (by omega)).mono ?_
      rintro r' w6 ⟨rfl, hw6⟩
      rw [hSS.out]
      subst hw6
      have hU3 : Ow w2 ((w4.setCell ⟨g, 0, none⟩ (.int .i64 C)).setCell ⟨g, 1, none⟩ (.int .i64 (B - 10))) (.slice (some ⟨g, 0, none⟩) 6 d) [C, B - 10, q, et, s, r] := (hU.out.set 0 (by show 0 < 6; omega) C).set 1 (by show 1 < 6; omega) (B - 10)
      have hK3 := Lib.hid ((hK.out.setCell (p := ⟨g, 0, none⟩) (.inr hg) (.int .i64 C)).setCell (p := ⟨g, 1, none⟩) (.inr hg) (.int .i64 (B - 10)))
      obtain ⟨W7, hW7⟩ : ∃ W7, (w4.setCell ⟨g, 0, none⟩ (.int .i64 C)).setCell ⟨g, 1, none⟩ (.int .i64 (B - 10)) = W7 := ⟨_, rfl⟩
      rw [hW7] at hU3 hK3 ⊢
      clear hc hd' hst' k1 k2 hb1 hb2 e0 e1 f0 f1
      replace hU3 := Lib.hid hU3
      replace hW7 := Lib.hid hW7
      have htt : 0 ≤ now + S ∧ now + S ≤ 1000 * (k + 1) := by omega
      obtain ⟨q', et', s', r2, hstp, hT', hle⟩ := timer_inv 1 (by omega) C (B - 10) q et s r (now + S) (by omega) (by omega) hT.out (by omega)
      have hsc := scan_tof [C, B - 10, q, et, s, r] (now + S) W7 _ hU3.out.is (are_tim (j := 1) (by omega) (by omega) (by omega) hT.out) (by simp [isT]; omega)
      rw [hstp] at hsc
      replace hsc := Lib.hid hsc
      replace hstp := Lib.hid hstp
      go_wp2_with fail
      obtain ⟨t, ht⟩ : ∃ t, now + S = t := ⟨_, rfl⟩
      rw [ht] at hsc htt ⊢
      replace ht := Lib.hid ht
      refine hsc.out.mono ?_
      rintro r' w8 ⟨vd, rfl, hvd, hk8, hO8⟩
      have hK8 := Lib.hid (hK3.out.trans hk8)
      have hO8' := hO8.base (w0 := w2) hK3.out.size
      obtain ⟨g8, d8, rfl, -, -, -, y1, -, y3, -, y5, -⟩ := hO8'.six
      obtain ⟨hq', hr', het', hs', hqr'⟩ := hT'
      have hTT := Lib.hid (show TOk 1 q' et' s' r2 from ⟨hq', hr', het', hs', hqr'⟩)
      replace hO8' := Lib.hid hO8'
      clear hsc hvd hk8 hO8 hU3 hK3 hU hT
      replace hqr' := Lib.hid hqr'
      have het0 : decide (et' < 0) = false := by simp; omega
      obtain ⟨M, hM⟩ : ∃ M, max (B - 10) 0 = M := ⟨_, rfl⟩
      rw [hM] at hle
      by_cases hgt : M < et'
      · have hg1 : decide (M < et') = true := by simpa using hgt
        obtain rfl : r2 = 0 := by omega
        replace hle := Lib.hid hle
        go_wp2_with fail
        go_quiet (fail)
        go_wp2
        go_roundw
        case rel => exact ⟨k + 1, g8, d8, t, C, B - 10, q', et', s', 0, by omega, by omega, by omega, by go_num, rfl, rfl, by omega, hTT.out, hO8'.out.kp ((Kp.refl [] _).drewN _), hK8.out.drewN _⟩
        case measure => simp [intOf]; omega
      · have hg1 : decide (M < et') = false := by simpa using hgt
        replace hle := Lib.hid hle
        go_wp2_with fail
        go_quiet (fail)
        go_wp2
        go_roundw
        case rel => exact ⟨k + 1, g8, d8, t, C, B - 10, q', et', s', r2, by omega, by omega, by omega, by go_num, rfl, rfl, by omega, hTT.out, hO8'.out.kp ((Kp.refl [] _).drewN _), hK8.out.drewN _⟩
        case measure => simp [intOf]; omega
    · have hfin : Hid (¬ (k < len ∧ k < len2 ∧ k < 60)) := hlt
      clear hz hy
      rcases (show k = len ∨ (k < len ∧ k = len2) ∨ (k < len ∧ k < len2 ∧ k = 60) by omega) with hf | ⟨hf0, hf⟩ | ⟨hf0, hf1, hf⟩
      · subst hf
        have hZ1 := Blk.new wr 3 #[.int .i64 1, .int .i64 1, .int .i64 0]
        obtain ⟨W5, hW5⟩ : ∃ W5, wr.alloc (.cells #[.int .i64 1, .int .i64 1, .int .i64 0] 3) = W5 := ⟨_, rfl⟩
        have hK5 : Kp [] w2 W5 := hW5 ▸ hK.out.alloc _
        rw [hW5] at hZ1
        have hi5 := Lib.hid (is_lit (n := 3) (zs := [1, 1, 0]) hZ1 rfl (by omega) rfl)
        replace hZ1 := Lib.hid hZ1
        replace hW5 := Lib.hid hW5
        replace hK5 := Lib.hid hK5
        clear hfin hlt hU
        go_wp2_with fail
        rw [hW5.out]
        have hsr := scan_sr [1, 1, 0] now W5 _ hi5.out (by decide) (by simp [isT]; omega)
        refine hsr.mono ?_
        clear hsr
        rintro r w6 ⟨va, rfl, hva, hk6, -⟩
        have hva' : Is w6 va [1, 1, 1] := hva
        have hK6 := Lib.hid (hK5.out.trans hk6)
        replace hva' := Lib.hid hva'
        clear hva hk6
        have hZ2 := Blk.new w6 3 #[.int .i64 1, .int .i64 1, .int .i64 1]
        obtain ⟨W7, hW7⟩ : ∃ W7, w6.alloc (.cells #[.int .i64 1, .int .i64 1, .int .i64 1] 3) = W7 := ⟨_, rfl⟩
        have hk7 : Kp [] w6 W7 := hW7 ▸ (Kp.refl [] w6).alloc _
        rw [hW7] at hZ2
        have hi7 := Lib.hid (is_lit (n := 3) (zs := [1, 1, 1]) hZ2 rfl (by omega) rfl)
        have hva7 := Lib.hid (hva'.out.kp hk7)
        have hK7 := Lib.hid (hK6.out.trans hk7)
        replace hZ2 := Lib.hid hZ2
        replace hW7 := Lib.hid hW7
        clear hk7
        go_wp2_with fail
        rw [hW7.out]
        have hsr := scan_rs [1, 1, 1] now W7 _ hi7.out (by decide) (by simp [isT]; omega)
        refine hsr.mono ?_
        clear hsr
        rintro r w8 ⟨vb, rfl, hvb, hk8, -⟩
        have hvb' : Is w8 vb [1, 1, 0] := hvb
        have hva8 := hva7.out.kp hk8
        have hK8 := Lib.hid (hK7.out.trans hk8)
        obtain ⟨b8, o8, c8, rfl, -, -, y2⟩ := hva8.three
        obtain ⟨b9, o9, c9, rfl, -, -, u2⟩ := hvb'.three
        clear hvb hk8 hva8 hvb' hva7 hva'
        go_wp2_with (go_at_call 19; refine (awake_c _).mono ?_; rintro r w9 ⟨rfl, hk9⟩)
        go_ret
        exact ⟨rfl, hk1.out.trans (hK8.out.trans hk9)⟩
      · subst hf
        have hd0 : decide ((k : Int) < len) = true := by simp; omega
        have hZ1 := Blk.new wr 3 #[.int .i64 1, .int .i64 1, .int .i64 0]
        obtain ⟨W5, hW5⟩ : ∃ W5, wr.alloc (.cells #[.int .i64 1, .int .i64 1, .int .i64 0] 3) = W5 := ⟨_, rfl⟩
        have hK5 : Kp [] w2 W5 := hW5 ▸ hK.out.alloc _
        rw [hW5] at hZ1
        have hi5 := Lib.hid (is_lit (n := 3) (zs := [1, 1, 0]) hZ1 rfl (by omega) rfl)
        replace hZ1 := Lib.hid hZ1
        replace hW5 := Lib.hid hW5
        replace hK5 := Lib.hid hK5
        clear hfin hlt hU
        go_wp2_with fail
        rw [hW5.out]
        have hsr := scan_sr [1, 1, 0] now W5 _ hi5.out (by decide) (by simp [isT]; omega)
        refine hsr.mono ?_
        clear hsr
        rintro r w6 ⟨va, rfl, hva, hk6, -⟩
        have hva' : Is w6 va [1, 1, 1] := hva
        have hK6 := Lib.hid (hK5.out.trans hk6)
        replace hva' := Lib.hid hva'
        clear hva hk6
        have hZ2 := Blk.new w6 3 #[.int .i64 1, .int .i64 1, .int .i64 1]
        obtain ⟨W7, hW7⟩ : ∃ W7, w6.alloc (.cells #[.int .i64 1, .int .i64 1, .int .i64 1] 3) = W7 := ⟨_, rfl⟩
        have hk7 : Kp [] w6 W7 := hW7 ▸ (Kp.refl [] w6).alloc _
        rw [hW7] at hZ2
        have hi7 := Lib.hid (is_lit (n := 3) (zs := [1, 1, 1]) hZ2 rfl (by omega) rfl)
        have hva7 := Lib.hid (hva'.out.kp hk7)
        have hK7 := Lib.hid (hK6.out.trans hk7)
        replace hZ2 := Lib.hid hZ2
        replace hW7 := Lib.hid hW7
        clear hk7
        go_wp2_with fail
        rw [hW7.out]
        have hsr := scan_rs [1, 1, 1] now W7 _ hi7.out (by decide) (by simp [isT]; omega)
        refine hsr.mono ?_
        clear hsr
        rintro r w8 ⟨vb, rfl, hvb, hk8, -⟩
        have hvb' : Is w8 vb [1, 1, 0] := hvb
        have hva8 := hva7.out.kp hk8
        have hK8 := Lib.hid (hK7.out.trans hk8)
        obtain ⟨b8, o8, c8, rfl, -, -, y2⟩ := hva8.three
        obtain ⟨b9, o9, c9, rfl, -, -, u2⟩ := hvb'.three
        clear hvb hk8 hva8 hvb' hva7 hva'
        go_wp2_with (go_at_call 19; refine (awake_c _).mono ?_; rintro r w9 ⟨rfl, hk9⟩)
        go_ret
        exact ⟨rfl, hk1.out.trans (hK8.out.trans hk9)⟩
      · have hd60 : decide ((k : Int) < 60) = false := by simp; omega
        have hZ1 := Blk.new wr 3 #[.int .i64 1, .int .i64 1, .int .i64 0]
        obtain ⟨W5, hW5⟩ : ∃ W5, wr.alloc (.cells #[.int .i64 1, .int .i64 1, .int .i64 0] 3) = W5 := ⟨_, rfl⟩
        have hK5 : Kp [] w2 W5 := hW5 ▸ hK.out.alloc _
        rw [hW5] at hZ1
        have hi5 := Lib.hid (is_lit (n := 3) (zs := [1, 1, 0]) hZ1 rfl (by omega) rfl)
        replace hZ1 := Lib.hid hZ1
        replace hW5 := Lib.hid hW5
        replace hK5 := Lib.hid hK5
        clear hfin hlt hU
        go_wp2_with fail
        rw [hW5.out]
        have hsr := scan_sr [1, 1, 0] now W5 _ hi5.out (by decide) (by simp [isT]; omega)
        refine hsr.mono ?_
        clear hsr
        rintro r w6 ⟨va, rfl, hva, hk6, -⟩
        have hva' : Is w6 va [1, 1, 1] := hva
        have hK6 := Lib.hid (hK5.out.trans hk6)
        replace hva' := Lib.hid hva'
        clear hva hk6
        have hZ2 := Blk.new w6 3 #[.int .i64 1, .int .i64 1, .int .i64 1]
        obtain ⟨W7, hW7⟩ : ∃ W7, w6.alloc (.cells #[.int .i64 1, .int .i64 1, .int .i64 1] 3) = W7 := ⟨_, rfl⟩
        have hk7 : Kp [] w6 W7 := hW7 ▸ (Kp.refl [] w6).alloc _
        rw [hW7] at hZ2
        have hi7 := Lib.hid (is_lit (n := 3) (zs := [1, 1, 1]) hZ2 rfl (by omega) rfl)
        have hva7 := Lib.hid (hva'.out.kp hk7)
        have hK7 := Lib.hid (hK6.out.trans hk7)
        replace hZ2 := Lib.hid hZ2
        replace hW7 := Lib.hid hW7
        clear hk7
        go_wp2_with fail
        rw [hW7.out]
        have hsr := scan_rs [1, 1, 1] now W7 _ hi7.out (by decide) (by simp [isT]; omega)
        refine hsr.mono ?_
        clear hsr
        rintro r w8 ⟨vb, rfl, hvb, hk8, -⟩
        have hvb' : Is w8 vb [1, 1, 0] := hvb
        have hva8 := hva7.out.kp hk8
        have hK8 := Lib.hid (hK7.out.trans hk8)
        obtain ⟨b8, o8, c8, rfl, -, -, y2⟩ := hva8.three
        obtain ⟨b9, o9, c9, rfl, -, -, u2⟩ := hvb'.three
        clear hvb hk8 hva8 hvb' hva7 hva'
        go_wp2_with (go_at_call 19; refine (awake_c _).mono ?_; rintro r w9 ⟨rfl, hk9⟩)
        go_ret
        exact ⟨rfl, hk1.out.trans (hK8.out.trans hk9)⟩
set_option maxRecDepth 100000 in
set_option maxHeartbeats 4000000 in
theorem timers_2 (a0 : Int) (v1 v2 : Value) (rs : List (Int × Int)) (zs : List Int) (w : World) (hz : Ps w v1 rs) (hy : Is w v2 zs) (hm : modF a0 3 = 2) : Calls Try.prog 6 #[.int .i64 a0, v1, v2] w fun r w' => r = .returned (.bool true) ∧ Kp [] w w' := by
  obtain ⟨q1, c1, rfl, hn1, hc1⟩ := hz.val
  obtain ⟨q2, c2, rfl, hn2, hc2⟩ := hy.val
  obtain ⟨len, hn⟩ : ∃ n, rs.length = n := ⟨_, rfl⟩
  obtain ⟨len2, hn'⟩ : ∃ n, zs.length = n := ⟨_, rfl⟩
  rw [hn] at hz hn1 ⊢
  rw [hn'] at hy hn2 ⊢
  have hbig : len ≤ 9223372036854775807 := by omega
  have hbig2 : len2 ≤ 9223372036854775807 := by omega
  have hN := Blk.new w 54 #[.string ⟨#[116, 111, 110]⟩, .string ⟨#[116, 111, 102]⟩, .string ⟨#[116, 112]⟩]
  obtain ⟨w1, hw1⟩ : ∃ W1, w.alloc (.cells #[.string ⟨#[116, 111, 110]⟩, .string ⟨#[116, 111, 102]⟩, .string ⟨#[116, 112]⟩] 54) = W1 := ⟨_, rfl⟩
  have hk1 : Kp [] w w1 := hw1 ▸ (Kp.refl [] w).alloc _
  rw [hw1] at hN
  have nj := hN.cell 2 rfl
  replace hz := Lib.hid (hz.kp hk1)
  replace hy := Lib.hid (hy.kp hk1)
  replace hn := Lib.hid hn
  replace hn' := Lib.hid hn'
  replace hN := Lib.hid hN
  replace hw1 := Lib.hid hw1
  replace hk1 := Lib.hid hk1
  replace hm := Lib.hid hm
  clear hn1 hn2 hc1 hc2
  obtain ⟨gn, hgn⟩ : ∃ x, w.heap.size = x := ⟨_, rfl⟩
  rw [hgn] at nj
  go_enter Try.func6, Try.ntmps6
  go_wp2_with fail
  rw [hw1.out]
  refine (mod_c a0 3 _ (by omega) (by omega)).mono ?_
  rintro r w2 ⟨rfl, rfl⟩
  rw [hm.out]
  try rw [hgn]
  have hA := ow_lit (w0 := w2) (w := w2) (zs := [0, 0, 0, 0, 0, 0]) (n := 6) rfl (by omega) (Nat.le_refl _) rfl
  have hk3 := ((Kp.refl [] w2).alloc (.cells #[.int .i64 0, .int .i64 0, .int .i64 0, .int .i64 0, .int .i64 0, .int .i64 0] 3))
  obtain ⟨W3, hW3⟩ : ∃ W3, w2.alloc (.cells #[.int .i64 0, .int .i64 0, .int .i64 0, .int .i64 0, .int .i64 0, .int .i64 0] 3) = W3 := ⟨_, rfl⟩
  replace hA : Ow w2 W3 (.slice (some ⟨w2.heap.size, 0, none⟩) 6 6) [0, 0, 0, 0, 0, 0] := hW3 ▸ hA
  rw [hW3] at hk3
  replace hA := Lib.hid hA
  replace hk3 := Lib.hid hk3
  replace hW3 := Lib.hid hW3
  go_wp2_with fail
  rw [hW3.out]
  obtain ⟨gx, hgx⟩ : ∃ x, w2.heap.size = x := ⟨_, rfl⟩
  rw [hgx] at hA ⊢
  clear nj hN
  go_loopw [9, 10, 11] (fun uc ut i wr => ∃ (k g d : Nat) (now a b q et s r : Int), k ≤ len ∧ k ≤ len2 ∧ k ≤ 60 ∧ i = .int .i64 k ∧ ut = .int .i64 now ∧ uc = .slice (some ⟨g, 0, none⟩) 6 d ∧ (0 ≤ now ∧ now ≤ 1000 * k) ∧ Hid (TOk 2 q et s r) ∧ Hid (Ow w2 wr (.slice (some ⟨g, 0, none⟩) 6 d) [a, b, q, et, s, r]) ∧ Hid (Kp [] w2 wr)) (fun _ _ i _ => len - (intOf i).toNat)
  case atStart => exact ⟨0, gx, 6, 0, 0, 0, 0, 0, 0, 0, Nat.zero_le _, Nat.zero_le _, Nat.zero_le _, rfl, rfl, rfl, by omega, ⟨.inl rfl, .inl rfl, by omega, by omega, fun _ _ => rfl⟩, hA.out, hk3.out⟩
  case round =>
    obtain ⟨k, g, d, now, a, b, q, et, s, r, hk, hkk, hk60, rfl, rfl, rfl, hnow, hT, hU, hK⟩ := hrel
    by_cases hlt : k < len ∧ k < len2 ∧ k < 60
    · obtain ⟨hlt, hlt2, hlt60⟩ := hlt
      obtain ⟨b1, off, x, y, rfl, hc, hd⟩ := (hz.out.kp hK.out).at_ k (by rw [hn.out]; exact hlt)
      obtain ⟨b2, off2, rfl, hst⟩ := (hy.out.kp hK.out).at_ k (by rw [hn'.out]; exact hlt2)
      obtain ⟨z, hzz⟩ : ∃ z, zs.getD k 0 = z := ⟨_, rfl⟩
      rw [hzz] at hst
      replace hzz := Lib.hid hzz
      have hd60 : decide ((k : Int) < 60) = true := by simp; omega
      obtain ⟨g', d', h', hg, hgl, e0, e1, -, -, -, -, f⟩ := hU.out.six
      simp at h'
      obtain ⟨rfl, rfl⟩ := h'
      have f0 := f 0
      have f1 := f 1
      clear f
      have hC := modF_bd x (n := 2) (by omega)
      have hB := modF_bd y (n := 2000) (by omega)
      have hS := modF_bd z (n := 1000) (by omega)
      obtain ⟨C, hCC⟩ : ∃ m, modF x 2 = m := ⟨_, rfl⟩
      obtain ⟨B, hBB⟩ : ∃ m, modF y 2000 = m := ⟨_, rfl⟩
      obtain ⟨S, hSS⟩ : ∃ m, modF z 1000 = m := ⟨_, rfl⟩
      rw [hCC] at hC
      rw [hBB] at hB
      rw [hSS] at hS
      replace hCC := Lib.hid hCC
      replace hBB := Lib.hid hBB
      replace hSS := Lib.hid hSS
      have hwB : wrap64 (B - 10) = B - 10 := IntWalk.wrap64_in _ (by omega)
      have hwS : wrap64 (now + S) = now + S := IntWalk.wrap64_in _ (by omega)
      have hb1 : b1 ∉ [g] := by
        obtain ⟨b1', off', x', y', hp', hc', -⟩ := hz.out.at_ k (by rw [hn.out]; exact hlt)
        simp at hp'
        obtain ⟨rfl, rfl⟩ := hp'
        have hlb : b1 < w2.heap.size := World.block_lt_of_cell? w2 _ hc'
        simp
        omega
      have hb2 : b2 ∉ [g] := by
        obtain ⟨b2', off2', hp', hc'⟩ := hy.out.at_ k (by rw [hn'.out]; exact hlt2)
        simp at hp'
        obtain ⟨rfl, rfl⟩ := hp'
        have hlb : b2 < w2.heap.size := World.block_lt_of_cell? w2 _ hc'
        simp
        omega
      have k1 : Kp [g] wr (wr.setCell ⟨g, 0, none⟩ (.int .i64 C)) := (Kp.refl [g] wr).setCell (p := ⟨g, 0, none⟩) (.inl (by simp)) _
      have k2 := k1.setCell (p := ⟨g, 1, none⟩) (.inl (by simp)) (.int .i64 (B - 10))
      have hd' := k1.cell hd hb1
      have hst' := k2.cell hst hb2
      replace k1 := Lib.hid k1
      replace k2 := Lib.hid k2
      replace hb1 := Lib.hid hb1
      replace hb2 := Lib.hid hb2
      clear hd hst
      go_wp2_with fail
      refine (mod_c x 2 _ (by omega) (by omega)).mono ?_
      rintro r' w4 ⟨rfl, rfl⟩
      rw [hCC.out]
      go_wp2_with fail
      refine (mod_c y 2000 _ (by omega) (by omega)).mono ?_
      rintro r' w5 ⟨rfl, hw5⟩
      rw [hBB.out]
      subst hw5
      go_wp2_with fail
      refine (mod_c z 1000 _ (by omega) (by omega)).mono ?_
      rintro r' w6 ⟨rfl, hw6⟩
      rw [hSS.out]
      subst hw6
      have hU3 : Ow w2 ((w4.setCell ⟨g, 0, none⟩ (.int .i64 C)).setCell ⟨g, 1, none⟩ (.int .i64 (B - 10))) (.slice (some ⟨g, 0, none⟩) 6 d) [C, B - 10, q, et, s, r] := (hU.out.set 0 (by show 0 < 6; omega) C).set 1 (by show 1 < 6; omega) (B - 10)
      have hK3 := Lib.hid ((hK.out.setCell (p := ⟨g, 0, none⟩) (.inr hg) (.int .i64 C)).setCell (p := ⟨g, 1, none⟩) (.inr hg) (.int .i64 (B - 10)))
      obtain ⟨W7, hW7⟩ : ∃ W7, (w4.setCell ⟨g, 0, none⟩ (.int .i64 C)).setCell ⟨g, 1, none⟩ (.int .i64 (B - 10)) = W7 := ⟨_, rfl⟩
      rw [hW7] at hU3 hK3 ⊢
      clear hc hd' hst' k1 k2 hb1 hb2 e0 e1 f0 f1
      replace hU3 := Lib.hid hU3
      replace hW7 := Lib.hid hW7
      have htt : 0 ≤ now + S ∧ now + S ≤ 1000 * (k + 1) := by omega
      obtain ⟨q', et', s', r2, hstp, hT', hle⟩ := timer_inv 2 (by omega) C (B - 10) q et s r (now + S) (by omega) (by omega) hT.out (by omega)
      have hsc := scan_tp [C, B - 10, q, et, s, r] (now + S) W7 _ hU3.out.is (are_tim (j := 2) (by omega) (by omega) (by omega) hT.out) (by simp [isT]; omega)
      rw [hstp] at hsc
      replace hsc := Lib.hid hsc
      replace hstp := Lib.hid hstp
      go_wp2_with fail
      obtain ⟨t, ht⟩ : ∃ t, now + S = t := ⟨_, rfl⟩
      rw [ht] at hsc htt ⊢
      replace ht := Lib.hid ht
      refine hsc.out.mono ?_
      rintro r' w8 ⟨vd, rfl, hvd, hk8, hO8⟩
      have hK8 := Lib.hid (hK3.out.trans hk8)
      have hO8' := hO8.base (w0 := w2) hK3.out.size
      obtain ⟨g8, d8, rfl, -, -, -, y1, -, y3, -, y5, -⟩ := hO8'.six
      obtain ⟨hq', hr', het', hs', hqr'⟩ := hT'
      have hTT := Lib.hid (show TOk 2 q' et' s' r2 from ⟨hq', hr', het', hs', hqr'⟩)
      replace hO8' := Lib.hid hO8'
      clear hsc hvd hk8 hO8 hU3 hK3 hU hT
      replace hqr' := Lib.hid hqr'
      have het0 : decide (et' < 0) = false := by simp; omega
      obtain ⟨M, hM⟩ : ∃ M, max (B - 10) 0 = M := ⟨_, rfl⟩
      rw [hM] at hle
      by_cases hgt : M < et'
      · have hg1 : decide (M < et') = true := by simpa using hgt
        obtain rfl : r2 = 0 := by omega
        replace hle := Lib.hid hle
        go_wp2_with fail
        go_quiet (fail)
        go_wp2
        go_roundw
        case rel => exact ⟨k + 1, g8, d8, t, C, B - 10, q', et', s', 0, by omega, by omega, by omega, by go_num, rfl, rfl, by omega, hTT.out, hO8'.out.kp ((Kp.refl [] _).drewN _), hK8.out.drewN _⟩
        case measure => simp [intOf]; omega
      · have hg1 : decide (M < et') = false := by simpa using hgt
        replace hle := Lib.hid hle
        go_wp2_with fail
        go_quiet (fail)
        go_wp2
        go_roundw
        case rel => exact ⟨k + 1, g8, d8, t, C, B - 10, q', et', s', r2, by omega, by omega, by omega, by go_num, rfl, rfl, by omega, hTT.out, hO8'.out.kp ((Kp.refl [] _).drewN _), hK8.out.drewN _⟩
        case measure => simp [intOf]; omega
    · have hfin : Hid (¬ (k < len ∧ k < len2 ∧ k < 60)) := hlt
      clear hz hy
      rcases (show k = len ∨ (k < len ∧ k = len2) ∨ (k < len ∧ k < len2 ∧ k = 60) by omega) with hf | ⟨hf0, hf⟩ | ⟨hf0, hf1, hf⟩
      · subst hf
        have hZ1 := Blk.new wr 3 #[.int .i64 1, .int .i64 1, .int .i64 0]
        obtain ⟨W5, hW5⟩ : ∃ W5, wr.alloc (.cells #[.int .i64 1, .int .i64 1, .int .i64 0] 3) = W5 := ⟨_, rfl⟩
        have hK5 : Kp [] w2 W5 := hW5 ▸ hK.out.alloc _
        rw [hW5] at hZ1
        have hi5 := Lib.hid (is_lit (n := 3) (zs := [1, 1, 0]) hZ1 rfl (by omega) rfl)
        replace hZ1 := Lib.hid hZ1
        replace hW5 := Lib.hid hW5
        replace hK5 := Lib.hid hK5
        clear hfin hlt hU
        go_wp2_with fail
        rw [hW5.out]
        have hsr := scan_sr [1, 1, 0] now W5 _ hi5.out (by decide) (by simp [isT]; omega)
        refine hsr.mono ?_
        clear hsr
        rintro r w6 ⟨va, rfl, hva, hk6, -⟩
        have hva' : Is w6 va [1, 1, 1] := hva
        have hK6 := Lib.hid (hK5.out.trans hk6)
        replace hva' := Lib.hid hva'
        clear hva hk6
        have hZ2 := Blk.new w6 3 #[.int .i64 1, .int .i64 1, .int .i64 1]
        obtain ⟨W7, hW7⟩ : ∃ W7, w6.alloc (.cells #[.int .i64 1, .int .i64 1, .int .i64 1] 3) = W7 := ⟨_, rfl⟩
        have hk7 : Kp [] w6 W7 := hW7 ▸ (Kp.refl [] w6).alloc _
        rw [hW7] at hZ2
        have hi7 := Lib.hid (is_lit (n := 3) (zs := [1, 1, 1]) hZ2 rfl (by omega) rfl)
        have hva7 := Lib.hid (hva'.out.kp hk7)
        have hK7 := Lib.hid (hK6.out.trans hk7)
        replace hZ2 := Lib.hid hZ2
        replace hW7 := Lib.hid hW7
        clear hk7
        go_wp2_with fail
        rw [hW7.out]
        have hsr := scan_rs [1, 1, 1] now W7 _ hi7.out (by decide) (by simp [isT]; omega)
        refine hsr.mono ?_
        clear hsr
        rintro r w8 ⟨vb, rfl, hvb, hk8, -⟩
        have hvb' : Is w8 vb [1, 1, 0] := hvb
        have hva8 := hva7.out.kp hk8
        have hK8 := Lib.hid (hK7.out.trans hk8)
        obtain ⟨b8, o8, c8, rfl, -, -, y2⟩ := hva8.three
        obtain ⟨b9, o9, c9, rfl, -, -, u2⟩ := hvb'.three
        clear hvb hk8 hva8 hvb' hva7 hva'
        go_wp2_with (go_at_call 19; refine (awake_c _).mono ?_; rintro r w9 ⟨rfl, hk9⟩)
        go_ret
        exact ⟨rfl, hk1.out.trans (hK8.out.trans hk9)⟩
      · subst hf
        have hd0 : decide ((k : Int) < len) = true := by simp; omega
        have hZ1 := Blk.new wr 3 #[.int .i64 1, .int .i64 1, .int .i64 0]
        obtain ⟨W5, hW5⟩ : ∃ W5, wr.alloc (.cells #[.int .i64 1, .int .i64 1, .int .i64 0] 3) = W5 := ⟨_, rfl⟩
        have hK5 : Kp [] w2 W5 := hW5 ▸ hK.out.alloc _
        rw [hW5] at hZ1
        have hi5 := Lib.hid (is_lit (n := 3) (zs := [1, 1, 0]) hZ1 rfl (by omega) rfl)
        replace hZ1 := Lib.hid hZ1
        replace hW5 := Lib.hid hW5
        replace hK5 := Lib.hid hK5
        clear hfin hlt hU
        go_wp2_with fail
        rw [hW5.out]
        have hsr := scan_sr [1, 1, 0] now W5 _ hi5.out (by decide) (by simp [isT]; omega)
        refine hsr.mono ?_
        clear hsr
        rintro r w6 ⟨va, rfl, hva, hk6, -⟩
        have hva' : Is w6 va [1, 1, 1] := hva
        have hK6 := Lib.hid (hK5.out.trans hk6)
        replace hva' := Lib.hid hva'
        clear hva hk6
        have hZ2 := Blk.new w6 3 #[.int .i64 1, .int .i64 1, .int .i64 1]
        obtain ⟨W7, hW7⟩ : ∃ W7, w6.alloc (.cells #[.int .i64 1, .int .i64 1, .int .i64 1] 3) = W7 := ⟨_, rfl⟩
        have hk7 : Kp [] w6 W7 := hW7 ▸ (Kp.refl [] w6).alloc _
        rw [hW7] at hZ2
        have hi7 := Lib.hid (is_lit (n := 3) (zs := [1, 1, 1]) hZ2 rfl (by omega) rfl)
        have hva7 := Lib.hid (hva'.out.kp hk7)
        have hK7 := Lib.hid (hK6.out.trans hk7)
        replace hZ2 := Lib.hid hZ2
        replace hW7 := Lib.hid hW7
        clear hk7
        go_wp2_with fail
        rw [hW7.out]
        have hsr := scan_rs [1, 1, 1] now W7 _ hi7.out (by decide) (by simp [isT]; omega)
        refine hsr.mono ?_
        clear hsr
        rintro r w8 ⟨vb, rfl, hvb, hk8, -⟩
        have hvb' : Is w8 vb [1, 1, 0] := hvb
        have hva8 := hva7.out.kp hk8
        have hK8 := Lib.hid (hK7.out.trans hk8)
        obtain ⟨b8, o8, c8, rfl, -, -, y2⟩ := hva8.three
        obtain ⟨b9, o9, c9, rfl, -, -, u2⟩ := hvb'.three
        clear hvb hk8 hva8 hvb' hva7 hva'
        go_wp2_with (go_at_call 19; refine (awake_c _).mono ?_; rintro r w9 ⟨rfl, hk9⟩)
        go_ret
        exact ⟨rfl, hk1.out.trans (hK8.out.trans hk9)⟩
      · have hd60 : decide ((k : Int) < 60) = false := by simp; omega
        have hZ1 := Blk.new wr 3 #[.int .i64 1, .int .i64 1, .int .i64 0]
        obtain ⟨W5, hW5⟩ : ∃ W5, wr.alloc (.cells #[.int .i64 1, .int .i64 1, .int .i64 0] 3) = W5 := ⟨_, rfl⟩
        have hK5 : Kp [] w2 W5 := hW5 ▸ hK.out.alloc _
        rw [hW5] at hZ1
        have hi5 := Lib.hid (is_lit (n := 3) (zs := [1, 1, 0]) hZ1 rfl (by omega) rfl)
        replace hZ1 := Lib.hid hZ1
        replace hW5 := Lib.hid hW5
        replace hK5 := Lib.hid hK5
        clear hfin hlt hU
        go_wp2_with fail
        rw [hW5.out]
        have hsr := scan_sr [1, 1, 0] now W5 _ hi5.out (by decide) (by simp [isT]; omega)
        refine hsr.mono ?_
        clear hsr
        rintro r w6 ⟨va, rfl, hva, hk6, -⟩
        have hva' : Is w6 va [1, 1, 1] := hva
        have hK6 := Lib.hid (hK5.out.trans hk6)
        replace hva' := Lib.hid hva'
        clear hva hk6
        have hZ2 := Blk.new w6 3 #[.int .i64 1, .int .i64 1, .int .i64 1]
        obtain ⟨W7, hW7⟩ : ∃ W7, w6.alloc (.cells #[.int .i64 1, .int .i64 1, .int .i64 1] 3) = W7 := ⟨_, rfl⟩
        have hk7 : Kp [] w6 W7 := hW7 ▸ (Kp.refl [] w6).alloc _
        rw [hW7] at hZ2
        have hi7 := Lib.hid (is_lit (n := 3) (zs := [1, 1, 1]) hZ2 rfl (by omega) rfl)
        have hva7 := Lib.hid (hva'.out.kp hk7)
        have hK7 := Lib.hid (hK6.out.trans hk7)
        replace hZ2 := Lib.hid hZ2
        replace hW7 := Lib.hid hW7
        clear hk7
        go_wp2_with fail
        rw [hW7.out]
        have hsr := scan_rs [1, 1, 1] now W7 _ hi7.out (by decide) (by simp [isT]; omega)
        refine hsr.mono ?_
        clear hsr
        rintro r w8 ⟨vb, rfl, hvb, hk8, -⟩
        have hvb' : Is w8 vb [1, 1, 0] := hvb
        have hva8 := hva7.out.kp hk8
        have hK8 := Lib.hid (hK7.out.trans hk8)
        obtain ⟨b8, o8, c8, rfl, -, -, y2⟩ := hva8.three
        obtain ⟨b9, o9, c9, rfl, -, -, u2⟩ := hvb'.three
        clear hvb hk8 hva8 hvb' hva7 hva'
        go_wp2_with (go_at_call 19; refine (awake_c _).mono ?_; rintro r w9 ⟨rfl, hk9⟩)
        go_ret
        exact ⟨rfl, hk1.out.trans (hK8.out.trans hk9)⟩
theorem timers_c (a0 : Int) (v1 v2 : Value) (rs : List (Int × Int)) (zs : List Int) (w : World) (hz : Ps w v1 rs) (hy : Is w v2 zs) : Calls Try.prog 6 #[.int .i64 a0, v1, v2] w fun r w' => r = .returned (.bool true) ∧ Kp [] w w' := by
  have h := modF_bd a0 (n := 3) (by omega)
  rcases (show modF a0 3 = 0 ∨ modF a0 3 = 1 ∨ modF a0 3 = 2 by omega) with hm | hm | hm
  · exact timers_0 a0 v1 v2 rs zs w hz hy hm
  · exact timers_1 a0 v1 v2 rs zs w hz hy hm
  · exact timers_2 a0 v1 v2 rs zs w hz hy hm
end Go.Proofs.Ytldfddjacmgiaaa
