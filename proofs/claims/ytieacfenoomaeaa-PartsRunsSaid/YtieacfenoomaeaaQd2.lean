import Derived.Test.YtieacfenoomaeaaQd1
import Derived.Deep.QuietTactic
set_option linter.unusedSimpArgs false
set_option linter.unusedVariables false
namespace Go.Proofs.Ytieacfenoomaeaa
open Go.RowKit

/-- v is a slice of these pairs of ints. -/
def Ps (w : World) (v : Value) (rs : List (Int × Int)) : Prop :=
  ∃ p c, v = .slice p rs.length c ∧ rs.length ≤ c ∧ c ≤ 9223372036854775807 ∧ (rs = [] ∨ ∃ b off, p = some ⟨b, off, none⟩ ∧ ∀ k, k < rs.length → w.cell? ⟨b, off + k * 2, none⟩ = some (.int .i64 (rs.getD k (0, 0)).1) ∧ w.cell? ⟨b, off + k * 2 + 1, none⟩ = some (.int .i64 (rs.getD k (0, 0)).2))
theorem Ps.kp {w w' : World} {v : Value} {rs : List (Int × Int)} (h : Ps w v rs) (k : Kp [] w w') : Ps w' v rs := by
  obtain ⟨p, c, h1, h2, h3, h4⟩ := h
  refine ⟨p, c, h1, h2, h3, ?_⟩
  rcases h4 with h4 | ⟨b, off, h5, h6⟩
  · exact .inl h4
  · exact .inr ⟨b, off, h5, fun j hj => ⟨k.cell (h6 j hj).1 (by simp), k.cell (h6 j hj).2 (by simp)⟩⟩
theorem Ps.val {w : World} {v : Value} {rs : List (Int × Int)} (h : Ps w v rs) : ∃ p c, v = .slice p rs.length c ∧ rs.length ≤ c ∧ c ≤ 9223372036854775807 := by
  obtain ⟨p, c, h1, h2, h3, _⟩ := h
  exact ⟨p, c, h1, h2, h3⟩
theorem Ps.at_ {w : World} {p : Option Addr} {n c : Nat} {rs : List (Int × Int)} (h : Ps w (.slice p n c) rs) (k : Nat) (hk : k < rs.length) : ∃ b off x y, p = some ⟨b, off, none⟩ ∧ w.cell? ⟨b, off + k * 2, none⟩ = some (.int .i64 x) ∧ w.cell? ⟨b, off + k * 2 + 1, none⟩ = some (.int .i64 y) := by
  obtain ⟨p', c', h1, _, _, h4⟩ := h
  simp at h1
  obtain ⟨rfl, rfl, rfl⟩ := h1
  rcases h4 with rfl | ⟨b, off, rfl, h6⟩
  · exact absurd hk (Nat.not_lt_zero _)
  · exact ⟨b, off, _, _, rfl, (h6 k hk).1, (h6 k hk).2⟩
theorem Ow.other {w0 w : World} {g n c : Nat} {zs : List Int} (h : Ow w0 w (.slice (some ⟨g, 0, none⟩) n c) zs) {p : Addr} (hp : g ≠ p.block) (x : Int) : Ow w0 (w.setCell p (.int .i64 x)) (.slice (some ⟨g, 0, none⟩) n c) zs := by
  rcases h.2 with ⟨h1, _⟩ | ⟨g', cap, cur, h1, h2, h3, h4⟩
  · cases h1
  · have h1' := h1
    simp at h1'
    obtain ⟨rfl, _⟩ := h1'
    exact ⟨h.1, .inr ⟨g, cap, cur, h1, h2, (Below.heap_setCell w p (.int .i64 x) g hp).trans h3, h4⟩⟩
theorem Ow.six {w0 w : World} {v : Value} {z0 z1 z2 z3 z4 z5 : Int} (h : Ow w0 w v [z0, z1, z2, z3, z4, z5]) : ∃ g c, v = .slice (some ⟨g, 0, none⟩) 6 c ∧ w0.heap.size ≤ g ∧ g < w.heap.size ∧ w.cell? ⟨g, 0, none⟩ = some (.int .i64 z0) ∧ w.cell? ⟨g, 1, none⟩ = some (.int .i64 z1) ∧
    w.cell? ⟨g, 2, none⟩ = some (.int .i64 z2) ∧ w.cell? ⟨g, 3, none⟩ = some (.int .i64 z3) ∧ w.cell? ⟨g, 4, none⟩ = some (.int .i64 z4) ∧ w.cell? ⟨g, 5, none⟩ = some (.int .i64 z5) ∧ ∀ j, w.frozen? ⟨g, j, none⟩ = false := by
  obtain ⟨g, c, h1, h2, h3, h5, h6⟩ := h.at_ (Nat.succ_pos _)
  exact ⟨g, c, h1, h2, h3, h5 0 (Nat.succ_pos _), h5 1 (by show 1 < 6; omega), h5 2 (by show 2 < 6; omega), h5 3 (by show 3 < 6; omega), h5 4 (by show 4 < 6; omega), h5 5 (by show 5 < 6; omega), h6⟩
theorem stp_ctu (C R P q n s : Int) (hn : n < 2147483647) : stp 3 [C, R, P, q, n, s] 0 = [C, R, P, oneOf (decide (P ≤ (if R = 1 then 0 else if C = 1 ∧ s = 0 then n + 1 else n))), (if R = 1 then 0 else if C = 1 ∧ s = 0 then n + 1 else n), C] := by
  simp [stp, stF, kin, ctuF, f6, F6.list, hn]
theorem stp_ctd (C R P q m s : Int) (hm : -2147483648 < m) : stp 4 [C, R, P, q, m, s] 0 = [C, R, P, oneOf (decide ((if R = 1 then P else if C = 1 ∧ s = 0 then m - 1 else m) ≤ 0)), (if R = 1 then P else if C = 1 ∧ s = 0 then m - 1 else m), C] := by
  simp [stp, stF, kin, ctdF, f6, F6.list, hm]
theorem are_cnt {C R P q n s : Int} (hC : C = 0 ∨ C = 1) (hR : R = 0 ∨ R = 1) (hP : 0 ≤ P ∧ P < 20) (hq : q = 0 ∨ q = 1) (hn : -100 ≤ n ∧ n ≤ 100) (hs : s = 0 ∨ s = 1) : areV [1, 1, 2, 1, 2, 1] [C, R, P, q, n, s] = true := by
  simp [areV, isV, bitB, valB]
  omega
theorem oneOf_bit (b : Bool) : oneOf b = 0 ∨ oneOf b = 1 := by cases b <;> simp [oneOf]

set_option maxRecDepth 100000 in
set_option maxHeartbeats 4000000 in
theorem counts_c (v0 : Value) (rs : List (Int × Int)) (p0 : Int) (w : World) (hz : Ps w v0 rs) : Calls Try.prog 8 #[v0, .int .i64 p0] w fun r w' => r = .returned (.bool true) ∧ Kp [] w w' := by
  obtain ⟨q1, c1, rfl, hn1, hc1⟩ := hz.val
  obtain ⟨len, hn⟩ : ∃ n, rs.length = n := ⟨_, rfl⟩
  rw [hn] at hz hn1 ⊢
  replace hz := Lib.hid hz
  replace hn := Lib.hid hn
  have hbig : len ≤ 9223372036854775807 := by omega
  have hP := modF_bd p0 (n := 20) (by omega)
  obtain ⟨P, hPP⟩ : ∃ m, modF p0 20 = m := ⟨_, rfl⟩
  rw [hPP] at hP
  go_enter Try.func8, Try.ntmps8
  go_wp2_with fail
  refine (mod_c p0 20 _ (by omega) (by omega)).mono ?_
  rintro r w1 ⟨rfl, rfl⟩
  rw [hPP]
  clear hPP
  have hA := ow_lit (w0 := w1) (w := w1) (zs := [0, 0, P, 0, 0, 0]) (n := 6) rfl (by omega) (Nat.le_refl _) rfl
  have hB := ow_lit (w0 := w1) (w := w1.alloc (.cells #[.int .i64 0, .int .i64 0, .int .i64 P, .int .i64 0, .int .i64 0, .int .i64 0] 3)) (zs := [0, 0, P, 0, 0, 0]) (n := 6) rfl (by omega) (by simp) rfl
  replace hA := hA.kp ((Kp.refl [] _).alloc (.cells #[.int .i64 0, .int .i64 0, .int .i64 P, .int .i64 0, .int .i64 0, .int .i64 0] 3))
  have hk1 := ((Kp.refl [] w1).alloc (.cells #[.int .i64 0, .int .i64 0, .int .i64 P, .int .i64 0, .int .i64 0, .int .i64 0] 3)).alloc (.cells #[.int .i64 0, .int .i64 0, .int .i64 P, .int .i64 0, .int .i64 0, .int .i64 0] 3)
  simp only [World.size_alloc] at hB
  obtain ⟨W1, hW1⟩ : ∃ W1, (w1.alloc (.cells #[.int .i64 0, .int .i64 0, .int .i64 P, .int .i64 0, .int .i64 0, .int .i64 0] 3)).alloc (.cells #[.int .i64 0, .int .i64 0, .int .i64 P, .int .i64 0, .int .i64 0, .int .i64 0] 3) = W1 := ⟨_, rfl⟩
  replace hA : Ow w1 W1 (.slice (some ⟨w1.heap.size, 0, none⟩) 6 6) [0, 0, P, 0, 0, 0] := hW1 ▸ hA
  replace hB : Ow w1 W1 (.slice (some ⟨w1.heap.size + 1, 0, none⟩) 6 6) [0, 0, P, 0, 0, 0] := hW1 ▸ hB
  rw [hW1] at hk1
  replace hA := Lib.hid hA
  replace hB := Lib.hid hB
  replace hk1 := Lib.hid hk1
  replace hW1 := Lib.hid hW1
  go_wp2_with fail
  rw [hW1.out]
  obtain ⟨gx, hgx⟩ : ∃ x, w1.heap.size = x := ⟨_, rfl⟩
  rw [hgx] at hA hB ⊢
  go_loopw [5, 6, 7, 8, 9, 10] (fun u5 u6 un um us i wr => ∃ (k g5 g6 d5 d6 : Nat) (n m s a0 a1 aq b0 b1 bq : Int), k ≤ len ∧ k ≤ 60 ∧ i = .int .i64 k ∧ un = .int .i64 n ∧ um = .int .i64 m ∧ us = .int .i64 s ∧ u5 = .slice (some ⟨g5, 0, none⟩) 6 d5 ∧ u6 = .slice (some ⟨g6, 0, none⟩) 6 d6 ∧ g5 ≠ g6 ∧
    (0 ≤ n ∧ n ≤ k) ∧ (-k ≤ m ∧ m ≤ 20) ∧ (s = 0 ∨ s = 1) ∧ Hid ((aq = 0 ∨ aq = 1) ∧ (bq = 0 ∨ bq = 1)) ∧ Hid (Ow w1 wr (.slice (some ⟨g5, 0, none⟩) 6 d5) [a0, a1, P, aq, n, s]) ∧ Hid (Ow w1 wr (.slice (some ⟨g6, 0, none⟩) 6 d6) [b0, b1, P, bq, m, s]) ∧ Hid (Kp [] w1 wr)) (fun _ _ _ _ _ i _ => len - (intOf i).toNat)
  case atStart => exact ⟨0, gx, gx + 1, 6, 6, 0, 0, 0, 0, 0, 0, 0, 0, 0, Nat.zero_le _, Nat.zero_le _, rfl, rfl, rfl, rfl, rfl, rfl, by omega, by omega, by omega, .inl rfl, ⟨.inl rfl, .inl rfl⟩, hA.out, hB.out, hk1.out⟩
  case round =>
    obtain ⟨k, g5, g6, d5, d6, n, m, s, a0, a1, aq, b0, b1, bq, hk, hk60, rfl, rfl, rfl, rfl, rfl, rfl, hgg, hnb, hmb, hs, hq, hU, hD, hK⟩ := hrel
    by_cases hlt : k < len ∧ k < 60
    · obtain ⟨hlt, hlt60⟩ := hlt
      obtain ⟨b, off, x, y, rfl, hc, hd⟩ := (hz.out.kp hK.out).at_ k (by rw [hn.out]; exact hlt)
      have hd60 : decide ((k : Int) < 60) = true := by simp; omega
      obtain ⟨g5', d5', h5', hg5, -, e0, e1, -, -, -, -, f5⟩ := hU.out.six
      obtain ⟨g6', d6', h6', hg6, -, t0, t1, -, -, -, -, f6⟩ := hD.out.six
      simp at h5' h6'
      obtain ⟨rfl, rfl⟩ := h5'
      obtain ⟨rfl, rfl⟩ := h6'
      have hC := modF_bd x (n := 2) (by omega)
      have hR8 := modF_bd y (n := 8) (by omega)
      obtain ⟨C, hCC⟩ : ∃ m, modF x 2 = m := ⟨_, rfl⟩
      obtain ⟨R8, hRR⟩ : ∃ m, modF y 8 = m := ⟨_, rfl⟩
      rw [hCC] at hC
      rw [hRR] at hR8
      have hm1 : Hid (∀ W, Calls Try.prog 28 #[.int .i64 x, .int .i64 2] W fun e w' => e = .returned (.int .i64 C) ∧ w' = W) := fun W => by rw [← hCC]; exact mod_c x 2 W (by omega) (by omega)
      have hm2 : Hid (∀ W, Calls Try.prog 28 #[.int .i64 y, .int .i64 8] W fun e w' => e = .returned (.int .i64 R8) ∧ w' = W) := fun W => by rw [← hRR]; exact mod_c y 8 W (by omega) (by omega)
      clear hCC hRR
      go_wp2_with fail
      go_quiet (first
        | (go_at_call 28; refine Calls.quiet_of_same (v := .int .i64 C) ?_; with_reducible exact hm1.out _)
        | (go_at_call 28; refine Calls.quiet_of_same (v := .int .i64 R8) ?_; with_reducible exact hm2.out _))
      obtain ⟨R, hR⟩ : ∃ z, R8 / 7 = z := ⟨_, rfl⟩
      have hRb : R = 0 ∨ R = 1 := by omega
      rw [hR]
      replace hR := Lib.hid hR
      have hkd := (Kp.refl [] wr).drewN nq
      have hU2 := hU.out.kp hkd
      have hD2 := hD.out.kp hkd
      have hK2 := Lib.hid (hK.out.trans hkd)
      have hc2 := hkd.cell hc (by simp)
      have hd2 := hkd.cell hd (by simp)
      obtain ⟨W2, hW2⟩ : ∃ W2, wr.drewN nq = W2 := ⟨_, rfl⟩
      rw [hW2] at hU2 hD2 hK2 hc2 hd2 ⊢
      clear e0 e1 t0 t1 f5 f6 hkd hU hD hK hc hd
      obtain ⟨g5', d5', h5', -, -, e0, e1, -, -, -, -, f5⟩ := hU2.six
      obtain ⟨g6', d6', h6', -, -, t0, t1, -, -, -, -, f6⟩ := hD2.six
      simp at h5' h6'
      obtain ⟨rfl, rfl⟩ := h5'
      obtain ⟨rfl, rfl⟩ := h6'
      have f50 := f5 0
      have f51 := f5 1
      have f60 := f6 0
      have f61 := f6 1
      replace hU2 := Lib.hid hU2
      replace hD2 := Lib.hid hD2
      replace hW2 := Lib.hid hW2
      clear f5 f6 hm1 hm2 hk1 hA hB hW1
      rcases (show R = 1 ∨ (R = 0 ∧ C = 1 ∧ s = 0) ∨ (R = 0 ∧ C = 0) ∨ (R = 0 ∧ C = 1 ∧ s = 1) by omega) with hw | ⟨hw, hc1'⟩ | ⟨hw, hc1'⟩ | ⟨hw, hc1'⟩
      · obtain rfl : R = 1 := by omega
        have hw1 : wrap64 (n + 1) = n + 1 := IntWalk.wrap64_in _ (by omega)
        have hw2 : wrap64 (m - 1) = m - 1 := IntWalk.wrap64_in _ (by omega)
        go_wp2_with fail
        obtain ⟨W3, hW3⟩ : ∃ W3, (((W2.setCell ⟨g5, 0, none⟩ (.int .i64 C)).setCell ⟨g5, 1, none⟩ (.int .i64 1)).setCell ⟨g6, 0, none⟩ (.int .i64 C)).setCell ⟨g6, 1, none⟩ (.int .i64 1) = W3 := ⟨_, rfl⟩
        rw [hW3]
        have hU3 : Ow w1 W3 (.slice (some ⟨g5, 0, none⟩) 6 d5) [C, 1, P, aq, n, s] := by
          rw [← hW3]
          exact ((((hU2.out.set 0 (by show 0 < 6; omega) C).set 1 (by show 1 < 6; omega) 1).other (p := ⟨g6, 0, none⟩) hgg C).other (p := ⟨g6, 1, none⟩) hgg 1)
        have hD3 : Ow w1 W3 (.slice (some ⟨g6, 0, none⟩) 6 d6) [C, 1, P, bq, m, s] := by
          rw [← hW3]
          exact ((((hD2.out.other (p := ⟨g5, 0, none⟩) (Ne.symm hgg) C).other (p := ⟨g5, 1, none⟩) (Ne.symm hgg) 1).set 0 (by show 0 < 6; omega) C).set 1 (by show 1 < 6; omega) 1)
        have hK3 : Kp [] w1 W3 := by
          rw [← hW3]
          exact (((hK2.out.setCell (p := ⟨g5, 0, none⟩) (.inr hg5) _).setCell (p := ⟨g5, 1, none⟩) (.inr hg5) _).setCell (p := ⟨g6, 0, none⟩) (.inr hg6) _).setCell (p := ⟨g6, 1, none⟩) (.inr hg6) _
        clear e0 e1 t0 t1 hc2 hd2
        replace hU3 := Lib.hid hU3
        replace hD3 := Lib.hid hD3
        replace hK3 := Lib.hid hK3
        replace hW3 := Lib.hid hW3
        have hsu := scan_ctu [C, 1, P, aq, n, s] 0 W3 _ hU3.out.is (are_cnt (by omega) (by omega) hP hq.out.1 (by omega) (by omega)) (by decide)
        rw [stp_ctu C 1 P aq n s (by omega)] at hsu
        have hEn : Hid ((if (1 : Int) = 1 then 0 else if (C : Int) = 1 ∧ (s : Int) = 0 then n + 1 else n) = 0) := by show _ = _; simp
        have hEm : Hid ((if (1 : Int) = 1 then P else if (C : Int) = 1 ∧ (s : Int) = 0 then m - 1 else m) = P) := by show _ = _; simp
        rw [hEn.out] at hsu
        refine hsu.mono ?_
        clear hsu
        rintro r w4 ⟨va, rfl, hva, hk4, hO4⟩
        have hD4 := hD3.out.kp hk4
        have hK4 := Lib.hid (hK3.out.trans hk4)
        have hsz4 := Lib.hid hK3.out.size
        replace hva := Lib.hid hva
        replace hO4 := Lib.hid (hO4.base (w0 := w1) hsz4.out)
        have hsd := scan_ctd [C, 1, P, bq, m, s] 0 w4 _ hD4.is (are_cnt (by omega) (by omega) hP hq.out.2 (by omega) (by omega)) (by decide)
        rw [stp_ctd C 1 P bq m s (by omega), hEm.out] at hsd
        replace hD4 := Lib.hid hD4
        replace hsd := Lib.hid hsd
        clear hk4
        go_wp2_with fail
        refine hsd.out.mono ?_
        rintro r w5 ⟨vb, rfl, hvb, hk5, hO5⟩
        have hK5 := hK4.out.trans hk5
        obtain ⟨ga, ca, rfl, -, hga, -⟩ := hO4.out.six
        have hO4' := hO4.out.kp hk5
        obtain ⟨gb, cb, rfl, hgb, -, -, -, -, u3, u4', -, -⟩ := hO5.six
        have hO5' := hO5.base (w0 := w1) hK4.out.size
        obtain ⟨ga', ca', hae, -, -, -, -, -, y3, y4, -, -⟩ := hO4'.six
        simp at hae
        obtain ⟨rfl, rfl⟩ := hae
        have hab : ga ≠ gb := by omega
        obtain ⟨q1, hq1⟩ : ∃ b, decide (P ≤ 0) = b := ⟨_, rfl⟩
        obtain ⟨q2, hq2⟩ : ∃ b, decide (P ≤ 0) = b := ⟨_, rfl⟩
        have hqq : q2 = q1 := hq2.symm.trans hq1
        rw [hq1] at y3 hO4'
        rw [hq2] at u3 hO5'
        have hx1 : (oneOf q1 == 1) = q1 := by cases q1 <;> rfl
        have hx2 : (oneOf q2 == 1) = q2 := by cases q2 <;> rfl
        have hz1 := oneOf_bit q1
        have hz2 := oneOf_bit q2
        obtain ⟨Q1, hQ1⟩ : ∃ z, oneOf q1 = z := ⟨_, rfl⟩
        obtain ⟨Q2, hQ2⟩ : ∃ z, oneOf q2 = z := ⟨_, rfl⟩
        rw [hQ1] at y3 hO4' hx1 hz1
        rw [hQ2] at u3 hO5' hx2 hz2
        replace hO4' := Lib.hid hO4'
        replace hO5' := Lib.hid hO5'
        replace hK5 := Lib.hid hK5
        replace hz1 := Lib.hid hz1
        replace hz2 := Lib.hid hz2
        clear hga hgb hO5 hvb hk5 hO4 hva hsd hK4 hD4 hU3 hD3 hK3 hU2 hD2 hK2 hQ1 hQ2 hsz4
        go_wp2
        go_roundw
        case rel => exact ⟨k + 1, ga, gb, ca, cb, 0, P, C, C, 1, Q1, C, 1, Q2, by omega, by omega, by go_num, rfl, rfl, rfl, rfl, rfl, hab, by omega, by omega, by omega, ⟨hz1.out, hz2.out⟩, hO4'.out, hO5'.out, hK5.out⟩
        case measure => simp [intOf]; omega
      · obtain rfl : R = 0 := by omega
        obtain rfl : C = 1 := hc1'.1
        obtain rfl : s = 0 := hc1'.2
        have hw1 : wrap64 (n + 1) = n + 1 := IntWalk.wrap64_in _ (by omega)
        have hw2 : wrap64 (m - 1) = m - 1 := IntWalk.wrap64_in _ (by omega)
        go_wp2_with fail
        obtain ⟨W3, hW3⟩ : ∃ W3, (((W2.setCell ⟨g5, 0, none⟩ (.int .i64 1)).setCell ⟨g5, 1, none⟩ (.int .i64 0)).setCell ⟨g6, 0, none⟩ (.int .i64 1)).setCell ⟨g6, 1, none⟩ (.int .i64 0) = W3 := ⟨_, rfl⟩
        rw [hW3]
        have hU3 : Ow w1 W3 (.slice (some ⟨g5, 0, none⟩) 6 d5) [1, 0, P, aq, n, 0] := by
          rw [← hW3]
          exact ((((hU2.out.set 0 (by show 0 < 6; omega) 1).set 1 (by show 1 < 6; omega) 0).other (p := ⟨g6, 0, none⟩) hgg 1).other (p := ⟨g6, 1, none⟩) hgg 0)
        have hD3 : Ow w1 W3 (.slice (some ⟨g6, 0, none⟩) 6 d6) [1, 0, P, bq, m, 0] := by
          rw [← hW3]
          exact ((((hD2.out.other (p := ⟨g5, 0, none⟩) (Ne.symm hgg) 1).other (p := ⟨g5, 1, none⟩) (Ne.symm hgg) 0).set 0 (by show 0 < 6; omega) 1).set 1 (by show 1 < 6; omega) 0)
        have hK3 : Kp [] w1 W3 := by
          rw [← hW3]
          exact (((hK2.out.setCell (p := ⟨g5, 0, none⟩) (.inr hg5) _).setCell (p := ⟨g5, 1, none⟩) (.inr hg5) _).setCell (p := ⟨g6, 0, none⟩) (.inr hg6) _).setCell (p := ⟨g6, 1, none⟩) (.inr hg6) _
        clear e0 e1 t0 t1 hc2 hd2
        replace hU3 := Lib.hid hU3
        replace hD3 := Lib.hid hD3
        replace hK3 := Lib.hid hK3
        replace hW3 := Lib.hid hW3
        have hsu := scan_ctu [1, 0, P, aq, n, 0] 0 W3 _ hU3.out.is (are_cnt (by omega) (by omega) hP hq.out.1 (by omega) (by omega)) (by decide)
        rw [stp_ctu 1 0 P aq n 0 (by omega)] at hsu
        have hEn : Hid ((if (0 : Int) = 1 then 0 else if (1 : Int) = 1 ∧ (0 : Int) = 0 then n + 1 else n) = (n + 1)) := by show _ = _; simp
        have hEm : Hid ((if (0 : Int) = 1 then P else if (1 : Int) = 1 ∧ (0 : Int) = 0 then m - 1 else m) = (m - 1)) := by show _ = _; simp
        rw [hEn.out] at hsu
        refine hsu.mono ?_
        clear hsu
        rintro r w4 ⟨va, rfl, hva, hk4, hO4⟩
        have hD4 := hD3.out.kp hk4
        have hK4 := Lib.hid (hK3.out.trans hk4)
        have hsz4 := Lib.hid hK3.out.size
        replace hva := Lib.hid hva
        replace hO4 := Lib.hid (hO4.base (w0 := w1) hsz4.out)
        have hsd := scan_ctd [1, 0, P, bq, m, 0] 0 w4 _ hD4.is (are_cnt (by omega) (by omega) hP hq.out.2 (by omega) (by omega)) (by decide)
        rw [stp_ctd 1 0 P bq m 0 (by omega), hEm.out] at hsd
        replace hD4 := Lib.hid hD4
        replace hsd := Lib.hid hsd
        clear hk4
        go_wp2_with fail
        refine hsd.out.mono ?_
        rintro r w5 ⟨vb, rfl, hvb, hk5, hO5⟩
        have hK5 := hK4.out.trans hk5
        obtain ⟨ga, ca, rfl, -, hga, -⟩ := hO4.out.six
        have hO4' := hO4.out.kp hk5
        obtain ⟨gb, cb, rfl, hgb, -, -, -, -, u3, u4', -, -⟩ := hO5.six
        have hO5' := hO5.base (w0 := w1) hK4.out.size
        obtain ⟨ga', ca', hae, -, -, -, -, -, y3, y4, -, -⟩ := hO4'.six
        simp at hae
        obtain ⟨rfl, rfl⟩ := hae
        have hab : ga ≠ gb := by omega
        obtain ⟨q1, hq1⟩ : ∃ b, decide (P ≤ (n + 1)) = b := ⟨_, rfl⟩
        obtain ⟨q2, hq2⟩ : ∃ b, decide ((m - 1) ≤ 0) = b := ⟨_, rfl⟩
        rw [hq1] at y3 hO4'
        rw [hq2] at u3 hO5'
        have hx1 : (oneOf q1 == 1) = q1 := by cases q1 <;> rfl
        have hx2 : (oneOf q2 == 1) = q2 := by cases q2 <;> rfl
        have hz1 := oneOf_bit q1
        have hz2 := oneOf_bit q2
        obtain ⟨Q1, hQ1⟩ : ∃ z, oneOf q1 = z := ⟨_, rfl⟩
        obtain ⟨Q2, hQ2⟩ : ∃ z, oneOf q2 = z := ⟨_, rfl⟩
        rw [hQ1] at y3 hO4' hx1 hz1
        rw [hQ2] at u3 hO5' hx2 hz2
        replace hO4' := Lib.hid hO4'
        replace hO5' := Lib.hid hO5'
        replace hK5 := Lib.hid hK5
        replace hz1 := Lib.hid hz1
        replace hz2 := Lib.hid hz2
        clear hga hgb hO5 hvb hk5 hO4 hva hsd hK4 hD4 hU3 hD3 hK3 hU2 hD2 hK2 hQ1 hQ2 hsz4
        go_wp2
        go_roundw
        case rel => exact ⟨k + 1, ga, gb, ca, cb, (n + 1), (m - 1), 1, 1, 0, Q1, 1, 0, Q2, by omega, by omega, by go_num, rfl, rfl, rfl, rfl, rfl, hab, by omega, by omega, by omega, ⟨hz1.out, hz2.out⟩, hO4'.out, hO5'.out, hK5.out⟩
        case measure => simp [intOf]; omega
      · obtain rfl : R = 0 := by omega
        obtain rfl : C = 0 := by omega
        have hw1 : wrap64 (n + 1) = n + 1 := IntWalk.wrap64_in _ (by omega)
        have hw2 : wrap64 (m - 1) = m - 1 := IntWalk.wrap64_in _ (by omega)
        go_wp2_with fail
        obtain ⟨W3, hW3⟩ : ∃ W3, (((W2.setCell ⟨g5, 0, none⟩ (.int .i64 0)).setCell ⟨g5, 1, none⟩ (.int .i64 0)).setCell ⟨g6, 0, none⟩ (.int .i64 0)).setCell ⟨g6, 1, none⟩ (.int .i64 0) = W3 := ⟨_, rfl⟩
        rw [hW3]
        have hU3 : Ow w1 W3 (.slice (some ⟨g5, 0, none⟩) 6 d5) [0, 0, P, aq, n, s] := by
          rw [← hW3]
          exact ((((hU2.out.set 0 (by show 0 < 6; omega) 0).set 1 (by show 1 < 6; omega) 0).other (p := ⟨g6, 0, none⟩) hgg 0).other (p := ⟨g6, 1, none⟩) hgg 0)
        have hD3 : Ow w1 W3 (.slice (some ⟨g6, 0, none⟩) 6 d6) [0, 0, P, bq, m, s] := by
          rw [← hW3]
          exact ((((hD2.out.other (p := ⟨g5, 0, none⟩) (Ne.symm hgg) 0).other (p := ⟨g5, 1, none⟩) (Ne.symm hgg) 0).set 0 (by show 0 < 6; omega) 0).set 1 (by show 1 < 6; omega) 0)
        have hK3 : Kp [] w1 W3 := by
          rw [← hW3]
          exact (((hK2.out.setCell (p := ⟨g5, 0, none⟩) (.inr hg5) _).setCell (p := ⟨g5, 1, none⟩) (.inr hg5) _).setCell (p := ⟨g6, 0, none⟩) (.inr hg6) _).setCell (p := ⟨g6, 1, none⟩) (.inr hg6) _
        clear e0 e1 t0 t1 hc2 hd2
        replace hU3 := Lib.hid hU3
        replace hD3 := Lib.hid hD3
        replace hK3 := Lib.hid hK3
        replace hW3 := Lib.hid hW3
        have hsu := scan_ctu [0, 0, P, aq, n, s] 0 W3 _ hU3.out.is (are_cnt (by omega) (by omega) hP hq.out.1 (by omega) (by omega)) (by decide)
        rw [stp_ctu 0 0 P aq n s (by omega)] at hsu
        have hEn : Hid ((if (0 : Int) = 1 then 0 else if (0 : Int) = 1 ∧ (s : Int) = 0 then n + 1 else n) = n) := by show _ = _; simp
        have hEm : Hid ((if (0 : Int) = 1 then P else if (0 : Int) = 1 ∧ (s : Int) = 0 then m - 1 else m) = m) := by show _ = _; simp
        rw [hEn.out] at hsu
        refine hsu.mono ?_
        clear hsu
        rintro r w4 ⟨va, rfl, hva, hk4, hO4⟩
        have hD4 := hD3.out.kp hk4
        have hK4 := Lib.hid (hK3.out.trans hk4)
        have hsz4 := Lib.hid hK3.out.size
        replace hva := Lib.hid hva
        replace hO4 := Lib.hid (hO4.base (w0 := w1) hsz4.out)
        have hsd := scan_ctd [0, 0, P, bq, m, s] 0 w4 _ hD4.is (are_cnt (by omega) (by omega) hP hq.out.2 (by omega) (by omega)) (by decide)
        rw [stp_ctd 0 0 P bq m s (by omega), hEm.out] at hsd
        replace hD4 := Lib.hid hD4
        replace hsd := Lib.hid hsd
        clear hk4
        go_wp2_with fail
        refine hsd.out.mono ?_
        rintro r w5 ⟨vb, rfl, hvb, hk5, hO5⟩
        have hK5 := hK4.out.trans hk5
        obtain ⟨ga, ca, rfl, -, hga, -⟩ := hO4.out.six
        have hO4' := hO4.out.kp hk5
        obtain ⟨gb, cb, rfl, hgb, -, -, -, -, u3, u4', -, -⟩ := hO5.six
        have hO5' := hO5.base (w0 := w1) hK4.out.size
        obtain ⟨ga', ca', hae, -, -, -, -, -, y3, y4, -, -⟩ := hO4'.six
        simp at hae
        obtain ⟨rfl, rfl⟩ := hae
        have hab : ga ≠ gb := by omega
        obtain ⟨q1, hq1⟩ : ∃ b, decide (P ≤ n) = b := ⟨_, rfl⟩
        obtain ⟨q2, hq2⟩ : ∃ b, decide (m ≤ 0) = b := ⟨_, rfl⟩
        rw [hq1] at y3 hO4'
        rw [hq2] at u3 hO5'
        have hx1 : (oneOf q1 == 1) = q1 := by cases q1 <;> rfl
        have hx2 : (oneOf q2 == 1) = q2 := by cases q2 <;> rfl
        have hz1 := oneOf_bit q1
        have hz2 := oneOf_bit q2
        obtain ⟨Q1, hQ1⟩ : ∃ z, oneOf q1 = z := ⟨_, rfl⟩
        obtain ⟨Q2, hQ2⟩ : ∃ z, oneOf q2 = z := ⟨_, rfl⟩
        rw [hQ1] at y3 hO4' hx1 hz1
        rw [hQ2] at u3 hO5' hx2 hz2
        replace hO4' := Lib.hid hO4'
        replace hO5' := Lib.hid hO5'
        replace hK5 := Lib.hid hK5
        replace hz1 := Lib.hid hz1
        replace hz2 := Lib.hid hz2
        clear hga hgb hO5 hvb hk5 hO4 hva hsd hK4 hD4 hU3 hD3 hK3 hU2 hD2 hK2 hQ1 hQ2 hsz4
        go_wp2
        go_roundw
        case rel => exact ⟨k + 1, ga, gb, ca, cb, n, m, 0, 0, 0, Q1, 0, 0, Q2, by omega, by omega, by go_num, rfl, rfl, rfl, rfl, rfl, hab, by omega, by omega, by omega, ⟨hz1.out, hz2.out⟩, hO4'.out, hO5'.out, hK5.out⟩
        case measure => simp [intOf]; omega
      · obtain rfl : R = 0 := by omega
        obtain rfl : C = 1 := by omega
        obtain rfl : s = 1 := by omega
        have hw1 : wrap64 (n + 1) = n + 1 := IntWalk.wrap64_in _ (by omega)
        have hw2 : wrap64 (m - 1) = m - 1 := IntWalk.wrap64_in _ (by omega)
        go_wp2_with fail
        obtain ⟨W3, hW3⟩ : ∃ W3, (((W2.setCell ⟨g5, 0, none⟩ (.int .i64 1)).setCell ⟨g5, 1, none⟩ (.int .i64 0)).setCell ⟨g6, 0, none⟩ (.int .i64 1)).setCell ⟨g6, 1, none⟩ (.int .i64 0) = W3 := ⟨_, rfl⟩
        rw [hW3]
        have hU3 : Ow w1 W3 (.slice (some ⟨g5, 0, none⟩) 6 d5) [1, 0, P, aq, n, 1] := by
          rw [← hW3]
          exact ((((hU2.out.set 0 (by show 0 < 6; omega) 1).set 1 (by show 1 < 6; omega) 0).other (p := ⟨g6, 0, none⟩) hgg 1).other (p := ⟨g6, 1, none⟩) hgg 0)
        have hD3 : Ow w1 W3 (.slice (some ⟨g6, 0, none⟩) 6 d6) [1, 0, P, bq, m, 1] := by
          rw [← hW3]
          exact ((((hD2.out.other (p := ⟨g5, 0, none⟩) (Ne.symm hgg) 1).other (p := ⟨g5, 1, none⟩) (Ne.symm hgg) 0).set 0 (by show 0 < 6; omega) 1).set 1 (by show 1 < 6; omega) 0)
        have hK3 : Kp [] w1 W3 := by
          rw [← hW3]
          exact (((hK2.out.setCell (p := ⟨g5, 0, none⟩) (.inr hg5) _).setCell (p := ⟨g5, 1, none⟩) (.inr hg5) _).setCell (p := ⟨g6, 0, none⟩) (.inr hg6) _).setCell (p := ⟨g6, 1, none⟩) (.inr hg6) _
        clear e0 e1 t0 t1 hc2 hd2
        replace hU3 := Lib.hid hU3
        replace hD3 := Lib.hid hD3
        replace hK3 := Lib.hid hK3
        replace hW3 := Lib.hid hW3
        have hsu := scan_ctu [1, 0, P, aq, n, 1] 0 W3 _ hU3.out.is (are_cnt (by omega) (by omega) hP hq.out.1 (by omega) (by omega)) (by decide)
        rw [stp_ctu 1 0 P aq n 1 (by omega)] at hsu
        have hEn : Hid ((if (0 : Int) = 1 then 0 else if (1 : Int) = 1 ∧ (1 : Int) = 0 then n + 1 else n) = n) := by show _ = _; simp
        have hEm : Hid ((if (0 : Int) = 1 then P else if (1 : Int) = 1 ∧ (1 : Int) = 0 then m - 1 else m) = m) := by show _ = _; simp
        rw [hEn.out] at hsu
        refine hsu.mono ?_
        clear hsu
        rintro r w4 ⟨va, rfl, hva, hk4, hO4⟩
        have hD4 := hD3.out.kp hk4
        have hK4 := Lib.hid (hK3.out.trans hk4)
        have hsz4 := Lib.hid hK3.out.size
        replace hva := Lib.hid hva
        replace hO4 := Lib.hid (hO4.base (w0 := w1) hsz4.out)
        have hsd := scan_ctd [1, 0, P, bq, m, 1] 0 w4 _ hD4.is (are_cnt (by omega) (by omega) hP hq.out.2 (by omega) (by omega)) (by decide)
        rw [stp_ctd 1 0 P bq m 1 (by omega), hEm.out] at hsd
        replace hD4 := Lib.hid hD4
        replace hsd := Lib.hid hsd
        clear hk4
        go_wp2_with fail
        refine hsd.out.mono ?_
        rintro r w5 ⟨vb, rfl, hvb, hk5, hO5⟩
        have hK5 := hK4.out.trans hk5
        obtain ⟨ga, ca, rfl, -, hga, -⟩ := hO4.out.six
        have hO4' := hO4.out.kp hk5
        obtain ⟨gb, cb, rfl, hgb, -, -, -, -, u3, u4', -, -⟩ := hO5.six
        have hO5' := hO5.base (w0 := w1) hK4.out.size
        obtain ⟨ga', ca', hae, -, -, -, -, -, y3, y4, -, -⟩ := hO4'.six
        simp at hae
        obtain ⟨rfl, rfl⟩ := hae
        have hab : ga ≠ gb := by omega
        obtain ⟨q1, hq1⟩ : ∃ b, decide (P ≤ n) = b := ⟨_, rfl⟩
        obtain ⟨q2, hq2⟩ : ∃ b, decide (m ≤ 0) = b := ⟨_, rfl⟩
        rw [hq1] at y3 hO4'
        rw [hq2] at u3 hO5'
        have hx1 : (oneOf q1 == 1) = q1 := by cases q1 <;> rfl
        have hx2 : (oneOf q2 == 1) = q2 := by cases q2 <;> rfl
        have hz1 := oneOf_bit q1
        have hz2 := oneOf_bit q2
        obtain ⟨Q1, hQ1⟩ : ∃ z, oneOf q1 = z := ⟨_, rfl⟩
        obtain ⟨Q2, hQ2⟩ : ∃ z, oneOf q2 = z := ⟨_, rfl⟩
        rw [hQ1] at y3 hO4' hx1 hz1
        rw [hQ2] at u3 hO5' hx2 hz2
        replace hO4' := Lib.hid hO4'
        replace hO5' := Lib.hid hO5'
        replace hK5 := Lib.hid hK5
        replace hz1 := Lib.hid hz1
        replace hz2 := Lib.hid hz2
        clear hga hgb hO5 hvb hk5 hO4 hva hsd hK4 hD4 hU3 hD3 hK3 hU2 hD2 hK2 hQ1 hQ2 hsz4
        go_wp2
        go_roundw
        case rel => exact ⟨k + 1, ga, gb, ca, cb, n, m, 1, 1, 0, Q1, 1, 0, Q2, by omega, by omega, by go_num, rfl, rfl, rfl, rfl, rfl, hab, by omega, by omega, by omega, ⟨hz1.out, hz2.out⟩, hO4'.out, hO5'.out, hK5.out⟩
        case measure => simp [intOf]; omega
    · by_cases hlt2 : k < len
      · have hd60 : decide ((k : Int) < 60) = false := by simp; omega
        replace hlt := Lib.hid hlt
        go_wp2_with (go_at_call 19; refine (awake_c _).mono ?_; rintro r w3 ⟨rfl, hk3⟩)
        go_ret
        exact ⟨rfl, hK.out.trans hk3⟩
      · obtain rfl : k = len := by omega
        replace hlt := Lib.hid hlt
        go_wp2_with (go_at_call 19; refine (awake_c _).mono ?_; rintro r w3 ⟨rfl, hk3⟩)
        go_ret
        exact ⟨rfl, hK.out.trans hk3⟩
end Go.Proofs.Ytieacfenoomaeaa
