import Derived.Test.YtkdommlojboknaaEw1
namespace Go.Proofs.Ytkdommlojboknaa
open Go.RowKit

theorem wrap32_congr {m n : Int} (h : m % 4294967296 = n % 4294967296) : wrap32 m = wrap32 n := by unfold wrap32; omega
theorem tmod_bd (a b : Int) (hb : ¬ b = 0) : (0 ≤ a → 0 ≤ a.tmod b) ∧ (a ≤ 0 → a.tmod b ≤ 0) ∧ a.tmod b < max b (-b) ∧ -(a.tmod b) < max b (-b) := by
  have h1 : 0 ≤ a → 0 ≤ a.tmod b := fun h => Int.tmod_nonneg b h
  have h2 : a ≤ 0 → a.tmod b ≤ 0 := fun h => by
    have := Int.tmod_nonneg b (show 0 ≤ -a by omega)
    rw [Int.neg_tmod] at this
    omega
  have h3 : (a.tmod b).natAbs < b.natAbs := by rw [Int.natAbs_tmod]; exact Nat.mod_lt _ (by omega)
  refine ⟨h1, h2, by omega, by omega⟩
theorem quot_back (a b : Int) (va : valB a = true) (q r : Int) (hq : wrap32 (a.tdiv b) = q) (hr : a.tmod b = r) : wrap32 (wrap64 (wrap64 (q * b) + r)) = a := by
  have e1 : wrap64 (wrap64 (q * b) + r) % 4294967296 = (q * b + r) % 4294967296 := by unfold wrap64; omega
  have e2 : (q * b) % 4294967296 = (a.tdiv b * b) % 4294967296 := by rw [Int.mul_emod, ← hq, wrap32_mod, ← Int.mul_emod]
  have e3 : (q * b + r) % 4294967296 = a % 4294967296 := by
    have := Int.mul_tdiv_add_tmod a b
    rw [Int.mul_comm] at this
    rw [hr] at this
    omega
  rw [wrap32_congr (e1.trans e3), wrap32_val a va]
set_option maxRecDepth 100000 in
set_option maxHeartbeats 1000000 in
theorem quotients_c (x y : Int) (w : World) (_ : (Lit.int .i64 x).wf = true) (_ : (Lit.int .i64 y).wf = true) :
    Calls Try.prog 6 #[.int .i64 x, .int .i64 y] w fun e w' => e = .returned (.bool true) ∧ Gr w w' := by
  obtain ⟨a, ha⟩ : ∃ a, wrap32 x = a := ⟨_, rfl⟩
  obtain ⟨b, hb⟩ : ∃ b, wrap32 y = b := ⟨_, rfl⟩
  have va : Hid (valB a = true) := by rw [← ha]; exact val_wrap32 x
  have vb : Hid (valB b = true) := by rw [← hb]; exact val_wrap32 y
  replace ha := Lib.hid ha
  replace hb := Lib.hid hb
  by_cases hz : b = 0
  · subst hz
    go_enter Try.func6, Try.ntmps6
    go_wp2_with fail
    refine (rwrap_c x _).mono ?_
    rintro e w' ⟨rfl, rfl⟩
    rw [ha.out]
    go_wp2_with fail
    refine (rwrap_c y _).mono ?_
    rintro e w' ⟨rfl, rfl⟩
    rw [hb.out]
    go_wp2_with fail
    refine (bin_20_0 a _ va.out).mono ?_
    rintro e w1 ⟨rfl, h1⟩
    go_wp2_with fail
    refine (bin_21_0 a _ va.out).mono ?_
    rintro e w2 ⟨rfl, h2⟩
    go_wp2_with fail
    refine (awake_c _).mono ?_
    rintro e w4 ⟨rfl, h4⟩
    go_wp2_with fail
    go_ret
    exact ⟨rfl, (h1.trans h2).trans h4⟩
  · obtain ⟨q, hq⟩ : ∃ q, wrap32 (a.tdiv b) = q := ⟨_, rfl⟩
    obtain ⟨r, hr⟩ : ∃ r, wrap32 (a.tmod b) = r := ⟨_, rfl⟩
    have ⟨t1, t2, t3, t4⟩ := tmod_bd a b hz
    obtain ⟨bb1, bb2⟩ := val_bd vb.out
    have er : a.tmod b = r := by rw [← hr, IntWalk.wrap32_in]; omega
    have hE : Hid (wrap32 (wrap64 (wrap64 (q * b) + r)) = a) := quot_back a b va.out q r hq er
    rw [er] at t1 t2 t3 t4
    have hlt : max r (-r) < max b (-b) := by omega
    have wr : wrap64 (-r) = -r := IntWalk.wrap64_in _ (by omega)
    have wb : wrap64 (-b) = -b := IntWalk.wrap64_in _ (by omega)
    clear er
    replace hq := Lib.hid hq
    replace hr := Lib.hid hr
    go_enter Try.func6, Try.ntmps6
    go_wp2_with fail
    refine (rwrap_c x _).mono ?_
    rintro e w' ⟨rfl, rfl⟩
    rw [ha.out]
    go_wp2_with fail
    refine (rwrap_c y _).mono ?_
    rintro e w' ⟨rfl, rfl⟩
    rw [hb.out]
    go_wp2_with fail
    refine (bin_20 a b _ va.out vb.out hz).mono ?_
    rintro e w1 ⟨rfl, h1⟩
    rw [hq.out]
    go_wp2_with fail
    refine (bin_21 a b _ va.out vb.out hz).mono ?_
    rintro e w2 ⟨rfl, h2⟩
    rw [hr.out]
    go_wp2_with fail
    refine (rwrap_c _ _).mono ?_
    rintro e w' ⟨rfl, rfl⟩
    rw [hE.out]
    clear t3 t4 hz
    rcases Int.lt_trichotomy r 0 with hc | hc | hc
    · have ha0 : a < 0 := by omega
      have hr0 : (r != 0) = true := by simp; omega
      clear t1 t2
      go_wp2_with fail
      refine (awake_c _).mono ?_
      rintro e w4 ⟨rfl, h4⟩
      go_wp2_with fail
      go_ret
      exact ⟨rfl, (h1.trans h2).trans h4⟩
    · subst hc
      clear t1 t2
      go_wp2_with fail
      refine (awake_c _).mono ?_
      rintro e w4 ⟨rfl, h4⟩
      go_wp2_with fail
      go_ret
      exact ⟨rfl, (h1.trans h2).trans h4⟩
    · have ha0 : decide (a < 0) = false := by simp; omega
      have hr1 : decide (r < 0) = false := by simp; omega
      have hr0 : (r != 0) = true := by simp; omega
      clear t1 t2
      go_wp2_with fail
      refine (awake_c _).mono ?_
      rintro e w4 ⟨rfl, h4⟩
      go_wp2_with fail
      go_ret
      exact ⟨rfl, (h1.trans h2).trans h4⟩
end Go.Proofs.Ytkdommlojboknaa
