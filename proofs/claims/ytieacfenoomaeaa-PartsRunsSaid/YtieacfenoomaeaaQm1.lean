import Derived.Test.YtieacfenoomaeaaQb4
set_option linter.unusedSimpArgs false
set_option linter.unusedVariables false
namespace Go.Proofs.Ytieacfenoomaeaa
open Go.RowKit

theorem oneOf_cases (b : Bool) : oneOf b = 0 ∨ oneOf b = 1 := by cases b <;> simp [oneOf]
theorem isV_oneOf (b : Bool) : isV 1 (oneOf b) = true := by cases b <;> rfl
theorem isV_of {k n : Int} (hk : (k == 1) = false) (h : -2147483648 ≤ n ∧ n ≤ 2147483647) : isV k n = true := by simp [isV, hk, valB]; exact h
theorem isV_gone {k b e now : Int} (hk : (k == 1) = false) (hb : -2147483648 ≤ b ∧ b ≤ 2147483647) : isV k (gone b e now) = true := isV_of hk (by have := gone_bd (e := e) (now := now) hb; omega)
theorem isV_now {k now : Int} (hk : (k == 1) = false) (h : isT now = true) : isV k now = true := isV_of hk (by have := isT_bd h; omega)
/-- The timers: their cells behind an execution are such, the inputs stay, a second execution changes nothing. -/
def Good (i : Nat) (zs : List Int) (now : Int) : Prop := areV (kin i) (stp i zs now) = true ∧ stp i (stp i zs now) now = stp i zs now
theorem good_ton {zs : List Int} {now : Int} (hv : areV (kin 0) zs = true) (ht : isT now = true) : Good 0 zs now := by
  obtain ⟨a, b, c, d, e, f, rfl, h0, h1, h2, h3, h4, h5⟩ := six_of (show areV [1, 3, 1, 3, 3, 1] zs = true from hv)
  have i1 : isV 3 now = true := isV_now rfl ht
  have i2 : isV 3 (gone b now now) = true := isV_gone rfl (isV_bd h1)
  have i3 : isV 3 (gone b e now) = true := isV_gone rfl (isV_bd h1)
  have i4 : isV 3 0 = true := rfl
  have i5 : isV 1 0 = true := rfl
  have i6 : isV 1 1 = true := rfl
  rcases bit_cases h0 with rfl | rfl
  · refine ⟨?_, ?_⟩
    · simp [stp, stF, kin, f6, F6.list, tonF, areV, *]
    · simp [stp, stF, kin, f6, F6.list, tonF]
  · rcases bit_cases h5 with rfl | rfl
    · refine ⟨?_, ?_⟩
      · simp [stp, stF, kin, f6, F6.list, tonF, areV, isV_oneOf, *]
      · simp [stp, stF, kin, f6, F6.list, tonF]
    · refine ⟨?_, ?_⟩
      · simp [stp, stF, kin, f6, F6.list, tonF, areV, isV_oneOf, *]
      · simp [stp, stF, kin, f6, F6.list, tonF]
theorem good_tof {zs : List Int} {now : Int} (hv : areV (kin 1) zs = true) (ht : isT now = true) : Good 1 zs now := by
  obtain ⟨a, b, c, d, e, f, rfl, h0, h1, h2, h3, h4, h5⟩ := six_of (show areV [1, 3, 1, 3, 3, 1] zs = true from hv)
  have i1 : isV 3 now = true := isV_now rfl ht
  have i2 : isV 3 (gone b now now) = true := isV_gone rfl (isV_bd h1)
  have i3 : isV 3 (gone b e now) = true := isV_gone rfl (isV_bd h1)
  have i4 : isV 3 0 = true := rfl
  have i5 : isV 1 0 = true := rfl
  have i6 : isV 1 1 = true := rfl
  rcases bit_cases h0 with rfl | rfl
  · rcases bit_cases h2 with rfl | rfl
    · refine ⟨?_, ?_⟩
      · simp [stp, stF, kin, f6, F6.list, tofF, areV, *]
      · simp [stp, stF, kin, f6, F6.list, tofF]
    · rcases bit_cases h5 with rfl | rfl
      · by_cases hb : pre b ≤ gone b now now
        · refine ⟨?_, ?_⟩
          · simp [stp, stF, kin, f6, F6.list, tofF, areV, *]
          · simp [stp, stF, kin, f6, F6.list, tofF, hb]
        · refine ⟨?_, ?_⟩
          · simp [stp, stF, kin, f6, F6.list, tofF, areV, *]
          · simp [stp, stF, kin, f6, F6.list, tofF, hb]
      · by_cases hb : pre b ≤ gone b e now
        · refine ⟨?_, ?_⟩
          · simp [stp, stF, kin, f6, F6.list, tofF, areV, *]
          · simp [stp, stF, kin, f6, F6.list, tofF, hb]
        · refine ⟨?_, ?_⟩
          · simp [stp, stF, kin, f6, F6.list, tofF, areV, *]
          · simp [stp, stF, kin, f6, F6.list, tofF, hb]
  · refine ⟨?_, ?_⟩
    · simp [stp, stF, kin, f6, F6.list, tofF, areV, *]
    · simp [stp, stF, kin, f6, F6.list, tofF]
theorem pre_gone {b : Int} (h : ¬ 0 < b) (e now : Int) : pre b ≤ gone b e now := by unfold pre gone; omega
theorem gone_pos {b e now : Int} (hp : 0 < b) (h : pre b ≤ gone b e now) : ¬ gone b e now = 0 := by unfold pre at h; omega
theorem gone_zero {b e now : Int} (h : ¬ 0 < b) : gone b e now = 0 := by unfold gone; omega
theorem good_tp {zs : List Int} {now : Int} (hv : areV (kin 2) zs = true) (ht : isT now = true) : Good 2 zs now := by
  obtain ⟨a, b, c, d, e, f, rfl, h0, h1, h2, h3, h4, h5⟩ := six_of (show areV [1, 3, 1, 3, 3, 1] zs = true from hv)
  have i1 : isV 3 now = true := isV_now rfl ht
  have i2 : isV 3 (gone b now now) = true := isV_gone rfl (isV_bd h1)
  have i3 : isV 3 (gone b e now) = true := isV_gone rfl (isV_bd h1)
  have i4 : isV 3 0 = true := rfl
  have i5 : isV 1 0 = true := rfl
  have i6 : isV 1 1 = true := rfl
  have g0 : gone b now now = 0 := by unfold gone; omega
  rcases bit_cases h5 with rfl | rfl
  · rcases bit_cases h0 with rfl | rfl
    · refine ⟨?_, ?_⟩
      · simp [stp, stF, kin, f6, F6.list, tpF, tpE, areV, *]
      · simp [stp, stF, kin, f6, F6.list, tpF, tpE]
    · by_cases hs : c = 0 ∧ d = 0 ∧ 0 < b
      · obtain ⟨rfl, rfl, hp⟩ := hs
        have hb : ¬ pre b ≤ 0 := by unfold pre; omega
        refine ⟨?_, ?_⟩
        · simp [stp, stF, kin, f6, F6.list, tpF, tpE, areV, *]
        · simp [stp, stF, kin, f6, F6.list, tpF, tpE, g0, hp, hb]
      · refine ⟨?_, ?_⟩
        · simp [stp, stF, kin, f6, F6.list, tpF, tpE, areV, *]
        · simp [stp, stF, kin, f6, F6.list, tpF, tpE, hs]
  · by_cases hb : pre b ≤ gone b e now
    · rcases bit_cases h0 with rfl | rfl
      · refine ⟨?_, ?_⟩
        · simp [stp, stF, kin, f6, F6.list, tpF, tpE, areV, *]
        · simp [stp, stF, kin, f6, F6.list, tpF, tpE, hb]
      · have hn : ¬ (gone b e now = 0 ∧ 0 < b) := fun h => gone_pos h.2 hb h.1
        refine ⟨?_, ?_⟩
        · simp [stp, stF, kin, f6, F6.list, tpF, tpE, areV, *]
        · simp [stp, stF, kin, f6, F6.list, tpF, tpE, hb, hn]
    · refine ⟨?_, ?_⟩
      · simp [stp, stF, kin, f6, F6.list, tpF, tpE, areV, *]
      · simp [stp, stF, kin, f6, F6.list, tpF, tpE, hb]
theorem good_ctu {zs : List Int} {now : Int} (hv : areV (kin 3) zs = true) : Good 3 zs now := by
  obtain ⟨a, b, c, d, e, f, rfl, h0, h1, h2, h3, h4, h5⟩ := six_of (show areV [1, 1, 2, 1, 2, 1] zs = true from hv)
  have he := isV_bd h4
  have i4 : isV 2 0 = true := rfl
  have i5 : isV 1 0 = true := rfl
  have i6 : isV 1 1 = true := rfl
  rcases bit_cases h1 with rfl | rfl
  · by_cases hs : a = 1 ∧ f = 0 ∧ e < 2147483647
    · have i7 : isV 2 (e + 1) = true := isV_of rfl (by omega)
      obtain ⟨rfl, rfl, hl⟩ := hs
      refine ⟨?_, ?_⟩
      · simp [stp, stF, kin, f6, F6.list, ctuF, areV, isV_oneOf, *]
      · simp [stp, stF, kin, f6, F6.list, ctuF, hl]
    · have hs2 : ¬ (a = 1 ∧ a = 0 ∧ e < 2147483647) := by omega
      refine ⟨?_, ?_⟩
      · simp [stp, stF, kin, f6, F6.list, ctuF, areV, isV_oneOf, *]
      · simp [stp, stF, kin, f6, F6.list, ctuF, hs, hs2]
  · refine ⟨?_, ?_⟩
    · simp [stp, stF, kin, f6, F6.list, ctuF, areV, isV_oneOf, *]
    · simp [stp, stF, kin, f6, F6.list, ctuF]
theorem good_ctd {zs : List Int} {now : Int} (hv : areV (kin 4) zs = true) : Good 4 zs now := by
  obtain ⟨a, b, c, d, e, f, rfl, h0, h1, h2, h3, h4, h5⟩ := six_of (show areV [1, 1, 2, 1, 2, 1] zs = true from hv)
  have he := isV_bd h4
  have i5 : isV 1 0 = true := rfl
  have i6 : isV 1 1 = true := rfl
  rcases bit_cases h1 with rfl | rfl
  · by_cases hs : a = 1 ∧ f = 0 ∧ -2147483648 < e
    · have i7 : isV 2 (e - 1) = true := isV_of rfl (by omega)
      obtain ⟨rfl, rfl, hl⟩ := hs
      refine ⟨?_, ?_⟩
      · simp [stp, stF, kin, f6, F6.list, ctdF, areV, isV_oneOf, *]
      · simp [stp, stF, kin, f6, F6.list, ctdF, hl]
    · have hs2 : ¬ (a = 1 ∧ a = 0 ∧ -2147483648 < e) := by omega
      refine ⟨?_, ?_⟩
      · simp [stp, stF, kin, f6, F6.list, ctdF, areV, isV_oneOf, *]
      · simp [stp, stF, kin, f6, F6.list, ctdF, hs, hs2]
  · refine ⟨?_, ?_⟩
    · simp [stp, stF, kin, f6, F6.list, ctdF, areV, isV_oneOf, *]
    · simp [stp, stF, kin, f6, F6.list, ctdF]
theorem good_s (i : Nat) (hi : i = 5 ∨ i = 6) {zs : List Int} {now : Int} (hv : areV (kin i) zs = true) : Good i zs now := by
  have hv2 : areV [1, 1, 1] zs = true := by rw [← kin3 (i := i) (by omega)]; exact hv
  obtain ⟨a, b, c, rfl, h0, h1, h2⟩ := three_of hv2
  rcases bit_cases h0 with rfl | rfl <;> rcases bit_cases h1 with rfl | rfl <;> rcases bit_cases h2 with rfl | rfl <;> rcases hi with rfl | rfl
  all_goals exact ⟨rfl, rfl⟩
theorem edge_2 (i : Nat) (hi : i = 7 ∨ i = 8) {zs : List Int} {now : Int} (hv : areV (kin i) zs = true) : areV (kin i) (stp i zs now) = true ∧ ∃ a q s b c, zs = [a, b, c] ∧ stp i zs now = [a, q, s] ∧ stp i (stp i zs now) now = [a, 0, s] := by
  have hv2 : areV [1, 1, 1] zs = true := by rw [← kin3 (i := i) (by omega)]; exact hv
  obtain ⟨a, b, c, rfl, h0, h1, h2⟩ := three_of hv2
  rcases bit_cases h0 with rfl | rfl <;> rcases bit_cases h1 with rfl | rfl <;> rcases bit_cases h2 with rfl | rfl <;> rcases hi with rfl | rfl
  all_goals exact ⟨rfl, _, _, _, _, _, rfl, rfl, rfl⟩
theorem in_tonF (x : F6) (now : Int) : (tonF x now).a = x.a ∧ (tonF x now).b = x.b := by
  unfold tonF
  constructor
  all_goals
    simp only []
    repeat' split
    all_goals rfl
theorem in_tofF (x : F6) (now : Int) : (tofF x now).a = x.a ∧ (tofF x now).b = x.b := by
  unfold tofF
  constructor
  all_goals
    simp only []
    repeat' split
    all_goals rfl
theorem in_ctuF (x : F6) (now : Int) : (ctuF x now).a = x.a ∧ (ctuF x now).b = x.b := by
  unfold ctuF
  constructor
  all_goals
    simp only []
    repeat' split
    all_goals rfl
theorem in_ctdF (x : F6) (now : Int) : (ctdF x now).a = x.a ∧ (ctdF x now).b = x.b := by
  unfold ctdF
  constructor
  all_goals
    simp only []
    repeat' split
    all_goals rfl
theorem in_srF (x : F6) (now : Int) : (srF x now).a = x.a ∧ (srF x now).b = x.b := by
  unfold srF
  constructor
  all_goals
    simp only []
    repeat' split
    all_goals rfl
theorem in_rsF (x : F6) (now : Int) : (rsF x now).a = x.a ∧ (rsF x now).b = x.b := by
  unfold rsF
  constructor
  all_goals
    simp only []
    repeat' split
    all_goals rfl
theorem in_tpE (x : F6) (now : Int) : (tpE x now).a = x.a ∧ (tpE x now).b = x.b := by
  unfold tpE
  constructor
  all_goals
    repeat' split
    all_goals rfl
theorem in_tpF (x : F6) (now : Int) : (tpF x now).a = x.a ∧ (tpF x now).b = x.b := by
  unfold tpF
  have h := in_tpE (if x.f = 0 ∧ x.a = 1 ∧ x.c = 0 ∧ x.d = 0 ∧ 0 < x.b then { x with c := 1, e := now, f := 1 } else x) now
  constructor
  · rw [h.1]; split <;> rfl
  · rw [h.2]; split <;> rfl
theorem in3_ctuF (x : F6) (now : Int) : (ctuF x now).c = x.c := by
  unfold ctuF
  simp only []
theorem in3_ctdF (x : F6) (now : Int) : (ctdF x now).c = x.c := by
  unfold ctdF
  simp only []
theorem kept_ton {zs : List Int} {now : Int} (hv : areV (kin 0) zs = true) : ∀ j, j < 6 → (timerL.map fun x => x.2.1).getD j 0 = 1 → (stp 0 zs now).getD j 0 = zs.getD j 0 := by
  obtain ⟨a, b, c, d, e, f, rfl, -⟩ := six_of (show areV [1, 3, 1, 3, 3, 1] zs = true from hv)
  intro j hj hc
  rcases (show j = 0 ∨ j = 1 ∨ j = 2 ∨ j = 3 ∨ j = 4 ∨ j = 5 by omega) with rfl | rfl | rfl | rfl | rfl | rfl
  · exact (in_tonF ⟨a, b, c, d, e, f⟩ now).1
  · exact (in_tonF ⟨a, b, c, d, e, f⟩ now).2
  all_goals exact absurd hc (by decide)
theorem kept_tof {zs : List Int} {now : Int} (hv : areV (kin 1) zs = true) : ∀ j, j < 6 → (timerL.map fun x => x.2.1).getD j 0 = 1 → (stp 1 zs now).getD j 0 = zs.getD j 0 := by
  obtain ⟨a, b, c, d, e, f, rfl, -⟩ := six_of (show areV [1, 3, 1, 3, 3, 1] zs = true from hv)
  intro j hj hc
  rcases (show j = 0 ∨ j = 1 ∨ j = 2 ∨ j = 3 ∨ j = 4 ∨ j = 5 by omega) with rfl | rfl | rfl | rfl | rfl | rfl
  · exact (in_tofF ⟨a, b, c, d, e, f⟩ now).1
  · exact (in_tofF ⟨a, b, c, d, e, f⟩ now).2
  all_goals exact absurd hc (by decide)
theorem kept_tp {zs : List Int} {now : Int} (hv : areV (kin 2) zs = true) : ∀ j, j < 6 → (timerL.map fun x => x.2.1).getD j 0 = 1 → (stp 2 zs now).getD j 0 = zs.getD j 0 := by
  obtain ⟨a, b, c, d, e, f, rfl, -⟩ := six_of (show areV [1, 3, 1, 3, 3, 1] zs = true from hv)
  intro j hj hc
  rcases (show j = 0 ∨ j = 1 ∨ j = 2 ∨ j = 3 ∨ j = 4 ∨ j = 5 by omega) with rfl | rfl | rfl | rfl | rfl | rfl
  · exact (in_tpF ⟨a, b, c, d, e, f⟩ now).1
  · exact (in_tpF ⟨a, b, c, d, e, f⟩ now).2
  all_goals exact absurd hc (by decide)
theorem kept_ctu {zs : List Int} {now : Int} (hv : areV (kin 3) zs = true) : ∀ j, j < 6 → (ctuL.map fun x => x.2.1).getD j 0 = 1 → (stp 3 zs now).getD j 0 = zs.getD j 0 := by
  obtain ⟨a, b, c, d, e, f, rfl, -⟩ := six_of (show areV [1, 1, 2, 1, 2, 1] zs = true from hv)
  intro j hj hc
  rcases (show j = 0 ∨ j = 1 ∨ j = 2 ∨ j = 3 ∨ j = 4 ∨ j = 5 by omega) with rfl | rfl | rfl | rfl | rfl | rfl
  · exact (in_ctuF ⟨a, b, c, d, e, f⟩ now).1
  · exact (in_ctuF ⟨a, b, c, d, e, f⟩ now).2
  · exact in3_ctuF ⟨a, b, c, d, e, f⟩ now
  all_goals exact absurd hc (by decide)
theorem kept_ctd {zs : List Int} {now : Int} (hv : areV (kin 4) zs = true) : ∀ j, j < 6 → (ctdL.map fun x => x.2.1).getD j 0 = 1 → (stp 4 zs now).getD j 0 = zs.getD j 0 := by
  obtain ⟨a, b, c, d, e, f, rfl, -⟩ := six_of (show areV [1, 1, 2, 1, 2, 1] zs = true from hv)
  intro j hj hc
  rcases (show j = 0 ∨ j = 1 ∨ j = 2 ∨ j = 3 ∨ j = 4 ∨ j = 5 by omega) with rfl | rfl | rfl | rfl | rfl | rfl
  · exact (in_ctdF ⟨a, b, c, d, e, f⟩ now).1
  · exact (in_ctdF ⟨a, b, c, d, e, f⟩ now).2
  · exact in3_ctdF ⟨a, b, c, d, e, f⟩ now
  all_goals exact absurd hc (by decide)
theorem kept_sr {zs : List Int} {now : Int} (hv : areV (kin 5) zs = true) : ∀ j, j < 3 → (srL.map fun x => x.2.1).getD j 0 = 1 → (stp 5 zs now).getD j 0 = zs.getD j 0 := by
  obtain ⟨a, b, c, rfl, -⟩ := three_of (show areV [1, 1, 1] zs = true from hv)
  intro j hj hc
  rcases (show j = 0 ∨ j = 1 ∨ j = 2 by omega) with rfl | rfl | rfl
  · exact (in_srF ⟨a, b, c, 0, 0, 0⟩ now).1
  · exact (in_srF ⟨a, b, c, 0, 0, 0⟩ now).2
  all_goals exact absurd hc (by decide)
theorem kept_rs {zs : List Int} {now : Int} (hv : areV (kin 6) zs = true) : ∀ j, j < 3 → (rsL.map fun x => x.2.1).getD j 0 = 1 → (stp 6 zs now).getD j 0 = zs.getD j 0 := by
  obtain ⟨a, b, c, rfl, -⟩ := three_of (show areV [1, 1, 1] zs = true from hv)
  intro j hj hc
  rcases (show j = 0 ∨ j = 1 ∨ j = 2 by omega) with rfl | rfl | rfl
  · exact (in_rsF ⟨a, b, c, 0, 0, 0⟩ now).1
  · exact (in_rsF ⟨a, b, c, 0, 0, 0⟩ now).2
  all_goals exact absurd hc (by decide)
theorem kept_rtrig {zs : List Int} {now : Int} (hv : areV (kin 7) zs = true) : ∀ j, j < 3 → (edgeL.map fun x => x.2.1).getD j 0 = 1 → (stp 7 zs now).getD j 0 = zs.getD j 0 := by
  obtain ⟨a, b, c, rfl, -⟩ := three_of (show areV [1, 1, 1] zs = true from hv)
  intro j hj hc
  rcases (show j = 0 ∨ j = 1 ∨ j = 2 by omega) with rfl | rfl | rfl
  · rfl
  all_goals exact absurd hc (by decide)
theorem kept_ftrig {zs : List Int} {now : Int} (hv : areV (kin 8) zs = true) : ∀ j, j < 3 → (edgeL.map fun x => x.2.1).getD j 0 = 1 → (stp 8 zs now).getD j 0 = zs.getD j 0 := by
  obtain ⟨a, b, c, rfl, -⟩ := three_of (show areV [1, 1, 1] zs = true from hv)
  intro j hj hc
  rcases (show j = 0 ∨ j = 1 ∨ j = 2 by omega) with rfl | rfl | rfl
  · rfl
  all_goals exact absurd hc (by decide)
end Go.Proofs.Ytieacfenoomaeaa
