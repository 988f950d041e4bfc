import Derived.Test.YtbfmkehchddkoaaDoorR9
import Derived.Test.YtbfmkehchddkoaaDoorLa6
import Derived.Test.YtbfmkehchddkoaaDoorSc2
namespace Go.Proofs.YtbfmkehchddkoaaDoor
open Go.RowKit

/-- What the reference asks of a token's kind and text. -/
def isTokB (k : Nat) (t : List UInt8) : Bool :=
  if k = 1 then isNameL t else if k = 2 then isNumL t 2147483647 else if k = 3 then isTimeL t else if k = 4 then isSignL t else if k = 5 then isWordL t else if k = 6 then isAddrL t else decide (k = 7) && t.isEmpty

theorem rtok_1 (y : ByteArray) (p : Nat) (w : World) (hs : y.size ≤ 8001) :
    Calls Tryd.prog 30 #[.agg #[.int .i64 1, .string y, .int .i64 p]] w fun e w' => e = .returned (.bool (isNameL y.data.toList)) ∧ Kp [] w w' := by
  have _ := hs
  go_enter Tryd.func30, Tryd.ntmps30
  go_wp2_with fail
  refine (rname_c y _ (by omega)).mono ?_
  rintro e w1 ⟨rfl, hk⟩
  go_wp2_with fail
  go_ret
  first
    | exact ⟨rfl, ((Kp.refl _ w).alloc _).trans hk⟩
    | exact ⟨rfl, (Kp.refl _ w).alloc _⟩
theorem rtok_2 (y : ByteArray) (p : Nat) (w : World) (hs : y.size ≤ 8001) :
    Calls Tryd.prog 30 #[.agg #[.int .i64 2, .string y, .int .i64 p]] w fun e w' => e = .returned (.bool (isNumS y 2147483647)) ∧ Kp [] w w' := by
  have _ := hs
  go_enter Tryd.func30, Tryd.ntmps30
  go_wp2_with fail
  refine (rnum_c y 2147483647 _ (by omega) (by omega)).mono ?_
  rintro e w1 ⟨rfl, rfl⟩
  go_wp2_with fail
  go_ret
  first
    | exact ⟨rfl, ((Kp.refl _ w).alloc _).trans hk⟩
    | exact ⟨rfl, (Kp.refl _ w).alloc _⟩
theorem rtok_3 (y : ByteArray) (p : Nat) (w : World) (hs : y.size ≤ 8001) :
    Calls Tryd.prog 30 #[.agg #[.int .i64 3, .string y, .int .i64 p]] w fun e w' => e = .returned (.bool (isTimeL y.data.toList)) ∧ Kp [] w w' := by
  have _ := hs
  go_enter Tryd.func30, Tryd.ntmps30
  go_wp2_with fail
  refine (rtime_c y _ (by omega)).mono ?_
  rintro e w1 ⟨rfl, rfl⟩
  go_wp2_with fail
  go_ret
  first
    | exact ⟨rfl, ((Kp.refl _ w).alloc _).trans hk⟩
    | exact ⟨rfl, (Kp.refl _ w).alloc _⟩
theorem rtok_4 (y : ByteArray) (p : Nat) (w : World) (hs : y.size ≤ 8001) :
    Calls Tryd.prog 30 #[.agg #[.int .i64 4, .string y, .int .i64 p]] w fun e w' => e = .returned (.bool (isSignL y.data.toList)) ∧ Kp [] w w' := by
  have _ := hs
  go_enter Tryd.func30, Tryd.ntmps30
  go_wp2_with fail
  refine (rsign_c y _).mono ?_
  rintro e w1 ⟨rfl, hk⟩
  go_wp2_with fail
  go_ret
  first
    | exact ⟨rfl, ((Kp.refl _ w).alloc _).trans hk⟩
    | exact ⟨rfl, (Kp.refl _ w).alloc _⟩
theorem rtok_5 (y : ByteArray) (p : Nat) (w : World) (hs : y.size ≤ 8001) :
    Calls Tryd.prog 30 #[.agg #[.int .i64 5, .string y, .int .i64 p]] w fun e w' => e = .returned (.bool (isWordL y.data.toList)) ∧ Kp [] w w' := by
  have _ := hs
  go_enter Tryd.func30, Tryd.ntmps30
  go_wp2_with fail
  refine (rword_c y _).mono ?_
  rintro e w1 ⟨rfl, hk⟩
  go_wp2_with fail
  go_ret
  first
    | exact ⟨rfl, ((Kp.refl _ w).alloc _).trans hk⟩
    | exact ⟨rfl, (Kp.refl _ w).alloc _⟩
theorem rtok_6 (y : ByteArray) (p : Nat) (w : World) (hs : y.size ≤ 8001) :
    Calls Tryd.prog 30 #[.agg #[.int .i64 6, .string y, .int .i64 p]] w fun e w' => e = .returned (.bool (isAddrL y.data.toList)) ∧ Kp [] w w' := by
  have _ := hs
  go_enter Tryd.func30, Tryd.ntmps30
  go_wp2_with fail
  refine (raddr_c y _ (by omega)).mono ?_
  rintro e w1 ⟨rfl, rfl⟩
  go_wp2_with fail
  go_ret
  first
    | exact ⟨rfl, ((Kp.refl _ w).alloc _).trans hk⟩
    | exact ⟨rfl, (Kp.refl _ w).alloc _⟩

theorem rtok_7 (p : Nat) (w : World) :
    Calls Tryd.prog 30 #[.agg #[.int .i64 7, .string ⟨#[]⟩, .int .i64 p]] w fun e w' => e = .returned (.bool true) ∧ Kp [] w w' := by
  go_enter Tryd.func30, Tryd.ntmps30
  go_wp2_with fail
  go_ret
  exact ⟨rfl, (Kp.refl _ w).alloc _⟩

/-- A token that a source can have is one for the reference. -/
theorem rtok_c (k : Nat) (y : ByteArray) (p : Nat) (w : World) (hs : y.size ≤ 8001) (h1 : 1 ≤ k) (h6 : k ≤ 6) (h : isTokB k y.data.toList = true) :
    Calls Tryd.prog 30 #[.agg #[.int .i64 k, .string y, .int .i64 p]] w fun e w' => e = .returned (.bool true) ∧ Kp [] w w' := by
  have hk : k = 1 ∨ k = 2 ∨ k = 3 ∨ k = 4 ∨ k = 5 ∨ k = 6 := by omega
  rcases hk with rfl | rfl | rfl | rfl | rfl | rfl
  · exact (rtok_1 y p w hs).mono fun e w' hh => ⟨by rw [hh.1]; exact ret_bool h, hh.2⟩
  · exact (rtok_2 y p w hs).mono fun e w' hh => ⟨by rw [hh.1]; exact ret_bool h, hh.2⟩
  · exact (rtok_3 y p w hs).mono fun e w' hh => ⟨by rw [hh.1]; exact ret_bool h, hh.2⟩
  · exact (rtok_4 y p w hs).mono fun e w' hh => ⟨by rw [hh.1]; exact ret_bool h, hh.2⟩
  · exact (rtok_5 y p w hs).mono fun e w' hh => ⟨by rw [hh.1]; exact ret_bool h, hh.2⟩
  · exact (rtok_6 y p w hs).mono fun e w' hh => ⟨by rw [hh.1]; exact ret_bool h, hh.2⟩
theorem tok_is {l : List UInt8} {kk ll : Nat} (h : tokL l = (kk, ll)) (h0 : ll ≠ 0) : isTokB kk (l.take ll) = true ∧ 1 ≤ kk ∧ kk ≤ 6 := by
  unfold tokL pickL at h
  by_cases hp : List.isPrefixOf [116, 35] l = true
  · rw [if_pos hp, timeL] at h
    by_cases hc : isNumL ((l.drop 2).take (spanL isDig (l.drop 2))) 2147483647 = true
    · rw [if_pos hc] at h
      obtain ⟨rfl, rfl⟩ := Prod.mk.inj h
      refine ⟨?_, by omega, by omega⟩
      simp only [isTokB, Nat.reduceEqDiff, if_false, if_true]
      rw [isTimeL_two hp (spanL_le _ _)]; exact hc
    · rw [if_neg hc] at h
      exact absurd (Prod.mk.inj h).2.symm h0
  · rw [if_neg hp] at h
    by_cases hl : isLet (l.headD 0) = true
    · rw [if_pos hl, runL] at h
      by_cases hw : isWordL (l.take (spanL isRunB l)) = true
      · rw [if_pos hw] at h
        obtain ⟨rfl, rfl⟩ := Prod.mk.inj h
        exact ⟨by simp only [isTokB, Nat.reduceEqDiff, if_false, if_true]; exact hw, by omega, by omega⟩
      · rw [if_neg hw] at h
        by_cases hn : isNameL (l.take (spanL isRunB l)) = true
        · rw [if_pos hn] at h
          obtain ⟨rfl, rfl⟩ := Prod.mk.inj h
          exact ⟨by simp only [isTokB, if_true]; exact hn, by omega, by omega⟩
        · rw [if_neg hn] at h
          exact absurd (Prod.mk.inj h).2.symm h0
    · rw [if_neg hl] at h
      by_cases hd : isDig (l.headD 0) = true
      · rw [if_pos hd, numL] at h
        by_cases hc : isNumL (l.take (spanL isDig l)) 2147483647 = true
        · rw [if_pos hc] at h
          obtain ⟨rfl, rfl⟩ := Prod.mk.inj h
          exact ⟨by simp only [isTokB, Nat.reduceEqDiff, if_false, if_true]; exact hc, by omega, by omega⟩
        · rw [if_neg hc] at h
          exact absurd (Prod.mk.inj h).2.symm h0
      · rw [if_neg hd] at h
        by_cases ha : isPct (l.headD 0) = true
        · rw [if_pos ha, adrL] at h
          by_cases hc : isAddrL (l.take (1 + spanL isAdr (l.drop 1))) = true
          · rw [if_pos hc] at h
            obtain ⟨rfl, rfl⟩ := Prod.mk.inj h
            exact ⟨by simp only [isTokB, Nat.reduceEqDiff, if_false, if_true]; exact hc, by omega, by omega⟩
          · rw [if_neg hc] at h
            exact absurd (Prod.mk.inj h).2.symm h0
        · rw [if_neg ha, sgnL] at h
          by_cases h2 : 2 ≤ l.length ∧ isSignL (l.take 2) = true
          · rw [if_pos h2] at h
            obtain ⟨rfl, rfl⟩ := Prod.mk.inj h
            exact ⟨by simp only [isTokB, Nat.reduceEqDiff, if_false, if_true]; exact h2.2, by omega, by omega⟩
          · rw [if_neg h2] at h
            by_cases h1 : isSignL (l.take 1) = true
            · rw [if_pos h1] at h
              obtain ⟨rfl, rfl⟩ := Prod.mk.inj h
              exact ⟨by simp only [isTokB, Nat.reduceEqDiff, if_false, if_true]; exact h1, by omega, by omega⟩
            · rw [if_neg h1] at h
              exact absurd (Prod.mk.inj h).2.symm h0
end Go.Proofs.YtbfmkehchddkoaaDoor
