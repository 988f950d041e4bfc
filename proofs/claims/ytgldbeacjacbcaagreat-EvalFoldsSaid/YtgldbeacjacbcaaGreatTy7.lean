import Derived.Test.YtgldbeacjacbcaaGreatTy4
import Derived.Test.YtgldbeacjacbcaaGreatTy5
import Derived.Test.YtgldbeacjacbcaaGreatTy6
import Derived.Test.YtgldbeacjacbcaaGreatTra
import Derived.Test.YtgldbeacjacbcaaGreatTrb
import Derived.Test.YtgldbeacjacbcaaGreatTrc
import Derived.Test.YtgldbeacjacbcaaGreatTrd
set_option linter.unusedSimpArgs false
set_option linter.unusedVariables false
namespace Go.Proofs.YtgldbeacjacbcaaGreat
open Go.RowKit

/-- What computed says: the constant that an operator of constants makes. -/
def CompRes (op : Int) (l : List Ex) (w : World) (r : Ending) (w' : World) : Prop :=
  (∃ a b c : Int, r = .returned (.tuple #[.agg #[.int .i64 a, .int .i64 b, .int .i64 c, .string ⟨#[]⟩, .string ⟨#[]⟩, .slice none 0 0], .bool false]) ∧ conE op l = none ∧ Kp [] w w') ∨ (∃ k n, r = .returned (.tuple #[cstV k n, .bool true]) ∧ conE op l = some (cst k n) ∧ Kp [] w w')
theorem kinds_1 (op : Int) (h : op = 6 ∨ op = 7) (k : Int) : ∃ kd, KindsC op [k] kd (kindOk op k) ∧ (kindOk op k = true → kd = kindRes op k) := by
  rcases h with rfl | rfl
  · cases hk : kindOk 6 k
    · exact ⟨0, fun w g c hc => resN_6 g c k w (by simp [kindOk] at hk; first | (simp [hk]; done) | (simp; omega)) (hc 0 (by simp)), fun h => by cases h⟩
    · refine ⟨_, fun w g c hc => resY_6 g c k w (by simp [kindOk] at hk; first | (simp [hk]; done) | (simp; omega)) (hc 0 (by simp)), fun _ => by simp [kindRes]⟩
  · cases hk : kindOk 7 k
    · exact ⟨0, fun w g c hc => resN_7 g c k w (by simp [kindOk] at hk; first | (simp [hk]; done) | (simp; omega)) (hc 0 (by simp)), fun h => by cases h⟩
    · refine ⟨_, fun w g c hc => resY_7 g c k w (by simp [kindOk] at hk; first | (simp [hk]; done) | (simp; omega)) (hc 0 (by simp)), fun _ => by simp [kindRes]⟩
theorem kinds_2 (op : Int) (h8 : 8 ≤ op) (h21 : op ≤ 21) (k l : Int) : ∃ kd, KindsC op [k, l] kd (kindOk op k && l == k) ∧ ((kindOk op k && l == k) = true → kd = kindRes op k) := by
  rcases (show op = 8 ∨ op = 9 ∨ op = 10 ∨ op = 11 ∨ op = 12 ∨ op = 13 ∨ op = 14 ∨ op = 15 ∨ op = 16 ∨ op = 17 ∨ op = 18 ∨ op = 19 ∨ op = 20 ∨ op = 21 by omega) with rfl | rfl | rfl | rfl | rfl | rfl | rfl | rfl | rfl | rfl | rfl | rfl | rfl | rfl
  · cases hk : kindOk 8 k
    · exact ⟨0, fun w g c hc => resN_8 g c k l w (by simp [kindOk] at hk; first | (simp [hk]; done) | (simp; omega)) (hc 0 (by simp)) (hc 1 (by simp)), fun h => by cases h⟩
    · by_cases hl : l = k
      · subst hl
        refine ⟨kindRes 8 l, fun w g c hc => ?_, fun _ => rfl⟩
        have := resY_8 g c l w (by simp [kindOk] at hk; first | (simp [hk]; done) | (simp; omega)) (hc 0 (by simp)) (hc 1 (by simp))
        simpa [kindRes] using this
      · have hb : (l == k) = false := by simpa using hl
        rw [hb]
        exact ⟨0, fun w g c hc => resM_8 g c k l w (by simp [kindOk] at hk; first | (simp [hk]; done) | (simp; omega)) hl (hc 0 (by simp)) (hc 1 (by simp)), fun h => by cases h⟩
  · cases hk : kindOk 9 k
    · exact ⟨0, fun w g c hc => resN_9 g c k l w (by simp [kindOk] at hk; first | (simp [hk]; done) | (simp; omega)) (hc 0 (by simp)) (hc 1 (by simp)), fun h => by cases h⟩
    · by_cases hl : l = k
      · subst hl
        refine ⟨kindRes 9 l, fun w g c hc => ?_, fun _ => rfl⟩
        have := resY_9 g c l w (by simp [kindOk] at hk; first | (simp [hk]; done) | (simp; omega)) (hc 0 (by simp)) (hc 1 (by simp))
        simpa [kindRes] using this
      · have hb : (l == k) = false := by simpa using hl
        rw [hb]
        exact ⟨0, fun w g c hc => resM_9 g c k l w (by simp [kindOk] at hk; first | (simp [hk]; done) | (simp; omega)) hl (hc 0 (by simp)) (hc 1 (by simp)), fun h => by cases h⟩
  · cases hk : kindOk 10 k
    · exact ⟨0, fun w g c hc => resN_10 g c k l w (by simp [kindOk] at hk; first | (simp [hk]; done) | (simp; omega)) (hc 0 (by simp)) (hc 1 (by simp)), fun h => by cases h⟩
    · by_cases hl : l = k
      · subst hl
        refine ⟨kindRes 10 l, fun w g c hc => ?_, fun _ => rfl⟩
        have := resY_10 g c l w (by simp [kindOk] at hk; first | (simp [hk]; done) | (simp; omega)) (hc 0 (by simp)) (hc 1 (by simp))
        simpa [kindRes] using this
      · have hb : (l == k) = false := by simpa using hl
        rw [hb]
        exact ⟨0, fun w g c hc => resM_10 g c k l w (by simp [kindOk] at hk; first | (simp [hk]; done) | (simp; omega)) hl (hc 0 (by simp)) (hc 1 (by simp)), fun h => by cases h⟩
  · cases hk : kindOk 11 k
    · exact ⟨0, fun w g c hc => resN_11 g c k l w (by simp [kindOk] at hk; first | (simp [hk]; done) | (simp; omega)) (hc 0 (by simp)) (hc 1 (by simp)), fun h => by cases h⟩
    · by_cases hl : l = k
      · subst hl
        refine ⟨kindRes 11 l, fun w g c hc => ?_, fun _ => rfl⟩
        have := resY_11 g c l w (by simp [kindOk] at hk; first | (simp [hk]; done) | (simp; omega)) (hc 0 (by simp)) (hc 1 (by simp))
        simpa [kindRes] using this
      · have hb : (l == k) = false := by simpa using hl
        rw [hb]
        exact ⟨0, fun w g c hc => resM_11 g c k l w (by simp [kindOk] at hk; first | (simp [hk]; done) | (simp; omega)) hl (hc 0 (by simp)) (hc 1 (by simp)), fun h => by cases h⟩
  · cases hk : kindOk 12 k
    · exact ⟨0, fun w g c hc => resN_12 g c k l w (by simp [kindOk] at hk; first | (simp [hk]; done) | (simp; omega)) (hc 0 (by simp)) (hc 1 (by simp)), fun h => by cases h⟩
    · by_cases hl : l = k
      · subst hl
        refine ⟨kindRes 12 l, fun w g c hc => ?_, fun _ => rfl⟩
        have := resY_12 g c l w (by simp [kindOk] at hk; first | (simp [hk]; done) | (simp; omega)) (hc 0 (by simp)) (hc 1 (by simp))
        simpa [kindRes] using this
      · have hb : (l == k) = false := by simpa using hl
        rw [hb]
        exact ⟨0, fun w g c hc => resM_12 g c k l w (by simp [kindOk] at hk; first | (simp [hk]; done) | (simp; omega)) hl (hc 0 (by simp)) (hc 1 (by simp)), fun h => by cases h⟩
  · cases hk : kindOk 13 k
    · exact ⟨0, fun w g c hc => resN_13 g c k l w (by simp [kindOk] at hk; first | (simp [hk]; done) | (simp; omega)) (hc 0 (by simp)) (hc 1 (by simp)), fun h => by cases h⟩
    · by_cases hl : l = k
      · subst hl
        refine ⟨kindRes 13 l, fun w g c hc => ?_, fun _ => rfl⟩
        have := resY_13 g c l w (by simp [kindOk] at hk; first | (simp [hk]; done) | (simp; omega)) (hc 0 (by simp)) (hc 1 (by simp))
        simpa [kindRes] using this
      · have hb : (l == k) = false := by simpa using hl
        rw [hb]
        exact ⟨0, fun w g c hc => resM_13 g c k l w (by simp [kindOk] at hk; first | (simp [hk]; done) | (simp; omega)) hl (hc 0 (by simp)) (hc 1 (by simp)), fun h => by cases h⟩
  · cases hk : kindOk 14 k
    · exact ⟨0, fun w g c hc => resN_14 g c k l w (by simp [kindOk] at hk; first | (simp [hk]; done) | (simp; omega)) (hc 0 (by simp)) (hc 1 (by simp)), fun h => by cases h⟩
    · by_cases hl : l = k
      · subst hl
        refine ⟨kindRes 14 l, fun w g c hc => ?_, fun _ => rfl⟩
        have := resY_14 g c l w (by simp [kindOk] at hk; first | (simp [hk]; done) | (simp; omega)) (hc 0 (by simp)) (hc 1 (by simp))
        simpa [kindRes] using this
      · have hb : (l == k) = false := by simpa using hl
        rw [hb]
        exact ⟨0, fun w g c hc => resM_14 g c k l w (by simp [kindOk] at hk; first | (simp [hk]; done) | (simp; omega)) hl (hc 0 (by simp)) (hc 1 (by simp)), fun h => by cases h⟩
  · cases hk : kindOk 15 k
    · exact ⟨0, fun w g c hc => resN_15 g c k l w (by simp [kindOk] at hk; first | (simp [hk]; done) | (simp; omega)) (hc 0 (by simp)) (hc 1 (by simp)), fun h => by cases h⟩
    · by_cases hl : l = k
      · subst hl
        refine ⟨kindRes 15 l, fun w g c hc => ?_, fun _ => rfl⟩
        have := resY_15 g c l w (by simp [kindOk] at hk; first | (simp [hk]; done) | (simp; omega)) (hc 0 (by simp)) (hc 1 (by simp))
        simpa [kindRes] using this
      · have hb : (l == k) = false := by simpa using hl
        rw [hb]
        exact ⟨0, fun w g c hc => resM_15 g c k l w (by simp [kindOk] at hk; first | (simp [hk]; done) | (simp; omega)) hl (hc 0 (by simp)) (hc 1 (by simp)), fun h => by cases h⟩
  · cases hk : kindOk 16 k
    · exact ⟨0, fun w g c hc => resN_16 g c k l w (by simp [kindOk] at hk; first | (simp [hk]; done) | (simp; omega)) (hc 0 (by simp)) (hc 1 (by simp)), fun h => by cases h⟩
    · by_cases hl : l = k
      · subst hl
        refine ⟨kindRes 16 l, fun w g c hc => ?_, fun _ => rfl⟩
        have := resY_16 g c l w (by simp [kindOk] at hk; first | (simp [hk]; done) | (simp; omega)) (hc 0 (by simp)) (hc 1 (by simp))
        simpa [kindRes] using this
      · have hb : (l == k) = false := by simpa using hl
        rw [hb]
        exact ⟨0, fun w g c hc => resM_16 g c k l w (by simp [kindOk] at hk; first | (simp [hk]; done) | (simp; omega)) hl (hc 0 (by simp)) (hc 1 (by simp)), fun h => by cases h⟩
  · cases hk : kindOk 17 k
    · exact ⟨0, fun w g c hc => resN_17 g c k l w (by simp [kindOk] at hk; first | (simp [hk]; done) | (simp; omega)) (hc 0 (by simp)) (hc 1 (by simp)), fun h => by cases h⟩
    · by_cases hl : l = k
      · subst hl
        refine ⟨kindRes 17 l, fun w g c hc => ?_, fun _ => rfl⟩
        have := resY_17 g c l w (by simp [kindOk] at hk; first | (simp [hk]; done) | (simp; omega)) (hc 0 (by simp)) (hc 1 (by simp))
        simpa [kindRes] using this
      · have hb : (l == k) = false := by simpa using hl
        rw [hb]
        exact ⟨0, fun w g c hc => resM_17 g c k l w (by simp [kindOk] at hk; first | (simp [hk]; done) | (simp; omega)) hl (hc 0 (by simp)) (hc 1 (by simp)), fun h => by cases h⟩
  · cases hk : kindOk 18 k
    · exact ⟨0, fun w g c hc => resN_18 g c k l w (by simp [kindOk] at hk; first | (simp [hk]; done) | (simp; omega)) (hc 0 (by simp)) (hc 1 (by simp)), fun h => by cases h⟩
    · by_cases hl : l = k
      · subst hl
        refine ⟨kindRes 18 l, fun w g c hc => ?_, fun _ => rfl⟩
        have := resY_18 g c l w (by simp [kindOk] at hk; first | (simp [hk]; done) | (simp; omega)) (hc 0 (by simp)) (hc 1 (by simp))
        simpa [kindRes] using this
      · have hb : (l == k) = false := by simpa using hl
        rw [hb]
        exact ⟨0, fun w g c hc => resM_18 g c k l w (by simp [kindOk] at hk; first | (simp [hk]; done) | (simp; omega)) hl (hc 0 (by simp)) (hc 1 (by simp)), fun h => by cases h⟩
  · cases hk : kindOk 19 k
    · exact ⟨0, fun w g c hc => resN_19 g c k l w (by simp [kindOk] at hk; first | (simp [hk]; done) | (simp; omega)) (hc 0 (by simp)) (hc 1 (by simp)), fun h => by cases h⟩
    · by_cases hl : l = k
      · subst hl
        refine ⟨kindRes 19 l, fun w g c hc => ?_, fun _ => rfl⟩
        have := resY_19 g c l w (by simp [kindOk] at hk; first | (simp [hk]; done) | (simp; omega)) (hc 0 (by simp)) (hc 1 (by simp))
        simpa [kindRes] using this
      · have hb : (l == k) = false := by simpa using hl
        rw [hb]
        exact ⟨0, fun w g c hc => resM_19 g c k l w (by simp [kindOk] at hk; first | (simp [hk]; done) | (simp; omega)) hl (hc 0 (by simp)) (hc 1 (by simp)), fun h => by cases h⟩
  · cases hk : kindOk 20 k
    · exact ⟨0, fun w g c hc => resN_20 g c k l w (by simp [kindOk] at hk; first | (simp [hk]; done) | (simp; omega)) (hc 0 (by simp)) (hc 1 (by simp)), fun h => by cases h⟩
    · by_cases hl : l = k
      · subst hl
        refine ⟨kindRes 20 l, fun w g c hc => ?_, fun _ => rfl⟩
        have := resY_20 g c l w (by simp [kindOk] at hk; first | (simp [hk]; done) | (simp; omega)) (hc 0 (by simp)) (hc 1 (by simp))
        simpa [kindRes] using this
      · have hb : (l == k) = false := by simpa using hl
        rw [hb]
        exact ⟨0, fun w g c hc => resM_20 g c k l w (by simp [kindOk] at hk; first | (simp [hk]; done) | (simp; omega)) hl (hc 0 (by simp)) (hc 1 (by simp)), fun h => by cases h⟩
  · cases hk : kindOk 21 k
    · exact ⟨0, fun w g c hc => resN_21 g c k l w (by simp [kindOk] at hk; first | (simp [hk]; done) | (simp; omega)) (hc 0 (by simp)) (hc 1 (by simp)), fun h => by cases h⟩
    · by_cases hl : l = k
      · subst hl
        refine ⟨kindRes 21 l, fun w g c hc => ?_, fun _ => rfl⟩
        have := resY_21 g c l w (by simp [kindOk] at hk; first | (simp [hk]; done) | (simp; omega)) (hc 0 (by simp)) (hc 1 (by simp))
        simpa [kindRes] using this
      · have hb : (l == k) = false := by simpa using hl
        rw [hb]
        exact ⟨0, fun w g c hc => resM_21 g c k l w (by simp [kindOk] at hk; first | (simp [hk]; done) | (simp; omega)) hl (hc 0 (by simp)) (hc 1 (by simp)), fun h => by cases h⟩
end Go.Proofs.YtgldbeacjacbcaaGreat
