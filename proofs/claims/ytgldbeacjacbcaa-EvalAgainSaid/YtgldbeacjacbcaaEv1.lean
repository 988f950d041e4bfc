import Derived.Test.YtgldbeacjacbcaaEvW
import Derived.Outline
import Derived.IntWalk
namespace Go.Proofs.Ytgldbeacjacbcaa
open Go.RowKit

/-- A value: a number of 32 bits. -/
def valB (n : Int) : Bool := decide (-2147483648 ≤ n) && decide (n ≤ 2147483647)
def bitB (n : Int) : Bool := n == 0 || n == 1
def oneOf (b : Bool) : Int := if b then 1 else 0
theorem wrap32_bd (n : Int) : -2147483648 ≤ wrap32 n ∧ wrap32 n ≤ 2147483647 := by unfold wrap32; omega
theorem wrap_wrap (n : Int) : wrap64 (wrap32 n) = wrap32 n := IntWalk.wrap64_in _ (by have := wrap32_bd n; omega)
theorem wrap32_val (n : Int) (h : valB n = true) : wrap32 n = n := by
  simp [valB] at h; exact IntWalk.wrap32_in n h
theorem val_wrap32 (n : Int) : valB (wrap32 n) = true := by have := wrap32_bd n; simp [valB]; omega
theorem wrap32_eq_iff (n : Int) : (wrap32 n == n) = valB n := by
  rw [Bool.eq_iff_iff, beq_iff_eq]
  constructor
  · intro h; rw [← h]; exact val_wrap32 n
  · exact wrap32_val n
theorem wrap_c (n : Int) (w : World) : Calls Try.prog 11 #[.int .i64 n] w fun e w' => e = .returned (.int .i64 (wrap32 n)) ∧ w' = w := by
  go_enter Try.func11, Try.ntmps11
  go_wp2
  go_ret
  exact ⟨ret_int (wrap_wrap n), rfl⟩
theorem truth_c (b : Bool) (w : World) : Calls Try.prog 33 #[.bool b] w fun e w' => e = .returned (.int .i64 (oneOf b)) ∧ w' = w := by
  cases b
  all_goals
    go_enter Try.func33, Try.ntmps33
    go_wp2
    go_ret
    exact ⟨rfl, rfl⟩
theorem isTruth_c (n : Int) (w : World) : Calls Try.prog 26 #[.int .i64 n] w fun e w' => e = .returned (.bool (bitB n)) ∧ w' = w := by
  go_enter Try.func26, Try.ntmps26
  go_wp2
  all_goals (go_ret; refine ⟨ret_bool ?_, rfl⟩; simp [bitB, *])
theorem isValue_c (n : Int) (w : World) : Calls Try.prog 10 #[.int .i64 n] w fun e w' => e = .returned (.bool (valB n)) ∧ w' = w := by
  go_enter Try.func10, Try.ntmps10
  go_wp2_with fail
  refine (wrap_c n _).mono ?_
  rintro e w' ⟨rfl, rfl⟩
  go_wp2
  all_goals (go_ret; exact ⟨ret_bool (wrap32_eq_iff n), rfl⟩)
end Go.Proofs.Ytgldbeacjacbcaa
