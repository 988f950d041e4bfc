import Derived.Test.YtgldbeacjacbcaaGreatEvW
import Derived.Outline
import Derived.IntWalk
namespace Go.Proofs.YtgldbeacjacbcaaGreat
open Go.RowKit

/-- A value: a number of 32 bits. -/
def valB (n : Int) : Bool := decide (-2147483648 ≤ n) && decide (n ≤ 2147483647)
def bitB (n : Int) : Bool := n == 0 || n == 1
def oneOf (b : Bool) : Int := if b then 1 else 0
theorem wrap32_bd (n : Int) : -2147483648 ≤ wrap32 n ∧ wrap32 n ≤ 2147483647 := by unfold wrap32; omega
theorem wrap_wrap (n : Int) : wrap64 (wrap32 n) = wrap32 n := IntWalk.wrap64_in _ (by have := wrap32_bd n; omega)
theorem wrap32_val (n : Int) (h : valB n = true) : wrap32 n = n := by
  simp [valB] at h; exact IntWalk.wrap32_in n h
theorem val_wrap32 (n : Int) : valB (wrap32 n) = true := by have := wrap32_bd n; simp [valB]; omega
theorem wrap32_eq_iff (n : Int) : (wrap32 n == n) = valB n := by
  rw [Bool.eq_iff_iff, beq_iff_eq]
  constructor
  · intro h; rw [← h]; exact val_wrap32 n
  · exact wrap32_val n
theorem wrap_c (n : Int) (w : World) : Calls Tryz.prog 13 #[.int .i64 n] w fun e w' => e = .returned (.int .i64 (wrap32 n)) ∧ w' = w := by
  go_enter Tryz.func13, Tryz.ntmps13
  go_wp2
  go_ret
  exact ⟨ret_int (wrap_wrap n), rfl⟩
theorem rwrap_c (n : Int) (w : World) : Calls Tryz.prog 37 #[.int .i64 n] w fun e w' => e = .returned (.int .i64 (wrap32 n)) ∧ w' = w := by
  go_enter Tryz.func37, Tryz.ntmps37
  go_wp2
  go_ret
  exact ⟨ret_int (wrap_wrap n), rfl⟩
theorem truth_c (b : Bool) (w : World) : Calls Tryz.prog 50 #[.bool b] w fun e w' => e = .returned (.int .i64 (oneOf b)) ∧ w' = w := by
  cases b
  all_goals
    go_enter Tryz.func50, Tryz.ntmps50
    go_wp2
    go_ret
    exact ⟨rfl, rfl⟩
theorem rtruth_c (b : Bool) (w : World) : Calls Tryz.prog 39 #[.bool b] w fun e w' => e = .returned (.int .i64 (oneOf b)) ∧ w' = w := by
  cases b
  all_goals
    go_enter Tryz.func39, Tryz.ntmps39
    go_wp2
    go_ret
    exact ⟨rfl, rfl⟩
theorem isTruth_c (n : Int) (w : World) : Calls Tryz.prog 43 #[.int .i64 n] w fun e w' => e = .returned (.bool (bitB n)) ∧ w' = w := by
  go_enter Tryz.func43, Tryz.ntmps43
  go_wp2
  all_goals (go_ret; refine ⟨ret_bool ?_, rfl⟩; simp [bitB, *])
theorem bit_c (n : Int) (w : World) : Calls Tryz.prog 36 #[.int .i64 n] w fun e w' => e = .returned (.bool (bitB n)) ∧ w' = w := by
  go_enter Tryz.func36, Tryz.ntmps36
  go_wp2
  all_goals (go_ret; refine ⟨ret_bool ?_, rfl⟩; simp [bitB, *])
theorem isValue_c (n : Int) (w : World) : Calls Tryz.prog 12 #[.int .i64 n] w fun e w' => e = .returned (.bool (valB n)) ∧ w' = w := by
  go_enter Tryz.func12, Tryz.ntmps12
  go_wp2_with fail
  refine (wrap_c n _).mono ?_
  rintro e w' ⟨rfl, rfl⟩
  go_wp2
  all_goals (go_ret; exact ⟨ret_bool (wrap32_eq_iff n), rfl⟩)
theorem rValue_c (n : Int) (w : World) : Calls Tryz.prog 35 #[.int .i64 n] w fun e w' => e = .returned (.bool (valB n)) ∧ w' = w := by
  go_enter Tryz.func35, Tryz.ntmps35
  go_wp2
  all_goals (go_ret; refine ⟨ret_bool ?_, rfl⟩; simp [valB, *] <;> omega)
end Go.Proofs.YtgldbeacjacbcaaGreat
