import Derived.Test.YtieacfenoomaeaaEvW
import Derived.Outline
import Derived.IntWalk
set_option linter.unusedSimpArgs false
set_option linter.unusedVariables false
namespace Go.Proofs.Ytieacfenoomaeaa
open Go.RowKit

def valB (n : Int) : Bool := decide (-2147483648 ≤ n) && decide (n ≤ 2147483647)
def bitB (n : Int) : Bool := n == 0 || n == 1
def oneOf (b : Bool) : Int := if b then 1 else 0
/-- A value of a kind. -/
def isV (k n : Int) : Bool := if k == 1 then bitB n else valB n
/-- A time. -/
def isT (n : Int) : Bool := decide (0 ≤ n) && decide (n ≤ 1000000000)
/-- A frame of six ints. -/
def fr (a b c d e f : Int) : Value := .agg #[.int .i64 a, .int .i64 b, .int .i64 c, .int .i64 d, .int .i64 e, .int .i64 f]
def frCells (a b c d e f : Int) : Array Value := #[.int .i64 a, .int .i64 b, .int .i64 c, .int .i64 d, .int .i64 e, .int .i64 f]
def pre (b : Int) : Int := max b 0
def gone (b e now : Int) : Int := min (max b 0) (max (now - e) 0)
theorem isV_bit (n : Int) : isV 1 n = bitB n := rfl
theorem isV_bd {k n : Int} (h : isV k n = true) : -2147483648 ≤ n ∧ n ≤ 2147483647 := by
  unfold isV at h
  split at h
  · simp [bitB] at h; omega
  · simp [valB] at h; exact h

theorem truth_c (b : Bool) (w : World) : Calls Try.prog 73 #[.bool b] w fun e w' => e = .returned (.int .i64 (oneOf b)) ∧ w' = w := by
  cases b
  all_goals
    go_enter Try.func73, Try.ntmps73
    go_wp2
    go_ret
    exact ⟨rfl, rfl⟩
theorem rtruth_c (b : Bool) (w : World) : Calls Try.prog 39 #[.bool b] w fun e w' => e = .returned (.int .i64 (oneOf b)) ∧ w' = w := by
  cases b
  all_goals
    go_enter Try.func39, Try.ntmps39
    go_wp2
    go_ret
    exact ⟨rfl, rfl⟩
theorem isTime_c (n : Int) (w : World) : Calls Try.prog 31 #[.int .i64 n] w fun e w' => e = .returned (.bool (isT n)) ∧ w' = w := by
  go_enter Try.func31, Try.ntmps31
  go_wp2
  all_goals (go_ret; refine ⟨ret_bool ?_, rfl⟩; simp [isT, *] <;> omega)
theorem isValue_1 (n : Int) (w : World) : Calls Try.prog 68 #[.int .i64 1, .int .i64 n] w fun e w' => e = .returned (.bool (bitB n)) ∧ w' = w := by
  go_enter Try.func68, Try.ntmps68
  go_wp2
  all_goals (go_ret; refine ⟨ret_bool ?_, rfl⟩; simp [bitB, *])
theorem isValue_2 (k n : Int) (hk : (k == 1) = false) (w : World) : Calls Try.prog 68 #[.int .i64 k, .int .i64 n] w fun e w' => e = .returned (.bool (valB n)) ∧ w' = w := by
  go_enter Try.func68, Try.ntmps68
  go_wp2
  all_goals (go_ret; refine ⟨ret_bool ?_, rfl⟩; simp [valB, *] <;> omega)
theorem isValue_c (k n : Int) (w : World) : Calls Try.prog 68 #[.int .i64 k, .int .i64 n] w fun e w' => e = .returned (.bool (isV k n)) ∧ w' = w := by
  by_cases hk : k = 1
  · subst hk; exact isValue_1 n w
  · have h : (k == 1) = false := by simpa using hk
    have e : isV k n = valB n := by simp [isV, hk]
    rw [e]; exact isValue_2 k n h w
theorem rValue_c (n : Int) (w : World) : Calls Try.prog 29 #[.int .i64 n] w fun e w' => e = .returned (.bool (valB n)) ∧ w' = w := by
  go_enter Try.func29, Try.ntmps29
  go_wp2
  all_goals (go_ret; refine ⟨ret_bool ?_, rfl⟩; simp [valB, *] <;> omega)
theorem preset_c (a b c d e f : Int) (w : World) : Calls Try.prog 33 #[fr a b c d e f] w fun r w' => r = .returned (.int .i64 (pre b)) ∧ Kp [] w w' := by
  unfold fr
  go_enter Try.func33, Try.ntmps33
  go_wp2
  go_ret
  exact ⟨rfl, (Kp.refl [] w).alloc _⟩
end Go.Proofs.Ytieacfenoomaeaa
