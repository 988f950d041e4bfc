import Derived.Test.YtgldbeacjacbcaaGreatEv13
namespace Go.Proofs.YtgldbeacjacbcaaGreat
open Go.RowKit

set_option maxRecDepth 100000 in
theorem rlogic_8 (v x : Int) (w : World) (hv : bitB v = true) (hx : bitB x = true) :
    Calls Tryz.prog 38 #[.int .i64 8, .int .i64 v, .int .i64 x] w fun e w' => e = .returned (.int .i64 (max v x)) ∧ w' = w := by
  rcases bit_cases hv with rfl | rfl <;> rcases bit_cases hx with rfl | rfl
  all_goals
    clear hv hx
    go_enter Tryz.func38, Tryz.ntmps38
    go_wp2
    go_ret
    exact ⟨by kernel_rfl, rfl⟩
set_option maxRecDepth 100000 in
theorem rlogic_9 (v x : Int) (w : World) (hv : bitB v = true) (hx : bitB x = true) :
    Calls Tryz.prog 38 #[.int .i64 9, .int .i64 v, .int .i64 x] w fun e w' => e = .returned (.int .i64 ((v + x) % 2)) ∧ w' = w := by
  rcases bit_cases hv with rfl | rfl <;> rcases bit_cases hx with rfl | rfl
  all_goals
    clear hv hx
    go_enter Tryz.func38, Tryz.ntmps38
    go_wp2
    go_ret
    exact ⟨by kernel_rfl, rfl⟩
set_option maxRecDepth 100000 in
theorem rlogic_10 (v x : Int) (w : World) (hv : bitB v = true) (hx : bitB x = true) :
    Calls Tryz.prog 38 #[.int .i64 10, .int .i64 v, .int .i64 x] w fun e w' => e = .returned (.int .i64 (min v x)) ∧ w' = w := by
  rcases bit_cases hv with rfl | rfl <;> rcases bit_cases hx with rfl | rfl
  all_goals
    clear hv hx
    go_enter Tryz.func38, Tryz.ntmps38
    go_wp2
    go_ret
    exact ⟨by kernel_rfl, rfl⟩
set_option maxRecDepth 100000 in
theorem rlogic_bad (i v x : Int) (w : World) (h : Hid ((bitB v && bitB x) = false)) :
    Calls Tryz.prog 38 #[.int .i64 i, .int .i64 v, .int .i64 x] w fun e w' => e = .returned (.int .i64 0) ∧ w' = w := by
  cases e1 : bitB v
  · go_enter Tryz.func38, Tryz.ntmps38
    go_wp2_with fail
    refine (bit_c v _).mono ?_
    rintro e w' ⟨rfl, rfl⟩
    rw [e1]
    go_wp2_with fail
    go_ret
    exact ⟨rfl, rfl⟩
  · have e2 : bitB x = false := by have := h.out; rw [e1] at this; simpa using this
    go_enter Tryz.func38, Tryz.ntmps38
    go_wp2_with fail
    refine (bit_c v _).mono ?_
    rintro e w' ⟨rfl, rfl⟩
    rw [e1]
    go_wp2_with fail
    refine (bit_c x _).mono ?_
    rintro e w' ⟨rfl, rfl⟩
    rw [e2]
    go_wp2_with fail
    go_ret
    exact ⟨rfl, rfl⟩

set_option maxRecDepth 100000 in
theorem rbin_bad (i v x : Int) (w : World) (h : Hid ((valB v && valB x) = false)) :
    Calls Tryz.prog 22 #[.int .i64 i, .int .i64 v, .int .i64 x] w fun e w' => e = .returned (.tuple #[.int .i64 0, .int .i64 0, .bool false]) ∧ w' = w := by
  cases e1 : valB v
  · go_enter Tryz.func22, Tryz.ntmps22
    go_wp2_with fail
    refine (rValue_c v _).mono ?_
    rintro e w' ⟨rfl, rfl⟩
    rw [e1]
    go_wp2_with fail
    go_ret3
    exact ⟨rfl, rfl⟩
  · have e2 : valB x = false := by have := h.out; rw [e1] at this; simpa using this
    go_enter Tryz.func22, Tryz.ntmps22
    go_wp2_with fail
    refine (rValue_c v _).mono ?_
    rintro e w' ⟨rfl, rfl⟩
    rw [e1]
    go_wp2_with fail
    refine (rValue_c x _).mono ?_
    rintro e w' ⟨rfl, rfl⟩
    rw [e2]
    go_wp2_with fail
    go_ret3
    exact ⟨rfl, rfl⟩
set_option maxRecDepth 100000 in
theorem rbin_8 (v x : Int) (w : World) (hv : bitB v = true) (hx : bitB x = true) :
    Calls Tryz.prog 22 #[.int .i64 8, .int .i64 v, .int .i64 x] w fun e w' => e = .returned (.tuple #[.int .i64 (max v x), .int .i64 0, .bool true]) ∧ w' = w := by
  have e1 : valB v = true := by rcases bit_cases hv with rfl | rfl <;> kernel_rfl
  have e2 : valB x = true := by rcases bit_cases hx with rfl | rfl <;> kernel_rfl
  have hr : Hid (∀ w : World, Calls Tryz.prog 38 #[.int .i64 8, .int .i64 v, .int .i64 x] w fun e w' => e = .returned (.int .i64 (max v x)) ∧ w' = w) := fun w => rlogic_8 v x w hv hx
  generalize (max v x) = k at *
  go_enter Tryz.func22, Tryz.ntmps22
  go_wp2_with fail
  refine (rValue_c v _).mono ?_
  rintro e w' ⟨rfl, rfl⟩
  rw [e1]
  go_wp2_with fail
  refine (rValue_c x _).mono ?_
  rintro e w' ⟨rfl, rfl⟩
  rw [e2]
  go_wp2_with fail
  refine (hr.out _).mono ?_
  rintro e w' ⟨rfl, rfl⟩
  go_wp2_with fail
  refine (bit_c v _).mono ?_
  rintro e w' ⟨rfl, rfl⟩
  rw [hv]
  go_wp2_with fail
  refine (bit_c x _).mono ?_
  rintro e w' ⟨rfl, rfl⟩
  rw [hx]
  go_wp2_with fail
  go_ret3
  exact ⟨rfl, rfl⟩
set_option maxRecDepth 100000 in
theorem rbinno_8 (v x : Int) (w : World) (e1 : valB v = true) (e2 : valB x = true) (h : Hid ((bitB v && bitB x) = false)) :
    Calls Tryz.prog 22 #[.int .i64 8, .int .i64 v, .int .i64 x] w fun e w' => e = .returned (.tuple #[.int .i64 0, .int .i64 0, .bool false]) ∧ w' = w := by
  cases hv : bitB v
  · go_enter Tryz.func22, Tryz.ntmps22
    go_wp2_with fail
    refine (rValue_c v _).mono ?_
    rintro e w' ⟨rfl, rfl⟩
    rw [e1]
    go_wp2_with fail
    refine (rValue_c x _).mono ?_
    rintro e w' ⟨rfl, rfl⟩
    rw [e2]
    go_wp2_with fail
    refine (rlogic_bad _ v x _ h).mono ?_
    rintro e w' ⟨rfl, rfl⟩
    go_wp2_with fail
    refine (bit_c v _).mono ?_
    rintro e w' ⟨rfl, rfl⟩
    rw [hv]
    go_wp2_with fail
    go_ret3
    exact ⟨rfl, rfl⟩
  · have hx : bitB x = false := by have := h.out; rw [hv] at this; simpa using this
    go_enter Tryz.func22, Tryz.ntmps22
    go_wp2_with fail
    refine (rValue_c v _).mono ?_
    rintro e w' ⟨rfl, rfl⟩
    rw [e1]
    go_wp2_with fail
    refine (rValue_c x _).mono ?_
    rintro e w' ⟨rfl, rfl⟩
    rw [e2]
    go_wp2_with fail
    refine (rlogic_bad _ v x _ h).mono ?_
    rintro e w' ⟨rfl, rfl⟩
    go_wp2_with fail
    refine (bit_c v _).mono ?_
    rintro e w' ⟨rfl, rfl⟩
    rw [hv]
    go_wp2_with fail
    refine (bit_c x _).mono ?_
    rintro e w' ⟨rfl, rfl⟩
    rw [hx]
    go_wp2_with fail
    go_ret3
    exact ⟨rfl, rfl⟩
set_option maxRecDepth 100000 in
theorem rbin_9 (v x : Int) (w : World) (hv : bitB v = true) (hx : bitB x = true) :
    Calls Tryz.prog 22 #[.int .i64 9, .int .i64 v, .int .i64 x] w fun e w' => e = .returned (.tuple #[.int .i64 ((v + x) % 2), .int .i64 0, .bool true]) ∧ w' = w := by
  have e1 : valB v = true := by rcases bit_cases hv with rfl | rfl <;> kernel_rfl
  have e2 : valB x = true := by rcases bit_cases hx with rfl | rfl <;> kernel_rfl
  have hr : Hid (∀ w : World, Calls Tryz.prog 38 #[.int .i64 9, .int .i64 v, .int .i64 x] w fun e w' => e = .returned (.int .i64 ((v + x) % 2)) ∧ w' = w) := fun w => rlogic_9 v x w hv hx
  generalize ((v + x) % 2) = k at *
  go_enter Tryz.func22, Tryz.ntmps22
  go_wp2_with fail
  refine (rValue_c v _).mono ?_
  rintro e w' ⟨rfl, rfl⟩
  rw [e1]
  go_wp2_with fail
  refine (rValue_c x _).mono ?_
  rintro e w' ⟨rfl, rfl⟩
  rw [e2]
  go_wp2_with fail
  refine (hr.out _).mono ?_
  rintro e w' ⟨rfl, rfl⟩
  go_wp2_with fail
  refine (bit_c v _).mono ?_
  rintro e w' ⟨rfl, rfl⟩
  rw [hv]
  go_wp2_with fail
  refine (bit_c x _).mono ?_
  rintro e w' ⟨rfl, rfl⟩
  rw [hx]
  go_wp2_with fail
  go_ret3
  exact ⟨rfl, rfl⟩
set_option maxRecDepth 100000 in
theorem rbinno_9 (v x : Int) (w : World) (e1 : valB v = true) (e2 : valB x = true) (h : Hid ((bitB v && bitB x) = false)) :
    Calls Tryz.prog 22 #[.int .i64 9, .int .i64 v, .int .i64 x] w fun e w' => e = .returned (.tuple #[.int .i64 0, .int .i64 0, .bool false]) ∧ w' = w := by
  cases hv : bitB v
  · go_enter Tryz.func22, Tryz.ntmps22
    go_wp2_with fail
    refine (rValue_c v _).mono ?_
    rintro e w' ⟨rfl, rfl⟩
    rw [e1]
    go_wp2_with fail
    refine (rValue_c x _).mono ?_
    rintro e w' ⟨rfl, rfl⟩
    rw [e2]
    go_wp2_with fail
    refine (rlogic_bad _ v x _ h).mono ?_
    rintro e w' ⟨rfl, rfl⟩
    go_wp2_with fail
    refine (bit_c v _).mono ?_
    rintro e w' ⟨rfl, rfl⟩
    rw [hv]
    go_wp2_with fail
    go_ret3
    exact ⟨rfl, rfl⟩
  · have hx : bitB x = false := by have := h.out; rw [hv] at this; simpa using this
    go_enter Tryz.func22, Tryz.ntmps22
    go_wp2_with fail
    refine (rValue_c v _).mono ?_
    rintro e w' ⟨rfl, rfl⟩
    rw [e1]
    go_wp2_with fail
    refine (rValue_c x _).mono ?_
    rintro e w' ⟨rfl, rfl⟩
    rw [e2]
    go_wp2_with fail
    refine (rlogic_bad _ v x _ h).mono ?_
    rintro e w' ⟨rfl, rfl⟩
    go_wp2_with fail
    refine (bit_c v _).mono ?_
    rintro e w' ⟨rfl, rfl⟩
    rw [hv]
    go_wp2_with fail
    refine (bit_c x _).mono ?_
    rintro e w' ⟨rfl, rfl⟩
    rw [hx]
    go_wp2_with fail
    go_ret3
    exact ⟨rfl, rfl⟩
set_option maxRecDepth 100000 in
theorem rbin_10 (v x : Int) (w : World) (hv : bitB v = true) (hx : bitB x = true) :
    Calls Tryz.prog 22 #[.int .i64 10, .int .i64 v, .int .i64 x] w fun e w' => e = .returned (.tuple #[.int .i64 (min v x), .int .i64 0, .bool true]) ∧ w' = w := by
  have e1 : valB v = true := by rcases bit_cases hv with rfl | rfl <;> kernel_rfl
  have e2 : valB x = true := by rcases bit_cases hx with rfl | rfl <;> kernel_rfl
  have hr : Hid (∀ w : World, Calls Tryz.prog 38 #[.int .i64 10, .int .i64 v, .int .i64 x] w fun e w' => e = .returned (.int .i64 (min v x)) ∧ w' = w) := fun w => rlogic_10 v x w hv hx
  generalize (min v x) = k at *
  go_enter Tryz.func22, Tryz.ntmps22
  go_wp2_with fail
  refine (rValue_c v _).mono ?_
  rintro e w' ⟨rfl, rfl⟩
  rw [e1]
  go_wp2_with fail
  refine (rValue_c x _).mono ?_
  rintro e w' ⟨rfl, rfl⟩
  rw [e2]
  go_wp2_with fail
  refine (hr.out _).mono ?_
  rintro e w' ⟨rfl, rfl⟩
  go_wp2_with fail
  refine (bit_c v _).mono ?_
  rintro e w' ⟨rfl, rfl⟩
  rw [hv]
  go_wp2_with fail
  refine (bit_c x _).mono ?_
  rintro e w' ⟨rfl, rfl⟩
  rw [hx]
  go_wp2_with fail
  go_ret3
  exact ⟨rfl, rfl⟩
set_option maxRecDepth 100000 in
theorem rbinno_10 (v x : Int) (w : World) (e1 : valB v = true) (e2 : valB x = true) (h : Hid ((bitB v && bitB x) = false)) :
    Calls Tryz.prog 22 #[.int .i64 10, .int .i64 v, .int .i64 x] w fun e w' => e = .returned (.tuple #[.int .i64 0, .int .i64 0, .bool false]) ∧ w' = w := by
  cases hv : bitB v
  · go_enter Tryz.func22, Tryz.ntmps22
    go_wp2_with fail
    refine (rValue_c v _).mono ?_
    rintro e w' ⟨rfl, rfl⟩
    rw [e1]
    go_wp2_with fail
    refine (rValue_c x _).mono ?_
    rintro e w' ⟨rfl, rfl⟩
    rw [e2]
    go_wp2_with fail
    refine (rlogic_bad _ v x _ h).mono ?_
    rintro e w' ⟨rfl, rfl⟩
    go_wp2_with fail
    refine (bit_c v _).mono ?_
    rintro e w' ⟨rfl, rfl⟩
    rw [hv]
    go_wp2_with fail
    go_ret3
    exact ⟨rfl, rfl⟩
  · have hx : bitB x = false := by have := h.out; rw [hv] at this; simpa using this
    go_enter Tryz.func22, Tryz.ntmps22
    go_wp2_with fail
    refine (rValue_c v _).mono ?_
    rintro e w' ⟨rfl, rfl⟩
    rw [e1]
    go_wp2_with fail
    refine (rValue_c x _).mono ?_
    rintro e w' ⟨rfl, rfl⟩
    rw [e2]
    go_wp2_with fail
    refine (rlogic_bad _ v x _ h).mono ?_
    rintro e w' ⟨rfl, rfl⟩
    go_wp2_with fail
    refine (bit_c v _).mono ?_
    rintro e w' ⟨rfl, rfl⟩
    rw [hv]
    go_wp2_with fail
    refine (bit_c x _).mono ?_
    rintro e w' ⟨rfl, rfl⟩
    rw [hx]
    go_wp2_with fail
    go_ret3
    exact ⟨rfl, rfl⟩
end Go.Proofs.YtgldbeacjacbcaaGreat

namespace Go.Proofs.YtgldbeacjacbcaaGreat
open Go.RowKit

set_option maxRecDepth 100000 in
theorem rbin_11 (v x : Int) (w : World) (e1 : valB v = true) (e2 : valB x = true) :
    Calls Tryz.prog 22 #[.int .i64 11, .int .i64 v, .int .i64 x] w fun e w' => e = .returned (.tuple #[.int .i64 (oneOf (decide (v = x))), .int .i64 0, .bool true]) ∧ w' = w := by
  have ht : Hid ((v == x) = (decide (v = x))) := by show _ = _; first | rfl | (rw [Bool.eq_iff_iff]; simp)
  go_enter Tryz.func22, Tryz.ntmps22
  go_wp2_with fail
  refine (rValue_c v _).mono ?_
  rintro e w' ⟨rfl, rfl⟩
  rw [e1]
  go_wp2_with fail
  refine (rValue_c x _).mono ?_
  rintro e w' ⟨rfl, rfl⟩
  rw [e2]
  go_wp2_with fail
  first | rw [ht.out] | skip
  generalize ht2 : (decide (v = x)) = k
  replace ht2 := Lib.hid ht2
  refine (rtruth_c k _).mono ?_
  rintro e w' ⟨rfl, rfl⟩
  go_wp2_with fail
  go_ret3
  exact ⟨by rw [ht2.out]; first | done | rfl, rfl⟩
set_option maxRecDepth 100000 in
theorem rbin_12 (v x : Int) (w : World) (e1 : valB v = true) (e2 : valB x = true) :
    Calls Tryz.prog 22 #[.int .i64 12, .int .i64 v, .int .i64 x] w fun e w' => e = .returned (.tuple #[.int .i64 (oneOf (decide (¬ v = x))), .int .i64 0, .bool true]) ∧ w' = w := by
  have ht : Hid ((v != x) = (decide (¬ v = x))) := by show _ = _; first | rfl | (rw [Bool.eq_iff_iff]; simp)
  go_enter Tryz.func22, Tryz.ntmps22
  go_wp2_with fail
  refine (rValue_c v _).mono ?_
  rintro e w' ⟨rfl, rfl⟩
  rw [e1]
  go_wp2_with fail
  refine (rValue_c x _).mono ?_
  rintro e w' ⟨rfl, rfl⟩
  rw [e2]
  go_wp2_with fail
  first | rw [ht.out] | skip
  generalize ht2 : (decide (¬ v = x)) = k
  replace ht2 := Lib.hid ht2
  refine (rtruth_c k _).mono ?_
  rintro e w' ⟨rfl, rfl⟩
  go_wp2_with fail
  go_ret3
  exact ⟨by rw [ht2.out]; first | done | rfl, rfl⟩
set_option maxRecDepth 100000 in
theorem rbin_13 (v x : Int) (w : World) (e1 : valB v = true) (e2 : valB x = true) :
    Calls Tryz.prog 22 #[.int .i64 13, .int .i64 v, .int .i64 x] w fun e w' => e = .returned (.tuple #[.int .i64 (oneOf (decide (v < x))), .int .i64 0, .bool true]) ∧ w' = w := by
  have ht : Hid ((decide (v < x)) = (decide (v < x))) := by show _ = _; first | rfl | (rw [Bool.eq_iff_iff]; simp)
  go_enter Tryz.func22, Tryz.ntmps22
  go_wp2_with fail
  refine (rValue_c v _).mono ?_
  rintro e w' ⟨rfl, rfl⟩
  rw [e1]
  go_wp2_with fail
  refine (rValue_c x _).mono ?_
  rintro e w' ⟨rfl, rfl⟩
  rw [e2]
  go_wp2_with fail
  first | rw [ht.out] | skip
  generalize ht2 : (decide (v < x)) = k
  replace ht2 := Lib.hid ht2
  refine (rtruth_c k _).mono ?_
  rintro e w' ⟨rfl, rfl⟩
  go_wp2_with fail
  go_ret3
  exact ⟨by rw [ht2.out]; first | done | rfl, rfl⟩
set_option maxRecDepth 100000 in
theorem rbin_14 (v x : Int) (w : World) (e1 : valB v = true) (e2 : valB x = true) :
    Calls Tryz.prog 22 #[.int .i64 14, .int .i64 v, .int .i64 x] w fun e w' => e = .returned (.tuple #[.int .i64 (oneOf (decide (v ≤ x))), .int .i64 0, .bool true]) ∧ w' = w := by
  have ht : Hid ((decide (v ≤ x)) = (decide (v ≤ x))) := by show _ = _; first | rfl | (rw [Bool.eq_iff_iff]; simp)
  go_enter Tryz.func22, Tryz.ntmps22
  go_wp2_with fail
  refine (rValue_c v _).mono ?_
  rintro e w' ⟨rfl, rfl⟩
  rw [e1]
  go_wp2_with fail
  refine (rValue_c x _).mono ?_
  rintro e w' ⟨rfl, rfl⟩
  rw [e2]
  go_wp2_with fail
  first | rw [ht.out] | skip
  generalize ht2 : (decide (v ≤ x)) = k
  replace ht2 := Lib.hid ht2
  refine (rtruth_c k _).mono ?_
  rintro e w' ⟨rfl, rfl⟩
  go_wp2_with fail
  go_ret3
  exact ⟨by rw [ht2.out]; first | done | rfl, rfl⟩
set_option maxRecDepth 100000 in
theorem rbin_15 (v x : Int) (w : World) (e1 : valB v = true) (e2 : valB x = true) :
    Calls Tryz.prog 22 #[.int .i64 15, .int .i64 v, .int .i64 x] w fun e w' => e = .returned (.tuple #[.int .i64 (oneOf (decide (x < v))), .int .i64 0, .bool true]) ∧ w' = w := by
  have ht : Hid ((decide (x < v)) = (decide (x < v))) := by show _ = _; first | rfl | (rw [Bool.eq_iff_iff]; simp)
  go_enter Tryz.func22, Tryz.ntmps22
  go_wp2_with fail
  refine (rValue_c v _).mono ?_
  rintro e w' ⟨rfl, rfl⟩
  rw [e1]
  go_wp2_with fail
  refine (rValue_c x _).mono ?_
  rintro e w' ⟨rfl, rfl⟩
  rw [e2]
  go_wp2_with fail
  first | rw [ht.out] | skip
  generalize ht2 : (decide (x < v)) = k
  replace ht2 := Lib.hid ht2
  refine (rtruth_c k _).mono ?_
  rintro e w' ⟨rfl, rfl⟩
  go_wp2_with fail
  go_ret3
  exact ⟨by rw [ht2.out]; first | done | rfl, rfl⟩
set_option maxRecDepth 100000 in
theorem rbin_16 (v x : Int) (w : World) (e1 : valB v = true) (e2 : valB x = true) :
    Calls Tryz.prog 22 #[.int .i64 16, .int .i64 v, .int .i64 x] w fun e w' => e = .returned (.tuple #[.int .i64 (oneOf (decide (x ≤ v))), .int .i64 0, .bool true]) ∧ w' = w := by
  have ht : Hid ((decide (x ≤ v)) = (decide (x ≤ v))) := by show _ = _; first | rfl | (rw [Bool.eq_iff_iff]; simp)
  go_enter Tryz.func22, Tryz.ntmps22
  go_wp2_with fail
  refine (rValue_c v _).mono ?_
  rintro e w' ⟨rfl, rfl⟩
  rw [e1]
  go_wp2_with fail
  refine (rValue_c x _).mono ?_
  rintro e w' ⟨rfl, rfl⟩
  rw [e2]
  go_wp2_with fail
  first | rw [ht.out] | skip
  generalize ht2 : (decide (x ≤ v)) = k
  replace ht2 := Lib.hid ht2
  refine (rtruth_c k _).mono ?_
  rintro e w' ⟨rfl, rfl⟩
  go_wp2_with fail
  go_ret3
  exact ⟨by rw [ht2.out]; first | done | rfl, rfl⟩
set_option maxRecDepth 100000 in
theorem rbin_17 (v x : Int) (w : World) (e1 : valB v = true) (e2 : valB x = true) :
    Calls Tryz.prog 22 #[.int .i64 17, .int .i64 v, .int .i64 x] w fun e w' => e = .returned (.tuple #[.int .i64 (wrap32 (v + x)), .int .i64 0, .bool true]) ∧ w' = w := by
  obtain ⟨b1, b2⟩ := val_bd e1
  obtain ⟨b3, b4⟩ := val_bd e2
  go_enter Tryz.func22, Tryz.ntmps22
  go_wp2_with fail
  refine (rValue_c v _).mono ?_
  rintro e w' ⟨rfl, rfl⟩
  rw [e1]
  go_wp2_with fail
  refine (rValue_c x _).mono ?_
  rintro e w' ⟨rfl, rfl⟩
  rw [e2]
  go_wp2_with fail
  refine (rwrap_c _ _).mono ?_
  rintro e w' ⟨rfl, rfl⟩
  go_wp2_with fail
  go_ret3
  exact ⟨rfl, rfl⟩
set_option maxRecDepth 100000 in
theorem rbin_18 (v x : Int) (w : World) (e1 : valB v = true) (e2 : valB x = true) :
    Calls Tryz.prog 22 #[.int .i64 18, .int .i64 v, .int .i64 x] w fun e w' => e = .returned (.tuple #[.int .i64 (wrap32 (v - x)), .int .i64 0, .bool true]) ∧ w' = w := by
  obtain ⟨b1, b2⟩ := val_bd e1
  obtain ⟨b3, b4⟩ := val_bd e2
  go_enter Tryz.func22, Tryz.ntmps22
  go_wp2_with fail
  refine (rValue_c v _).mono ?_
  rintro e w' ⟨rfl, rfl⟩
  rw [e1]
  go_wp2_with fail
  refine (rValue_c x _).mono ?_
  rintro e w' ⟨rfl, rfl⟩
  rw [e2]
  go_wp2_with fail
  refine (rwrap_c _ _).mono ?_
  rintro e w' ⟨rfl, rfl⟩
  go_wp2_with fail
  go_ret3
  exact ⟨rfl, rfl⟩
set_option maxRecDepth 100000 in
theorem rbin_19 (v x : Int) (w : World) (e1 : valB v = true) (e2 : valB x = true) :
    Calls Tryz.prog 22 #[.int .i64 19, .int .i64 v, .int .i64 x] w fun e w' => e = .returned (.tuple #[.int .i64 (wrap32 (v * x)), .int .i64 0, .bool true]) ∧ w' = w := by
  have hw : Hid (wrap32 (wrap64 (v * x)) = wrap32 (v * x)) := wrap32_wrap64 _
  go_enter Tryz.func22, Tryz.ntmps22
  go_wp2_with fail
  refine (rValue_c v _).mono ?_
  rintro e w' ⟨rfl, rfl⟩
  rw [e1]
  go_wp2_with fail
  refine (rValue_c x _).mono ?_
  rintro e w' ⟨rfl, rfl⟩
  rw [e2]
  go_wp2_with fail
  refine (rwrap_c _ _).mono ?_
  rintro e w' ⟨rfl, rfl⟩
  rw [hw.out]
  go_wp2_with fail
  go_ret3
  exact ⟨rfl, rfl⟩
theorem wrap32_cong {m n : Int} (h : m % 4294967296 = n % 4294967296) : wrap32 m = wrap32 n := by unfold wrap32; omega
theorem rem_back (v x : Int) : wrap32 (wrap64 (v - wrap64 (wrap64 (v.tdiv x) * x))) = wrap32 (v.tmod x) := by
  refine wrap32_cong ?_
  have h := Int.mul_tdiv_add_tmod v x
  have e1 : wrap64 (v.tdiv x) % 4294967296 = v.tdiv x % 4294967296 := by unfold wrap64; omega
  have e2 : (wrap64 (v.tdiv x) * x) % 4294967296 = (v.tdiv x * x) % 4294967296 := by rw [Int.mul_emod, e1, ← Int.mul_emod]
  have e3 : x * v.tdiv x = v.tdiv x * x := Int.mul_comm _ _
  rw [e3] at h
  generalize v.tdiv x * x = p at *
  generalize wrap64 (v.tdiv x) * x = q at *
  unfold wrap64
  omega
set_option maxRecDepth 100000 in
theorem rbin_20 (v x : Int) (w : World) (e1 : valB v = true) (e2 : valB x = true) (hz : ¬ x = 0) :
    Calls Tryz.prog 22 #[.int .i64 20, .int .i64 v, .int .i64 x] w fun e w' => e = .returned (.tuple #[.int .i64 (wrap32 (v.tdiv x)), .int .i64 0, .bool true]) ∧ w' = w := by
  have hw : Hid (wrap32 (wrap64 (v.tdiv x)) = wrap32 (v.tdiv x)) := wrap32_wrap64 _
  go_enter Tryz.func22, Tryz.ntmps22
  go_wp2_with fail
  refine (rValue_c v _).mono ?_
  rintro e w' ⟨rfl, rfl⟩
  rw [e1]
  go_wp2_with fail
  refine (rValue_c x _).mono ?_
  rintro e w' ⟨rfl, rfl⟩
  rw [e2]
  go_wp2_with fail
  refine (rwrap_c (wrap64 (v.tdiv x)) _).mono ?_
  rintro e w' ⟨rfl, rfl⟩
  rw [hw.out]
  go_wp2_with fail
  go_ret3
  exact ⟨rfl, rfl⟩
set_option maxRecDepth 100000 in
theorem rbin_20_0 (v : Int) (w : World) (e1 : valB v = true) :
    Calls Tryz.prog 22 #[.int .i64 20, .int .i64 v, .int .i64 0] w fun e w' => e = .returned (.tuple #[.int .i64 0, .int .i64 1, .bool true]) ∧ w' = w := by
  have e2 : valB 0 = true := by kernel_rfl
  go_enter Tryz.func22, Tryz.ntmps22
  go_wp2_with fail
  refine (rValue_c v _).mono ?_
  rintro e w' ⟨rfl, rfl⟩
  rw [e1]
  go_wp2_with fail
  refine (rValue_c 0 _).mono ?_
  rintro e w' ⟨rfl, rfl⟩
  rw [e2]
  go_wp2_with fail
  go_ret3
  exact ⟨rfl, rfl⟩
set_option maxRecDepth 100000 in
theorem rbin_21 (v x : Int) (w : World) (e1 : valB v = true) (e2 : valB x = true) (hz : ¬ x = 0) :
    Calls Tryz.prog 22 #[.int .i64 21, .int .i64 v, .int .i64 x] w fun e w' => e = .returned (.tuple #[.int .i64 (wrap32 (v.tmod x)), .int .i64 0, .bool true]) ∧ w' = w := by
  have hw : Hid (wrap32 (wrap64 (v - wrap64 (wrap64 (v.tdiv x) * x))) = wrap32 (v.tmod x)) := rem_back v x
  go_enter Tryz.func22, Tryz.ntmps22
  go_wp2_with fail
  refine (rValue_c v _).mono ?_
  rintro e w' ⟨rfl, rfl⟩
  rw [e1]
  go_wp2_with fail
  refine (rValue_c x _).mono ?_
  rintro e w' ⟨rfl, rfl⟩
  rw [e2]
  go_wp2_with fail
  refine (rwrap_c (wrap64 (v - wrap64 (wrap64 (v.tdiv x) * x))) _).mono ?_
  rintro e w' ⟨rfl, rfl⟩
  rw [hw.out]
  go_wp2_with fail
  go_ret3
  exact ⟨rfl, rfl⟩
set_option maxRecDepth 100000 in
theorem rbin_21_0 (v : Int) (w : World) (e1 : valB v = true) :
    Calls Tryz.prog 22 #[.int .i64 21, .int .i64 v, .int .i64 0] w fun e w' => e = .returned (.tuple #[.int .i64 0, .int .i64 1, .bool true]) ∧ w' = w := by
  have e2 : valB 0 = true := by kernel_rfl
  go_enter Tryz.func22, Tryz.ntmps22
  go_wp2_with fail
  refine (rValue_c v _).mono ?_
  rintro e w' ⟨rfl, rfl⟩
  rw [e1]
  go_wp2_with fail
  refine (rValue_c 0 _).mono ?_
  rintro e w' ⟨rfl, rfl⟩
  rw [e2]
  go_wp2_with fail
  go_ret3
  exact ⟨rfl, rfl⟩
set_option maxRecDepth 100000 in
theorem rbin_none (i v x : Int) (w : World) (e1 : valB v = true) (e2 : valB x = true) (hi : i < 8 ∨ 21 < i) :
    Calls Tryz.prog 22 #[.int .i64 i, .int .i64 v, .int .i64 x] w fun e w' => e = .returned (.tuple #[.int .i64 0, .int .i64 0, .bool false]) ∧ w' = w := by
  have n8 : ¬ i = 8 := by omega
  have n9 : ¬ i = 9 := by omega
  have n10 : ¬ i = 10 := by omega
  have n11 : ¬ i = 11 := by omega
  have n12 : ¬ i = 12 := by omega
  have n13 : ¬ i = 13 := by omega
  have n14 : ¬ i = 14 := by omega
  have n15 : ¬ i = 15 := by omega
  have n16 : ¬ i = 16 := by omega
  have n17 : ¬ i = 17 := by omega
  have n18 : ¬ i = 18 := by omega
  have n19 : ¬ i = 19 := by omega
  have n20 : ¬ i = 20 := by omega
  have n21 : ¬ i = 21 := by omega
  clear hi
  go_enter Tryz.func22, Tryz.ntmps22
  go_wp2_with fail
  refine (rValue_c v _).mono ?_
  rintro e w' ⟨rfl, rfl⟩
  rw [e1]
  go_wp2_with fail
  refine (rValue_c x _).mono ?_
  rintro e w' ⟨rfl, rfl⟩
  rw [e2]
  go_wp2_with fail
  go_ret3
  exact ⟨rfl, rfl⟩
set_option maxRecDepth 100000 in
theorem run_6 (v : Int) (w : World) (e1 : valB v = true) :
    Calls Tryz.prog 19 #[.int .i64 6, .int .i64 v] w fun e w' => e = .returned (.tuple #[.int .i64 (1 - v), .bool (bitB v)]) ∧ w' = w := by
  obtain ⟨b1, b2⟩ := val_bd e1
  have hw : wrap64 (1 - v) = 1 - v := IntWalk.wrap64_in _ (by omega)
  go_enter Tryz.func19, Tryz.ntmps19
  go_wp2_with fail
  refine (rValue_c v _).mono ?_
  rintro e w' ⟨rfl, rfl⟩
  rw [e1]
  go_wp2_with fail
  refine (bit_c v _).mono ?_
  rintro e w' ⟨rfl, rfl⟩
  go_wp2_with fail
  go_ret2
  exact ⟨rfl, rfl⟩
set_option maxRecDepth 100000 in
theorem run_7 (v : Int) (w : World) (e1 : valB v = true) :
    Calls Tryz.prog 19 #[.int .i64 7, .int .i64 v] w fun e w' => e = .returned (.tuple #[.int .i64 (wrap32 (-v)), .bool true]) ∧ w' = w := by
  obtain ⟨b1, b2⟩ := val_bd e1
  have hw : wrap64 (-v) = -v := IntWalk.wrap64_in _ (by omega)
  go_enter Tryz.func19, Tryz.ntmps19
  go_wp2_with fail
  refine (rValue_c v _).mono ?_
  rintro e w' ⟨rfl, rfl⟩
  rw [e1]
  go_wp2_with fail
  refine (rwrap_c _ _).mono ?_
  rintro e w' ⟨rfl, rfl⟩
  go_wp2_with fail
  go_ret2
  exact ⟨rfl, rfl⟩
set_option maxRecDepth 100000 in
theorem run_none (i v : Int) (w : World) (e1 : valB v = true) (h6 : ¬ i = 6) (h7 : ¬ i = 7) :
    Calls Tryz.prog 19 #[.int .i64 i, .int .i64 v] w fun e w' => e = .returned (.tuple #[.int .i64 0, .bool false]) ∧ w' = w := by
  go_enter Tryz.func19, Tryz.ntmps19
  go_wp2_with fail
  refine (rValue_c v _).mono ?_
  rintro e w' ⟨rfl, rfl⟩
  rw [e1]
  go_wp2_with fail
  go_ret2
  exact ⟨rfl, rfl⟩
set_option maxRecDepth 100000 in
theorem run_bad (i v : Int) (w : World) (e1 : valB v = false) :
    Calls Tryz.prog 19 #[.int .i64 i, .int .i64 v] w fun e w' => e = .returned (.tuple #[.int .i64 0, .bool false]) ∧ w' = w := by
  go_enter Tryz.func19, Tryz.ntmps19
  go_wp2_with fail
  refine (rValue_c v _).mono ?_
  rintro e w' ⟨rfl, rfl⟩
  rw [e1]
  go_wp2_with fail
  go_ret2
  exact ⟨rfl, rfl⟩
end Go.Proofs.YtgldbeacjacbcaaGreat
