import Derived.Test.YtkdommlojboknaaEv13
namespace Go.Proofs.Ytkdommlojboknaa
open Go.RowKit

set_option maxRecDepth 100000 in
theorem rlogic_8 (v x : Int) (w : World) (hv : bitB v = true) (hx : bitB x = true) :
    Calls Try.prog 27 #[.int .i64 8, .int .i64 v, .int .i64 x] w fun e w' => e = .returned (.int .i64 (max v x)) ∧ w' = w := by
  rcases bit_cases hv with rfl | rfl <;> rcases bit_cases hx with rfl | rfl
  all_goals
    clear hv hx
    go_enter Try.func27, Try.ntmps27
    go_wp2
    go_ret
    exact ⟨by kernel_rfl, rfl⟩
set_option maxRecDepth 100000 in
theorem rlogic_9 (v x : Int) (w : World) (hv : bitB v = true) (hx : bitB x = true) :
    Calls Try.prog 27 #[.int .i64 9, .int .i64 v, .int .i64 x] w fun e w' => e = .returned (.int .i64 ((v + x) % 2)) ∧ w' = w := by
  rcases bit_cases hv with rfl | rfl <;> rcases bit_cases hx with rfl | rfl
  all_goals
    clear hv hx
    go_enter Try.func27, Try.ntmps27
    go_wp2
    go_ret
    exact ⟨by kernel_rfl, rfl⟩
set_option maxRecDepth 100000 in
theorem rlogic_10 (v x : Int) (w : World) (hv : bitB v = true) (hx : bitB x = true) :
    Calls Try.prog 27 #[.int .i64 10, .int .i64 v, .int .i64 x] w fun e w' => e = .returned (.int .i64 (min v x)) ∧ w' = w := by
  rcases bit_cases hv with rfl | rfl <;> rcases bit_cases hx with rfl | rfl
  all_goals
    clear hv hx
    go_enter Try.func27, Try.ntmps27
    go_wp2
    go_ret
    exact ⟨by kernel_rfl, rfl⟩
set_option maxRecDepth 100000 in
theorem rlogic_bad (i v x : Int) (w : World) (h : Hid ((bitB v && bitB x) = false)) :
    Calls Try.prog 27 #[.int .i64 i, .int .i64 v, .int .i64 x] w fun e w' => e = .returned (.int .i64 0) ∧ w' = w := by
  cases e1 : bitB v
  · go_enter Try.func27, Try.ntmps27
    go_wp2_with fail
    refine (bit_c v _).mono ?_
    rintro e w' ⟨rfl, rfl⟩
    rw [e1]
    go_wp2_with fail
    go_ret
    exact ⟨rfl, rfl⟩
  · have e2 : bitB x = false := by have := h.out; rw [e1] at this; simpa using this
    go_enter Try.func27, Try.ntmps27
    go_wp2_with fail
    refine (bit_c v _).mono ?_
    rintro e w' ⟨rfl, rfl⟩
    rw [e1]
    go_wp2_with fail
    refine (bit_c x _).mono ?_
    rintro e w' ⟨rfl, rfl⟩
    rw [e2]
    go_wp2_with fail
    go_ret
    exact ⟨rfl, rfl⟩

set_option maxRecDepth 100000 in
theorem rbin_bad (i v x : Int) (w : World) (h : Hid ((valB v && valB x) = false)) :
    Calls Try.prog 11 #[.int .i64 i, .int .i64 v, .int .i64 x] w fun e w' => e = .returned (.tuple #[.int .i64 0, .int .i64 0, .bool false]) ∧ w' = w := by
  cases e1 : valB v
  · go_enter Try.func11, Try.ntmps11
    go_wp2_with fail
    refine (rValue_c v _).mono ?_
    rintro e w' ⟨rfl, rfl⟩
    rw [e1]
    go_wp2_with fail
    go_ret3
    exact ⟨rfl, rfl⟩
  · have e2 : valB x = false := by have := h.out; rw [e1] at this; simpa using this
    go_enter Try.func11, Try.ntmps11
    go_wp2_with fail
    refine (rValue_c v _).mono ?_
    rintro e w' ⟨rfl, rfl⟩
    rw [e1]
    go_wp2_with fail
    refine (rValue_c x _).mono ?_
    rintro e w' ⟨rfl, rfl⟩
    rw [e2]
    go_wp2_with fail
    go_ret3
    exact ⟨rfl, rfl⟩
set_option maxRecDepth 100000 in
theorem rbin_8 (v x : Int) (w : World) (hv : bitB v = true) (hx : bitB x = true) :
    Calls Try.prog 11 #[.int .i64 8, .int .i64 v, .int .i64 x] w fun e w' => e = .returned (.tuple #[.int .i64 (max v x), .int .i64 0, .bool true]) ∧ w' = w := by
  have e1 : valB v = true := by rcases bit_cases hv with rfl | rfl <;> kernel_rfl
  have e2 : valB x = true := by rcases bit_cases hx with rfl | rfl <;> kernel_rfl
  have hr : Hid (∀ w : World, Calls Try.prog 27 #[.int .i64 8, .int .i64 v, .int .i64 x] w fun e w' => e = .returned (.int .i64 (max v x)) ∧ w' = w) := fun w => rlogic_8 v x w hv hx
  generalize (max v x) = k at *
  go_enter Try.func11, Try.ntmps11
  go_wp2_with fail
  refine (rValue_c v _).mono ?_
  rintro e w' ⟨rfl, rfl⟩
  rw [e1]
  go_wp2_with fail
  refine (rValue_c x _).mono ?_
  rintro e w' ⟨rfl, rfl⟩
  rw [e2]
  go_wp2_with fail
  refine (hr.out _).mono ?_
  rintro e w' ⟨rfl, rfl⟩
  go_wp2_with fail
  refine (bit_c v _).mono ?_
  rintro e w' ⟨rfl, rfl⟩
  rw [hv]
  go_wp2_with fail
  refine (bit_c x _).mono ?_
  rintro e w' ⟨rfl, rfl⟩
  rw [hx]
  go_wp2_with fail
  go_ret3
  exact ⟨rfl, rfl⟩
set_option maxRecDepth 100000 in
theorem rbinno_8 (v x : Int) (w : World) (e1 : valB v = true) (e2 : valB x = true) (h : Hid ((bitB v && bitB x) = false)) :
    Calls Try.prog 11 #[.int .i64 8, .int .i64 v, .int .i64 x] w fun e w' => e = .returned (.tuple #[.int .i64 0, .int .i64 0, .bool false]) ∧ w' = w := by
  cases hv : bitB v
  · go_enter Try.func11, Try.ntmps11
    go_wp2_with fail
    refine (rValue_c v _).mono ?_
    rintro e w' ⟨rfl, rfl⟩
    rw [e1]
    go_wp2_with fail
    refine (rValue_c x _).mono ?_
    rintro e w' ⟨rfl, rfl⟩
    rw [e2]
    go_wp2_with fail
    refine (rlogic_bad _ v x _ h).mono ?_
    rintro e w' ⟨rfl, rfl⟩
    go_wp2_with fail
    refine (bit_c v _).mono ?_
    rintro e w' ⟨rfl, rfl⟩
    rw [hv]
    go_wp2_with fail
    go_ret3
    exact ⟨rfl, rfl⟩
  · have hx : bitB x = false := by have := h.out; rw [hv] at this; simpa using this
    go_enter Try.func11, Try.ntmps11
    go_wp2_with fail
    refine (rValue_c v _).mono ?_
    rintro e w' ⟨rfl, rfl⟩
    rw [e1]
    go_wp2_with fail
    refine (rValue_c x _).mono ?_
    rintro e w' ⟨rfl, rfl⟩
    rw [e2]
    go_wp2_with fail
    refine (rlogic_bad _ v x _ h).mono ?_
    rintro e w' ⟨rfl, rfl⟩
    go_wp2_with fail
    refine (bit_c v _).mono ?_
    rintro e w' ⟨rfl, rfl⟩
    rw [hv]
    go_wp2_with fail
    refine (bit_c x _).mono ?_
    rintro e w' ⟨rfl, rfl⟩
    rw [hx]
    go_wp2_with fail
    go_ret3
    exact ⟨rfl, rfl⟩
set_option maxRecDepth 100000 in
theorem rbin_9 (v x : Int) (w : World) (hv : bitB v = true) (hx : bitB x = true) :
    Calls Try.prog 11 #[.int .i64 9, .int .i64 v, .int .i64 x] w fun e w' => e = .returned (.tuple #[.int .i64 ((v + x) % 2), .int .i64 0, .bool true]) ∧ w' = w := by
  have e1 : valB v = true := by rcases bit_cases hv with rfl | rfl <;> kernel_rfl
  have e2 : valB x = true := by rcases bit_cases hx with rfl | rfl <;> kernel_rfl
  have hr : Hid (∀ w : World, Calls Try.prog 27 #[.int .i64 9, .int .i64 v, .int .i64 x] w fun e w' => e = .returned (.int .i64 ((v + x) % 2)) ∧ w' = w) := fun w => rlogic_9 v x w hv hx
  generalize ((v + x) % 2) = k at *
  go_enter Try.func11, Try.ntmps11
  go_wp2_with fail
  refine (rValue_c v _).mono ?_
  rintro e w' ⟨rfl, rfl⟩
  rw [e1]
  go_wp2_with fail
  refine (rValue_c x _).mono ?_
  rintro e w' ⟨rfl, rfl⟩
  rw [e2]
  go_wp2_with fail
  refine (hr.out _).mono ?_
  rintro e w' ⟨rfl, rfl⟩
  go_wp2_with fail
  refine (bit_c v _).mono ?_
  rintro e w' ⟨rfl, rfl⟩
  rw [hv]
  go_wp2_with fail
  refine (bit_c x _).mono ?_
  rintro e w' ⟨rfl, rfl⟩
  rw [hx]
  go_wp2_with fail
  go_ret3
  exact ⟨rfl, rfl⟩
set_option maxRecDepth 100000 in
theorem rbinno_9 (v x : Int) (w : World) (e1 : valB v = true) (e2 : valB x = true) (h : Hid ((bitB v && bitB x) = false)) :
    Calls Try.prog 11 #[.int .i64 9, .int .i64 v, .int .i64 x] w fun e w' => e = .returned (.tuple #[.int .i64 0, .int .i64 0, .bool false]) ∧ w' = w := by
  cases hv : bitB v
  · go_enter Try.func11, Try.ntmps11
    go_wp2_with fail
    refine (rValue_c v _).mono ?_
    rintro e w' ⟨rfl, rfl⟩
    rw [e1]
    go_wp2_with fail
    refine (rValue_c x _).mono ?_
    rintro e w' ⟨rfl, rfl⟩
    rw [e2]
    go_wp2_with fail
    refine (rlogic_bad _ v x _ h).mono ?_
    rintro e w' ⟨rfl, rfl⟩
    go_wp2_with fail
    refine (bit_c v _).mono ?_
    rintro e w' ⟨rfl, rfl⟩
    rw [hv]
    go_wp2_with fail
    go_ret3
    exact ⟨rfl, rfl⟩
  · have hx : bitB x = false := by have := h.out; rw [hv] at this; simpa using this
    go_enter Try.func11, Try.ntmps11
    go_wp2_with fail
    refine (rValue_c v _).mono ?_
    rintro e w' ⟨rfl, rfl⟩
    rw [e1]
    go_wp2_with fail
    refine (rValue_c x _).mono ?_
    rintro e w' ⟨rfl, rfl⟩
    rw [e2]
    go_wp2_with fail
    refine (rlogic_bad _ v x _ h).mono ?_
    rintro e w' ⟨rfl, rfl⟩
    go_wp2_with fail
    refine (bit_c v _).mono ?_
    rintro e w' ⟨rfl, rfl⟩
    rw [hv]
    go_wp2_with fail
    refine (bit_c x _).mono ?_
    rintro e w' ⟨rfl, rfl⟩
    rw [hx]
    go_wp2_with fail
    go_ret3
    exact ⟨rfl, rfl⟩
set_option maxRecDepth 100000 in
theorem rbin_10 (v x : Int) (w : World) (hv : bitB v = true) (hx : bitB x = true) :
    Calls Try.prog 11 #[.int .i64 10, .int .i64 v, .int .i64 x] w fun e w' => e = .returned (.tuple #[.int .i64 (min v x), .int .i64 0, .bool true]) ∧ w' = w := by
  have e1 : valB v = true := by rcases bit_cases hv with rfl | rfl <;> kernel_rfl
  have e2 : valB x = true := by rcases bit_cases hx with rfl | rfl <;> kernel_rfl
  have hr : Hid (∀ w : World, Calls Try.prog 27 #[.int .i64 10, .int .i64 v, .int .i64 x] w fun e w' => e = .returned (.int .i64 (min v x)) ∧ w' = w) := fun w => rlogic_10 v x w hv hx
  generalize (min v x) = k at *
  go_enter Try.func11, Try.ntmps11
  go_wp2_with fail
  refine (rValue_c v _).mono ?_
  rintro e w' ⟨rfl, rfl⟩
  rw [e1]
  go_wp2_with fail
  refine (rValue_c x _).mono ?_
  rintro e w' ⟨rfl, rfl⟩
  rw [e2]
  go_wp2_with fail
  refine (hr.out _).mono ?_
  rintro e w' ⟨rfl, rfl⟩
  go_wp2_with fail
  refine (bit_c v _).mono ?_
  rintro e w' ⟨rfl, rfl⟩
  rw [hv]
  go_wp2_with fail
  refine (bit_c x _).mono ?_
  rintro e w' ⟨rfl, rfl⟩
  rw [hx]
  go_wp2_with fail
  go_ret3
  exact ⟨rfl, rfl⟩
set_option maxRecDepth 100000 in
theorem rbinno_10 (v x : Int) (w : World) (e1 : valB v = true) (e2 : valB x = true) (h : Hid ((bitB v && bitB x) = false)) :
    Calls Try.prog 11 #[.int .i64 10, .int .i64 v, .int .i64 x] w fun e w' => e = .returned (.tuple #[.int .i64 0, .int .i64 0, .bool false]) ∧ w' = w := by
  cases hv : bitB v
  · go_enter Try.func11, Try.ntmps11
    go_wp2_with fail
    refine (rValue_c v _).mono ?_
    rintro e w' ⟨rfl, rfl⟩
    rw [e1]
    go_wp2_with fail
    refine (rValue_c x _).mono ?_
    rintro e w' ⟨rfl, rfl⟩
    rw [e2]
    go_wp2_with fail
    refine (rlogic_bad _ v x _ h).mono ?_
    rintro e w' ⟨rfl, rfl⟩
    go_wp2_with fail
    refine (bit_c v _).mono ?_
    rintro e w' ⟨rfl, rfl⟩
    rw [hv]
    go_wp2_with fail
    go_ret3
    exact ⟨rfl, rfl⟩
  · have hx : bitB x = false := by have := h.out; rw [hv] at this; simpa using this
    go_enter Try.func11, Try.ntmps11
    go_wp2_with fail
    refine (rValue_c v _).mono ?_
    rintro e w' ⟨rfl, rfl⟩
    rw [e1]
    go_wp2_with fail
    refine (rValue_c x _).mono ?_
    rintro e w' ⟨rfl, rfl⟩
    rw [e2]
    go_wp2_with fail
    refine (rlogic_bad _ v x _ h).mono ?_
    rintro e w' ⟨rfl, rfl⟩
    go_wp2_with fail
    refine (bit_c v _).mono ?_
    rintro e w' ⟨rfl, rfl⟩
    rw [hv]
    go_wp2_with fail
    refine (bit_c x _).mono ?_
    rintro e w' ⟨rfl, rfl⟩
    rw [hx]
    go_wp2_with fail
    go_ret3
    exact ⟨rfl, rfl⟩
end Go.Proofs.Ytkdommlojboknaa
