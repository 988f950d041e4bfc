import Derived.Test.YtgldbeacjacbcaaEv6
namespace Go.Proofs.Ytgldbeacjacbcaa
open Go.RowKit

theorem pair_cell (w : World) (v x : Int) (j : Nat) (hj : j < ([v, x] : List Int).length) : (w.alloc (.cells #[.int .i64 v, .int .i64 x] 3)).cell? ⟨w.heap.size, j, none⟩ = some (.int .i64 (([v, x] : List Int).getD j 0)) := by
  refine (Blk.new w 3 _).cell j ?_
  have hj2 : j = 0 ∨ j = 1 := by simp only [List.length_cons, List.length_nil] at hj; omega
  rcases hj2 with rfl | rfl <;> rfl
theorem one_cell (w : World) (v : Int) (j : Nat) (hj : j < ([v] : List Int).length) : (w.alloc (.cells #[.int .i64 v] 3)).cell? ⟨w.heap.size, j, none⟩ = some (.int .i64 (([v] : List Int).getD j 0)) := by
  refine (Blk.new w 3 _).cell j ?_
  have hj2 : j = 0 := by simp only [List.length_cons, List.length_nil] at hj; omega
  subst hj2; rfl
theorem areB_two (op v x : Int) : areB op [v, x] = ((valB v && (!logB op || bitB v)) && (valB x && (!logB op || bitB x))) := by simp [areB]
theorem areB_one (op v : Int) : areB op [v] = (valB v && (!logB op || bitB v)) := by simp [areB]

theorem eql_func (K : Nat) (w : World) : (Go.binOp .eql 43 (.func (.func K) #[] #[]) .nilFunc).run Try.prog w = .ok (.bool false) w := by kernel_rfl
theorem eql_nil (w : World) : (Go.binOp .eql 43 .nilFunc .nilFunc).run Try.prog w = .ok (.bool true) w := by kernel_rfl
theorem eql_func1 (K : Nat) (w : World) : (Go.binOp .eql 38 (.func (.func K) #[] #[]) .nilFunc).run Try.prog w = .ok (.bool false) w := by kernel_rfl
theorem eql_nil1 (w : World) : (Go.binOp .eql 38 .nilFunc .nilFunc).run Try.prog w = .ok (.bool true) w := by kernel_rfl

set_option maxRecDepth 100000 in
theorem binary_ok (op v x n f : Int) (K : Nat) (w : World)
    (hK : ∀ (args : Array Value) (w : World), (callFunc K args).run Try.prog w = .ok (.enter K args) w)
    (hb : Hid (∀ w : World, Calls Try.prog 15 #[.int .i64 op] w fun e w' => e = .returned (.func (.func K) #[] #[]) ∧ Gr w w'))
    (ha : Hid (areB op [v, x] = true))
    (hf : Hid (∀ w : World, Calls Try.prog K #[.int .i64 v, .int .i64 x] w fun e w' => e = .returned (.tuple #[.int .i64 n, .int .i64 f]) ∧ Gr w w')) :
    Calls Try.prog 8 #[.int .i64 op, .int .i64 v, .int .i64 x] w fun e w' => e = .returned (.tuple #[.int .i64 (wrap32 n), .int .i64 f, .int .i64 0]) ∧ Gr w w' := by
  have hne := eql_func K
  go_enter Try.func8, Try.ntmps8
  go_wp2_with fail
  refine (hb.out _).mono ?_
  rintro e w1 ⟨rfl, hg1⟩
  go_wp2_with fail
  refine (areOperands_c op _ 2 2 [v, x] _ rfl (by decide) (pair_cell w1 v x)).mono ?_
  rintro e w' ⟨rfl, rfl⟩
  rw [ha.out]
  go_wp2_with fail
  refine (hf.out _).mono ?_
  rintro e w2 ⟨rfl, hg2⟩
  go_wp2_with fail
  refine (wrap_c n _).mono ?_
  rintro e w' ⟨rfl, rfl⟩
  go_wp2_with fail
  go_ret3
  exact ⟨rfl, (hg1.cells _ _).trans hg2⟩
theorem enter_42 : ∀ (args : Array Value) (w : World), (callFunc 42 args).run Try.prog w = .ok (.enter 42 args) w := fun _ _ => by kernel_rfl
theorem enter_43 : ∀ (args : Array Value) (w : World), (callFunc 43 args).run Try.prog w = .ok (.enter 43 args) w := fun _ _ => by kernel_rfl
theorem enter_44 : ∀ (args : Array Value) (w : World), (callFunc 44 args).run Try.prog w = .ok (.enter 44 args) w := fun _ _ => by kernel_rfl
theorem enter_45 : ∀ (args : Array Value) (w : World), (callFunc 45 args).run Try.prog w = .ok (.enter 45 args) w := fun _ _ => by kernel_rfl
theorem enter_47 : ∀ (args : Array Value) (w : World), (callFunc 47 args).run Try.prog w = .ok (.enter 47 args) w := fun _ _ => by kernel_rfl
theorem enter_48 : ∀ (args : Array Value) (w : World), (callFunc 48 args).run Try.prog w = .ok (.enter 48 args) w := fun _ _ => by kernel_rfl
theorem enter_49 : ∀ (args : Array Value) (w : World), (callFunc 49 args).run Try.prog w = .ok (.enter 49 args) w := fun _ _ => by kernel_rfl
theorem enter_50 : ∀ (args : Array Value) (w : World), (callFunc 50 args).run Try.prog w = .ok (.enter 50 args) w := fun _ _ => by kernel_rfl
theorem enter_51 : ∀ (args : Array Value) (w : World), (callFunc 51 args).run Try.prog w = .ok (.enter 51 args) w := fun _ _ => by kernel_rfl
theorem enter_52 : ∀ (args : Array Value) (w : World), (callFunc 52 args).run Try.prog w = .ok (.enter 52 args) w := fun _ _ => by kernel_rfl
theorem enter_53 : ∀ (args : Array Value) (w : World), (callFunc 53 args).run Try.prog w = .ok (.enter 53 args) w := fun _ _ => by kernel_rfl
theorem enter_54 : ∀ (args : Array Value) (w : World), (callFunc 54 args).run Try.prog w = .ok (.enter 54 args) w := fun _ _ => by kernel_rfl
theorem enter_55 : ∀ (args : Array Value) (w : World), (callFunc 55 args).run Try.prog w = .ok (.enter 55 args) w := fun _ _ => by kernel_rfl
theorem enter_58 : ∀ (args : Array Value) (w : World), (callFunc 58 args).run Try.prog w = .ok (.enter 58 args) w := fun _ _ => by kernel_rfl
theorem enter_76 : ∀ (args : Array Value) (w : World), (callFunc 76 args).run Try.prog w = .ok (.enter 76 args) w := fun _ _ => by kernel_rfl
theorem enter_77 : ∀ (args : Array Value) (w : World), (callFunc 77 args).run Try.prog w = .ok (.enter 77 args) w := fun _ _ => by kernel_rfl
theorem enter_27 : ∀ (args : Array Value) (w : World), (callFunc 27 args).run Try.prog w = .ok (.enter 27 args) w := fun _ _ => by kernel_rfl
theorem enter_28 : ∀ (args : Array Value) (w : World), (callFunc 28 args).run Try.prog w = .ok (.enter 28 args) w := fun _ _ => by kernel_rfl
theorem enter_29 : ∀ (args : Array Value) (w : World), (callFunc 29 args).run Try.prog w = .ok (.enter 29 args) w := fun _ _ => by kernel_rfl
theorem enter_30 : ∀ (args : Array Value) (w : World), (callFunc 30 args).run Try.prog w = .ok (.enter 30 args) w := fun _ _ => by kernel_rfl
theorem enter_31 : ∀ (args : Array Value) (w : World), (callFunc 31 args).run Try.prog w = .ok (.enter 31 args) w := fun _ _ => by kernel_rfl
theorem enter_32 : ∀ (args : Array Value) (w : World), (callFunc 32 args).run Try.prog w = .ok (.enter 32 args) w := fun _ _ => by kernel_rfl
theorem enter_34 : ∀ (args : Array Value) (w : World), (callFunc 34 args).run Try.prog w = .ok (.enter 34 args) w := fun _ _ => by kernel_rfl
theorem enter_35 : ∀ (args : Array Value) (w : World), (callFunc 35 args).run Try.prog w = .ok (.enter 35 args) w := fun _ _ => by kernel_rfl
theorem wrap32_oneOf (b : Bool) : wrap32 (oneOf b) = oneOf b := by cases b <;> kernel_rfl
theorem are_val {op v x : Int} (hl : logB op = false) (hv : valB v = true) (hx : valB x = true) : areB op [v, x] = true := by simp [areB_two, hl, hv, hx]
theorem are_bit {op v x : Int} (hv : bitB v = true) (hx : bitB x = true) : areB op [v, x] = true := by
  rcases bit_cases hv with rfl | rfl <;> rcases bit_cases hx with rfl | rfl <;> simp [areB_two, valB, bitB]
theorem val_bd {v : Int} (h : valB v = true) : -2147483648 ≤ v ∧ v ≤ 2147483647 := by simpa [valB] using h
theorem val_mk {v : Int} (h : -2147483648 ≤ v ∧ v ≤ 2147483647) : valB v = true := by simpa [valB] using h

theorem bin_8 (v x : Int) (w : World) (hv : bitB v = true) (hx : bitB x = true) :
    Calls Try.prog 8 #[.int .i64 8, .int .i64 v, .int .i64 x] w fun e w' => e = .returned (.tuple #[.int .i64 (max v x), .int .i64 0, .int .i64 0]) ∧ Gr w w' := by
  refine (binary_ok 8 v x (max v x) 0 42 w enter_42 (binaryOf_8) (are_bit hv hx) (fun w => (or_c v x w hv hx).mono fun e w' h => ⟨h.1, h.2 ▸ Gr.refl _⟩)).mono ?_
  rintro e w' ⟨rfl, h⟩
  refine ⟨?_, h⟩
  rcases bit_cases hv with rfl | rfl <;> rcases bit_cases hx with rfl | rfl <;> kernel_rfl
theorem bin_9 (v x : Int) (w : World) (hv : bitB v = true) (hx : bitB x = true) :
    Calls Try.prog 8 #[.int .i64 9, .int .i64 v, .int .i64 x] w fun e w' => e = .returned (.tuple #[.int .i64 ((v + x) % 2), .int .i64 0, .int .i64 0]) ∧ Gr w w' := by
  refine (binary_ok 9 v x ((v + x) % 2) 0 43 w enter_43 (binaryOf_9) (are_bit hv hx) (fun w => (xor_c v x w hv hx).mono fun e w' h => ⟨h.1, h.2 ▸ Gr.refl _⟩)).mono ?_
  rintro e w' ⟨rfl, h⟩
  refine ⟨?_, h⟩
  rcases bit_cases hv with rfl | rfl <;> rcases bit_cases hx with rfl | rfl <;> kernel_rfl
theorem bin_10 (v x : Int) (w : World) (hv : bitB v = true) (hx : bitB x = true) :
    Calls Try.prog 8 #[.int .i64 10, .int .i64 v, .int .i64 x] w fun e w' => e = .returned (.tuple #[.int .i64 (min v x), .int .i64 0, .int .i64 0]) ∧ Gr w w' := by
  refine (binary_ok 10 v x (min v x) 0 44 w enter_44 (binaryOf_10) (are_bit hv hx) (fun w => (and_c v x w hv hx).mono fun e w' h => ⟨h.1, h.2 ▸ Gr.refl _⟩)).mono ?_
  rintro e w' ⟨rfl, h⟩
  refine ⟨?_, h⟩
  rcases bit_cases hv with rfl | rfl <;> rcases bit_cases hx with rfl | rfl <;> kernel_rfl
theorem bin_11 (v x : Int) (w : World) (hv : valB v = true) (hx : valB x = true) :
    Calls Try.prog 8 #[.int .i64 11, .int .i64 v, .int .i64 x] w fun e w' => e = .returned (.tuple #[.int .i64 (oneOf (decide (v = x))), .int .i64 0, .int .i64 0]) ∧ Gr w w' := by
  refine (binary_ok 11 v x _ 0 45 w enter_45 (binaryOf_11) (are_val (by decide) hv hx) (fun w => cmp1_c v x w)).mono ?_
  rintro e w' ⟨rfl, h⟩
  exact ⟨by rw [wrap32_oneOf], h⟩
theorem bin_12 (v x : Int) (w : World) (hv : valB v = true) (hx : valB x = true) :
    Calls Try.prog 8 #[.int .i64 12, .int .i64 v, .int .i64 x] w fun e w' => e = .returned (.tuple #[.int .i64 (oneOf (decide (¬ v = x))), .int .i64 0, .int .i64 0]) ∧ Gr w w' := by
  refine (binary_ok 12 v x _ 0 47 w enter_47 (binaryOf_12) (are_val (by decide) hv hx) (fun w => cmp2_c v x w)).mono ?_
  rintro e w' ⟨rfl, h⟩
  exact ⟨by rw [wrap32_oneOf], h⟩
theorem bin_13 (v x : Int) (w : World) (hv : valB v = true) (hx : valB x = true) :
    Calls Try.prog 8 #[.int .i64 13, .int .i64 v, .int .i64 x] w fun e w' => e = .returned (.tuple #[.int .i64 (oneOf (decide (v < x))), .int .i64 0, .int .i64 0]) ∧ Gr w w' := by
  refine (binary_ok 13 v x _ 0 48 w enter_48 (binaryOf_13) (are_val (by decide) hv hx) (fun w => cmp3_c v x w)).mono ?_
  rintro e w' ⟨rfl, h⟩
  exact ⟨by rw [wrap32_oneOf], h⟩
theorem bin_14 (v x : Int) (w : World) (hv : valB v = true) (hx : valB x = true) :
    Calls Try.prog 8 #[.int .i64 14, .int .i64 v, .int .i64 x] w fun e w' => e = .returned (.tuple #[.int .i64 (oneOf (decide (v ≤ x))), .int .i64 0, .int .i64 0]) ∧ Gr w w' := by
  refine (binary_ok 14 v x _ 0 49 w enter_49 (binaryOf_14) (are_val (by decide) hv hx) (fun w => cmp4_c v x w)).mono ?_
  rintro e w' ⟨rfl, h⟩
  exact ⟨by rw [wrap32_oneOf], h⟩
theorem bin_15 (v x : Int) (w : World) (hv : valB v = true) (hx : valB x = true) :
    Calls Try.prog 8 #[.int .i64 15, .int .i64 v, .int .i64 x] w fun e w' => e = .returned (.tuple #[.int .i64 (oneOf (decide (x < v))), .int .i64 0, .int .i64 0]) ∧ Gr w w' := by
  refine (binary_ok 15 v x _ 0 50 w enter_50 (binaryOf_15) (are_val (by decide) hv hx) (fun w => cmp5_c v x w)).mono ?_
  rintro e w' ⟨rfl, h⟩
  exact ⟨by rw [wrap32_oneOf], h⟩
theorem bin_16 (v x : Int) (w : World) (hv : valB v = true) (hx : valB x = true) :
    Calls Try.prog 8 #[.int .i64 16, .int .i64 v, .int .i64 x] w fun e w' => e = .returned (.tuple #[.int .i64 (oneOf (decide (x ≤ v))), .int .i64 0, .int .i64 0]) ∧ Gr w w' := by
  refine (binary_ok 16 v x _ 0 51 w enter_51 (binaryOf_16) (are_val (by decide) hv hx) (fun w => cmp6_c v x w)).mono ?_
  rintro e w' ⟨rfl, h⟩
  exact ⟨by rw [wrap32_oneOf], h⟩
theorem bin_17 (v x : Int) (w : World) (hv : valB v = true) (hx : valB x = true) :
    Calls Try.prog 8 #[.int .i64 17, .int .i64 v, .int .i64 x] w fun e w' => e = .returned (.tuple #[.int .i64 (wrap32 (v + x)), .int .i64 0, .int .i64 0]) ∧ Gr w w' :=
  binary_ok 17 v x _ 0 52 w enter_52 (binaryOf_17) (are_val (by decide) hv hx) (fun w => (add_c v x w (val_bd hv) (val_bd hx)).mono fun e w' h => ⟨h.1, h.2 ▸ Gr.refl _⟩)
theorem bin_18 (v x : Int) (w : World) (hv : valB v = true) (hx : valB x = true) :
    Calls Try.prog 8 #[.int .i64 18, .int .i64 v, .int .i64 x] w fun e w' => e = .returned (.tuple #[.int .i64 (wrap32 (v - x)), .int .i64 0, .int .i64 0]) ∧ Gr w w' :=
  binary_ok 18 v x _ 0 53 w enter_53 (binaryOf_18) (are_val (by decide) hv hx) (fun w => (sub_c v x w (val_bd hv) (val_bd hx)).mono fun e w' h => ⟨h.1, h.2 ▸ Gr.refl _⟩)
theorem wrap32_wrap64 (n : Int) : wrap32 (wrap64 n) = wrap32 n := by unfold wrap32 wrap64; omega
theorem bin_19 (v x : Int) (w : World) (hv : valB v = true) (hx : valB x = true) :
    Calls Try.prog 8 #[.int .i64 19, .int .i64 v, .int .i64 x] w fun e w' => e = .returned (.tuple #[.int .i64 (wrap32 (v * x)), .int .i64 0, .int .i64 0]) ∧ Gr w w' := by
  refine (binary_ok 19 v x _ 0 54 w enter_54 (binaryOf_19) (are_val (by decide) hv hx) (fun w => (mul_c v x w).mono fun e w' h => ⟨h.1, h.2 ▸ Gr.refl _⟩)).mono ?_
  rintro e w' ⟨rfl, h⟩
  exact ⟨by rw [wrap32_wrap64], h⟩
theorem bin_20 (v x : Int) (w : World) (hv : valB v = true) (hx : valB x = true) (h0 : ¬ x = 0) :
    Calls Try.prog 8 #[.int .i64 20, .int .i64 v, .int .i64 x] w fun e w' => e = .returned (.tuple #[.int .i64 (wrap32 (v.tdiv x)), .int .i64 0, .int .i64 0]) ∧ Gr w w' := by
  refine (binary_ok 20 v x _ 0 55 w enter_55 (binaryOf_20) (are_val (by decide) hv hx) (fun w => quo_c v x w h0)).mono ?_
  rintro e w' ⟨rfl, h⟩
  exact ⟨by rw [wrap32_wrap64], h⟩
theorem bin_21 (v x : Int) (w : World) (hv : valB v = true) (hx : valB x = true) (h0 : ¬ x = 0) :
    Calls Try.prog 8 #[.int .i64 21, .int .i64 v, .int .i64 x] w fun e w' => e = .returned (.tuple #[.int .i64 (wrap32 (v.tmod x)), .int .i64 0, .int .i64 0]) ∧ Gr w w' :=
  binary_ok 21 v x _ 0 58 w enter_58 (binaryOf_21) (are_val (by decide) hv hx) (fun w => rem_c v x w h0)
theorem bin_20_0 (v : Int) (w : World) (hv : valB v = true) :
    Calls Try.prog 8 #[.int .i64 20, .int .i64 v, .int .i64 0] w fun e w' => e = .returned (.tuple #[.int .i64 0, .int .i64 1, .int .i64 0]) ∧ Gr w w' :=
  (binary_ok 20 v 0 0 1 55 w enter_55 (binaryOf_20) (are_val (by decide) hv (by decide)) (fun w => quo0_c v w)).mono fun e w' h => ⟨h.1.trans (by kernel_rfl), h.2⟩
theorem bin_21_0 (v : Int) (w : World) (hv : valB v = true) :
    Calls Try.prog 8 #[.int .i64 21, .int .i64 v, .int .i64 0] w fun e w' => e = .returned (.tuple #[.int .i64 0, .int .i64 1, .int .i64 0]) ∧ Gr w w' :=
  (binary_ok 21 v 0 0 1 58 w enter_58 (binaryOf_21) (are_val (by decide) hv (by decide)) (fun w => rem0_c v w)).mono fun e w' h => ⟨h.1.trans (by kernel_rfl), h.2⟩
end Go.Proofs.Ytgldbeacjacbcaa
