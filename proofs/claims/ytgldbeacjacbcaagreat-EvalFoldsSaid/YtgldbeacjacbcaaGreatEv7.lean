import Derived.Test.YtgldbeacjacbcaaGreatEv6
namespace Go.Proofs.YtgldbeacjacbcaaGreat
open Go.RowKit

theorem pair_cell (w : World) (v x : Int) (j : Nat) (hj : j < ([v, x] : List Int).length) : (w.alloc (.cells #[.int .i64 v, .int .i64 x] 3)).cell? ⟨w.heap.size, j, none⟩ = some (.int .i64 (([v, x] : List Int).getD j 0)) := by
  refine (Blk.new w 3 _).cell j ?_
  have hj2 : j = 0 ∨ j = 1 := by simp only [List.length_cons, List.length_nil] at hj; omega
  rcases hj2 with rfl | rfl <;> rfl
theorem one_cell (w : World) (v : Int) (j : Nat) (hj : j < ([v] : List Int).length) : (w.alloc (.cells #[.int .i64 v] 3)).cell? ⟨w.heap.size, j, none⟩ = some (.int .i64 (([v] : List Int).getD j 0)) := by
  refine (Blk.new w 3 _).cell j ?_
  have hj2 : j = 0 := by simp only [List.length_cons, List.length_nil] at hj; omega
  subst hj2; rfl
theorem areB_two (op v x : Int) : areB op [v, x] = ((valB v && (!logB op || bitB v)) && (valB x && (!logB op || bitB x))) := by simp [areB]
theorem areB_one (op v : Int) : areB op [v] = (valB v && (!logB op || bitB v)) := by simp [areB]

theorem eql_func (K : Nat) (w : World) : (Go.binOp .eql 54 (.func (.func K) #[] #[]) .nilFunc).run Tryz.prog w = .ok (.bool false) w := by kernel_rfl
theorem eql_nil (w : World) : (Go.binOp .eql 54 .nilFunc .nilFunc).run Tryz.prog w = .ok (.bool true) w := by kernel_rfl
theorem eql_func1 (K : Nat) (w : World) : (Go.binOp .eql 39 (.func (.func K) #[] #[]) .nilFunc).run Tryz.prog w = .ok (.bool false) w := by kernel_rfl
theorem eql_nil1 (w : World) : (Go.binOp .eql 39 .nilFunc .nilFunc).run Tryz.prog w = .ok (.bool true) w := by kernel_rfl

set_option maxRecDepth 100000 in
theorem binary_ok (op v x n f : Int) (K : Nat) (w : World)
    (hK : ∀ (args : Array Value) (w : World), (callFunc K args).run Tryz.prog w = .ok (.enter K args) w)
    (hb : Hid (∀ w : World, Calls Tryz.prog 23 #[.int .i64 op] w fun e w' => e = .returned (.func (.func K) #[] #[]) ∧ Gr w w'))
    (ha : Hid (areB op [v, x] = true))
    (hf : Hid (∀ w : World, Calls Tryz.prog K #[.int .i64 v, .int .i64 x] w fun e w' => e = .returned (.tuple #[.int .i64 n, .int .i64 f]) ∧ Gr w w')) :
    Calls Tryz.prog 10 #[.int .i64 op, .int .i64 v, .int .i64 x] w fun e w' => e = .returned (.tuple #[.int .i64 (wrap32 n), .int .i64 f, .int .i64 0]) ∧ Gr w w' := by
  have hne := eql_func K
  go_enter Tryz.func10, Tryz.ntmps10
  go_wp2_with fail
  refine (hb.out _).mono ?_
  rintro e w1 ⟨rfl, hg1⟩
  go_wp2_with fail
  refine (areOperands_c op _ 2 2 [v, x] _ rfl (by decide) (pair_cell w1 v x)).mono ?_
  rintro e w' ⟨rfl, rfl⟩
  rw [ha.out]
  go_wp2_with fail
  refine (hf.out _).mono ?_
  rintro e w2 ⟨rfl, hg2⟩
  go_wp2_with fail
  refine (wrap_c n _).mono ?_
  rintro e w' ⟨rfl, rfl⟩
  go_wp2_with fail
  go_ret3
  exact ⟨rfl, (hg1.cells _ _).trans hg2⟩
theorem enter_62 : ∀ (args : Array Value) (w : World), (callFunc 62 args).run Tryz.prog w = .ok (.enter 62 args) w := fun _ _ => by kernel_rfl
theorem enter_63 : ∀ (args : Array Value) (w : World), (callFunc 63 args).run Tryz.prog w = .ok (.enter 63 args) w := fun _ _ => by kernel_rfl
theorem enter_64 : ∀ (args : Array Value) (w : World), (callFunc 64 args).run Tryz.prog w = .ok (.enter 64 args) w := fun _ _ => by kernel_rfl
theorem enter_65 : ∀ (args : Array Value) (w : World), (callFunc 65 args).run Tryz.prog w = .ok (.enter 65 args) w := fun _ _ => by kernel_rfl
theorem enter_67 : ∀ (args : Array Value) (w : World), (callFunc 67 args).run Tryz.prog w = .ok (.enter 67 args) w := fun _ _ => by kernel_rfl
theorem enter_68 : ∀ (args : Array Value) (w : World), (callFunc 68 args).run Tryz.prog w = .ok (.enter 68 args) w := fun _ _ => by kernel_rfl
theorem enter_69 : ∀ (args : Array Value) (w : World), (callFunc 69 args).run Tryz.prog w = .ok (.enter 69 args) w := fun _ _ => by kernel_rfl
theorem enter_70 : ∀ (args : Array Value) (w : World), (callFunc 70 args).run Tryz.prog w = .ok (.enter 70 args) w := fun _ _ => by kernel_rfl
theorem enter_71 : ∀ (args : Array Value) (w : World), (callFunc 71 args).run Tryz.prog w = .ok (.enter 71 args) w := fun _ _ => by kernel_rfl
theorem enter_72 : ∀ (args : Array Value) (w : World), (callFunc 72 args).run Tryz.prog w = .ok (.enter 72 args) w := fun _ _ => by kernel_rfl
theorem enter_73 : ∀ (args : Array Value) (w : World), (callFunc 73 args).run Tryz.prog w = .ok (.enter 73 args) w := fun _ _ => by kernel_rfl
theorem enter_74 : ∀ (args : Array Value) (w : World), (callFunc 74 args).run Tryz.prog w = .ok (.enter 74 args) w := fun _ _ => by kernel_rfl
theorem enter_75 : ∀ (args : Array Value) (w : World), (callFunc 75 args).run Tryz.prog w = .ok (.enter 75 args) w := fun _ _ => by kernel_rfl
theorem enter_78 : ∀ (args : Array Value) (w : World), (callFunc 78 args).run Tryz.prog w = .ok (.enter 78 args) w := fun _ _ => by kernel_rfl
theorem enter_98 : ∀ (args : Array Value) (w : World), (callFunc 98 args).run Tryz.prog w = .ok (.enter 98 args) w := fun _ _ => by kernel_rfl
theorem enter_99 : ∀ (args : Array Value) (w : World), (callFunc 99 args).run Tryz.prog w = .ok (.enter 99 args) w := fun _ _ => by kernel_rfl
theorem enter_44 : ∀ (args : Array Value) (w : World), (callFunc 44 args).run Tryz.prog w = .ok (.enter 44 args) w := fun _ _ => by kernel_rfl
theorem enter_45 : ∀ (args : Array Value) (w : World), (callFunc 45 args).run Tryz.prog w = .ok (.enter 45 args) w := fun _ _ => by kernel_rfl
theorem enter_46 : ∀ (args : Array Value) (w : World), (callFunc 46 args).run Tryz.prog w = .ok (.enter 46 args) w := fun _ _ => by kernel_rfl
theorem enter_47 : ∀ (args : Array Value) (w : World), (callFunc 47 args).run Tryz.prog w = .ok (.enter 47 args) w := fun _ _ => by kernel_rfl
theorem enter_48 : ∀ (args : Array Value) (w : World), (callFunc 48 args).run Tryz.prog w = .ok (.enter 48 args) w := fun _ _ => by kernel_rfl
theorem enter_49 : ∀ (args : Array Value) (w : World), (callFunc 49 args).run Tryz.prog w = .ok (.enter 49 args) w := fun _ _ => by kernel_rfl
theorem enter_51 : ∀ (args : Array Value) (w : World), (callFunc 51 args).run Tryz.prog w = .ok (.enter 51 args) w := fun _ _ => by kernel_rfl
theorem enter_52 : ∀ (args : Array Value) (w : World), (callFunc 52 args).run Tryz.prog w = .ok (.enter 52 args) w := fun _ _ => by kernel_rfl
theorem wrap32_oneOf (b : Bool) : wrap32 (oneOf b) = oneOf b := by cases b <;> kernel_rfl
theorem are_val {op v x : Int} (hl : logB op = false) (hv : valB v = true) (hx : valB x = true) : areB op [v, x] = true := by simp [areB_two, hl, hv, hx]
theorem are_bit {op v x : Int} (hv : bitB v = true) (hx : bitB x = true) : areB op [v, x] = true := by
  rcases bit_cases hv with rfl | rfl <;> rcases bit_cases hx with rfl | rfl <;> simp [areB_two, valB, bitB]
theorem val_bd {v : Int} (h : valB v = true) : -2147483648 ≤ v ∧ v ≤ 2147483647 := by simpa [valB] using h
theorem val_mk {v : Int} (h : -2147483648 ≤ v ∧ v ≤ 2147483647) : valB v = true := by simpa [valB] using h

theorem bin_8 (v x : Int) (w : World) (hv : bitB v = true) (hx : bitB x = true) :
    Calls Tryz.prog 10 #[.int .i64 8, .int .i64 v, .int .i64 x] w fun e w' => e = .returned (.tuple #[.int .i64 (max v x), .int .i64 0, .int .i64 0]) ∧ Gr w w' := by
  refine (binary_ok 8 v x (max v x) 0 62 w enter_62 (binaryOf_8) (are_bit hv hx) (fun w => (or_c v x w hv hx).mono fun e w' h => ⟨h.1, h.2 ▸ Gr.refl _⟩)).mono ?_
  rintro e w' ⟨rfl, h⟩
  refine ⟨?_, h⟩
  rcases bit_cases hv with rfl | rfl <;> rcases bit_cases hx with rfl | rfl <;> kernel_rfl
theorem bin_9 (v x : Int) (w : World) (hv : bitB v = true) (hx : bitB x = true) :
    Calls Tryz.prog 10 #[.int .i64 9, .int .i64 v, .int .i64 x] w fun e w' => e = .returned (.tuple #[.int .i64 ((v + x) % 2), .int .i64 0, .int .i64 0]) ∧ Gr w w' := by
  refine (binary_ok 9 v x ((v + x) % 2) 0 63 w enter_63 (binaryOf_9) (are_bit hv hx) (fun w => (xor_c v x w hv hx).mono fun e w' h => ⟨h.1, h.2 ▸ Gr.refl _⟩)).mono ?_
  rintro e w' ⟨rfl, h⟩
  refine ⟨?_, h⟩
  rcases bit_cases hv with rfl | rfl <;> rcases bit_cases hx with rfl | rfl <;> kernel_rfl
theorem bin_10 (v x : Int) (w : World) (hv : bitB v = true) (hx : bitB x = true) :
    Calls Tryz.prog 10 #[.int .i64 10, .int .i64 v, .int .i64 x] w fun e w' => e = .returned (.tuple #[.int .i64 (min v x), .int .i64 0, .int .i64 0]) ∧ Gr w w' := by
  refine (binary_ok 10 v x (min v x) 0 64 w enter_64 (binaryOf_10) (are_bit hv hx) (fun w => (and_c v x w hv hx).mono fun e w' h => ⟨h.1, h.2 ▸ Gr.refl _⟩)).mono ?_
  rintro e w' ⟨rfl, h⟩
  refine ⟨?_, h⟩
  rcases bit_cases hv with rfl | rfl <;> rcases bit_cases hx with rfl | rfl <;> kernel_rfl
theorem bin_11 (v x : Int) (w : World) (hv : valB v = true) (hx : valB x = true) :
    Calls Tryz.prog 10 #[.int .i64 11, .int .i64 v, .int .i64 x] w fun e w' => e = .returned (.tuple #[.int .i64 (oneOf (decide (v = x))), .int .i64 0, .int .i64 0]) ∧ Gr w w' := by
  refine (binary_ok 11 v x _ 0 65 w enter_65 (binaryOf_11) (are_val (by decide) hv hx) (fun w => cmp1_c v x w)).mono ?_
  rintro e w' ⟨rfl, h⟩
  exact ⟨by rw [wrap32_oneOf], h⟩
theorem bin_12 (v x : Int) (w : World) (hv : valB v = true) (hx : valB x = true) :
    Calls Tryz.prog 10 #[.int .i64 12, .int .i64 v, .int .i64 x] w fun e w' => e = .returned (.tuple #[.int .i64 (oneOf (decide (¬ v = x))), .int .i64 0, .int .i64 0]) ∧ Gr w w' := by
  refine (binary_ok 12 v x _ 0 67 w enter_67 (binaryOf_12) (are_val (by decide) hv hx) (fun w => cmp2_c v x w)).mono ?_
  rintro e w' ⟨rfl, h⟩
  exact ⟨by rw [wrap32_oneOf], h⟩
theorem bin_13 (v x : Int) (w : World) (hv : valB v = true) (hx : valB x = true) :
    Calls Tryz.prog 10 #[.int .i64 13, .int .i64 v, .int .i64 x] w fun e w' => e = .returned (.tuple #[.int .i64 (oneOf (decide (v < x))), .int .i64 0, .int .i64 0]) ∧ Gr w w' := by
  refine (binary_ok 13 v x _ 0 68 w enter_68 (binaryOf_13) (are_val (by decide) hv hx) (fun w => cmp3_c v x w)).mono ?_
  rintro e w' ⟨rfl, h⟩
  exact ⟨by rw [wrap32_oneOf], h⟩
theorem bin_14 (v x : Int) (w : World) (hv : valB v = true) (hx : valB x = true) :
    Calls Tryz.prog 10 #[.int .i64 14, .int .i64 v, .int .i64 x] w fun e w' => e = .returned (.tuple #[.int .i64 (oneOf (decide (v ≤ x))), .int .i64 0, .int .i64 0]) ∧ Gr w w' := by
  refine (binary_ok 14 v x _ 0 69 w enter_69 (binaryOf_14) (are_val (by decide) hv hx) (fun w => cmp4_c v x w)).mono ?_
  rintro e w' ⟨rfl, h⟩
  exact ⟨by rw [wrap32_oneOf], h⟩
theorem bin_15 (v x : Int) (w : World) (hv : valB v = true) (hx : valB x = true) :
    Calls Tryz.prog 10 #[.int .i64 15, .int .i64 v, .int .i64 x] w fun e w' => e = .returned (.tuple #[.int .i64 (oneOf (decide (x < v))), .int .i64 0, .int .i64 0]) ∧ Gr w w' := by
  refine (binary_ok 15 v x _ 0 70 w enter_70 (binaryOf_15) (are_val (by decide) hv hx) (fun w => cmp5_c v x w)).mono ?_
  rintro e w' ⟨rfl, h⟩
  exact ⟨by rw [wrap32_oneOf], h⟩
theorem bin_16 (v x : Int) (w : World) (hv : valB v = true) (hx : valB x = true) :
    Calls Tryz.prog 10 #[.int .i64 16, .int .i64 v, .int .i64 x] w fun e w' => e = .returned (.tuple #[.int .i64 (oneOf (decide (x ≤ v))), .int .i64 0, .int .i64 0]) ∧ Gr w w' := by
  refine (binary_ok 16 v x _ 0 71 w enter_71 (binaryOf_16) (are_val (by decide) hv hx) (fun w => cmp6_c v x w)).mono ?_
  rintro e w' ⟨rfl, h⟩
  exact ⟨by rw [wrap32_oneOf], h⟩
theorem bin_17 (v x : Int) (w : World) (hv : valB v = true) (hx : valB x = true) :
    Calls Tryz.prog 10 #[.int .i64 17, .int .i64 v, .int .i64 x] w fun e w' => e = .returned (.tuple #[.int .i64 (wrap32 (v + x)), .int .i64 0, .int .i64 0]) ∧ Gr w w' :=
  binary_ok 17 v x _ 0 72 w enter_72 (binaryOf_17) (are_val (by decide) hv hx) (fun w => (add_c v x w (val_bd hv) (val_bd hx)).mono fun e w' h => ⟨h.1, h.2 ▸ Gr.refl _⟩)
theorem bin_18 (v x : Int) (w : World) (hv : valB v = true) (hx : valB x = true) :
    Calls Tryz.prog 10 #[.int .i64 18, .int .i64 v, .int .i64 x] w fun e w' => e = .returned (.tuple #[.int .i64 (wrap32 (v - x)), .int .i64 0, .int .i64 0]) ∧ Gr w w' :=
  binary_ok 18 v x _ 0 73 w enter_73 (binaryOf_18) (are_val (by decide) hv hx) (fun w => (sub_c v x w (val_bd hv) (val_bd hx)).mono fun e w' h => ⟨h.1, h.2 ▸ Gr.refl _⟩)
theorem wrap32_wrap64 (n : Int) : wrap32 (wrap64 n) = wrap32 n := by unfold wrap32 wrap64; omega
theorem bin_19 (v x : Int) (w : World) (hv : valB v = true) (hx : valB x = true) :
    Calls Tryz.prog 10 #[.int .i64 19, .int .i64 v, .int .i64 x] w fun e w' => e = .returned (.tuple #[.int .i64 (wrap32 (v * x)), .int .i64 0, .int .i64 0]) ∧ Gr w w' := by
  refine (binary_ok 19 v x _ 0 74 w enter_74 (binaryOf_19) (are_val (by decide) hv hx) (fun w => (mul_c v x w).mono fun e w' h => ⟨h.1, h.2 ▸ Gr.refl _⟩)).mono ?_
  rintro e w' ⟨rfl, h⟩
  exact ⟨by rw [wrap32_wrap64], h⟩
theorem bin_20 (v x : Int) (w : World) (hv : valB v = true) (hx : valB x = true) (h0 : ¬ x = 0) :
    Calls Tryz.prog 10 #[.int .i64 20, .int .i64 v, .int .i64 x] w fun e w' => e = .returned (.tuple #[.int .i64 (wrap32 (v.tdiv x)), .int .i64 0, .int .i64 0]) ∧ Gr w w' := by
  refine (binary_ok 20 v x _ 0 75 w enter_75 (binaryOf_20) (are_val (by decide) hv hx) (fun w => quo_c v x w h0)).mono ?_
  rintro e w' ⟨rfl, h⟩
  exact ⟨by rw [wrap32_wrap64], h⟩
theorem bin_21 (v x : Int) (w : World) (hv : valB v = true) (hx : valB x = true) (h0 : ¬ x = 0) :
    Calls Tryz.prog 10 #[.int .i64 21, .int .i64 v, .int .i64 x] w fun e w' => e = .returned (.tuple #[.int .i64 (wrap32 (v.tmod x)), .int .i64 0, .int .i64 0]) ∧ Gr w w' :=
  binary_ok 21 v x _ 0 78 w enter_78 (binaryOf_21) (are_val (by decide) hv hx) (fun w => rem_c v x w h0)
theorem bin_20_0 (v : Int) (w : World) (hv : valB v = true) :
    Calls Tryz.prog 10 #[.int .i64 20, .int .i64 v, .int .i64 0] w fun e w' => e = .returned (.tuple #[.int .i64 0, .int .i64 1, .int .i64 0]) ∧ Gr w w' :=
  (binary_ok 20 v 0 0 1 75 w enter_75 (binaryOf_20) (are_val (by decide) hv (by decide)) (fun w => quo0_c v w)).mono fun e w' h => ⟨h.1.trans (by kernel_rfl), h.2⟩
theorem bin_21_0 (v : Int) (w : World) (hv : valB v = true) :
    Calls Tryz.prog 10 #[.int .i64 21, .int .i64 v, .int .i64 0] w fun e w' => e = .returned (.tuple #[.int .i64 0, .int .i64 1, .int .i64 0]) ∧ Gr w w' :=
  (binary_ok 21 v 0 0 1 78 w enter_78 (binaryOf_21) (are_val (by decide) hv (by decide)) (fun w => rem0_c v w)).mono fun e w' h => ⟨h.1.trans (by kernel_rfl), h.2⟩
end Go.Proofs.YtgldbeacjacbcaaGreat
