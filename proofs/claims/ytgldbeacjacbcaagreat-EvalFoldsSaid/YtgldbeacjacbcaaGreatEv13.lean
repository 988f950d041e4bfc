import Derived.Test.YtgldbeacjacbcaaGreatEv12
namespace Go.Proofs.YtgldbeacjacbcaaGreat
open Go.RowKit

set_option maxRecDepth 100000 in
theorem not_c (v : Int) (w : World) (hv : bitB v = true) :
    Calls Tryz.prog 98 #[.int .i64 v] w fun e w' => e = .returned (.int .i64 (1 - v)) ∧ Gr w w' := by
  rcases bit_cases hv with rfl | rfl
  all_goals
    clear hv
    go_enter Tryz.func98, Tryz.ntmps98
    go_wp2_with fail
    go_ret
    exact ⟨by kernel_rfl, Gr.refl _⟩
set_option maxRecDepth 100000 in
theorem neg_c (v : Int) (w : World) (hv : valB v = true) :
    Calls Tryz.prog 99 #[.int .i64 v] w fun e w' => e = .returned (.int .i64 (-v)) ∧ Gr w w' := by
  obtain ⟨h1, h2⟩ := val_bd hv
  have hw : wrap64 (-v) = -v := IntWalk.wrap64_in _ (by omega)
  clear hv
  go_enter Tryz.func99, Tryz.ntmps99
  go_wp2_with fail
  go_ret
  exact ⟨rfl, Gr.refl _⟩
theorem one_cell1 (w : World) (o : Obj) (v : Int) (j : Nat) (hj : j < ([v] : List Int).length) : ((w.alloc o).alloc (.cells #[.int .i64 v] 3)).cell? ⟨w.heap.size + 1, j, none⟩ = some (.int .i64 (([v] : List Int).getD j 0)) := by
  have h := one_cell (w.alloc o) v j hj
  rw [World.size_alloc] at h
  exact h
set_option maxRecDepth 100000 in
theorem unary_ok (op v n : Int) (i K : Nat) (w : World)
    (hK : ∀ (args : Array Value) (w : World), (callFunc K args).run Tryz.prog w = .ok (.enter K args) w)
    (hfind : Instr.findNow (.int .i64) (.int .i64 op) unE.toList 0 = some (some (i, .func (.func K) #[] #[])))
    (ha : Hid (areB op [v] = true))
    (hf : Hid (∀ w : World, Calls Tryz.prog K #[.int .i64 v] w fun e w' => e = .returned (.int .i64 n) ∧ Gr w w')) :
    Calls Tryz.prog 84 #[.int .i64 op, .int .i64 v] w fun e w' => e = .returned (.tuple #[.int .i64 (wrap32 n), .int .i64 0]) ∧ Gr w w' := by
  have hne := eql_func1 K
  have hl := look_un w unE 2 op _ hfind
  unfold look0 at hl
  clear hfind
  go_enter Tryz.func84, Tryz.ntmps84
  go_wp2_with fail
  refine (unE_c _).mono ?_
  rintro e w1 ⟨rfl, rfl⟩
  go_wp2_with fail
  have hg := (Gr.refl w).map unE 2
  refine (areOperands_c op (w.heap.size + 1) 1 1 [v] _ rfl (by decide) (one_cell1 w _ v)).mono ?_
  rintro e w' ⟨rfl, rfl⟩
  rw [ha.out]
  go_wp2_with fail
  refine (hf.out _).mono ?_
  rintro e w2 ⟨rfl, hg2⟩
  go_wp2_with fail
  refine (wrap_c n _).mono ?_
  rintro e w' ⟨rfl, rfl⟩
  go_wp2_with fail
  go_ret2
  exact ⟨rfl, (hg.cells _ _).trans hg2⟩
theorem un_6 (v : Int) (w : World) (hv : bitB v = true) :
    Calls Tryz.prog 84 #[.int .i64 6, .int .i64 v] w fun e w' => e = .returned (.tuple #[.int .i64 (1 - v), .int .i64 0]) ∧ Gr w w' := by
  refine (unary_ok 6 v (1 - v) 0 98 w enter_98 (by kernel_rfl) ?_ (fun w => not_c v w hv)).mono ?_
  · show _ = _; rcases bit_cases hv with rfl | rfl <;> simp [areB_one, valB, bitB]
  · rintro e w' ⟨rfl, h⟩
    refine ⟨?_, h⟩
    rcases bit_cases hv with rfl | rfl <;> kernel_rfl
theorem un_7 (v : Int) (w : World) (hv : valB v = true) :
    Calls Tryz.prog 84 #[.int .i64 7, .int .i64 v] w fun e w' => e = .returned (.tuple #[.int .i64 (wrap32 (-v)), .int .i64 0]) ∧ Gr w w' :=
  unary_ok 7 v (-v) 1 99 w enter_99 (by kernel_rfl) (by show _ = _; simp [areB_one, logB, hv]) (fun w => neg_c v w hv)
set_option maxRecDepth 100000 in
theorem unary_none (op v : Int) (w : World) (hfind : Instr.findNow (.int .i64) (.int .i64 op) unE.toList 0 = some none) :
    Calls Tryz.prog 84 #[.int .i64 op, .int .i64 v] w fun e w' => e = .returned (.tuple #[.int .i64 0, .int .i64 2]) ∧ Gr w w' := by
  have hne := eql_nil1
  have hl := look_un w unE 2 op _ hfind
  unfold look0 at hl
  clear hfind
  go_enter Tryz.func84, Tryz.ntmps84
  go_wp2_with fail
  refine (unE_c _).mono ?_
  rintro e w1 ⟨rfl, rfl⟩
  go_wp2_with fail
  go_ret2
  exact ⟨rfl, (Gr.refl w).map unE 2⟩
set_option maxRecDepth 100000 in
theorem unary_bad (op v : Int) (i K : Nat) (w : World)
    (hfind : Instr.findNow (.int .i64) (.int .i64 op) unE.toList 0 = some (some (i, .func (.func K) #[] #[])))
    (ha : Hid (areB op [v] = false)) :
    Calls Tryz.prog 84 #[.int .i64 op, .int .i64 v] w fun e w' => e = .returned (.tuple #[.int .i64 0, .int .i64 2]) ∧ Gr w w' := by
  have hne := eql_func1 K
  have hl := look_un w unE 2 op _ hfind
  unfold look0 at hl
  clear hfind
  go_enter Tryz.func84, Tryz.ntmps84
  go_wp2_with fail
  refine (unE_c _).mono ?_
  rintro e w1 ⟨rfl, rfl⟩
  go_wp2_with fail
  have hg := (Gr.refl w).map unE 2
  refine (areOperands_c op (w.heap.size + 1) 1 1 [v] _ rfl (by decide) (one_cell1 w _ v)).mono ?_
  rintro e w' ⟨rfl, rfl⟩
  rw [ha.out]
  go_wp2_with fail
  go_ret2
  exact ⟨rfl, hg.cells _ _⟩
set_option maxRecDepth 100000 in
theorem binary_none (op v x : Int) (w : World)
    (hb : Hid (∀ w : World, Calls Tryz.prog 23 #[.int .i64 op] w fun e w' => e = .returned .nilFunc ∧ Gr w w')) :
    Calls Tryz.prog 10 #[.int .i64 op, .int .i64 v, .int .i64 x] w fun e w' => e = .returned (.tuple #[.int .i64 0, .int .i64 0, .int .i64 2]) ∧ Gr w w' := by
  have hne := eql_nil
  go_enter Tryz.func10, Tryz.ntmps10
  go_wp2_with fail
  refine (hb.out _).mono ?_
  rintro e w1 ⟨rfl, hg1⟩
  go_wp2_with fail
  go_ret3
  exact ⟨rfl, hg1⟩
set_option maxRecDepth 100000 in
theorem binary_bad (op v x : Int) (K : Nat) (w : World)
    (hb : Hid (∀ w : World, Calls Tryz.prog 23 #[.int .i64 op] w fun e w' => e = .returned (.func (.func K) #[] #[]) ∧ Gr w w'))
    (ha : Hid (areB op [v, x] = false)) :
    Calls Tryz.prog 10 #[.int .i64 op, .int .i64 v, .int .i64 x] w fun e w' => e = .returned (.tuple #[.int .i64 0, .int .i64 0, .int .i64 2]) ∧ Gr w w' := by
  have hne := eql_func K
  go_enter Tryz.func10, Tryz.ntmps10
  go_wp2_with fail
  refine (hb.out _).mono ?_
  rintro e w1 ⟨rfl, hg1⟩
  go_wp2_with fail
  refine (areOperands_c op _ 2 2 [v, x] _ rfl (by decide) (pair_cell w1 v x)).mono ?_
  rintro e w' ⟨rfl, rfl⟩
  rw [ha.out]
  go_wp2_with fail
  go_ret3
  exact ⟨rfl, hg1.cells _ _⟩
set_option maxRecDepth 100000 in
theorem binaryOf_lo (op : Int) (w : World) (hop : op ≤ 10 ∧ ¬ (8 ≤ op)) : Calls Tryz.prog 23 #[.int .i64 op] w fun e w' => e = .returned .nilFunc ∧ Gr w w' := by
  have hfind : Instr.findNow (.int .i64) (.int .i64 op) logE.toList 0 = some none := by
    refine find_int op _ 0 ?_
    intro e he
    simp [logE] at he
    rcases he with h | h | h <;> (subst h; exact ⟨_, rfl, by omega⟩)
  have hl := fun w : World => look_bin w logE 3 op _ hfind
  unfold look0 at hl
  clear hfind
  obtain ⟨h1, h2⟩ := hop
  have h16 : Hid (op ≤ 16 ∨ ¬ op ≤ 10) := by show _ ∨ _; omega
  first | (have g10 : ¬ op ≤ 10 := by omega) | skip
  go_enter Tryz.func23, Tryz.ntmps23
  go_wp2_with fail
  refine (logE_c _).mono ?_
  rintro e w' ⟨rfl, rfl⟩
  go_wp2_with fail
  go_ret
  exact ⟨rfl, (Gr.refl _).map _ _⟩
set_option maxRecDepth 100000 in
theorem binaryOf_hi (op : Int) (w : World) (hop : ¬ op ≤ 16 ∧ 22 ≤ op) : Calls Tryz.prog 23 #[.int .i64 op] w fun e w' => e = .returned .nilFunc ∧ Gr w w' := by
  have hfind : Instr.findNow (.int .i64) (.int .i64 op) calE.toList 0 = some none := by
    refine find_int op _ 0 ?_
    intro e he
    simp [calE] at he
    rcases he with h | h | h | h | h <;> (subst h; exact ⟨_, rfl, by omega⟩)
  have hl := fun w : World => look_bin w calE 5 op _ hfind
  unfold look0 at hl
  clear hfind
  obtain ⟨h1, h2⟩ := hop
  have h16 : Hid (op ≤ 16 ∨ ¬ op ≤ 10) := by show _ ∨ _; omega
  first | (have g10 : ¬ op ≤ 10 := by omega) | skip
  go_enter Tryz.func23, Tryz.ntmps23
  go_wp2_with fail
  refine (calE_c _).mono ?_
  rintro e w' ⟨rfl, rfl⟩
  go_wp2_with fail
  go_ret
  exact ⟨rfl, (Gr.refl _).map _ _⟩
end Go.Proofs.YtgldbeacjacbcaaGreat
