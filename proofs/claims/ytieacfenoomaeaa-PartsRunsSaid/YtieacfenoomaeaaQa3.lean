import Derived.Test.YtieacfenoomaeaaQa2
import Derived.Laws.Rows
set_option linter.unusedSimpArgs false
set_option linter.unusedVariables false
namespace Go.Proofs.Ytieacfenoomaeaa
open Go.RowKit

/-- A frame. -/
structure F6 where
  a : Int
  b : Int
  c : Int
  d : Int
  e : Int
  f : Int
def F6.v (x : F6) : Value := fr x.a x.b x.c x.d x.e x.f
def F6.cells (x : F6) : Array Value := frCells x.a x.b x.c x.d x.e x.f
def srF (x : F6) (now : Int) : F6 := { x with c := oneOf (x.a == 1 || (x.b == 0 && x.c == 1)) }
def rsF (x : F6) (now : Int) : F6 := { x with c := oneOf (x.b == 0 && (x.a == 1 || x.c == 1)) }
def rtrigF (x : F6) (now : Int) : F6 := { x with b := oneOf (x.a == 1 && x.c == 0), c := x.a }
def ftrigF (x : F6) (now : Int) : F6 := { x with b := oneOf (x.a == 0 && x.c == 1), c := x.a }
/-- What a block's execution gives. -/
def FrRes (x : F6) (w : World) (r : Ending) (w' : World) : Prop := r = .returned x.v ∧ Kp [] w w'


set_option maxRecDepth 100000 in
set_option maxHeartbeats 1000000 in
theorem sr_c (x : F6) (now : Int) (w : World) : Calls Try.prog 54 #[x.v, .int .i64 now] w (FrRes (srF x now) w) := by
  obtain ⟨a, b, c, d, e, f⟩ := x
  unfold F6.v fr
  go_enter Try.func54, Try.ntmps54
  go_wp2_with (go_at_call 73; refine (truth_c _ _).mono ?_; rintro r w2 ⟨rfl, rfl⟩)
  all_goals
    refine bodyPost_ret (results_cell_row rfl _ _ (w.heap.size + 1) 65 _ (0, 0) _ rfl (heap_alloc2_new w _ _) Try.underlying65 rfl (by kernel_rfl)) rfl ?_
    refine ⟨?_, ((Kp.refl [] w).alloc _).alloc _⟩
    simp [srF, F6.v, fr, *]
    try (congr 1; rw [Bool.eq_iff_iff]; simp; try omega)
set_option maxRecDepth 100000 in
set_option maxHeartbeats 1000000 in
theorem rs_c (x : F6) (now : Int) (w : World) : Calls Try.prog 55 #[x.v, .int .i64 now] w (FrRes (rsF x now) w) := by
  obtain ⟨a, b, c, d, e, f⟩ := x
  unfold F6.v fr
  go_enter Try.func55, Try.ntmps55
  go_wp2_with (go_at_call 73; refine (truth_c _ _).mono ?_; rintro r w2 ⟨rfl, rfl⟩)
  all_goals
    refine bodyPost_ret (results_cell_row rfl _ _ (w.heap.size + 1) 65 _ (0, 0) _ rfl (heap_alloc2_new w _ _) Try.underlying65 rfl (by kernel_rfl)) rfl ?_
    refine ⟨?_, ((Kp.refl [] w).alloc _).alloc _⟩
    simp [rsF, F6.v, fr, *]
    try (congr 1; rw [Bool.eq_iff_iff]; simp; try omega)
set_option maxRecDepth 100000 in
set_option maxHeartbeats 1000000 in
theorem rtrig_c (x : F6) (now : Int) (w : World) : Calls Try.prog 56 #[x.v, .int .i64 now] w (FrRes (rtrigF x now) w) := by
  obtain ⟨a, b, c, d, e, f⟩ := x
  unfold F6.v fr
  go_enter Try.func56, Try.ntmps56
  go_wp2_with (go_at_call 73; refine (truth_c _ _).mono ?_; rintro r w2 ⟨rfl, rfl⟩)
  all_goals
    refine bodyPost_ret (results_cell_row rfl _ _ (w.heap.size + 1) 65 _ (0, 0) _ rfl (heap_alloc2_new w _ _) Try.underlying65 rfl (by kernel_rfl)) rfl ?_
    refine ⟨?_, ((Kp.refl [] w).alloc _).alloc _⟩
    simp [rtrigF, F6.v, fr, *]
    try (congr 1; rw [Bool.eq_iff_iff]; simp; try omega)
set_option maxRecDepth 100000 in
set_option maxHeartbeats 1000000 in
theorem ftrig_c (x : F6) (now : Int) (w : World) : Calls Try.prog 57 #[x.v, .int .i64 now] w (FrRes (ftrigF x now) w) := by
  obtain ⟨a, b, c, d, e, f⟩ := x
  unfold F6.v fr
  go_enter Try.func57, Try.ntmps57
  go_wp2_with (go_at_call 73; refine (truth_c _ _).mono ?_; rintro r w2 ⟨rfl, rfl⟩)
  all_goals
    refine bodyPost_ret (results_cell_row rfl _ _ (w.heap.size + 1) 65 _ (0, 0) _ rfl (heap_alloc2_new w _ _) Try.underlying65 rfl (by kernel_rfl)) rfl ?_
    refine ⟨?_, ((Kp.refl [] w).alloc _).alloc _⟩
    simp [ftrigF, F6.v, fr, *]
    try (congr 1; rw [Bool.eq_iff_iff]; simp; try omega)

def ctuF (x : F6) (now : Int) : F6 :=
  let cv := if x.b = 1 then 0 else if x.a = 1 ∧ x.f = 0 ∧ x.e < 2147483647 then x.e + 1 else x.e
  { x with e := cv, f := x.a, d := oneOf (decide (x.c ≤ cv)) }
def ctdF (x : F6) (now : Int) : F6 :=
  let cv := if x.b = 1 then x.c else if x.a = 1 ∧ x.f = 0 ∧ -2147483648 < x.e then x.e - 1 else x.e
  { x with e := cv, f := x.a, d := oneOf (decide (cv ≤ 0)) }
set_option maxRecDepth 100000 in
set_option maxHeartbeats 1000000 in
theorem ctu_c (x : F6) (now : Int) (w : World) (he : -2147483648 ≤ x.e ∧ x.e ≤ 2147483647) : Calls Try.prog 52 #[x.v, .int .i64 now] w (FrRes (ctuF x now) w) := by
  obtain ⟨a, b, c, d, e, f⟩ := x
  replace he : -2147483648 ≤ e ∧ e ≤ 2147483647 := he
  have hw : IntKind.i64.wrap (e + 1) = e + 1 := IntWalk.i64_in _ (by omega)
  have hw2 : wrap64 (e + 1) = e + 1 := IntWalk.wrap64_in _ (by omega)
  replace he := Lib.hid he
  unfold F6.v fr
  go_enter Try.func52, Try.ntmps52
  go_wp2_with (go_at_call 73; refine (truth_c _ _).mono ?_; rintro r w2 ⟨rfl, rfl⟩)
  all_goals
    refine bodyPost_ret (results_cell_row rfl _ _ (w.heap.size + 1) 65 _ (0, 0) _ rfl (heap_alloc2_new w _ _) Try.underlying65 rfl (by kernel_rfl)) rfl ?_
    refine ⟨?_, ((Kp.refl [] w).alloc _).alloc _⟩
    try simp only [beq_iff_eq, beq_eq_false_iff_ne, ne_eq] at *
    simp [ctuF, F6.v, fr, *]
    try (have h9 : ¬ e < 2147483647 := by omega)
    try (have h9 : ¬ -2147483648 < e := by omega)
    try simp [*]
set_option maxRecDepth 100000 in
set_option maxHeartbeats 1000000 in
theorem ctd_c (x : F6) (now : Int) (w : World) (he : -2147483648 ≤ x.e ∧ x.e ≤ 2147483647) : Calls Try.prog 53 #[x.v, .int .i64 now] w (FrRes (ctdF x now) w) := by
  obtain ⟨a, b, c, d, e, f⟩ := x
  replace he : -2147483648 ≤ e ∧ e ≤ 2147483647 := he
  have hw : IntKind.i64.wrap (e - 1) = e - 1 := IntWalk.i64_in _ (by omega)
  have hw2 : wrap64 (e - 1) = e - 1 := IntWalk.wrap64_in _ (by omega)
  replace he := Lib.hid he
  unfold F6.v fr
  go_enter Try.func53, Try.ntmps53
  go_wp2_with (go_at_call 73; refine (truth_c _ _).mono ?_; rintro r w2 ⟨rfl, rfl⟩)
  all_goals
    refine bodyPost_ret (results_cell_row rfl _ _ (w.heap.size + 1) 65 _ (0, 0) _ rfl (heap_alloc2_new w _ _) Try.underlying65 rfl (by kernel_rfl)) rfl ?_
    refine ⟨?_, ((Kp.refl [] w).alloc _).alloc _⟩
    try simp only [beq_iff_eq, beq_eq_false_iff_ne, ne_eq] at *
    simp [ctdF, F6.v, fr, *]
    try (have h9 : ¬ e < 2147483647 := by omega)
    try (have h9 : ¬ -2147483648 < e := by omega)
    try simp [*]
end Go.Proofs.Ytieacfenoomaeaa
