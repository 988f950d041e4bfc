import Derived.Test.YtgldbeacjacbcaaGreatEv3
namespace Go.Proofs.YtgldbeacjacbcaaGreat
open Go.RowKit

def cmpE : Array MapEntry := #[⟨.int .i64 11, fnV 65, 0⟩, ⟨.int .i64 12, fnV 67, 1⟩, ⟨.int .i64 13, fnV 68, 2⟩, ⟨.int .i64 14, fnV 69, 3⟩, ⟨.int .i64 15, fnV 70, 4⟩, ⟨.int .i64 16, fnV 71, 5⟩]
def calE : Array MapEntry := #[⟨.int .i64 17, fnV 72, 0⟩, ⟨.int .i64 18, fnV 73, 1⟩, ⟨.int .i64 19, fnV 74, 2⟩, ⟨.int .i64 20, fnV 75, 3⟩, ⟨.int .i64 21, fnV 78, 4⟩]
set_option maxRecDepth 100000 in
theorem logE_c (w : World) :
    Calls Tryz.prog 40 #[] w fun e w' => e = .returned (.map (some w.heap.size)) ∧ w' = w.alloc (.map logE 3) := by
  have hmm := fun (t : TypeId) (w : World) => run_makeMap (P := Tryz.prog) t w
  go_enter Tryz.func40, Tryz.ntmps40
  go_wp2_with (rw [upd_bin w]; rotate_left; kernel_rfl)
  go_ret
  exact ⟨rfl, rfl⟩
set_option maxRecDepth 100000 in
theorem cmpE_c (w : World) :
    Calls Tryz.prog 41 #[] w fun e w' => e = .returned (.map (some w.heap.size)) ∧ w' = w.alloc (.map cmpE 6) := by
  have hmm := fun (t : TypeId) (w : World) => run_makeMap (P := Tryz.prog) t w
  go_enter Tryz.func41, Tryz.ntmps41
  go_wp2_with (rw [upd_bin w]; rotate_left; kernel_rfl)
  go_ret
  exact ⟨rfl, rfl⟩
set_option maxRecDepth 100000 in
theorem calE_c (w : World) :
    Calls Tryz.prog 42 #[] w fun e w' => e = .returned (.map (some w.heap.size)) ∧ w' = w.alloc (.map calE 5) := by
  have hmm := fun (t : TypeId) (w : World) => run_makeMap (P := Tryz.prog) t w
  go_enter Tryz.func42, Tryz.ntmps42
  go_wp2_with (rw [upd_bin w]; rotate_left; kernel_rfl)
  go_ret
  exact ⟨rfl, rfl⟩
set_option maxRecDepth 100000 in
theorem unE_c (w : World) :
    Calls Tryz.prog 91 #[] w fun e w' => e = .returned (.map (some w.heap.size)) ∧ w' = w.alloc (.map unE 2) := by
  have hmm := fun (t : TypeId) (w : World) => run_makeMap (P := Tryz.prog) t w
  go_enter Tryz.func91, Tryz.ntmps91
  go_wp2_with (rw [upd_un w]; rotate_left; kernel_rfl)
  go_ret
  exact ⟨rfl, rfl⟩
set_option maxRecDepth 100000 in
theorem binaryOf_8 (w : World) : Calls Tryz.prog 23 #[.int .i64 8] w fun e w' => e = .returned (fnV 62) ∧ Gr w w' := by
  have hl : Hid (∀ w : World, (Instr.lookup 76 (.map (some w.heap.size)) (.int .i64 8) false).run Tryz.prog (w.alloc (.map logE 3)) = .ok (fnV 62) (w.alloc (.map logE 3))) :=
    fun w => look_bin w logE 3 8 (some (0, fnV 62)) (by kernel_rfl)
  go_enter Tryz.func23, Tryz.ntmps23
  go_wp2_with fail
  refine (logE_c _).mono ?_
  rintro e w' ⟨rfl, rfl⟩
  go_wp2_with (rw [hl.out])
  go_ret
  exact ⟨rfl, (Gr.refl _).map _ _⟩
set_option maxRecDepth 100000 in
theorem binaryOf_9 (w : World) : Calls Tryz.prog 23 #[.int .i64 9] w fun e w' => e = .returned (fnV 63) ∧ Gr w w' := by
  have hl : Hid (∀ w : World, (Instr.lookup 76 (.map (some w.heap.size)) (.int .i64 9) false).run Tryz.prog (w.alloc (.map logE 3)) = .ok (fnV 63) (w.alloc (.map logE 3))) :=
    fun w => look_bin w logE 3 9 (some (1, fnV 63)) (by kernel_rfl)
  go_enter Tryz.func23, Tryz.ntmps23
  go_wp2_with fail
  refine (logE_c _).mono ?_
  rintro e w' ⟨rfl, rfl⟩
  go_wp2_with (rw [hl.out])
  go_ret
  exact ⟨rfl, (Gr.refl _).map _ _⟩
set_option maxRecDepth 100000 in
theorem binaryOf_10 (w : World) : Calls Tryz.prog 23 #[.int .i64 10] w fun e w' => e = .returned (fnV 64) ∧ Gr w w' := by
  have hl : Hid (∀ w : World, (Instr.lookup 76 (.map (some w.heap.size)) (.int .i64 10) false).run Tryz.prog (w.alloc (.map logE 3)) = .ok (fnV 64) (w.alloc (.map logE 3))) :=
    fun w => look_bin w logE 3 10 (some (2, fnV 64)) (by kernel_rfl)
  go_enter Tryz.func23, Tryz.ntmps23
  go_wp2_with fail
  refine (logE_c _).mono ?_
  rintro e w' ⟨rfl, rfl⟩
  go_wp2_with (rw [hl.out])
  go_ret
  exact ⟨rfl, (Gr.refl _).map _ _⟩
set_option maxRecDepth 100000 in
theorem binaryOf_11 (w : World) : Calls Tryz.prog 23 #[.int .i64 11] w fun e w' => e = .returned (fnV 65) ∧ Gr w w' := by
  have hl : Hid (∀ w : World, (Instr.lookup 76 (.map (some w.heap.size)) (.int .i64 11) false).run Tryz.prog (w.alloc (.map cmpE 6)) = .ok (fnV 65) (w.alloc (.map cmpE 6))) :=
    fun w => look_bin w cmpE 6 11 (some (0, fnV 65)) (by kernel_rfl)
  go_enter Tryz.func23, Tryz.ntmps23
  go_wp2_with fail
  refine (cmpE_c _).mono ?_
  rintro e w' ⟨rfl, rfl⟩
  go_wp2_with (rw [hl.out])
  go_ret
  exact ⟨rfl, (Gr.refl _).map _ _⟩
set_option maxRecDepth 100000 in
theorem binaryOf_12 (w : World) : Calls Tryz.prog 23 #[.int .i64 12] w fun e w' => e = .returned (fnV 67) ∧ Gr w w' := by
  have hl : Hid (∀ w : World, (Instr.lookup 76 (.map (some w.heap.size)) (.int .i64 12) false).run Tryz.prog (w.alloc (.map cmpE 6)) = .ok (fnV 67) (w.alloc (.map cmpE 6))) :=
    fun w => look_bin w cmpE 6 12 (some (1, fnV 67)) (by kernel_rfl)
  go_enter Tryz.func23, Tryz.ntmps23
  go_wp2_with fail
  refine (cmpE_c _).mono ?_
  rintro e w' ⟨rfl, rfl⟩
  go_wp2_with (rw [hl.out])
  go_ret
  exact ⟨rfl, (Gr.refl _).map _ _⟩
set_option maxRecDepth 100000 in
theorem binaryOf_13 (w : World) : Calls Tryz.prog 23 #[.int .i64 13] w fun e w' => e = .returned (fnV 68) ∧ Gr w w' := by
  have hl : Hid (∀ w : World, (Instr.lookup 76 (.map (some w.heap.size)) (.int .i64 13) false).run Tryz.prog (w.alloc (.map cmpE 6)) = .ok (fnV 68) (w.alloc (.map cmpE 6))) :=
    fun w => look_bin w cmpE 6 13 (some (2, fnV 68)) (by kernel_rfl)
  go_enter Tryz.func23, Tryz.ntmps23
  go_wp2_with fail
  refine (cmpE_c _).mono ?_
  rintro e w' ⟨rfl, rfl⟩
  go_wp2_with (rw [hl.out])
  go_ret
  exact ⟨rfl, (Gr.refl _).map _ _⟩
set_option maxRecDepth 100000 in
theorem binaryOf_14 (w : World) : Calls Tryz.prog 23 #[.int .i64 14] w fun e w' => e = .returned (fnV 69) ∧ Gr w w' := by
  have hl : Hid (∀ w : World, (Instr.lookup 76 (.map (some w.heap.size)) (.int .i64 14) false).run Tryz.prog (w.alloc (.map cmpE 6)) = .ok (fnV 69) (w.alloc (.map cmpE 6))) :=
    fun w => look_bin w cmpE 6 14 (some (3, fnV 69)) (by kernel_rfl)
  go_enter Tryz.func23, Tryz.ntmps23
  go_wp2_with fail
  refine (cmpE_c _).mono ?_
  rintro e w' ⟨rfl, rfl⟩
  go_wp2_with (rw [hl.out])
  go_ret
  exact ⟨rfl, (Gr.refl _).map _ _⟩
set_option maxRecDepth 100000 in
theorem binaryOf_15 (w : World) : Calls Tryz.prog 23 #[.int .i64 15] w fun e w' => e = .returned (fnV 70) ∧ Gr w w' := by
  have hl : Hid (∀ w : World, (Instr.lookup 76 (.map (some w.heap.size)) (.int .i64 15) false).run Tryz.prog (w.alloc (.map cmpE 6)) = .ok (fnV 70) (w.alloc (.map cmpE 6))) :=
    fun w => look_bin w cmpE 6 15 (some (4, fnV 70)) (by kernel_rfl)
  go_enter Tryz.func23, Tryz.ntmps23
  go_wp2_with fail
  refine (cmpE_c _).mono ?_
  rintro e w' ⟨rfl, rfl⟩
  go_wp2_with (rw [hl.out])
  go_ret
  exact ⟨rfl, (Gr.refl _).map _ _⟩
set_option maxRecDepth 100000 in
theorem binaryOf_16 (w : World) : Calls Tryz.prog 23 #[.int .i64 16] w fun e w' => e = .returned (fnV 71) ∧ Gr w w' := by
  have hl : Hid (∀ w : World, (Instr.lookup 76 (.map (some w.heap.size)) (.int .i64 16) false).run Tryz.prog (w.alloc (.map cmpE 6)) = .ok (fnV 71) (w.alloc (.map cmpE 6))) :=
    fun w => look_bin w cmpE 6 16 (some (5, fnV 71)) (by kernel_rfl)
  go_enter Tryz.func23, Tryz.ntmps23
  go_wp2_with fail
  refine (cmpE_c _).mono ?_
  rintro e w' ⟨rfl, rfl⟩
  go_wp2_with (rw [hl.out])
  go_ret
  exact ⟨rfl, (Gr.refl _).map _ _⟩
set_option maxRecDepth 100000 in
theorem binaryOf_17 (w : World) : Calls Tryz.prog 23 #[.int .i64 17] w fun e w' => e = .returned (fnV 72) ∧ Gr w w' := by
  have hl : Hid (∀ w : World, (Instr.lookup 76 (.map (some w.heap.size)) (.int .i64 17) false).run Tryz.prog (w.alloc (.map calE 5)) = .ok (fnV 72) (w.alloc (.map calE 5))) :=
    fun w => look_bin w calE 5 17 (some (0, fnV 72)) (by kernel_rfl)
  go_enter Tryz.func23, Tryz.ntmps23
  go_wp2_with fail
  refine (calE_c _).mono ?_
  rintro e w' ⟨rfl, rfl⟩
  go_wp2_with (rw [hl.out])
  go_ret
  exact ⟨rfl, (Gr.refl _).map _ _⟩
set_option maxRecDepth 100000 in
theorem binaryOf_18 (w : World) : Calls Tryz.prog 23 #[.int .i64 18] w fun e w' => e = .returned (fnV 73) ∧ Gr w w' := by
  have hl : Hid (∀ w : World, (Instr.lookup 76 (.map (some w.heap.size)) (.int .i64 18) false).run Tryz.prog (w.alloc (.map calE 5)) = .ok (fnV 73) (w.alloc (.map calE 5))) :=
    fun w => look_bin w calE 5 18 (some (1, fnV 73)) (by kernel_rfl)
  go_enter Tryz.func23, Tryz.ntmps23
  go_wp2_with fail
  refine (calE_c _).mono ?_
  rintro e w' ⟨rfl, rfl⟩
  go_wp2_with (rw [hl.out])
  go_ret
  exact ⟨rfl, (Gr.refl _).map _ _⟩
set_option maxRecDepth 100000 in
theorem binaryOf_19 (w : World) : Calls Tryz.prog 23 #[.int .i64 19] w fun e w' => e = .returned (fnV 74) ∧ Gr w w' := by
  have hl : Hid (∀ w : World, (Instr.lookup 76 (.map (some w.heap.size)) (.int .i64 19) false).run Tryz.prog (w.alloc (.map calE 5)) = .ok (fnV 74) (w.alloc (.map calE 5))) :=
    fun w => look_bin w calE 5 19 (some (2, fnV 74)) (by kernel_rfl)
  go_enter Tryz.func23, Tryz.ntmps23
  go_wp2_with fail
  refine (calE_c _).mono ?_
  rintro e w' ⟨rfl, rfl⟩
  go_wp2_with (rw [hl.out])
  go_ret
  exact ⟨rfl, (Gr.refl _).map _ _⟩
set_option maxRecDepth 100000 in
theorem binaryOf_20 (w : World) : Calls Tryz.prog 23 #[.int .i64 20] w fun e w' => e = .returned (fnV 75) ∧ Gr w w' := by
  have hl : Hid (∀ w : World, (Instr.lookup 76 (.map (some w.heap.size)) (.int .i64 20) false).run Tryz.prog (w.alloc (.map calE 5)) = .ok (fnV 75) (w.alloc (.map calE 5))) :=
    fun w => look_bin w calE 5 20 (some (3, fnV 75)) (by kernel_rfl)
  go_enter Tryz.func23, Tryz.ntmps23
  go_wp2_with fail
  refine (calE_c _).mono ?_
  rintro e w' ⟨rfl, rfl⟩
  go_wp2_with (rw [hl.out])
  go_ret
  exact ⟨rfl, (Gr.refl _).map _ _⟩
set_option maxRecDepth 100000 in
theorem binaryOf_21 (w : World) : Calls Tryz.prog 23 #[.int .i64 21] w fun e w' => e = .returned (fnV 78) ∧ Gr w w' := by
  have hl : Hid (∀ w : World, (Instr.lookup 76 (.map (some w.heap.size)) (.int .i64 21) false).run Tryz.prog (w.alloc (.map calE 5)) = .ok (fnV 78) (w.alloc (.map calE 5))) :=
    fun w => look_bin w calE 5 21 (some (4, fnV 78)) (by kernel_rfl)
  go_enter Tryz.func23, Tryz.ntmps23
  go_wp2_with fail
  refine (calE_c _).mono ?_
  rintro e w' ⟨rfl, rfl⟩
  go_wp2_with (rw [hl.out])
  go_ret
  exact ⟨rfl, (Gr.refl _).map _ _⟩
end Go.Proofs.YtgldbeacjacbcaaGreat
