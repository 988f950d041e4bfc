import Derived.Test.YtgldbeacjacbcaaEv3
namespace Go.Proofs.Ytgldbeacjacbcaa
open Go.RowKit

def cmpE : Array MapEntry := #[⟨.int .i64 11, fnV 45, 0⟩, ⟨.int .i64 12, fnV 47, 1⟩, ⟨.int .i64 13, fnV 48, 2⟩, ⟨.int .i64 14, fnV 49, 3⟩, ⟨.int .i64 15, fnV 50, 4⟩, ⟨.int .i64 16, fnV 51, 5⟩]
def calE : Array MapEntry := #[⟨.int .i64 17, fnV 52, 0⟩, ⟨.int .i64 18, fnV 53, 1⟩, ⟨.int .i64 19, fnV 54, 2⟩, ⟨.int .i64 20, fnV 55, 3⟩, ⟨.int .i64 21, fnV 58, 4⟩]
set_option maxRecDepth 100000 in
theorem logE_c (w : World) :
    Calls Try.prog 23 #[] w fun e w' => e = .returned (.map (some w.heap.size)) ∧ w' = w.alloc (.map logE 3) := by
  have hmm := fun (t : TypeId) (w : World) => run_makeMap (P := Try.prog) t w
  go_enter Try.func23, Try.ntmps23
  go_wp2_with (rw [upd_bin w]; rotate_left; kernel_rfl)
  go_ret
  exact ⟨rfl, rfl⟩
set_option maxRecDepth 100000 in
theorem cmpE_c (w : World) :
    Calls Try.prog 24 #[] w fun e w' => e = .returned (.map (some w.heap.size)) ∧ w' = w.alloc (.map cmpE 6) := by
  have hmm := fun (t : TypeId) (w : World) => run_makeMap (P := Try.prog) t w
  go_enter Try.func24, Try.ntmps24
  go_wp2_with (rw [upd_bin w]; rotate_left; kernel_rfl)
  go_ret
  exact ⟨rfl, rfl⟩
set_option maxRecDepth 100000 in
theorem calE_c (w : World) :
    Calls Try.prog 25 #[] w fun e w' => e = .returned (.map (some w.heap.size)) ∧ w' = w.alloc (.map calE 5) := by
  have hmm := fun (t : TypeId) (w : World) => run_makeMap (P := Try.prog) t w
  go_enter Try.func25, Try.ntmps25
  go_wp2_with (rw [upd_bin w]; rotate_left; kernel_rfl)
  go_ret
  exact ⟨rfl, rfl⟩
set_option maxRecDepth 100000 in
theorem unE_c (w : World) :
    Calls Try.prog 69 #[] w fun e w' => e = .returned (.map (some w.heap.size)) ∧ w' = w.alloc (.map unE 2) := by
  have hmm := fun (t : TypeId) (w : World) => run_makeMap (P := Try.prog) t w
  go_enter Try.func69, Try.ntmps69
  go_wp2_with (rw [upd_un w]; rotate_left; kernel_rfl)
  go_ret
  exact ⟨rfl, rfl⟩
set_option maxRecDepth 100000 in
theorem binaryOf_8 (w : World) : Calls Try.prog 15 #[.int .i64 8] w fun e w' => e = .returned (fnV 42) ∧ Gr w w' := by
  have hl : Hid (∀ w : World, (Instr.lookup 60 (.map (some w.heap.size)) (.int .i64 8) false).run Try.prog (w.alloc (.map logE 3)) = .ok (fnV 42) (w.alloc (.map logE 3))) :=
    fun w => look_bin w logE 3 8 (some (0, fnV 42)) (by kernel_rfl)
  go_enter Try.func15, Try.ntmps15
  go_wp2_with fail
  refine (logE_c _).mono ?_
  rintro e w' ⟨rfl, rfl⟩
  go_wp2_with (rw [hl.out])
  go_ret
  exact ⟨rfl, (Gr.refl _).map _ _⟩
set_option maxRecDepth 100000 in
theorem binaryOf_9 (w : World) : Calls Try.prog 15 #[.int .i64 9] w fun e w' => e = .returned (fnV 43) ∧ Gr w w' := by
  have hl : Hid (∀ w : World, (Instr.lookup 60 (.map (some w.heap.size)) (.int .i64 9) false).run Try.prog (w.alloc (.map logE 3)) = .ok (fnV 43) (w.alloc (.map logE 3))) :=
    fun w => look_bin w logE 3 9 (some (1, fnV 43)) (by kernel_rfl)
  go_enter Try.func15, Try.ntmps15
  go_wp2_with fail
  refine (logE_c _).mono ?_
  rintro e w' ⟨rfl, rfl⟩
  go_wp2_with (rw [hl.out])
  go_ret
  exact ⟨rfl, (Gr.refl _).map _ _⟩
set_option maxRecDepth 100000 in
theorem binaryOf_10 (w : World) : Calls Try.prog 15 #[.int .i64 10] w fun e w' => e = .returned (fnV 44) ∧ Gr w w' := by
  have hl : Hid (∀ w : World, (Instr.lookup 60 (.map (some w.heap.size)) (.int .i64 10) false).run Try.prog (w.alloc (.map logE 3)) = .ok (fnV 44) (w.alloc (.map logE 3))) :=
    fun w => look_bin w logE 3 10 (some (2, fnV 44)) (by kernel_rfl)
  go_enter Try.func15, Try.ntmps15
  go_wp2_with fail
  refine (logE_c _).mono ?_
  rintro e w' ⟨rfl, rfl⟩
  go_wp2_with (rw [hl.out])
  go_ret
  exact ⟨rfl, (Gr.refl _).map _ _⟩
set_option maxRecDepth 100000 in
theorem binaryOf_11 (w : World) : Calls Try.prog 15 #[.int .i64 11] w fun e w' => e = .returned (fnV 45) ∧ Gr w w' := by
  have hl : Hid (∀ w : World, (Instr.lookup 60 (.map (some w.heap.size)) (.int .i64 11) false).run Try.prog (w.alloc (.map cmpE 6)) = .ok (fnV 45) (w.alloc (.map cmpE 6))) :=
    fun w => look_bin w cmpE 6 11 (some (0, fnV 45)) (by kernel_rfl)
  go_enter Try.func15, Try.ntmps15
  go_wp2_with fail
  refine (cmpE_c _).mono ?_
  rintro e w' ⟨rfl, rfl⟩
  go_wp2_with (rw [hl.out])
  go_ret
  exact ⟨rfl, (Gr.refl _).map _ _⟩
set_option maxRecDepth 100000 in
theorem binaryOf_12 (w : World) : Calls Try.prog 15 #[.int .i64 12] w fun e w' => e = .returned (fnV 47) ∧ Gr w w' := by
  have hl : Hid (∀ w : World, (Instr.lookup 60 (.map (some w.heap.size)) (.int .i64 12) false).run Try.prog (w.alloc (.map cmpE 6)) = .ok (fnV 47) (w.alloc (.map cmpE 6))) :=
    fun w => look_bin w cmpE 6 12 (some (1, fnV 47)) (by kernel_rfl)
  go_enter Try.func15, Try.ntmps15
  go_wp2_with fail
  refine (cmpE_c _).mono ?_
  rintro e w' ⟨rfl, rfl⟩
  go_wp2_with (rw [hl.out])
  go_ret
  exact ⟨rfl, (Gr.refl _).map _ _⟩
set_option maxRecDepth 100000 in
theorem binaryOf_13 (w : World) : Calls Try.prog 15 #[.int .i64 13] w fun e w' => e = .returned (fnV 48) ∧ Gr w w' := by
  have hl : Hid (∀ w : World, (Instr.lookup 60 (.map (some w.heap.size)) (.int .i64 13) false).run Try.prog (w.alloc (.map cmpE 6)) = .ok (fnV 48) (w.alloc (.map cmpE 6))) :=
    fun w => look_bin w cmpE 6 13 (some (2, fnV 48)) (by kernel_rfl)
  go_enter Try.func15, Try.ntmps15
  go_wp2_with fail
  refine (cmpE_c _).mono ?_
  rintro e w' ⟨rfl, rfl⟩
  go_wp2_with (rw [hl.out])
  go_ret
  exact ⟨rfl, (Gr.refl _).map _ _⟩
set_option maxRecDepth 100000 in
theorem binaryOf_14 (w : World) : Calls Try.prog 15 #[.int .i64 14] w fun e w' => e = .returned (fnV 49) ∧ Gr w w' := by
  have hl : Hid (∀ w : World, (Instr.lookup 60 (.map (some w.heap.size)) (.int .i64 14) false).run Try.prog (w.alloc (.map cmpE 6)) = .ok (fnV 49) (w.alloc (.map cmpE 6))) :=
    fun w => look_bin w cmpE 6 14 (some (3, fnV 49)) (by kernel_rfl)
  go_enter Try.func15, Try.ntmps15
  go_wp2_with fail
  refine (cmpE_c _).mono ?_
  rintro e w' ⟨rfl, rfl⟩
  go_wp2_with (rw [hl.out])
  go_ret
  exact ⟨rfl, (Gr.refl _).map _ _⟩
set_option maxRecDepth 100000 in
theorem binaryOf_15 (w : World) : Calls Try.prog 15 #[.int .i64 15] w fun e w' => e = .returned (fnV 50) ∧ Gr w w' := by
  have hl : Hid (∀ w : World, (Instr.lookup 60 (.map (some w.heap.size)) (.int .i64 15) false).run Try.prog (w.alloc (.map cmpE 6)) = .ok (fnV 50) (w.alloc (.map cmpE 6))) :=
    fun w => look_bin w cmpE 6 15 (some (4, fnV 50)) (by kernel_rfl)
  go_enter Try.func15, Try.ntmps15
  go_wp2_with fail
  refine (cmpE_c _).mono ?_
  rintro e w' ⟨rfl, rfl⟩
  go_wp2_with (rw [hl.out])
  go_ret
  exact ⟨rfl, (Gr.refl _).map _ _⟩
set_option maxRecDepth 100000 in
theorem binaryOf_16 (w : World) : Calls Try.prog 15 #[.int .i64 16] w fun e w' => e = .returned (fnV 51) ∧ Gr w w' := by
  have hl : Hid (∀ w : World, (Instr.lookup 60 (.map (some w.heap.size)) (.int .i64 16) false).run Try.prog (w.alloc (.map cmpE 6)) = .ok (fnV 51) (w.alloc (.map cmpE 6))) :=
    fun w => look_bin w cmpE 6 16 (some (5, fnV 51)) (by kernel_rfl)
  go_enter Try.func15, Try.ntmps15
  go_wp2_with fail
  refine (cmpE_c _).mono ?_
  rintro e w' ⟨rfl, rfl⟩
  go_wp2_with (rw [hl.out])
  go_ret
  exact ⟨rfl, (Gr.refl _).map _ _⟩
set_option maxRecDepth 100000 in
theorem binaryOf_17 (w : World) : Calls Try.prog 15 #[.int .i64 17] w fun e w' => e = .returned (fnV 52) ∧ Gr w w' := by
  have hl : Hid (∀ w : World, (Instr.lookup 60 (.map (some w.heap.size)) (.int .i64 17) false).run Try.prog (w.alloc (.map calE 5)) = .ok (fnV 52) (w.alloc (.map calE 5))) :=
    fun w => look_bin w calE 5 17 (some (0, fnV 52)) (by kernel_rfl)
  go_enter Try.func15, Try.ntmps15
  go_wp2_with fail
  refine (calE_c _).mono ?_
  rintro e w' ⟨rfl, rfl⟩
  go_wp2_with (rw [hl.out])
  go_ret
  exact ⟨rfl, (Gr.refl _).map _ _⟩
set_option maxRecDepth 100000 in
theorem binaryOf_18 (w : World) : Calls Try.prog 15 #[.int .i64 18] w fun e w' => e = .returned (fnV 53) ∧ Gr w w' := by
  have hl : Hid (∀ w : World, (Instr.lookup 60 (.map (some w.heap.size)) (.int .i64 18) false).run Try.prog (w.alloc (.map calE 5)) = .ok (fnV 53) (w.alloc (.map calE 5))) :=
    fun w => look_bin w calE 5 18 (some (1, fnV 53)) (by kernel_rfl)
  go_enter Try.func15, Try.ntmps15
  go_wp2_with fail
  refine (calE_c _).mono ?_
  rintro e w' ⟨rfl, rfl⟩
  go_wp2_with (rw [hl.out])
  go_ret
  exact ⟨rfl, (Gr.refl _).map _ _⟩
set_option maxRecDepth 100000 in
theorem binaryOf_19 (w : World) : Calls Try.prog 15 #[.int .i64 19] w fun e w' => e = .returned (fnV 54) ∧ Gr w w' := by
  have hl : Hid (∀ w : World, (Instr.lookup 60 (.map (some w.heap.size)) (.int .i64 19) false).run Try.prog (w.alloc (.map calE 5)) = .ok (fnV 54) (w.alloc (.map calE 5))) :=
    fun w => look_bin w calE 5 19 (some (2, fnV 54)) (by kernel_rfl)
  go_enter Try.func15, Try.ntmps15
  go_wp2_with fail
  refine (calE_c _).mono ?_
  rintro e w' ⟨rfl, rfl⟩
  go_wp2_with (rw [hl.out])
  go_ret
  exact ⟨rfl, (Gr.refl _).map _ _⟩
set_option maxRecDepth 100000 in
theorem binaryOf_20 (w : World) : Calls Try.prog 15 #[.int .i64 20] w fun e w' => e = .returned (fnV 55) ∧ Gr w w' := by
  have hl : Hid (∀ w : World, (Instr.lookup 60 (.map (some w.heap.size)) (.int .i64 20) false).run Try.prog (w.alloc (.map calE 5)) = .ok (fnV 55) (w.alloc (.map calE 5))) :=
    fun w => look_bin w calE 5 20 (some (3, fnV 55)) (by kernel_rfl)
  go_enter Try.func15, Try.ntmps15
  go_wp2_with fail
  refine (calE_c _).mono ?_
  rintro e w' ⟨rfl, rfl⟩
  go_wp2_with (rw [hl.out])
  go_ret
  exact ⟨rfl, (Gr.refl _).map _ _⟩
set_option maxRecDepth 100000 in
theorem binaryOf_21 (w : World) : Calls Try.prog 15 #[.int .i64 21] w fun e w' => e = .returned (fnV 58) ∧ Gr w w' := by
  have hl : Hid (∀ w : World, (Instr.lookup 60 (.map (some w.heap.size)) (.int .i64 21) false).run Try.prog (w.alloc (.map calE 5)) = .ok (fnV 58) (w.alloc (.map calE 5))) :=
    fun w => look_bin w calE 5 21 (some (4, fnV 58)) (by kernel_rfl)
  go_enter Try.func15, Try.ntmps15
  go_wp2_with fail
  refine (calE_c _).mono ?_
  rintro e w' ⟨rfl, rfl⟩
  go_wp2_with (rw [hl.out])
  go_ret
  exact ⟨rfl, (Gr.refl _).map _ _⟩
end Go.Proofs.Ytgldbeacjacbcaa
