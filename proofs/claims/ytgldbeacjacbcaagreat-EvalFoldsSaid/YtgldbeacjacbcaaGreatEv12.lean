import Derived.Test.YtgldbeacjacbcaaGreatEv11
namespace Go.Proofs.YtgldbeacjacbcaaGreat
open Go.RowKit

theorem three_cell (w w' : World) (x y z : Int) (h : Gr (w.alloc (.cells #[.int .i64 x, .int .i64 y, .int .i64 z] 3)) w') (j : Nat) (hj : j < ([x, y, z] : List Int).length) : w'.cell? ⟨w.heap.size, 0 + j, none⟩ = some (.int .i64 (([x, y, z] : List Int).getD j 0)) := by
  refine ((Blk.new w 3 _).kp h.kp (by simp)).cell (0 + j) ?_
  have hj2 : j = 0 ∨ j = 1 ∨ j = 2 := by simp only [List.length_cons, List.length_nil] at hj; omega
  rcases hj2 with rfl | rfl | rfl <;> rfl
theorem find_limit (g : Nat) : Instr.findNow .string (.string ⟨#[108, 105, 109, 105, 116]⟩) (fnE g).toList 0 = some (some (3, .agg #[.slice (some ⟨g + (3 + 1), 0, none⟩) 3 3, .int .i64 2, .func (.func 47) #[] #[]])) := by kernel_rfl
theorem call_limit (w w' : World) (h : Gr (w.alloc (.cells #[.int .i64 0, .int .i64 7, .int .i64 5] 3)) w') :
    Calls Tryz.prog 11 #[.string ⟨#[108, 105, 109, 105, 116]⟩, .slice (some ⟨w.heap.size, 0, none⟩) 3 3] w' fun e w'' => e = .returned (.tuple #[.int .i64 5, .int .i64 0]) ∧ Gr w' w'' := by
  have hc : Hid (∀ w2, Gr w' w2 → ∀ j, j < ([0, 7, 5] : List Int).length → w2.cell? ⟨w.heap.size, 0 + j, none⟩ = some (.int .i64 (([0, 7, 5] : List Int).getD j 0))) := fun w2 h2 j hj => three_cell w w2 0 7 5 (h.trans h2) j hj
  refine (call_ok ⟨#[108, 105, 109, 105, 116]⟩ 3 3 47 2 5 w.heap.size 0 3 3 [0, 7, 5] w' (by decide) enter_47 find_limit rfl rfl rfl (by decide) hc (by show _ = _; kernel_rfl) ?_).mono ?_
  · intro w2 h2
    exact fnlimit_c _ 0 3 3 0 7 5 w2 rfl (hc.out w2 h2 0 (by decide)) (hc.out w2 h2 1 (by decide)) (hc.out w2 h2 2 (by decide))
  · rintro e w2 ⟨rfl, h2⟩
    exact ⟨by kernel_rfl, h2⟩
set_option maxRecDepth 100000 in
theorem awake_c (w : World) : Calls Tryz.prog 5 #[] w fun e w' => e = .returned (.bool true) ∧ Gr w w' := by
  go_enter Tryz.func5, Tryz.ntmps5
  go_wp2_with fail
  refine (bin_17 2147483647 1 _ (by kernel_rfl) (by kernel_rfl)).mono ?_
  rintro e w1 ⟨rfl, h1⟩
  rw [show wrap32 (2147483647 + 1) = -2147483648 by kernel_rfl]
  go_wp2_with fail
  refine (bin_21 (-7) 2 _ (by kernel_rfl) (by kernel_rfl) (by decide)).mono ?_
  rintro e w2 ⟨rfl, h2⟩
  rw [show wrap32 (Int.tmod (-7) 2) = -1 by kernel_rfl]
  go_wp2_with fail
  refine (bin_20_0 1 _ (by kernel_rfl)).mono ?_
  rintro e w3 ⟨rfl, h3⟩
  go_wp2_with fail
  refine (call_limit w3 _ (Gr.refl _)).mono ?_
  rintro e w4 ⟨rfl, h4⟩
  go_wp2_with fail
  refine (isValue_c 5 _).mono ?_
  rintro e w' ⟨rfl, rfl⟩
  rw [show valB 5 = true by kernel_rfl]
  go_wp2_with fail
  refine (wrap_c (-5) _).mono ?_
  rintro e w' ⟨rfl, rfl⟩
  rw [show wrap32 (-5) = -5 by kernel_rfl]
  go_wp2_with fail
  go_ret
  exact ⟨rfl, (h1.trans (h2.trans (h3.cells _ _))).trans h4⟩
end Go.Proofs.YtgldbeacjacbcaaGreat
