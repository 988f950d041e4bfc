import Derived.Test.YtgldbeacjacbcaaGreatTx9
import Derived.RegionTactic
set_option linter.unusedSimpArgs false
set_option linter.unusedVariables false
namespace Go.Proofs.YtgldbeacjacbcaaGreat
open Go.RowKit

set_option maxRecDepth 100000 in
theorem resY_6 (g c : Nat) (k : Int) (w : World) (hk : ([1] : List Int).contains k = true) (h0 : w.cell? ⟨g, 0, none⟩ = some (.int .i64 k)) :
    Calls Tryz.prog 57 #[.int .i64 6, .slice (some ⟨g, 0, none⟩) 1 c] w fun e w' => e = .returned (.tuple #[.int .i64 1, .bool true]) ∧ Gr w w' := by
  go_enter Tryz.func57, Tryz.ntmps57
  have G0 := Lib.hid (Gr.refl w)
  go_wp2_with fail
  refine (oneOf_g _ _ 4 4 6 [6, 8, 9, 10] ?_ rfl (by decide)).mono ?_
  · exact blk_new rfl _ _
  rintro e v0 ⟨rfl, hg⟩
  have G1 := Lib.hid ((G0.out.cells _ _).trans hg)
  clear hg
  rw [show ([6, 8, 9, 10] : List Int).contains 6 = true by decide]
  have GW := Lib.hid (G1.out.cells #[.int .i64 1] 3)
  have k0 := GW.out.kp.cell h0 (by simp)
  have BW := Lib.hid (Blk.new v0 3 #[.int .i64 1])
  go_wp2
  refine wp_loop_rounds 2 ?_
  rw [rounds_succ]
  go_wp2_with fail
  refine (oneOf_c _ _ 1 1 k [1] ?_ rfl (by decide)).mono ?_
  · exact BW.out
  rintro e w' ⟨rfl, rfl⟩
  rw [hk]
  go_wp2_with fail
  rw [rounds_succ]
  go_wp2_with fail
  go_ret2
  exact ⟨rfl, GW.out⟩
set_option maxRecDepth 100000 in
theorem resN_6 (g c : Nat) (k : Int) (w : World) (hk : ([1] : List Int).contains k = false) (h0 : w.cell? ⟨g, 0, none⟩ = some (.int .i64 k)) :
    Calls Tryz.prog 57 #[.int .i64 6, .slice (some ⟨g, 0, none⟩) 1 c] w fun e w' => e = .returned (.tuple #[.int .i64 0, .bool false]) ∧ Gr w w' := by
  go_enter Tryz.func57, Tryz.ntmps57
  have G0 := Lib.hid (Gr.refl w)
  go_wp2_with fail
  refine (oneOf_g _ _ 4 4 6 [6, 8, 9, 10] ?_ rfl (by decide)).mono ?_
  · exact blk_new rfl _ _
  rintro e v0 ⟨rfl, hg⟩
  have G1 := Lib.hid ((G0.out.cells _ _).trans hg)
  clear hg
  rw [show ([6, 8, 9, 10] : List Int).contains 6 = true by decide]
  have GW := Lib.hid (G1.out.cells #[.int .i64 1] 3)
  have k0 := GW.out.kp.cell h0 (by simp)
  have BW := Lib.hid (Blk.new v0 3 #[.int .i64 1])
  go_wp2
  refine wp_loop_rounds 2 ?_
  rw [rounds_succ]
  go_wp2_with fail
  refine (oneOf_c _ _ 1 1 k [1] ?_ rfl (by decide)).mono ?_
  · exact BW.out
  rintro e w' ⟨rfl, rfl⟩
  rw [hk]
  go_wp2_with fail
  go_ret2
  exact ⟨rfl, GW.out⟩
set_option maxRecDepth 100000 in
theorem resY_7 (g c : Nat) (k : Int) (w : World) (hk : ([2] : List Int).contains k = true) (h0 : w.cell? ⟨g, 0, none⟩ = some (.int .i64 k)) :
    Calls Tryz.prog 57 #[.int .i64 7, .slice (some ⟨g, 0, none⟩) 1 c] w fun e w' => e = .returned (.tuple #[.int .i64 2, .bool true]) ∧ Gr w w' := by
  go_enter Tryz.func57, Tryz.ntmps57
  have G0 := Lib.hid (Gr.refl w)
  go_wp2_with fail
  refine (oneOf_g _ _ 4 4 7 [6, 8, 9, 10] ?_ rfl (by decide)).mono ?_
  · exact blk_new rfl _ _
  rintro e v0 ⟨rfl, hg⟩
  have G1 := Lib.hid ((G0.out.cells _ _).trans hg)
  clear hg
  rw [show ([6, 8, 9, 10] : List Int).contains 7 = false by decide]
  go_wp2_with fail
  refine (oneOf_g _ _ 4 4 7 [7, 19, 20, 21] ?_ rfl (by decide)).mono ?_
  · exact blk_new rfl _ _
  rintro e v1 ⟨rfl, hg⟩
  have G2 := Lib.hid ((G1.out.cells _ _).trans hg)
  clear hg
  rw [show ([7, 19, 20, 21] : List Int).contains 7 = true by decide]
  have GW := Lib.hid (G2.out.cells #[.int .i64 2] 3)
  have k0 := GW.out.kp.cell h0 (by simp)
  have BW := Lib.hid (Blk.new v1 3 #[.int .i64 2])
  go_wp2
  refine wp_loop_rounds 2 ?_
  rw [rounds_succ]
  go_wp2_with fail
  refine (oneOf_c _ _ 1 1 k [2] ?_ rfl (by decide)).mono ?_
  · exact BW.out
  rintro e w' ⟨rfl, rfl⟩
  rw [hk]
  go_wp2_with fail
  rw [rounds_succ]
  go_wp2_with fail
  go_ret2
  exact ⟨rfl, GW.out⟩
set_option maxRecDepth 100000 in
theorem resN_7 (g c : Nat) (k : Int) (w : World) (hk : ([2] : List Int).contains k = false) (h0 : w.cell? ⟨g, 0, none⟩ = some (.int .i64 k)) :
    Calls Tryz.prog 57 #[.int .i64 7, .slice (some ⟨g, 0, none⟩) 1 c] w fun e w' => e = .returned (.tuple #[.int .i64 0, .bool false]) ∧ Gr w w' := by
  go_enter Tryz.func57, Tryz.ntmps57
  have G0 := Lib.hid (Gr.refl w)
  go_wp2_with fail
  refine (oneOf_g _ _ 4 4 7 [6, 8, 9, 10] ?_ rfl (by decide)).mono ?_
  · exact blk_new rfl _ _
  rintro e v0 ⟨rfl, hg⟩
  have G1 := Lib.hid ((G0.out.cells _ _).trans hg)
  clear hg
  rw [show ([6, 8, 9, 10] : List Int).contains 7 = false by decide]
  go_wp2_with fail
  refine (oneOf_g _ _ 4 4 7 [7, 19, 20, 21] ?_ rfl (by decide)).mono ?_
  · exact blk_new rfl _ _
  rintro e v1 ⟨rfl, hg⟩
  have G2 := Lib.hid ((G1.out.cells _ _).trans hg)
  clear hg
  rw [show ([7, 19, 20, 21] : List Int).contains 7 = true by decide]
  have GW := Lib.hid (G2.out.cells #[.int .i64 2] 3)
  have k0 := GW.out.kp.cell h0 (by simp)
  have BW := Lib.hid (Blk.new v1 3 #[.int .i64 2])
  go_wp2
  refine wp_loop_rounds 2 ?_
  rw [rounds_succ]
  go_wp2_with fail
  refine (oneOf_c _ _ 1 1 k [2] ?_ rfl (by decide)).mono ?_
  · exact BW.out
  rintro e w' ⟨rfl, rfl⟩
  rw [hk]
  go_wp2_with fail
  go_ret2
  exact ⟨rfl, GW.out⟩
set_option maxRecDepth 100000 in
theorem resY_8 (g c : Nat) (k : Int) (w : World) (hk : ([1] : List Int).contains k = true) (h0 : w.cell? ⟨g, 0, none⟩ = some (.int .i64 k)) (h1 : w.cell? ⟨g, 1, none⟩ = some (.int .i64 k)) :
    Calls Tryz.prog 57 #[.int .i64 8, .slice (some ⟨g, 0, none⟩) 2 c] w fun e w' => e = .returned (.tuple #[.int .i64 1, .bool true]) ∧ Gr w w' := by
  go_enter Tryz.func57, Tryz.ntmps57
  have G0 := Lib.hid (Gr.refl w)
  go_wp2_with fail
  refine (oneOf_g _ _ 4 4 8 [6, 8, 9, 10] ?_ rfl (by decide)).mono ?_
  · exact blk_new rfl _ _
  rintro e v0 ⟨rfl, hg⟩
  have G1 := Lib.hid ((G0.out.cells _ _).trans hg)
  clear hg
  rw [show ([6, 8, 9, 10] : List Int).contains 8 = true by decide]
  have GW := Lib.hid (G1.out.cells #[.int .i64 1] 3)
  have k0 := GW.out.kp.cell h0 (by simp)
  have k1 := GW.out.kp.cell h1 (by simp)
  have BW := Lib.hid (Blk.new v0 3 #[.int .i64 1])
  go_wp2
  refine wp_loop_rounds 3 ?_
  rw [rounds_succ]
  go_wp2_with fail
  refine (oneOf_c _ _ 1 1 k [1] ?_ rfl (by decide)).mono ?_
  · exact BW.out
  rintro e w' ⟨rfl, rfl⟩
  rw [hk]
  go_wp2_with fail
  rw [rounds_succ]
  go_wp2_with fail
  refine (oneOf_c _ _ 1 1 k [1] ?_ rfl (by decide)).mono ?_
  · exact BW.out
  rintro e w' ⟨rfl, rfl⟩
  rw [hk]
  go_wp2_with fail
  rw [rounds_succ]
  go_wp2_with fail
  go_ret2
  exact ⟨rfl, GW.out⟩
set_option maxRecDepth 100000 in
theorem resN_8 (g c : Nat) (k l : Int) (w : World) (hk : ([1] : List Int).contains k = false) (h0 : w.cell? ⟨g, 0, none⟩ = some (.int .i64 k)) (h1 : w.cell? ⟨g, 1, none⟩ = some (.int .i64 l)) :
    Calls Tryz.prog 57 #[.int .i64 8, .slice (some ⟨g, 0, none⟩) 2 c] w fun e w' => e = .returned (.tuple #[.int .i64 0, .bool false]) ∧ Gr w w' := by
  go_enter Tryz.func57, Tryz.ntmps57
  have G0 := Lib.hid (Gr.refl w)
  go_wp2_with fail
  refine (oneOf_g _ _ 4 4 8 [6, 8, 9, 10] ?_ rfl (by decide)).mono ?_
  · exact blk_new rfl _ _
  rintro e v0 ⟨rfl, hg⟩
  have G1 := Lib.hid ((G0.out.cells _ _).trans hg)
  clear hg
  rw [show ([6, 8, 9, 10] : List Int).contains 8 = true by decide]
  have GW := Lib.hid (G1.out.cells #[.int .i64 1] 3)
  have k0 := GW.out.kp.cell h0 (by simp)
  have k1 := GW.out.kp.cell h1 (by simp)
  have BW := Lib.hid (Blk.new v0 3 #[.int .i64 1])
  go_wp2
  refine wp_loop_rounds 3 ?_
  rw [rounds_succ]
  go_wp2_with fail
  refine (oneOf_c _ _ 1 1 k [1] ?_ rfl (by decide)).mono ?_
  · exact BW.out
  rintro e w' ⟨rfl, rfl⟩
  rw [hk]
  go_wp2_with fail
  go_ret2
  exact ⟨rfl, GW.out⟩
set_option maxRecDepth 100000 in
theorem resM_8 (g c : Nat) (k l : Int) (w : World) (hk : ([1] : List Int).contains k = true) (hl : ¬ l = k) (h0 : w.cell? ⟨g, 0, none⟩ = some (.int .i64 k)) (h1 : w.cell? ⟨g, 1, none⟩ = some (.int .i64 l)) :
    Calls Tryz.prog 57 #[.int .i64 8, .slice (some ⟨g, 0, none⟩) 2 c] w fun e w' => e = .returned (.tuple #[.int .i64 0, .bool false]) ∧ Gr w w' := by
  go_enter Tryz.func57, Tryz.ntmps57
  have G0 := Lib.hid (Gr.refl w)
  go_wp2_with fail
  refine (oneOf_g _ _ 4 4 8 [6, 8, 9, 10] ?_ rfl (by decide)).mono ?_
  · exact blk_new rfl _ _
  rintro e v0 ⟨rfl, hg⟩
  have G1 := Lib.hid ((G0.out.cells _ _).trans hg)
  clear hg
  rw [show ([6, 8, 9, 10] : List Int).contains 8 = true by decide]
  have GW := Lib.hid (G1.out.cells #[.int .i64 1] 3)
  have k0 := GW.out.kp.cell h0 (by simp)
  have k1 := GW.out.kp.cell h1 (by simp)
  have BW := Lib.hid (Blk.new v0 3 #[.int .i64 1])
  go_wp2
  refine wp_loop_rounds 3 ?_
  rw [rounds_succ]
  go_wp2_with fail
  refine (oneOf_c _ _ 1 1 k [1] ?_ rfl (by decide)).mono ?_
  · exact BW.out
  rintro e w' ⟨rfl, rfl⟩
  rw [hk]
  go_wp2_with fail
  rw [rounds_succ]
  go_wp2_with fail
  go_ret2
  exact ⟨rfl, GW.out⟩
set_option maxRecDepth 100000 in
theorem resY_9 (g c : Nat) (k : Int) (w : World) (hk : ([1] : List Int).contains k = true) (h0 : w.cell? ⟨g, 0, none⟩ = some (.int .i64 k)) (h1 : w.cell? ⟨g, 1, none⟩ = some (.int .i64 k)) :
    Calls Tryz.prog 57 #[.int .i64 9, .slice (some ⟨g, 0, none⟩) 2 c] w fun e w' => e = .returned (.tuple #[.int .i64 1, .bool true]) ∧ Gr w w' := by
  go_enter Tryz.func57, Tryz.ntmps57
  have G0 := Lib.hid (Gr.refl w)
  go_wp2_with fail
  refine (oneOf_g _ _ 4 4 9 [6, 8, 9, 10] ?_ rfl (by decide)).mono ?_
  · exact blk_new rfl _ _
  rintro e v0 ⟨rfl, hg⟩
  have G1 := Lib.hid ((G0.out.cells _ _).trans hg)
  clear hg
  rw [show ([6, 8, 9, 10] : List Int).contains 9 = true by decide]
  have GW := Lib.hid (G1.out.cells #[.int .i64 1] 3)
  have k0 := GW.out.kp.cell h0 (by simp)
  have k1 := GW.out.kp.cell h1 (by simp)
  have BW := Lib.hid (Blk.new v0 3 #[.int .i64 1])
  go_wp2
  refine wp_loop_rounds 3 ?_
  rw [rounds_succ]
  go_wp2_with fail
  refine (oneOf_c _ _ 1 1 k [1] ?_ rfl (by decide)).mono ?_
  · exact BW.out
  rintro e w' ⟨rfl, rfl⟩
  rw [hk]
  go_wp2_with fail
  rw [rounds_succ]
  go_wp2_with fail
  refine (oneOf_c _ _ 1 1 k [1] ?_ rfl (by decide)).mono ?_
  · exact BW.out
  rintro e w' ⟨rfl, rfl⟩
  rw [hk]
  go_wp2_with fail
  rw [rounds_succ]
  go_wp2_with fail
  go_ret2
  exact ⟨rfl, GW.out⟩
set_option maxRecDepth 100000 in
theorem resN_9 (g c : Nat) (k l : Int) (w : World) (hk : ([1] : List Int).contains k = false) (h0 : w.cell? ⟨g, 0, none⟩ = some (.int .i64 k)) (h1 : w.cell? ⟨g, 1, none⟩ = some (.int .i64 l)) :
    Calls Tryz.prog 57 #[.int .i64 9, .slice (some ⟨g, 0, none⟩) 2 c] w fun e w' => e = .returned (.tuple #[.int .i64 0, .bool false]) ∧ Gr w w' := by
  go_enter Tryz.func57, Tryz.ntmps57
  have G0 := Lib.hid (Gr.refl w)
  go_wp2_with fail
  refine (oneOf_g _ _ 4 4 9 [6, 8, 9, 10] ?_ rfl (by decide)).mono ?_
  · exact blk_new rfl _ _
  rintro e v0 ⟨rfl, hg⟩
  have G1 := Lib.hid ((G0.out.cells _ _).trans hg)
  clear hg
  rw [show ([6, 8, 9, 10] : List Int).contains 9 = true by decide]
  have GW := Lib.hid (G1.out.cells #[.int .i64 1] 3)
  have k0 := GW.out.kp.cell h0 (by simp)
  have k1 := GW.out.kp.cell h1 (by simp)
  have BW := Lib.hid (Blk.new v0 3 #[.int .i64 1])
  go_wp2
  refine wp_loop_rounds 3 ?_
  rw [rounds_succ]
  go_wp2_with fail
  refine (oneOf_c _ _ 1 1 k [1] ?_ rfl (by decide)).mono ?_
  · exact BW.out
  rintro e w' ⟨rfl, rfl⟩
  rw [hk]
  go_wp2_with fail
  go_ret2
  exact ⟨rfl, GW.out⟩
set_option maxRecDepth 100000 in
theorem resM_9 (g c : Nat) (k l : Int) (w : World) (hk : ([1] : List Int).contains k = true) (hl : ¬ l = k) (h0 : w.cell? ⟨g, 0, none⟩ = some (.int .i64 k)) (h1 : w.cell? ⟨g, 1, none⟩ = some (.int .i64 l)) :
    Calls Tryz.prog 57 #[.int .i64 9, .slice (some ⟨g, 0, none⟩) 2 c] w fun e w' => e = .returned (.tuple #[.int .i64 0, .bool false]) ∧ Gr w w' := by
  go_enter Tryz.func57, Tryz.ntmps57
  have G0 := Lib.hid (Gr.refl w)
  go_wp2_with fail
  refine (oneOf_g _ _ 4 4 9 [6, 8, 9, 10] ?_ rfl (by decide)).mono ?_
  · exact blk_new rfl _ _
  rintro e v0 ⟨rfl, hg⟩
  have G1 := Lib.hid ((G0.out.cells _ _).trans hg)
  clear hg
  rw [show ([6, 8, 9, 10] : List Int).contains 9 = true by decide]
  have GW := Lib.hid (G1.out.cells #[.int .i64 1] 3)
  have k0 := GW.out.kp.cell h0 (by simp)
  have k1 := GW.out.kp.cell h1 (by simp)
  have BW := Lib.hid (Blk.new v0 3 #[.int .i64 1])
  go_wp2
  refine wp_loop_rounds 3 ?_
  rw [rounds_succ]
  go_wp2_with fail
  refine (oneOf_c _ _ 1 1 k [1] ?_ rfl (by decide)).mono ?_
  · exact BW.out
  rintro e w' ⟨rfl, rfl⟩
  rw [hk]
  go_wp2_with fail
  rw [rounds_succ]
  go_wp2_with fail
  go_ret2
  exact ⟨rfl, GW.out⟩
end Go.Proofs.YtgldbeacjacbcaaGreat
