import Derived.Test.YtgldbeacjacbcaaGreatTx9
import Derived.RegionTactic
set_option linter.unusedSimpArgs false
set_option linter.unusedVariables false
namespace Go.Proofs.YtgldbeacjacbcaaGreat
open Go.RowKit

set_option maxRecDepth 100000 in
theorem resY_14 (g c : Nat) (k : Int) (w : World) (hk : ([2, 3] : List Int).contains k = true) (h0 : w.cell? ⟨g, 0, none⟩ = some (.int .i64 k)) (h1 : w.cell? ⟨g, 1, none⟩ = some (.int .i64 k)) :
    Calls Tryz.prog 57 #[.int .i64 14, .slice (some ⟨g, 0, none⟩) 2 c] w fun e w' => e = .returned (.tuple #[.int .i64 1, .bool true]) ∧ Gr w w' := by
  go_enter Tryz.func57, Tryz.ntmps57
  have G0 := Lib.hid (Gr.refl w)
  go_wp2_with fail
  refine (oneOf_g _ _ 4 4 14 [6, 8, 9, 10] ?_ rfl (by decide)).mono ?_
  · exact blk_new rfl _ _
  rintro e v0 ⟨rfl, hg⟩
  have G1 := Lib.hid ((G0.out.cells _ _).trans hg)
  clear hg
  rw [show ([6, 8, 9, 10] : List Int).contains 14 = false by decide]
  go_wp2_with fail
  refine (oneOf_g _ _ 4 4 14 [7, 19, 20, 21] ?_ rfl (by decide)).mono ?_
  · exact blk_new rfl _ _
  rintro e v1 ⟨rfl, hg⟩
  have G2 := Lib.hid ((G1.out.cells _ _).trans hg)
  clear hg
  rw [show ([7, 19, 20, 21] : List Int).contains 14 = false by decide]
  go_wp2_with fail
  refine (oneOf_g _ _ 2 2 14 [17, 18] ?_ rfl (by decide)).mono ?_
  · exact blk_new rfl _ _
  rintro e v2 ⟨rfl, hg⟩
  have G3 := Lib.hid ((G2.out.cells _ _).trans hg)
  clear hg
  rw [show ([17, 18] : List Int).contains 14 = false by decide]
  go_wp2_with fail
  refine (oneOf_g _ _ 2 2 14 [11, 12] ?_ rfl (by decide)).mono ?_
  · exact blk_new rfl _ _
  rintro e v3 ⟨rfl, hg⟩
  have G4 := Lib.hid ((G3.out.cells _ _).trans hg)
  clear hg
  rw [show ([11, 12] : List Int).contains 14 = false by decide]
  go_wp2_with fail
  refine (oneOf_g _ _ 4 4 14 [13, 14, 15, 16] ?_ rfl (by decide)).mono ?_
  · exact blk_new rfl _ _
  rintro e v4 ⟨rfl, hg⟩
  have G5 := Lib.hid ((G4.out.cells _ _).trans hg)
  clear hg
  rw [show ([13, 14, 15, 16] : List Int).contains 14 = true by decide]
  have GW := Lib.hid (G5.out.cells #[.int .i64 2, .int .i64 3] 3)
  have k0 := GW.out.kp.cell h0 (by simp)
  have k1 := GW.out.kp.cell h1 (by simp)
  have BW := Lib.hid (Blk.new v4 3 #[.int .i64 2, .int .i64 3])
  go_wp2
  refine wp_loop_rounds 3 ?_
  rw [rounds_succ]
  go_wp2_with fail
  refine (oneOf_c _ _ 2 2 k [2, 3] ?_ rfl (by decide)).mono ?_
  · exact BW.out
  rintro e w' ⟨rfl, rfl⟩
  rw [hk]
  go_wp2_with fail
  rw [rounds_succ]
  go_wp2_with fail
  refine (oneOf_c _ _ 2 2 k [2, 3] ?_ rfl (by decide)).mono ?_
  · exact BW.out
  rintro e w' ⟨rfl, rfl⟩
  rw [hk]
  go_wp2_with fail
  rw [rounds_succ]
  go_wp2_with fail
  go_ret2
  exact ⟨rfl, GW.out⟩
set_option maxRecDepth 100000 in
theorem resN_14 (g c : Nat) (k l : Int) (w : World) (hk : ([2, 3] : List Int).contains k = false) (h0 : w.cell? ⟨g, 0, none⟩ = some (.int .i64 k)) (h1 : w.cell? ⟨g, 1, none⟩ = some (.int .i64 l)) :
    Calls Tryz.prog 57 #[.int .i64 14, .slice (some ⟨g, 0, none⟩) 2 c] w fun e w' => e = .returned (.tuple #[.int .i64 0, .bool false]) ∧ Gr w w' := by
  go_enter Tryz.func57, Tryz.ntmps57
  have G0 := Lib.hid (Gr.refl w)
  go_wp2_with fail
  refine (oneOf_g _ _ 4 4 14 [6, 8, 9, 10] ?_ rfl (by decide)).mono ?_
  · exact blk_new rfl _ _
  rintro e v0 ⟨rfl, hg⟩
  have G1 := Lib.hid ((G0.out.cells _ _).trans hg)
  clear hg
  rw [show ([6, 8, 9, 10] : List Int).contains 14 = false by decide]
  go_wp2_with fail
  refine (oneOf_g _ _ 4 4 14 [7, 19, 20, 21] ?_ rfl (by decide)).mono ?_
  · exact blk_new rfl _ _
  rintro e v1 ⟨rfl, hg⟩
  have G2 := Lib.hid ((G1.out.cells _ _).trans hg)
  clear hg
  rw [show ([7, 19, 20, 21] : List Int).contains 14 = false by decide]
  go_wp2_with fail
  refine (oneOf_g _ _ 2 2 14 [17, 18] ?_ rfl (by decide)).mono ?_
  · exact blk_new rfl _ _
  rintro e v2 ⟨rfl, hg⟩
  have G3 := Lib.hid ((G2.out.cells _ _).trans hg)
  clear hg
  rw [show ([17, 18] : List Int).contains 14 = false by decide]
  go_wp2_with fail
  refine (oneOf_g _ _ 2 2 14 [11, 12] ?_ rfl (by decide)).mono ?_
  · exact blk_new rfl _ _
  rintro e v3 ⟨rfl, hg⟩
  have G4 := Lib.hid ((G3.out.cells _ _).trans hg)
  clear hg
  rw [show ([11, 12] : List Int).contains 14 = false by decide]
  go_wp2_with fail
  refine (oneOf_g _ _ 4 4 14 [13, 14, 15, 16] ?_ rfl (by decide)).mono ?_
  · exact blk_new rfl _ _
  rintro e v4 ⟨rfl, hg⟩
  have G5 := Lib.hid ((G4.out.cells _ _).trans hg)
  clear hg
  rw [show ([13, 14, 15, 16] : List Int).contains 14 = true by decide]
  have GW := Lib.hid (G5.out.cells #[.int .i64 2, .int .i64 3] 3)
  have k0 := GW.out.kp.cell h0 (by simp)
  have k1 := GW.out.kp.cell h1 (by simp)
  have BW := Lib.hid (Blk.new v4 3 #[.int .i64 2, .int .i64 3])
  go_wp2
  refine wp_loop_rounds 3 ?_
  rw [rounds_succ]
  go_wp2_with fail
  refine (oneOf_c _ _ 2 2 k [2, 3] ?_ rfl (by decide)).mono ?_
  · exact BW.out
  rintro e w' ⟨rfl, rfl⟩
  rw [hk]
  go_wp2_with fail
  go_ret2
  exact ⟨rfl, GW.out⟩
set_option maxRecDepth 100000 in
theorem resM_14 (g c : Nat) (k l : Int) (w : World) (hk : ([2, 3] : List Int).contains k = true) (hl : ¬ l = k) (h0 : w.cell? ⟨g, 0, none⟩ = some (.int .i64 k)) (h1 : w.cell? ⟨g, 1, none⟩ = some (.int .i64 l)) :
    Calls Tryz.prog 57 #[.int .i64 14, .slice (some ⟨g, 0, none⟩) 2 c] w fun e w' => e = .returned (.tuple #[.int .i64 0, .bool false]) ∧ Gr w w' := by
  go_enter Tryz.func57, Tryz.ntmps57
  have G0 := Lib.hid (Gr.refl w)
  go_wp2_with fail
  refine (oneOf_g _ _ 4 4 14 [6, 8, 9, 10] ?_ rfl (by decide)).mono ?_
  · exact blk_new rfl _ _
  rintro e v0 ⟨rfl, hg⟩
  have G1 := Lib.hid ((G0.out.cells _ _).trans hg)
  clear hg
  rw [show ([6, 8, 9, 10] : List Int).contains 14 = false by decide]
  go_wp2_with fail
  refine (oneOf_g _ _ 4 4 14 [7, 19, 20, 21] ?_ rfl (by decide)).mono ?_
  · exact blk_new rfl _ _
  rintro e v1 ⟨rfl, hg⟩
  have G2 := Lib.hid ((G1.out.cells _ _).trans hg)
  clear hg
  rw [show ([7, 19, 20, 21] : List Int).contains 14 = false by decide]
  go_wp2_with fail
  refine (oneOf_g _ _ 2 2 14 [17, 18] ?_ rfl (by decide)).mono ?_
  · exact blk_new rfl _ _
  rintro e v2 ⟨rfl, hg⟩
  have G3 := Lib.hid ((G2.out.cells _ _).trans hg)
  clear hg
  rw [show ([17, 18] : List Int).contains 14 = false by decide]
  go_wp2_with fail
  refine (oneOf_g _ _ 2 2 14 [11, 12] ?_ rfl (by decide)).mono ?_
  · exact blk_new rfl _ _
  rintro e v3 ⟨rfl, hg⟩
  have G4 := Lib.hid ((G3.out.cells _ _).trans hg)
  clear hg
  rw [show ([11, 12] : List Int).contains 14 = false by decide]
  go_wp2_with fail
  refine (oneOf_g _ _ 4 4 14 [13, 14, 15, 16] ?_ rfl (by decide)).mono ?_
  · exact blk_new rfl _ _
  rintro e v4 ⟨rfl, hg⟩
  have G5 := Lib.hid ((G4.out.cells _ _).trans hg)
  clear hg
  rw [show ([13, 14, 15, 16] : List Int).contains 14 = true by decide]
  have GW := Lib.hid (G5.out.cells #[.int .i64 2, .int .i64 3] 3)
  have k0 := GW.out.kp.cell h0 (by simp)
  have k1 := GW.out.kp.cell h1 (by simp)
  have BW := Lib.hid (Blk.new v4 3 #[.int .i64 2, .int .i64 3])
  go_wp2
  refine wp_loop_rounds 3 ?_
  rw [rounds_succ]
  go_wp2_with fail
  refine (oneOf_c _ _ 2 2 k [2, 3] ?_ rfl (by decide)).mono ?_
  · exact BW.out
  rintro e w' ⟨rfl, rfl⟩
  rw [hk]
  go_wp2_with fail
  rw [rounds_succ]
  go_wp2_with fail
  go_ret2
  exact ⟨rfl, GW.out⟩
set_option maxRecDepth 100000 in
theorem resY_15 (g c : Nat) (k : Int) (w : World) (hk : ([2, 3] : List Int).contains k = true) (h0 : w.cell? ⟨g, 0, none⟩ = some (.int .i64 k)) (h1 : w.cell? ⟨g, 1, none⟩ = some (.int .i64 k)) :
    Calls Tryz.prog 57 #[.int .i64 15, .slice (some ⟨g, 0, none⟩) 2 c] w fun e w' => e = .returned (.tuple #[.int .i64 1, .bool true]) ∧ Gr w w' := by
  go_enter Tryz.func57, Tryz.ntmps57
  have G0 := Lib.hid (Gr.refl w)
  go_wp2_with fail
  refine (oneOf_g _ _ 4 4 15 [6, 8, 9, 10] ?_ rfl (by decide)).mono ?_
  · exact blk_new rfl _ _
  rintro e v0 ⟨rfl, hg⟩
  have G1 := Lib.hid ((G0.out.cells _ _).trans hg)
  clear hg
  rw [show ([6, 8, 9, 10] : List Int).contains 15 = false by decide]
  go_wp2_with fail
  refine (oneOf_g _ _ 4 4 15 [7, 19, 20, 21] ?_ rfl (by decide)).mono ?_
  · exact blk_new rfl _ _
  rintro e v1 ⟨rfl, hg⟩
  have G2 := Lib.hid ((G1.out.cells _ _).trans hg)
  clear hg
  rw [show ([7, 19, 20, 21] : List Int).contains 15 = false by decide]
  go_wp2_with fail
  refine (oneOf_g _ _ 2 2 15 [17, 18] ?_ rfl (by decide)).mono ?_
  · exact blk_new rfl _ _
  rintro e v2 ⟨rfl, hg⟩
  have G3 := Lib.hid ((G2.out.cells _ _).trans hg)
  clear hg
  rw [show ([17, 18] : List Int).contains 15 = false by decide]
  go_wp2_with fail
  refine (oneOf_g _ _ 2 2 15 [11, 12] ?_ rfl (by decide)).mono ?_
  · exact blk_new rfl _ _
  rintro e v3 ⟨rfl, hg⟩
  have G4 := Lib.hid ((G3.out.cells _ _).trans hg)
  clear hg
  rw [show ([11, 12] : List Int).contains 15 = false by decide]
  go_wp2_with fail
  refine (oneOf_g _ _ 4 4 15 [13, 14, 15, 16] ?_ rfl (by decide)).mono ?_
  · exact blk_new rfl _ _
  rintro e v4 ⟨rfl, hg⟩
  have G5 := Lib.hid ((G4.out.cells _ _).trans hg)
  clear hg
  rw [show ([13, 14, 15, 16] : List Int).contains 15 = true by decide]
  have GW := Lib.hid (G5.out.cells #[.int .i64 2, .int .i64 3] 3)
  have k0 := GW.out.kp.cell h0 (by simp)
  have k1 := GW.out.kp.cell h1 (by simp)
  have BW := Lib.hid (Blk.new v4 3 #[.int .i64 2, .int .i64 3])
  go_wp2
  refine wp_loop_rounds 3 ?_
  rw [rounds_succ]
  go_wp2_with fail
  refine (oneOf_c _ _ 2 2 k [2, 3] ?_ rfl (by decide)).mono ?_
  · exact BW.out
  rintro e w' ⟨rfl, rfl⟩
  rw [hk]
  go_wp2_with fail
  rw [rounds_succ]
  go_wp2_with fail
  refine (oneOf_c _ _ 2 2 k [2, 3] ?_ rfl (by decide)).mono ?_
  · exact BW.out
  rintro e w' ⟨rfl, rfl⟩
  rw [hk]
  go_wp2_with fail
  rw [rounds_succ]
  go_wp2_with fail
  go_ret2
  exact ⟨rfl, GW.out⟩
set_option maxRecDepth 100000 in
theorem resN_15 (g c : Nat) (k l : Int) (w : World) (hk : ([2, 3] : List Int).contains k = false) (h0 : w.cell? ⟨g, 0, none⟩ = some (.int .i64 k)) (h1 : w.cell? ⟨g, 1, none⟩ = some (.int .i64 l)) :
    Calls Tryz.prog 57 #[.int .i64 15, .slice (some ⟨g, 0, none⟩) 2 c] w fun e w' => e = .returned (.tuple #[.int .i64 0, .bool false]) ∧ Gr w w' := by
  go_enter Tryz.func57, Tryz.ntmps57
  have G0 := Lib.hid (Gr.refl w)
  go_wp2_with fail
  refine (oneOf_g _ _ 4 4 15 [6, 8, 9, 10] ?_ rfl (by decide)).mono ?_
  · exact blk_new rfl _ _
  rintro e v0 ⟨rfl, hg⟩
  have G1 := Lib.hid ((G0.out.cells _ _).trans hg)
  clear hg
  rw [show ([6, 8, 9, 10] : List Int).contains 15 = false by decide]
  go_wp2_with fail
  refine (oneOf_g _ _ 4 4 15 [7, 19, 20, 21] ?_ rfl (by decide)).mono ?_
  · exact blk_new rfl _ _
  rintro e v1 ⟨rfl, hg⟩
  have G2 := Lib.hid ((G1.out.cells _ _).trans hg)
  clear hg
  rw [show ([7, 19, 20, 21] : List Int).contains 15 = false by decide]
  go_wp2_with fail
  refine (oneOf_g _ _ 2 2 15 [17, 18] ?_ rfl (by decide)).mono ?_
  · exact blk_new rfl _ _
  rintro e v2 ⟨rfl, hg⟩
  have G3 := Lib.hid ((G2.out.cells _ _).trans hg)
  clear hg
  rw [show ([17, 18] : List Int).contains 15 = false by decide]
  go_wp2_with fail
  refine (oneOf_g _ _ 2 2 15 [11, 12] ?_ rfl (by decide)).mono ?_
  · exact blk_new rfl _ _
  rintro e v3 ⟨rfl, hg⟩
  have G4 := Lib.hid ((G3.out.cells _ _).trans hg)
  clear hg
  rw [show ([11, 12] : List Int).contains 15 = false by decide]
  go_wp2_with fail
  refine (oneOf_g _ _ 4 4 15 [13, 14, 15, 16] ?_ rfl (by decide)).mono ?_
  · exact blk_new rfl _ _
  rintro e v4 ⟨rfl, hg⟩
  have G5 := Lib.hid ((G4.out.cells _ _).trans hg)
  clear hg
  rw [show ([13, 14, 15, 16] : List Int).contains 15 = true by decide]
  have GW := Lib.hid (G5.out.cells #[.int .i64 2, .int .i64 3] 3)
  have k0 := GW.out.kp.cell h0 (by simp)
  have k1 := GW.out.kp.cell h1 (by simp)
  have BW := Lib.hid (Blk.new v4 3 #[.int .i64 2, .int .i64 3])
  go_wp2
  refine wp_loop_rounds 3 ?_
  rw [rounds_succ]
  go_wp2_with fail
  refine (oneOf_c _ _ 2 2 k [2, 3] ?_ rfl (by decide)).mono ?_
  · exact BW.out
  rintro e w' ⟨rfl, rfl⟩
  rw [hk]
  go_wp2_with fail
  go_ret2
  exact ⟨rfl, GW.out⟩
set_option maxRecDepth 100000 in
theorem resM_15 (g c : Nat) (k l : Int) (w : World) (hk : ([2, 3] : List Int).contains k = true) (hl : ¬ l = k) (h0 : w.cell? ⟨g, 0, none⟩ = some (.int .i64 k)) (h1 : w.cell? ⟨g, 1, none⟩ = some (.int .i64 l)) :
    Calls Tryz.prog 57 #[.int .i64 15, .slice (some ⟨g, 0, none⟩) 2 c] w fun e w' => e = .returned (.tuple #[.int .i64 0, .bool false]) ∧ Gr w w' := by
  go_enter Tryz.func57, Tryz.ntmps57
  have G0 := Lib.hid (Gr.refl w)
  go_wp2_with fail
  refine (oneOf_g _ _ 4 4 15 [6, 8, 9, 10] ?_ rfl (by decide)).mono ?_
  · exact blk_new rfl _ _
  rintro e v0 ⟨rfl, hg⟩
  have G1 := Lib.hid ((G0.out.cells _ _).trans hg)
  clear hg
  rw [show ([6, 8, 9, 10] : List Int).contains 15 = false by decide]
  go_wp2_with fail
  refine (oneOf_g _ _ 4 4 15 [7, 19, 20, 21] ?_ rfl (by decide)).mono ?_
  · exact blk_new rfl _ _
  rintro e v1 ⟨rfl, hg⟩
  have G2 := Lib.hid ((G1.out.cells _ _).trans hg)
  clear hg
  rw [show ([7, 19, 20, 21] : List Int).contains 15 = false by decide]
  go_wp2_with fail
  refine (oneOf_g _ _ 2 2 15 [17, 18] ?_ rfl (by decide)).mono ?_
  · exact blk_new rfl _ _
  rintro e v2 ⟨rfl, hg⟩
  have G3 := Lib.hid ((G2.out.cells _ _).trans hg)
  clear hg
  rw [show ([17, 18] : List Int).contains 15 = false by decide]
  go_wp2_with fail
  refine (oneOf_g _ _ 2 2 15 [11, 12] ?_ rfl (by decide)).mono ?_
  · exact blk_new rfl _ _
  rintro e v3 ⟨rfl, hg⟩
  have G4 := Lib.hid ((G3.out.cells _ _).trans hg)
  clear hg
  rw [show ([11, 12] : List Int).contains 15 = false by decide]
  go_wp2_with fail
  refine (oneOf_g _ _ 4 4 15 [13, 14, 15, 16] ?_ rfl (by decide)).mono ?_
  · exact blk_new rfl _ _
  rintro e v4 ⟨rfl, hg⟩
  have G5 := Lib.hid ((G4.out.cells _ _).trans hg)
  clear hg
  rw [show ([13, 14, 15, 16] : List Int).contains 15 = true by decide]
  have GW := Lib.hid (G5.out.cells #[.int .i64 2, .int .i64 3] 3)
  have k0 := GW.out.kp.cell h0 (by simp)
  have k1 := GW.out.kp.cell h1 (by simp)
  have BW := Lib.hid (Blk.new v4 3 #[.int .i64 2, .int .i64 3])
  go_wp2
  refine wp_loop_rounds 3 ?_
  rw [rounds_succ]
  go_wp2_with fail
  refine (oneOf_c _ _ 2 2 k [2, 3] ?_ rfl (by decide)).mono ?_
  · exact BW.out
  rintro e w' ⟨rfl, rfl⟩
  rw [hk]
  go_wp2_with fail
  rw [rounds_succ]
  go_wp2_with fail
  go_ret2
  exact ⟨rfl, GW.out⟩
set_option maxRecDepth 100000 in
theorem resY_16 (g c : Nat) (k : Int) (w : World) (hk : ([2, 3] : List Int).contains k = true) (h0 : w.cell? ⟨g, 0, none⟩ = some (.int .i64 k)) (h1 : w.cell? ⟨g, 1, none⟩ = some (.int .i64 k)) :
    Calls Tryz.prog 57 #[.int .i64 16, .slice (some ⟨g, 0, none⟩) 2 c] w fun e w' => e = .returned (.tuple #[.int .i64 1, .bool true]) ∧ Gr w w' := by
  go_enter Tryz.func57, Tryz.ntmps57
  have G0 := Lib.hid (Gr.refl w)
  go_wp2_with fail
  refine (oneOf_g _ _ 4 4 16 [6, 8, 9, 10] ?_ rfl (by decide)).mono ?_
  · exact blk_new rfl _ _
  rintro e v0 ⟨rfl, hg⟩
  have G1 := Lib.hid ((G0.out.cells _ _).trans hg)
  clear hg
  rw [show ([6, 8, 9, 10] : List Int).contains 16 = false by decide]
  go_wp2_with fail
  refine (oneOf_g _ _ 4 4 16 [7, 19, 20, 21] ?_ rfl (by decide)).mono ?_
  · exact blk_new rfl _ _
  rintro e v1 ⟨rfl, hg⟩
  have G2 := Lib.hid ((G1.out.cells _ _).trans hg)
  clear hg
  rw [show ([7, 19, 20, 21] : List Int).contains 16 = false by decide]
  go_wp2_with fail
  refine (oneOf_g _ _ 2 2 16 [17, 18] ?_ rfl (by decide)).mono ?_
  · exact blk_new rfl _ _
  rintro e v2 ⟨rfl, hg⟩
  have G3 := Lib.hid ((G2.out.cells _ _).trans hg)
  clear hg
  rw [show ([17, 18] : List Int).contains 16 = false by decide]
  go_wp2_with fail
  refine (oneOf_g _ _ 2 2 16 [11, 12] ?_ rfl (by decide)).mono ?_
  · exact blk_new rfl _ _
  rintro e v3 ⟨rfl, hg⟩
  have G4 := Lib.hid ((G3.out.cells _ _).trans hg)
  clear hg
  rw [show ([11, 12] : List Int).contains 16 = false by decide]
  go_wp2_with fail
  refine (oneOf_g _ _ 4 4 16 [13, 14, 15, 16] ?_ rfl (by decide)).mono ?_
  · exact blk_new rfl _ _
  rintro e v4 ⟨rfl, hg⟩
  have G5 := Lib.hid ((G4.out.cells _ _).trans hg)
  clear hg
  rw [show ([13, 14, 15, 16] : List Int).contains 16 = true by decide]
  have GW := Lib.hid (G5.out.cells #[.int .i64 2, .int .i64 3] 3)
  have k0 := GW.out.kp.cell h0 (by simp)
  have k1 := GW.out.kp.cell h1 (by simp)
  have BW := Lib.hid (Blk.new v4 3 #[.int .i64 2, .int .i64 3])
  go_wp2
  refine wp_loop_rounds 3 ?_
  rw [rounds_succ]
  go_wp2_with fail
  refine (oneOf_c _ _ 2 2 k [2, 3] ?_ rfl (by decide)).mono ?_
  · exact BW.out
  rintro e w' ⟨rfl, rfl⟩
  rw [hk]
  go_wp2_with fail
  rw [rounds_succ]
  go_wp2_with fail
  refine (oneOf_c _ _ 2 2 k [2, 3] ?_ rfl (by decide)).mono ?_
  · exact BW.out
  rintro e w' ⟨rfl, rfl⟩
  rw [hk]
  go_wp2_with fail
  rw [rounds_succ]
  go_wp2_with fail
  go_ret2
  exact ⟨rfl, GW.out⟩
set_option maxRecDepth 100000 in
theorem resN_16 (g c : Nat) (k l : Int) (w : World) (hk : ([2, 3] : List Int).contains k = false) (h0 : w.cell? ⟨g, 0, none⟩ = some (.int .i64 k)) (h1 : w.cell? ⟨g, 1, none⟩ = some (.int .i64 l)) :
    Calls Tryz.prog 57 #[.int .i64 16, .slice (some ⟨g, 0, none⟩) 2 c] w fun e w' => e = .returned (.tuple #[.int .i64 0, .bool false]) ∧ Gr w w' := by
  go_enter Tryz.func57, Tryz.ntmps57
  have G0 := Lib.hid (Gr.refl w)
  go_wp2_with fail
  refine (oneOf_g _ _ 4 4 16 [6, 8, 9, 10] ?_ rfl (by decide)).mono ?_
  · exact blk_new rfl _ _
  rintro e v0 ⟨rfl, hg⟩
  have G1 := Lib.hid ((G0.out.cells _ _).trans hg)
  clear hg
  rw [show ([6, 8, 9, 10] : List Int).contains 16 = false by decide]
  go_wp2_with fail
  refine (oneOf_g _ _ 4 4 16 [7, 19, 20, 21] ?_ rfl (by decide)).mono ?_
  · exact blk_new rfl _ _
  rintro e v1 ⟨rfl, hg⟩
  have G2 := Lib.hid ((G1.out.cells _ _).trans hg)
  clear hg
  rw [show ([7, 19, 20, 21] : List Int).contains 16 = false by decide]
  go_wp2_with fail
  refine (oneOf_g _ _ 2 2 16 [17, 18] ?_ rfl (by decide)).mono ?_
  · exact blk_new rfl _ _
  rintro e v2 ⟨rfl, hg⟩
  have G3 := Lib.hid ((G2.out.cells _ _).trans hg)
  clear hg
  rw [show ([17, 18] : List Int).contains 16 = false by decide]
  go_wp2_with fail
  refine (oneOf_g _ _ 2 2 16 [11, 12] ?_ rfl (by decide)).mono ?_
  · exact blk_new rfl _ _
  rintro e v3 ⟨rfl, hg⟩
  have G4 := Lib.hid ((G3.out.cells _ _).trans hg)
  clear hg
  rw [show ([11, 12] : List Int).contains 16 = false by decide]
  go_wp2_with fail
  refine (oneOf_g _ _ 4 4 16 [13, 14, 15, 16] ?_ rfl (by decide)).mono ?_
  · exact blk_new rfl _ _
  rintro e v4 ⟨rfl, hg⟩
  have G5 := Lib.hid ((G4.out.cells _ _).trans hg)
  clear hg
  rw [show ([13, 14, 15, 16] : List Int).contains 16 = true by decide]
  have GW := Lib.hid (G5.out.cells #[.int .i64 2, .int .i64 3] 3)
  have k0 := GW.out.kp.cell h0 (by simp)
  have k1 := GW.out.kp.cell h1 (by simp)
  have BW := Lib.hid (Blk.new v4 3 #[.int .i64 2, .int .i64 3])
  go_wp2
  refine wp_loop_rounds 3 ?_
  rw [rounds_succ]
  go_wp2_with fail
  refine (oneOf_c _ _ 2 2 k [2, 3] ?_ rfl (by decide)).mono ?_
  · exact BW.out
  rintro e w' ⟨rfl, rfl⟩
  rw [hk]
  go_wp2_with fail
  go_ret2
  exact ⟨rfl, GW.out⟩
set_option maxRecDepth 100000 in
theorem resM_16 (g c : Nat) (k l : Int) (w : World) (hk : ([2, 3] : List Int).contains k = true) (hl : ¬ l = k) (h0 : w.cell? ⟨g, 0, none⟩ = some (.int .i64 k)) (h1 : w.cell? ⟨g, 1, none⟩ = some (.int .i64 l)) :
    Calls Tryz.prog 57 #[.int .i64 16, .slice (some ⟨g, 0, none⟩) 2 c] w fun e w' => e = .returned (.tuple #[.int .i64 0, .bool false]) ∧ Gr w w' := by
  go_enter Tryz.func57, Tryz.ntmps57
  have G0 := Lib.hid (Gr.refl w)
  go_wp2_with fail
  refine (oneOf_g _ _ 4 4 16 [6, 8, 9, 10] ?_ rfl (by decide)).mono ?_
  · exact blk_new rfl _ _
  rintro e v0 ⟨rfl, hg⟩
  have G1 := Lib.hid ((G0.out.cells _ _).trans hg)
  clear hg
  rw [show ([6, 8, 9, 10] : List Int).contains 16 = false by decide]
  go_wp2_with fail
  refine (oneOf_g _ _ 4 4 16 [7, 19, 20, 21] ?_ rfl (by decide)).mono ?_
  · exact blk_new rfl _ _
  rintro e v1 ⟨rfl, hg⟩
  have G2 := Lib.hid ((G1.out.cells _ _).trans hg)
  clear hg
  rw [show ([7, 19, 20, 21] : List Int).contains 16 = false by decide]
  go_wp2_with fail
  refine (oneOf_g _ _ 2 2 16 [17, 18] ?_ rfl (by decide)).mono ?_
  · exact blk_new rfl _ _
  rintro e v2 ⟨rfl, hg⟩
  have G3 := Lib.hid ((G2.out.cells _ _).trans hg)
  clear hg
  rw [show ([17, 18] : List Int).contains 16 = false by decide]
  go_wp2_with fail
  refine (oneOf_g _ _ 2 2 16 [11, 12] ?_ rfl (by decide)).mono ?_
  · exact blk_new rfl _ _
  rintro e v3 ⟨rfl, hg⟩
  have G4 := Lib.hid ((G3.out.cells _ _).trans hg)
  clear hg
  rw [show ([11, 12] : List Int).contains 16 = false by decide]
  go_wp2_with fail
  refine (oneOf_g _ _ 4 4 16 [13, 14, 15, 16] ?_ rfl (by decide)).mono ?_
  · exact blk_new rfl _ _
  rintro e v4 ⟨rfl, hg⟩
  have G5 := Lib.hid ((G4.out.cells _ _).trans hg)
  clear hg
  rw [show ([13, 14, 15, 16] : List Int).contains 16 = true by decide]
  have GW := Lib.hid (G5.out.cells #[.int .i64 2, .int .i64 3] 3)
  have k0 := GW.out.kp.cell h0 (by simp)
  have k1 := GW.out.kp.cell h1 (by simp)
  have BW := Lib.hid (Blk.new v4 3 #[.int .i64 2, .int .i64 3])
  go_wp2
  refine wp_loop_rounds 3 ?_
  rw [rounds_succ]
  go_wp2_with fail
  refine (oneOf_c _ _ 2 2 k [2, 3] ?_ rfl (by decide)).mono ?_
  · exact BW.out
  rintro e w' ⟨rfl, rfl⟩
  rw [hk]
  go_wp2_with fail
  rw [rounds_succ]
  go_wp2_with fail
  go_ret2
  exact ⟨rfl, GW.out⟩
set_option maxRecDepth 100000 in
theorem resY_17 (g c : Nat) (k : Int) (w : World) (hk : ([2, 3] : List Int).contains k = true) (h0 : w.cell? ⟨g, 0, none⟩ = some (.int .i64 k)) (h1 : w.cell? ⟨g, 1, none⟩ = some (.int .i64 k)) :
    Calls Tryz.prog 57 #[.int .i64 17, .slice (some ⟨g, 0, none⟩) 2 c] w fun e w' => e = .returned (.tuple #[.int .i64 k, .bool true]) ∧ Gr w w' := by
  go_enter Tryz.func57, Tryz.ntmps57
  have G0 := Lib.hid (Gr.refl w)
  go_wp2_with fail
  refine (oneOf_g _ _ 4 4 17 [6, 8, 9, 10] ?_ rfl (by decide)).mono ?_
  · exact blk_new rfl _ _
  rintro e v0 ⟨rfl, hg⟩
  have G1 := Lib.hid ((G0.out.cells _ _).trans hg)
  clear hg
  rw [show ([6, 8, 9, 10] : List Int).contains 17 = false by decide]
  go_wp2_with fail
  refine (oneOf_g _ _ 4 4 17 [7, 19, 20, 21] ?_ rfl (by decide)).mono ?_
  · exact blk_new rfl _ _
  rintro e v1 ⟨rfl, hg⟩
  have G2 := Lib.hid ((G1.out.cells _ _).trans hg)
  clear hg
  rw [show ([7, 19, 20, 21] : List Int).contains 17 = false by decide]
  go_wp2_with fail
  refine (oneOf_g _ _ 2 2 17 [17, 18] ?_ rfl (by decide)).mono ?_
  · exact blk_new rfl _ _
  rintro e v2 ⟨rfl, hg⟩
  have G3 := Lib.hid ((G2.out.cells _ _).trans hg)
  clear hg
  rw [show ([17, 18] : List Int).contains 17 = true by decide]
  have GW := Lib.hid (G3.out.cells #[.int .i64 2, .int .i64 3] 3)
  have k0 := GW.out.kp.cell h0 (by simp)
  have k1 := GW.out.kp.cell h1 (by simp)
  have BW := Lib.hid (Blk.new v2 3 #[.int .i64 2, .int .i64 3])
  have p0 := G3.out.kp.cell h0 (by simp)
  go_wp2
  go_region
  go_wp2
  refine wp_loop_rounds 3 ?_
  rw [rounds_succ]
  go_wp2_with fail
  refine (oneOf_c _ _ 2 2 k [2, 3] ?_ rfl (by decide)).mono ?_
  · exact BW.out
  rintro e w' ⟨rfl, rfl⟩
  rw [hk]
  go_wp2_with fail
  rw [rounds_succ]
  go_wp2_with fail
  refine (oneOf_c _ _ 2 2 k [2, 3] ?_ rfl (by decide)).mono ?_
  · exact BW.out
  rintro e w' ⟨rfl, rfl⟩
  rw [hk]
  go_wp2_with fail
  rw [rounds_succ]
  go_wp2_with fail
  go_ret2
  exact ⟨rfl, GW.out.drew⟩
set_option maxRecDepth 100000 in
theorem resN_17 (g c : Nat) (k l : Int) (w : World) (hk : ([2, 3] : List Int).contains k = false) (h0 : w.cell? ⟨g, 0, none⟩ = some (.int .i64 k)) (h1 : w.cell? ⟨g, 1, none⟩ = some (.int .i64 l)) :
    Calls Tryz.prog 57 #[.int .i64 17, .slice (some ⟨g, 0, none⟩) 2 c] w fun e w' => e = .returned (.tuple #[.int .i64 0, .bool false]) ∧ Gr w w' := by
  go_enter Tryz.func57, Tryz.ntmps57
  have G0 := Lib.hid (Gr.refl w)
  go_wp2_with fail
  refine (oneOf_g _ _ 4 4 17 [6, 8, 9, 10] ?_ rfl (by decide)).mono ?_
  · exact blk_new rfl _ _
  rintro e v0 ⟨rfl, hg⟩
  have G1 := Lib.hid ((G0.out.cells _ _).trans hg)
  clear hg
  rw [show ([6, 8, 9, 10] : List Int).contains 17 = false by decide]
  go_wp2_with fail
  refine (oneOf_g _ _ 4 4 17 [7, 19, 20, 21] ?_ rfl (by decide)).mono ?_
  · exact blk_new rfl _ _
  rintro e v1 ⟨rfl, hg⟩
  have G2 := Lib.hid ((G1.out.cells _ _).trans hg)
  clear hg
  rw [show ([7, 19, 20, 21] : List Int).contains 17 = false by decide]
  go_wp2_with fail
  refine (oneOf_g _ _ 2 2 17 [17, 18] ?_ rfl (by decide)).mono ?_
  · exact blk_new rfl _ _
  rintro e v2 ⟨rfl, hg⟩
  have G3 := Lib.hid ((G2.out.cells _ _).trans hg)
  clear hg
  rw [show ([17, 18] : List Int).contains 17 = true by decide]
  have GW := Lib.hid (G3.out.cells #[.int .i64 2, .int .i64 3] 3)
  have k0 := GW.out.kp.cell h0 (by simp)
  have k1 := GW.out.kp.cell h1 (by simp)
  have BW := Lib.hid (Blk.new v2 3 #[.int .i64 2, .int .i64 3])
  have p0 := G3.out.kp.cell h0 (by simp)
  go_wp2
  go_region
  go_wp2
  refine wp_loop_rounds 3 ?_
  rw [rounds_succ]
  go_wp2_with fail
  refine (oneOf_c _ _ 2 2 k [2, 3] ?_ rfl (by decide)).mono ?_
  · exact BW.out
  rintro e w' ⟨rfl, rfl⟩
  rw [hk]
  go_wp2_with fail
  go_ret2
  exact ⟨rfl, GW.out.drew⟩
set_option maxRecDepth 100000 in
theorem resM_17 (g c : Nat) (k l : Int) (w : World) (hk : ([2, 3] : List Int).contains k = true) (hl : ¬ l = k) (h0 : w.cell? ⟨g, 0, none⟩ = some (.int .i64 k)) (h1 : w.cell? ⟨g, 1, none⟩ = some (.int .i64 l)) :
    Calls Tryz.prog 57 #[.int .i64 17, .slice (some ⟨g, 0, none⟩) 2 c] w fun e w' => e = .returned (.tuple #[.int .i64 0, .bool false]) ∧ Gr w w' := by
  go_enter Tryz.func57, Tryz.ntmps57
  have G0 := Lib.hid (Gr.refl w)
  go_wp2_with fail
  refine (oneOf_g _ _ 4 4 17 [6, 8, 9, 10] ?_ rfl (by decide)).mono ?_
  · exact blk_new rfl _ _
  rintro e v0 ⟨rfl, hg⟩
  have G1 := Lib.hid ((G0.out.cells _ _).trans hg)
  clear hg
  rw [show ([6, 8, 9, 10] : List Int).contains 17 = false by decide]
  go_wp2_with fail
  refine (oneOf_g _ _ 4 4 17 [7, 19, 20, 21] ?_ rfl (by decide)).mono ?_
  · exact blk_new rfl _ _
  rintro e v1 ⟨rfl, hg⟩
  have G2 := Lib.hid ((G1.out.cells _ _).trans hg)
  clear hg
  rw [show ([7, 19, 20, 21] : List Int).contains 17 = false by decide]
  go_wp2_with fail
  refine (oneOf_g _ _ 2 2 17 [17, 18] ?_ rfl (by decide)).mono ?_
  · exact blk_new rfl _ _
  rintro e v2 ⟨rfl, hg⟩
  have G3 := Lib.hid ((G2.out.cells _ _).trans hg)
  clear hg
  rw [show ([17, 18] : List Int).contains 17 = true by decide]
  have GW := Lib.hid (G3.out.cells #[.int .i64 2, .int .i64 3] 3)
  have k0 := GW.out.kp.cell h0 (by simp)
  have k1 := GW.out.kp.cell h1 (by simp)
  have BW := Lib.hid (Blk.new v2 3 #[.int .i64 2, .int .i64 3])
  have p0 := G3.out.kp.cell h0 (by simp)
  go_wp2
  go_region
  go_wp2
  refine wp_loop_rounds 3 ?_
  rw [rounds_succ]
  go_wp2_with fail
  refine (oneOf_c _ _ 2 2 k [2, 3] ?_ rfl (by decide)).mono ?_
  · exact BW.out
  rintro e w' ⟨rfl, rfl⟩
  rw [hk]
  go_wp2_with fail
  rw [rounds_succ]
  go_wp2_with fail
  go_ret2
  exact ⟨rfl, GW.out.drew⟩
end Go.Proofs.YtgldbeacjacbcaaGreat
