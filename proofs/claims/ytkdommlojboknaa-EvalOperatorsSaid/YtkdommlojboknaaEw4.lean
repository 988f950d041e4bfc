import Derived.Test.YtkdommlojboknaaEw3
namespace Go.Proofs.Ytkdommlojboknaa
open Go.RowKit

set_option maxRecDepth 100000 in
set_option maxHeartbeats 1000000 in
theorem operators_yy (op v x : Int) (n : Int) (m f : Int) (w : World) (hu : UnYes op v n) (hb : BinYes op v x m f) :
    Calls Try.prog 3 #[.int .i64 op, .int .i64 v, .int .i64 x] w fun e w' => e = .returned (.bool true) ∧ Gr w w' := by
  have hu1 := Lib.hid hu.ours
  have hu2 := Lib.hid hu.theirs
  have hb1 := Lib.hid hb.ours
  have hb2 := Lib.hid hb.theirs
  clear hu hb
  obtain ⟨a, ha⟩ : ∃ a, wrap32 v = a := ⟨_, rfl⟩
  obtain ⟨b, hv⟩ : ∃ b, valB v = b := ⟨_, rfl⟩
  replace ha := Lib.hid ha
  replace hv := Lib.hid hv
  have hbb : (b == b) = true := by simp
  go_enter Try.func3, Try.ntmps3
  go_wp2_with fail
  refine (hu1.out _).mono ?_
  rintro e w1 ⟨rfl, h1⟩
  go_wp2_with fail
  refine (hu2.out _).mono ?_
  rintro e w' ⟨rfl, rfl⟩
  go_wp2_with fail
  refine (hb1.out _).mono ?_
  rintro e w2 ⟨rfl, h2⟩
  go_wp2_with fail
  refine (hb2.out _).mono ?_
  rintro e w' ⟨rfl, rfl⟩
  go_wp2_with fail
  refine (wrap_c v _).mono ?_
  rintro e w' ⟨rfl, rfl⟩
  rw [ha.out]
  go_wp2_with fail
  refine (rwrap_c v _).mono ?_
  rintro e w' ⟨rfl, rfl⟩
  rw [ha.out]
  go_wp2_with fail
  refine (isValue_c v _).mono ?_
  rintro e w' ⟨rfl, rfl⟩
  rw [hv.out]
  go_wp2_with fail
  refine (rValue_c v _).mono ?_
  rintro e w' ⟨rfl, rfl⟩
  rw [hv.out]
  go_wp2_with fail
  refine (awake_c _).mono ?_
  rintro e w3 ⟨rfl, h3⟩
  go_wp2_with fail
  go_ret
  exact ⟨rfl, (h1.trans h2).trans h3⟩
set_option maxRecDepth 100000 in
set_option maxHeartbeats 1000000 in
theorem operators_yn (op v x : Int) (n : Int)  (w : World) (hu : UnYes op v n) (hb : BinNo op v x) :
    Calls Try.prog 3 #[.int .i64 op, .int .i64 v, .int .i64 x] w fun e w' => e = .returned (.bool true) ∧ Gr w w' := by
  have hu1 := Lib.hid hu.ours
  have hu2 := Lib.hid hu.theirs
  have hb1 := Lib.hid hb.ours
  have hb2 := Lib.hid hb.theirs
  clear hu hb
  obtain ⟨a, ha⟩ : ∃ a, wrap32 v = a := ⟨_, rfl⟩
  obtain ⟨b, hv⟩ : ∃ b, valB v = b := ⟨_, rfl⟩
  replace ha := Lib.hid ha
  replace hv := Lib.hid hv
  have hbb : (b == b) = true := by simp
  go_enter Try.func3, Try.ntmps3
  go_wp2_with fail
  refine (hu1.out _).mono ?_
  rintro e w1 ⟨rfl, h1⟩
  go_wp2_with fail
  refine (hu2.out _).mono ?_
  rintro e w' ⟨rfl, rfl⟩
  go_wp2_with fail
  refine (hb1.out _).mono ?_
  rintro e w2 ⟨rfl, h2⟩
  go_wp2_with fail
  refine (hb2.out _).mono ?_
  rintro e w' ⟨rfl, rfl⟩
  go_wp2_with fail
  refine (wrap_c v _).mono ?_
  rintro e w' ⟨rfl, rfl⟩
  rw [ha.out]
  go_wp2_with fail
  refine (rwrap_c v _).mono ?_
  rintro e w' ⟨rfl, rfl⟩
  rw [ha.out]
  go_wp2_with fail
  refine (isValue_c v _).mono ?_
  rintro e w' ⟨rfl, rfl⟩
  rw [hv.out]
  go_wp2_with fail
  refine (rValue_c v _).mono ?_
  rintro e w' ⟨rfl, rfl⟩
  rw [hv.out]
  go_wp2_with fail
  refine (awake_c _).mono ?_
  rintro e w3 ⟨rfl, h3⟩
  go_wp2_with fail
  go_ret
  exact ⟨rfl, (h1.trans h2).trans h3⟩
set_option maxRecDepth 100000 in
set_option maxHeartbeats 1000000 in
theorem operators_ny (op v x : Int) (n : Int) (m f : Int) (w : World) (hu : UnNo op v n) (hb : BinYes op v x m f) :
    Calls Try.prog 3 #[.int .i64 op, .int .i64 v, .int .i64 x] w fun e w' => e = .returned (.bool true) ∧ Gr w w' := by
  have hu1 := Lib.hid hu.ours
  have hu2 := Lib.hid hu.theirs
  have hb1 := Lib.hid hb.ours
  have hb2 := Lib.hid hb.theirs
  clear hu hb
  obtain ⟨a, ha⟩ : ∃ a, wrap32 v = a := ⟨_, rfl⟩
  obtain ⟨b, hv⟩ : ∃ b, valB v = b := ⟨_, rfl⟩
  replace ha := Lib.hid ha
  replace hv := Lib.hid hv
  have hbb : (b == b) = true := by simp
  go_enter Try.func3, Try.ntmps3
  go_wp2_with fail
  refine (hu1.out _).mono ?_
  rintro e w1 ⟨rfl, h1⟩
  go_wp2_with fail
  refine (hu2.out _).mono ?_
  rintro e w' ⟨rfl, rfl⟩
  go_wp2_with fail
  refine (hb1.out _).mono ?_
  rintro e w2 ⟨rfl, h2⟩
  go_wp2_with fail
  refine (hb2.out _).mono ?_
  rintro e w' ⟨rfl, rfl⟩
  go_wp2_with fail
  refine (wrap_c v _).mono ?_
  rintro e w' ⟨rfl, rfl⟩
  rw [ha.out]
  go_wp2_with fail
  refine (rwrap_c v _).mono ?_
  rintro e w' ⟨rfl, rfl⟩
  rw [ha.out]
  go_wp2_with fail
  refine (isValue_c v _).mono ?_
  rintro e w' ⟨rfl, rfl⟩
  rw [hv.out]
  go_wp2_with fail
  refine (rValue_c v _).mono ?_
  rintro e w' ⟨rfl, rfl⟩
  rw [hv.out]
  go_wp2_with fail
  refine (awake_c _).mono ?_
  rintro e w3 ⟨rfl, h3⟩
  go_wp2_with fail
  go_ret
  exact ⟨rfl, (h1.trans h2).trans h3⟩
set_option maxRecDepth 100000 in
set_option maxHeartbeats 1000000 in
theorem operators_nn (op v x : Int) (n : Int)  (w : World) (hu : UnNo op v n) (hb : BinNo op v x) :
    Calls Try.prog 3 #[.int .i64 op, .int .i64 v, .int .i64 x] w fun e w' => e = .returned (.bool true) ∧ Gr w w' := by
  have hu1 := Lib.hid hu.ours
  have hu2 := Lib.hid hu.theirs
  have hb1 := Lib.hid hb.ours
  have hb2 := Lib.hid hb.theirs
  clear hu hb
  obtain ⟨a, ha⟩ : ∃ a, wrap32 v = a := ⟨_, rfl⟩
  obtain ⟨b, hv⟩ : ∃ b, valB v = b := ⟨_, rfl⟩
  replace ha := Lib.hid ha
  replace hv := Lib.hid hv
  have hbb : (b == b) = true := by simp
  go_enter Try.func3, Try.ntmps3
  go_wp2_with fail
  refine (hu1.out _).mono ?_
  rintro e w1 ⟨rfl, h1⟩
  go_wp2_with fail
  refine (hu2.out _).mono ?_
  rintro e w' ⟨rfl, rfl⟩
  go_wp2_with fail
  refine (hb1.out _).mono ?_
  rintro e w2 ⟨rfl, h2⟩
  go_wp2_with fail
  refine (hb2.out _).mono ?_
  rintro e w' ⟨rfl, rfl⟩
  go_wp2_with fail
  refine (wrap_c v _).mono ?_
  rintro e w' ⟨rfl, rfl⟩
  rw [ha.out]
  go_wp2_with fail
  refine (rwrap_c v _).mono ?_
  rintro e w' ⟨rfl, rfl⟩
  rw [ha.out]
  go_wp2_with fail
  refine (isValue_c v _).mono ?_
  rintro e w' ⟨rfl, rfl⟩
  rw [hv.out]
  go_wp2_with fail
  refine (rValue_c v _).mono ?_
  rintro e w' ⟨rfl, rfl⟩
  rw [hv.out]
  go_wp2_with fail
  refine (awake_c _).mono ?_
  rintro e w3 ⟨rfl, h3⟩
  go_wp2_with fail
  go_ret
  exact ⟨rfl, (h1.trans h2).trans h3⟩
theorem operators_c (op v x : Int) (w : World) (_ : (Lit.int .i64 op).wf = true) (_ : (Lit.int .i64 v).wf = true) (_ : (Lit.int .i64 x).wf = true) :
    Calls Try.prog 3 #[.int .i64 op, .int .i64 v, .int .i64 x] w fun e w' => e = .returned (.bool true) ∧ Gr w w' := by
  rcases un_both op v with ⟨n, hu⟩ | ⟨n, hu⟩ <;> rcases bin_both op v x with ⟨m, f, hb⟩ | hb
  · exact operators_yy op v x n m f w hu hb
  · exact operators_yn op v x n w hu hb
  · exact operators_ny op v x n m f w hu hb
  · exact operators_nn op v x n w hu hb
end Go.Proofs.Ytkdommlojboknaa
