import Derived.Test.YtieacfenoomaeaaQc2
import Derived.Deep.QuietTactic
set_option linter.unusedSimpArgs false
set_option linter.unusedVariables false
namespace Go.Proofs.Ytieacfenoomaeaa
open Go.RowKit

def tmB (k : ByteArray) : Bool := k.toList == [116, 111, 110] || k.toList == [116, 111, 102] || k.toList == [116, 112]
theorem isTimed_c (k : ByteArray) (w : World) : Calls Try.prog 16 #[.string k] w fun r w' => r = .returned (.bool (tmB k)) ∧ w' = w := by
  obtain ⟨b1, h1⟩ : ∃ b, (k.toList == [116, 111, 110]) = b := ⟨_, rfl⟩
  obtain ⟨b2, h2⟩ : ∃ b, (k.toList == [116, 111, 102]) = b := ⟨_, rfl⟩
  obtain ⟨b3, h3⟩ : ∃ b, (k.toList == [116, 112]) = b := ⟨_, rfl⟩
  have e : tmB k = (b1 || b2 || b3) := by unfold tmB; rw [h1, h2, h3]
  rw [e]
  clear e
  cases b1 <;> cases b2 <;> cases b3
  all_goals
    go_enter Try.func16, Try.ntmps16
    go_wp2
    go_ret
    exact ⟨rfl, rfl⟩
theorem risTimed_c (k : ByteArray) (w : World) : Calls Try.prog 17 #[.string k] w fun r w' => r = .returned (.bool (tmB k)) ∧ w' = w := by
  obtain ⟨b1, h1⟩ : ∃ b, (k.toList == [116, 111, 110]) = b := ⟨_, rfl⟩
  obtain ⟨b2, h2⟩ : ∃ b, (k.toList == [116, 111, 102]) = b := ⟨_, rfl⟩
  obtain ⟨b3, h3⟩ : ∃ b, (k.toList == [116, 112]) = b := ⟨_, rfl⟩
  have e : tmB k = (b1 || b2 || b3) := by unfold tmB; rw [h1, h2, h3]
  rw [e]
  clear e
  cases b1 <;> cases b2 <;> cases b3
  all_goals
    go_enter Try.func17, Try.ntmps17
    go_wp2
    go_ret
    exact ⟨rfl, rfl⟩
theorem tmB_0 : tmB (nmb 0) = true := by unfold tmB nmb nm; decide +kernel
theorem tmB_1 : tmB (nmb 1) = true := by unfold tmB nmb nm; decide +kernel
theorem tmB_2 : tmB (nmb 2) = true := by unfold tmB nmb nm; decide +kernel
theorem tmB_3 : tmB (nmb 3) = false := by unfold tmB nmb nm; decide +kernel
theorem tmB_4 : tmB (nmb 4) = false := by unfold tmB nmb nm; decide +kernel
theorem tmB_5 : tmB (nmb 5) = false := by unfold tmB nmb nm; decide +kernel
theorem tmB_6 : tmB (nmb 6) = false := by unfold tmB nmb nm; decide +kernel
theorem tmB_7 : tmB (nmb 7) = false := by unfold tmB nmb nm; decide +kernel
theorem tmB_8 : tmB (nmb 8) = false := by unfold tmB nmb nm; decide +kernel
/-- When a block wakes. -/
def wkF (timed : Bool) (x : F6) : Int := if timed = true ∧ x.f = 1 ∧ x.d < pre x.b then x.e + pre x.b else -1
def WakeOk (n : Int) (w : World) (r : Ending) (w' : World) : Prop := r = .returned (.tuple #[.int .i64 n, .int .i64 0]) ∧ Kp [] w w'
def WakeErr (n : Int) (w : World) (r : Ending) (w' : World) : Prop := r = .returned (.tuple #[.int .i64 0, .int .i64 n]) ∧ Kp [] w w'
set_option maxRecDepth 100000 in
set_option maxHeartbeats 1000000 in
theorem wakes_no (k : ByteArray) (v : Value) (w : World) (hP : Hid (∀ W, Kp [] w W → Calls Try.prog 30 #[.string k, v] W fun r w' => r = .returned (.tuple #[noPart, .int .i64 6]) ∧ Kp [] W w')) :
    Calls Try.prog 12 #[.string k, v] w (WakeErr 6 w) := by
  go_enter Try.func12, Try.ntmps12
  go_wp2_with fail
  refine (hP.out _ (Kp.refl _ _)).mono ?_
  rintro r w1 ⟨rfl, hk1⟩
  unfold noPart
  go_wp2
  go_ret2
  exact ⟨rfl, hk1.alloc _⟩
set_option maxRecDepth 100000 in
set_option maxHeartbeats 1000000 in
theorem wakes_bad (k : ByteArray) (v : Value) (w : World) (hP : Hid (∀ W, Kp [] w W → Calls Try.prog 30 #[.string k, v] W fun r w' => r = .returned (.tuple #[noPart, .int .i64 2]) ∧ Kp [] W w')) :
    Calls Try.prog 12 #[.string k, v] w (WakeErr 2 w) := by
  go_enter Try.func12, Try.ntmps12
  go_wp2_with fail
  refine (hP.out _ (Kp.refl _ _)).mono ?_
  rintro r w1 ⟨rfl, hk1⟩
  unfold noPart
  go_wp2
  go_ret2
  exact ⟨rfl, hk1.alloc _⟩
set_option maxRecDepth 100000 in
set_option maxHeartbeats 1000000 in
theorem wakes_untimed (k : ByteArray) (K n : Nat) (L : List (ByteArray × Int × Int)) (x : F6) (v : Value) (w : World)
    (hP : Hid (∀ W, Kp [] w W → Calls Try.prog 30 #[.string k, v] W fun r w' => ∃ g, r = .returned (.tuple #[partV g n K x, .int .i64 0]) ∧ VarsAt w' g L ∧ Kp [] W w')) (ht : tmB k = false) : Calls Try.prog 12 #[.string k, v] w (WakeOk (-1) w) := by
  obtain ⟨a, b, c, d, e, f⟩ := x
  have ht' := Lib.hid ht
  have hit : Hid (∀ W, Calls Try.prog 16 #[.string k] W fun r w' => r = .returned (.bool false) ∧ w' = W) := fun W => by rw [← ht]; exact isTimed_c k W
  clear ht
  go_enter Try.func12, Try.ntmps12
  go_wp2_with fail
  refine (hP.out _ (Kp.refl _ _)).mono ?_
  rintro r w1 ⟨g, rfl, hV, hk1⟩
  have hB := Blk.new w1 67 (partCells g n K ⟨a, b, c, d, e, f⟩)
  have hK1 := hk1.alloc (.cells (partCells g n K ⟨a, b, c, d, e, f⟩) 67)
  obtain ⟨W1, hW1⟩ : ∃ W1, w1.alloc (.cells (partCells g n K ⟨a, b, c, d, e, f⟩) 67) = W1 := ⟨_, rfl⟩
  rw [hW1] at hB hK1
  unfold partV
  unfold partCells at hW1 hB
  obtain ⟨gx, hgx⟩ : ∃ x, w1.heap.size = x := ⟨_, rfl⟩
  rw [hgx] at hB
  have e1 := hB.cell 1 rfl
  have e2 := hB.cell 2 rfl
  have e3 := hB.cell 3 rfl
  have e4 := hB.cell 4 rfl
  have e5 := hB.cell 5 rfl
  have e6 := hB.cell 6 rfl
  have e7 := hB.cell 7 rfl
  replace hK1 := Lib.hid hK1
  replace hW1 := Lib.hid hW1
  clear hV hk1
  go_wp2_with fail
  rw [hW1.out]
  try rw [hgx]
  go_quiet (first | (go_at_call 16; exact Calls.quiet_of_same (v := .bool false) (hit.out _)))
  go_wp2
  go_ret2
  exact ⟨rfl, hK1.out.drewN _⟩
set_option maxRecDepth 100000 in
set_option maxHeartbeats 1000000 in
theorem wakes_idle (k : ByteArray) (K n : Nat) (L : List (ByteArray × Int × Int)) (x : F6) (v : Value) (w : World)
    (hP : Hid (∀ W, Kp [] w W → Calls Try.prog 30 #[.string k, v] W fun r w' => ∃ g, r = .returned (.tuple #[partV g n K x, .int .i64 0]) ∧ VarsAt w' g L ∧ Kp [] W w')) (ht : tmB k = true) (hf : ¬ x.f = 1) : Calls Try.prog 12 #[.string k, v] w (WakeOk (-1) w) := by
  obtain ⟨a, b, c, d, e, f⟩ := x
  have hf2 : (f == 1) = false := by simpa using hf
  have hf3 : (f != 1) = true := by simpa using hf
  replace hf := Lib.hid hf
  have ht' := Lib.hid ht
  have hit : Hid (∀ W, Calls Try.prog 16 #[.string k] W fun r w' => r = .returned (.bool true) ∧ w' = W) := fun W => by rw [← ht]; exact isTimed_c k W
  clear ht
  go_enter Try.func12, Try.ntmps12
  go_wp2_with fail
  refine (hP.out _ (Kp.refl _ _)).mono ?_
  rintro r w1 ⟨g, rfl, hV, hk1⟩
  have hB := Blk.new w1 67 (partCells g n K ⟨a, b, c, d, e, f⟩)
  have hK1 := hk1.alloc (.cells (partCells g n K ⟨a, b, c, d, e, f⟩) 67)
  obtain ⟨W1, hW1⟩ : ∃ W1, w1.alloc (.cells (partCells g n K ⟨a, b, c, d, e, f⟩) 67) = W1 := ⟨_, rfl⟩
  rw [hW1] at hB hK1
  unfold partV
  unfold partCells at hW1 hB
  obtain ⟨gx, hgx⟩ : ∃ x, w1.heap.size = x := ⟨_, rfl⟩
  rw [hgx] at hB
  have e1 := hB.cell 1 rfl
  have e2 := hB.cell 2 rfl
  have e3 := hB.cell 3 rfl
  have e4 := hB.cell 4 rfl
  have e5 := hB.cell 5 rfl
  have e6 := hB.cell 6 rfl
  have e7 := hB.cell 7 rfl
  replace hK1 := Lib.hid hK1
  replace hW1 := Lib.hid hW1
  clear hV hk1
  go_wp2_with fail
  rw [hW1.out]
  try rw [hgx]
  go_quiet (first | (go_at_call 16; exact Calls.quiet_of_same (v := .bool true) (hit.out _)))
  go_wp2
  go_ret2
  exact ⟨rfl, hK1.out.drewN _⟩
set_option maxRecDepth 100000 in
set_option maxHeartbeats 2000000 in
theorem wakes_done (k : ByteArray) (K n : Nat) (L : List (ByteArray × Int × Int)) (x : F6) (v : Value) (w : World)
    (hP : Hid (∀ W, Kp [] w W → Calls Try.prog 30 #[.string k, v] W fun r w' => ∃ g, r = .returned (.tuple #[partV g n K x, .int .i64 0]) ∧ VarsAt w' g L ∧ Kp [] W w')) (ht : tmB k = true) (hf : x.f = 1) (hd : pre x.b ≤ x.d) : Calls Try.prog 12 #[.string k, v] w (WakeOk (-1) w) := by
  obtain ⟨a, b, c, d, e, f⟩ := x
  obtain rfl : f = 1 := hf
  have hp := Lib.hid (fun W => preset_c a b c d e 1 W)
  unfold fr at hp
  have hd2 : decide (pre b ≤ d) = true := by simpa using hd
  replace hd := Lib.hid hd
  have ht' := Lib.hid ht
  have hit : Hid (∀ W, Calls Try.prog 16 #[.string k] W fun r w' => r = .returned (.bool true) ∧ w' = W) := fun W => by rw [← ht]; exact isTimed_c k W
  clear ht
  go_enter Try.func12, Try.ntmps12
  go_wp2_with fail
  refine (hP.out _ (Kp.refl _ _)).mono ?_
  rintro r w1 ⟨g, rfl, hV, hk1⟩
  have hB := Blk.new w1 67 (partCells g n K ⟨a, b, c, d, e, 1⟩)
  have hK1 := hk1.alloc (.cells (partCells g n K ⟨a, b, c, d, e, 1⟩) 67)
  obtain ⟨W1, hW1⟩ : ∃ W1, w1.alloc (.cells (partCells g n K ⟨a, b, c, d, e, 1⟩) 67) = W1 := ⟨_, rfl⟩
  rw [hW1] at hB hK1
  unfold partV
  unfold partCells at hW1 hB
  obtain ⟨gx, hgx⟩ : ∃ x, w1.heap.size = x := ⟨_, rfl⟩
  rw [hgx] at hB
  have e1 := hB.cell 1 rfl
  have e2 := hB.cell 2 rfl
  have e3 := hB.cell 3 rfl
  have e4 := hB.cell 4 rfl
  have e5 := hB.cell 5 rfl
  have e6 := hB.cell 6 rfl
  have e7 := hB.cell 7 rfl
  replace hK1 := Lib.hid hK1
  replace hW1 := Lib.hid hW1
  clear hV hk1
  go_wp2_with fail
  rw [hW1.out]
  try rw [hgx]
  have hall : Hid (∀ W', Kp [] W1 W' → W'.cell? ⟨gx, 2, none⟩ = some (.int .i64 a) ∧ W'.cell? ⟨gx, 3, none⟩ = some (.int .i64 b) ∧ W'.cell? ⟨gx, 4, none⟩ = some (.int .i64 c) ∧ W'.cell? ⟨gx, 5, none⟩ = some (.int .i64 d) ∧ W'.cell? ⟨gx, 6, none⟩ = some (.int .i64 e) ∧ W'.cell? ⟨gx, 7, none⟩ = some (.int .i64 1)) :=
    fun W' k => ⟨k.cell e2 (by simp), k.cell e3 (by simp), k.cell e4 (by simp), k.cell e5 (by simp), k.cell e6 (by simp), k.cell e7 (by simp)⟩
  have hB' := Lib.hid hB
  clear e1 e2 e3 e4 e5 e6 e7 hB
  have hit2 := Lib.hid (hit.out W1.drew)
  have hp2 := Lib.hid (hp.out W1.drew)
  go_region_held3 (fun W' => W'.cell? ⟨gx, 2, none⟩ = some (.int .i64 a) ∧ W'.cell? ⟨gx, 3, none⟩ = some (.int .i64 b) ∧ W'.cell? ⟨gx, 4, none⟩ = some (.int .i64 c) ∧ W'.cell? ⟨gx, 5, none⟩ = some (.int .i64 d) ∧ W'.cell? ⟨gx, 6, none⟩ = some (.int .i64 e) ∧ W'.cell? ⟨gx, 7, none⟩ = some (.int .i64 1))
    (first | exact hall.out _ hk5.out | exact hall.out _ (Kp.refl _ _) | exact hall.out _ (Kp.refl _ _).drew)
    (first | (go_at_call 33; refine hp2.out.mono ?_; rintro r w5 ⟨rfl, hk5⟩; replace hk5 := Lib.hid ((Kp.refl [] W1).drew.trans hk5)) | (go_at_call 16; refine hit2.out.mono ?_; rintro r w4 ⟨rfl, rfl⟩))
  all_goals
    go_wp2_with fail
    go_ret2
    exact ⟨rfl, hK1.out.trans hk5.out⟩
set_option maxRecDepth 100000 in
set_option maxHeartbeats 2000000 in
theorem wakes_run (k : ByteArray) (K n : Nat) (L : List (ByteArray × Int × Int)) (x : F6) (v : Value) (w : World)
    (hP : Hid (∀ W, Kp [] w W → Calls Try.prog 30 #[.string k, v] W fun r w' => ∃ g, r = .returned (.tuple #[partV g n K x, .int .i64 0]) ∧ VarsAt w' g L ∧ Kp [] W w')) (ht : tmB k = true) (hf : x.f = 1) (hd : ¬ pre x.b ≤ x.d) (hb : -2147483648 ≤ x.b ∧ x.b ≤ 2147483647) (he : -2147483648 ≤ x.e ∧ x.e ≤ 2147483647) : Calls Try.prog 12 #[.string k, v] w (WakeOk (x.e + pre x.b) w) := by
  obtain ⟨a, b, c, d, e, f⟩ := x
  obtain rfl : f = 1 := hf
  have hp := Lib.hid (fun W => preset_c a b c d e 1 W)
  unfold fr at hp
  have hd2 : decide (pre b ≤ d) = false := by simpa using hd
  replace hd := Lib.hid hd
  have hpb := pre_bd (b := b) hb
  replace he : -2147483648 ≤ e ∧ e ≤ 2147483647 := he
  have hww : IntKind.i64.wrap (e + pre b) = e + pre b := IntWalk.i64_in _ (by have := he.1; have := he.2; omega)
  have hww2 : wrap64 (e + pre b) = e + pre b := IntWalk.wrap64_in _ (by have := he.1; have := he.2; omega)
  replace he := Lib.hid he
  replace hb := Lib.hid hb
  replace hpb := Lib.hid hpb
  have ht' := Lib.hid ht
  have hit : Hid (∀ W, Calls Try.prog 16 #[.string k] W fun r w' => r = .returned (.bool true) ∧ w' = W) := fun W => by rw [← ht]; exact isTimed_c k W
  clear ht
  go_enter Try.func12, Try.ntmps12
  go_wp2_with fail
  refine (hP.out _ (Kp.refl _ _)).mono ?_
  rintro r w1 ⟨g, rfl, hV, hk1⟩
  have hB := Blk.new w1 67 (partCells g n K ⟨a, b, c, d, e, 1⟩)
  have hK1 := hk1.alloc (.cells (partCells g n K ⟨a, b, c, d, e, 1⟩) 67)
  obtain ⟨W1, hW1⟩ : ∃ W1, w1.alloc (.cells (partCells g n K ⟨a, b, c, d, e, 1⟩) 67) = W1 := ⟨_, rfl⟩
  rw [hW1] at hB hK1
  unfold partV
  unfold partCells at hW1 hB
  obtain ⟨gx, hgx⟩ : ∃ x, w1.heap.size = x := ⟨_, rfl⟩
  rw [hgx] at hB
  have e1 := hB.cell 1 rfl
  have e2 := hB.cell 2 rfl
  have e3 := hB.cell 3 rfl
  have e4 := hB.cell 4 rfl
  have e5 := hB.cell 5 rfl
  have e6 := hB.cell 6 rfl
  have e7 := hB.cell 7 rfl
  replace hK1 := Lib.hid hK1
  replace hW1 := Lib.hid hW1
  clear hV hk1
  go_wp2_with fail
  rw [hW1.out]
  try rw [hgx]
  have hall : Hid (∀ W', Kp [] W1 W' → W'.cell? ⟨gx, 2, none⟩ = some (.int .i64 a) ∧ W'.cell? ⟨gx, 3, none⟩ = some (.int .i64 b) ∧ W'.cell? ⟨gx, 4, none⟩ = some (.int .i64 c) ∧ W'.cell? ⟨gx, 5, none⟩ = some (.int .i64 d) ∧ W'.cell? ⟨gx, 6, none⟩ = some (.int .i64 e) ∧ W'.cell? ⟨gx, 7, none⟩ = some (.int .i64 1)) :=
    fun W' k => ⟨k.cell e2 (by simp), k.cell e3 (by simp), k.cell e4 (by simp), k.cell e5 (by simp), k.cell e6 (by simp), k.cell e7 (by simp)⟩
  have hB' := Lib.hid hB
  clear e1 e2 e3 e4 e5 e6 e7 hB
  have hit2 := Lib.hid (hit.out W1.drew)
  have hp2 := Lib.hid (hp.out W1.drew)
  go_region_held3 (fun W' => W'.cell? ⟨gx, 2, none⟩ = some (.int .i64 a) ∧ W'.cell? ⟨gx, 3, none⟩ = some (.int .i64 b) ∧ W'.cell? ⟨gx, 4, none⟩ = some (.int .i64 c) ∧ W'.cell? ⟨gx, 5, none⟩ = some (.int .i64 d) ∧ W'.cell? ⟨gx, 6, none⟩ = some (.int .i64 e) ∧ W'.cell? ⟨gx, 7, none⟩ = some (.int .i64 1))
    (first | exact hall.out _ hk5.out | exact hall.out _ (Kp.refl _ _) | exact hall.out _ (Kp.refl _ _).drew)
    (first | (go_at_call 33; refine hp2.out.mono ?_; rintro r w5 ⟨rfl, hk5⟩; replace hk5 := Lib.hid ((Kp.refl [] W1).drew.trans hk5)) | (go_at_call 16; refine hit2.out.mono ?_; rintro r w4 ⟨rfl, rfl⟩))
  all_goals
    go_wp2_with fail
    have hall6 : Hid (∀ W', Kp [] w5 W' → W'.cell? ⟨gx, 2, none⟩ = some (.int .i64 a) ∧ W'.cell? ⟨gx, 3, none⟩ = some (.int .i64 b) ∧ W'.cell? ⟨gx, 4, none⟩ = some (.int .i64 c) ∧ W'.cell? ⟨gx, 5, none⟩ = some (.int .i64 d) ∧ W'.cell? ⟨gx, 6, none⟩ = some (.int .i64 e) ∧ W'.cell? ⟨gx, 7, none⟩ = some (.int .i64 1)) := fun W' k => hall.out _ (hk5.out.trans k)
    have hp3 := Lib.hid (hp.out w5.drew)
    clear hall hp2 hit2
    go_region_held3 (fun W' => W'.cell? ⟨gx, 2, none⟩ = some (.int .i64 a) ∧ W'.cell? ⟨gx, 3, none⟩ = some (.int .i64 b) ∧ W'.cell? ⟨gx, 4, none⟩ = some (.int .i64 c) ∧ W'.cell? ⟨gx, 5, none⟩ = some (.int .i64 d) ∧ W'.cell? ⟨gx, 6, none⟩ = some (.int .i64 e) ∧ W'.cell? ⟨gx, 7, none⟩ = some (.int .i64 1))
      (first | exact hall6.out _ hk7.out | exact hall6.out _ (Kp.refl _ _) | exact hall6.out _ (Kp.refl _ _).drew)
      (first | (go_at_call 33; refine hp3.out.mono ?_; rintro r w7 ⟨rfl, hk7⟩; replace hk7 := Lib.hid ((Kp.refl [] w5).drew.trans hk7)))
    all_goals
      go_wp2_with fail
      go_ret2
      exact ⟨rfl, (hK1.out.trans hk5.out).trans hk7.out⟩
def wk (i : Nat) (zs : List Int) : Int := wkF (decide (i < 3)) (f6 zs)
theorem wakes_ton (zs : List Int) (w : World) (v : Value) (hz : Is w v zs) (hv : areV (kin 0) zs = true) : Calls Try.prog 12 #[.string ⟨#[116, 111, 110]⟩, v] w (WakeOk (wk 0 zs) w) := by
  obtain ⟨z0, z1, z2, z3, z4, z5, rfl, h0, h1, h2, h3, h4, h5⟩ := six_of (show areV [1, 3, 1, 3, 3, 1] zs = true from hv)
  have ht : tmB ⟨#[116, 111, 110]⟩ = true := tmB_0
  have hP : Hid (∀ W, Kp [] w W → Calls Try.prog 30 #[.string ⟨#[116, 111, 110]⟩, v] W fun r w' => ∃ g, r = .returned (.tuple #[partV g 6 49 (f6 [z0, z1, z2, z3, z4, z5]), .int .i64 0]) ∧ VarsAt w' g timerL ∧ Kp [] W w') := fun W k => partOf_6 ⟨#[116, 111, 110]⟩ 0 49 78 timerL kind_ton _ hv rfl W v (hz.kp k)
  by_cases hf : z5 = 1
  · by_cases hd : pre z1 ≤ z3
    · have e : wk 0 [z0, z1, z2, z3, z4, z5] = -1 := if_neg (fun h => by have h9 : z3 < pre z1 := h.2.2; omega)
      rw [e]
      exact wakes_done _ 49 6 timerL _ v w hP ht hf hd
    · have e : wk 0 [z0, z1, z2, z3, z4, z5] = z4 + pre z1 := if_pos ⟨rfl, hf, by show z3 < pre z1; omega⟩
      rw [e]
      exact wakes_run _ 49 6 timerL _ v w hP ht hf hd (isV_bd h1) (isV_bd h4)
  · have e : wk 0 [z0, z1, z2, z3, z4, z5] = -1 := if_neg (fun h => hf h.2.1)
    rw [e]
    exact wakes_idle _ 49 6 timerL _ v w hP ht hf
theorem wakes_tof (zs : List Int) (w : World) (v : Value) (hz : Is w v zs) (hv : areV (kin 1) zs = true) : Calls Try.prog 12 #[.string ⟨#[116, 111, 102]⟩, v] w (WakeOk (wk 1 zs) w) := by
  obtain ⟨z0, z1, z2, z3, z4, z5, rfl, h0, h1, h2, h3, h4, h5⟩ := six_of (show areV [1, 3, 1, 3, 3, 1] zs = true from hv)
  have ht : tmB ⟨#[116, 111, 102]⟩ = true := tmB_1
  have hP : Hid (∀ W, Kp [] w W → Calls Try.prog 30 #[.string ⟨#[116, 111, 102]⟩, v] W fun r w' => ∃ g, r = .returned (.tuple #[partV g 6 50 (f6 [z0, z1, z2, z3, z4, z5]), .int .i64 0]) ∧ VarsAt w' g timerL ∧ Kp [] W w') := fun W k => partOf_6 ⟨#[116, 111, 102]⟩ 1 50 78 timerL kind_tof _ hv rfl W v (hz.kp k)
  by_cases hf : z5 = 1
  · by_cases hd : pre z1 ≤ z3
    · have e : wk 1 [z0, z1, z2, z3, z4, z5] = -1 := if_neg (fun h => by have h9 : z3 < pre z1 := h.2.2; omega)
      rw [e]
      exact wakes_done _ 50 6 timerL _ v w hP ht hf hd
    · have e : wk 1 [z0, z1, z2, z3, z4, z5] = z4 + pre z1 := if_pos ⟨rfl, hf, by show z3 < pre z1; omega⟩
      rw [e]
      exact wakes_run _ 50 6 timerL _ v w hP ht hf hd (isV_bd h1) (isV_bd h4)
  · have e : wk 1 [z0, z1, z2, z3, z4, z5] = -1 := if_neg (fun h => hf h.2.1)
    rw [e]
    exact wakes_idle _ 50 6 timerL _ v w hP ht hf
theorem wakes_tp (zs : List Int) (w : World) (v : Value) (hz : Is w v zs) (hv : areV (kin 2) zs = true) : Calls Try.prog 12 #[.string ⟨#[116, 112]⟩, v] w (WakeOk (wk 2 zs) w) := by
  obtain ⟨z0, z1, z2, z3, z4, z5, rfl, h0, h1, h2, h3, h4, h5⟩ := six_of (show areV [1, 3, 1, 3, 3, 1] zs = true from hv)
  have ht : tmB ⟨#[116, 112]⟩ = true := tmB_2
  have hP : Hid (∀ W, Kp [] w W → Calls Try.prog 30 #[.string ⟨#[116, 112]⟩, v] W fun r w' => ∃ g, r = .returned (.tuple #[partV g 6 51 (f6 [z0, z1, z2, z3, z4, z5]), .int .i64 0]) ∧ VarsAt w' g timerL ∧ Kp [] W w') := fun W k => partOf_6 ⟨#[116, 112]⟩ 2 51 78 timerL kind_tp _ hv rfl W v (hz.kp k)
  by_cases hf : z5 = 1
  · by_cases hd : pre z1 ≤ z3
    · have e : wk 2 [z0, z1, z2, z3, z4, z5] = -1 := if_neg (fun h => by have h9 : z3 < pre z1 := h.2.2; omega)
      rw [e]
      exact wakes_done _ 51 6 timerL _ v w hP ht hf hd
    · have e : wk 2 [z0, z1, z2, z3, z4, z5] = z4 + pre z1 := if_pos ⟨rfl, hf, by show z3 < pre z1; omega⟩
      rw [e]
      exact wakes_run _ 51 6 timerL _ v w hP ht hf hd (isV_bd h1) (isV_bd h4)
  · have e : wk 2 [z0, z1, z2, z3, z4, z5] = -1 := if_neg (fun h => hf h.2.1)
    rw [e]
    exact wakes_idle _ 51 6 timerL _ v w hP ht hf
theorem wakes_ctu (zs : List Int) (w : World) (v : Value) (hz : Is w v zs) (hv : areV (kin 3) zs = true) : Calls Try.prog 12 #[.string ⟨#[99, 116, 117]⟩, v] w (WakeOk (wk 3 zs) w) := by
  have e : wk 3 zs = -1 := by unfold wk wkF; exact if_neg (fun h => absurd h.1 (by decide))
  rw [e]
  exact wakes_untimed _ 52 6 ctuL (f6 zs) v w (fun W k => partOf_6 ⟨#[99, 116, 117]⟩ 3 52 79 ctuL kind_ctu zs hv rfl W v (hz.kp k)) tmB_3
theorem wakes_ctd (zs : List Int) (w : World) (v : Value) (hz : Is w v zs) (hv : areV (kin 4) zs = true) : Calls Try.prog 12 #[.string ⟨#[99, 116, 100]⟩, v] w (WakeOk (wk 4 zs) w) := by
  have e : wk 4 zs = -1 := by unfold wk wkF; exact if_neg (fun h => absurd h.1 (by decide))
  rw [e]
  exact wakes_untimed _ 53 6 ctdL (f6 zs) v w (fun W k => partOf_6 ⟨#[99, 116, 100]⟩ 4 53 80 ctdL kind_ctd zs hv rfl W v (hz.kp k)) tmB_4
theorem wakes_sr (zs : List Int) (w : World) (v : Value) (hz : Is w v zs) (hv : areV (kin 5) zs = true) : Calls Try.prog 12 #[.string ⟨#[115, 114]⟩, v] w (WakeOk (wk 5 zs) w) := by
  have e : wk 5 zs = -1 := by unfold wk wkF; exact if_neg (fun h => absurd h.1 (by decide))
  rw [e]
  exact wakes_untimed _ 54 3 srL (f6 zs) v w (fun W k => partOf_3 ⟨#[115, 114]⟩ 5 54 81 srL kind_sr zs hv rfl W v (hz.kp k)) tmB_5
theorem wakes_rs (zs : List Int) (w : World) (v : Value) (hz : Is w v zs) (hv : areV (kin 6) zs = true) : Calls Try.prog 12 #[.string ⟨#[114, 115]⟩, v] w (WakeOk (wk 6 zs) w) := by
  have e : wk 6 zs = -1 := by unfold wk wkF; exact if_neg (fun h => absurd h.1 (by decide))
  rw [e]
  exact wakes_untimed _ 55 3 rsL (f6 zs) v w (fun W k => partOf_3 ⟨#[114, 115]⟩ 6 55 82 rsL kind_rs zs hv rfl W v (hz.kp k)) tmB_6
theorem wakes_rtrig (zs : List Int) (w : World) (v : Value) (hz : Is w v zs) (hv : areV (kin 7) zs = true) : Calls Try.prog 12 #[.string ⟨#[114, 116, 114, 105, 103]⟩, v] w (WakeOk (wk 7 zs) w) := by
  have e : wk 7 zs = -1 := by unfold wk wkF; exact if_neg (fun h => absurd h.1 (by decide))
  rw [e]
  exact wakes_untimed _ 56 3 edgeL (f6 zs) v w (fun W k => partOf_3 ⟨#[114, 116, 114, 105, 103]⟩ 7 56 83 edgeL kind_rtrig zs hv rfl W v (hz.kp k)) tmB_7
theorem wakes_ftrig (zs : List Int) (w : World) (v : Value) (hz : Is w v zs) (hv : areV (kin 8) zs = true) : Calls Try.prog 12 #[.string ⟨#[102, 116, 114, 105, 103]⟩, v] w (WakeOk (wk 8 zs) w) := by
  have e : wk 8 zs = -1 := by unfold wk wkF; exact if_neg (fun h => absurd h.1 (by decide))
  rw [e]
  exact wakes_untimed _ 57 3 edgeL (f6 zs) v w (fun W k => partOf_3 ⟨#[102, 116, 114, 105, 103]⟩ 8 57 83 edgeL kind_ftrig zs hv rfl W v (hz.kp k)) tmB_8
/-- Wakes of block i. -/
theorem wakes_c (i : Nat) (hi : i < 9) (zs : List Int) (w : World) (v : Value) (hz : Is w v zs) (hv : areV (kin i) zs = true) : Calls Try.prog 12 #[.string (nmb i), v] w (WakeOk (wk i zs) w) := by
  rcases (show i = 0 ∨ i = 1 ∨ i = 2 ∨ i = 3 ∨ i = 4 ∨ i = 5 ∨ i = 6 ∨ i = 7 ∨ i = 8 by omega) with rfl | rfl | rfl | rfl | rfl | rfl | rfl | rfl | rfl
  · exact wakes_ton zs w v hz hv
  · exact wakes_tof zs w v hz hv
  · exact wakes_tp zs w v hz hv
  · exact wakes_ctu zs w v hz hv
  · exact wakes_ctd zs w v hz hv
  · exact wakes_sr zs w v hz hv
  · exact wakes_rs zs w v hz hv
  · exact wakes_rtrig zs w v hz hv
  · exact wakes_ftrig zs w v hz hv
end Go.Proofs.Ytieacfenoomaeaa
