import Derived.Test.YtebmaclopkocgaaGreatDoorPa8
import Derived.Test.YtebmaclopkocgaaGreatDoorPwv
import Derived.Test.YtebmaclopkocgaaGreatDoorSz8
set_option linter.unusedSimpArgs false
set_option linter.unusedVariables false
namespace Go.Proofs.YtebmaclopkocgaaGreatDoor
open Go.RowKit

set_option maxRecDepth 100000 in
set_option maxHeartbeats 4000000 in
theorem pexprs_big (e : Ex) (v : Value) (w : World) (hv : exsSl w v e.args) (hA : Amb w) (hT : TabI w) (hS : SgAt w) (hf : e.fits) (hc : e.wide) (hw : 2000 < wgL [e] 0) :
    Calls Tryz.prog 3 #[exVal e v] w fun r w' => r = .returned (.bool true) ∧ Kp [] w w' := by
  obtain ⟨q, cap, rfl⟩ := hv.val
  have hk0 : Kp [] w ((w.alloc (.cells #[.int .i64 e.op, .int .i64 e.kind, .int .i64 e.num, .string e.s, .string e.field, .slice q e.args.length cap] 24)).alloc (.cells #[.int .i64 e.op, .int .i64 e.kind, .int .i64 e.num, .string e.s, .string e.field, .slice q e.args.length cap] 24)) := ((Kp.refl [] w).alloc _).alloc _
  have hwc := Lib.hid (weigh_head e q cap w hv hc)
  have ha : Hid (∀ W, Kp [] w W → Calls Tryz.prog 6 #[] W fun r w' => r = .returned (.bool true) ∧ Kp [] W w') := fun W k => awake_c W (hA.kp0 k) (hT.kp k)
  obtain ⟨m, hm⟩ : ∃ m, wgL [e] 0 = m := ⟨_, rfl⟩
  rw [hm] at hw hwc
  obtain ⟨lu, hlu⟩ : ∃ lu, e.args.length = lu := ⟨_, rfl⟩
  unfold exVal
  rw [hlu] at hk0 hwc ⊢
  replace hk0 := Lib.hid hk0
  clear hm hlu hv hA hT hS hf hc
  go_enter Tryz.func3, Tryz.ntmps3
  go_wp2_with fail
  refine hwc.out.mono ?_
  rintro r w2 ⟨rfl, rfl⟩
  go_wp2_with fail
  refine (ha.out _ hk0.out).mono ?_
  rintro r w3 ⟨rfl, hk3⟩
  go_wp2_with fail
  go_ret
  exact ⟨rfl, hk0.out.trans hk3⟩
set_option maxRecDepth 100000 in
set_option maxHeartbeats 4000000 in
theorem pexprs_no (e : Ex) (v : Value) (w : World) (hv : exsSl w v e.args) (hA : Amb w) (hT : TabI w) (hS : SgAt w) (hf : e.fits) (hc : e.wide) (hw : ¬ 2000 < wgL [e] 0) (hwe : wellB e = false) :
    Calls Tryz.prog 3 #[exVal e v] w fun r w' => r = .returned (.bool true) ∧ Kp [] w w' := by
  obtain ⟨q, cap, rfl⟩ := hv.val
  have hk0 : Kp [] w ((w.alloc (.cells #[.int .i64 e.op, .int .i64 e.kind, .int .i64 e.num, .string e.s, .string e.field, .slice q e.args.length cap] 24)).alloc (.cells #[.int .i64 e.op, .int .i64 e.kind, .int .i64 e.num, .string e.s, .string e.field, .slice q e.args.length cap] 24)) := ((Kp.refl [] w).alloc _).alloc _
  have hwc := Lib.hid (weigh_head e q cap w hv hc)
  have ha : Hid (∀ W, Kp [] w W → Calls Tryz.prog 6 #[] W fun r w' => r = .returned (.bool true) ∧ Kp [] W w') := fun W k => awake_c W (hA.kp0 k) (hT.kp k)
  obtain ⟨m, hm⟩ : ∃ m, wgL [e] 0 = m := ⟨_, rfl⟩
  rw [hm] at hw hwc
  obtain ⟨lu, hlu⟩ : ∃ lu, e.args.length = lu := ⟨_, rfl⟩
  have hB : Hid (Blk ((w.alloc (.cells #[.int .i64 e.op, .int .i64 e.kind, .int .i64 e.num, .string e.s, .string e.field, .slice q e.args.length cap] 24)).alloc (.cells #[.int .i64 e.op, .int .i64 e.kind, .int .i64 e.num, .string e.s, .string e.field, .slice q e.args.length cap] 24)) w.heap.size 24 #[.int .i64 e.op, .int .i64 e.kind, .int .i64 e.num, .string e.s, .string e.field, .slice q e.args.length cap]) := (Blk.new w _ _).alloc _
  have hp : Hid (∀ W, Kp [] w W → Calls Tryz.prog 7 #[exVal e (.slice q e.args.length cap)] W fun r w' => r = .returned (.tuple #[.string ⟨#[]⟩, .int .i64 2]) ∧ Kp [] W w') := fun W k => pexpr_no e _ W (hv.kp k) (hA.kp0 k) hf hwe
  have hwl : Hid (∀ W, Kp [] w W → Calls Tryz.prog 8 #[exVal e (.slice q e.args.length cap)] W fun r w' => r = .returned (.bool false) ∧ Kp [] W w') := fun W hk => by
    have := rwell_c e _ W (hv.kp hk) hf
    rw [hwe] at this; exact this
  unfold exVal at hp hwl ⊢
  rw [hlu] at hk0 hwc hB hp hwl ⊢
  replace hk0 := Lib.hid hk0
  clear hm hlu hv hA hT hS hf hc hwe
  go_enter Tryz.func3, Tryz.ntmps3
  go_wp2_with fail
  refine hwc.out.mono ?_
  rintro r w2 ⟨rfl, rfl⟩
  go_wp2_with fail
  refine (hp.out _ hk0.out).mono ?_
  rintro r w3 ⟨rfl, hk3⟩
  have hK3 := Lib.hid (hk0.out.trans hk3)
  have hB3 := Lib.hid (hB.out.kp hk3 (by simp))
  clear hk3 hB hp hwc
  have x0 := hB3.out.cell 0 (v := .int .i64 e.op) rfl
  have x1 := hB3.out.cell 1 (v := .int .i64 e.kind) rfl
  have x2 := hB3.out.cell 2 (v := .int .i64 e.num) rfl
  have x3 := hB3.out.cell 3 (v := .string e.s) rfl
  have x4 := hB3.out.cell 4 (v := .string e.field) rfl
  have x5 := hB3.out.cell 5 (v := .slice q lu cap) rfl
  go_wp2_with fail
  refine (hwl.out _ hK3.out).mono ?_
  rintro r w4 ⟨rfl, hk4⟩
  have hK4 := Lib.hid (hK3.out.trans hk4)
  have hB4 := Lib.hid (hB3.out.kp hk4 (by simp))
  clear hk4 hB3 hwl x0 x1 x2 x3 x4 x5
  go_wp2_with (first | (go_at_call 6; refine (ha.out _ hK4.out).mono ?_; rintro r w5 ⟨rfl, hk5⟩; replace hk5 := Lib.hid (hK4.out.trans hk5)))
  go_ret
  exact ⟨rfl, hk5.out⟩
set_option maxRecDepth 100000 in
set_option maxHeartbeats 4000000 in
theorem pexprs_yes (e : Ex) (v : Value) (w : World) (hv : exsSl w v e.args) (hA : Amb w) (hT : TabI w) (hS : SgAt w) (hf : e.fits) (hc : e.wide) (hw : ¬ 2000 < wgL [e] 0) (hwe : wellB e = true) :
    Calls Tryz.prog 3 #[exVal e v] w fun r w' => r = .returned (.bool true) ∧ Kp [] w w' := by
  obtain ⟨q, cap, rfl⟩ := hv.val
  have hk0 : Kp [] w ((w.alloc (.cells #[.int .i64 e.op, .int .i64 e.kind, .int .i64 e.num, .string e.s, .string e.field, .slice q e.args.length cap] 24)).alloc (.cells #[.int .i64 e.op, .int .i64 e.kind, .int .i64 e.num, .string e.s, .string e.field, .slice q e.args.length cap] 24)) := ((Kp.refl [] w).alloc _).alloc _
  have hwc := Lib.hid (weigh_head e q cap w hv hc)
  have ha : Hid (∀ W, Kp [] w W → Calls Tryz.prog 6 #[] W fun r w' => r = .returned (.bool true) ∧ Kp [] W w') := fun W k => awake_c W (hA.kp0 k) (hT.kp k)
  obtain ⟨m, hm⟩ : ∃ m, wgL [e] 0 = m := ⟨_, rfl⟩
  rw [hm] at hw hwc
  obtain ⟨lu, hlu⟩ : ∃ lu, e.args.length = lu := ⟨_, rfl⟩
  have hB : Hid (Blk ((w.alloc (.cells #[.int .i64 e.op, .int .i64 e.kind, .int .i64 e.num, .string e.s, .string e.field, .slice q e.args.length cap] 24)).alloc (.cells #[.int .i64 e.op, .int .i64 e.kind, .int .i64 e.num, .string e.s, .string e.field, .slice q e.args.length cap] 24)) w.heap.size 24 #[.int .i64 e.op, .int .i64 e.kind, .int .i64 e.num, .string e.s, .string e.field, .slice q e.args.length cap]) := (Blk.new w _ _).alloc _
  have hp : Hid (∀ W, Kp [] w W → Calls Tryz.prog 7 #[exVal e (.slice q e.args.length cap)] W fun r w' => r = .returned (.tuple #[.string (st e.txt), .int .i64 0]) ∧ Kp [] W w') := fun W k => pexpr_yes e _ W (hv.kp k) (hA.kp0 k) (hT.kp k) hf hwe
  have hwl : Hid (∀ W, Kp [] w W → Calls Tryz.prog 8 #[exVal e (.slice q e.args.length cap)] W fun r w' => r = .returned (.bool true) ∧ Kp [] W w') := fun W hk => by
    have := rwell_c e _ W (hv.kp hk) hf
    rw [hwe] at this; exact this
  have hr : Hid (∀ W, Kp [] w W → Calls Tryz.prog 9 #[exVal e (.slice q e.args.length cap)] W fun r w' => r = .returned (.string (st e.txt)) ∧ Kp [] W w') := fun W k => rtext_c e w W _ hv k hS (wellB_is hwe).1 (wellB_is hwe).2
  obtain ⟨t, ht⟩ : ∃ t, st e.txt = t := ⟨_, rfl⟩
  rw [ht] at hp hr
  unfold exVal at hp hwl hr ⊢
  rw [hlu] at hk0 hwc hB hp hwl hr ⊢
  replace hk0 := Lib.hid hk0
  clear hm hlu hv hA hT hS hf hc hwe ht
  go_enter Tryz.func3, Tryz.ntmps3
  go_wp2_with fail
  refine hwc.out.mono ?_
  rintro r w2 ⟨rfl, rfl⟩
  go_wp2_with fail
  refine (hp.out _ hk0.out).mono ?_
  rintro r w3 ⟨rfl, hk3⟩
  have hK3 := Lib.hid (hk0.out.trans hk3)
  have hB3 := Lib.hid (hB.out.kp hk3 (by simp))
  clear hk3 hB hp hwc
  have x0 := hB3.out.cell 0 (v := .int .i64 e.op) rfl
  have x1 := hB3.out.cell 1 (v := .int .i64 e.kind) rfl
  have x2 := hB3.out.cell 2 (v := .int .i64 e.num) rfl
  have x3 := hB3.out.cell 3 (v := .string e.s) rfl
  have x4 := hB3.out.cell 4 (v := .string e.field) rfl
  have x5 := hB3.out.cell 5 (v := .slice q lu cap) rfl
  go_wp2_with fail
  refine (hwl.out _ hK3.out).mono ?_
  rintro r w4 ⟨rfl, hk4⟩
  have hK4 := Lib.hid (hK3.out.trans hk4)
  have hB4 := Lib.hid (hB3.out.kp hk4 (by simp))
  clear hk4 hB3 hwl x0 x1 x2 x3 x4 x5
  have x0 := hB4.out.cell 0 (v := .int .i64 e.op) rfl
  have x1 := hB4.out.cell 1 (v := .int .i64 e.kind) rfl
  have x2 := hB4.out.cell 2 (v := .int .i64 e.num) rfl
  have x3 := hB4.out.cell 3 (v := .string e.s) rfl
  have x4 := hB4.out.cell 4 (v := .string e.field) rfl
  have x5 := hB4.out.cell 5 (v := .slice q lu cap) rfl
  go_wp2_with (first
    | (go_at_call 9; refine (hr.out _ hK4.out).mono ?_; rintro r w5 ⟨rfl, hk5⟩; replace hk5 := Lib.hid (hK4.out.trans hk5))
    | (go_at_call 6; refine (ha.out _ hk5.out).mono ?_; rintro r w6 ⟨rfl, hk6⟩; replace hk6 := Lib.hid (hk5.out.trans hk6)))
  go_ret
  exact ⟨rfl, hk6.out⟩
theorem pexprsLaw_c (e : Ex) (v : Value) (w : World) (hv : exsSl w v e.args) (hA : Amb w) (hT : TabI w) (hS : SgAt w) (hf : e.fits) (hc : e.wide) :
    Calls Tryz.prog 3 #[exVal e v] w fun r w' => r = .returned (.bool true) ∧ Kp [] w w' := by
  by_cases hw : 2000 < wgL [e] 0
  · exact pexprs_big e v w hv hA hT hS hf hc hw
  · cases hwe : wellB e
    · exact pexprs_no e v w hv hA hT hS hf hc hw hwe
    · exact pexprs_yes e v w hv hA hT hS hf hc hw hwe
end Go.Proofs.YtebmaclopkocgaaGreatDoor
