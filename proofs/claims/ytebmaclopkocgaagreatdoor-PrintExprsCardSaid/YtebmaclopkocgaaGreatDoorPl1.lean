import Derived.Test.YtebmaclopkocgaaGreatDoorPa8
set_option linter.unusedSimpArgs false
set_option linter.unusedVariables false
namespace Go.Proofs.YtebmaclopkocgaaGreatDoor
open Go.RowKit

set_option maxRecDepth 100000 in
set_option maxHeartbeats 1000000 in
theorem constsLaw_c (kind n : Int) (h0 : -9223372036854775808 ≤ n) (h1 : n ≤ 9223372036854775807) (w : World) (hA : Amb w) (hT : TabI w) :
    Calls Tryz.prog 4 #[.int .i64 kind, .int .i64 n] w fun r w' => r = .returned (.bool true) ∧ Kp [] w w' := by
  have hc := Lib.hid (const_c kind n h0 h1 w hT)
  have hr := Lib.hid (fun W => rconst_c kind n h0 h1 W)
  have ha : Hid (∀ W, Kp [] w W → Calls Tryz.prog 6 #[] W fun r w' => r = .returned (.bool true) ∧ Kp [] W w') := fun W k => awake_c W (hA.kp0 k) (hT.kp k)
  clear hA hT
  cases hb : isConB kind n
  · rw [hb] at hc hr
    obtain ⟨rs, hrs⟩ : ∃ x, st (rconT kind n) = x := ⟨_, rfl⟩
    rw [hrs] at hr
    simp only [Bool.false_eq_true, if_false] at hc
    clear hrs hb
    go_enter Tryz.func4, Tryz.ntmps4
    go_wp2_with (first
      | (go_at_call 10; refine hc.out.mono ?_; rintro r w2 ⟨rfl, hk2⟩; replace hk2 := Lib.hid hk2)
      | (go_at_call 11; refine (hr.out _).mono ?_; rintro r w3 ⟨rfl, hk3⟩; replace hk3 := Lib.hid (hk2.out.trans hk3))
      | (go_at_call 6; refine (ha.out _ hk3.out).mono ?_; rintro r w4 ⟨rfl, hk4⟩; replace hk4 := Lib.hid (hk3.out.trans hk4)))
    go_ret
    exact ⟨rfl, hk4.out⟩
  · rw [hb, ← rcon_eq hb] at hc
    rw [hb] at hr
    obtain ⟨rs, hrs⟩ : ∃ x, st (rconT kind n) = x := ⟨_, rfl⟩
    rw [hrs] at hr hc
    simp only [if_true] at hc
    clear hrs hb
    go_enter Tryz.func4, Tryz.ntmps4
    go_wp2_with (first
      | (go_at_call 10; refine hc.out.mono ?_; rintro r w2 ⟨rfl, hk2⟩; replace hk2 := Lib.hid hk2)
      | (go_at_call 11; refine (hr.out _).mono ?_; rintro r w3 ⟨rfl, hk3⟩; replace hk3 := Lib.hid (hk2.out.trans hk3))
      | (go_at_call 6; refine (ha.out _ hk3.out).mono ?_; rintro r w4 ⟨rfl, hk4⟩; replace hk4 := Lib.hid (hk3.out.trans hk4)))
    go_ret
    exact ⟨rfl, hk4.out⟩
end Go.Proofs.YtebmaclopkocgaaGreatDoor
