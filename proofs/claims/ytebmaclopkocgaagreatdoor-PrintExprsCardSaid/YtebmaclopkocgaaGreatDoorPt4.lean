import Derived.Test.YtebmaclopkocgaaGreatDoorPt3
set_option linter.unusedSimpArgs false
set_option linter.unusedVariables false
namespace Go.Proofs.YtebmaclopkocgaaGreatDoor
open Go.RowKit

/-- The text that the reference gives to whatever kind and number. -/
def rconT (kind n : Int) : List UInt8 := if kind = 1 then (if n = 1 then [116, 114, 117, 101] else [102, 97, 108, 115, 101]) else if kind = 3 then [116, 35] ++ Lib.itoa n else Lib.itoa n
theorem rcon_eq {kind n : Int} (h : isConB kind n = true) : rconT kind n = conT kind n := by
  unfold isConB at h
  unfold rconT conT
  by_cases h1 : kind = 1
  · subst h1; rfl
  by_cases h2 : kind = 2
  · subst h2; rfl
  by_cases h3 : kind = 3
  · subst h3; rfl
  simp [h1, h2, h3] at h
set_option maxRecDepth 100000 in
theorem rconst_c (kind n : Int) (h0 : -9223372036854775808 ≤ n) (h1 : n ≤ 9223372036854775807) (w : World) :
    Calls Tryz.prog 11 #[.int .i64 kind, .int .i64 n] w fun e w' => e = .returned (.tuple #[.string (st (rconT kind n)), .bool (isConB kind n)]) ∧ Kp [] w w' := by
  have hl := Lib.itoa_length_le n h0 h1
  have hsz := st_size (Lib.itoa n)
  by_cases k1 : kind = 1
  · subst k1
    by_cases h4 : n = 1
    · subst h4
      go_enter Tryz.func11, Tryz.ntmps11
      go_wp2
      go_ret2
      exact ⟨rfl, Kp.refl _ _⟩
    · have he : Hid (st (rconT 1 n) = ⟨#[102, 97, 108, 115, 101]⟩) := by show _ = _; rw [rconT, if_pos rfl, if_neg h4]; rfl
      have hb : Hid (isConB 1 n = (n == 0)) := by show _ = _; simp [isConB, h4]
      go_enter Tryz.func11, Tryz.ntmps11
      go_wp2
      go_ret2
      rw [he.out, hb.out]
      exact ⟨rfl, Kp.refl _ _⟩
  by_cases k3 : kind = 3
  · subst k3
    have he : Hid (st (rconT 3 n) = ⟨#[116, 35]⟩ ++ st (Lib.itoa n)) := by show _ = _; exact (st_app [116, 35] _).symm
    by_cases h4 : 0 ≤ n
    · have hb : Hid (isConB 3 n = decide (n ≤ 2147483647)) := by show _ = _; simp [isConB, h4]
      go_enter Tryz.func11, Tryz.ntmps11
      go_wp2_with (go_at_call 23; refine (digits_c n h0 h1 _).mono ?_; rintro e w' ⟨rfl, hk⟩)
      go_ret2
      rw [he.out, hb.out]
      exact ⟨rfl, hk⟩
    · have hb : Hid (isConB 3 n = false) := by show _ = _; simp [isConB, h4]
      go_enter Tryz.func11, Tryz.ntmps11
      go_wp2_with (go_at_call 23; refine (digits_c n h0 h1 _).mono ?_; rintro e w' ⟨rfl, hk⟩)
      go_ret2
      rw [he.out, hb.out]
      exact ⟨rfl, hk⟩
  have he : Hid (st (rconT kind n) = st (Lib.itoa n)) := by show _ = _; rw [rconT, if_neg k1, if_neg k3]
  by_cases k2 : kind = 2
  · subst k2
    by_cases h4 : -2147483647 ≤ n
    · have hb : Hid (isConB 2 n = decide (n ≤ 2147483647)) := by show _ = _; simp [isConB, h4]
      go_enter Tryz.func11, Tryz.ntmps11
      go_wp2_with (go_at_call 23; refine (digits_c n h0 h1 _).mono ?_; rintro e w' ⟨rfl, hk⟩)
      go_ret2
      rw [he.out, hb.out]
      exact ⟨rfl, hk⟩
    · have hb : Hid (isConB 2 n = false) := by show _ = _; simp [isConB, h4]
      go_enter Tryz.func11, Tryz.ntmps11
      go_wp2_with (go_at_call 23; refine (digits_c n h0 h1 _).mono ?_; rintro e w' ⟨rfl, hk⟩)
      go_ret2
      rw [he.out, hb.out]
      exact ⟨rfl, hk⟩
  · have hb : Hid (isConB kind n = false) := by show _ = _; simp [isConB, k1, k2, k3]
    have e1 : (kind == 1) = false := by simpa using k1
    have e2 : (kind == 2) = false := by simpa using k2
    have e3 : (kind == 3) = false := by simpa using k3
    go_enter Tryz.func11, Tryz.ntmps11
    go_wp2_with (go_at_call 23; refine (digits_c n h0 h1 _).mono ?_; rintro e w' ⟨rfl, hk⟩)
    go_ret2
    rw [he.out, hb.out]
    exact ⟨rfl, hk⟩
end Go.Proofs.YtebmaclopkocgaaGreatDoor
