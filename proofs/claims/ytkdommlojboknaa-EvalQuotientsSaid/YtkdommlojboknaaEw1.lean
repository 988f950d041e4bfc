import Derived.Test.YtkdommlojboknaaEv12
namespace Go.Proofs.Ytkdommlojboknaa
open Go.RowKit

theorem wrap32_mod (n : Int) : wrap32 n % 4294967296 = n % 4294967296 := by unfold wrap32; omega
set_option maxRecDepth 100000 in
set_option maxHeartbeats 1000000 in
theorem wraps_c (x y : Int) (w : World) (_ : (Lit.int .i64 x).wf = true) (_ : (Lit.int .i64 y).wf = true) :
    Calls Try.prog 5 #[.int .i64 x, .int .i64 y] w fun e w' => e = .returned (.bool true) ∧ Gr w w' := by
  obtain ⟨a, ha⟩ : ∃ a, wrap32 x = a := ⟨_, rfl⟩
  obtain ⟨b, hb⟩ : ∃ b, wrap32 y = b := ⟨_, rfl⟩
  have va : Hid (valB a = true) := by rw [← ha]; exact val_wrap32 x
  have vb : Hid (valB b = true) := by rw [← hb]; exact val_wrap32 y
  have wa : Hid (wrap32 a = a) := wrap32_val a va.out
  have hax : (a % 4294967296 != x % 4294967296) = false := by rw [← ha]; simp; unfold wrap32; omega
  obtain ⟨s, hs⟩ : ∃ s, wrap32 (a + b) = s := ⟨_, rfl⟩
  obtain ⟨d, hd⟩ : ∃ d, wrap32 (a - b) = d := ⟨_, rfl⟩
  obtain ⟨m, hm⟩ : ∃ m, wrap32 (a * b) = m := ⟨_, rfl⟩
  have es : Hid (s % 4294967296 = (x + y) % 4294967296) := by
    show _ = _
    rw [← hs, wrap32_mod, ← ha, ← hb]; unfold wrap32; omega
  have ed : Hid (d % 4294967296 = (x - y) % 4294967296) := by
    show _ = _
    rw [← hd, wrap32_mod, ← ha, ← hb]; unfold wrap32; omega
  have em : Hid (m % 4294967296 = x % 4294967296 * (y % 4294967296) % 4294967296) := by
    show _ = _
    rw [← hm, wrap32_mod, ← ha, ← hb, Int.mul_emod, wrap32_mod, wrap32_mod]
  replace hs := Lib.hid hs
  replace hd := Lib.hid hd
  replace hm := Lib.hid hm
  replace ha := Lib.hid ha
  replace hb := Lib.hid hb
  go_enter Try.func5, Try.ntmps5
  go_wp2_with fail
  refine (wrap_c x _).mono ?_
  rintro e w' ⟨rfl, rfl⟩
  rw [ha.out]
  go_wp2_with fail
  refine (wrap_c y _).mono ?_
  rintro e w' ⟨rfl, rfl⟩
  rw [hb.out]
  go_wp2_with fail
  refine (wrap_c a _).mono ?_
  rintro e w' ⟨rfl, rfl⟩
  rw [wa.out]
  go_wp2_with fail
  refine (isValue_c a _).mono ?_
  rintro e w' ⟨rfl, rfl⟩
  rw [va.out]
  go_wp2_with fail
  refine (rValue_c a _).mono ?_
  rintro e w' ⟨rfl, rfl⟩
  rw [va.out]
  go_wp2_with fail
  refine (bin_17 a b _ va.out vb.out).mono ?_
  rintro e w1 ⟨rfl, h1⟩
  rw [hs.out]
  go_wp2_with fail
  refine (bin_18 a b _ va.out vb.out).mono ?_
  rintro e w2 ⟨rfl, h2⟩
  rw [hd.out]
  go_wp2_with fail
  refine (bin_19 a b _ va.out vb.out).mono ?_
  rintro e w3 ⟨rfl, h3⟩
  rw [hm.out]
  go_wp2_with fail
  all_goals first
    | exact absurd es.out (by assumption)
    | exact absurd ed.out (by assumption)
    | exact absurd em.out (by assumption)
    | skip
  refine (awake_c _).mono ?_
  rintro e w4 ⟨rfl, h4⟩
  go_wp2_with fail
  go_ret
  exact ⟨rfl, (h1.trans (h2.trans h3)).trans h4⟩
end Go.Proofs.Ytkdommlojboknaa
