import Derived.Test.YtieacfenoomaeaaQg3
import Derived.Test.YtieacfenoomaeaaQg4
set_option linter.unusedSimpArgs false
set_option linter.unusedVariables false
namespace Go.Proofs.Ytieacfenoomaeaa
open Go.RowKit

theorem bit01 {n : Int} (h : isV 1 n = true) : n = 0 ∨ n = 1 := by
  rw [isV_bit] at h
  simpa [bitB] using h
theorem rtm_0 (w0 w : World) (g m d' : Nat) (a b c d e f now : Int) (hU : Ow w0 w (.slice (some ⟨g, 0, none⟩) m d') [a, b, c, d, e, f]) (hv : areV (kin 0) [a, b, c, d, e, f] = true) (hn : 0 ≤ now ∧ now ≤ 1000000000) :
    Calls Try.prog 38 #[.string ⟨#[116, 111, 110]⟩, .slice (some ⟨g, 0, none⟩) m d', .int .i64 now] w (Wr w0 g m d' (stp 0 [a, b, c, d, e, f] now) w) := by
  simp only [kin, areV, Bool.and_eq_true] at hv
  have he := isV_bd hv.2.2.2.2.1
  by_cases ha : a = 0
  · subst ha
    exact rtm_ton_off w0 w g m d' b c d e f now hU he hn
  · by_cases hf : f = 0
    · subst hf
      exact rtm_ton_new w0 w g m d' a b c d e now hU he hn (by simpa using ha)
    · exact rtm_ton_old w0 w g m d' a b c d e f now hU he hn (by simpa using ha) (by simpa using hf)
theorem rtm_1 (w0 w : World) (g m d' : Nat) (a b c d e f now : Int) (hU : Ow w0 w (.slice (some ⟨g, 0, none⟩) m d') [a, b, c, d, e, f]) (hv : areV (kin 1) [a, b, c, d, e, f] = true) (hn : 0 ≤ now ∧ now ≤ 1000000000) :
    Calls Try.prog 38 #[.string ⟨#[116, 111, 102]⟩, .slice (some ⟨g, 0, none⟩) m d', .int .i64 now] w (Wr w0 g m d' (stp 1 [a, b, c, d, e, f] now) w) := by
  simp only [kin, areV, Bool.and_eq_true] at hv
  have he := isV_bd hv.2.2.2.2.1
  by_cases ha : a = 1
  · subst ha
    exact rtm_tof_on w0 w g m d' b c d e f now hU he hn
  · rcases bit01 hv.2.2.1 with rfl | rfl
    · exact rtm_tof_idle w0 w g m d' a b d e f now hU he hn (by simpa using ha)
    · by_cases hf : f = 0
      · subst hf
        exact rtm_tof_new w0 w g m d' a b d e now hU he hn (by simpa using ha)
      · exact rtm_tof_old w0 w g m d' a b d e f now hU he hn (by simpa using ha) (by simpa using hf)
theorem rtm_2 (w0 w : World) (g m d' : Nat) (a b c d e f now : Int) (hU : Ow w0 w (.slice (some ⟨g, 0, none⟩) m d') [a, b, c, d, e, f]) (hv : areV (kin 2) [a, b, c, d, e, f] = true) (hn : 0 ≤ now ∧ now ≤ 1000000000) :
    Calls Try.prog 38 #[.string ⟨#[116, 112]⟩, .slice (some ⟨g, 0, none⟩) m d', .int .i64 now] w (Wr w0 g m d' (stp 2 [a, b, c, d, e, f] now) w) := by
  simp only [kin, areV, Bool.and_eq_true] at hv
  have he := isV_bd hv.2.2.2.2.1
  rcases bit01 hv.2.2.2.2.2.1 with rfl | rfl
  · exact rtm_tp_idle w0 w g m d' a b c d e now hU he hn
  · exact rtm_tp_run w0 w g m d' a b c d e now hU he hn
set_option maxRecDepth 100000 in
theorem rscan_ton (w0 w : World) (g m d' : Nat) (a b c d e f now : Int) (hU : Ow w0 w (.slice (some ⟨g, 0, none⟩) m d') [a, b, c, d, e, f]) (hv : areV (kin 0) [a, b, c, d, e, f] = true) (hn : 0 ≤ now ∧ now ≤ 1000000000) :
    Calls Try.prog 22 #[.string ⟨#[116, 111, 110]⟩, .slice (some ⟨g, 0, none⟩) m d', .int .i64 now] w (Wr w0 g m d' (stp 0 [a, b, c, d, e, f] now) w) := by
  have hT := Lib.hid (rtm_0 w0 w g m d' a b c d e f now hU hv hn)
  clear hU hv hn
  obtain ⟨Z, hZ⟩ : ∃ Z, stp 0 [a, b, c, d, e, f] now = Z := ⟨_, rfl⟩
  rw [hZ] at hT ⊢
  clear hZ
  go_enter Try.func22, Try.ntmps22
  go_wp2_with (go_at_call 38; refine hT.out.mono ?_; rintro r w2 ⟨rfl, h2, h3⟩)
  go_end0
  exact ⟨rfl, h2, h3⟩
set_option maxRecDepth 100000 in
theorem rscan_tof (w0 w : World) (g m d' : Nat) (a b c d e f now : Int) (hU : Ow w0 w (.slice (some ⟨g, 0, none⟩) m d') [a, b, c, d, e, f]) (hv : areV (kin 1) [a, b, c, d, e, f] = true) (hn : 0 ≤ now ∧ now ≤ 1000000000) :
    Calls Try.prog 22 #[.string ⟨#[116, 111, 102]⟩, .slice (some ⟨g, 0, none⟩) m d', .int .i64 now] w (Wr w0 g m d' (stp 1 [a, b, c, d, e, f] now) w) := by
  have hT := Lib.hid (rtm_1 w0 w g m d' a b c d e f now hU hv hn)
  clear hU hv hn
  obtain ⟨Z, hZ⟩ : ∃ Z, stp 1 [a, b, c, d, e, f] now = Z := ⟨_, rfl⟩
  rw [hZ] at hT ⊢
  clear hZ
  go_enter Try.func22, Try.ntmps22
  go_wp2_with (go_at_call 38; refine hT.out.mono ?_; rintro r w2 ⟨rfl, h2, h3⟩)
  go_end0
  exact ⟨rfl, h2, h3⟩
set_option maxRecDepth 100000 in
theorem rscan_tp (w0 w : World) (g m d' : Nat) (a b c d e f now : Int) (hU : Ow w0 w (.slice (some ⟨g, 0, none⟩) m d') [a, b, c, d, e, f]) (hv : areV (kin 2) [a, b, c, d, e, f] = true) (hn : 0 ≤ now ∧ now ≤ 1000000000) :
    Calls Try.prog 22 #[.string ⟨#[116, 112]⟩, .slice (some ⟨g, 0, none⟩) m d', .int .i64 now] w (Wr w0 g m d' (stp 2 [a, b, c, d, e, f] now) w) := by
  have hT := Lib.hid (rtm_2 w0 w g m d' a b c d e f now hU hv hn)
  clear hU hv hn
  obtain ⟨Z, hZ⟩ : ∃ Z, stp 2 [a, b, c, d, e, f] now = Z := ⟨_, rfl⟩
  rw [hZ] at hT ⊢
  clear hZ
  go_enter Try.func22, Try.ntmps22
  go_wp2_with (go_at_call 38; refine hT.out.mono ?_; rintro r w2 ⟨rfl, h2, h3⟩)
  go_end0
  exact ⟨rfl, h2, h3⟩

/-- What the reference makes of a block's cells, in place. -/
theorem rscan_c (i : Nat) (hi : i < 9) (w0 w : World) (g m d' : Nat) (zs : List Int) (now : Int) (hU : Ow w0 w (.slice (some ⟨g, 0, none⟩) m d') zs) (hv : areV (kin i) zs = true) (ht : isT now = true) :
    Calls Try.prog 22 #[.string (nmb i), .slice (some ⟨g, 0, none⟩) m d', .int .i64 now] w (Wr w0 g m d' (stp i zs now) w) := by
  have hn := isT_bd ht
  rcases (show i = 0 ∨ i = 1 ∨ i = 2 ∨ i = 3 ∨ i = 4 ∨ i = 5 ∨ i = 6 ∨ i = 7 ∨ i = 8 by omega) with rfl | rfl | rfl | rfl | rfl | rfl | rfl | rfl | rfl
  · obtain ⟨z0, z1, z2, z3, z4, z5, rfl, _, _, _, _, _, _⟩ := six_of (show areV [1, 3, 1, 3, 3, 1] zs = true from hv)
    exact rscan_ton w0 w g m d' z0 z1 z2 z3 z4 z5 now hU hv hn
  · obtain ⟨z0, z1, z2, z3, z4, z5, rfl, _, _, _, _, _, _⟩ := six_of (show areV [1, 3, 1, 3, 3, 1] zs = true from hv)
    exact rscan_tof w0 w g m d' z0 z1 z2 z3 z4 z5 now hU hv hn
  · obtain ⟨z0, z1, z2, z3, z4, z5, rfl, _, _, _, _, _, _⟩ := six_of (show areV [1, 3, 1, 3, 3, 1] zs = true from hv)
    exact rscan_tp w0 w g m d' z0 z1 z2 z3 z4 z5 now hU hv hn
  · obtain ⟨z0, z1, z2, z3, z4, z5, rfl, _, _, _, _, h9, _⟩ := six_of (show areV [1, 1, 2, 1, 2, 1] zs = true from hv)
    exact rscan_ctu w0 w g m d' z0 z1 z2 z3 z4 z5 now hU (isV_bd h9)
  · obtain ⟨z0, z1, z2, z3, z4, z5, rfl, _, _, _, _, h9, _⟩ := six_of (show areV [1, 1, 2, 1, 2, 1] zs = true from hv)
    exact rscan_ctd w0 w g m d' z0 z1 z2 z3 z4 z5 now hU (isV_bd h9)
  · obtain ⟨z0, z1, z2, rfl, _, _, _⟩ := three_of (show areV [1, 1, 1] zs = true from hv)
    exact rscan_sr w0 w g m d' z0 z1 z2 now hU
  · obtain ⟨z0, z1, z2, rfl, _, _, _⟩ := three_of (show areV [1, 1, 1] zs = true from hv)
    exact rscan_rs w0 w g m d' z0 z1 z2 now hU
  · obtain ⟨z0, z1, z2, rfl, _, _, _⟩ := three_of (show areV [1, 1, 1] zs = true from hv)
    exact rscan_rtrig w0 w g m d' z0 z1 z2 now hU
  · obtain ⟨z0, z1, z2, rfl, _, _, _⟩ := three_of (show areV [1, 1, 1] zs = true from hv)
    exact rscan_ftrig w0 w g m d' z0 z1 z2 now hU
end Go.Proofs.Ytieacfenoomaeaa
