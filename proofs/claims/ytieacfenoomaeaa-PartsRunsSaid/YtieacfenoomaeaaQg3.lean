import Derived.Test.YtieacfenoomaeaaQg2
set_option linter.unusedSimpArgs false
set_option linter.unusedVariables false
namespace Go.Proofs.Ytieacfenoomaeaa
open Go.RowKit

set_option maxRecDepth 100000 in
set_option maxHeartbeats 8000000 in
theorem rtm_tof_on (w0 w : World) (g m d' : Nat) (b c d e f now : Int) (hU : Ow w0 w (.slice (some ⟨g, 0, none⟩) m d') [1, b, c, d, e, f]) (he : -2147483648 ≤ e ∧ e ≤ 2147483647) (hn : 0 ≤ now ∧ now ≤ 1000000000) :
    Calls Try.prog 38 #[.string ⟨#[116, 111, 102]⟩, .slice (some ⟨g, 0, none⟩) m d', .int .i64 now] w (Wr w0 g m d' (stp 1 [1, b, c, d, e, f] now) w) := by
  obtain ⟨g', d'', h', -, -, e0, e1, e2, e3, e4, e5, fz⟩ := hU.six
  simp at h'
  obtain ⟨rfl, rfl, rfl⟩ := h'
  have f0 := fz 0
  have f1 := fz 1
  have f2 := fz 2
  have f3 := fz 3
  have f4 := fz 4
  have f5 := fz 5
  replace hU := Lib.hid hU
  replace he := Lib.hid he
  replace hn := Lib.hid hn
  clear fz
  go_enter Try.func38, Try.ntmps38
  go_wp2_with fail
  go_quiet (fail)
  go_wp2_with (first
    | (go_at_call 39; refine (rtruth_c _ _).mono ?_; rintro r w2 ⟨rfl, rfl⟩)
    | fail)
  all_goals
    go_end0
    apply Wr.mk'
    case hO =>
      repeat (first | with_reducible apply Ow.set | with_reducible apply Ow.drewN | with_reducible apply Ow.drew' | exact hU.out)
      all_goals simp
    case hL =>
      try (have ha1 : ¬ a = 0 := by simpa using ha)
      try (have ha2 : ¬ a = 1 := by simpa using ha)
      try (have hf1 : ¬ f = 0 := by simpa using hf)
      try simp only [beq_iff_eq, beq_eq_false_iff_ne, ne_eq] at *
      simp [stp, stF, kin, f6, F6.list, tofF, pre, gone, *]
      try (repeat' (first | omega | split | constructor) <;> (try simp_all) <;> (try omega))
    case hk => repeat (first | exact Kp.refl _ _ | refine Kp.setCell ?_ (.inl (by simp)) _ | refine Kp.drewN ?_ _ | refine Kp.drew ?_)
set_option maxRecDepth 100000 in
set_option maxHeartbeats 8000000 in
theorem rtm_tof_idle (w0 w : World) (g m d' : Nat) (a b d e f now : Int) (hU : Ow w0 w (.slice (some ⟨g, 0, none⟩) m d') [a, b, 0, d, e, f]) (he : -2147483648 ≤ e ∧ e ≤ 2147483647) (hn : 0 ≤ now ∧ now ≤ 1000000000) (ha : (a == 1) = false) :
    Calls Try.prog 38 #[.string ⟨#[116, 111, 102]⟩, .slice (some ⟨g, 0, none⟩) m d', .int .i64 now] w (Wr w0 g m d' (stp 1 [a, b, 0, d, e, f] now) w) := by
  obtain ⟨g', d'', h', -, -, e0, e1, e2, e3, e4, e5, fz⟩ := hU.six
  simp at h'
  obtain ⟨rfl, rfl, rfl⟩ := h'
  have f0 := fz 0
  have f1 := fz 1
  have f2 := fz 2
  have f3 := fz 3
  have f4 := fz 4
  have f5 := fz 5
  replace hU := Lib.hid hU
  replace he := Lib.hid he
  replace hn := Lib.hid hn
  clear fz
  go_enter Try.func38, Try.ntmps38
  go_wp2_with fail
  go_quiet (fail)
  go_wp2_with (first
    | (go_at_call 39; refine (rtruth_c _ _).mono ?_; rintro r w2 ⟨rfl, rfl⟩)
    | fail)
  all_goals
    go_end0
    apply Wr.mk'
    case hO =>
      repeat (first | with_reducible apply Ow.set | with_reducible apply Ow.drewN | with_reducible apply Ow.drew' | exact hU.out)
      all_goals simp
    case hL =>
      try (have ha1 : ¬ a = 0 := by simpa using ha)
      try (have ha2 : ¬ a = 1 := by simpa using ha)
      try (have hf1 : ¬ f = 0 := by simpa using hf)
      try simp only [beq_iff_eq, beq_eq_false_iff_ne, ne_eq] at *
      simp [stp, stF, kin, f6, F6.list, tofF, pre, gone, *]
      try (repeat' (first | omega | split | constructor) <;> (try simp_all) <;> (try omega))
    case hk => repeat (first | exact Kp.refl _ _ | refine Kp.setCell ?_ (.inl (by simp)) _ | refine Kp.drewN ?_ _ | refine Kp.drew ?_)
set_option maxRecDepth 100000 in
set_option maxHeartbeats 8000000 in
theorem rtm_tof_old (w0 w : World) (g m d' : Nat) (a b d e f now : Int) (hU : Ow w0 w (.slice (some ⟨g, 0, none⟩) m d') [a, b, 1, d, e, f]) (he : -2147483648 ≤ e ∧ e ≤ 2147483647) (hn : 0 ≤ now ∧ now ≤ 1000000000) (ha : (a == 1) = false) (hf : (f == 0) = false) :
    Calls Try.prog 38 #[.string ⟨#[116, 111, 102]⟩, .slice (some ⟨g, 0, none⟩) m d', .int .i64 now] w (Wr w0 g m d' (stp 1 [a, b, 1, d, e, f] now) w) := by
  obtain ⟨g', d'', h', -, -, e0, e1, e2, e3, e4, e5, fz⟩ := hU.six
  simp at h'
  obtain ⟨rfl, rfl, rfl⟩ := h'
  have f0 := fz 0
  have f1 := fz 1
  have f2 := fz 2
  have f3 := fz 3
  have f4 := fz 4
  have f5 := fz 5
  replace hU := Lib.hid hU
  replace he := Lib.hid he
  replace hn := Lib.hid hn
  clear fz
  go_enter Try.func38, Try.ntmps38
  go_wp2_with fail
  go_quiet (fail)
  go_wp2_with (first
    | (go_at_call 39; refine (rtruth_c _ _).mono ?_; rintro r w2 ⟨rfl, rfl⟩)
    | (go_at_call 58; refine (rstart_old _ _ _ f _ _ rfl (by go_simp) hf).mono ?_; rintro r w2 ⟨rfl, rfl⟩)
    | (go_at_call 59; refine (rgone_c _ _ _ _ e _ _ rfl (by go_simp) he.out hn.out).mono ?_; rintro r w2 ⟨rfl, rfl⟩)
    | fail)
  all_goals
    go_end0
    apply Wr.mk'
    case hO =>
      repeat (first | with_reducible apply Ow.set | with_reducible apply Ow.drewN | with_reducible apply Ow.drew' | exact hU.out)
      all_goals simp
    case hL =>
      try (have ha1 : ¬ a = 0 := by simpa using ha)
      try (have ha2 : ¬ a = 1 := by simpa using ha)
      try (have hf1 : ¬ f = 0 := by simpa using hf)
      try simp only [beq_iff_eq, beq_eq_false_iff_ne, ne_eq] at *
      simp [stp, stF, kin, f6, F6.list, tofF, pre, gone, *]
      try (repeat' (first | omega | split | constructor) <;> (try simp_all) <;> (try omega))
    case hk => repeat (first | exact Kp.refl _ _ | refine Kp.setCell ?_ (.inl (by simp)) _ | refine Kp.drewN ?_ _ | refine Kp.drew ?_)
set_option maxRecDepth 100000 in
set_option maxHeartbeats 8000000 in
theorem rtm_tof_new (w0 w : World) (g m d' : Nat) (a b d e now : Int) (hU : Ow w0 w (.slice (some ⟨g, 0, none⟩) m d') [a, b, 1, d, e, 0]) (he : -2147483648 ≤ e ∧ e ≤ 2147483647) (hn : 0 ≤ now ∧ now ≤ 1000000000) (ha : (a == 1) = false) :
    Calls Try.prog 38 #[.string ⟨#[116, 111, 102]⟩, .slice (some ⟨g, 0, none⟩) m d', .int .i64 now] w (Wr w0 g m d' (stp 1 [a, b, 1, d, e, 0] now) w) := by
  obtain ⟨g', d'', h', -, -, e0, e1, e2, e3, e4, e5, fz⟩ := hU.six
  simp at h'
  obtain ⟨rfl, rfl, rfl⟩ := h'
  have f0 := fz 0
  have f1 := fz 1
  have f2 := fz 2
  have f3 := fz 3
  have f4 := fz 4
  have f5 := fz 5
  replace hU := Lib.hid hU
  replace he := Lib.hid he
  replace hn := Lib.hid hn
  clear fz
  go_enter Try.func38, Try.ntmps38
  go_wp2_with fail
  go_quiet (fail)
  go_wp2_with (first
    | (go_at_call 39; refine (rtruth_c _ _).mono ?_; rintro r w2 ⟨rfl, rfl⟩)
    | (go_at_call 58; refine (rstart_new _ _ _ e _ _ rfl (by go_simp) (by go_simp) (by go_simp) (by go_simp)).mono ?_; rintro r w2 ⟨rfl, rfl⟩)
    | (go_at_call 59; refine (rgone_c _ _ _ _ now _ _ rfl (by go_simp) (by have h9 := hn.out; omega) hn.out).mono ?_; rintro r w2 ⟨rfl, rfl⟩)
    | fail)
  all_goals
    go_end0
    apply Wr.mk'
    case hO =>
      repeat (first | with_reducible apply Ow.set | with_reducible apply Ow.drewN | with_reducible apply Ow.drew' | exact hU.out)
      all_goals simp
    case hL =>
      try (have ha1 : ¬ a = 0 := by simpa using ha)
      try (have ha2 : ¬ a = 1 := by simpa using ha)
      try (have hf1 : ¬ f = 0 := by simpa using hf)
      try simp only [beq_iff_eq, beq_eq_false_iff_ne, ne_eq] at *
      simp [stp, stF, kin, f6, F6.list, tofF, pre, gone, *]
      try (repeat' (first | omega | split | constructor) <;> (try simp_all) <;> (try omega))
    case hk => repeat (first | exact Kp.refl _ _ | refine Kp.setCell ?_ (.inl (by simp)) _ | refine Kp.drewN ?_ _ | refine Kp.drew ?_)
end Go.Proofs.Ytieacfenoomaeaa
