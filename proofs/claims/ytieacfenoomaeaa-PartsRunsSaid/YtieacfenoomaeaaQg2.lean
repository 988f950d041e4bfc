import Derived.Test.YtieacfenoomaeaaQg1
import Derived.Deep.QuietTactic
set_option linter.unusedSimpArgs false
set_option linter.unusedVariables false
namespace Go.Proofs.Ytieacfenoomaeaa
open Go.RowKit

set_option maxRecDepth 100000 in
theorem rgone_c (g m d : Nat) (p e now : Int) (w : World) (hm : m = 6) (h4 : w.cell? ⟨g, 4, none⟩ = some (.int .i64 e)) (he : -2147483648 ≤ e ∧ e ≤ 2147483647) (hn : 0 ≤ now ∧ now ≤ 1000000000) :
    Calls Try.prog 59 #[.slice (some ⟨g, 0, none⟩) m d, .int .i64 p, .int .i64 now] w fun r w' => r = .returned (.int .i64 (min p (max (now - e) 0))) ∧ w' = w := by
  subst hm
  have hw : IntKind.i64.wrap (now - e) = now - e := IntWalk.i64_in _ (by omega)
  have hw2 : wrap64 (now - e) = now - e := IntWalk.wrap64_in _ (by omega)
  clear he hn
  go_enter Try.func59, Try.ntmps59
  go_wp2
  go_ret
  exact ⟨by first | rfl | simp [*], rfl⟩
set_option maxRecDepth 100000 in
theorem rstart_old (g m d : Nat) (f now : Int) (w : World) (hm : m = 6) (h5 : w.cell? ⟨g, 5, none⟩ = some (.int .i64 f)) (hf : (f == 0) = false) :
    Calls Try.prog 58 #[.slice (some ⟨g, 0, none⟩) m d, .int .i64 now] w fun r w' => r = .returned (.tuple #[]) ∧ w' = w := by
  subst hm
  go_enter Try.func58, Try.ntmps58
  go_wp2
  go_end0
  exact ⟨rfl, rfl⟩
set_option maxRecDepth 100000 in
theorem rstart_new (g m d : Nat) (e now : Int) (w : World) (hm : m = 6) (h4 : w.cell? ⟨g, 4, none⟩ = some (.int .i64 e)) (h5 : w.cell? ⟨g, 5, none⟩ = some (.int .i64 0)) (f4 : w.frozen? ⟨g, 4, none⟩ = false) (f5 : w.frozen? ⟨g, 5, none⟩ = false) :
    Calls Try.prog 58 #[.slice (some ⟨g, 0, none⟩) m d, .int .i64 now] w fun r w' => r = .returned (.tuple #[]) ∧ w' = (w.setCell ⟨g, 5, none⟩ (.int .i64 1)).setCell ⟨g, 4, none⟩ (.int .i64 now) := by
  subst hm
  go_enter Try.func58, Try.ntmps58
  go_wp2
  go_end0
  exact ⟨rfl, rfl⟩
set_option maxRecDepth 100000 in
set_option maxHeartbeats 8000000 in
theorem rtm_ton_off (w0 w : World) (g m d' : Nat) (b c d e f now : Int) (hU : Ow w0 w (.slice (some ⟨g, 0, none⟩) m d') [0, b, c, d, e, f]) (he : -2147483648 ≤ e ∧ e ≤ 2147483647) (hn : 0 ≤ now ∧ now ≤ 1000000000) :
    Calls Try.prog 38 #[.string ⟨#[116, 111, 110]⟩, .slice (some ⟨g, 0, none⟩) m d', .int .i64 now] w (Wr w0 g m d' (stp 0 [0, b, c, d, e, f] now) w) := by
  obtain ⟨g', d'', h', -, -, e0, e1, e2, e3, e4, e5, fz⟩ := hU.six
  simp at h'
  obtain ⟨rfl, rfl, rfl⟩ := h'
  have f0 := fz 0
  have f1 := fz 1
  have f2 := fz 2
  have f3 := fz 3
  have f4 := fz 4
  have f5 := fz 5
  replace hU := Lib.hid hU
  replace he := Lib.hid he
  replace hn := Lib.hid hn
  clear fz
  go_enter Try.func38, Try.ntmps38
  go_wp2_with fail
  go_quiet (fail)
  go_wp2_with (first
    | (go_at_call 39; refine (rtruth_c _ _).mono ?_; rintro r w2 ⟨rfl, rfl⟩)
    | fail)
  all_goals
    go_end0
    apply Wr.mk'
    case hO =>
      repeat (first | with_reducible apply Ow.set | with_reducible apply Ow.drewN | with_reducible apply Ow.drew' | exact hU.out)
      all_goals simp
    case hL =>
      try (have ha1 : ¬ a = 0 := by simpa using ha)
      try (have ha2 : ¬ a = 1 := by simpa using ha)
      try (have hf1 : ¬ f = 0 := by simpa using hf)
      try simp only [beq_iff_eq, beq_eq_false_iff_ne, ne_eq] at *
      simp [stp, stF, kin, f6, F6.list, tonF, pre, gone, *]
      try (repeat' (first | omega | split | constructor) <;> (try simp_all) <;> (try omega))
    case hk => repeat (first | exact Kp.refl _ _ | refine Kp.setCell ?_ (.inl (by simp)) _ | refine Kp.drewN ?_ _ | refine Kp.drew ?_)
set_option maxRecDepth 100000 in
set_option maxHeartbeats 8000000 in
theorem rtm_ton_old (w0 w : World) (g m d' : Nat) (a b c d e f now : Int) (hU : Ow w0 w (.slice (some ⟨g, 0, none⟩) m d') [a, b, c, d, e, f]) (he : -2147483648 ≤ e ∧ e ≤ 2147483647) (hn : 0 ≤ now ∧ now ≤ 1000000000) (ha : (a == 0) = false) (hf : (f == 0) = false) :
    Calls Try.prog 38 #[.string ⟨#[116, 111, 110]⟩, .slice (some ⟨g, 0, none⟩) m d', .int .i64 now] w (Wr w0 g m d' (stp 0 [a, b, c, d, e, f] now) w) := by
  obtain ⟨g', d'', h', -, -, e0, e1, e2, e3, e4, e5, fz⟩ := hU.six
  simp at h'
  obtain ⟨rfl, rfl, rfl⟩ := h'
  have f0 := fz 0
  have f1 := fz 1
  have f2 := fz 2
  have f3 := fz 3
  have f4 := fz 4
  have f5 := fz 5
  replace hU := Lib.hid hU
  replace he := Lib.hid he
  replace hn := Lib.hid hn
  clear fz
  go_enter Try.func38, Try.ntmps38
  go_wp2_with fail
  go_quiet (fail)
  go_wp2_with (first
    | (go_at_call 39; refine (rtruth_c _ _).mono ?_; rintro r w2 ⟨rfl, rfl⟩)
    | (go_at_call 58; refine (rstart_old _ _ _ f _ _ rfl (by go_simp) hf).mono ?_; rintro r w2 ⟨rfl, rfl⟩)
    | (go_at_call 59; refine (rgone_c _ _ _ _ e _ _ rfl (by go_simp) he.out hn.out).mono ?_; rintro r w2 ⟨rfl, rfl⟩)
    | fail)
  all_goals
    go_end0
    apply Wr.mk'
    case hO =>
      repeat (first | with_reducible apply Ow.set | with_reducible apply Ow.drewN | with_reducible apply Ow.drew' | exact hU.out)
      all_goals simp
    case hL =>
      try (have ha1 : ¬ a = 0 := by simpa using ha)
      try (have ha2 : ¬ a = 1 := by simpa using ha)
      try (have hf1 : ¬ f = 0 := by simpa using hf)
      try simp only [beq_iff_eq, beq_eq_false_iff_ne, ne_eq] at *
      simp [stp, stF, kin, f6, F6.list, tonF, pre, gone, *]
      try (repeat' (first | omega | split | constructor) <;> (try simp_all) <;> (try omega))
    case hk => repeat (first | exact Kp.refl _ _ | refine Kp.setCell ?_ (.inl (by simp)) _ | refine Kp.drewN ?_ _ | refine Kp.drew ?_)
set_option maxRecDepth 100000 in
set_option maxHeartbeats 8000000 in
theorem rtm_ton_new (w0 w : World) (g m d' : Nat) (a b c d e now : Int) (hU : Ow w0 w (.slice (some ⟨g, 0, none⟩) m d') [a, b, c, d, e, 0]) (he : -2147483648 ≤ e ∧ e ≤ 2147483647) (hn : 0 ≤ now ∧ now ≤ 1000000000) (ha : (a == 0) = false) :
    Calls Try.prog 38 #[.string ⟨#[116, 111, 110]⟩, .slice (some ⟨g, 0, none⟩) m d', .int .i64 now] w (Wr w0 g m d' (stp 0 [a, b, c, d, e, 0] now) w) := by
  obtain ⟨g', d'', h', -, -, e0, e1, e2, e3, e4, e5, fz⟩ := hU.six
  simp at h'
  obtain ⟨rfl, rfl, rfl⟩ := h'
  have f0 := fz 0
  have f1 := fz 1
  have f2 := fz 2
  have f3 := fz 3
  have f4 := fz 4
  have f5 := fz 5
  replace hU := Lib.hid hU
  replace he := Lib.hid he
  replace hn := Lib.hid hn
  clear fz
  go_enter Try.func38, Try.ntmps38
  go_wp2_with fail
  go_quiet (fail)
  go_wp2_with (first
    | (go_at_call 39; refine (rtruth_c _ _).mono ?_; rintro r w2 ⟨rfl, rfl⟩)
    | (go_at_call 58; refine (rstart_new _ _ _ e _ _ rfl (by go_simp) (by go_simp) (by go_simp) (by go_simp)).mono ?_; rintro r w2 ⟨rfl, rfl⟩)
    | (go_at_call 59; refine (rgone_c _ _ _ _ now _ _ rfl (by go_simp) (by have h9 := hn.out; omega) hn.out).mono ?_; rintro r w2 ⟨rfl, rfl⟩)
    | fail)
  all_goals
    go_end0
    apply Wr.mk'
    case hO =>
      repeat (first | with_reducible apply Ow.set | with_reducible apply Ow.drewN | with_reducible apply Ow.drew' | exact hU.out)
      all_goals simp
    case hL =>
      try (have ha1 : ¬ a = 0 := by simpa using ha)
      try (have ha2 : ¬ a = 1 := by simpa using ha)
      try (have hf1 : ¬ f = 0 := by simpa using hf)
      try simp only [beq_iff_eq, beq_eq_false_iff_ne, ne_eq] at *
      simp [stp, stF, kin, f6, F6.list, tonF, pre, gone, *]
      try (repeat' (first | omega | split | constructor) <;> (try simp_all) <;> (try omega))
    case hk => repeat (first | exact Kp.refl _ _ | refine Kp.setCell ?_ (.inl (by simp)) _ | refine Kp.drewN ?_ _ | refine Kp.drew ?_)
end Go.Proofs.Ytieacfenoomaeaa
