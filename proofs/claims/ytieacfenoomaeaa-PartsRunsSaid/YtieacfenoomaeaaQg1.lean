import Derived.Test.YtieacfenoomaeaaQd2
import Derived.Test.YtieacfenoomaeaaQf1
import Derived.RegionTactic
import Derived.Deep.RegionWith
set_option linter.unusedSimpArgs false
set_option linter.unusedVariables false
namespace Go.Proofs.Ytieacfenoomaeaa
open Go.RowKit

theorem Ow.drewN {w0 w : World} {v : Value} {zs : List Int} (h : Ow w0 w v zs) (n : Nat) : Ow w0 (w.drewN n) v zs := h
theorem Ow.drew' {w0 w : World} {v : Value} {zs : List Int} (h : Ow w0 w v zs) : Ow w0 w.drew v zs := h
/-- What writes into the cells of a block: it holds these now; nothing else has turned. -/
def Wr (w0 : World) (g n c : Nat) (l : List Int) (w : World) (r : Ending) (w' : World) : Prop := r = .returned (.tuple #[]) ∧ (∃ L, Ow w0 w' (.slice (some ⟨g, 0, none⟩) n c) L ∧ L = l) ∧ Kp [g] w w'
theorem Wr.mk' {w0 : World} {g n c : Nat} {l L : List Int} {w w' : World} (hO : Ow w0 w' (.slice (some ⟨g, 0, none⟩) n c) L) (hL : L = l) (hk : Kp [g] w w') : Wr w0 g n c l w (.returned (.tuple #[])) w' := ⟨rfl, ⟨L, hO, hL⟩, hk⟩
theorem Ow.tri {w0 w : World} {g n c : Nat} {z0 z1 z2 : Int} (h : Ow w0 w (.slice (some ⟨g, 0, none⟩) n c) [z0, z1, z2]) : n = 3 ∧ w.cell? ⟨g, 0, none⟩ = some (.int .i64 z0) ∧ w.cell? ⟨g, 1, none⟩ = some (.int .i64 z1) ∧ w.cell? ⟨g, 2, none⟩ = some (.int .i64 z2) ∧ ∀ j, w.frozen? ⟨g, j, none⟩ = false := by
  obtain ⟨g', c', h1, h2, h3, h5, h6⟩ := h.at_ (Nat.succ_pos _)
  simp at h1
  obtain ⟨rfl, rfl, rfl⟩ := h1
  exact ⟨rfl, h5 0 (Nat.succ_pos _), h5 1 (by show 1 < 3; omega), h5 2 (by show 2 < 3; omega), h6⟩
set_option maxRecDepth 100000 in
set_option maxHeartbeats 1000000 in
theorem rscan_sr (w0 w : World) (g n c : Nat) (z0 z1 z2 now : Int) (hU : Ow w0 w (.slice (some ⟨g, 0, none⟩) n c) [z0, z1, z2]) :
    Calls Try.prog 22 #[.string ⟨#[115, 114]⟩, .slice (some ⟨g, 0, none⟩) n c, .int .i64 now] w (Wr w0 g n c (stp 5 [z0, z1, z2] now) w) := by
  obtain ⟨rfl, e0, e1, e2, f⟩ := hU.tri
  have f0 := f 0
  have f1 := f 1
  have f2 := f 2
  replace hU := Lib.hid hU
  clear f
  go_enter Try.func22, Try.ntmps22
  go_wp2_with (go_at_call 39; refine (rtruth_c _ _).mono ?_; rintro r w2 ⟨rfl, rfl⟩)
  all_goals
    go_end0
    apply Wr.mk'
    case hO =>
      repeat (first | exact hU.out | apply Ow.set | apply Ow.drewN | apply Ow.drew')
      all_goals simp
    case hL =>
      simp [stp, stF, kin, f6, F6.list, srF, *]
      try (congr 1; rw [Bool.eq_iff_iff]; simp; try omega)
    case hk => repeat (first | exact Kp.refl _ _ | refine Kp.setCell ?_ (.inl (by simp)) _ | refine Kp.drewN ?_ _ | refine Kp.drew ?_)
set_option maxRecDepth 100000 in
set_option maxHeartbeats 1000000 in
theorem rscan_rs (w0 w : World) (g n c : Nat) (z0 z1 z2 now : Int) (hU : Ow w0 w (.slice (some ⟨g, 0, none⟩) n c) [z0, z1, z2]) :
    Calls Try.prog 22 #[.string ⟨#[114, 115]⟩, .slice (some ⟨g, 0, none⟩) n c, .int .i64 now] w (Wr w0 g n c (stp 6 [z0, z1, z2] now) w) := by
  obtain ⟨rfl, e0, e1, e2, f⟩ := hU.tri
  have f0 := f 0
  have f1 := f 1
  have f2 := f 2
  replace hU := Lib.hid hU
  clear f
  go_enter Try.func22, Try.ntmps22
  go_wp2_with (go_at_call 39; refine (rtruth_c _ _).mono ?_; rintro r w2 ⟨rfl, rfl⟩)
  all_goals
    go_end0
    apply Wr.mk'
    case hO =>
      repeat (first | exact hU.out | apply Ow.set | apply Ow.drewN | apply Ow.drew')
      all_goals simp
    case hL =>
      simp [stp, stF, kin, f6, F6.list, rsF, *]
      try (congr 1; rw [Bool.eq_iff_iff]; simp; try omega)
    case hk => repeat (first | exact Kp.refl _ _ | refine Kp.setCell ?_ (.inl (by simp)) _ | refine Kp.drewN ?_ _ | refine Kp.drew ?_)
set_option maxRecDepth 100000 in
set_option maxHeartbeats 1000000 in
theorem rscan_rtrig (w0 w : World) (g n c : Nat) (z0 z1 z2 now : Int) (hU : Ow w0 w (.slice (some ⟨g, 0, none⟩) n c) [z0, z1, z2]) :
    Calls Try.prog 22 #[.string ⟨#[114, 116, 114, 105, 103]⟩, .slice (some ⟨g, 0, none⟩) n c, .int .i64 now] w (Wr w0 g n c (stp 7 [z0, z1, z2] now) w) := by
  obtain ⟨rfl, e0, e1, e2, f⟩ := hU.tri
  have f0 := f 0
  have f1 := f 1
  have f2 := f 2
  replace hU := Lib.hid hU
  clear f
  go_enter Try.func22, Try.ntmps22
  go_wp2_with (go_at_call 39; refine (rtruth_c _ _).mono ?_; rintro r w2 ⟨rfl, rfl⟩)
  all_goals
    go_end0
    apply Wr.mk'
    case hO =>
      repeat (first | exact hU.out | apply Ow.set | apply Ow.drewN | apply Ow.drew')
      all_goals simp
    case hL =>
      simp [stp, stF, kin, f6, F6.list, rtrigF, *]
      try (congr 1; rw [Bool.eq_iff_iff]; simp; try omega)
    case hk => repeat (first | exact Kp.refl _ _ | refine Kp.setCell ?_ (.inl (by simp)) _ | refine Kp.drewN ?_ _ | refine Kp.drew ?_)
set_option maxRecDepth 100000 in
set_option maxHeartbeats 1000000 in
theorem rscan_ftrig (w0 w : World) (g n c : Nat) (z0 z1 z2 now : Int) (hU : Ow w0 w (.slice (some ⟨g, 0, none⟩) n c) [z0, z1, z2]) :
    Calls Try.prog 22 #[.string ⟨#[102, 116, 114, 105, 103]⟩, .slice (some ⟨g, 0, none⟩) n c, .int .i64 now] w (Wr w0 g n c (stp 8 [z0, z1, z2] now) w) := by
  obtain ⟨rfl, e0, e1, e2, f⟩ := hU.tri
  have f0 := f 0
  have f1 := f 1
  have f2 := f 2
  replace hU := Lib.hid hU
  clear f
  go_enter Try.func22, Try.ntmps22
  go_wp2_with (go_at_call 39; refine (rtruth_c _ _).mono ?_; rintro r w2 ⟨rfl, rfl⟩)
  all_goals
    go_end0
    apply Wr.mk'
    case hO =>
      repeat (first | exact hU.out | apply Ow.set | apply Ow.drewN | apply Ow.drew')
      all_goals simp
    case hL =>
      simp [stp, stF, kin, f6, F6.list, ftrigF, *]
      try (congr 1; rw [Bool.eq_iff_iff]; simp; try omega)
    case hk => repeat (first | exact Kp.refl _ _ | refine Kp.setCell ?_ (.inl (by simp)) _ | refine Kp.drewN ?_ _ | refine Kp.drew ?_)
set_option maxRecDepth 100000 in
set_option maxHeartbeats 2000000 in
theorem rscan_ctu (w0 w : World) (g m d : Nat) (a b c p e f now : Int) (hU : Ow w0 w (.slice (some ⟨g, 0, none⟩) m d) [a, b, c, p, e, f]) (he : -2147483648 ≤ e ∧ e ≤ 2147483647) :
    Calls Try.prog 22 #[.string ⟨#[99, 116, 117]⟩, .slice (some ⟨g, 0, none⟩) m d, .int .i64 now] w (Wr w0 g m d (stp 3 [a, b, c, p, e, f] now) w) := by
  obtain ⟨g', d', h', -, -, e0, e1, e2, e3, e4, e5, fz⟩ := hU.six
  simp at h'
  obtain ⟨rfl, rfl, rfl⟩ := h'
  have f0 := fz 0
  have f1 := fz 1
  have f2 := fz 2
  have f3 := fz 3
  have f4 := fz 4
  have f5 := fz 5
  have hw1 : wrap64 (e + 1) = e + 1 := IntWalk.wrap64_in _ (by omega)
  have hw2 : IntKind.i64.wrap (e + 1) = e + 1 := IntWalk.i64_in _ (by omega)
  replace hU := Lib.hid hU
  replace he := Lib.hid he
  clear fz
  go_enter Try.func22, Try.ntmps22
  go_wp2_with fail
  all_goals
    go_region_with (go_at_call 39; refine (rtruth_c _ _).mono ?_; rintro r w2 ⟨rfl, rfl⟩)
  all_goals
    go_wp2
    go_end0
    apply Wr.mk'
    case hO =>
      repeat (first | exact hU.out | apply Ow.set | apply Ow.drewN | apply Ow.drew')
      all_goals simp
    case hL =>
      try simp only [beq_iff_eq, beq_eq_false_iff_ne, ne_eq] at *
      simp [stp, stF, kin, f6, F6.list, ctuF, *]
      try (have h9 : ¬ e < 2147483647 := by omega)
      try (have h9 : ¬ -2147483648 < e := by omega)
      try simp [*]
    case hk => repeat (first | exact Kp.refl _ _ | refine Kp.setCell ?_ (.inl (by simp)) _ | refine Kp.drewN ?_ _ | refine Kp.drew ?_)
set_option maxRecDepth 100000 in
set_option maxHeartbeats 2000000 in
theorem rscan_ctd (w0 w : World) (g m d : Nat) (a b c p e f now : Int) (hU : Ow w0 w (.slice (some ⟨g, 0, none⟩) m d) [a, b, c, p, e, f]) (he : -2147483648 ≤ e ∧ e ≤ 2147483647) :
    Calls Try.prog 22 #[.string ⟨#[99, 116, 100]⟩, .slice (some ⟨g, 0, none⟩) m d, .int .i64 now] w (Wr w0 g m d (stp 4 [a, b, c, p, e, f] now) w) := by
  obtain ⟨g', d', h', -, -, e0, e1, e2, e3, e4, e5, fz⟩ := hU.six
  simp at h'
  obtain ⟨rfl, rfl, rfl⟩ := h'
  have f0 := fz 0
  have f1 := fz 1
  have f2 := fz 2
  have f3 := fz 3
  have f4 := fz 4
  have f5 := fz 5
  have hw1 : wrap64 (e - 1) = e - 1 := IntWalk.wrap64_in _ (by omega)
  have hw2 : IntKind.i64.wrap (e - 1) = e - 1 := IntWalk.i64_in _ (by omega)
  replace hU := Lib.hid hU
  replace he := Lib.hid he
  clear fz
  go_enter Try.func22, Try.ntmps22
  go_wp2_with (go_at_call 39; refine (rtruth_c _ _).mono ?_; rintro r w2 ⟨rfl, rfl⟩)
  all_goals
    go_end0
    apply Wr.mk'
    case hO =>
      repeat (first | exact hU.out | apply Ow.set | apply Ow.drewN | apply Ow.drew')
      all_goals simp
    case hL =>
      try simp only [beq_iff_eq, beq_eq_false_iff_ne, ne_eq] at *
      simp [stp, stF, kin, f6, F6.list, ctdF, *]
      try (have h9 : ¬ e < 2147483647 := by omega)
      try (have h9 : ¬ -2147483648 < e := by omega)
      try simp [*]
    case hk => repeat (first | exact Kp.refl _ _ | refine Kp.setCell ?_ (.inl (by simp)) _ | refine Kp.drewN ?_ _ | refine Kp.drew ?_)
end Go.Proofs.Ytieacfenoomaeaa
