import Derived.Test.YtieacfenoomaeaaQg5
import Derived.Test.YtieacfenoomaeaaQg6
import Derived.Test.YtieacfenoomaeaaQd4
import Derived.Test.YtieacfenoomaeaaQf2
set_option linter.unusedSimpArgs false
set_option linter.unusedVariables false
namespace Go.Proofs.Ytieacfenoomaeaa
open Go.RowKit

theorem rwakes_c (i : Nat) (hi : i < 9) (zs : List Int) (w : World) (v : Value) (hz : Is w v zs) (hv : areV (kin i) zs = true) : Calls Try.prog 21 #[.string (nmb i), v] w fun r w' => r = .returned (.int .i64 (wk i zs)) ∧ Kp [] w w' := by
  by_cases h3 : i < 3
  · have ht : tmB (nmb i) = true := by rcases (show i = 0 ∨ i = 1 ∨ i = 2 by omega) with rfl | rfl | rfl <;> first | exact tmB_0 | exact tmB_1 | exact tmB_2
    have hkin : kin i = [1, 3, 1, 3, 3, 1] := by rcases (show i = 0 ∨ i = 1 ∨ i = 2 by omega) with rfl | rfl | rfl <;> rfl
    rw [hkin] at hv
    obtain ⟨z0, z1, z2, z3, z4, z5, rfl, h0, h1, h2, h3', h4, h5⟩ := six_of hv
    obtain ⟨b, o, c, rfl, y0, y1, y2, y3, y4, y5⟩ := hz.six
    by_cases hf : z5 = 1
    · subst hf
      by_cases hd : pre z1 ≤ z3
      · have e : wk i [z0, z1, z2, z3, z4, 1] = -1 := if_neg (fun h => by have h9 : z3 < pre z1 := h.2.2; omega)
        rw [e]
        exact rwakes_done _ b o c w z1 z3 ht y1 y3 y5 hd
      · have e : wk i [z0, z1, z2, z3, z4, 1] = z4 + pre z1 := if_pos ⟨by simpa using h3, rfl, by show z3 < pre z1; omega⟩
        rw [e]
        exact rwakes_run _ b o c w z1 z3 z4 ht y1 y3 y4 y5 (by unfold pre at hd; omega) (isV_bd h1) (isV_bd h4)
    · have e : wk i [z0, z1, z2, z3, z4, z5] = -1 := if_neg (fun h => hf h.2.1)
      rw [e]
      exact rwakes_off _ b o c w z5 ht y5 hf
  · have ht : tmB (nmb i) = false := by
      rcases (show i = 3 ∨ i = 4 ∨ i = 5 ∨ i = 6 ∨ i = 7 ∨ i = 8 by omega) with rfl | rfl | rfl | rfl | rfl | rfl
      all_goals first | exact tmB_3 | exact tmB_4 | exact tmB_5 | exact tmB_6 | exact tmB_7 | exact tmB_8
    have e : wk i zs = -1 := if_neg (fun h => h3 (by simpa using h.1))
    rw [e]
    exact rwakes_un _ v w ht

/-- At no time: an error. -/
theorem scan_late (k : ByteArray) (K n : Nat) (L : List (ByteArray × Int × Int)) (x : F6) (v : Value) (now : Int) (w : World) (hP : Hid (∀ W, Kp [] w W → Calls Try.prog 30 #[.string k, v] W fun r w' => ∃ g, r = .returned (.tuple #[partV g n K x, .int .i64 0]) ∧ VarsAt w' g L ∧ Kp [] W w')) (ht : isT now = false) :
    Calls Try.prog 11 #[.string k, v, .int .i64 now] w (ScanErr 2 w) := by
  have hI := Lib.hid (fun W => ht ▸ isTime_c now W)
  clear ht
  go_enter Try.func11, Try.ntmps11
  go_wp2_with fail
  refine (hP.out _ (Kp.refl _ _)).mono ?_
  rintro r w1 ⟨g, rfl, hV, hk1⟩
  unfold partV
  replace hV := Lib.hid hV
  replace hk1 := Lib.hid hk1
  go_wp2_with fail
  refine (hI.out _).mono ?_
  rintro r w2 ⟨rfl, rfl⟩
  go_wp2
  go_ret2
  exact ⟨rfl, hk1.out.alloc _⟩
theorem late_0 (zs : List Int) (now : Int) (w : World) (v : Value) (hz : Is w v zs) (hv : areV (kin 0) zs = true) (ht : isT now = false) : Calls Try.prog 11 #[.string ⟨#[116, 111, 110]⟩, v, .int .i64 now] w (ScanErr 2 w) :=
  scan_late _ 49 6 timerL (f6 zs) v now w (fun W k => partOf_6 ⟨#[116, 111, 110]⟩ 0 49 78 timerL kind_ton zs hv rfl W v (hz.kp k)) ht
theorem pbad_0 (zs : List Int) (w : World) (v : Value) (hz : Is w v zs) (hv : areV (kin 0) zs = false) : Calls Try.prog 30 #[.string ⟨#[116, 111, 110]⟩, v] w fun r w' => r = .returned (.tuple #[noPart, .int .i64 2]) ∧ Kp [] w w' :=
  partOf_bad _ 0 49 78 6 timerL kind_ton (by omega) zs hv w v hz
theorem late_1 (zs : List Int) (now : Int) (w : World) (v : Value) (hz : Is w v zs) (hv : areV (kin 1) zs = true) (ht : isT now = false) : Calls Try.prog 11 #[.string ⟨#[116, 111, 102]⟩, v, .int .i64 now] w (ScanErr 2 w) :=
  scan_late _ 50 6 timerL (f6 zs) v now w (fun W k => partOf_6 ⟨#[116, 111, 102]⟩ 1 50 78 timerL kind_tof zs hv rfl W v (hz.kp k)) ht
theorem pbad_1 (zs : List Int) (w : World) (v : Value) (hz : Is w v zs) (hv : areV (kin 1) zs = false) : Calls Try.prog 30 #[.string ⟨#[116, 111, 102]⟩, v] w fun r w' => r = .returned (.tuple #[noPart, .int .i64 2]) ∧ Kp [] w w' :=
  partOf_bad _ 1 50 78 6 timerL kind_tof (by omega) zs hv w v hz
theorem late_2 (zs : List Int) (now : Int) (w : World) (v : Value) (hz : Is w v zs) (hv : areV (kin 2) zs = true) (ht : isT now = false) : Calls Try.prog 11 #[.string ⟨#[116, 112]⟩, v, .int .i64 now] w (ScanErr 2 w) :=
  scan_late _ 51 6 timerL (f6 zs) v now w (fun W k => partOf_6 ⟨#[116, 112]⟩ 2 51 78 timerL kind_tp zs hv rfl W v (hz.kp k)) ht
theorem pbad_2 (zs : List Int) (w : World) (v : Value) (hz : Is w v zs) (hv : areV (kin 2) zs = false) : Calls Try.prog 30 #[.string ⟨#[116, 112]⟩, v] w fun r w' => r = .returned (.tuple #[noPart, .int .i64 2]) ∧ Kp [] w w' :=
  partOf_bad _ 2 51 78 6 timerL kind_tp (by omega) zs hv w v hz
theorem late_3 (zs : List Int) (now : Int) (w : World) (v : Value) (hz : Is w v zs) (hv : areV (kin 3) zs = true) (ht : isT now = false) : Calls Try.prog 11 #[.string ⟨#[99, 116, 117]⟩, v, .int .i64 now] w (ScanErr 2 w) :=
  scan_late _ 52 6 ctuL (f6 zs) v now w (fun W k => partOf_6 ⟨#[99, 116, 117]⟩ 3 52 79 ctuL kind_ctu zs hv rfl W v (hz.kp k)) ht
theorem pbad_3 (zs : List Int) (w : World) (v : Value) (hz : Is w v zs) (hv : areV (kin 3) zs = false) : Calls Try.prog 30 #[.string ⟨#[99, 116, 117]⟩, v] w fun r w' => r = .returned (.tuple #[noPart, .int .i64 2]) ∧ Kp [] w w' :=
  partOf_bad _ 3 52 79 6 ctuL kind_ctu (by omega) zs hv w v hz
theorem late_4 (zs : List Int) (now : Int) (w : World) (v : Value) (hz : Is w v zs) (hv : areV (kin 4) zs = true) (ht : isT now = false) : Calls Try.prog 11 #[.string ⟨#[99, 116, 100]⟩, v, .int .i64 now] w (ScanErr 2 w) :=
  scan_late _ 53 6 ctdL (f6 zs) v now w (fun W k => partOf_6 ⟨#[99, 116, 100]⟩ 4 53 80 ctdL kind_ctd zs hv rfl W v (hz.kp k)) ht
theorem pbad_4 (zs : List Int) (w : World) (v : Value) (hz : Is w v zs) (hv : areV (kin 4) zs = false) : Calls Try.prog 30 #[.string ⟨#[99, 116, 100]⟩, v] w fun r w' => r = .returned (.tuple #[noPart, .int .i64 2]) ∧ Kp [] w w' :=
  partOf_bad _ 4 53 80 6 ctdL kind_ctd (by omega) zs hv w v hz
theorem late_5 (zs : List Int) (now : Int) (w : World) (v : Value) (hz : Is w v zs) (hv : areV (kin 5) zs = true) (ht : isT now = false) : Calls Try.prog 11 #[.string ⟨#[115, 114]⟩, v, .int .i64 now] w (ScanErr 2 w) :=
  scan_late _ 54 3 srL (f6 zs) v now w (fun W k => partOf_3 ⟨#[115, 114]⟩ 5 54 81 srL kind_sr zs hv rfl W v (hz.kp k)) ht
theorem pbad_5 (zs : List Int) (w : World) (v : Value) (hz : Is w v zs) (hv : areV (kin 5) zs = false) : Calls Try.prog 30 #[.string ⟨#[115, 114]⟩, v] w fun r w' => r = .returned (.tuple #[noPart, .int .i64 2]) ∧ Kp [] w w' :=
  partOf_bad _ 5 54 81 3 srL kind_sr (by omega) zs hv w v hz
theorem late_6 (zs : List Int) (now : Int) (w : World) (v : Value) (hz : Is w v zs) (hv : areV (kin 6) zs = true) (ht : isT now = false) : Calls Try.prog 11 #[.string ⟨#[114, 115]⟩, v, .int .i64 now] w (ScanErr 2 w) :=
  scan_late _ 55 3 rsL (f6 zs) v now w (fun W k => partOf_3 ⟨#[114, 115]⟩ 6 55 82 rsL kind_rs zs hv rfl W v (hz.kp k)) ht
theorem pbad_6 (zs : List Int) (w : World) (v : Value) (hz : Is w v zs) (hv : areV (kin 6) zs = false) : Calls Try.prog 30 #[.string ⟨#[114, 115]⟩, v] w fun r w' => r = .returned (.tuple #[noPart, .int .i64 2]) ∧ Kp [] w w' :=
  partOf_bad _ 6 55 82 3 rsL kind_rs (by omega) zs hv w v hz
theorem late_7 (zs : List Int) (now : Int) (w : World) (v : Value) (hz : Is w v zs) (hv : areV (kin 7) zs = true) (ht : isT now = false) : Calls Try.prog 11 #[.string ⟨#[114, 116, 114, 105, 103]⟩, v, .int .i64 now] w (ScanErr 2 w) :=
  scan_late _ 56 3 edgeL (f6 zs) v now w (fun W k => partOf_3 ⟨#[114, 116, 114, 105, 103]⟩ 7 56 83 edgeL kind_rtrig zs hv rfl W v (hz.kp k)) ht
theorem pbad_7 (zs : List Int) (w : World) (v : Value) (hz : Is w v zs) (hv : areV (kin 7) zs = false) : Calls Try.prog 30 #[.string ⟨#[114, 116, 114, 105, 103]⟩, v] w fun r w' => r = .returned (.tuple #[noPart, .int .i64 2]) ∧ Kp [] w w' :=
  partOf_bad _ 7 56 83 3 edgeL kind_rtrig (by omega) zs hv w v hz
theorem late_8 (zs : List Int) (now : Int) (w : World) (v : Value) (hz : Is w v zs) (hv : areV (kin 8) zs = true) (ht : isT now = false) : Calls Try.prog 11 #[.string ⟨#[102, 116, 114, 105, 103]⟩, v, .int .i64 now] w (ScanErr 2 w) :=
  scan_late _ 57 3 edgeL (f6 zs) v now w (fun W k => partOf_3 ⟨#[102, 116, 114, 105, 103]⟩ 8 57 83 edgeL kind_ftrig zs hv rfl W v (hz.kp k)) ht
theorem pbad_8 (zs : List Int) (w : World) (v : Value) (hz : Is w v zs) (hv : areV (kin 8) zs = false) : Calls Try.prog 30 #[.string ⟨#[102, 116, 114, 105, 103]⟩, v] w fun r w' => r = .returned (.tuple #[noPart, .int .i64 2]) ∧ Kp [] w w' :=
  partOf_bad _ 8 57 83 3 edgeL kind_ftrig (by omega) zs hv w v hz
theorem late_c (i : Nat) (hi : i < 9) (zs : List Int) (now : Int) (w : World) (v : Value) (hz : Is w v zs) (hv : areV (kin i) zs = true) (ht : isT now = false) : Calls Try.prog 11 #[.string (nmb i), v, .int .i64 now] w (ScanErr 2 w) := by
  rcases (show i = 0 ∨ i = 1 ∨ i = 2 ∨ i = 3 ∨ i = 4 ∨ i = 5 ∨ i = 6 ∨ i = 7 ∨ i = 8 by omega) with rfl | rfl | rfl | rfl | rfl | rfl | rfl | rfl | rfl
  · exact late_0 zs now w v hz hv ht
  · exact late_1 zs now w v hz hv ht
  · exact late_2 zs now w v hz hv ht
  · exact late_3 zs now w v hz hv ht
  · exact late_4 zs now w v hz hv ht
  · exact late_5 zs now w v hz hv ht
  · exact late_6 zs now w v hz hv ht
  · exact late_7 zs now w v hz hv ht
  · exact late_8 zs now w v hz hv ht
theorem pbad_c (i : Nat) (hi : i < 9) (zs : List Int) (w : World) (v : Value) (hz : Is w v zs) (hv : areV (kin i) zs = false) : Calls Try.prog 30 #[.string (nmb i), v] w fun r w' => r = .returned (.tuple #[noPart, .int .i64 2]) ∧ Kp [] w w' := by
  rcases (show i = 0 ∨ i = 1 ∨ i = 2 ∨ i = 3 ∨ i = 4 ∨ i = 5 ∨ i = 6 ∨ i = 7 ∨ i = 8 by omega) with rfl | rfl | rfl | rfl | rfl | rfl | rfl | rfl | rfl
  · exact pbad_0 zs w v hz hv
  · exact pbad_1 zs w v hz hv
  · exact pbad_2 zs w v hz hv
  · exact pbad_3 zs w v hz hv
  · exact pbad_4 zs w v hz hv
  · exact pbad_5 zs w v hz hv
  · exact pbad_6 zs w v hz hv
  · exact pbad_7 zs w v hz hv
  · exact pbad_8 zs w v hz hv
theorem right_c (i : Nat) (hi : i < 9) (w : World) (v : Value) (zs : List Int) (hz : Is w v zs) : Calls Try.prog 20 #[.string (nmb i), v] w fun r w' => r = .returned (.bool (areV (kin i) zs)) ∧ Kp [] w w' := by
  rcases (show i = 0 ∨ i = 1 ∨ i = 2 ∨ i = 3 ∨ i = 4 ∨ i = 5 ∨ i = 6 ∨ i = 7 ∨ i = 8 by omega) with rfl | rfl | rfl | rfl | rfl | rfl | rfl | rfl | rfl
  · exact right_gen _ _ _ _ rk_ton w v zs hz
  · exact right_gen _ _ _ _ rk_tof w v zs hz
  · exact right_gen _ _ _ _ rk_tp w v zs hz
  · exact right_gen _ _ _ _ rk_ctu w v zs hz
  · exact right_gen _ _ _ _ rk_ctd w v zs hz
  · exact right_gen _ _ _ _ rk_sr w v zs hz
  · exact right_gen _ _ _ _ rk_rs w v zs hz
  · exact right_gen _ _ _ _ rk_rtrig w v zs hz
  · exact right_gen _ _ _ _ rk_ftrig w v zs hz
theorem std_any {n : Nat} {L : List (ByteArray × Int × Int)} {w : World} (r : Ending) (w' : World) (h : StdOk n L w r w') : ∃ v, r = .returned (.tuple #[v, .bool true]) ∧ Kp [] w w' := by
  unfold StdOk at h
  obtain ⟨g, h1, h2, h3⟩ := h
  exact ⟨_, h1, h3⟩
/-- The reference knows this name. -/
theorem rstd_ok (i : Nat) (hi : i < 9) (w : World) : Calls Try.prog 18 #[.string (nmb i)] w fun r w' => ∃ v, r = .returned (.tuple #[v, .bool true]) ∧ Kp [] w w' := by
  rcases (show i = 0 ∨ i = 1 ∨ i = 2 ∨ i = 3 ∨ i = 4 ∨ i = 5 ∨ i = 6 ∨ i = 7 ∨ i = 8 by omega) with rfl | rfl | rfl | rfl | rfl | rfl | rfl | rfl | rfl
  · exact (rstd_ton w).mono std_any
  · exact (rstd_tof w).mono std_any
  · exact (rstd_tp w).mono std_any
  · exact (rstd_ctu w).mono std_any
  · exact (rstd_ctd w).mono std_any
  · exact (rstd_sr w).mono std_any
  · exact (rstd_rs w).mono std_any
  · exact (rstd_rtrig w).mono std_any
  · exact (rstd_ftrig w).mono std_any

theorem nm_cells {w : World} {base : Nat} {v : Value} (h : w.ownsRow base 9 1 v 9 (nmS.map encStr)) : ∃ g c, v = .slice (some ⟨g, 0, none⟩) 9 c ∧ ∀ W, Kp [] w W → ∀ k, k < 9 → ∃ b off, some (⟨g, 0, none⟩ : Addr) = some ⟨b, off, none⟩ ∧ W.cell? ⟨b, off + k, none⟩ = some (.string ⟨(nmS.getD k []).toArray⟩) := by
  rcases h.2 with ⟨h1, h2⟩ | ⟨g, cap, cur, h1, h2, h3, h4, h5, h6, h7⟩
  · omega
  · refine ⟨g, cap, h1, fun W k j hj => ⟨g, 0, rfl, k.cell ?_ (by simp)⟩⟩
    have hb : Blk w g 9 cur := h3
    refine hb.cell (0 + j) ?_
    have e : (nmS.map encStr)[j]? = some (.string ⟨(nmS.getD j []).toArray⟩) := by
      have : ∀ a : Fin 9, (nmS.map encStr)[a.val]? = some (.string ⟨(nmS.getD a.val []).toArray⟩) := by intro a; match a with | 0 => rfl | 1 => rfl | 2 => rfl | 3 => rfl | 4 => rfl | 5 => rfl | 6 => rfl | 7 => rfl | 8 => rfl
      exact this ⟨j, hj⟩
    rw [← h7, List.getElem?_take, if_pos (by omega)] at e
    rw [Nat.zero_add]
    simpa using e
theorem samen_c (w : World) (b1 b2 : Nat) (v1 v2 : Value) (h1 : w.ownsRow b1 9 1 v1 9 (nmS.map encStr)) (h2 : w.ownsRow b2 9 1 v2 9 (nmS.map encStr)) : Calls Try.prog 13 #[v1, v2] w fun r w' => r = .returned (.bool true) ∧ Kp [] w w' := by
  obtain ⟨g1, c1, rfl, hc1⟩ := nm_cells h1
  obtain ⟨g2, c2, rfl, hc2⟩ := nm_cells h2
  exact sameStrings_c w _ _ 9 c1 c2 nmS (by omega) hc1 hc2

set_option maxRecDepth 100000 in
theorem lcut_c (w : World) (v : Value) (zs : List Int) (hz : Is w v zs) : Calls Try.prog 10 #[v] w fun r w' => ∃ v', r = .returned v' ∧ Is w' v' (zs.take 20) ∧ w' = w := by
  obtain ⟨p, c, rfl, hc, hc2, h4⟩ := hz
  obtain ⟨m, hm⟩ : ∃ m, min zs.length 20 = m := ⟨_, rfl⟩
  have hml : (zs.take 20).length = m := by rw [List.length_take, Nat.min_comm]; exact hm
  have hm2 : m ≤ zs.length := by omega
  have hmi : (min (zs.length : Int) 20) = (m : Int) := by omega
  have t1 : (0 : Int) ≤ (m : Int) := by omega
  have t2 : (m : Int) ≤ (c : Int) := by omega
  have t4 : m ≤ c := by omega
  have hres : ∀ p2 c2, m ≤ c2 → c2 ≤ 9223372036854775807 → (zs = [] ∨ ∃ b off, p2 = some ⟨b, off, none⟩ ∧ ∀ j, j < zs.length → w.cell? ⟨b, off + j, none⟩ = some (.int .i64 (zs.getD j 0))) → Hid (Is w (.slice p2 m c2) (zs.take 20)) := by
    intro p2 c2 a1 a2 a3
    refine ⟨p2, c2, by rw [hml], by rw [hml]; exact a1, a2, ?_⟩
    rcases a3 with rfl | ⟨b, off, rfl, a4⟩
    · exact .inl rfl
    · refine .inr ⟨b, off, rfl, fun j hj => ?_⟩
      have e : (zs.take 20).getD j 0 = zs.getD j 0 := by
        have : j < 20 := by rw [List.length_take] at hj; omega
        simp [List.getD_eq_getElem?_getD, List.getElem?_take, this]
      rw [e]
      exact a4 j (by omega)
  obtain ⟨n, hn⟩ : ∃ n, zs.length = n := ⟨_, rfl⟩
  rw [hn] at hc hm2 hmi ⊢
  clear hm
  replace hres := Lib.hid hres
  replace hml := Lib.hid hml
  replace h4 := Lib.hid h4
  replace hn := Lib.hid hn
  rcases p with - | ⟨b, off, x⟩
  all_goals
    go_enter Try.func10, Try.ntmps10
    go_wp2
    go_ret
    refine ⟨_, rfl, (hres.out _ _ ?_ ?_ ?_).out, rfl⟩
    all_goals first | omega | exact h4.out | (simpa using h4.out)
end Go.Proofs.Ytieacfenoomaeaa
