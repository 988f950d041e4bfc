import Derived.Test.YtieacfenoomaeaaQb3
set_option linter.unusedSimpArgs false
set_option linter.unusedVariables false
namespace Go.Proofs.Ytieacfenoomaeaa
open Go.RowKit

/-- The kinds of the cells of a block, by its number. -/
def kin : Nat → List Int
  | 0 | 1 | 2 => [1, 3, 1, 3, 3, 1]
  | 3 | 4 => [1, 1, 2, 1, 2, 1]
  | _ => [1, 1, 1]
/-- What the execution of a block makes of a frame. -/
def stF : Nat → F6 → Int → F6
  | 0 => tonF | 1 => tofF | 2 => tpF | 3 => ctuF | 4 => ctdF | 5 => srF | 6 => rsF | 7 => rtrigF | _ => ftrigF
/-- The cells of a block after its execution. -/
def stp (i : Nat) (zs : List Int) (now : Int) : List Int := (stF i (f6 zs) now).list.take (kin i).length
theorem kin6 {i : Nat} (h : i < 5) : (kin i).length = 6 := by
  rcases (show i = 0 ∨ i = 1 ∨ i = 2 ∨ i = 3 ∨ i = 4 by omega) with rfl | rfl | rfl | rfl | rfl <;> rfl
theorem kin3 {i : Nat} (h : 5 ≤ i) : kin i = [1, 1, 1] := by
  unfold kin
  split <;> first | omega | rfl
theorem isT_bd {n : Int} (h : isT n = true) : 0 ≤ n ∧ n ≤ 1000000000 := by simpa [isT] using h
/-- The cells of a block, each of its kind. -/
theorem six_of {a b c d e f : Int} {zs : List Int} (h : areV [a, b, c, d, e, f] zs = true) : ∃ z0 z1 z2 z3 z4 z5, zs = [z0, z1, z2, z3, z4, z5] ∧ isV a z0 = true ∧ isV b z1 = true ∧ isV c z2 = true ∧ isV d z3 = true ∧ isV e z4 = true ∧ isV f z5 = true := by
  have hl := areV_len h
  match zs, hl with
  | [z0, z1, z2, z3, z4, z5], _ =>
    simp [areV] at h
    exact ⟨z0, z1, z2, z3, z4, z5, rfl, h.1, h.2.1, h.2.2.1, h.2.2.2.1, h.2.2.2.2.1, h.2.2.2.2.2⟩
theorem three_of {a b c : Int} {zs : List Int} (h : areV [a, b, c] zs = true) : ∃ z0 z1 z2, zs = [z0, z1, z2] ∧ isV a z0 = true ∧ isV b z1 = true ∧ isV c z2 = true := by
  have hl := areV_len h
  match zs, hl with
  | [z0, z1, z2], _ =>
    simp [areV] at h
    exact ⟨z0, z1, z2, rfl, h.1, h.2.1, h.2.2⟩
theorem bit_cases {n : Int} (h : isV 1 n = true) : n = 0 ∨ n = 1 := by simpa [isV, bitB] using h
/-- The frame of these cells is executed. -/
theorem run_ton {zs : List Int} (hv : areV (kin 0) zs = true) {now : Int} (ht : isT now = true) (W : World) : Calls Try.prog 49 #[(f6 zs).v, .int .i64 now] W (FrRes (stF 0 (f6 zs) now) W) := by
  obtain ⟨z0, z1, z2, z3, z4, z5, rfl, h0, h1, h2, h3, h4, h5⟩ := six_of (show areV [1, 3, 1, 3, 3, 1] zs = true from hv)
  exact ton_c _ now W (isV_bd h4) (isT_bd ht)
theorem run_tof {zs : List Int} (hv : areV (kin 1) zs = true) {now : Int} (ht : isT now = true) (W : World) : Calls Try.prog 50 #[(f6 zs).v, .int .i64 now] W (FrRes (stF 1 (f6 zs) now) W) := by
  obtain ⟨z0, z1, z2, z3, z4, z5, rfl, h0, h1, h2, h3, h4, h5⟩ := six_of (show areV [1, 3, 1, 3, 3, 1] zs = true from hv)
  exact tof_c _ now W (isV_bd h4) (isT_bd ht)
theorem run_tp {zs : List Int} (hv : areV (kin 2) zs = true) {now : Int} (ht : isT now = true) (W : World) : Calls Try.prog 51 #[(f6 zs).v, .int .i64 now] W (FrRes (stF 2 (f6 zs) now) W) := by
  obtain ⟨z0, z1, z2, z3, z4, z5, rfl, h0, h1, h2, h3, h4, h5⟩ := six_of (show areV [1, 3, 1, 3, 3, 1] zs = true from hv)
  exact tp_c _ now W (bit_cases h5) (isV_bd h4) (isT_bd ht)
theorem run_ctu {zs : List Int} (hv : areV (kin 3) zs = true) {now : Int} (ht : isT now = true) (W : World) : Calls Try.prog 52 #[(f6 zs).v, .int .i64 now] W (FrRes (stF 3 (f6 zs) now) W) := by
  obtain ⟨z0, z1, z2, z3, z4, z5, rfl, h0, h1, h2, h3, h4, h5⟩ := six_of (show areV [1, 1, 2, 1, 2, 1] zs = true from hv)
  exact ctu_c _ now W (isV_bd h4)
theorem run_ctd {zs : List Int} (hv : areV (kin 4) zs = true) {now : Int} (ht : isT now = true) (W : World) : Calls Try.prog 53 #[(f6 zs).v, .int .i64 now] W (FrRes (stF 4 (f6 zs) now) W) := by
  obtain ⟨z0, z1, z2, z3, z4, z5, rfl, h0, h1, h2, h3, h4, h5⟩ := six_of (show areV [1, 1, 2, 1, 2, 1] zs = true from hv)
  exact ctd_c _ now W (isV_bd h4)
theorem run_sr {zs : List Int} (hv : areV (kin 5) zs = true) {now : Int} (ht : isT now = true) (W : World) : Calls Try.prog 54 #[(f6 zs).v, .int .i64 now] W (FrRes (stF 5 (f6 zs) now) W) := by
  exact sr_c _ now W
theorem run_rs {zs : List Int} (hv : areV (kin 6) zs = true) {now : Int} (ht : isT now = true) (W : World) : Calls Try.prog 55 #[(f6 zs).v, .int .i64 now] W (FrRes (stF 6 (f6 zs) now) W) := by
  exact rs_c _ now W
theorem run_rtrig {zs : List Int} (hv : areV (kin 7) zs = true) {now : Int} (ht : isT now = true) (W : World) : Calls Try.prog 56 #[(f6 zs).v, .int .i64 now] W (FrRes (stF 7 (f6 zs) now) W) := by
  exact rtrig_c _ now W
theorem run_ftrig {zs : List Int} (hv : areV (kin 8) zs = true) {now : Int} (ht : isT now = true) (W : World) : Calls Try.prog 57 #[(f6 zs).v, .int .i64 now] W (FrRes (stF 8 (f6 zs) now) W) := by
  exact ftrig_c _ now W
/-- What a scan gives. -/
def ScanOk (l : List Int) (w : World) (r : Ending) (w' : World) : Prop := ∃ v', r = .returned (.tuple #[v', .int .i64 0]) ∧ Is w' v' l ∧ Kp [] w w' ∧ Ow w w' v' l
theorem scan_ton (zs : List Int) (now : Int) (w : World) (v : Value) (hz : Is w v zs) (hv : areV (kin 0) zs = true) (ht : isT now = true) : Calls Try.prog 11 #[.string ⟨#[116, 111, 110]⟩, v, .int .i64 now] w (ScanOk (stp 0 zs now) w) := by
  obtain ⟨p, c, hc, _, _⟩ := hz.val
  have hl : zs.length = 6 := (areV_len hv).symm
  rw [hl] at hc
  exact scan_ok6 ⟨#[116, 111, 110]⟩ 49 timerL (f6 zs) (stF 0 (f6 zs) now) v now w p c hc (fun _ _ => by kernel_rfl) ht
    (fun W k => partOf_6 ⟨#[116, 111, 110]⟩ 0 49 78 timerL kind_ton zs hv rfl W v (hz.kp k)) (fun W => run_ton hv ht W)
theorem scan_tof (zs : List Int) (now : Int) (w : World) (v : Value) (hz : Is w v zs) (hv : areV (kin 1) zs = true) (ht : isT now = true) : Calls Try.prog 11 #[.string ⟨#[116, 111, 102]⟩, v, .int .i64 now] w (ScanOk (stp 1 zs now) w) := by
  obtain ⟨p, c, hc, _, _⟩ := hz.val
  have hl : zs.length = 6 := (areV_len hv).symm
  rw [hl] at hc
  exact scan_ok6 ⟨#[116, 111, 102]⟩ 50 timerL (f6 zs) (stF 1 (f6 zs) now) v now w p c hc (fun _ _ => by kernel_rfl) ht
    (fun W k => partOf_6 ⟨#[116, 111, 102]⟩ 1 50 78 timerL kind_tof zs hv rfl W v (hz.kp k)) (fun W => run_tof hv ht W)
theorem scan_tp (zs : List Int) (now : Int) (w : World) (v : Value) (hz : Is w v zs) (hv : areV (kin 2) zs = true) (ht : isT now = true) : Calls Try.prog 11 #[.string ⟨#[116, 112]⟩, v, .int .i64 now] w (ScanOk (stp 2 zs now) w) := by
  obtain ⟨p, c, hc, _, _⟩ := hz.val
  have hl : zs.length = 6 := (areV_len hv).symm
  rw [hl] at hc
  exact scan_ok6 ⟨#[116, 112]⟩ 51 timerL (f6 zs) (stF 2 (f6 zs) now) v now w p c hc (fun _ _ => by kernel_rfl) ht
    (fun W k => partOf_6 ⟨#[116, 112]⟩ 2 51 78 timerL kind_tp zs hv rfl W v (hz.kp k)) (fun W => run_tp hv ht W)
theorem scan_ctu (zs : List Int) (now : Int) (w : World) (v : Value) (hz : Is w v zs) (hv : areV (kin 3) zs = true) (ht : isT now = true) : Calls Try.prog 11 #[.string ⟨#[99, 116, 117]⟩, v, .int .i64 now] w (ScanOk (stp 3 zs now) w) := by
  obtain ⟨p, c, hc, _, _⟩ := hz.val
  have hl : zs.length = 6 := (areV_len hv).symm
  rw [hl] at hc
  exact scan_ok6 ⟨#[99, 116, 117]⟩ 52 ctuL (f6 zs) (stF 3 (f6 zs) now) v now w p c hc (fun _ _ => by kernel_rfl) ht
    (fun W k => partOf_6 ⟨#[99, 116, 117]⟩ 3 52 79 ctuL kind_ctu zs hv rfl W v (hz.kp k)) (fun W => run_ctu hv ht W)
theorem scan_ctd (zs : List Int) (now : Int) (w : World) (v : Value) (hz : Is w v zs) (hv : areV (kin 4) zs = true) (ht : isT now = true) : Calls Try.prog 11 #[.string ⟨#[99, 116, 100]⟩, v, .int .i64 now] w (ScanOk (stp 4 zs now) w) := by
  obtain ⟨p, c, hc, _, _⟩ := hz.val
  have hl : zs.length = 6 := (areV_len hv).symm
  rw [hl] at hc
  exact scan_ok6 ⟨#[99, 116, 100]⟩ 53 ctdL (f6 zs) (stF 4 (f6 zs) now) v now w p c hc (fun _ _ => by kernel_rfl) ht
    (fun W k => partOf_6 ⟨#[99, 116, 100]⟩ 4 53 80 ctdL kind_ctd zs hv rfl W v (hz.kp k)) (fun W => run_ctd hv ht W)
theorem scan_sr (zs : List Int) (now : Int) (w : World) (v : Value) (hz : Is w v zs) (hv : areV (kin 5) zs = true) (ht : isT now = true) : Calls Try.prog 11 #[.string ⟨#[115, 114]⟩, v, .int .i64 now] w (ScanOk (stp 5 zs now) w) := by
  obtain ⟨p, c, hc, _, _⟩ := hz.val
  have hl : zs.length = 3 := (areV_len hv).symm
  rw [hl] at hc
  exact scan_ok3 ⟨#[115, 114]⟩ 54 srL (f6 zs) (stF 5 (f6 zs) now) v now w p c hc (fun _ _ => by kernel_rfl) ht
    (fun W k => partOf_3 ⟨#[115, 114]⟩ 5 54 81 srL kind_sr zs hv rfl W v (hz.kp k)) (fun W => run_sr hv ht W)
theorem scan_rs (zs : List Int) (now : Int) (w : World) (v : Value) (hz : Is w v zs) (hv : areV (kin 6) zs = true) (ht : isT now = true) : Calls Try.prog 11 #[.string ⟨#[114, 115]⟩, v, .int .i64 now] w (ScanOk (stp 6 zs now) w) := by
  obtain ⟨p, c, hc, _, _⟩ := hz.val
  have hl : zs.length = 3 := (areV_len hv).symm
  rw [hl] at hc
  exact scan_ok3 ⟨#[114, 115]⟩ 55 rsL (f6 zs) (stF 6 (f6 zs) now) v now w p c hc (fun _ _ => by kernel_rfl) ht
    (fun W k => partOf_3 ⟨#[114, 115]⟩ 6 55 82 rsL kind_rs zs hv rfl W v (hz.kp k)) (fun W => run_rs hv ht W)
theorem scan_rtrig (zs : List Int) (now : Int) (w : World) (v : Value) (hz : Is w v zs) (hv : areV (kin 7) zs = true) (ht : isT now = true) : Calls Try.prog 11 #[.string ⟨#[114, 116, 114, 105, 103]⟩, v, .int .i64 now] w (ScanOk (stp 7 zs now) w) := by
  obtain ⟨p, c, hc, _, _⟩ := hz.val
  have hl : zs.length = 3 := (areV_len hv).symm
  rw [hl] at hc
  exact scan_ok3 ⟨#[114, 116, 114, 105, 103]⟩ 56 edgeL (f6 zs) (stF 7 (f6 zs) now) v now w p c hc (fun _ _ => by kernel_rfl) ht
    (fun W k => partOf_3 ⟨#[114, 116, 114, 105, 103]⟩ 7 56 83 edgeL kind_rtrig zs hv rfl W v (hz.kp k)) (fun W => run_rtrig hv ht W)
theorem scan_ftrig (zs : List Int) (now : Int) (w : World) (v : Value) (hz : Is w v zs) (hv : areV (kin 8) zs = true) (ht : isT now = true) : Calls Try.prog 11 #[.string ⟨#[102, 116, 114, 105, 103]⟩, v, .int .i64 now] w (ScanOk (stp 8 zs now) w) := by
  obtain ⟨p, c, hc, _, _⟩ := hz.val
  have hl : zs.length = 3 := (areV_len hv).symm
  rw [hl] at hc
  exact scan_ok3 ⟨#[102, 116, 114, 105, 103]⟩ 57 edgeL (f6 zs) (stF 8 (f6 zs) now) v now w p c hc (fun _ _ => by kernel_rfl) ht
    (fun W k => partOf_3 ⟨#[102, 116, 114, 105, 103]⟩ 8 57 83 edgeL kind_ftrig zs hv rfl W v (hz.kp k)) (fun W => run_ftrig hv ht W)
/-- Scan executes block i. -/
theorem scan_c (i : Nat) (hi : i < 9) (zs : List Int) (now : Int) (w : World) (v : Value) (hz : Is w v zs) (hv : areV (kin i) zs = true) (ht : isT now = true) : Calls Try.prog 11 #[.string (nmb i), v, .int .i64 now] w (ScanOk (stp i zs now) w) := by
  rcases (show i = 0 ∨ i = 1 ∨ i = 2 ∨ i = 3 ∨ i = 4 ∨ i = 5 ∨ i = 6 ∨ i = 7 ∨ i = 8 by omega) with rfl | rfl | rfl | rfl | rfl | rfl | rfl | rfl | rfl
  · exact scan_ton zs now w v hz hv ht
  · exact scan_tof zs now w v hz hv ht
  · exact scan_tp zs now w v hz hv ht
  · exact scan_ctu zs now w v hz hv ht
  · exact scan_ctd zs now w v hz hv ht
  · exact scan_sr zs now w v hz hv ht
  · exact scan_rs zs now w v hz hv ht
  · exact scan_rtrig zs now w v hz hv ht
  · exact scan_ftrig zs now w v hz hv ht
end Go.Proofs.Ytieacfenoomaeaa
