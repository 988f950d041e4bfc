import Derived.Test.YtgldbeacjacbcaaTw1
import Derived.Deep.RegionHeld3
set_option linter.unusedSimpArgs false
set_option linter.unusedVariables false
namespace Go.Proofs.Ytgldbeacjacbcaa
open Go.RowKit

theorem fitsL_mem {es : List Ex} (h : fitsL es) {e : Ex} (he : e ∈ es) : e.fits := by
  obtain ⟨i, hi, rfl⟩ := List.getElem_of_mem he
  exact fitsL_get h i hi
mutual
theorem foldE_fits : ∀ e : Ex, e.fits → (foldE e).fits
  | .mk op kind n s f args, h => by
    rw [fits_eq] at h
    have hL := foldL_fits args h.2
    rw [foldE]
    rcases stepE_cases (.mk op kind n s f (foldL args)) with ⟨a, ha, h1, _⟩ | ⟨_, k, m, h1, _⟩ | h1
    · rw [h1]; exact fitsL_mem hL ha
    · rw [h1, cst, fits_eq]; refine ⟨⟨?_, ?_⟩, ?_⟩
      · show (⟨#[]⟩ : ByteArray).size ≤ _; simp [ByteArray.size]
      · show (⟨#[]⟩ : ByteArray).size ≤ _; simp [ByteArray.size]
      · rw [Ex.args, fitsL]; trivial
    · rw [h1, fits_eq]; exact ⟨h.1, hL⟩
theorem foldL_fits : ∀ es : List Ex, fitsL es → fitsL (foldL es)
  | [], _ => by rw [foldL, fitsL]; trivial
  | e :: es, h => by
    rw [fitsL] at h
    rw [foldL, fitsL]
    exact ⟨foldE_fits e h.1, foldL_fits es h.2⟩
end

/-- weigh of a slice of one expression. -/
theorem weigh1_c (e : Ex) (hc : e.wide) (w : World) (g : Nat) (v : Value) (hv : exsSl w v e.args)
    (hcs : ∀ j u, (exV e v)[j]? = some u → w.cell? ⟨g, j, none⟩ = some u) :
    Calls Try.prog 4 #[.slice (some ⟨g, 0, none⟩) 1 1, .int .i64 0] w fun r w' => r = .returned (.int .i64 (wgL [e] 0)) ∧ w' = w := by
  refine weigh_w (cntL [e] + 1) [e] (by omega) (by simp) (by rw [wideL, wideL]; exact ⟨hc, trivial⟩) 0 (by omega) (by omega) w _ 1 1 ⟨[exV e v], ⟨_, 1, rfl, Nat.le_refl _, by decide, .inr ⟨g, 0, rfl, ?_⟩⟩, ?_⟩
  · intro j u hj
    rw [Nat.zero_add]
    exact hcs j u (by simpa using hj)
  · rw [exsAt]; exact ⟨_, [], rfl, exAt_iff.2 ⟨v, rfl, hv⟩, by rw [exsAt]⟩

theorem cells6 {W : World} {g : Nat} {a b c d e f : Value} (h0 : W.cell? ⟨g, 0, none⟩ = some a) (h1 : W.cell? ⟨g, 1, none⟩ = some b) (h2 : W.cell? ⟨g, 2, none⟩ = some c) (h3 : W.cell? ⟨g, 3, none⟩ = some d) (h4 : W.cell? ⟨g, 4, none⟩ = some e) (h5 : W.cell? ⟨g, 5, none⟩ = some f) :
    ∀ j u, ([a, b, c, d, e, f] : List Value)[j]? = some u → W.cell? ⟨g, j, none⟩ = some u := by
  intro j u hj
  match j, hj with
  | 0, hj => simp at hj; rw [h0, hj]
  | 1, hj => simp at hj; rw [h1, hj]
  | 2, hj => simp at hj; rw [h2, hj]
  | 3, hj => simp at hj; rw [h3, hj]
  | 4, hj => simp at hj; rw [h4, hj]
  | 5, hj => simp at hj; rw [h5, hj]
  | j + 6, hj => simp at hj
/-- What the law has made when it has weighed. -/
theorem weigh_head (e : Ex) (q : Option Addr) (cap : Nat) (w : World) (hv : exsSl w (.slice q e.args.length cap) e.args) (hc : e.wide) :
    Calls Try.prog 4 #[.slice (some ⟨w.heap.size + 1, 0, none⟩) 1 1, .int .i64 0] ((w.alloc (.cells #[.int .i64 e.op, .int .i64 e.kind, .int .i64 e.num, .string e.s, .string e.field, .slice q e.args.length cap] 24)).alloc (.cells #[.int .i64 e.op, .int .i64 e.kind, .int .i64 e.num, .string e.s, .string e.field, .slice q e.args.length cap] 24)) fun r w' => r = .returned (.int .i64 (wgL [e] 0)) ∧ w' = (w.alloc (.cells #[.int .i64 e.op, .int .i64 e.kind, .int .i64 e.num, .string e.s, .string e.field, .slice q e.args.length cap] 24)).alloc (.cells #[.int .i64 e.op, .int .i64 e.kind, .int .i64 e.num, .string e.s, .string e.field, .slice q e.args.length cap] 24) :=
  weigh1_c e hc _ (w.heap.size + 1) _ (hv.kp (((Kp.refl [] w).alloc _).alloc _)) (fun j u hu => by
    have hb : Blk ((w.alloc (.cells #[.int .i64 e.op, .int .i64 e.kind, .int .i64 e.num, .string e.s, .string e.field, .slice q e.args.length cap] 24)).alloc (.cells #[.int .i64 e.op, .int .i64 e.kind, .int .i64 e.num, .string e.s, .string e.field, .slice q e.args.length cap] 24)) (w.heap.size + 1) 24 (exV e (.slice q e.args.length cap)).toArray := blk_new (by simp) _ _
    exact hb.cell j (by simpa using hu))

set_option maxRecDepth 100000 in
set_option maxHeartbeats 2000000 in
theorem again_big (e : Ex) (v : Value) (w : World) (hv : exsSl w v e.args) (hc : e.wide) (hw : 2000 < wgL [e] 0) :
    Calls Try.prog 3 #[exVal e v] w fun r w' => r = .returned (.bool true) ∧ Kp [] w w' := by
  obtain ⟨q, cap, rfl⟩ := hv.val
  have hk0 : Kp [] w ((w.alloc (.cells #[.int .i64 e.op, .int .i64 e.kind, .int .i64 e.num, .string e.s, .string e.field, .slice q e.args.length cap] 24)).alloc (.cells #[.int .i64 e.op, .int .i64 e.kind, .int .i64 e.num, .string e.s, .string e.field, .slice q e.args.length cap] 24)) := ((Kp.refl [] w).alloc _).alloc _
  have hwc := Lib.hid (weigh_head e q cap w hv hc)
  obtain ⟨m, hm⟩ : ∃ m, wgL [e] 0 = m := ⟨_, rfl⟩
  rw [hm] at hw hwc
  unfold exVal
  obtain ⟨lu, hlu⟩ : ∃ lu, e.args.length = lu := ⟨_, rfl⟩
  rw [hlu] at hk0 hwc ⊢
  replace hk0 := Lib.hid hk0
  clear hm hlu hv
  go_enter Try.func3, Try.ntmps3
  go_wp2_with fail
  refine hwc.out.mono ?_
  rintro r w2 ⟨rfl, rfl⟩
  go_wp2_with fail
  refine (awake_c _).mono ?_
  rintro r w2 ⟨rfl, hg⟩
  go_wp2_with fail
  go_ret
  exact ⟨rfl, hk0.out.trans hg.kp⟩

set_option maxRecDepth 100000 in
set_option maxHeartbeats 2000000 in
theorem again_no (e : Ex) (v : Value) (w : World) (hv : exsSl w v e.args) (hA : Amb w) (hf : e.fits) (hc : e.wide) (hw : ¬ 2000 < wgL [e] 0) (hwe : wellB e = false) :
    Calls Try.prog 3 #[exVal e v] w fun r w' => r = .returned (.bool true) ∧ Kp [] w w' := by
  obtain ⟨q, cap, rfl⟩ := hv.val
  have hk0 : Kp [] w ((w.alloc (.cells #[.int .i64 e.op, .int .i64 e.kind, .int .i64 e.num, .string e.s, .string e.field, .slice q e.args.length cap] 24)).alloc (.cells #[.int .i64 e.op, .int .i64 e.kind, .int .i64 e.num, .string e.s, .string e.field, .slice q e.args.length cap] 24)) := ((Kp.refl [] w).alloc _).alloc _
  have hwc := Lib.hid (weigh_head e q cap w hv hc)
  have hfo := Lib.hid (foldNo_c e _ _ (hv.kp hk0) (hA.kp0 hk0) hf hwe)
  obtain ⟨m, hm⟩ : ∃ m, wgL [e] 0 = m := ⟨_, rfl⟩
  rw [hm] at hw hwc
  unfold exVal at hfo ⊢
  unfold zeroX at hfo
  obtain ⟨lu, hlu⟩ : ∃ lu, e.args.length = lu := ⟨_, rfl⟩
  rw [hlu] at hk0 hwc hfo ⊢
  replace hk0 := Lib.hid hk0
  clear hm hlu hv hA hf hwe
  go_enter Try.func3, Try.ntmps3
  go_wp2_with fail
  refine hwc.out.mono ?_
  rintro r w2 ⟨rfl, rfl⟩
  go_wp2_with fail
  refine hfo.out.mono ?_
  rintro r w2 ⟨rfl, hk2⟩
  go_wp2_with fail
  refine (awake_c _).mono ?_
  rintro r w3 ⟨rfl, hg⟩
  go_wp2_with fail
  go_ret
  exact ⟨rfl, ((hk0.out.trans hk2).alloc _).trans hg.kp⟩

set_option maxRecDepth 100000 in
set_option maxHeartbeats 2000000 in
theorem again_yes (e : Ex) (v : Value) (w : World) (hv : exsSl w v e.args) (hA : Amb w) (hf : e.fits) (hc : e.wide) (hw : ¬ 2000 < wgL [e] 0) (hwe : wellB e = true) :
    Calls Try.prog 3 #[exVal e v] w fun r w' => r = .returned (.bool true) ∧ Kp [] w w' := by
  obtain ⟨q, cap, rfl⟩ := hv.val
  have hk0 : Kp [] w ((w.alloc (.cells #[.int .i64 e.op, .int .i64 e.kind, .int .i64 e.num, .string e.s, .string e.field, .slice q e.args.length cap] 24)).alloc (.cells #[.int .i64 e.op, .int .i64 e.kind, .int .i64 e.num, .string e.s, .string e.field, .slice q e.args.length cap] 24)) := ((Kp.refl [] w).alloc _).alloc _
  have hwc := Lib.hid (weigh_head e q cap w hv hc)
  have hfo := Lib.hid (foldYes_c e _ _ (hv.kp hk0) (hA.kp0 hk0) hf hwe)
  have hwy := fold_wellB hwe
  have hid := foldE_idem e
  have hcn := (foldE_cnt e).1
  have hw1 := wgL_one hwe
  have hw2 := wgL_one hwy
  have hfy := foldE_fits e hf
  have hwy2 : (foldE e).wide := wide_cnt _ (by have := (wellB_of hwy).2; omega)
  obtain ⟨y, hy⟩ : ∃ y, foldE e = y := ⟨_, rfl⟩
  rw [hy] at hfo hwy hid hcn hw2 hfy hwy2
  have hfo2 : Hid (∀ (W : World) (u : Value), Kp [] w W → exsSl W u y.args → Calls Try.prog 6 #[exVal y u] W fun r w' => ∃ u', r = .returned (.tuple #[exVal y u', .int .i64 0]) ∧ Kp [] W w' ∧ exsSl w' u' y.args) := by
    intro W u hk hu
    have := foldYes_c y u W hu (hA.kp0 hk) hfy hwy
    rw [hid] at this
    exact this
  have hsm : Hid (∀ (W : World) (u1 u2 : Value), exsSl W u1 y.args → exsSl W u2 y.args → Calls Try.prog 7 #[exVal y u1, exVal y u2] W fun r w' => r = .returned (.bool true) ∧ Kp [] W w') := same_c y
  have hwx : Hid (∀ (W : World) (g : Nat), Kp [] w W → (∀ j u, (exV e (.slice q e.args.length cap))[j]? = some u → W.cell? ⟨g, j, none⟩ = some u) → Calls Try.prog 4 #[.slice (some ⟨g, 0, none⟩) 1 1, .int .i64 0] W fun r w' => r = .returned (.int .i64 e.cnt) ∧ w' = W) := by
    intro W g hk h
    rw [← hw1]
    exact weigh1_c e hc W g _ (hv.kp hk) h
  have hwz : Hid (∀ (W : World) (g : Nat) (u : Value), exsSl W u y.args → (∀ j x, (exV y u)[j]? = some x → W.cell? ⟨g, j, none⟩ = some x) → Calls Try.prog 4 #[.slice (some ⟨g, 0, none⟩) 1 1, .int .i64 0] W fun r w' => r = .returned (.int .i64 y.cnt) ∧ w' = W) := by
    intro W g u hu h
    rw [← hw2]
    exact weigh1_c y hwy2 W g _ hu h
  rw [hw1] at hw hwc
  clear hwy2 hc hwy hid hw1 hw2 hfy hy hA hf hwe hv
  unfold exVal at hfo hfo2 hsm ⊢
  unfold exV at hwx hwz
  obtain ⟨lu, hlu⟩ : ∃ lu, e.args.length = lu := ⟨_, rfl⟩
  rw [hlu] at hk0 hwc hfo hwx ⊢
  replace hk0 := Lib.hid hk0
  obtain ⟨ne, hne⟩ : ∃ n, e.cnt = n := ⟨_, rfl⟩
  obtain ⟨ny, hny⟩ : ∃ n, y.cnt = n := ⟨_, rfl⟩
  rw [hne] at hcn hwx hw hwc
  rw [hny] at hcn hwz
  clear hlu hne hny
  have hle : Hid (decide ((ny : Int) ≤ (ne : Int)) = true) := by show _ = _; simp; exact hcn
  go_enter Try.func3, Try.ntmps3
  go_wp2_with fail
  refine hwc.out.mono ?_
  rintro r w2 ⟨rfl, rfl⟩
  go_wp2_with fail
  refine hfo.out.mono ?_
  rintro r w2 ⟨u, rfl, hk2, hu⟩
  obtain ⟨qu, cu, rfl⟩ := hu.val
  obtain ⟨ly, hly⟩ : ∃ ly, y.args.length = ly := ⟨_, rfl⟩
  rw [hly] at hu ⊢
  have hBx := Lib.hid (((blk_new (rfl : w.heap.size = w.heap.size) 24 #[.int .i64 e.op, .int .i64 e.kind, .int .i64 e.num, .string e.s, .string e.field, .slice q lu cap]).alloc (.cells #[.int .i64 e.op, .int .i64 e.kind, .int .i64 e.num, .string e.s, .string e.field, .slice q lu cap] 24)).kp hk2 (by simp))
  have hK2 := Lib.hid ((hk0.out.trans hk2).alloc (.cells #[.int .i64 y.op, .int .i64 y.kind, .int .i64 y.num, .string y.s, .string y.field, .slice qu ly cu] 24))
  have hBy := Lib.hid (blk_new (w := w2) rfl 24 #[.int .i64 y.op, .int .i64 y.kind, .int .i64 y.num, .string y.s, .string y.field, .slice qu ly cu])
  have hBx2 := Lib.hid (hBx.out.alloc (.cells #[.int .i64 y.op, .int .i64 y.kind, .int .i64 y.num, .string y.s, .string y.field, .slice qu ly cu] 24))
  have hu2 := Lib.hid (hu.kp ((Kp.refl [] w2).alloc (.cells #[.int .i64 y.op, .int .i64 y.kind, .int .i64 y.num, .string y.s, .string y.field, .slice qu ly cu] 24)))
  clear hk2 hu
  go_wp2_with fail
  refine (hfo2.out _ _ hK2.out hu2.out).mono ?_
  rintro r w3 ⟨uz, rfl, hk3, hz⟩
  obtain ⟨qz, cz, rfl⟩ := hz.val
  rw [hly] at hz ⊢
  have hBx3 := Lib.hid ((hBx2.out.kp hk3 (by simp)).alloc (.cells #[.int .i64 y.op, .int .i64 y.kind, .int .i64 y.num, .string y.s, .string y.field, .slice qz ly cz] 24))
  have hBy3 := Lib.hid ((hBy.out.kp hk3 (by simp)).alloc (.cells #[.int .i64 y.op, .int .i64 y.kind, .int .i64 y.num, .string y.s, .string y.field, .slice qz ly cz] 24))
  have hBz3 := Lib.hid (blk_new (w := w3) rfl 24 #[.int .i64 y.op, .int .i64 y.kind, .int .i64 y.num, .string y.s, .string y.field, .slice qz ly cz])
  have hK3 := Lib.hid ((hK2.out.trans hk3).alloc (.cells #[.int .i64 y.op, .int .i64 y.kind, .int .i64 y.num, .string y.s, .string y.field, .slice qz ly cz] 24))
  have hu3 := Lib.hid ((hu2.out.kp hk3).kp ((Kp.refl [] w3).alloc (.cells #[.int .i64 y.op, .int .i64 y.kind, .int .i64 y.num, .string y.s, .string y.field, .slice qz ly cz] 24)))
  have hz3 := Lib.hid (hz.kp ((Kp.refl [] w3).alloc (.cells #[.int .i64 y.op, .int .i64 y.kind, .int .i64 y.num, .string y.s, .string y.field, .slice qz ly cz] 24)))
  clear hk3 hz hBx hBx2 hBy hK2 hu2 hfo hfo2 hwc hly
  go_wp2_with fail
  have hsm7 := Lib.hid (hsm.out _ _ _ (hu3.out.kp (Kp.refl [] _).drew) (hz3.out.kp (Kp.refl [] _).drew))
  obtain ⟨W, hW⟩ : ∃ W, w3.alloc (.cells #[.int .i64 y.op, .int .i64 y.kind, .int .i64 y.num, .string y.s, .string y.field, .slice qz ly cz] 24) = W := ⟨_, rfl⟩
  rw [hW] at hBx3 hBy3 hBz3 hK3 hu3 hz3 hsm7 ⊢
  obtain ⟨gx, hgx⟩ : ∃ g, w.heap.size = g := ⟨_, rfl⟩
  obtain ⟨gy, hgy⟩ : ∃ g, w2.heap.size = g := ⟨_, rfl⟩
  obtain ⟨gz, hgz⟩ : ∃ g, w3.heap.size = g := ⟨_, rfl⟩
  rw [hgx] at hBx3 ⊢
  rw [hgy] at hBy3 ⊢
  rw [hgz] at hBz3 ⊢
  clear hW hgx hgy hgz hk0 hz3 hsm
  have x0 := hBx3.out.cell 0 (v := .int .i64 e.op) rfl
  have x1 := hBx3.out.cell 1 (v := .int .i64 e.kind) rfl
  have x2 := hBx3.out.cell 2 (v := .int .i64 e.num) rfl
  have x3 := hBx3.out.cell 3 (v := .string e.s) rfl
  have x4 := hBx3.out.cell 4 (v := .string e.field) rfl
  have x5 := hBx3.out.cell 5 (v := .slice q lu cap) rfl
  have y0 := hBy3.out.cell 0 (v := .int .i64 y.op) rfl
  have y1 := hBy3.out.cell 1 (v := .int .i64 y.kind) rfl
  have y2 := hBy3.out.cell 2 (v := .int .i64 y.num) rfl
  have y3 := hBy3.out.cell 3 (v := .string y.s) rfl
  have y4 := hBy3.out.cell 4 (v := .string y.field) rfl
  have y5 := hBy3.out.cell 5 (v := .slice qu ly cu) rfl
  have z0 := hBz3.out.cell 0 (v := .int .i64 y.op) rfl
  have z1 := hBz3.out.cell 1 (v := .int .i64 y.kind) rfl
  have z2 := hBz3.out.cell 2 (v := .int .i64 y.num) rfl
  have z3 := hBz3.out.cell 3 (v := .string y.s) rfl
  have z4 := hBz3.out.cell 4 (v := .string y.field) rfl
  have z5 := hBz3.out.cell 5 (v := .slice qz ly cz) rfl
  have hle2 := hle.out
  have hSall : Hid (∀ W', Kp [] W W' → W'.cell? ⟨gx, 0, none⟩ = some (.int .i64 e.op) ∧ W'.cell? ⟨gx, 1, none⟩ = some (.int .i64 e.kind) ∧ W'.cell? ⟨gx, 2, none⟩ = some (.int .i64 e.num) ∧ W'.cell? ⟨gx, 3, none⟩ = some (.string e.s) ∧ W'.cell? ⟨gx, 4, none⟩ = some (.string e.field) ∧ W'.cell? ⟨gx, 5, none⟩ = some (.slice q lu cap) ∧ W'.cell? ⟨gy, 0, none⟩ = some (.int .i64 y.op) ∧ W'.cell? ⟨gy, 1, none⟩ = some (.int .i64 y.kind) ∧ W'.cell? ⟨gy, 2, none⟩ = some (.int .i64 y.num) ∧ W'.cell? ⟨gy, 3, none⟩ = some (.string y.s) ∧ W'.cell? ⟨gy, 4, none⟩ = some (.string y.field) ∧ W'.cell? ⟨gy, 5, none⟩ = some (.slice qu ly cu) ∧ W'.cell? ⟨gz, 0, none⟩ = some (.int .i64 y.op) ∧ W'.cell? ⟨gz, 1, none⟩ = some (.int .i64 y.kind) ∧ W'.cell? ⟨gz, 2, none⟩ = some (.int .i64 y.num) ∧ W'.cell? ⟨gz, 3, none⟩ = some (.string y.s) ∧ W'.cell? ⟨gz, 4, none⟩ = some (.string y.field) ∧ W'.cell? ⟨gz, 5, none⟩ = some (.slice qz ly cz)) := fun W' k => ⟨k.cell x0 (by simp), k.cell x1 (by simp), k.cell x2 (by simp), k.cell x3 (by simp), k.cell x4 (by simp), k.cell x5 (by simp), k.cell y0 (by simp), k.cell y1 (by simp), k.cell y2 (by simp), k.cell y3 (by simp), k.cell y4 (by simp), k.cell y5 (by simp), k.cell z0 (by simp), k.cell z1 (by simp), k.cell z2 (by simp), k.cell z3 (by simp), k.cell z4 (by simp), k.cell z5 (by simp)⟩
  clear x0 x1 x2 x3 x4 x5 y0 y1 y2 y3 y4 y5 z0 z1 z2 z3 z4 z5
  go_region_held3 (fun W' => W'.cell? ⟨gx, 0, none⟩ = some (.int .i64 e.op) ∧ W'.cell? ⟨gx, 1, none⟩ = some (.int .i64 e.kind) ∧ W'.cell? ⟨gx, 2, none⟩ = some (.int .i64 e.num) ∧ W'.cell? ⟨gx, 3, none⟩ = some (.string e.s) ∧ W'.cell? ⟨gx, 4, none⟩ = some (.string e.field) ∧ W'.cell? ⟨gx, 5, none⟩ = some (.slice q lu cap) ∧ W'.cell? ⟨gy, 0, none⟩ = some (.int .i64 y.op) ∧ W'.cell? ⟨gy, 1, none⟩ = some (.int .i64 y.kind) ∧ W'.cell? ⟨gy, 2, none⟩ = some (.int .i64 y.num) ∧ W'.cell? ⟨gy, 3, none⟩ = some (.string y.s) ∧ W'.cell? ⟨gy, 4, none⟩ = some (.string y.field) ∧ W'.cell? ⟨gy, 5, none⟩ = some (.slice qu ly cu) ∧ W'.cell? ⟨gz, 0, none⟩ = some (.int .i64 y.op) ∧ W'.cell? ⟨gz, 1, none⟩ = some (.int .i64 y.kind) ∧ W'.cell? ⟨gz, 2, none⟩ = some (.int .i64 y.num) ∧ W'.cell? ⟨gz, 3, none⟩ = some (.string y.s) ∧ W'.cell? ⟨gz, 4, none⟩ = some (.string y.field) ∧ W'.cell? ⟨gz, 5, none⟩ = some (.slice qz ly cz))
    (first | exact hSall.out _ (Kp.refl _ _) | exact hSall.out _ (Kp.refl _ _).drew | exact hSall.out _ hk5.out | exact hSall.out _ (hk5.out.alloc _) | exact hSall.out _ ((hk5.out.alloc _).alloc _) | exact hSall.out _ hk7.out)
    (first
    | (go_at_call 7; refine hsm7.out.mono ?_; rintro r w5 ⟨rfl, hk5⟩; have hx5 := Lib.hid ((Blk.drew hBx3.out).kp hk5 List.not_mem_nil); have hy5 := Lib.hid ((Blk.drew hBy3.out).kp hk5 List.not_mem_nil); have hu5 := Lib.hid (hu3.out.kp ((Kp.refl [] _).drew.trans hk5)); have hK5 := Lib.hid (hK3.out.drew.trans hk5); replace hk5 := Lib.hid ((Kp.refl [] W).drew.trans hk5); have hy1 := Lib.hid (hwz.out (w5.alloc (.cells #[.int .i64 y.op, .int .i64 y.kind, .int .i64 y.num, .string y.s, .string y.field, .slice qu ly cu] 24)) w5.heap.size _ (hu5.out.kp ((Kp.refl [] w5).alloc _)) (fun j u hu => ((Blk.new w5 _ _) : Blk (w5.alloc (.cells #[.int .i64 y.op, .int .i64 y.kind, .int .i64 y.num, .string y.s, .string y.field, .slice qu ly cu] 24)) w5.heap.size 24 #[.int .i64 y.op, .int .i64 y.kind, .int .i64 y.num, .string y.s, .string y.field, .slice qu ly cu]).cell j (by simpa using hu))); have hx1 := Lib.hid (hwx.out (w5.alloc (.cells #[.int .i64 e.op, .int .i64 e.kind, .int .i64 e.num, .string e.s, .string e.field, .slice q lu cap] 24)) w5.heap.size (hK5.out.alloc _) (fun j u hu => ((Blk.new w5 _ _) : Blk (w5.alloc (.cells #[.int .i64 e.op, .int .i64 e.kind, .int .i64 e.num, .string e.s, .string e.field, .slice q lu cap] 24)) w5.heap.size 24 #[.int .i64 e.op, .int .i64 e.kind, .int .i64 e.num, .string e.s, .string e.field, .slice q lu cap]).cell j (by simpa using hu))); have hy2 := Lib.hid (hwz.out ((w5.alloc (.cells #[.int .i64 y.op, .int .i64 y.kind, .int .i64 y.num, .string y.s, .string y.field, .slice qu ly cu] 24)).alloc (.cells #[.int .i64 e.op, .int .i64 e.kind, .int .i64 e.num, .string e.s, .string e.field, .slice q lu cap] 24)) w5.heap.size _ (hu5.out.kp (((Kp.refl [] w5).alloc _).alloc _)) (fun j u hu => (((Blk.new w5 _ _).alloc _) : Blk ((w5.alloc (.cells #[.int .i64 y.op, .int .i64 y.kind, .int .i64 y.num, .string y.s, .string y.field, .slice qu ly cu] 24)).alloc (.cells #[.int .i64 e.op, .int .i64 e.kind, .int .i64 e.num, .string e.s, .string e.field, .slice q lu cap] 24)) w5.heap.size 24 #[.int .i64 y.op, .int .i64 y.kind, .int .i64 y.num, .string y.s, .string y.field, .slice qu ly cu]).cell j (by simpa using hu))); have hx2 := Lib.hid (hwx.out ((w5.alloc (.cells #[.int .i64 e.op, .int .i64 e.kind, .int .i64 e.num, .string e.s, .string e.field, .slice q lu cap] 24)).alloc (.cells #[.int .i64 y.op, .int .i64 y.kind, .int .i64 y.num, .string y.s, .string y.field, .slice qu ly cu] 24)) w5.heap.size ((hK5.out.alloc _).alloc _) (fun j u hu => (((Blk.new w5 _ _).alloc _) : Blk ((w5.alloc (.cells #[.int .i64 e.op, .int .i64 e.kind, .int .i64 e.num, .string e.s, .string e.field, .slice q lu cap] 24)).alloc (.cells #[.int .i64 y.op, .int .i64 y.kind, .int .i64 y.num, .string y.s, .string y.field, .slice qu ly cu] 24)) w5.heap.size 24 #[.int .i64 e.op, .int .i64 e.kind, .int .i64 e.num, .string e.s, .string e.field, .slice q lu cap]).cell j (by simpa using hu))); have hy3 := Lib.hid (hwz.out ((w5.alloc (.cells #[.int .i64 e.op, .int .i64 e.kind, .int .i64 e.num, .string e.s, .string e.field, .slice q lu cap] 24)).alloc (.cells #[.int .i64 y.op, .int .i64 y.kind, .int .i64 y.num, .string y.s, .string y.field, .slice qu ly cu] 24)) (w5.heap.size + 1) _ (hu5.out.kp (((Kp.refl [] w5).alloc _).alloc _)) (fun j u hu => ((blk_new (by simp) _ _) : Blk ((w5.alloc (.cells #[.int .i64 e.op, .int .i64 e.kind, .int .i64 e.num, .string e.s, .string e.field, .slice q lu cap] 24)).alloc (.cells #[.int .i64 y.op, .int .i64 y.kind, .int .i64 y.num, .string y.s, .string y.field, .slice qu ly cu] 24)) (w5.heap.size + 1) 24 #[.int .i64 y.op, .int .i64 y.kind, .int .i64 y.num, .string y.s, .string y.field, .slice qu ly cu]).cell j (by simpa using hu))); have hx3 := Lib.hid (hwx.out ((w5.alloc (.cells #[.int .i64 y.op, .int .i64 y.kind, .int .i64 y.num, .string y.s, .string y.field, .slice qu ly cu] 24)).alloc (.cells #[.int .i64 e.op, .int .i64 e.kind, .int .i64 e.num, .string e.s, .string e.field, .slice q lu cap] 24)) (w5.heap.size + 1) ((hK5.out.alloc _).alloc _) (fun j u hu => ((blk_new (by simp) _ _) : Blk ((w5.alloc (.cells #[.int .i64 y.op, .int .i64 y.kind, .int .i64 y.num, .string y.s, .string y.field, .slice qu ly cu] 24)).alloc (.cells #[.int .i64 e.op, .int .i64 e.kind, .int .i64 e.num, .string e.s, .string e.field, .slice q lu cap] 24)) (w5.heap.size + 1) 24 #[.int .i64 e.op, .int .i64 e.kind, .int .i64 e.num, .string e.s, .string e.field, .slice q lu cap]).cell j (by simpa using hu))); clear hx5 hy5)
    | (go_at_call 4; first | (with_reducible refine hy1.out.mono ?_; rintro r w6 ⟨rfl, rfl⟩) | (with_reducible refine hx1.out.mono ?_; rintro r w6 ⟨rfl, rfl⟩) | (with_reducible refine hy2.out.mono ?_; rintro r w6 ⟨rfl, rfl⟩) | (with_reducible refine hy3.out.mono ?_; rintro r w6 ⟨rfl, rfl⟩) | (with_reducible refine hx2.out.mono ?_; rintro r w6 ⟨rfl, rfl⟩) | (with_reducible refine hx3.out.mono ?_; rintro r w6 ⟨rfl, rfl⟩))
    | (go_at_call 5; refine (awake_c _).mono ?_; rintro r w6 ⟨rfl, hg6⟩; have hk7 := Lib.hid (((hk5.out.alloc _).alloc _).trans hg6.kp)))
  all_goals
    go_wp2_with fail
    go_ret
    exact ⟨rfl, hK3.out.trans hk7.out⟩
theorem again_c (e : Ex) (v : Value) (w : World) (hv : exsSl w v e.args) (hA : Amb w) (hf : e.fits) (hc : e.wide) :
    Calls Try.prog 3 #[exVal e v] w fun r w' => r = .returned (.bool true) ∧ Kp [] w w' := by
  by_cases hw : 2000 < wgL [e] 0
  · exact again_big e v w hv hc hw
  · cases hwe : wellB e
    · exact again_no e v w hv hA hf hc hw hwe
    · exact again_yes e v w hv hA hf hc hw hwe
end Go.Proofs.Ytgldbeacjacbcaa
