import Derived.Test.YtgldbeacjacbcaaGreatSfC
import Derived.Test.YtgldbeacjacbcaaGreatTwM
import Derived.Deep.RegionHeld3
set_option linter.unusedSimpArgs false
set_option linter.unusedVariables false
namespace Go.Proofs.YtgldbeacjacbcaaGreat
open Go.RowKit

theorem rfold_all (op kind num : Int) (s f : ByteArray) (es : List Ex) (IH : ∀ i (hi : i < es.length), RFoldC es[i]) : RFoldC (.mk op kind num s f es) := by
  intro w v hv hw hcnt
  have hw' := hw
  rw [well_eq, Bool.and_eq_true] at hw'
  have hs : shpB (.mk op kind num s f (foldL es)) = true := by rw [shp_len _ _ _ _ _ (foldL_len es)]; exact hw'.1
  have hlw := foldL_well es hw'.2
  by_cases h6 : op < 6
  · exact rf_lo op kind num s f es h6 IH w v hv hw hcnt
  obtain ⟨h21, hls⟩ := shp_args hs (by omega)
  rcases hls with ⟨ho, hl⟩ | ⟨h8, hl⟩
  · obtain ⟨a, ha⟩ : ∃ a, foldL es = [a] := List.length_eq_one_iff.1 hl
    rcases ho with rfl | rfl
    · by_cases ha1 : a.op = 1
      · by_cases hka : a.kind = 1
        · by_cases hneg : unR 6 a.num < 0
          · exact rf_6_neg kind num s f es a ha ha1 hka hneg IH w v hv hw hcnt
          · exact rf_6_pos kind num s f es a ha ha1 hka hneg IH w v hv hw hcnt
        · exact rf_6_nk kind num s f es a ha ha1 hka IH w v hv hw hcnt
      · exact rf_6_nc kind num s f es a ha ha1 IH w v hv hw hcnt
    · by_cases ha1 : a.op = 1
      · by_cases hka : a.kind = 2
        · by_cases hneg : unR 7 a.num < 0
          · exact rf_7_neg kind num s f es a ha ha1 hka hneg IH w v hv hw hcnt
          · exact rf_7_pos kind num s f es a ha ha1 hka hneg IH w v hv hw hcnt
        · exact rf_7_nk kind num s f es a ha ha1 hka IH w v hv hw hcnt
      · exact rf_7_nc kind num s f es a ha ha1 IH w v hv hw hcnt
  · obtain ⟨a, b, ha⟩ : ∃ a b, foldL es = [a, b] := by
      match hx : foldL es, hl with
      | [a, b], _ => exact ⟨a, b, rfl⟩
    by_cases ha1 : a.op = 1
    · cases hd : (((op == 10 && a.num == 0) || (op == 8 && a.num == 1)) && a.kind == 1)
      · by_cases hb1 : b.op = 1
        · by_cases hkk : b.kind = a.kind
          · cases hok : kindOk op a.kind
            · exact rf_b_no op kind num s f es a b h8 h21 ha ha1 hd hb1 hkk hok IH w v hv hw hcnt
            · by_cases hfl : (biR op a.num b.num).2 = 0
              · by_cases hneg : (biR op a.num b.num).1 < 0
                · exact rf_b_neg op kind num s f es a b h8 h21 ha ha1 hd hb1 hkk hok hfl hneg IH w v hv hw hcnt
                · exact rf_b_pos op kind num s f es a b h8 h21 ha ha1 hd hb1 hkk hok hfl hneg IH w v hv hw hcnt
              · exact rf_b_flt op kind num s f es a b h8 h21 ha ha1 hd hb1 hkk hok hfl IH w v hv hw hcnt
          · exact rf_b_kk op kind num s f es a b h8 h21 ha ha1 hd hb1 hkk IH w v hv hw hcnt
        · exact rf_b_bnc op kind num s f es a b h8 h21 ha ha1 hd hb1 IH w v hv hw hcnt
      · exact rf_b_dec op kind num s f es a b h8 h21 ha ha1 hd IH w v hv hw hcnt
    · exact rf_b_nc op kind num s f es a b h8 h21 ha ha1 IH w v hv hw hcnt
mutual
theorem rfold_c : ∀ e : Ex, RFoldC e
  | .mk op kind n s f args => rfold_all op kind n s f args (rfolds_all args)
theorem rfolds_all : ∀ (es : List Ex) (i : Nat) (hi : i < es.length), RFoldC es[i]
  | e :: es, 0, _ => rfold_c e
  | e :: es, i + 1, hi => rfolds_all es i (by simpa using hi)
end

set_option maxRecDepth 100000 in
set_option maxHeartbeats 2000000 in
theorem folds_big (e : Ex) (v : Value) (w : World) (hv : exsSl w v e.args) (hc : e.wide) (hw : 2000 < wgL [e] 0) :
    Calls Tryz.prog 3 #[exVal e v] w fun r w' => r = .returned (.bool true) ∧ Kp [] w w' := by
  obtain ⟨q, cap, rfl⟩ := hv.val
  have hk0 : Kp [] w ((w.alloc (.cells #[.int .i64 e.op, .int .i64 e.kind, .int .i64 e.num, .string e.s, .string e.field, .slice q e.args.length cap] 24)).alloc (.cells #[.int .i64 e.op, .int .i64 e.kind, .int .i64 e.num, .string e.s, .string e.field, .slice q e.args.length cap] 24)) := ((Kp.refl [] w).alloc _).alloc _
  have hwc := Lib.hid (weigh_head e q cap w hv hc)
  obtain ⟨m, hm⟩ : ∃ m, wgL [e] 0 = m := ⟨_, rfl⟩
  rw [hm] at hw hwc
  unfold exVal
  obtain ⟨lu, hlu⟩ : ∃ lu, e.args.length = lu := ⟨_, rfl⟩
  rw [hlu] at hk0 hwc ⊢
  replace hk0 := Lib.hid hk0
  clear hm hlu hv
  go_enter Tryz.func3, Tryz.ntmps3
  go_wp2_with fail
  refine hwc.out.mono ?_
  rintro r w2 ⟨rfl, rfl⟩
  go_wp2_with fail
  refine (awake_c _).mono ?_
  rintro r w2 ⟨rfl, hg⟩
  go_wp2_with fail
  go_ret
  exact ⟨rfl, hk0.out.trans hg.kp⟩

def zeroE : Ex := .mk 0 0 0 ⟨#[]⟩ ⟨#[]⟩ []
set_option maxRecDepth 100000 in
set_option maxHeartbeats 2000000 in
theorem folds_no (e : Ex) (v : Value) (w : World) (hv : exsSl w v e.args) (hA : Amb w) (hf : e.fits) (hc : e.wide) (hw : ¬ 2000 < wgL [e] 0) (hwe : wellB e = false) :
    Calls Tryz.prog 3 #[exVal e v] w fun r w' => r = .returned (.bool true) ∧ Kp [] w w' := by
  obtain ⟨q, cap, rfl⟩ := hv.val
  have hk0 : Kp [] w ((w.alloc (.cells #[.int .i64 e.op, .int .i64 e.kind, .int .i64 e.num, .string e.s, .string e.field, .slice q e.args.length cap] 24)).alloc (.cells #[.int .i64 e.op, .int .i64 e.kind, .int .i64 e.num, .string e.s, .string e.field, .slice q e.args.length cap] 24)) := ((Kp.refl [] w).alloc _).alloc _
  have hwc := Lib.hid (weigh_head e q cap w hv hc)
  have hfo := Lib.hid (foldNo_c e _ _ (hv.kp hk0) (hA.kp0 hk0) hf hwe)
  have hwl : Hid (∀ W, Kp [] w W → Calls Tryz.prog 7 #[exVal e (.slice q e.args.length cap)] W fun r w' => r = .returned (.bool false) ∧ Kp [] W w') := fun W hk => by
    have := rwell_c e _ W (hv.kp hk) hf
    rw [hwe] at this; exact this
  have hsm : Hid (∀ W, Calls Tryz.prog 8 #[exVal zeroE (.slice none 0 0), exVal zeroE (.slice none 0 0)] W fun r w' => r = .returned (.bool true) ∧ Kp [] W w') := fun W => same_c zeroE W _ _ (exsSl.nil W) (exsSl.nil W)
  obtain ⟨m, hm⟩ : ∃ m, wgL [e] 0 = m := ⟨_, rfl⟩
  rw [hm] at hw hwc
  unfold exVal at hfo hwl hsm ⊢
  unfold zeroX at hfo
  simp only [zeroE, Ex.op, Ex.kind, Ex.num, Ex.s, Ex.field] at hsm
  obtain ⟨lu, hlu⟩ : ∃ lu, e.args.length = lu := ⟨_, rfl⟩
  rw [hlu] at hk0 hwc hfo hwl ⊢
  replace hk0 := Lib.hid hk0
  clear hm hlu hv hA hf hwe
  go_enter Tryz.func3, Tryz.ntmps3
  go_wp2_with fail
  refine hwc.out.mono ?_
  rintro r w2 ⟨rfl, rfl⟩
  go_wp2_with fail
  refine hfo.out.mono ?_
  rintro r w2 ⟨rfl, hk2⟩
  have hK2 := Lib.hid ((hk0.out.trans hk2).alloc (.cells #[.int .i64 0, .int .i64 0, .int .i64 0, .string ⟨#[]⟩, .string ⟨#[]⟩, .slice none 0 0] 24))
  have hBx := ((((blk_new (rfl : w.heap.size = w.heap.size) 24 #[.int .i64 e.op, .int .i64 e.kind, .int .i64 e.num, .string e.s, .string e.field, .slice q lu cap]).alloc (.cells #[.int .i64 e.op, .int .i64 e.kind, .int .i64 e.num, .string e.s, .string e.field, .slice q lu cap] 24)).kp hk2 (by simp)).alloc (.cells #[.int .i64 0, .int .i64 0, .int .i64 0, .string ⟨#[]⟩, .string ⟨#[]⟩, .slice none 0 0] 24))
  have x0 := hBx.cell 0 (v := .int .i64 e.op) rfl
  have x1 := hBx.cell 1 (v := .int .i64 e.kind) rfl
  have x2 := hBx.cell 2 (v := .int .i64 e.num) rfl
  have x3 := hBx.cell 3 (v := .string e.s) rfl
  have x4 := hBx.cell 4 (v := .string e.field) rfl
  have x5 := hBx.cell 5 (v := .slice q lu cap) rfl
  have hBz := Lib.hid (blk_new (w := w2) rfl 24 #[.int .i64 0, .int .i64 0, .int .i64 0, .string ⟨#[]⟩, .string ⟨#[]⟩, .slice none 0 0])
  replace hBx := Lib.hid hBx
  clear hk2
  go_wp2_with fail
  refine (hwl.out _ hK2.out).mono ?_
  rintro r w3 ⟨rfl, hk3⟩
  have hBz3 := hBz.out.kp hk3 (by simp)
  have z0 := hBz3.cell 0 (v := .int .i64 0) rfl
  have z1 := hBz3.cell 1 (v := .int .i64 0) rfl
  have z2 := hBz3.cell 2 (v := .int .i64 0) rfl
  have z3 := hBz3.cell 3 (v := .string ⟨#[]⟩) rfl
  have z4 := hBz3.cell 4 (v := .string ⟨#[]⟩) rfl
  have z5 := hBz3.cell 5 (v := .slice none 0 0) rfl
  have hK3 := Lib.hid (hK2.out.trans hk3)
  replace hBz3 := Lib.hid hBz3
  clear hk3 x0 x1 x2 x3 x4 x5
  go_wp2_with (first | (go_at_call 8; refine (hsm.out _).mono ?_; rintro r w4 ⟨rfl, hk4⟩; have hK4 := Lib.hid (hK3.out.trans hk4)) | (go_at_call 5; refine (awake_c _).mono ?_; rintro r w5 ⟨rfl, hg5⟩; have hK5 := Lib.hid (hK4.out.trans hg5.kp)))
  go_ret
  exact ⟨rfl, hK5.out⟩
end Go.Proofs.YtgldbeacjacbcaaGreat

set_option linter.unusedSimpArgs false
set_option linter.unusedVariables false
namespace Go.Proofs.YtgldbeacjacbcaaGreat
open Go.RowKit

set_option maxRecDepth 100000 in
set_option maxHeartbeats 4000000 in
theorem folds_yes (e : Ex) (v : Value) (w : World) (hv : exsSl w v e.args) (hA : Amb w) (hf : e.fits) (hc : e.wide) (hw : ¬ 2000 < wgL [e] 0) (hwe : wellB e = true) :
    Calls Tryz.prog 3 #[exVal e v] w fun r w' => r = .returned (.bool true) ∧ Kp [] w w' := by
  obtain ⟨q, cap, rfl⟩ := hv.val
  have hk0 : Kp [] w ((w.alloc (.cells #[.int .i64 e.op, .int .i64 e.kind, .int .i64 e.num, .string e.s, .string e.field, .slice q e.args.length cap] 24)).alloc (.cells #[.int .i64 e.op, .int .i64 e.kind, .int .i64 e.num, .string e.s, .string e.field, .slice q e.args.length cap] 24)) := ((Kp.refl [] w).alloc _).alloc _
  have hwc := Lib.hid (weigh_head e q cap w hv hc)
  have hfo := Lib.hid (foldYes_c e _ _ (hv.kp hk0) (hA.kp0 hk0) hf hwe)
  have hwl : Hid (∀ W, Kp [] w W → Calls Tryz.prog 7 #[exVal e (.slice q e.args.length cap)] W fun r w' => r = .returned (.bool true) ∧ Kp [] W w') := fun W hk => by
    have := rwell_c e _ W (hv.kp hk) hf
    rw [hwe] at this; exact this
  have hrf : Hid (∀ W, Kp [] w W → Calls Tryz.prog 9 #[exVal e (.slice q e.args.length cap)] W fun r w' => ∃ u, r = .returned (exVal (foldE e) u) ∧ Kp [] W w' ∧ exsSl w' u (foldE e).args) := fun W hk =>
    (rfold_c e W _ (hv.kp hk) (wellB_of hwe).1 (wellB_of hwe).2).mono fun r w' h => let ⟨u, h1, h2, h3⟩ := h; ⟨u, h1, h2, h3.drop⟩
  obtain ⟨y, hy⟩ : ∃ y, foldE e = y := ⟨_, rfl⟩
  rw [hy] at hfo hrf
  have hsm : Hid (∀ (W : World) (u1 u2 : Value), exsSl W u1 y.args → exsSl W u2 y.args → Calls Tryz.prog 8 #[exVal y u1, exVal y u2] W fun r w' => r = .returned (.bool true) ∧ Kp [] W w') := same_c y
  obtain ⟨m, hm⟩ : ∃ m, wgL [e] 0 = m := ⟨_, rfl⟩
  rw [hm] at hw hwc
  unfold exVal at hfo hwl hrf hsm ⊢
  obtain ⟨lu, hlu⟩ : ∃ lu, e.args.length = lu := ⟨_, rfl⟩
  rw [hlu] at hk0 hwc hfo hwl hrf ⊢
  replace hk0 := Lib.hid hk0
  clear hm hlu hv hA hf hwe hy hc
  go_enter Tryz.func3, Tryz.ntmps3
  go_wp2_with fail
  refine hwc.out.mono ?_
  rintro r w2 ⟨rfl, rfl⟩
  go_wp2_with fail
  refine hfo.out.mono ?_
  rintro r w2 ⟨u, rfl, hk2, hu⟩
  obtain ⟨qu, cu, rfl⟩ := hu.val
  obtain ⟨ly, hly⟩ : ∃ ly, y.args.length = ly := ⟨_, rfl⟩
  rw [hly] at hu ⊢
  have hBx := (((blk_new (rfl : w.heap.size = w.heap.size) 24 #[.int .i64 e.op, .int .i64 e.kind, .int .i64 e.num, .string e.s, .string e.field, .slice q lu cap]).alloc (.cells #[.int .i64 e.op, .int .i64 e.kind, .int .i64 e.num, .string e.s, .string e.field, .slice q lu cap] 24)).kp hk2 (by simp)).alloc (.cells #[.int .i64 y.op, .int .i64 y.kind, .int .i64 y.num, .string y.s, .string y.field, .slice qu ly cu] 24)
  have hK2 := Lib.hid ((hk0.out.trans hk2).alloc (.cells #[.int .i64 y.op, .int .i64 y.kind, .int .i64 y.num, .string y.s, .string y.field, .slice qu ly cu] 24))
  have hBy := Lib.hid (blk_new (w := w2) rfl 24 #[.int .i64 y.op, .int .i64 y.kind, .int .i64 y.num, .string y.s, .string y.field, .slice qu ly cu])
  have hu2 := Lib.hid (hu.kp ((Kp.refl [] w2).alloc (.cells #[.int .i64 y.op, .int .i64 y.kind, .int .i64 y.num, .string y.s, .string y.field, .slice qu ly cu] 24)))
  have x0 := hBx.cell 0 (v := .int .i64 e.op) rfl
  have x1 := hBx.cell 1 (v := .int .i64 e.kind) rfl
  have x2 := hBx.cell 2 (v := .int .i64 e.num) rfl
  have x3 := hBx.cell 3 (v := .string e.s) rfl
  have x4 := hBx.cell 4 (v := .string e.field) rfl
  have x5 := hBx.cell 5 (v := .slice q lu cap) rfl
  replace hBx := Lib.hid hBx
  clear hk2 hu
  go_wp2_with fail
  refine (hwl.out _ hK2.out).mono ?_
  rintro r w3 ⟨rfl, hk3⟩
  have hBx3 := Lib.hid (hBx.out.kp hk3 (by simp))
  have hBy3 := Lib.hid (hBy.out.kp hk3 (by simp))
  have hK3 := Lib.hid (hK2.out.trans hk3)
  have hu3 := Lib.hid (hu2.out.kp hk3)
  clear x0 x1 x2 x3 x4 x5 hk3 hBx hBy hK2 hu2 hfo hwc hwl
  obtain ⟨gx, hgx⟩ : ∃ g, w.heap.size = g := ⟨_, rfl⟩
  obtain ⟨gy, hgy⟩ : ∃ g, w2.heap.size = g := ⟨_, rfl⟩
  have hrf3 := Lib.hid (hrf.out _ hK3.out.drew)
  rw [hgx] at hBx3 ⊢
  rw [hgy] at hBy3 ⊢
  clear hgx hgy hk0 hrf
  go_wp2_with fail
  have x0 := hBx3.out.cell 0 (v := .int .i64 e.op) rfl
  have x1 := hBx3.out.cell 1 (v := .int .i64 e.kind) rfl
  have x2 := hBx3.out.cell 2 (v := .int .i64 e.num) rfl
  have x3 := hBx3.out.cell 3 (v := .string e.s) rfl
  have x4 := hBx3.out.cell 4 (v := .string e.field) rfl
  have x5 := hBx3.out.cell 5 (v := .slice q lu cap) rfl
  have y0 := hBy3.out.cell 0 (v := .int .i64 y.op) rfl
  have y1 := hBy3.out.cell 1 (v := .int .i64 y.kind) rfl
  have y2 := hBy3.out.cell 2 (v := .int .i64 y.num) rfl
  have y3 := hBy3.out.cell 3 (v := .string y.s) rfl
  have y4 := hBy3.out.cell 4 (v := .string y.field) rfl
  have y5 := hBy3.out.cell 5 (v := .slice qu ly cu) rfl
  have hSall : Hid (∀ W', Kp [] w3 W' → W'.cell? ⟨gx, 0, none⟩ = some (.int .i64 e.op) ∧ W'.cell? ⟨gx, 1, none⟩ = some (.int .i64 e.kind) ∧ W'.cell? ⟨gx, 2, none⟩ = some (.int .i64 e.num) ∧ W'.cell? ⟨gx, 3, none⟩ = some (.string e.s) ∧ W'.cell? ⟨gx, 4, none⟩ = some (.string e.field) ∧ W'.cell? ⟨gx, 5, none⟩ = some (.slice q lu cap) ∧ W'.cell? ⟨gy, 0, none⟩ = some (.int .i64 y.op) ∧ W'.cell? ⟨gy, 1, none⟩ = some (.int .i64 y.kind) ∧ W'.cell? ⟨gy, 2, none⟩ = some (.int .i64 y.num) ∧ W'.cell? ⟨gy, 3, none⟩ = some (.string y.s) ∧ W'.cell? ⟨gy, 4, none⟩ = some (.string y.field) ∧ W'.cell? ⟨gy, 5, none⟩ = some (.slice qu ly cu)) := fun W' k => ⟨k.cell x0 (by simp), k.cell x1 (by simp), k.cell x2 (by simp), k.cell x3 (by simp), k.cell x4 (by simp), k.cell x5 (by simp), k.cell y0 (by simp), k.cell y1 (by simp), k.cell y2 (by simp), k.cell y3 (by simp), k.cell y4 (by simp), k.cell y5 (by simp)⟩
  clear x0 x1 x2 x3 x4 x5 y0 y1 y2 y3 y4 y5
  go_region_held3 (fun W' => W'.cell? ⟨gx, 0, none⟩ = some (.int .i64 e.op) ∧ W'.cell? ⟨gx, 1, none⟩ = some (.int .i64 e.kind) ∧ W'.cell? ⟨gx, 2, none⟩ = some (.int .i64 e.num) ∧ W'.cell? ⟨gx, 3, none⟩ = some (.string e.s) ∧ W'.cell? ⟨gx, 4, none⟩ = some (.string e.field) ∧ W'.cell? ⟨gx, 5, none⟩ = some (.slice q lu cap) ∧ W'.cell? ⟨gy, 0, none⟩ = some (.int .i64 y.op) ∧ W'.cell? ⟨gy, 1, none⟩ = some (.int .i64 y.kind) ∧ W'.cell? ⟨gy, 2, none⟩ = some (.int .i64 y.num) ∧ W'.cell? ⟨gy, 3, none⟩ = some (.string y.s) ∧ W'.cell? ⟨gy, 4, none⟩ = some (.string y.field) ∧ W'.cell? ⟨gy, 5, none⟩ = some (.slice qu ly cu))
    (first | exact hSall.out _ (Kp.refl _ _) | exact hSall.out _ (Kp.refl _ _).drew | exact hSall.out _ hk5.out | exact hSall.out _ hk6.out | exact hSall.out _ hk7.out)
    (first
    | (go_at_call 9; refine hrf3.out.mono ?_; rintro r w5 ⟨uz, rfl, hk5, hz5⟩; obtain ⟨qz, cz, rfl⟩ := hz5.val; rw [hly] at hz5 ⊢; have hu5 := Lib.hid (hu3.out.kp ((Kp.refl [] w3).drew.trans hk5)); have hK5 := Lib.hid (hK3.out.drew.trans hk5); replace hk5 := Lib.hid ((Kp.refl [] w3).drew.trans hk5); have hsm5 := Lib.hid (hsm.out w5 _ _ hu5.out hz5))
    | (go_at_call 8; refine hsm5.out.mono ?_; rintro r w6 ⟨rfl, hk6⟩; replace hk6 := Lib.hid (hk5.out.trans hk6))
    | (go_at_call 5; refine (awake_c _).mono ?_; rintro r w7 ⟨rfl, hg7⟩; have hk7 := Lib.hid (hk6.out.trans hg7.kp)))
  all_goals
    go_wp2_with fail
    go_ret
    exact ⟨rfl, hK3.out.trans hk7.out⟩
theorem folds_c (e : Ex) (v : Value) (w : World) (hv : exsSl w v e.args) (hA : Amb w) (hf : e.fits) (hc : e.wide) :
    Calls Tryz.prog 3 #[exVal e v] w fun r w' => r = .returned (.bool true) ∧ Kp [] w w' := by
  by_cases hw : 2000 < wgL [e] 0
  · exact folds_big e v w hv hc hw
  · cases hwe : wellB e
    · exact folds_no e v w hv hA hf hc hw hwe
    · exact folds_yes e v w hv hA hf hc hw hwe
end Go.Proofs.YtgldbeacjacbcaaGreat
