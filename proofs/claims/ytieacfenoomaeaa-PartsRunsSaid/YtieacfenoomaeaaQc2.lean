import Derived.Test.YtieacfenoomaeaaQc1
import Derived.RegionTactic
set_option linter.unusedSimpArgs false
set_option linter.unusedVariables false
namespace Go.Proofs.Ytieacfenoomaeaa
open Go.RowKit

set_option maxRecDepth 100000 in
set_option maxHeartbeats 2000000 in
theorem sameInts_c (w : World) (p1 p2 : Option Addr) (n c1 c2 : Nat) (zs : List (Int)) (hn : n ≤ 9223372036854775807)
    (h1 : ∀ W, Kp [] w W → ∀ k, k < n → ∃ b off, p1 = some ⟨b, off, none⟩ ∧ W.cell? ⟨b, off + k, none⟩ = some (.int .i64 (zs.getD k 0))) (h2 : ∀ W, Kp [] w W → ∀ k, k < n → ∃ b off, p2 = some ⟨b, off, none⟩ ∧ W.cell? ⟨b, off + k, none⟩ = some (.int .i64 (zs.getD k 0))) :
    Calls Try.prog 23 #[.slice p1 n c1, .slice p2 n c2] w fun r w' => r = .returned (.bool true) ∧ Kp [] w w' := by
  replace h1 := Lib.hid h1
  replace h2 := Lib.hid h2
  go_enter Try.func23, Try.ntmps23
  go_wp2
  go_loopw [5] (fun i wr => ∃ (k : Nat), k ≤ n ∧ i = .int .i64 k ∧ Hid (Kp [] w wr)) (fun i _ => n - (intOf i).toNat)
  case atStart => exact ⟨0, Nat.zero_le _, rfl, Kp.refl _ _⟩
  case round =>
    obtain ⟨k, hk, rfl, hK⟩ := hrel
    by_cases hlt : k < n
    · obtain ⟨b, off, rfl, hc⟩ := h1.out _ hK.out.drew k hlt
      obtain ⟨b2, off2, rfl, hd⟩ := h2.out _ hK.out.drew k hlt
      obtain ⟨z, hz⟩ : ∃ z, (.int .i64 (zs.getD k 0) : Value) = z := ⟨_, rfl⟩
      have hdk := Lib.hid hK.out.drew
      go_wp2_with fail
      go_region
      all_goals
        go_wp2
        go_roundw
        case rel => exact ⟨k + 1, by omega, by go_num, by first | exact hdk.out | exact hdk.out.drewN _⟩
        case measure => simp [intOf]; omega
    · go_wp2
      go_ret
      exact ⟨rfl, hK.out⟩
set_option maxRecDepth 100000 in
set_option maxHeartbeats 2000000 in
theorem sameStrings_c (w : World) (p1 p2 : Option Addr) (n c1 c2 : Nat) (zs : List (List UInt8)) (hn : n ≤ 9223372036854775807)
    (h1 : ∀ W, Kp [] w W → ∀ k, k < n → ∃ b off, p1 = some ⟨b, off, none⟩ ∧ W.cell? ⟨b, off + k, none⟩ = some (.string ⟨(zs.getD k []).toArray⟩)) (h2 : ∀ W, Kp [] w W → ∀ k, k < n → ∃ b off, p2 = some ⟨b, off, none⟩ ∧ W.cell? ⟨b, off + k, none⟩ = some (.string ⟨(zs.getD k []).toArray⟩)) :
    Calls Try.prog 13 #[.slice p1 n c1, .slice p2 n c2] w fun r w' => r = .returned (.bool true) ∧ Kp [] w w' := by
  replace h1 := Lib.hid h1
  replace h2 := Lib.hid h2
  go_enter Try.func13, Try.ntmps13
  go_wp2
  go_loopw [5] (fun i wr => ∃ (k : Nat), k ≤ n ∧ i = .int .i64 k ∧ Hid (Kp [] w wr)) (fun i _ => n - (intOf i).toNat)
  case atStart => exact ⟨0, Nat.zero_le _, rfl, Kp.refl _ _⟩
  case round =>
    obtain ⟨k, hk, rfl, hK⟩ := hrel
    by_cases hlt : k < n
    · obtain ⟨b, off, rfl, hc⟩ := h1.out _ hK.out.drew k hlt
      obtain ⟨b2, off2, rfl, hd⟩ := h2.out _ hK.out.drew k hlt
      obtain ⟨z, hz⟩ : ∃ z, (.string ⟨(zs.getD k []).toArray⟩ : Value) = z := ⟨_, rfl⟩
      have hdk := Lib.hid hK.out.drew
      go_wp2_with fail
      go_region
      all_goals
        go_wp2
        go_roundw
        case rel => exact ⟨k + 1, by omega, by go_num, by first | exact hdk.out | exact hdk.out.drewN _⟩
        case measure => simp [intOf]; omega
    · go_wp2
      go_ret
      exact ⟨rfl, hK.out⟩
/-- Two slices of the same ints. -/
theorem same_c (w : World) (v1 v2 : Value) (zs : List Int) (h1 : Is w v1 zs) (h2 : Is w v2 zs) : Calls Try.prog 23 #[v1, v2] w fun r w' => r = .returned (.bool true) ∧ Kp [] w w' := by
  obtain ⟨p1, c1, rfl, _, _⟩ := h1.val
  obtain ⟨p2, c2, rfl, _, _⟩ := h2.val
  exact sameInts_c w p1 p2 _ c1 c2 zs (by omega) (fun W k j hj => (h1.kp k).at_ j hj) (fun W k j hj => (h2.kp k).at_ j hj)
theorem isTimed_tp (w : World) : Calls Try.prog 16 #[.string ⟨#[116, 112]⟩] w fun r w' => r = .returned (.bool true) ∧ w' = w := by
  go_enter Try.func16, Try.ntmps16
  go_wp2
  go_ret
  exact ⟨rfl, rfl⟩
theorem ne_nope : ∀ i, i < 9 → (⟨#[110, 111, 112, 101]⟩ : ByteArray) ≠ nmb i := by
  intro i hi e
  have e2 := congrArg (fun x : ByteArray => x.data.toList) e
  have : ∀ a : Fin 9, ([110, 111, 112, 101] : List UInt8) ≠ nm.getD a [] := by decide
  exact this ⟨i, hi⟩ (by simpa [nmb] using e2)
set_option maxRecDepth 100000 in
set_option maxHeartbeats 4000000 in
theorem awake_c (w : World) : Calls Try.prog 19 #[] w fun r w' => r = .returned (.bool true) ∧ Kp [] w w' := by
  have hB := Blk.new w 3 #[.int .i64 1, .int .i64 500, .int .i64 0, .int .i64 0, .int .i64 0, .int .i64 0]
  obtain ⟨W1, hW1⟩ : ∃ W1, w.alloc (.cells #[.int .i64 1, .int .i64 500, .int .i64 0, .int .i64 0, .int .i64 0, .int .i64 0] 3) = W1 := ⟨_, rfl⟩
  have hk1 : Kp [] w W1 := hW1 ▸ (Kp.refl [] w).alloc _
  rw [hW1] at hB
  have hz := Lib.hid (is_lit (n := 6) (zs := [1, 500, 0, 0, 0, 0]) hB rfl (by omega) rfl)
  replace hB := Lib.hid hB
  replace hk1 := Lib.hid hk1
  replace hW1 := Lib.hid hW1
  go_enter Try.func19, Try.ntmps19
  go_wp2_with fail
  rw [hW1.out]
  refine (scan_ton [1, 500, 0, 0, 0, 0] 100 W1 _ hz.out (by decide) (by decide)).mono ?_
  rintro r w2 ⟨v1, rfl, hv1, hk2, _⟩
  have e1 : stp 0 [1, 500, 0, 0, 0, 0] 100 = [1, 500, 0, 0, 100, 1] := by decide
  rw [e1] at hv1
  clear e1
  replace hk2 := Lib.hid (hk1.out.trans hk2)
  replace hv1 := Lib.hid hv1
  go_wp2_with fail
  refine (scan_ton [1, 500, 0, 0, 100, 1] 600 w2 _ hv1.out (by decide) (by decide)).mono ?_
  rintro r w3 ⟨v2, rfl, hv2, hk3, _⟩
  have e2 : stp 0 [1, 500, 0, 0, 100, 1] 600 = [1, 500, 1, 500, 100, 1] := by decide
  rw [e2] at hv2
  clear e2
  replace hv1 := Lib.hid (hv1.out.kp hk3)
  replace hk3 := Lib.hid (hk2.out.trans hk3)
  replace hv2 := Lib.hid hv2
  go_wp2_with fail
  refine (scan_no ⟨#[110, 111, 112, 101]⟩ (.slice none 0 0) 0 w3 (fun W k => partOf_no _ ne_nope W _)).mono ?_
  rintro r w4 ⟨rfl, hk4⟩
  replace hv1 := Lib.hid (hv1.out.kp hk4)
  replace hv2 := Lib.hid (hv2.out.kp hk4)
  replace hk4 := Lib.hid (hk3.out.trans hk4)
  go_wp2_with fail
  refine (names_c w4).mono ?_
  rintro r w5 ⟨v3, rfl, hv3, hk5⟩
  replace hv1 := Lib.hid (hv1.out.kp hk5)
  replace hv2 := Lib.hid (hv2.out.kp hk5)
  replace hk5 := Lib.hid (hk4.out.trans hk5)
  obtain ⟨q3, c3, rfl⟩ : ∃ q c, v3 = .slice q 9 c := by
    rcases hv3.2 with ⟨_, h⟩ | ⟨g, cap, cur, h, _⟩
    · omega
    · exact ⟨_, _, h⟩
  clear hv3
  have hC := Blk.new w5 3 #[.int .i64 1, .int .i64 500, .int .i64 0, .int .i64 0, .int .i64 100, .int .i64 1]
  obtain ⟨W6, hW6⟩ : ∃ W6, w5.alloc (.cells #[.int .i64 1, .int .i64 500, .int .i64 0, .int .i64 0, .int .i64 100, .int .i64 1] 3) = W6 := ⟨_, rfl⟩
  have hk6 : Kp [] w5 W6 := hW6 ▸ (Kp.refl [] w5).alloc _
  rw [hW6] at hC
  have hz6 := Lib.hid (is_lit (n := 6) (zs := [1, 500, 0, 0, 100, 1]) hC rfl (by omega) rfl)
  replace hv1 := Lib.hid (hv1.out.kp hk6)
  replace hv2 := Lib.hid (hv2.out.kp hk6)
  replace hk6 := Lib.hid (hk5.out.trans hk6)
  replace hC := Lib.hid hC
  replace hW6 := Lib.hid hW6
  go_wp2_with fail
  rw [hW6.out]
  refine (same_c W6 _ _ _ hv1.out hz6.out).mono ?_
  rintro r w7 ⟨rfl, hk7⟩
  replace hv2 := Lib.hid (hv2.out.kp hk7)
  replace hk7 := Lib.hid (hk6.out.trans hk7)
  have hD := Blk.new w7 3 #[.int .i64 1, .int .i64 500, .int .i64 1, .int .i64 500, .int .i64 100, .int .i64 1]
  obtain ⟨W8, hW8⟩ : ∃ W8, w7.alloc (.cells #[.int .i64 1, .int .i64 500, .int .i64 1, .int .i64 500, .int .i64 100, .int .i64 1] 3) = W8 := ⟨_, rfl⟩
  have hk8 : Kp [] w7 W8 := hW8 ▸ (Kp.refl [] w7).alloc _
  rw [hW8] at hD
  have hz8 := Lib.hid (is_lit (n := 6) (zs := [1, 500, 1, 500, 100, 1]) hD rfl (by omega) rfl)
  replace hv2 := Lib.hid (hv2.out.kp hk8)
  replace hk8 := Lib.hid (hk7.out.trans hk8)
  replace hD := Lib.hid hD
  replace hW8 := Lib.hid hW8
  go_wp2_with fail
  rw [hW8.out]
  refine (same_c W8 _ _ _ hv2.out hz8.out).mono ?_
  rintro r w9 ⟨rfl, hk9⟩
  replace hk9 := Lib.hid (hk8.out.trans hk9)
  go_wp2_with fail
  refine (isTimed_tp w9).mono ?_
  rintro r w10 ⟨rfl, rfl⟩
  go_wp2_with fail
  go_ret
  exact ⟨rfl, hk9.out⟩
end Go.Proofs.Ytieacfenoomaeaa
