import Derived.Test.YtebmaclopkocgaaGreatDoorPa2
set_option linter.unusedSimpArgs false
set_option linter.unusedVariables false
namespace Go.Proofs.YtebmaclopkocgaaGreatDoor
open Go.RowKit

/-- The cells of the two statements. -/
def zcs : Array Value := #[.int .i64 8, .string ⟨#[]⟩, .slice none 0 0, .slice none 0 0, .slice none 0 0, .int .i64 0, .slice none 0 0, .slice none 0 0, .slice none 0 0, .bool false, .int .i64 9, .string ⟨#[]⟩, .slice none 0 0, .slice none 0 0, .slice none 0 0, .int .i64 0, .slice none 0 0, .slice none 0 0, .slice none 0 0, .bool false]
set_option maxRecDepth 100000 in
set_option maxHeartbeats 2000000 in
theorem all2_c (w : World) (g b : Nat) (hb : Blk w b 41 zcs) (hM : Mt2 w g 0 0) (hne : b ≠ g) :
    Calls Tryz.prog 73 #[.slice (some ⟨b, 0, none⟩) 2 2, .int .i64 1, .func (.func 74) #[.pointer (some ⟨g, 0, none⟩)] #[]] w fun r w' => r = .returned (.bool true) ∧ Kp [g] w w' ∧ ∃ dp, Mt2 w' g 2 dp := by
  have hne2 : b ∉ [g] := by simpa using hne
  replace hM := Lib.hid hM
  replace hb := Lib.hid hb
  replace hne2 := Lib.hid hne2
  clear hne
  go_enter Tryz.func73, Tryz.ntmps73
  go_wp2
  go_loopw [11] (fun i wr => ∃ (k : Nat) (dp : Int), k ≤ 2 ∧ i = .int .i64 k ∧ dp ≤ 14 ∧ Hid (Mt2 wr g k dp) ∧ Hid (Kp [g] w wr)) (fun i _ => 2 - (intOf i).toNat)
  case atStart => exact ⟨0, 0, by omega, rfl, by omega, hM, Kp.refl _ _⟩
  case round =>
    obtain ⟨k, dp, hk, rfl, hdp, hMk, hK⟩ := hrel
    have hbr := hb.out.kp hK.out hne2.out
    rcases (show k = 0 ∨ k = 1 ∨ k = 2 by omega) with rfl | rfl | rfl
    · have hM1 := Lib.hid (Mt2.cells hMk.out (.cells #[.int .i64 8, .string ⟨#[]⟩, .slice none 0 0, .slice none 0 0, .slice none 0 0, .int .i64 0, .slice none 0 0, .slice none 0 0, .slice none 0 0, .bool false] 41))
      have hK1 : Hid (Kp [g] w (wr.alloc (.cells #[.int .i64 8, .string ⟨#[]⟩, .slice none 0 0, .slice none 0 0, .slice none 0 0, .int .i64 0, .slice none 0 0, .slice none 0 0, .slice none 0 0, .bool false] 41))) := hK.out.alloc _
      have c0 : wr.cell? ⟨b, 0, none⟩ = some (.int .i64 8) := hbr.cell 0 rfl
      have c1 : wr.cell? ⟨b, 1, none⟩ = some (.string ⟨#[]⟩) := hbr.cell 1 rfl
      have c2 : wr.cell? ⟨b, 2, none⟩ = some (.slice none 0 0) := hbr.cell 2 rfl
      have c3 : wr.cell? ⟨b, 3, none⟩ = some (.slice none 0 0) := hbr.cell 3 rfl
      have c4 : wr.cell? ⟨b, 4, none⟩ = some (.slice none 0 0) := hbr.cell 4 rfl
      have c5 : wr.cell? ⟨b, 5, none⟩ = some (.int .i64 0) := hbr.cell 5 rfl
      have c6 : wr.cell? ⟨b, 6, none⟩ = some (.slice none 0 0) := hbr.cell 6 rfl
      have c7 : wr.cell? ⟨b, 7, none⟩ = some (.slice none 0 0) := hbr.cell 7 rfl
      have c8 : wr.cell? ⟨b, 8, none⟩ = some (.slice none 0 0) := hbr.cell 8 rfl
      have c9 : wr.cell? ⟨b, 9, none⟩ = some (.bool false) := hbr.cell 9 rfl
      replace hbr := Lib.hid hbr
      go_wp2_with fail
      refine (stmt_8 _ g 0 dp hM1.out (by omega) (by omega) hdp).mono ?_
      rintro r w2 ⟨rfl, hk2, dp2, hdp2, hM2⟩
      have hK2 := Lib.hid (hK1.out.trans hk2)
      replace hM2 := Lib.hid hM2
      clear hk2 hM1 hK1 c0 c1 c2 c3 c4 c5 c6 c7 c8 c9
      go_wp2_with fail
      go_roundw
      case rel => exact ⟨1, dp2, by omega, by go_num, hdp2, hM2, hK2⟩
      case measure => simp [intOf]
    · have hM1 := Lib.hid (Mt2.cells hMk.out (.cells #[.int .i64 9, .string ⟨#[]⟩, .slice none 0 0, .slice none 0 0, .slice none 0 0, .int .i64 0, .slice none 0 0, .slice none 0 0, .slice none 0 0, .bool false] 41))
      have hK1 : Hid (Kp [g] w (wr.alloc (.cells #[.int .i64 9, .string ⟨#[]⟩, .slice none 0 0, .slice none 0 0, .slice none 0 0, .int .i64 0, .slice none 0 0, .slice none 0 0, .slice none 0 0, .bool false] 41))) := hK.out.alloc _
      have c0 : wr.cell? ⟨b, 10, none⟩ = some (.int .i64 9) := hbr.cell 10 rfl
      have c1 : wr.cell? ⟨b, 11, none⟩ = some (.string ⟨#[]⟩) := hbr.cell 11 rfl
      have c2 : wr.cell? ⟨b, 12, none⟩ = some (.slice none 0 0) := hbr.cell 12 rfl
      have c3 : wr.cell? ⟨b, 13, none⟩ = some (.slice none 0 0) := hbr.cell 13 rfl
      have c4 : wr.cell? ⟨b, 14, none⟩ = some (.slice none 0 0) := hbr.cell 14 rfl
      have c5 : wr.cell? ⟨b, 15, none⟩ = some (.int .i64 0) := hbr.cell 15 rfl
      have c6 : wr.cell? ⟨b, 16, none⟩ = some (.slice none 0 0) := hbr.cell 16 rfl
      have c7 : wr.cell? ⟨b, 17, none⟩ = some (.slice none 0 0) := hbr.cell 17 rfl
      have c8 : wr.cell? ⟨b, 18, none⟩ = some (.slice none 0 0) := hbr.cell 18 rfl
      have c9 : wr.cell? ⟨b, 19, none⟩ = some (.bool false) := hbr.cell 19 rfl
      replace hbr := Lib.hid hbr
      go_wp2_with fail
      refine (stmt_9 _ g 1 dp hM1.out (by omega) (by omega) hdp).mono ?_
      rintro r w2 ⟨rfl, hk2, dp2, hdp2, hM2⟩
      have hK2 := Lib.hid (hK1.out.trans hk2)
      replace hM2 := Lib.hid hM2
      clear hk2 hM1 hK1 c0 c1 c2 c3 c4 c5 c6 c7 c8 c9
      go_wp2_with fail
      go_roundw
      case rel => exact ⟨2, dp2, by omega, by go_num, hdp2, hM2, hK2⟩
      case measure => simp [intOf]
    · go_wp2_with fail
      go_ret
      exact ⟨rfl, hK.out, dp, hMk.out⟩
end Go.Proofs.YtebmaclopkocgaaGreatDoor
