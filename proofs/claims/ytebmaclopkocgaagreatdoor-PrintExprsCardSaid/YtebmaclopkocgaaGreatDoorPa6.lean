import Derived.Test.YtebmaclopkocgaaGreatDoorPa5
set_option linter.unusedSimpArgs false
set_option linter.unusedVariables false
namespace Go.Proofs.YtebmaclopkocgaaGreatDoor
open Go.RowKit

def twoL : List Value := [.string ⟨#[101, 120, 105, 116, 59]⟩, .string ⟨#[114, 101, 116, 117, 114, 110, 59]⟩]
theorem LnsEx.take {B ga n : Nat} {xs ys : List Value} {w : World} (h : ∃ v, Lns B ga v n xs w) (e : xs = ys) : ∃ v, Lns B ga v n ys w := e ▸ h
set_option maxRecDepth 100000 in
set_option maxHeartbeats 4000000 in
theorem psts_c (B ga g b : Nat) (v : Value) (w : World) (h : Lns B ga v 0 [] w) (hb : Blk w b 41 zcs) :
    Calls Tryz.prog 46 #[prV g ga, .slice (some ⟨b, 0, none⟩) 2 2, .int .i64 0] w (LRes B ga 2 twoL w) := by
  have hBw : B ≤ w.heap.size := by have h1 := h.lo; have h2 := h.blk.lt; omega
  have hga : w.heap.size ≠ ga := by have h2 := h.blk.lt; omega
  have hbg : b ≠ ga := by
    intro e
    have h1 := h.blk
    rw [← e] at h1
    unfold Blk at h1 hb
    rw [hb] at h1
    simp at h1
  have hpB := Blk.new w 99 #[.map (some g), .func (.func 44) #[] #[.pointer (some ⟨ga, 0, none⟩)]]
  have hk0 : Kp [] w (w.alloc (.cells #[.map (some g), .func (.func 44) #[] #[.pointer (some ⟨ga, 0, none⟩)]] 99)) := (Kp.refl [] w).alloc _
  have hL0 := Lib.hid (h.kp hk0)
  have hb0 := Lib.hid (hb.kp hk0 (by simp))
  have hbel0 : Hid (Below B w (w.alloc (.cells #[.map (some g), .func (.func 44) #[] #[.pointer (some ⟨ga, 0, none⟩)]] 99))) := (Below.refl B w).alloc hBw _
  replace hk0 := Lib.hid hk0
  replace hpB := Lib.hid hpB
  replace hga := Lib.hid hga
  replace hbg := Lib.hid hbg
  clear h hb
  unfold prV
  go_enter Tryz.func46, Tryz.ntmps46
  go_wp2_with fail
  obtain ⟨W0, hW0⟩ : ∃ W0, w.alloc (.cells #[.map (some g), .func (.func 44) #[] #[.pointer (some ⟨ga, 0, none⟩)]] 99) = W0 := ⟨_, rfl⟩
  rw [hW0] at hL0 hb0 hbel0 hpB hk0 ⊢
  clear hW0
  go_loopw [10] (fun i wr => ∃ k : Nat, k ≤ 2 ∧ i = .int .i64 k ∧ Hid (∃ v', Lns B ga v' k (twoL.take k) wr) ∧ Hid (Below B w wr) ∧ Hid (Ots ga W0 wr)) (fun i _ => 2 - (intOf i).toNat)
  case atStart => exact ⟨0, by omega, rfl, ⟨v, hL0.out⟩, hbel0, Ots.refl _ _⟩
  case round =>
    obtain ⟨k, hk, rfl, hL1, hbel, hots⟩ := hrel
    obtain ⟨v', hL⟩ := hL1.out
    have hbr := hots.out _ _ _ (by decide) hbg.out hb0.out
    have hpr := hots.out _ _ _ (by decide) hga.out hpB.out
    clear hL1
    rcases (show k = 0 ∨ k = 1 ∨ k = 2 by omega) with rfl | rfl | rfl
    all_goals replace hL := Lib.hid hL
    · have hK : Kp [] wr (wr.alloc (.cells #[.int .i64 8, .string ⟨#[]⟩, .slice none 0 0, .slice none 0 0, .slice none 0 0, .int .i64 0, .slice none 0 0, .slice none 0 0, .slice none 0 0, .bool false] 41)) := (Kp.refl [] wr).alloc _
      have hc := Lib.hid (pst_8 B ga 0 g v' [] _ (hL.out.kp hK) (by omega))
      have c0 : wr.cell? ⟨b, 0, none⟩ = some (.int .i64 8) := hbr.cell 0 rfl
      have c1 : wr.cell? ⟨b, 1, none⟩ = some (.string ⟨#[]⟩) := hbr.cell 1 rfl
      have c2 : wr.cell? ⟨b, 2, none⟩ = some (.slice none 0 0) := hbr.cell 2 rfl
      have c3 : wr.cell? ⟨b, 3, none⟩ = some (.slice none 0 0) := hbr.cell 3 rfl
      have c4 : wr.cell? ⟨b, 4, none⟩ = some (.slice none 0 0) := hbr.cell 4 rfl
      have c5 : wr.cell? ⟨b, 5, none⟩ = some (.int .i64 0) := hbr.cell 5 rfl
      have c6 : wr.cell? ⟨b, 6, none⟩ = some (.slice none 0 0) := hbr.cell 6 rfl
      have c7 : wr.cell? ⟨b, 7, none⟩ = some (.slice none 0 0) := hbr.cell 7 rfl
      have c8 : wr.cell? ⟨b, 8, none⟩ = some (.slice none 0 0) := hbr.cell 8 rfl
      have c9 : wr.cell? ⟨b, 9, none⟩ = some (.bool false) := hbr.cell 9 rfl
      have p0 : (wr.alloc (.cells #[.int .i64 8, .string ⟨#[]⟩, .slice none 0 0, .slice none 0 0, .slice none 0 0, .int .i64 0, .slice none 0 0, .slice none 0 0, .slice none 0 0, .bool false] 41)).cell? ⟨w.heap.size, 0, none⟩ = some (.map (some g)) := (hpr.alloc (.cells #[.int .i64 8, .string ⟨#[]⟩, .slice none 0 0, .slice none 0 0, .slice none 0 0, .int .i64 0, .slice none 0 0, .slice none 0 0, .slice none 0 0, .bool false] 41)).cell 0 rfl
      have p1 : (wr.alloc (.cells #[.int .i64 8, .string ⟨#[]⟩, .slice none 0 0, .slice none 0 0, .slice none 0 0, .int .i64 0, .slice none 0 0, .slice none 0 0, .slice none 0 0, .bool false] 41)).cell? ⟨w.heap.size, 1, none⟩ = some (.func (.func 44) #[] #[.pointer (some ⟨ga, 0, none⟩)]) := (hpr.alloc (.cells #[.int .i64 8, .string ⟨#[]⟩, .slice none 0 0, .slice none 0 0, .slice none 0 0, .int .i64 0, .slice none 0 0, .slice none 0 0, .slice none 0 0, .bool false] 41)).cell 1 rfl
      have hBr : B ≤ wr.heap.size := Nat.le_trans hBw hbel.out.size
      have hbelK : Hid (Below B w (wr.alloc (.cells #[.int .i64 8, .string ⟨#[]⟩, .slice none 0 0, .slice none 0 0, .slice none 0 0, .int .i64 0, .slice none 0 0, .slice none 0 0, .slice none 0 0, .bool false] 41))) := hbel.out.alloc hBr _
      have hotsK : Hid (Ots ga W0 (wr.alloc (.cells #[.int .i64 8, .string ⟨#[]⟩, .slice none 0 0, .slice none 0 0, .slice none 0 0, .int .i64 0, .slice none 0 0, .slice none 0 0, .slice none 0 0, .bool false] 41))) := hots.out.trans (Ots.kp hK)
      replace hbr := Lib.hid hbr
      replace hpr := Lib.hid hpr
      replace hK := Lib.hid hK
      unfold prV at hc
      go_wp2_with fail
      refine hc.out.mono ?_
      rintro r w2 ⟨rfl, ⟨v2, hL2⟩, hb2, ho2⟩
      have hbel2 := Lib.hid (hbelK.out.trans hb2)
      have hots2 := Lib.hid (hotsK.out.trans ho2)
      replace hL2 := Lib.hid hL2
      clear hb2 ho2 hbelK hotsK hc c0 c1 c2 c3 c4 c5 c6 c7 c8 c9 p0 p1
      go_wp2_with fail
      go_roundw
      case rel => exact ⟨1, by omega, by go_num, ⟨v2, hL2.out⟩, hbel2, hots2⟩
      case measure => simp [intOf]
    · have hK : Kp [] wr (wr.alloc (.cells #[.int .i64 9, .string ⟨#[]⟩, .slice none 0 0, .slice none 0 0, .slice none 0 0, .int .i64 0, .slice none 0 0, .slice none 0 0, .slice none 0 0, .bool false] 41)) := (Kp.refl [] wr).alloc _
      have hc := Lib.hid (pst_9 B ga 1 g v' [.string ⟨#[101, 120, 105, 116, 59]⟩] _ (hL.out.kp hK) (by omega))
      have c0 : wr.cell? ⟨b, 10, none⟩ = some (.int .i64 9) := hbr.cell 10 rfl
      have c1 : wr.cell? ⟨b, 11, none⟩ = some (.string ⟨#[]⟩) := hbr.cell 11 rfl
      have c2 : wr.cell? ⟨b, 12, none⟩ = some (.slice none 0 0) := hbr.cell 12 rfl
      have c3 : wr.cell? ⟨b, 13, none⟩ = some (.slice none 0 0) := hbr.cell 13 rfl
      have c4 : wr.cell? ⟨b, 14, none⟩ = some (.slice none 0 0) := hbr.cell 14 rfl
      have c5 : wr.cell? ⟨b, 15, none⟩ = some (.int .i64 0) := hbr.cell 15 rfl
      have c6 : wr.cell? ⟨b, 16, none⟩ = some (.slice none 0 0) := hbr.cell 16 rfl
      have c7 : wr.cell? ⟨b, 17, none⟩ = some (.slice none 0 0) := hbr.cell 17 rfl
      have c8 : wr.cell? ⟨b, 18, none⟩ = some (.slice none 0 0) := hbr.cell 18 rfl
      have c9 : wr.cell? ⟨b, 19, none⟩ = some (.bool false) := hbr.cell 19 rfl
      have p0 : (wr.alloc (.cells #[.int .i64 9, .string ⟨#[]⟩, .slice none 0 0, .slice none 0 0, .slice none 0 0, .int .i64 0, .slice none 0 0, .slice none 0 0, .slice none 0 0, .bool false] 41)).cell? ⟨w.heap.size, 0, none⟩ = some (.map (some g)) := (hpr.alloc (.cells #[.int .i64 9, .string ⟨#[]⟩, .slice none 0 0, .slice none 0 0, .slice none 0 0, .int .i64 0, .slice none 0 0, .slice none 0 0, .slice none 0 0, .bool false] 41)).cell 0 rfl
      have p1 : (wr.alloc (.cells #[.int .i64 9, .string ⟨#[]⟩, .slice none 0 0, .slice none 0 0, .slice none 0 0, .int .i64 0, .slice none 0 0, .slice none 0 0, .slice none 0 0, .bool false] 41)).cell? ⟨w.heap.size, 1, none⟩ = some (.func (.func 44) #[] #[.pointer (some ⟨ga, 0, none⟩)]) := (hpr.alloc (.cells #[.int .i64 9, .string ⟨#[]⟩, .slice none 0 0, .slice none 0 0, .slice none 0 0, .int .i64 0, .slice none 0 0, .slice none 0 0, .slice none 0 0, .bool false] 41)).cell 1 rfl
      have hBr : B ≤ wr.heap.size := Nat.le_trans hBw hbel.out.size
      have hbelK : Hid (Below B w (wr.alloc (.cells #[.int .i64 9, .string ⟨#[]⟩, .slice none 0 0, .slice none 0 0, .slice none 0 0, .int .i64 0, .slice none 0 0, .slice none 0 0, .slice none 0 0, .bool false] 41))) := hbel.out.alloc hBr _
      have hotsK : Hid (Ots ga W0 (wr.alloc (.cells #[.int .i64 9, .string ⟨#[]⟩, .slice none 0 0, .slice none 0 0, .slice none 0 0, .int .i64 0, .slice none 0 0, .slice none 0 0, .slice none 0 0, .bool false] 41))) := hots.out.trans (Ots.kp hK)
      replace hbr := Lib.hid hbr
      replace hpr := Lib.hid hpr
      replace hK := Lib.hid hK
      unfold prV at hc
      go_wp2_with fail
      refine hc.out.mono ?_
      rintro r w2 ⟨rfl, ⟨v2, hL2⟩, hb2, ho2⟩
      have hbel2 := Lib.hid (hbelK.out.trans hb2)
      have hots2 := Lib.hid (hotsK.out.trans ho2)
      replace hL2 := Lib.hid hL2
      clear hb2 ho2 hbelK hotsK hc c0 c1 c2 c3 c4 c5 c6 c7 c8 c9 p0 p1
      go_wp2_with fail
      go_roundw
      case rel => exact ⟨2, by omega, by go_num, ⟨v2, hL2.out⟩, hbel2, hots2⟩
      case measure => simp [intOf]
    · go_wp2_with fail
      go_end0
      exact ⟨rfl, ⟨v', hL.out⟩, hbel.out, (Ots.kp hk0.out).trans hots.out⟩
end Go.Proofs.YtebmaclopkocgaaGreatDoor
