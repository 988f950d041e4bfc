import Derived.Test.YtebmaclopkocgaaGreatDoorPa4
import Derived.Laws.EntriesVeiled
set_option linter.unusedSimpArgs false
set_option linter.unusedVariables false
namespace Go.Proofs.YtebmaclopkocgaaGreatDoor
open Go.RowKit

/-- The printer: the operators, and the closure that takes the lines. -/
def prV (g ga : Nat) : Value := .agg #[.map (some g), .func (.func 44) #[] #[.pointer (some ⟨ga, 0, none⟩)]]
/-- What a writer of lines leaves. -/
def LRes (B ga n : Nat) (xs : List Value) (w : World) (r : Ending) (w' : World) : Prop :=
  r = .returned (.tuple #[]) ∧ (∃ v', Lns B ga v' n xs w') ∧ Below B w w' ∧ Ots ga w w'
set_option maxRecDepth 100000 in
set_option maxHeartbeats 2000000 in
theorem pst_8 (B ga n g : Nat) (v : Value) (xs : List Value) (w : World) (h : Lns B ga v n xs w) (hn : n ≤ 10) :
    Calls Tryz.prog 66 #[prV g ga, .agg #[.int .i64 8, .string ⟨#[]⟩, .slice none 0 0, .slice none 0 0, .slice none 0 0, .int .i64 0, .slice none 0 0, .slice none 0 0, .slice none 0 0, .bool false], .int .i64 0] w (LRes B ga (n + 1) (xs ++ [.string ⟨#[101, 120, 105, 116, 59]⟩]) w) := by
  have hBw : B ≤ w.heap.size := by have h1 := h.lo; have h2 := h.blk.lt; omega
  obtain ⟨W1, hW1⟩ : ∃ W1, (w.alloc (.cells #[.map (some g), .func (.func 44) #[] #[.pointer (some ⟨ga, 0, none⟩)]] 99)).alloc (.cells #[.int .i64 8, .string ⟨#[]⟩, .slice none 0 0, .slice none 0 0, .slice none 0 0, .int .i64 0, .slice none 0 0, .slice none 0 0, .slice none 0 0, .bool false] 41) = W1 := ⟨_, rfl⟩
  have hk1 : Kp [] w W1 := hW1 ▸ ((Kp.refl [] w).alloc _).alloc _
  have hb1 : Below B w W1 := hW1 ▸ ((Below.refl B w).alloc hBw _).alloc (by simp; omega) _
  have hc := Lib.hid (collect_c B ga n v xs ⟨#[101, 120, 105, 116, 59]⟩ W1 (h.kp hk1) hn (by decide))
  replace hW1 := Lib.hid hW1
  replace hk1 := Lib.hid hk1
  replace hb1 := Lib.hid hb1
  clear h
  unfold prV
  go_enter Tryz.func66, Tryz.ntmps66
  go_wp2_with fail
  rw [hW1.out]
  refine hc.out.mono ?_
  rintro r w2 ⟨rfl, hL, hb2, ho2⟩
  have hT : Hid (LRes B ga (n + 1) (xs ++ [.string ⟨#[101, 120, 105, 116, 59]⟩]) w (.returned (.tuple #[])) w2) := ⟨rfl, hL, hb1.out.trans hb2, (Ots.kp hk1.out).trans ho2⟩
  clear hL hb2 ho2
  go_wp2_with fail
  go_end0
  exact hT.out
set_option maxRecDepth 100000 in
set_option maxHeartbeats 2000000 in
theorem pst_9 (B ga n g : Nat) (v : Value) (xs : List Value) (w : World) (h : Lns B ga v n xs w) (hn : n ≤ 10) :
    Calls Tryz.prog 66 #[prV g ga, .agg #[.int .i64 9, .string ⟨#[]⟩, .slice none 0 0, .slice none 0 0, .slice none 0 0, .int .i64 0, .slice none 0 0, .slice none 0 0, .slice none 0 0, .bool false], .int .i64 0] w (LRes B ga (n + 1) (xs ++ [.string ⟨#[114, 101, 116, 117, 114, 110, 59]⟩]) w) := by
  have hBw : B ≤ w.heap.size := by have h1 := h.lo; have h2 := h.blk.lt; omega
  obtain ⟨W1, hW1⟩ : ∃ W1, (w.alloc (.cells #[.map (some g), .func (.func 44) #[] #[.pointer (some ⟨ga, 0, none⟩)]] 99)).alloc (.cells #[.int .i64 9, .string ⟨#[]⟩, .slice none 0 0, .slice none 0 0, .slice none 0 0, .int .i64 0, .slice none 0 0, .slice none 0 0, .slice none 0 0, .bool false] 41) = W1 := ⟨_, rfl⟩
  have hk1 : Kp [] w W1 := hW1 ▸ ((Kp.refl [] w).alloc _).alloc _
  have hb1 : Below B w W1 := hW1 ▸ ((Below.refl B w).alloc hBw _).alloc (by simp; omega) _
  have hc := Lib.hid (collect_c B ga n v xs ⟨#[114, 101, 116, 117, 114, 110, 59]⟩ W1 (h.kp hk1) hn (by decide))
  replace hW1 := Lib.hid hW1
  replace hk1 := Lib.hid hk1
  replace hb1 := Lib.hid hb1
  clear h
  unfold prV
  go_enter Tryz.func66, Tryz.ntmps66
  go_wp2_with fail
  rw [hW1.out]
  refine hc.out.mono ?_
  rintro r w2 ⟨rfl, hL, hb2, ho2⟩
  have hT : Hid (LRes B ga (n + 1) (xs ++ [.string ⟨#[114, 101, 116, 117, 114, 110, 59]⟩]) w (.returned (.tuple #[])) w2) := ⟨rfl, hL, hb1.out.trans hb2, (Ots.kp hk1.out).trans ho2⟩
  clear hL hb2 ho2
  go_wp2_with fail
  go_end0
  exact hT.out
end Go.Proofs.YtebmaclopkocgaaGreatDoor
