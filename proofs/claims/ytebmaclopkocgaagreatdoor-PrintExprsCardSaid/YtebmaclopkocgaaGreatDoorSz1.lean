import Derived.Test.YtebmaclopkocgaaGreatDoorRn1
set_option linter.unusedSimpArgs false
set_option linter.unusedVariables false
namespace Go.Proofs.YtebmaclopkocgaaGreatDoor
open Go.RowKit

/-- The reference's measure: its nodes, its depth, whether something is wrong. -/
def Sz (w : World) (g : Nat) (n d : Int) (b : Bool) : Prop := Blk w g 49 #[.int .i64 n, .int .i64 d, .bool b]
theorem Sz.kp {w w' : World} {g : Nat} {n d : Int} {b : Bool} (h : Sz w g n d b) (k : Kp [] w w') : Sz w' g n d b := Blk.kp h k (by simp)
theorem Sz.cells {w : World} {g : Nat} {n d : Int} {b : Bool} (h : Sz w g n d b) (o : Obj) : Sz (w.alloc o) g n d b := h.kp ((Kp.refl [] w).alloc o)

set_option maxRecDepth 100000 in
theorem right_c (g : Nat) (n d : Int) (wr b : Bool) (w : World) (h : Sz w g n d wr) :
    Calls Tryz.prog 33 #[.pointer (some ⟨g, 0, none⟩), .bool b] w fun e w' => e = .returned (.tuple #[]) ∧ Sz w' g n d (wr || !b) ∧ Kp [g] w w' := by
  have f2 := Blk.frozen h 2
  have c2 := Blk.cell h 2 (v := .bool wr) rfl
  replace h := Lib.hid h
  cases b
  · go_enter Tryz.func33, Tryz.ntmps33
    go_wp2
    go_end0
    refine ⟨rfl, ?_, (Kp.refl _ _).setCell (.inl (by simp)) _⟩
    rw [show (wr || !false) = true by simp]
    exact Blk.set h.out 2 (.bool true)
  · go_enter Tryz.func33, Tryz.ntmps33
    go_wp2
    go_end0
    refine ⟨rfl, ?_, Kp.refl _ _⟩
    rw [show (wr || !true) = wr by simp]
    exact h.out

set_option maxRecDepth 100000 in
theorem node_c (g : Nat) (n dp d : Int) (w : World) (h : Sz w g n dp false) (hn : 0 ≤ n) (hn2 : n ≤ 1000000) :
    Calls Tryz.prog 32 #[.pointer (some ⟨g, 0, none⟩), .int .i64 d] w fun e w' => e = .returned (.tuple #[]) ∧ Sz w' g (n + 1) (max dp d) (decide (500 < n + 1) || decide (14 < d)) ∧ Kp [g] w w' := by
  have c0 := Blk.cell h 0 (v := .int .i64 n) rfl
  have c1 := Blk.cell h 1 (v := .int .i64 dp) rfl
  have c2 := Blk.cell h 2 (v := .bool false) rfl
  have f0 := Blk.frozen h 0
  have f1 := Blk.frozen h 1
  have f2 := Blk.frozen h 2
  replace h := Lib.hid h
  go_enter Tryz.func32, Tryz.ntmps32
  go_wp2
  · go_end0
    rename_i h1 h2
    refine ⟨rfl, ?_, (((Kp.refl _ _).setCell (.inl (by simp)) _).setCell (.inl (by simp)) _).setCell (.inl (by simp)) _⟩
    rw [show (decide (500 < n + 1) || decide (14 < d)) = true by simp; omega]
    exact Blk.set (Blk.set (Blk.set h.out 0 (.int .i64 (n + 1))) 1 (.int .i64 (max dp d))) 2 (.bool true)
  · go_end0
    rename_i h1 h2
    refine ⟨rfl, ?_, ((Kp.refl _ _).setCell (.inl (by simp)) _).setCell (.inl (by simp)) _⟩
    rw [show (decide (500 < n + 1) || decide (14 < d)) = false by simp; omega]
    exact Blk.set (Blk.set h.out 0 (.int .i64 (n + 1))) 1 (.int .i64 (max dp d))
  · go_end0
    rename_i h1
    refine ⟨rfl, ?_, (((Kp.refl _ _).setCell (.inl (by simp)) _).setCell (.inl (by simp)) _).setCell (.inl (by simp)) _⟩
    exact Blk.set (Blk.set (Blk.set h.out 0 (.int .i64 (n + 1))) 1 (.int .i64 (max dp d))) 2 (.bool true)
end Go.Proofs.YtebmaclopkocgaaGreatDoor
