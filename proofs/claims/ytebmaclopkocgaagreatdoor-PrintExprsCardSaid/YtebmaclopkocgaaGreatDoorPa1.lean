import Derived.Test.YtebmaclopkocgaaGreatDoorPt6
import Derived.Test.YtebmaclopkocgaaGreatDoorTx6
set_option linter.unusedSimpArgs false
set_option linter.unusedVariables false
namespace Go.Proofs.YtebmaclopkocgaaGreatDoor
open Go.RowKit

/-- A meter: its nodes and its depth. -/
def Mt2 (w : World) (g : Nat) (n d : Int) : Prop := Blk w g 108 #[.int .i64 n, .int .i64 d]
theorem Mt2.kp {w w' : World} {g : Nat} {n d : Int} (h : Mt2 w g n d) (k : Kp [] w w') : Mt2 w' g n d := Blk.kp h k (by simp)
theorem Mt2.cells {w : World} {g : Nat} {n d : Int} (h : Mt2 w g n d) (o : Obj) : Mt2 (w.alloc o) g n d := h.kp ((Kp.refl [] w).alloc o)

set_option maxRecDepth 100000 in
theorem enter2_c (g : Nat) (n dp d : Int) (w : World) (h : Mt2 w g n dp) (hn : 0 ≤ n) (hn2 : n ≤ 1000000) :
    Calls Tryz.prog 47 #[.pointer (some ⟨g, 0, none⟩), .int .i64 d] w fun e w' => e = .returned (.bool (decide (n + 1 ≤ 500) && decide (max dp d ≤ 14))) ∧ Mt2 w' g (n + 1) (max dp d) ∧ Gm g w w' := by
  have c0 := Blk.cell h 0 (v := .int .i64 n) rfl
  have c1 := Blk.cell h 1 (v := .int .i64 dp) rfl
  have f0 := Blk.frozen h 0
  have f1 := Blk.frozen h 1
  replace h := Lib.hid h
  go_enter Tryz.func47, Tryz.ntmps47
  go_wp2
  all_goals
    go_ret
    refine ⟨ret_bool ?_, ?_, ((Gm.refl g w).setCell 0 _).setCell 1 _⟩
    · by_cases hh : n + 1 ≤ 500 <;> simp [hh] <;> omega
    · exact Blk.set (Blk.set h.out 0 (.int .i64 (n + 1))) 1 (.int .i64 (max dp d))

/-- The cells of a statement that has an operator alone. -/
def zc (k : Int) : Array Value := #[.int .i64 k, .string ⟨#[]⟩, .slice none 0 0, .slice none 0 0, .slice none 0 0, .int .i64 0, .slice none 0 0, .slice none 0 0, .slice none 0 0, .bool false]
set_option maxRecDepth 100000 in
theorem empty_c (w : World) :
    Calls Tryz.prog 118 #[.agg #[.int .i64 0, .string ⟨#[]⟩, .slice none 0 0, .slice none 0 0, .slice none 0 0, .int .i64 0, .slice none 0 0, .slice none 0 0, .slice none 0 0, .bool false]] w fun r w' => r = .returned (.bool true) ∧ Kp [] w w' := by
  go_enter Tryz.func118, Tryz.ntmps118
  go_wp2_with fail
  go_ret
  exact ⟨rfl, (Kp.refl [] w).alloc _⟩
set_option maxRecDepth 100000 in
set_option maxHeartbeats 1000000 in
theorem isStmt_8 (w : World) :
    Calls Tryz.prog 97 #[.agg #[.int .i64 8, .string ⟨#[]⟩, .slice none 0 0, .slice none 0 0, .slice none 0 0, .int .i64 0, .slice none 0 0, .slice none 0 0, .slice none 0 0, .bool false]] w fun r w' => r = .returned (.bool true) ∧ Kp [] w w' := by
  go_enter Tryz.func97, Tryz.ntmps97
  go_wp2_with fail
  refine (empty_c _).mono ?_
  rintro r w' ⟨rfl, hk⟩
  go_wp2_with fail
  go_ret
  exact ⟨rfl, (((Kp.refl [] w).alloc _).alloc _).trans hk⟩
set_option maxRecDepth 100000 in
set_option maxHeartbeats 1000000 in
theorem isStmt_9 (w : World) :
    Calls Tryz.prog 97 #[.agg #[.int .i64 9, .string ⟨#[]⟩, .slice none 0 0, .slice none 0 0, .slice none 0 0, .int .i64 0, .slice none 0 0, .slice none 0 0, .slice none 0 0, .bool false]] w fun r w' => r = .returned (.bool true) ∧ Kp [] w w' := by
  go_enter Tryz.func97, Tryz.ntmps97
  go_wp2_with fail
  refine (empty_c _).mono ?_
  rintro r w' ⟨rfl, hk⟩
  go_wp2_with fail
  go_ret
  exact ⟨rfl, (((Kp.refl [] w).alloc _).alloc _).trans hk⟩
theorem expsNil_c (w : World) (g : Nat) (d : Int) :
    Calls Tryz.prog 49 #[.pointer (some ⟨g, 0, none⟩), .slice none 0 0, .int .i64 d] w fun r w' => r = .returned (.bool true) ∧ Kp [] w w' := by
  have hmf : ∀ (fn : Fn) (first cap : Array Value) (w : World), (Instr.makeFunc fn first cap).run Tryz.prog w = .ok (.func fn first cap) w := fun _ _ _ _ => rfl
  have hall : Hid (∀ (W : World) (f : Value), Calls Tryz.prog 69 #[.slice none 0 0, .int .i64 d, f] W fun r w' => r = .returned (.bool true) ∧ W = w') := by
    intro W f
    go_enter Tryz.func69, Tryz.ntmps69
    go_wp2
    go_loop [11] (fun i => i = .int .i64 0) (fun _ => 0)
    case atStart => rfl
    case round =>
      subst hrel
      go_wp2
      go_ret
      exact ⟨rfl, rfl⟩
  go_enter Tryz.func49, Tryz.ntmps49
  go_wp2_with fail
  refine (hall.out _ _).mono ?_
  rintro r w' ⟨rfl, rfl⟩
  go_wp2_with fail
  go_ret
  exact ⟨rfl, Kp.refl _ _⟩
theorem stmtsNil_c (w : World) (p : Value) (d : Int) (hp : ∃ a, p = .pointer a) :
    Calls Tryz.prog 55 #[p, .slice none 0 0, .int .i64 d] w fun r w' => r = .returned (.bool true) ∧ Kp [] w w' := by
  obtain ⟨a, rfl⟩ := hp
  have hmf : ∀ (fn : Fn) (first cap : Array Value) (w : World), (Instr.makeFunc fn first cap).run Tryz.prog w = .ok (.func fn first cap) w := fun _ _ _ _ => rfl
  have hall : Hid (∀ (W : World) (f : Value), Calls Tryz.prog 73 #[.slice none 0 0, .int .i64 d, f] W fun r w' => r = .returned (.bool true) ∧ W = w') := by
    intro W f
    go_enter Tryz.func73, Tryz.ntmps73
    go_wp2
    go_loop [11] (fun i => i = .int .i64 0) (fun _ => 0)
    case atStart => rfl
    case round =>
      subst hrel
      go_wp2
      go_ret
      exact ⟨rfl, rfl⟩
  go_enter Tryz.func55, Tryz.ntmps55
  go_wp2_with fail
  refine (hall.out _ _).mono ?_
  rintro r w' ⟨rfl, rfl⟩
  go_wp2_with fail
  go_ret
  exact ⟨rfl, Kp.refl _ _⟩
theorem armsNil_c (W : World) (d : Int) (f : Value) : Calls Tryz.prog 98 #[.slice none 0 0, .int .i64 d, f] W fun r w' => r = .returned (.bool true) ∧ W = w' := by
  go_enter Tryz.func98, Tryz.ntmps98
  go_wp2
  go_loop [11] (fun i => i = .int .i64 0) (fun _ => 0)
  case atStart => rfl
  case round =>
    subst hrel
    go_wp2
    go_ret
    exact ⟨rfl, rfl⟩
end Go.Proofs.YtebmaclopkocgaaGreatDoor
