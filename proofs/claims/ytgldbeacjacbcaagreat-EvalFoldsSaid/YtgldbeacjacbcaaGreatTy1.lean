import Derived.Test.YtgldbeacjacbcaaGreatTx9
import Derived.Maps.AppendAt
import Derived.RegionTactic
import Derived.Deep.RegionWith
set_option linter.unusedSimpArgs false
set_option linter.unusedVariables false
namespace Go.Proofs.YtgldbeacjacbcaaGreat
open Go.RowKit

set_option maxRecDepth 100000 in
theorem isC_c (e : Ex) (m : Int) (q : Option Addr) (len cap : Nat) (w : World) :
    Calls Tryz.prog 56 #[.agg #[.int .i64 e.op, .int .i64 e.kind, .int .i64 e.num, .string e.s, .string e.field, .slice q len cap], .int .i64 m] w fun r w' => r = .returned (.bool (isC e m)) ∧ Gr w w' := by
  unfold isC
  generalize e.op = op
  generalize e.kind = kind
  generalize e.num = n
  generalize e.s = s
  generalize e.field = f
  go_enter Tryz.func56, Tryz.ntmps56
  go_wp2_with fail
  all_goals (go_ret; refine ⟨ret_bool ?_, (Gr.refl _).cells _ _⟩; simp [*])
set_option maxRecDepth 100000 in
theorem result_1 (op v n f : Int) (g c : Nat) (w : World) (h0 : w.cell? ⟨g, 0, none⟩ = some (.int .i64 v))
    (hu : Hid (∀ w : World, Calls Tryz.prog 84 #[.int .i64 op, .int .i64 v] w fun e w' => e = .returned (.tuple #[.int .i64 n, .int .i64 f]) ∧ Gr w w')) :
    Calls Tryz.prog 58 #[.int .i64 op, .slice (some ⟨g, 0, none⟩) 1 c] w fun e w' => e = .returned (.tuple #[.int .i64 n, .int .i64 0]) ∧ Gr w w' := by
  go_enter Tryz.func58, Tryz.ntmps58
  go_wp2_with fail
  refine (hu.out _).mono ?_
  rintro e w1 ⟨rfl, hg⟩
  go_wp2_with fail
  go_ret2
  exact ⟨rfl, hg⟩
set_option maxRecDepth 100000 in
theorem result_2 (op v x n f e0 : Int) (g c : Nat) (w : World) (h0 : w.cell? ⟨g, 0, none⟩ = some (.int .i64 v)) (h1 : w.cell? ⟨g, 1, none⟩ = some (.int .i64 x))
    (hu : Hid (∀ w : World, Calls Tryz.prog 10 #[.int .i64 op, .int .i64 v, .int .i64 x] w fun e w' => e = .returned (.tuple #[.int .i64 n, .int .i64 f, .int .i64 e0]) ∧ Gr w w')) :
    Calls Tryz.prog 58 #[.int .i64 op, .slice (some ⟨g, 0, none⟩) 2 c] w fun e w' => e = .returned (.tuple #[.int .i64 n, .int .i64 f]) ∧ Gr w w' := by
  go_enter Tryz.func58, Tryz.ntmps58
  go_wp2
  go_region_with (go_at_call 10; refine (hu.out _).mono ?_; rintro e w1 ⟨rfl, hg⟩)
  all_goals
    go_wp2
    go_ret2
    exact ⟨rfl, ((Gr.refl w).drew).trans hg⟩
end Go.Proofs.YtgldbeacjacbcaaGreat
