import Derived.Test.YtieacfenoomaeaaQa1
import Derived.RegionTactic
import Derived.Deep.RegionWith
import Derived.Deep.RegionHeld3
set_option linter.unusedSimpArgs false
set_option linter.unusedVariables false
namespace Go.Proofs.Ytieacfenoomaeaa
open Go.RowKit

theorem pre_bd {b : Int} (hb : -2147483648 ≤ b ∧ b ≤ 2147483647) : 0 ≤ pre b ∧ pre b ≤ 2147483647 := by unfold pre; omega
theorem gone_bd {b e now : Int} (hb : -2147483648 ≤ b ∧ b ≤ 2147483647) : 0 ≤ gone b e now ∧ gone b e now ≤ 2147483647 := by unfold gone; omega
/-- The cells of a frame. -/
def FrAt (w : World) (g : Nat) (a b c d e f : Int) : Prop := w.cell? ⟨g, 0, none⟩ = some (.int .i64 a) ∧ w.cell? ⟨g, 1, none⟩ = some (.int .i64 b) ∧ w.cell? ⟨g, 2, none⟩ = some (.int .i64 c) ∧ w.cell? ⟨g, 3, none⟩ = some (.int .i64 d) ∧ w.cell? ⟨g, 4, none⟩ = some (.int .i64 e) ∧ w.cell? ⟨g, 5, none⟩ = some (.int .i64 f)
theorem Blk.fr {w : World} {g : Nat} {t : TypeId} {a b c d e f : Int} (h : Blk w g t (frCells a b c d e f)) : FrAt w g a b c d e f :=
  ⟨h.cell 0 rfl, h.cell 1 rfl, h.cell 2 rfl, h.cell 3 rfl, h.cell 4 rfl, h.cell 5 rfl⟩
set_option maxRecDepth 100000 in
set_option maxHeartbeats 1000000 in
theorem elapsed_c (a b c d e f now : Int) (w : World) (he : -2147483648 ≤ e ∧ e ≤ 2147483647) (hn : 0 ≤ now ∧ now ≤ 1000000000) :
    Calls Try.prog 72 #[fr a b c d e f, .int .i64 now] w fun r w' => r = .returned (.int .i64 (gone b e now)) ∧ Kp [] w w' := by
  have hB := Blk.new w 65 (frCells a b c d e f)
  obtain ⟨W1, hW1⟩ : ∃ W1, w.alloc (.cells (frCells a b c d e f) 65) = W1 := ⟨_, rfl⟩
  have hk1 : Kp [] w W1 := hW1 ▸ (Kp.refl [] w).alloc _
  rw [hW1] at hB
  have hall : Hid (∀ W', Kp [] W1 W' → FrAt W' w.heap.size a b c d e f) := fun W' k => (hB.kp k (by simp)).fr
  have hw : IntKind.i64.wrap (now - e) = now - e := IntWalk.i64_in _ (by omega)
  have hw2 : wrap64 (now - e) = now - e := IntWalk.wrap64_in _ (by omega)
  have hp := Lib.hid (fun W => preset_c a b c d e f W)
  unfold frCells at hW1
  unfold fr at hp ⊢
  replace hB := Lib.hid hB
  replace hW1 := Lib.hid hW1
  replace hk1 := Lib.hid hk1
  go_enter Try.func72, Try.ntmps72
  go_wp2_with fail
  rw [hW1.out]
  obtain ⟨gx, hgx⟩ : ∃ x, w.heap.size = x := ⟨_, rfl⟩
  rw [hgx] at hall ⊢
  unfold FrAt at hall
  have hp2 := Lib.hid (hp.out W1.drew)
  go_region_held3 (fun W' => W'.cell? ⟨gx, 0, none⟩ = some (.int .i64 a) ∧ W'.cell? ⟨gx, 1, none⟩ = some (.int .i64 b) ∧ W'.cell? ⟨gx, 2, none⟩ = some (.int .i64 c) ∧ W'.cell? ⟨gx, 3, none⟩ = some (.int .i64 d) ∧ W'.cell? ⟨gx, 4, none⟩ = some (.int .i64 e) ∧ W'.cell? ⟨gx, 5, none⟩ = some (.int .i64 f))
    (first | exact hall.out _ hk5.out | exact hall.out _ (Kp.refl _ _) | exact hall.out _ (Kp.refl _ _).drew)
    (first | (go_at_call 33; refine hp2.out.mono ?_; rintro r w5 ⟨rfl, hk5⟩; replace hk5 := Lib.hid ((Kp.refl [] W1).drew.trans hk5)))
  all_goals
    go_wp2_with fail
    go_ret
    exact ⟨rfl, hk1.out.trans hk5.out⟩
end Go.Proofs.Ytieacfenoomaeaa
