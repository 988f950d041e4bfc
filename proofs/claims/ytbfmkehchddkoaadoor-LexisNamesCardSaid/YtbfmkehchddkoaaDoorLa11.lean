import Derived.Test.YtbfmkehchddkoaaDoorLa3
import Derived.Test.YtbfmkehchddkoaaDoorLa10
import Derived.Lib.LaidTab
namespace Go.Proofs.YtbfmkehchddkoaaDoor
open Go.ChangeShapes Go.WideShapes Go.ChangeAt Go.WideMaps Go.WideElems Go.RowKit

theorem gSpc : Tryd.prog.globalNamed "strings.asciiSpace" = some 0 := by kernel_rfl

/-- The door's own heap meets the condition. -/
theorem door_met7 (os : Os) (args : Array Value) : laidMetH Tryd.prog Rows.lexisNamesRow.laid ((World.doorLaid Tryd.prog 86 os).forCall (fun _ _ => 0) ⟨#[], args, []⟩).memory :=
  laidMetH_of_parts3 (fuel := 8) (laidMet_of_run' 8 (by kernel_rfl) (by kernel_rfl)) (by kernel_rfl) (by kernel_rfl)

/-- What the condition gives the walks. -/
theorem amb7_of {W : World} (hsh : W.ShapedOpen Tryd.prog) (h : laidMetH Tryd.prog Rows.lexisNamesRow.laid W) : Amb W ∧ TabOk W := by
  rw [MakeChecks.laidMetH_plain _ _ _ (by kernel_rfl)] at h
  obtain ⟨ps, ⟨g0, t0, cs0, f0, p0, q0, hg0, ht0, hv0, hd0, ⟨g1, t1, cs1, f1, p1, q1, hg1, ht1, hv1, hd1, ⟨g2, t2, cs2, f2, p2, q2, hg2, ht2, hv2, hd2, ⟨g3, t3, cs3, f3, p3, q3, hg3, ht3, hv3, hd3, ⟨g4, t4, cs4, f4, p4, q4, hg4, ht4, hv4, hd4, ⟨g5, t5, cs5, f5, p5, q5, hg5, ht5, hv5, hd5, ⟨g6, t6, cs6, f6, p6, q6, hg6, ht6, hv6, hd6, _, _⟩, _⟩, _⟩, _⟩, _⟩, _⟩, _⟩, _, _⟩ := h
  refine ⟨?_, ?_⟩
  · obtain rfl := Option.some.inj (gRng.symm.trans hg3)
    obtain rfl := Option.some.inj (gSyn.symm.trans hg4)
    obtain rfl := Option.some.inj (tRng.symm.trans ht3)
    obtain rfl := Option.some.inj (tSyn.symm.trans ht4)
    obtain ⟨_, u3, v3, e3, _⟩ := iface_of_trod Tryd.underlying64 hd3
    obtain ⟨_, u4, v4, e4, _⟩ := iface_of_trod Tryd.underlying64 hd4
    obtain ⟨m, hm⟩ := cell_of_shapedOpen_int (g := 2) (t := 3) (zero := #[.int .i64 0]) hsh (of_decide_eq_true (by kernel_rfl)) (by kernel_rfl) rfl (by kernel_rfl) (by kernel_rfl) Tryd.underlying3
    have hc3 := World.var?_cell hg3 hv3 0
    have hc4 := World.var?_cell hg4 hv4 0
    rw [Array.eq_one_of_toList e3] at hc3
    rw [Array.eq_one_of_toList e4] at hc4
    refine ⟨⟨m, hm⟩, ⟨u4, v4, by simpa using hc4⟩, ⟨u3, v3, by simpa using hc3⟩, ?_⟩
    have l2 := World.block_lt_of_cell? W ⟨2, 0, none⟩ hm
    have l3 := World.block_lt_of_cell? W ⟨4, 0, none⟩ (u := .iface u3 v3) (by simpa using hc3)
    have l4 := World.block_lt_of_cell? W ⟨3, 0, none⟩ (u := .iface u4 v4) (by simpa using hc4)
    simp at l2 l3 l4
    omega
  · have hty : (Tryd.prog.globals[0]?).map (·.type) = some 82 := by kernel_rfl
    obtain rfl := Option.some.inj (gSpc.symm.trans hg6)
    obtain rfl := Option.some.inj (hty.symm.trans ht6)
    have hdat : (Rows.laid_strings_asciiSpace : DataW Unit) = Lib.tabData .u8 Lib.asciiSpaceTab := by kernel_rfl
    rw [hdat] at hd6
    unfold TabOk Lib.TabIs
    rw [hv6, ← Lib.cells_of_tab Tryd.underlying82 Tryd.underlying5 (by kernel_rfl) (by kernel_rfl) hd6]
end Go.Proofs.YtbfmkehchddkoaaDoor
