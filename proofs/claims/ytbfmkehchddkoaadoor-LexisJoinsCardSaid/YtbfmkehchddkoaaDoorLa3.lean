import Derived.Test.YtbfmkehchddkoaaDoorLa2
import Derived.ProofKit
import Derived.LaidMore
import Derived.OpenShut
import Derived.Stop.Joined
import Derived.Shelf.Vars
import Derived.Test.YtbfmkehchddkoaaDoorTie
namespace Go.Proofs.YtbfmkehchddkoaaDoor
open Go.ChangeShapes Go.WideShapes Go.ChangeAt Go.WideMaps Go.WideElems Go.RowKit

theorem own : ownKnob Tryd.prog.godebug = none := by kernel_rfl
theorem gMax : Tryd.prog.globalNamed "internal/bytealg.MaxLen" = some 2 := by kernel_rfl
theorem gSyn : Tryd.prog.globalNamed "strconv.ErrSyntax" = some 3 := by kernel_rfl
theorem gRng : Tryd.prog.globalNamed "strconv.ErrRange" = some 4 := by kernel_rfl
theorem tSyn : (Tryd.prog.globals[3]?).map (·.type) = some 64 := by kernel_rfl
theorem tRng : (Tryd.prog.globals[4]?).map (·.type) = some 64 := by kernel_rfl

/-- The door's own heap meets the condition. -/
theorem door_met (os : Os) (args : Array Value) : laidMetH Tryd.prog Rows.lexisPlacesRow.laid ((World.doorLaid Tryd.prog 86 os).forCall (fun _ _ => 0) ⟨#[], args, []⟩).memory :=
  laidMetH_of_parts3 (fuel := 8) (laidMet_of_run' 8 (by kernel_rfl) (by kernel_rfl)) (by kernel_rfl) (by kernel_rfl)

/-- What the condition gives the walks. -/
theorem amb_of {W : World} (hsh : W.ShapedOpen Tryd.prog) (h : laidMetH Tryd.prog Rows.lexisPlacesRow.laid W) : Amb W := by
  rw [MakeChecks.laidMetH_plain _ _ _ (by kernel_rfl)] at h
  obtain ⟨ps, ⟨g0, t0, cs0, f0, p0, q0, hg0, ht0, hv0, hd0, ⟨g1, t1, cs1, f1, p1, q1, hg1, ht1, hv1, hd1, ⟨g2, t2, cs2, f2, p2, q2, hg2, ht2, hv2, hd2, ⟨g3, t3, cs3, f3, p3, q3, hg3, ht3, hv3, hd3, ⟨g4, t4, cs4, f4, p4, q4, hg4, ht4, hv4, hd4, _, _⟩, _⟩, _⟩, _⟩, _⟩, _, _⟩ := h
  obtain rfl := Option.some.inj (gRng.symm.trans hg3)
  obtain rfl := Option.some.inj (gSyn.symm.trans hg4)
  obtain rfl := Option.some.inj (tRng.symm.trans ht3)
  obtain rfl := Option.some.inj (tSyn.symm.trans ht4)
  obtain ⟨_, u3, v3, e3, _⟩ := iface_of_trod Tryd.underlying64 hd3
  obtain ⟨_, u4, v4, e4, _⟩ := iface_of_trod Tryd.underlying64 hd4
  obtain ⟨m, hm⟩ := cell_of_shapedOpen_int (g := 2) (t := 3) (zero := #[.int .i64 0]) hsh (of_decide_eq_true (by kernel_rfl)) (by kernel_rfl) rfl (by kernel_rfl) (by kernel_rfl) Tryd.underlying3
  have hc3 := World.var?_cell hg3 hv3 0
  have hc4 := World.var?_cell hg4 hv4 0
  rw [Array.eq_one_of_toList e3] at hc3
  rw [Array.eq_one_of_toList e4] at hc4
  refine ⟨⟨m, hm⟩, ⟨u4, v4, by simpa using hc4⟩, ⟨u3, v3, by simpa using hc3⟩, ?_⟩
  have l2 := World.block_lt_of_cell? W ⟨2, 0, none⟩ hm
  have l3 := World.block_lt_of_cell? W ⟨4, 0, none⟩ (u := .iface u3 v3) (by simpa using hc3)
  have l4 := World.block_lt_of_cell? W ⟨3, 0, none⟩ (u := .iface u4 v4) (by simpa using hc4)
  simp at l2 l3 l4
  omega


/-- What a law's contract (it returns true, and has made new memory alone) owes its row. -/
theorem row_kept {H : Type} {enc : TypeId × Value → H} {f : Func} {s : ChangeSpec} {W W' : World} {args : Array Value} {v : Value} {ds gs : List (DataW H)} {old : List MemPlace}
    (hW : DataW.Whole enc Tryd.prog f.params.toList s.vars false W args.toList ds gs old) (hk : Kp [] W W')
    (hr : ∀ b sp hd, DataW.TrodAll enc Tryd.prog W' b sp hd f.resultTypes.toList (v.resultList f.resultTypes.size) (s.fn H (ds ++ gs)).results [])
    (ha : ∀ sp : Nat → Bool, (∀ p ∈ old, sp p.block = true) → DataW.TrodAll enc Tryd.prog W' 0 sp true f.params.toList args.toList (s.fn H (ds ++ gs)).args old)
    (hv : ∀ sp : Nat → Bool, DataW.TrodVars enc Tryd.prog W' sp s.vars (s.fn H (ds ++ gs)).vars []) :
    s.post enc Tryd.prog f false true false false W args v W' := by
  have hin : ∀ p ∈ old, p.block < W.heap.size := fun p hp => hW.lt p hp
  have hsp : ∀ p ∈ old, (fun b => decide (b < W.heap.size)) p.block = true := fun p hp => decide_eq_true (hin p hp)
  have hkb : W.keptBut W' (fun p => p ∈ old ∧ p ∈ [] ++ (old ++ [])) := World.keptBut_mono (fun p hp => ⟨hp, by simpa using hp⟩) (hk.below.frame (· ∈ old))
  refine ⟨ds, gs, old, [], old, [], hW, hr _ _ _, ha _ hsp, hv _, ?_, fun h => by cases h⟩
  exact World.keptBut_mono (fun p hp => ⟨hp.1, by simpa using hp.2⟩) hkb
end Go.Proofs.YtbfmkehchddkoaaDoor
