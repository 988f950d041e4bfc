import Derived.Test.YtebmaclopkocgaaGreatDoorPl1
import Derived.Test.YtebmaclopkocgaaGreatDoorCards
import Derived.Test.YtebmaclopkocgaaGreatDoorTie
import Derived.SevenTiedAt
import Derived.LaidMore
import Derived.LaidByTextLater
import Derived.Shelf.Vars
import Derived.PinnedBridge
import Derived.Lib.LaidTab
import Derived.WalkKit
import Derived.OpenShut
import Derived.Stop.Joined
import Derived.Deep.DeepHandedRow
import Derived.ReadAgain
set_option linter.unusedSimpArgs false
set_option linter.unusedVariables false
namespace Go.Proofs.YtebmaclopkocgaaGreatDoor
open Go.ChangeShapes Go.WideShapes Go.ChangeAt Go.WideMaps Go.WideElems Go.RowKit

theorem own : ownKnob Tryz.prog.godebug = none := by kernel_rfl
set_option maxRecDepth 100000 in
theorem kids_of : Kids Tryz.prog (· < Tryz.prog.types.size) := kids_rows (by kernel_rfl) (by kernel_rfl)
set_option maxRecDepth 100000 in
theorem full_of : ∀ t e, t < Tryz.prog.types.size → Tryz.prog.underlying t = some (.slice e) → 0 < Tryz.prog.cellsOf e := slices_full_of _ (by kernel_rfl)
theorem kp_sameAt {W W' : World} (h : Kp [] W W') {p : MemPlace} (hp : p.block < W.heap.size) : W.sameAt W' p := by
  have hb := h.block p.block hp (by simp)
  cases p with
  | cell b off => exact World.cell?_of_block (w := W) hb
  | map b => exact hb
/-- An argument of whatever type reads as it did behind a call that kept the blocks. -/
theorem trod_kept {H : Type} {enc : TypeId × Value → H} {W W' : World} {t : TypeId} {v : Value} {d : DataW H} {ps : List MemPlace} (hT : t < Tryz.prog.types.size)
    (h : DataW.Trod enc Tryz.prog W 0 (fun _ => true) true t v d ps) (hk : Kp [] W W') (hin : ∀ p ∈ ps, p.block < W.heap.size) (sp : Nat → Bool) (hs : ∀ p ∈ ps, sp p.block = true) :
    DataW.Trod enc Tryz.prog W' 0 sp true t v d ps := by
  obtain ⟨n, hn⟩ := h.respare (spare' := sp) kids_of full_of hT hs
  exact ⟨n, DataW.trod_carry _ _ _ _ hn fun p hp => kp_sameAt hk (hin p hp)⟩
/-- What a law's contract (it returns true, and has made new memory alone) owes its row. -/
theorem row_kept {H : Type} {enc : TypeId × Value → H} {f : Func} {s : ChangeSpec} {W W' : World} {args : Array Value} {v : Value} {ds gs : List (DataW H)} {old : List MemPlace}
    (hW : DataW.Whole enc Tryz.prog f.params.toList s.vars false W args.toList ds gs old) (hk : Kp [] W W')
    (hr : ∀ b sp hd, DataW.TrodAll enc Tryz.prog W' b sp hd f.resultTypes.toList (v.resultList f.resultTypes.size) (s.fn H (ds ++ gs)).results [])
    (ha : ∀ sp : Nat → Bool, (∀ p ∈ old, sp p.block = true) → DataW.TrodAll enc Tryz.prog W' 0 sp true f.params.toList args.toList (s.fn H (ds ++ gs)).args old)
    (hv : ∀ sp : Nat → Bool, DataW.TrodVars enc Tryz.prog W' sp s.vars (s.fn H (ds ++ gs)).vars []) :
    s.post enc Tryz.prog f false true false false W args v W' := by
  have hin : ∀ p ∈ old, p.block < W.heap.size := fun p hp => hW.lt p hp
  have hsp : ∀ p ∈ old, (fun b => decide (b < W.heap.size)) p.block = true := fun p hp => decide_eq_true (hin p hp)
  have hkb : W.keptBut W' (fun p => p ∈ old ∧ p ∈ [] ++ (old ++ [])) := World.keptBut_mono (fun p hp => ⟨hp, by simpa using hp⟩) (hk.below.frame (· ∈ old))
  refine ⟨ds, gs, old, [], old, [], hW, hr _ _ _, ha _ hsp, hv _, ?_, fun h => by cases h⟩
  exact World.keptBut_mono (fun p hp => ⟨hp.1, by simpa using hp.2⟩) hkb


/-- The door's own heap, with the table that the form pins. -/
noncomputable def startW (os : Os) : World :=
  { World.doorLaid Tryz.prog 58 os with heap := (World.doorLaid Tryz.prog 58 os).heap.setIfInBounds 2 (.cells (Lib.firstTab.map fun z => Value.int .u8 z).toArray 149 (0, 0)) }
theorem gPow : Tryz.prog.globalNamed "internal/strconv.uint64pow10" = some 4 := by kernel_rfl
theorem tPow : (Tryz.prog.globals[4]?).map (·.type) = some 162 := by kernel_rfl
theorem dPow : (Rows.laid_internal_strconv_uint64pow10 : DataW Unit) = Lib.tabData .u64 Lib.pow10Tab := by kernel_rfl
theorem tabI_of {W : World} {g : Nat} {t : TypeId} {cs : Array Value} {fuel : Nat} {ps : List MemPlace} {enc : TypeId × Value → Unit} {held : Bool} (hg : Tryz.prog.globalNamed "internal/strconv.uint64pow10" = some g) (ht : (Tryz.prog.globals[g]?).map (·.type) = some t)
    (hv : W.var? Tryz.prog "internal/strconv.uint64pow10" = some cs) (hd : DataW.trod enc Tryz.prog W 0 (fun _ => true) held fuel t cs.toList = some (Rows.laid_internal_strconv_uint64pow10, ps)) : TabI W := by
  obtain rfl := Option.some.inj (gPow.symm.trans hg)
  obtain rfl := Option.some.inj (tPow.symm.trans ht)
  rw [dPow] at hd
  unfold TabI Lib.TabIs
  rw [hv, ← Lib.cells_of_tab Tryz.underlying162 Tryz.underlying132 (by kernel_rfl) (by kernel_rfl) hd]
theorem amb_of {W : World} (hsh : W.ShapedOpen Tryz.prog) : Amb W :=
  ⟨cell_of_shapedOpen_int (g := 5) (t := 3) (zero := #[.int .i64 0]) hsh (of_decide_eq_true (by kernel_rfl)) (by kernel_rfl) rfl (by kernel_rfl) (by kernel_rfl) Tryz.underlying3⟩
end Go.Proofs.YtebmaclopkocgaaGreatDoor
