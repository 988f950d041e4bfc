/-
  For every expression the law EvalFolds returns true: Fold returns the expression in which operators of constants are replaced, or ErrArg. No condition.
-/
import Derived.Test.YtgldbeacjacbcaaGreatSfD
import Derived.Test.YtgldbeacjacbcaaGreatTz6
import Derived.WalkKit
import Derived.LaidMore
import Derived.Shelf.Vars
import Derived.Deep.DeepHandedRow
import Derived.Lib.LaidTab
set_option linter.unusedSimpArgs false
set_option linter.unusedVariables false
namespace Go.Proofs.YtgldbeacjacbcaaGreat.evalFolds
open Go.ChangeShapes Go.WideShapes Go.ChangeAt Go.RowKit

theorem own : ownKnob Tryz.prog.godebug = none := by kernel_rfl
set_option maxRecDepth 100000 in
theorem kids_of : Kids Tryz.prog (· < Tryz.prog.types.size) := kids_rows (by kernel_rfl) (by kernel_rfl)
set_option maxRecDepth 100000 in
theorem full_of : ∀ t e, t < Tryz.prog.types.size → Tryz.prog.underlying t = some (.slice e) → 0 < Tryz.prog.cellsOf e := slices_full_of _ (by kernel_rfl)
theorem kp_sameAt {W W' : World} (h : Kp [] W W') {p : MemPlace} (hp : p.block < W.heap.size) : W.sameAt W' p := by
  have hb := h.block p.block hp (by simp)
  cases p with
  | cell b off => exact World.cell?_of_block (w := W) hb
  | map b => exact hb
/-- An argument of whatever type reads as it did behind a call that kept the blocks. -/
theorem trod_kept {H : Type} {enc : TypeId × Value → H} {W W' : World} {t : TypeId} {v : Value} {d : DataW H} {ps : List MemPlace} (hT : t < Tryz.prog.types.size)
    (h : DataW.Trod enc Tryz.prog W 0 (fun _ => true) true t v d ps) (hk : Kp [] W W') (hin : ∀ p ∈ ps, p.block < W.heap.size) (sp : Nat → Bool) (hs : ∀ p ∈ ps, sp p.block = true) :
    DataW.Trod enc Tryz.prog W' 0 sp true t v d ps := by
  obtain ⟨n, hn⟩ := h.respare (spare' := sp) kids_of full_of hT hs
  exact ⟨n, DataW.trod_carry _ _ _ _ hn fun p hp => kp_sameAt hk (hin p hp)⟩
/-- What a law's contract (it returns true, and has made new memory alone) owes its row. -/
theorem row_kept {H : Type} {enc : TypeId × Value → H} {f : Func} {s : ChangeSpec} {W W' : World} {args : Array Value} {v : Value} {ds gs : List (DataW H)} {old : List MemPlace}
    (hW : DataW.Whole enc Tryz.prog f.params.toList s.vars false W args.toList ds gs old) (hk : Kp [] W W')
    (hr : ∀ b sp hd, DataW.TrodAll enc Tryz.prog W' b sp hd f.resultTypes.toList (v.resultList f.resultTypes.size) (s.fn H (ds ++ gs)).results [])
    (ha : ∀ sp : Nat → Bool, (∀ p ∈ old, sp p.block = true) → DataW.TrodAll enc Tryz.prog W' 0 sp true f.params.toList args.toList (s.fn H (ds ++ gs)).args old)
    (hv : ∀ sp : Nat → Bool, DataW.TrodVars enc Tryz.prog W' sp s.vars (s.fn H (ds ++ gs)).vars []) :
    s.post enc Tryz.prog f false true false false W args v W' := by
  have hin : ∀ p ∈ old, p.block < W.heap.size := fun p hp => hW.lt p hp
  have hsp : ∀ p ∈ old, (fun b => decide (b < W.heap.size)) p.block = true := fun p hp => decide_eq_true (hin p hp)
  have hkb : W.keptBut W' (fun p => p ∈ old ∧ p ∈ [] ++ (old ++ [])) := World.keptBut_mono (fun p hp => ⟨hp, by simpa using hp⟩) (hk.below.frame (· ∈ old))
  refine ⟨ds, gs, old, [], old, [], hW, hr _ _ _, ha _ hsp, hv _, ?_, fun h => by cases h⟩
  exact World.keptBut_mono (fun p hp => ⟨hp.1, by simpa using hp.2⟩) hkb

/-- What the world's shape gives: the library's variable holds some number. -/
theorem amb_of {W : World} (hsh : W.ShapedOpen Tryz.prog) : Amb W :=
  ⟨cell_of_shapedOpen_int (g := 0) (t := 3) (zero := #[.int .i64 0]) hsh (of_decide_eq_true (by kernel_rfl)) (by kernel_rfl) rfl (by kernel_rfl) (by kernel_rfl) Tryz.underlying3⟩

def arg0 : Value := .agg #[.int .i64 0, .int .i64 0, .int .i64 0, .string ⟨#[]⟩, .string ⟨#[]⟩, .slice none 0 0]
set_option maxRecDepth 100000 in
theorem lifted (os : Os) (started : os.Started) (H : Type) (enc : TypeId × Value → H) (F : Stop.Interp) :
    ReturnsInHanded {} Tryz.checked os 3 .any ((OpenSpec.ofChange Rows.evalFoldsSpec).preRow enc Tryz.prog Tryz.f3 Rows.evalFoldsRow.domain false Rows.evalFoldsRow.laid) (((OpenSpec.ofChange Rows.evalFoldsSpec).at F).post enc Tryz.prog Tryz.f3 false true false false) := by
  obtain ⟨places, hx⟩ : ∃ places, DataW.whole enc Tryz.prog ((World.holding Tryz.prog os ⟨#[], #[arg0], []⟩).forCall (fun _ _ => 0) ⟨#[], #[arg0], []⟩).memory Tryz.f3.params.toList Rows.evalFoldsSpec.vars false #[arg0].toList 8 = some ([.agg [.lit (.int .i64 0), .lit (.int .i64 0), .lit (.int .i64 0), .lit (.string []), .lit (.string []), .nil]], [], places) := ⟨[], by kernel_rfl⟩
  refine returnsInHanded_of_row (C := Tryz.checked) (s := OpenSpec.ofChange Rows.evalFoldsSpec) own started (by kernel_rfl) Tryz.func3
    (witness_row_at (enc := enc) (C := Tryz.checked) false (World.holding Tryz.prog os ⟨#[], #[arg0], []⟩) #[arg0] rfl (by kernel_rfl) (by kernel_rfl) (by kernel_rfl)
      (OpenSpec.preRow_of_cond 8 hx (by kernel_rfl) (fun k hk => by cases hk) (by kernel_rfl) (laidMet_of_run' 8 (by kernel_rfl) (by kernel_rfl)))) ?_
  intro W base args ds gs before hval0 hW _ _ hsz _ hsh _
  have hval : ∀ (j : Nat) t v, Tryz.f3.params[j]? = some t → args[j]? = some v → Value.okWide Tryz.prog W .any base t v := hval0
  have hW' := hW
  obtain ⟨p, q, hA0, hV, rfl, hfz, hnd⟩ := hW
  have hA : DataW.TrodAll enc Tryz.prog W 0 (fun _ => true) true Tryz.f3.params.toList args.toList ds p := hA0
  rw [Tryz.params3] at hA hval
  obtain ⟨v0, vs0, d0, ds0, p0, q0, hargs, rfl, rfl, h0, r0⟩ := trodAll_cons hA
  obtain ⟨rfl, rfl, rfl⟩ := trodAll_nil r0
  obtain rfl : args = #[v0] := by cases args; simp_all
  obtain ⟨rfl, rfl⟩ := trodVars_none hV
  obtain ⟨cs, rfl, hcs⟩ := okWide_struct Tryz.underlying24 (hval 0 24 v0 rfl rfl)
  clear hA0 hval0
  have hin : ∀ p1 ∈ p0, p1.block < W.heap.size := fun p1 hp => hW'.lt p1 (by simpa using hp)
  simp only [List.append_nil] at hW'
  obtain ⟨fuel, hf⟩ := h0
  have hwd : ∀ n ∈ d0.weights Tryz.prog 24, n ≤ reachBytes := fun n hn => by
    have := List.all_eq_true.1 hsz n (DataW.weights_mem_each (j := 0) (t := 24) (d := d0) (by rw [Tryz.params3]; rfl) rfl n hn)
    simpa using this
  obtain ⟨e, he, hwide, hfit⟩ := open_ex _ _ _ _ hf (Nat.lt_succ_self _) hwd
  obtain ⟨u, hu, hs⟩ := exAt_iff.1 he
  have hcs2 : (Value.agg cs) = exVal e u := by
    show Value.agg cs = Value.agg #[_, _, _, _, _, _]
    congr 1
    apply Array.toList_inj.1
    exact hu
  rw [hcs2]
  refine (folds_c e u W hs (amb_of hsh) hfit hwide).mono fun r W' ⟨hr, hk⟩ => ?_
  subst hr
  refine ⟨_, rfl, ?_⟩
  rw [← hcs2]
  exact row_kept hW' hk (fun _ _ _ => trodAll_cons_mk (shut_bool Tryz.underlying4 _) trodAll_mk0) (fun sp hsp => by
    have h2 := trodAll_cons_mk (trod_kept (of_decide_eq_true (by kernel_rfl)) ⟨fuel, hf⟩ hk hin sp (fun p hp => hsp p (by simpa using hp))) (trodAll_mk0 (enc := enc) (P := Tryz.prog) (w := W') (base := 0) (spare := sp) (held := true))
    have h4 : DataW.TrodAll enc Tryz.prog W' 0 sp true [24] [.agg cs] [d0] p0 := by simpa using h2
    exact h4) (fun _ => rfl)

theorem proved : Rows.EvalFoldsSaid :=
  OpenClaim.holds_of_cond 3 Tryz.f3 rfl rfl rfl rfl rfl rfl rfl ⟨rfl, rfl, rfl, rfl, rfl⟩ rfl rfl rfl rfl rfl (by kernel_rfl) Tryz.func3 (by kernel_rfl)
    (of_decide_eq_true (by kernel_rfl)) (by unfold Func.isWrapper; first | (rw [if_pos (by decide +kernel)]; kernel_rfl) | (rw [if_neg (by decide +kernel)]; exact ⟨rfl, rfl⟩))
    (fun os started H enc _ F => by rw [OpenClaim.pre_eq_preRow]; exact lifted os started H enc F)
#print axioms proved
end Go.Proofs.YtgldbeacjacbcaaGreat.evalFolds
