import Derived.Test.YtebmaclopkocgaaGreatDoorPt4
import Derived.Maps.Own
import Derived.WideMake
import Derived.Laws.Rows
set_option linter.unusedSimpArgs false
set_option linter.unusedVariables false
namespace Go.Proofs.YtebmaclopkocgaaGreatDoor
open Go.RowKit

/-- An operator: its sign, its level. -/
def opV (s : List UInt8) (l : Int) : Value := .agg #[.string ⟨s.toArray⟩, .int .i64 l]
def opE : Array MapEntry := #[⟨.int .i64 8, opV [111, 114] 1, 0⟩, ⟨.int .i64 9, opV [120, 111, 114] 2, 1⟩, ⟨.int .i64 10, opV [97, 110, 100] 3, 2⟩, ⟨.int .i64 11, opV [61] 4, 3⟩, ⟨.int .i64 12, opV [60, 62] 4, 4⟩, ⟨.int .i64 13, opV [60] 5, 5⟩, ⟨.int .i64 14, opV [60, 61] 5, 6⟩, ⟨.int .i64 15, opV [62] 5, 7⟩, ⟨.int .i64 16, opV [62, 61] 5, 8⟩, ⟨.int .i64 17, opV [43] 6, 9⟩, ⟨.int .i64 18, opV [45] 6, 10⟩, ⟨.int .i64 19, opV [42] 7, 11⟩, ⟨.int .i64 20, opV [47] 7, 12⟩, ⟨.int .i64 21, opV [109, 111, 100] 7, 13⟩]
/-- The operators lie at block g. -/
def OpsAt (g : Nat) (w : World) : Prop := w.heap[g]? = some (.map opE 14)
theorem OpsAt.kp {g : Nat} {w w' : World} (h : OpsAt g w) (k : Kp [] w w') : OpsAt g w' := k.heap h (by simp)
set_option maxRecDepth 100000 in
theorem upd_op (w : World) (o : Obj) (es : Array MapEntry) (n : Nat) (k : Int) (v : Value) (h : Instr.findNow (.int .i64) (.int .i64 k) es.toList 0 = some none) :
    (Instr.mapUpdate 43 (.map (some (w.heap.size + 1))) (.int .i64 k) v).run Tryz.prog ((w.alloc o).alloc (.map es n)) = .ok () ((w.alloc o).alloc (.map (es.push ⟨.int .i64 k, v, n⟩) (n + 1))) := by
  have h1 : ((w.alloc o).alloc (.map es n)).heap[w.heap.size + 1]? = some (.map es n) := by
    have := (MapKept.heap_alloc (w.alloc o) (.map es n)).1
    simpa using this
  have hm : Tryz.prog.underlying 43 = some (.map 3 68) := Tryz.underlying43
  have hk : Tryz.prog.underlying 3 = some (.int .i64) := Tryz.underlying3
  have hc : (Instr.checkKey false 10000 3 (.int .i64 k)).run Tryz.prog ((w.alloc o).alloc (.map es n)) = .ok () ((w.alloc o).alloc (.map es n)) := MapKept.run_checkKey (k := .int .i64 k) hk (by simp [MapKept.IsKey]) false 9999
  simp [Instr.mapUpdate, run_underlying hm, MapKept.run_getObj_map h1, hc, MapKept.run_findKey hk h, MapKept.run_setObj_map _ h1, Result.andThen]
  have hp : ∀ (h : Array Obj) (a b : Obj) (n : Nat), n = h.size → (h.push a).setIfInBounds n b = h.push b := fun h a b n hn => by
    apply Array.ext_getElem?
    intro i
    rw [Array.getElem?_setIfInBounds, Array.getElem?_push, Array.getElem?_push]
    by_cases hi : n = i
    · subst hi; simp [hn]
    · have : i ≠ h.size := fun e => hi (hn.trans e.symm)
      simp [hi, this]
  exact congrArg (fun h => ({ w with heap := h } : World)) (hp _ _ _ _ (by simp))
def zeroOp : Value := .agg #[.string ⟨#[]⟩, .int .i64 0]
set_option maxRecDepth 100000 in
/-- The lookup of an operator. -/
theorem look_op (w : World) (g : Nat) (h0 : OpsAt g w) (k : Int) (i : Nat) (v : Value) (h : Instr.findNow (.int .i64) (.int .i64 k) opE.toList 0 = some (some (i, v))) :
    (Instr.lookup 43 (.map (some g)) (.int .i64 k) true).run Tryz.prog w = .ok (.tuple #[v, .bool true]) w ∧ (Instr.lookup 43 (.map (some g)) (.int .i64 k) false).run Tryz.prog w = .ok v w := by
  have hm : Tryz.prog.underlying 43 = some (.map 3 68) := Tryz.underlying43
  have hk : Tryz.prog.underlying 3 = some (.int .i64) := Tryz.underlying3
  have hc : (Instr.checkKey opE.isEmpty 10000 3 (.int .i64 k)).run Tryz.prog w = .ok () w := MapKept.run_checkKey (k := .int .i64 k) hk (by simp [MapKept.IsKey]) _ 9999
  have h1 : w.heap[g]? = some (.map opE 14) := h0
  constructor
  all_goals simp [Instr.lookup, run_underlying hm, MapKept.run_getObj_map h1, hc, MapKept.run_findKey hk h, Result.andThen]
set_option maxRecDepth 100000 in
theorem look_no (w : World) (g : Nat) (h0 : OpsAt g w) (k : Int) (h : Instr.findNow (.int .i64) (.int .i64 k) opE.toList 0 = some none) :
    (Instr.lookup 43 (.map (some g)) (.int .i64 k) true).run Tryz.prog w = .ok (.tuple #[zeroOp, .bool false]) w := by
  have hm : Tryz.prog.underlying 43 = some (.map 3 68) := Tryz.underlying43
  have hk : Tryz.prog.underlying 3 = some (.int .i64) := Tryz.underlying3
  have hc : (Instr.checkKey opE.isEmpty 10000 3 (.int .i64 k)).run Tryz.prog w = .ok () w := MapKept.run_checkKey (k := .int .i64 k) hk (by simp [MapKept.IsKey]) _ 9999
  have hz : ∀ w, (zeroValue 68).run Tryz.prog w = .ok zeroOp w := fun w => by kernel_rfl
  have h1 : w.heap[g]? = some (.map opE 14) := h0
  simp [Instr.lookup, run_underlying hm, MapKept.run_getObj_map h1, hc, MapKept.run_findKey hk h, hz, Result.andThen]
theorem find_op (k : Int) : ∀ (es : List MapEntry) (i : Nat), (∀ e ∈ es, ∃ j, e.key = .int .i64 j ∧ j ≠ k) → Instr.findNow (.int .i64) (.int .i64 k) es i = some none
  | [], i, _ => rfl
  | e :: es, i, h => by
    obtain ⟨j, hj, hne⟩ := h e (by simp)
    rw [Instr.findNow, hj]
    have hx : (k == j) = false := by simp; exact fun e => hne e.symm
    simp only [Instr.sameNow, hx]
    exact find_op k es (i + 1) (fun e he => h e (by simp [he]))
/-- An operator of two operands is found with its sign and level. -/
theorem look_two (w : World) (g : Nat) (h0 : OpsAt g w) (k : Int) (h8 : 8 ≤ k) (h21 : k ≤ 21) :
    (Instr.lookup 43 (.map (some g)) (.int .i64 k) true).run Tryz.prog w = .ok (.tuple #[opV (sgn k) (lvl k), .bool true]) w ∧ (Instr.lookup 43 (.map (some g)) (.int .i64 k) false).run Tryz.prog w = .ok (opV (sgn k) (lvl k)) w := by
  rcases (show k = 8 ∨ k = 9 ∨ k = 10 ∨ k = 11 ∨ k = 12 ∨ k = 13 ∨ k = 14 ∨ k = 15 ∨ k = 16 ∨ k = 17 ∨ k = 18 ∨ k = 19 ∨ k = 20 ∨ k = 21 by omega) with rfl | rfl | rfl | rfl | rfl | rfl | rfl | rfl | rfl | rfl | rfl | rfl | rfl | rfl
  · exact look_op w g h0 8 0 _ (by kernel_rfl)
  · exact look_op w g h0 9 1 _ (by kernel_rfl)
  · exact look_op w g h0 10 2 _ (by kernel_rfl)
  · exact look_op w g h0 11 3 _ (by kernel_rfl)
  · exact look_op w g h0 12 4 _ (by kernel_rfl)
  · exact look_op w g h0 13 5 _ (by kernel_rfl)
  · exact look_op w g h0 14 6 _ (by kernel_rfl)
  · exact look_op w g h0 15 7 _ (by kernel_rfl)
  · exact look_op w g h0 16 8 _ (by kernel_rfl)
  · exact look_op w g h0 17 9 _ (by kernel_rfl)
  · exact look_op w g h0 18 10 _ (by kernel_rfl)
  · exact look_op w g h0 19 11 _ (by kernel_rfl)
  · exact look_op w g h0 20 12 _ (by kernel_rfl)
  · exact look_op w g h0 21 13 _ (by kernel_rfl)
theorem look_one (w : World) (g : Nat) (h0 : OpsAt g w) (k : Int) (h : ¬ (8 ≤ k ∧ k ≤ 21)) :
    (Instr.lookup 43 (.map (some g)) (.int .i64 k) true).run Tryz.prog w = .ok (.tuple #[zeroOp, .bool false]) w := by
  refine look_no w g h0 k (find_op k _ 0 ?_)
  have hall : ∀ e ∈ opE.toList, ∃ j, e.key = .int .i64 j ∧ 8 ≤ j ∧ j ≤ 21 := by
    intro e he
    simp only [opE, List.mem_cons, List.not_mem_nil, or_false] at he
    rcases he with rfl | rfl | rfl | rfl | rfl | rfl | rfl | rfl | rfl | rfl | rfl | rfl | rfl | rfl
    all_goals exact ⟨_, rfl, by decide, by decide⟩
  intro e he
  obtain ⟨j, h1, h2, h3⟩ := hall e he
  exact ⟨j, h1, fun e => h (e ▸ ⟨h2, h3⟩)⟩

set_option maxRecDepth 100000 in
set_option maxHeartbeats 2000000 in
theorem newExprs_c (w : World) :
    Calls Tryz.prog 14 #[] w fun e w' => ∃ g, e = .returned (.agg #[.map (some g)]) ∧ OpsAt g w' ∧ Kp [] w w' := by
  have hmm := fun (t : TypeId) (w : World) => run_makeMap (P := Tryz.prog) t w
  go_enter Tryz.func14, Tryz.ntmps14
  go_wp2_with (rw [upd_op w]; rotate_left; kernel_rfl)
  refine bodyPost_ret (v := .agg #[.map (some (w.heap.size + 1))]) (results_cell_row rfl _ _ w.heap.size 45 _ (0, 0) _ rfl (heap_alloc2_old w _ _) Tryz.underlying45 rfl (by kernel_rfl)) rfl ?_
  exact ⟨_, rfl, heap_alloc2_new w _ _, ((Kp.refl [] w).alloc _).alloc _⟩
end Go.Proofs.YtebmaclopkocgaaGreatDoor
