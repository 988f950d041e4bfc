import Derived.Test.YtieacfenoomaeaaQa6
import Derived.Maps.Own
import Derived.WideMake
import Derived.Laws.EntriesVeiled
set_option linter.unusedSimpArgs false
set_option linter.unusedVariables false
namespace Go.Proofs.Ytieacfenoomaeaa
open Go.RowKit

/-- The names of the standard blocks. -/
def nm : List (List UInt8) := [[116, 111, 110], [116, 111, 102], [116, 112], [99, 116, 117], [99, 116, 100], [115, 114], [114, 115], [114, 116, 114, 105, 103], [102, 116, 114, 105, 103]]
def nmb (i : Nat) : ByteArray := ⟨(nm.getD i []).toArray⟩
def blE : Array MapEntry := #[⟨.string ⟨#[116, 111, 110]⟩, .func (.func 49) #[] #[], 0⟩, ⟨.string ⟨#[116, 111, 102]⟩, .func (.func 50) #[] #[], 1⟩, ⟨.string ⟨#[116, 112]⟩, .func (.func 51) #[] #[], 2⟩, ⟨.string ⟨#[99, 116, 117]⟩, .func (.func 52) #[] #[], 3⟩, ⟨.string ⟨#[99, 116, 100]⟩, .func (.func 53) #[] #[], 4⟩, ⟨.string ⟨#[115, 114]⟩, .func (.func 54) #[] #[], 5⟩, ⟨.string ⟨#[114, 115]⟩, .func (.func 55) #[] #[], 6⟩, ⟨.string ⟨#[114, 116, 114, 105, 103]⟩, .func (.func 56) #[] #[], 7⟩, ⟨.string ⟨#[102, 116, 114, 105, 103]⟩, .func (.func 57) #[] #[], 8⟩]
def stE : Array MapEntry := #[⟨.string ⟨#[116, 111, 110]⟩, .func (.func 78) #[] #[], 0⟩, ⟨.string ⟨#[116, 111, 102]⟩, .func (.func 78) #[] #[], 1⟩, ⟨.string ⟨#[116, 112]⟩, .func (.func 78) #[] #[], 2⟩, ⟨.string ⟨#[99, 116, 117]⟩, .func (.func 79) #[] #[], 3⟩, ⟨.string ⟨#[99, 116, 100]⟩, .func (.func 80) #[] #[], 4⟩, ⟨.string ⟨#[115, 114]⟩, .func (.func 81) #[] #[], 5⟩, ⟨.string ⟨#[114, 115]⟩, .func (.func 82) #[] #[], 6⟩, ⟨.string ⟨#[114, 116, 114, 105, 103]⟩, .func (.func 83) #[] #[], 7⟩, ⟨.string ⟨#[102, 116, 114, 105, 103]⟩, .func (.func 83) #[] #[], 8⟩]
theorem push_set (w : World) (a b : Obj) : ({ w.alloc a with heap := (w.alloc a).heap.setIfInBounds w.heap.size b } : World) = w.alloc b := by
  have h : (w.heap.push a).setIfInBounds w.heap.size b = w.heap.push b := by
    apply Array.ext_getElem?
    intro i
    rw [Array.getElem?_setIfInBounds, Array.getElem?_push, Array.getElem?_push]
    by_cases hi : w.heap.size = i
    · subst hi; simp
    · have : i ≠ w.heap.size := fun e => hi e.symm
      simp [hi, this]
  exact congrArg (fun h => ({ w with heap := h } : World)) h
set_option maxRecDepth 100000 in
theorem upd_bl (w : World) (es : Array MapEntry) (n : Nat) (k : ByteArray) (v : Value) (h : Instr.findNow .string (.string k) es.toList 0 = some none) :
    (Instr.mapUpdate 72 (.map (some w.heap.size)) (.string k) v).run Try.prog (w.alloc (.map es n)) = .ok () (w.alloc (.map (es.push ⟨.string k, v, n⟩) (n + 1))) := by
  have h1 : (w.alloc (.map es n)).heap[w.heap.size]? = some (.map es n) := (MapKept.heap_alloc w (.map es n)).1
  have hm : Try.prog.underlying 72 = some (.map 9 63) := Try.underlying72
  have hk : Try.prog.underlying 9 = some .string := Try.underlying9
  have hc : (Instr.checkKey false 10000 9 (.string k)).run Try.prog (w.alloc (.map es n)) = .ok () (w.alloc (.map es n)) := MapKept.run_checkKey (k := .string k) hk (by simp [MapKept.IsKey]) false 9999
  simp [Instr.mapUpdate, run_underlying hm, MapKept.run_getObj_map h1, hc, MapKept.run_findKey hk h, MapKept.run_setObj_map _ h1, Result.andThen]
  exact push_set w _ _
set_option maxRecDepth 100000 in
theorem look_bl (w : World) (g : Nat) (h0 : w.heap[g]? = some (.map blE 9)) (k : ByteArray) (i : Nat) (v : Value) (h : Instr.findNow .string (.string k) blE.toList 0 = some (some (i, v))) :
    (Instr.lookup 72 (.map (some g)) (.string k) true).run Try.prog w = .ok (.tuple #[v, .bool true]) w := by
  have hm : Try.prog.underlying 72 = some (.map 9 63) := Try.underlying72
  have hk : Try.prog.underlying 9 = some .string := Try.underlying9
  have hc : (Instr.checkKey blE.isEmpty 10000 9 (.string k)).run Try.prog w = .ok () w := MapKept.run_checkKey (k := .string k) hk (by simp [MapKept.IsKey]) _ 9999
  simp [Instr.lookup, run_underlying hm, MapKept.run_getObj_map h0, hc, MapKept.run_findKey hk h, Result.andThen]
set_option maxRecDepth 100000 in
theorem lookno_bl (w : World) (g : Nat) (h0 : w.heap[g]? = some (.map blE 9)) (k : ByteArray) (h : Instr.findNow .string (.string k) blE.toList 0 = some none) :
    (Instr.lookup 72 (.map (some g)) (.string k) true).run Try.prog w = .ok (.tuple #[.nilFunc, .bool false]) w := by
  have hm : Try.prog.underlying 72 = some (.map 9 63) := Try.underlying72
  have hk : Try.prog.underlying 9 = some .string := Try.underlying9
  have hc : (Instr.checkKey blE.isEmpty 10000 9 (.string k)).run Try.prog w = .ok () w := MapKept.run_checkKey (k := .string k) hk (by simp [MapKept.IsKey]) _ 9999
  have hz : ∀ w, (zeroValue 63).run Try.prog w = .ok .nilFunc w := fun w => by kernel_rfl
  simp [Instr.lookup, run_underlying hm, MapKept.run_getObj_map h0, hc, MapKept.run_findKey hk h, hz, Result.andThen]
set_option maxRecDepth 100000 in
theorem upd_st (w : World) (es : Array MapEntry) (n : Nat) (k : ByteArray) (v : Value) (h : Instr.findNow .string (.string k) es.toList 0 = some none) :
    (Instr.mapUpdate 101 (.map (some w.heap.size)) (.string k) v).run Try.prog (w.alloc (.map es n)) = .ok () (w.alloc (.map (es.push ⟨.string k, v, n⟩) (n + 1))) := by
  have h1 : (w.alloc (.map es n)).heap[w.heap.size]? = some (.map es n) := (MapKept.heap_alloc w (.map es n)).1
  have hm : Try.prog.underlying 101 = some (.map 9 99) := Try.underlying101
  have hk : Try.prog.underlying 9 = some .string := Try.underlying9
  have hc : (Instr.checkKey false 10000 9 (.string k)).run Try.prog (w.alloc (.map es n)) = .ok () (w.alloc (.map es n)) := MapKept.run_checkKey (k := .string k) hk (by simp [MapKept.IsKey]) false 9999
  simp [Instr.mapUpdate, run_underlying hm, MapKept.run_getObj_map h1, hc, MapKept.run_findKey hk h, MapKept.run_setObj_map _ h1, Result.andThen]
  exact push_set w _ _
set_option maxRecDepth 100000 in
theorem look_st (w : World) (g : Nat) (h0 : w.heap[g]? = some (.map stE 9)) (k : ByteArray) (i : Nat) (v : Value) (h : Instr.findNow .string (.string k) stE.toList 0 = some (some (i, v))) :
    (Instr.lookup 101 (.map (some g)) (.string k) true).run Try.prog w = .ok (.tuple #[v, .bool true]) w := by
  have hm : Try.prog.underlying 101 = some (.map 9 99) := Try.underlying101
  have hk : Try.prog.underlying 9 = some .string := Try.underlying9
  have hc : (Instr.checkKey stE.isEmpty 10000 9 (.string k)).run Try.prog w = .ok () w := MapKept.run_checkKey (k := .string k) hk (by simp [MapKept.IsKey]) _ 9999
  simp [Instr.lookup, run_underlying hm, MapKept.run_getObj_map h0, hc, MapKept.run_findKey hk h, Result.andThen]
set_option maxRecDepth 100000 in
theorem lookno_st (w : World) (g : Nat) (h0 : w.heap[g]? = some (.map stE 9)) (k : ByteArray) (h : Instr.findNow .string (.string k) stE.toList 0 = some none) :
    (Instr.lookup 101 (.map (some g)) (.string k) true).run Try.prog w = .ok (.tuple #[.nilFunc, .bool false]) w := by
  have hm : Try.prog.underlying 101 = some (.map 9 99) := Try.underlying101
  have hk : Try.prog.underlying 9 = some .string := Try.underlying9
  have hc : (Instr.checkKey stE.isEmpty 10000 9 (.string k)).run Try.prog w = .ok () w := MapKept.run_checkKey (k := .string k) hk (by simp [MapKept.IsKey]) _ 9999
  have hz : ∀ w, (zeroValue 99).run Try.prog w = .ok .nilFunc w := fun w => by kernel_rfl
  simp [Instr.lookup, run_underlying hm, MapKept.run_getObj_map h0, hc, MapKept.run_findKey hk h, hz, Result.andThen]
set_option maxRecDepth 100000 in
set_option maxHeartbeats 1000000 in
theorem bl_c (w : World) : Calls Try.prog 35 #[] w fun r w' => r = .returned (.map (some w.heap.size)) ∧ w' = w.alloc (.map blE 9) := by
  have hmm := fun (t : TypeId) (w : World) => run_makeMap (P := Try.prog) t w
  go_enter Try.func35, Try.ntmps35
  go_wp2_with (rw [upd_bl w]; rotate_left; kernel_rfl)
  go_ret
  exact ⟨rfl, rfl⟩
set_option maxRecDepth 100000 in
set_option maxHeartbeats 1000000 in
theorem st_c (w : World) : Calls Try.prog 67 #[] w fun r w' => r = .returned (.map (some w.heap.size)) ∧ w' = w.alloc (.map stE 9) := by
  have hmm := fun (t : TypeId) (w : World) => run_makeMap (P := Try.prog) t w
  go_enter Try.func67, Try.ntmps67
  go_wp2_with (rw [upd_st w]; rotate_left; kernel_rfl)
  go_ret
  exact ⟨rfl, rfl⟩
/-- A name that none of them has. -/
theorem find_no (k : ByteArray) : ∀ (es : List MapEntry) (i : Nat), (∀ e ∈ es, ∃ j, e.key = .string j ∧ j ≠ k) → Instr.findNow .string (.string k) es i = some none
  | [], i, _ => rfl
  | e :: es, i, h => by
    obtain ⟨j, hj, hne⟩ := h e (by simp)
    rw [Instr.findNow, hj]
    have hx : (k == j) = false := by
      cases hb : (k == j)
      · rfl
      · exact absurd ((MapKept.bytes_beq k j).1 hb).symm hne
    simp only [Instr.sameNow, hx]
    exact find_no k es (i + 1) (fun e he => h e (by simp [he]))
theorem nm_ne {k : ByteArray} (h : ∀ i, i < 9 → k ≠ nmb i) : ∀ e ∈ blE.toList ++ stE.toList, ∃ j, e.key = .string j ∧ j ≠ k := by
  intro e he
  simp only [blE, stE, List.cons_append, List.nil_append, List.mem_cons, List.not_mem_nil, or_false] at he
  rcases he with rfl | rfl | rfl | rfl | rfl | rfl | rfl | rfl | rfl | rfl | rfl | rfl | rfl | rfl | rfl | rfl | rfl | rfl
  · exact ⟨nmb 0, rfl, fun e => h 0 (by omega) e.symm⟩
  · exact ⟨nmb 1, rfl, fun e => h 1 (by omega) e.symm⟩
  · exact ⟨nmb 2, rfl, fun e => h 2 (by omega) e.symm⟩
  · exact ⟨nmb 3, rfl, fun e => h 3 (by omega) e.symm⟩
  · exact ⟨nmb 4, rfl, fun e => h 4 (by omega) e.symm⟩
  · exact ⟨nmb 5, rfl, fun e => h 5 (by omega) e.symm⟩
  · exact ⟨nmb 6, rfl, fun e => h 6 (by omega) e.symm⟩
  · exact ⟨nmb 7, rfl, fun e => h 7 (by omega) e.symm⟩
  · exact ⟨nmb 8, rfl, fun e => h 8 (by omega) e.symm⟩
  · exact ⟨nmb 0, rfl, fun e => h 0 (by omega) e.symm⟩
  · exact ⟨nmb 1, rfl, fun e => h 1 (by omega) e.symm⟩
  · exact ⟨nmb 2, rfl, fun e => h 2 (by omega) e.symm⟩
  · exact ⟨nmb 3, rfl, fun e => h 3 (by omega) e.symm⟩
  · exact ⟨nmb 4, rfl, fun e => h 4 (by omega) e.symm⟩
  · exact ⟨nmb 5, rfl, fun e => h 5 (by omega) e.symm⟩
  · exact ⟨nmb 6, rfl, fun e => h 6 (by omega) e.symm⟩
  · exact ⟨nmb 7, rfl, fun e => h 7 (by omega) e.symm⟩
  · exact ⟨nmb 8, rfl, fun e => h 8 (by omega) e.symm⟩
theorem find_bl {k : ByteArray} (h : ∀ i, i < 9 → k ≠ nmb i) : Instr.findNow .string (.string k) blE.toList 0 = some none := find_no k _ 0 fun e he => nm_ne h e (by simp [he])
theorem find_st {k : ByteArray} (h : ∀ i, i < 9 → k ≠ nmb i) : Instr.findNow .string (.string k) stE.toList 0 = some none := find_no k _ 0 fun e he => nm_ne h e (by simp [he])
end Go.Proofs.Ytieacfenoomaeaa
