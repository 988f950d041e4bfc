import Derived.Test.YtgldbeacjacbcaaGreatEv2
import Derived.Maps.Own
import Derived.WideMake
namespace Go.Proofs.YtgldbeacjacbcaaGreat
open Go.RowKit

def look0 (r : Option (Nat × Value)) : Value := match r with | some (_, v) => v | none => .nilFunc
set_option maxRecDepth 100000 in
theorem upd_bin (w : World) (es : Array MapEntry) (n : Nat) (k : Int) (v : Value) (h : Instr.findNow (.int .i64) (.int .i64 k) es.toList 0 = some none) :
    (Instr.mapUpdate 76 (.map (some w.heap.size)) (.int .i64 k) v).run Tryz.prog (w.alloc (.map es n)) = .ok () (w.alloc (.map (es.push ⟨.int .i64 k, v, n⟩) (n + 1))) := by
  have h1 : (w.alloc (.map es n)).heap[w.heap.size]? = some (.map es n) := by show (w.heap.push _)[w.heap.size]? = _; simp
  have hm : Tryz.prog.underlying 76 = some (.map 3 54) := Tryz.underlying76
  have hk : Tryz.prog.underlying 3 = some (.int .i64) := Tryz.underlying3
  have hc : (Instr.checkKey false 10000 3 (.int .i64 k)).run Tryz.prog (w.alloc (.map es n)) = .ok () (w.alloc (.map es n)) := MapKept.run_checkKey (k := .int .i64 k) hk (by simp [MapKept.IsKey]) false 9999
  simp [Instr.mapUpdate, run_underlying hm, MapKept.run_getObj_map h1, hc, MapKept.run_findKey hk h, MapKept.run_setObj_map _ h1, Result.andThen]
  have hp : ∀ (h : Array Obj) (a b : Obj), (h.push a).setIfInBounds h.size b = h.push b := fun h a b => by
    apply Array.ext_getElem?
    intro i
    rw [Array.getElem?_setIfInBounds, Array.getElem?_push, Array.getElem?_push]
    by_cases hi : h.size = i
    · subst hi; simp
    · have : i ≠ h.size := fun e => hi e.symm
      simp [hi, this]
  exact congrArg (fun h => ({ w with heap := h } : World)) (hp _ _ _)
set_option maxRecDepth 100000 in
theorem look_bin (w : World) (es : Array MapEntry) (n : Nat) (k : Int) (r : Option (Nat × Value)) (h : Instr.findNow (.int .i64) (.int .i64 k) es.toList 0 = some r) :
    (Instr.lookup 76 (.map (some w.heap.size)) (.int .i64 k) false).run Tryz.prog (w.alloc (.map es n)) = .ok (look0 r) (w.alloc (.map es n)) := by
  have h1 : (w.alloc (.map es n)).heap[w.heap.size]? = some (.map es n) := by show (w.heap.push _)[w.heap.size]? = _; simp
  have hm : Tryz.prog.underlying 76 = some (.map 3 54) := Tryz.underlying76
  have hk : Tryz.prog.underlying 3 = some (.int .i64) := Tryz.underlying3
  have hc : (Instr.checkKey es.isEmpty 10000 3 (.int .i64 k)).run Tryz.prog (w.alloc (.map es n)) = .ok () (w.alloc (.map es n)) := MapKept.run_checkKey (k := .int .i64 k) hk (by simp [MapKept.IsKey]) _ 9999
  have hz : ∀ w, (zeroValue 54).run Tryz.prog w = .ok .nilFunc w := fun w => by kernel_rfl
  cases r with
  | none => simp [Instr.lookup, run_underlying hm, MapKept.run_getObj_map h1, hc, MapKept.run_findKey hk h, hz, Result.andThen, look0]
  | some p => simp [Instr.lookup, run_underlying hm, MapKept.run_getObj_map h1, hc, MapKept.run_findKey hk h, Result.andThen, look0]
set_option maxRecDepth 100000 in
theorem upd_un (w : World) (es : Array MapEntry) (n : Nat) (k : Int) (v : Value) (h : Instr.findNow (.int .i64) (.int .i64 k) es.toList 0 = some none) :
    (Instr.mapUpdate 93 (.map (some w.heap.size)) (.int .i64 k) v).run Tryz.prog (w.alloc (.map es n)) = .ok () (w.alloc (.map (es.push ⟨.int .i64 k, v, n⟩) (n + 1))) := by
  have h1 : (w.alloc (.map es n)).heap[w.heap.size]? = some (.map es n) := by show (w.heap.push _)[w.heap.size]? = _; simp
  have hm : Tryz.prog.underlying 93 = some (.map 3 39) := Tryz.underlying93
  have hk : Tryz.prog.underlying 3 = some (.int .i64) := Tryz.underlying3
  have hc : (Instr.checkKey false 10000 3 (.int .i64 k)).run Tryz.prog (w.alloc (.map es n)) = .ok () (w.alloc (.map es n)) := MapKept.run_checkKey (k := .int .i64 k) hk (by simp [MapKept.IsKey]) false 9999
  simp [Instr.mapUpdate, run_underlying hm, MapKept.run_getObj_map h1, hc, MapKept.run_findKey hk h, MapKept.run_setObj_map _ h1, Result.andThen]
  have hp : ∀ (h : Array Obj) (a b : Obj), (h.push a).setIfInBounds h.size b = h.push b := fun h a b => by
    apply Array.ext_getElem?
    intro i
    rw [Array.getElem?_setIfInBounds, Array.getElem?_push, Array.getElem?_push]
    by_cases hi : h.size = i
    · subst hi; simp
    · have : i ≠ h.size := fun e => hi e.symm
      simp [hi, this]
  exact congrArg (fun h => ({ w with heap := h } : World)) (hp _ _ _)
set_option maxRecDepth 100000 in
theorem look_un (w : World) (es : Array MapEntry) (n : Nat) (k : Int) (r : Option (Nat × Value)) (h : Instr.findNow (.int .i64) (.int .i64 k) es.toList 0 = some r) :
    (Instr.lookup 93 (.map (some w.heap.size)) (.int .i64 k) false).run Tryz.prog (w.alloc (.map es n)) = .ok (look0 r) (w.alloc (.map es n)) := by
  have h1 : (w.alloc (.map es n)).heap[w.heap.size]? = some (.map es n) := by show (w.heap.push _)[w.heap.size]? = _; simp
  have hm : Tryz.prog.underlying 93 = some (.map 3 39) := Tryz.underlying93
  have hk : Tryz.prog.underlying 3 = some (.int .i64) := Tryz.underlying3
  have hc : (Instr.checkKey es.isEmpty 10000 3 (.int .i64 k)).run Tryz.prog (w.alloc (.map es n)) = .ok () (w.alloc (.map es n)) := MapKept.run_checkKey (k := .int .i64 k) hk (by simp [MapKept.IsKey]) _ 9999
  have hz : ∀ w, (zeroValue 39).run Tryz.prog w = .ok .nilFunc w := fun w => by kernel_rfl
  cases r with
  | none => simp [Instr.lookup, run_underlying hm, MapKept.run_getObj_map h1, hc, MapKept.run_findKey hk h, hz, Result.andThen, look0]
  | some p => simp [Instr.lookup, run_underlying hm, MapKept.run_getObj_map h1, hc, MapKept.run_findKey hk h, Result.andThen, look0]
theorem find_int (k : Int) : ∀ (es : List MapEntry) (i : Nat), (∀ e ∈ es, ∃ j, e.key = .int .i64 j ∧ j ≠ k) → Instr.findNow (.int .i64) (.int .i64 k) es i = some none
  | [], i, _ => rfl
  | e :: es, i, h => by
    obtain ⟨j, hj, hne⟩ := h e (by simp)
    rw [Instr.findNow, hj]
    have hx : (k == j) = false := by simp; exact fun e => hne e.symm
    simp only [Instr.sameNow, hx]
    exact find_int k es (i + 1) (fun e he => h e (by simp [he]))
def fnV (n : Nat) : Value := .func (.func n) #[] #[]
def logE : Array MapEntry := #[⟨.int .i64 8,fnV 62,0⟩,⟨.int .i64 9,fnV 63,1⟩,⟨.int .i64 10,fnV 64,2⟩]
def unE : Array MapEntry := #[⟨.int .i64 6,fnV 98,0⟩,⟨.int .i64 7,fnV 99,1⟩]
end Go.Proofs.YtgldbeacjacbcaaGreat
