import Derived.Test.YtbfmkehchddkoaaDoorLx7
import Derived.Maps.Own
import Derived.WideMake
namespace Go.Proofs.YtbfmkehchddkoaaDoor
open Go.RowKit

/-- The signs, as bytes. -/
def signsL : List (List UInt8) := [[40], [41], [91], [93], [44], [59], [58], [46], [58, 61], [61], [60, 62], [60], [60, 61], [62], [62, 61], [43], [45], [42], [47], [38], [124], [45, 62]]
/-- The map of the signs, as the literal lays it. -/
def signsE : Array MapEntry := #[
  ⟨.string ⟨#[40]⟩, .bool true, 0⟩,
  ⟨.string ⟨#[41]⟩, .bool true, 1⟩,
  ⟨.string ⟨#[91]⟩, .bool true, 2⟩,
  ⟨.string ⟨#[93]⟩, .bool true, 3⟩,
  ⟨.string ⟨#[44]⟩, .bool true, 4⟩,
  ⟨.string ⟨#[59]⟩, .bool true, 5⟩,
  ⟨.string ⟨#[58]⟩, .bool true, 6⟩,
  ⟨.string ⟨#[46]⟩, .bool true, 7⟩,
  ⟨.string ⟨#[58, 61]⟩, .bool true, 8⟩,
  ⟨.string ⟨#[61]⟩, .bool true, 9⟩,
  ⟨.string ⟨#[60, 62]⟩, .bool true, 10⟩,
  ⟨.string ⟨#[60]⟩, .bool true, 11⟩,
  ⟨.string ⟨#[60, 61]⟩, .bool true, 12⟩,
  ⟨.string ⟨#[62]⟩, .bool true, 13⟩,
  ⟨.string ⟨#[62, 61]⟩, .bool true, 14⟩,
  ⟨.string ⟨#[43]⟩, .bool true, 15⟩,
  ⟨.string ⟨#[45]⟩, .bool true, 16⟩,
  ⟨.string ⟨#[42]⟩, .bool true, 17⟩,
  ⟨.string ⟨#[47]⟩, .bool true, 18⟩,
  ⟨.string ⟨#[38]⟩, .bool true, 19⟩,
  ⟨.string ⟨#[124]⟩, .bool true, 20⟩,
  ⟨.string ⟨#[45, 62]⟩, .bool true, 21⟩]
def isSignS (x : ByteArray) : Bool := signsL.contains x.data.toList

set_option maxRecDepth 100000 in
theorem upd_map (w : World) (es : Array MapEntry) (n : Nat) (k : ByteArray) (v : Value) (h : Instr.findNow .string (.string k) es.toList 0 = some none) :
    (Instr.mapUpdate 53 (.map (some w.heap.size)) (.string k) v).run Tryd.prog (w.alloc (.map es n)) = .ok () (w.alloc (.map (es.push ⟨.string k, v, n⟩) (n + 1))) := by
  have h1 : (w.alloc (.map es n)).heap[w.heap.size]? = some (.map es n) := by show (w.heap.push _)[w.heap.size]? = _; simp
  have hm : Tryd.prog.underlying 53 = some (.map 9 4) := Tryd.underlying53
  have hk : Tryd.prog.underlying 9 = some .string := Tryd.underlying9
  have hc : (Instr.checkKey false 10000 9 (.string k)).run Tryd.prog (w.alloc (.map es n)) = .ok () (w.alloc (.map es n)) := MapKept.run_checkKey (k := .string k) hk (by simp [MapKept.IsKey]) false 9999
  simp [Instr.mapUpdate, run_underlying hm, MapKept.run_getObj_map h1, hc, MapKept.run_findKey hk h, MapKept.run_setObj_map _ h1, Result.andThen]
  have hp : ∀ (h : Array Obj) (a b : Obj), (h.push a).setIfInBounds h.size b = h.push b := fun h a b => by
    apply Array.ext_getElem?
    intro i
    rw [Array.getElem?_setIfInBounds, Array.getElem?_push, Array.getElem?_push]
    by_cases hi : h.size = i
    · subst hi; simp
    · have : i ≠ h.size := fun e => hi e.symm
      simp [hi, this]
  exact congrArg (fun h => ({ w with heap := h } : World)) (hp _ _ _)

def lookOf (r : Option (Nat × Value)) : Value := match r with | some (_, v) => v | none => .bool false

theorem find_all (x : ByteArray) : ∀ (es : List MapEntry) (i : Nat), (∀ e ∈ es, ∃ k, e.key = .string k ∧ e.val = .bool true) →
    ∃ r, Instr.findNow .string (.string x) es i = some r ∧ lookOf r = .bool (es.any fun e => match e.key with | .string k => x == k | _ => false)
  | [], i, _ => ⟨none, rfl, rfl⟩
  | e :: es, i, h => by
    obtain ⟨k, hk, hv⟩ := h e (by simp)
    rw [Instr.findNow, hk]
    simp only [Instr.sameNow]
    cases hx : (x == k)
    · obtain ⟨r, h1, h2⟩ := find_all x es (i + 1) (fun e he => h e (by simp [he]))
      exact ⟨r, h1, by rw [h2]; simp [hk, hx]⟩
    · exact ⟨_, rfl, by simp [lookOf, hk, hx, hv]⟩

def keyBytes (e : MapEntry) : List UInt8 := match e.key with | .string k => k.data.toList | _ => []
theorem bytes_eq_iff (x k : ByteArray) : (x == k) = (x.data.toList == k.data.toList) := by
  rw [Bool.eq_iff_iff, MapKept.bytes_beq, beq_iff_eq]
  constructor
  · intro e; rw [e]
  · intro e; cases x; cases k; simp at e; rw [e]
theorem any_keys (x : ByteArray) : ∀ es : List MapEntry, (∀ e ∈ es, ∃ k, e.key = .string k) → (es.any fun e => match e.key with | .string k => x == k | _ => false) = (es.map keyBytes).contains x.data.toList
  | [], _ => rfl
  | e :: es, h => by
    obtain ⟨k, hk⟩ := h e (by simp)
    have := any_keys x es (fun e he => h e (by simp [he]))
    rw [List.any_cons, this, List.map_cons, List.contains_cons]
    simp only [hk, keyBytes, bytes_eq_iff]

set_option maxRecDepth 100000 in
theorem signsE_any (x : ByteArray) : (signsE.toList.any fun e => match e.key with | .string k => x == k | _ => false) = isSignS x := by
  have e : signsE.toList.map keyBytes = signsL := by decide +kernel
  rw [isSignS, ← e]
  exact any_keys x _ (by intro e he; simp [signsE] at he; rcases he with h | h | h | h | h | h | h | h | h | h | h | h | h | h | h | h | h | h | h | h | h | h <;> subst h <;> exact ⟨_, rfl⟩)

set_option maxRecDepth 100000 in
theorem look_signs (w : World) (b n : Nat) (x : ByteArray) (hb : w.heap[b]? = some (.map signsE n)) :
    (Instr.lookup 53 (.map (some b)) (.string x) false).run Tryd.prog w = .ok (.bool (isSignS x)) w := by
  have hm : Tryd.prog.underlying 53 = some (.map 9 4) := Tryd.underlying53
  have hk : Tryd.prog.underlying 9 = some .string := Tryd.underlying9
  have hc : (Instr.checkKey signsE.isEmpty 10000 9 (.string x)).run Tryd.prog w = .ok () w := MapKept.run_checkKey (k := .string x) hk (by simp [MapKept.IsKey]) _ 9999
  obtain ⟨r, h1, h2⟩ := find_all x signsE.toList 0 (by intro e he; simp [signsE] at he; rcases he with h | h | h | h | h | h | h | h | h | h | h | h | h | h | h | h | h | h | h | h | h | h <;> subst h <;> exact ⟨_, rfl, rfl⟩)
  rw [signsE_any] at h2
  have hz : (zeroValue 4).run Tryd.prog w = .ok (.bool false) w := by kernel_rfl
  cases r with
  | none =>
    simp only [lookOf] at h2
    simp [Instr.lookup, run_underlying hm, MapKept.run_getObj_map hb, hc, MapKept.run_findKey hk h1, hz, Result.andThen, ← h2]
  | some p =>
    simp only [lookOf] at h2
    simp [Instr.lookup, run_underlying hm, MapKept.run_getObj_map hb, hc, MapKept.run_findKey hk h1, Result.andThen, ← h2]

set_option maxRecDepth 100000 in
theorem signs_c (w : World) :
    Calls Tryd.prog 54 #[] w fun e w' => e = .returned (.map (some w.heap.size)) ∧ w' = w.alloc (.map signsE 22) := by
  have hmm := fun (t : TypeId) (w : World) => run_makeMap (P := Tryd.prog) t w
  go_enter Tryd.func54, Tryd.ntmps54
  go_wp2_with (rw [upd_map w]; rotate_left; kernel_rfl)
  go_ret
  exact ⟨rfl, rfl⟩
end Go.Proofs.YtbfmkehchddkoaaDoor
