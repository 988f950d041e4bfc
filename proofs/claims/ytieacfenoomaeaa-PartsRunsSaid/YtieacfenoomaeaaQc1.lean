import Derived.Test.YtieacfenoomaeaaQb4
import Derived.Test.YtieacfenoomaeaaIter
import Derived.Shelf.AbstractIn
import Derived.OwnWalkIn
import Derived.Sort.KeysCollected
set_option linter.unusedSimpArgs false
set_option linter.unusedVariables false
namespace Go.Proofs.Ytieacfenoomaeaa
open Go.RowKit Go.Maps Go.Sort Go.Shelf Go.Lib

theorem sorts (m : Nat) : AnyZ.SortsIn Try.prog Try.sorted47_ren Fence.wide m :=
  ⟨fun blk off cap ss W hH hblk hsz => callsIn_wide.2 (AnyM.slices_Sort_string Try.sort70 blk off cap ss W hH hblk hsz),
   fun p cap W => callsIn_wide.2 (AnyM.slices_Sort_string_none Try.sort70 p cap W)⟩
theorem keys_in_c (mb : Option Nat) (W : World) : CallsIn Fence.wide 5 Try.prog 48 #[.map mb] W fun e w' => e = .returned (.func (.func 71) #[] #[.pointer (some ⟨W.heap.size, 0, none⟩)]) ∧ w' = W.alloc (.cells #[.map mb] 72) :=
  AnyZ.keys_in Try.keys48 Fence.wide 5 trivial rfl mb W
set_option maxHeartbeats 1000000 in
theorem sorted_keys {H : Type} (b nn : Nat) (D0 : DataW H) (R : Value → Option (DataW H × List MemPlace)) (w : World) (hown : w.ownsMap Try.prog 9 R b nn D0) (hmax : Maps.size D0 ≤ maxLen) (hbytes : Maps.size D0 * 16 ≤ 140737488355328) :
    CallsIn Fence.wide 5 Try.prog 47 #[.func (.func 71) #[] #[.pointer (some ⟨w.heap.size, 0, none⟩)]] (w.alloc (.cells #[.map (some b)] 72)) fun e w' => ∃ (v : Value) (ss : List (List UInt8)), e = .returned v ∧ ss.Perm (strKeys D0) ∧
      w'.ownsRow (w.alloc (.cells #[.map (some b)] 72)).heap.size 9 1 v ss.length ((ss.mergeSort (fun x y => decide (x ≤ y))).map encStr) ∧ (v = .slice none 0 0 ↔ ss = []) ∧ Below (w.alloc (.cells #[.map (some b)] 72)).heap.size (w.alloc (.cells #[.map (some b)] 72)) w' := by
  have hbl := hown.lt
  have hseq : SeqGives Fence.wide 2 Try.prog 71 #[.pointer (some ⟨w.heap.size, 0, none⟩)] encStr (fun ss => ss.Perm (strKeys D0)) (Maps.size D0) (w.alloc (.cells #[.map (some b)] 72)) :=
    AnyZ.keys_gives (ρ := Try.keys48_ren) { Try.keys48 with } Fence.wide _ trivial rfl (by omega) w.heap.size b nn D0 _ (by simp) (by simp) (by
      obtain ⟨es, clock, hb, Ft, hs, hD⟩ := hown
      exact ⟨es, clock, (Below.heap_alloc _ _ b hbl).trans hb, Ft, hs, hD⟩)
  exact AnyZ.sorted_in Try.sorted47 Fence.wide 5 trivial trivial trivial trivial rfl (by omega) (sorts _) (enters_of Try.func70 (by kernel_rfl) rfl) 71 #[.pointer (some ⟨w.heap.size, 0, none⟩)] trivial (enters_of Try.func71 (by kernel_rfl) rfl) _ _ hmax hbytes _ hseq

/-- The names, ascending. -/
def nmS : List (List UInt8) := [[99, 116, 100], [99, 116, 117], [102, 116, 114, 105, 103], [114, 115], [114, 116, 114, 105, 103], [115, 114], [116, 111, 102], [116, 111, 110], [116, 112]]
def rdN (_ : Value) : Option (DataW Unit × List MemPlace) := some (.nil, [])
def D9 : DataW Unit := .map (nmS.map fun s => (.string s, .nil))
theorem bl_stamped : MapKept.Stamped blE 9 := by
  refine (MapKept.stamped_iff _ _).2 ⟨?_, ?_, ?_⟩
  · simp [blE]
  · simp [blE]
  · simp [blE]
set_option maxRecDepth 100000 in
theorem D9_keys : strKeys D9 = nmS := by kernel_rfl
set_option maxRecDepth 100000 in
theorem D9_size : Maps.size D9 = 9 := by kernel_rfl
theorem bl_reads : ∀ x ∈ blE.toList, ∃ y, Go.WideElems.rd (H := Unit) Try.prog 9 rdN x = some y := by
  intro x hx
  simp only [blE, List.mem_cons, List.not_mem_nil, or_false] at hx
  rcases hx with rfl | rfl | rfl | rfl | rfl | rfl | rfl | rfl | rfl
  · exact ⟨(.string [116, 111, 110], .nil), by kernel_rfl⟩
  · exact ⟨(.string [116, 111, 102], .nil), by kernel_rfl⟩
  · exact ⟨(.string [116, 112], .nil), by kernel_rfl⟩
  · exact ⟨(.string [99, 116, 117], .nil), by kernel_rfl⟩
  · exact ⟨(.string [99, 116, 100], .nil), by kernel_rfl⟩
  · exact ⟨(.string [115, 114], .nil), by kernel_rfl⟩
  · exact ⟨(.string [114, 115], .nil), by kernel_rfl⟩
  · exact ⟨(.string [114, 116, 114, 105, 103], .nil), by kernel_rfl⟩
  · exact ⟨(.string [102, 116, 114, 105, 103], .nil), by kernel_rfl⟩
theorem owns_bl {w : World} {g : Nat} (h : w.heap[g]? = some (.map blE 9)) : w.ownsMap Try.prog 9 rdN g 9 D9 :=
  ⟨blE, 9, h, ⟨by show 9 ≤ maxLen; unfold maxLen; omega, bl_stamped, bl_reads⟩, Nat.le_refl _, by kernel_rfl⟩
theorem nmS_sorted {ss : List (List UInt8)} (h : ss.Perm nmS) : ss.mergeSort (fun x y => decide (x ≤ y)) = nmS := by
  have e : nmS.mergeSort leB = nmS := List.mergeSort_of_pairwise (by unfold nmS leB; decide)
  exact (mergeSort_of_perm h).trans e
set_option maxRecDepth 100000 in
set_option maxHeartbeats 1000000 in
theorem sortedK_c (w : World) (g : Nat) (h : w.heap[g]? = some (.map blE 9)) :
    Calls Try.prog 34 #[.map (some g)] w fun r w' => ∃ v, r = .returned v ∧ w'.ownsRow w.heap.size 9 1 v 9 (nmS.map encStr) ∧ Kp [] w w' := by
  refine (callsIn_wide (n := 6)).1 ?_
  have hfK : Fence.wide.fn 48 := trivial
  have hfS : Fence.wide.fn 47 := trivial
  refine callsIn_of_wp Try.func34 rfl trivial ?_ rfl
  simp only [Try.ntmps34, List.size_toArray, List.length_cons, List.length_nil, Nat.reduceAdd, Nat.reduceSub, Array.replicate_succ, Array.replicate_zero, List.push_toArray, List.append_toArray, List.nil_append, List.cons_append]
  gi_wp2_with (first
    | (gi_at_call 48; refine (keys_in_c _ _).mono ?_; rintro e w' ⟨rfl, rfl⟩)
    | (gi_at_call 47; refine (sorted_keys g 9 D9 rdN w (owns_bl h) (by rw [D9_size]; unfold maxLen; omega) (by rw [D9_size]; omega)).mono ?_; rintro e w' ⟨v, ss, rfl, hS, hrow, hnil, hb⟩))
  go_ret
  rw [D9_keys] at hS
  rw [nmS_sorted hS, show ss.length = 9 from hS.length_eq] at hrow
  exact ⟨v, rfl, ownsRow_base_a hrow (by simp), Kp.of_below (((Below.refl _ w).alloc (Nat.le_refl _) _).trans (hb.mono (by simp)))⟩
set_option maxRecDepth 100000 in
theorem names_c (w : World) : Calls Try.prog 14 #[] w fun r w' => ∃ v, r = .returned v ∧ w'.ownsRow w.heap.size 9 1 v 9 (nmS.map encStr) ∧ Kp [] w w' := by
  go_enter Try.func14, Try.ntmps14
  go_wp2_with fail
  refine (bl_c _).mono ?_
  rintro r w1 ⟨rfl, rfl⟩
  have hs := Lib.hid (sortedK_c (w.alloc (.map blE 9)) w.heap.size (heap_alloc_new w _))
  go_wp2_with fail
  refine hs.out.mono ?_
  rintro r w2 ⟨v, rfl, hr, hk⟩
  go_wp2
  go_ret
  exact ⟨v, rfl, ownsRow_base_a hr (by simp), ((Kp.refl [] w).alloc _).trans hk⟩
end Go.Proofs.Ytieacfenoomaeaa
