import Derived.Test.YtbfmkehchddkoaaDoorR2
import Derived.Great.Walk
namespace Go.Proofs.YtbfmkehchddkoaaDoor
open Go.RowKit Go.Great
set_option maxRecDepth 100000 in
theorem rwords_c (w : World) :
    Calls Tryd.prog 21 #[] w fun e w' => e = .returned (.slice (some ⟨w.heap.size, 0, none⟩) 90 90) ∧ w' = w.alloc (.cells wordsV 9) := by
  go_enter Tryd.func21, Tryd.ntmps21
  iterate 11 go_step
  refine wpList_buildSliceTo rfl 38 9 90 _ rfl w.heap.size rfl (some 1) rfl Tryd.underlying38 wordsV ?_ ?_
  · as_aux_lemma => kernel_rfl
  go_wp2
  go_ret
  exact ⟨rfl, rfl⟩

theorem row_cells (ws : List (List UInt8)) (V : Array Value) (hV : V = (ws.map fun x => Value.string ⟨x.toArray⟩).toArray) (w : World) (T : TypeId) (i : Nat) (x : List UInt8) (h : ws[i]? = some x) :
    (w.alloc (.cells V T)).cell? ⟨w.heap.size, i, none⟩ = some (.string ⟨x.toArray⟩) := by
  refine Blk.cell (Blk.new w T V) i ?_
  rw [hV]
  simp [h]

theorem rword_c (s : ByteArray) (w : World) :
    Calls Tryd.prog 25 #[.string s] w fun e w' => e = .returned (.bool (isWordL s.data.toList)) ∧ Kp [] w w' := by
  have hl : wordsL.length = 90 := by decide
  have hh := has_c wordsL s w.heap.size 90 (w.alloc (.cells wordsV 9)) (by decide) (row_cells wordsL wordsV rfl w 9)
  rw [hl] at hh
  replace hh := Lib.hid hh
  clear hl
  go_enter Tryd.func25, Tryd.ntmps25
  go_wp2_with fail
  refine (rwords_c _).mono ?_
  rintro e w' ⟨rfl, rfl⟩
  go_wp2_with fail
  refine hh.out.mono ?_
  rintro e w' ⟨rfl, rfl⟩
  go_wp2_with fail
  go_ret
  exact ⟨rfl, (Kp.refl _ w).alloc _⟩

def rsignsV : Array Value := (signsL.map fun x => Value.string ⟨x.toArray⟩).toArray

set_option maxRecDepth 100000 in
theorem rsign_c (s : ByteArray) (w : World) :
    Calls Tryd.prog 53 #[.string s] w fun e w' => e = .returned (.bool (isSignL s.data.toList)) ∧ Kp [] w w' := by
  have hl : signsL.length = 22 := by decide
  have hh := has_c signsL s w.heap.size 22 (w.alloc (.cells rsignsV 9)) (by decide) (row_cells signsL rsignsV rfl w 9)
  rw [hl] at hh
  replace hh := Lib.hid hh
  clear hl
  go_enter Tryd.func53, Tryd.ntmps53
  iterate 11 go_step
  refine wpList_buildSliceTo rfl 38 9 22 _ rfl w.heap.size rfl _ rfl Tryd.underlying38 rsignsV ?_ ?_
  · as_aux_lemma => kernel_rfl
  go_wp2_with fail
  refine hh.out.mono ?_
  rintro e w' ⟨rfl, rfl⟩
  go_wp2_with fail
  go_ret
  exact ⟨rfl, (Kp.refl _ w).alloc _⟩
end Go.Proofs.YtbfmkehchddkoaaDoor
