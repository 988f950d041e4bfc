import Derived.Test.YtieacfenoomaeaaLxW
import Derived.Test.YtieacfenoomaeaaRows
import Derived.Test.YtieacfenoomaeaaShelf
import Derived.ProofKit
import Derived.OpenShut
import Derived.Lib.Hide
import Derived.Deep.QuietTactic
import Derived.BigQuiet
namespace Go.Proofs.Ytieacfenoomaeaa
open Go.RowKit

/-- w' is w but for new blocks and draws, and nothing more is frozen. -/
structure Gr (w w' : World) : Prop where
  kp : Kp [] w w'
  fz : ∀ a, w'.frozen? a = w.frozen? a

theorem Gr.refl (w : World) : Gr w w := ⟨Kp.refl _ _, fun _ => rfl⟩
theorem Gr.trans {a b c : World} (h : Gr a b) (k : Gr b c) : Gr a c := ⟨h.kp.trans k.kp, fun x => (k.fz x).trans (h.fz x)⟩
theorem Gr.drewN {a w : World} (h : Gr a w) (n : Nat) : Gr a (w.drewN n) := ⟨h.kp.drewN n, h.fz⟩
theorem Gr.drew {a w : World} (h : Gr a w) : Gr a w.drew := ⟨h.kp.drew, h.fz⟩
theorem Gr.cells {a w : World} (h : Gr a w) (c : Array Value) (t : TypeId) : Gr a (w.alloc (.cells c t)) :=
  ⟨h.kp.alloc _, fun x => (frozen?_alloc_cells _ _ _ x).trans (h.fz x)⟩
theorem Gr.map {a w : World} (h : Gr a w) (c : Array MapEntry) (n : Nat) : Gr a (w.alloc (.map c n)) := by
  refine ⟨h.kp.alloc _, fun x => Eq.trans ?_ (h.fz x)⟩
  by_cases hx : x.block = w.heap.size
  · have e1 : (w.alloc (.map c n)).heap[x.block]? = some (.map c n) := by rw [hx]; exact (MapKept.heap_alloc w _).1
    have e2 : w.heap[x.block]? = none := by rw [hx]; simp
    simp [World.frozen?, e1, e2]
  · have e : (w.alloc (.map c n)).heap[x.block]? = w.heap[x.block]? := by
      show (w.heap.push _)[x.block]? = _
      rw [Array.getElem?_push, if_neg hx]
    simp [World.frozen?, e]
theorem Gr.grown {a w : World} (h : Gr a w) : Grown a w := by
  refine ⟨⟨h.kp.os, h.kp.output, fun i hi => ?_⟩, h.fz, h.kp.size⟩
  rw [h.kp.block i hi (by simp)]
  exact (World.keptBut_refl a (fun _ => False)).2.2 i hi

theorem ret_bool {a b : Bool} (h : a = b) : Ending.returned (.bool a) = .returned (.bool b) := by rw [h]
theorem ret_int {k : IntKind} {a b : Int} (h : a = b) : Ending.returned (.int k a) = .returned (.int k b) := by rw [h]
end Go.Proofs.Ytieacfenoomaeaa
