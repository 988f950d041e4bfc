import Derived.Test.YtieacfenoomaeaaQg1
import Derived.Test.YtieacfenoomaeaaQc3
import Derived.Test.YtieacfenoomaeaaQc2
import Derived.Deep.QuietTactic
set_option linter.unusedSimpArgs false
set_option linter.unusedVariables false
namespace Go.Proofs.Ytieacfenoomaeaa
open Go.RowKit

set_option maxRecDepth 100000 in
set_option maxHeartbeats 1000000 in
theorem rwakes_un (k : ByteArray) (v : Value) (w : World) (hk : tmB k = false) : Calls Try.prog 21 #[.string k, v] w fun r w' => r = .returned (.int .i64 (-1)) ∧ Kp [] w w' := by
  have hT := Lib.hid (fun W => hk ▸ risTimed_c k W)
  go_enter Try.func21, Try.ntmps21
  go_wp2_with fail
  go_quiet (first | (go_at_call 17; refine Calls.quiet_of_same (v := .bool false) ?_; with_reducible exact hT.out _))
  go_wp2_with fail
  go_ret
  exact ⟨rfl, by repeat (first | exact Kp.refl _ _ | refine Kp.drewN ?_ _ | refine Kp.drew ?_)⟩
set_option maxRecDepth 100000 in
set_option maxHeartbeats 1000000 in
theorem rwakes_off (k : ByteArray) (b o c : Nat) (w : World) (f : Int) (hk : tmB k = true) (e5 : w.cell? ⟨b, o + 5, none⟩ = some (.int .i64 f)) (hf : f ≠ 1) :
    Calls Try.prog 21 #[.string k, .slice (some ⟨b, o, none⟩) 6 c] w fun r w' => r = .returned (.int .i64 (-1)) ∧ Kp [] w w' := by
  have hT := Lib.hid (fun W => hk ▸ risTimed_c k W)
  have h1 : (f != 1) = true := by simpa using hf
  have h2 : (f == 1) = false := by simpa using hf
  clear hf
  go_enter Try.func21, Try.ntmps21
  go_wp2_with fail
  go_quiet (first | (go_at_call 17; refine Calls.quiet_of_same (v := .bool true) ?_; with_reducible exact hT.out _))
  go_wp2_with fail
  go_ret
  exact ⟨rfl, by repeat (first | exact Kp.refl _ _ | refine Kp.drewN ?_ _ | refine Kp.drew ?_)⟩
set_option maxRecDepth 100000 in
set_option maxHeartbeats 1000000 in
theorem rwakes_done (k : ByteArray) (b o c : Nat) (w : World) (p d : Int) (hk : tmB k = true) (e1 : w.cell? ⟨b, o + 1, none⟩ = some (.int .i64 p)) (e3 : w.cell? ⟨b, o + 3, none⟩ = some (.int .i64 d)) (e5 : w.cell? ⟨b, o + 5, none⟩ = some (.int .i64 1)) (hd : max p 0 ≤ d) :
    Calls Try.prog 21 #[.string k, .slice (some ⟨b, o, none⟩) 6 c] w fun r w' => r = .returned (.int .i64 (-1)) ∧ Kp [] w w' := by
  have hT := Lib.hid (fun W => hk ▸ risTimed_c k W)
  have h1 : decide (d ≥ max p 0) = true := by simpa using hd
  have h2 : decide (max p 0 ≤ d) = true := by simpa using hd
  clear hd
  go_enter Try.func21, Try.ntmps21
  go_wp2_with fail
  go_quiet (first | (go_at_call 17; refine Calls.quiet_of_same (v := .bool true) ?_; with_reducible exact hT.out _))
  go_wp2_with fail
  go_ret
  exact ⟨rfl, by repeat (first | exact Kp.refl _ _ | refine Kp.drewN ?_ _ | refine Kp.drew ?_)⟩
set_option maxRecDepth 100000 in
set_option maxHeartbeats 1000000 in
theorem rwakes_run (k : ByteArray) (b o c : Nat) (w : World) (p d e : Int) (hk : tmB k = true) (e1 : w.cell? ⟨b, o + 1, none⟩ = some (.int .i64 p)) (e3 : w.cell? ⟨b, o + 3, none⟩ = some (.int .i64 d)) (e4 : w.cell? ⟨b, o + 4, none⟩ = some (.int .i64 e)) (e5 : w.cell? ⟨b, o + 5, none⟩ = some (.int .i64 1)) (hd : d < max p 0)
    (hp : -2147483648 ≤ p ∧ p ≤ 2147483647) (he : -2147483648 ≤ e ∧ e ≤ 2147483647) :
    Calls Try.prog 21 #[.string k, .slice (some ⟨b, o, none⟩) 6 c] w fun r w' => r = .returned (.int .i64 (e + max p 0)) ∧ Kp [] w w' := by
  have hT := Lib.hid (fun W => hk ▸ risTimed_c k W)
  have h1 : decide (d ≥ max p 0) = false := by simp; omega
  have h2 : decide (max p 0 ≤ d) = false := by simp; omega
  have hw : IntKind.i64.wrap (e + max p 0) = e + max p 0 := IntWalk.i64_in _ (by omega)
  have hw2 : wrap64 (e + max p 0) = e + max p 0 := IntWalk.wrap64_in _ (by omega)
  clear hd hp he
  go_enter Try.func21, Try.ntmps21
  go_wp2_with fail
  go_quiet (first | (go_at_call 17; refine Calls.quiet_of_same (v := .bool true) ?_; with_reducible exact hT.out _))
  go_wp2_with fail
  go_quiet (fail)
  go_wp2_with fail
  go_ret
  exact ⟨rfl, by repeat (first | exact Kp.refl _ _ | refine Kp.drewN ?_ _ | refine Kp.drew ?_)⟩
set_option maxRecDepth 100000 in
theorem rnames_c (w : World) : Calls Try.prog 15 #[] w fun r w' => ∃ v, r = .returned v ∧ w'.ownsRow w.heap.size 9 1 v 9 (nmS.map encStr) ∧ Kp [] w w' := by
  go_enter Try.func15, Try.ntmps15
  go_wp2
  go_ret
  refine ⟨_, rfl, ?_, (Kp.refl [] w).alloc _⟩
  exact ⟨rfl, .inr ⟨w.heap.size, 9, _, rfl, Nat.le_refl _, heap_alloc_new w _, by simp, by decide, by simp, rfl⟩⟩
end Go.Proofs.Ytieacfenoomaeaa
