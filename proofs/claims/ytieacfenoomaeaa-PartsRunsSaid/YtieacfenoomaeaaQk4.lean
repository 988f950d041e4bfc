import Derived.Test.YtieacfenoomaeaaQg7
set_option linter.unusedSimpArgs false
set_option linter.unusedVariables false
namespace Go.Proofs.Ytieacfenoomaeaa
open Go.RowKit

set_option maxRecDepth 100000 in
theorem lcut_at (w : World) (p : Option Addr) (n c m : Nat) (hc : n ≤ c) (hm : min n 20 = m) : Calls Try.prog 10 #[.slice p n c] w fun r w' => r = .returned (.slice p m c) ∧ w' = w := by
  have hmi : (min (n : Int) 20) = (m : Int) := by omega
  have t1 : (0 : Int) ≤ (m : Int) := by omega
  have t2 : (m : Int) ≤ (c : Int) := by omega
  have t4 : m ≤ c := by omega
  clear hm
  rcases p with - | ⟨b, off, x⟩
  all_goals
    go_enter Try.func10, Try.ntmps10
    go_wp2
    go_ret
    exact ⟨rfl, rfl⟩
theorem is_take' {W : World} {p : Option Addr} {n c m K : Nat} {zs : List Int} (h : Is W (.slice p n c) zs) (hm : m = min zs.length K) : Is W (.slice p m c) (zs.take K) := by
  obtain ⟨p', c', e, h2, h3, h4⟩ := h
  simp at e
  obtain ⟨rfl, rfl, rfl⟩ := e
  have hl : (zs.take K).length = m := by rw [List.length_take, Nat.min_comm]; exact hm.symm
  refine ⟨p, c, by rw [hl], by omega, h3, ?_⟩
  rcases h4 with rfl | ⟨b, off, rfl, a4⟩
  · exact .inl (by simp)
  · refine .inr ⟨b, off, rfl, fun j hj => ?_⟩
    have e : (zs.take K).getD j 0 = zs.getD j 0 := by
      have : j < K := by omega
      simp [List.getD_eq_getElem?_getD, List.getElem?_take, this]
    rw [e]
    exact a4 j (by omega)
end Go.Proofs.Ytieacfenoomaeaa
