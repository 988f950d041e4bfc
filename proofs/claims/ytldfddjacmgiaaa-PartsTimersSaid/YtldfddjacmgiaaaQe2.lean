import Derived.Test.YtldfddjacmgiaaaQe1
import Derived.Test.YtldfddjacmgiaaaQd2
set_option linter.unusedSimpArgs false
set_option linter.unusedVariables false
namespace Go.Proofs.Ytldfddjacmgiaaa
open Go.ChangeShapes Go.WideShapes Go.ChangeAt Go.RowKit

theorem two_of {α : Type} {l : List α} (h : l.length = 2) : ∃ a b, l = [a, b] := by
  match l, h with
  | [a, b], _ => exact ⟨a, b, rfl⟩
set_option maxRecDepth 100000 in
theorem cellsPair : Try.prog.cellsOf 56 = 2 := by kernel_rfl
set_option maxRecDepth 100000 in
/-- An argument that is a slice of pairs. -/
theorem open_pairs {H : Type} {enc : TypeId × Value → H} {W : World} {q : Option Addr} {N C : Nat} {d : DataW H} {ps : List MemPlace}
    (h : DataW.Trod enc Try.prog W 0 (fun _ => true) true 53 (.slice q N C) d ps) : ∃ rs, Ps W (.slice q N C) rs := by
  obtain ⟨fuel, hf⟩ := h
  have e : (Value.slice q N C).cells.toList = [.slice q N C] := rfl
  rw [e] at hf
  rcases Go.Deep.open_slice Try.underlying53 hf with ⟨h0, _⟩ | ⟨a, len, cap, m, n', D, Pl, hv, hb, hlc, hm, hmm, _, hx⟩
  · simp at h0
    obtain ⟨rfl, rfl, rfl⟩ := h0
    exact ⟨[], none, 0, rfl, Nat.le_refl _, by omega, .inl rfl⟩
  · simp at hv
    obtain ⟨rfl, rfl, rfl⟩ := hv
    simp only [if_true] at hmm
    subst hmm
    rw [cellsPair] at hx
    unfold maxLen at hm
    obtain ⟨T, hT⟩ := Go.Deep.choose_lt (α := Int × Int) (n := N) (p := fun i T => W.cell? (a.add (i * 2)) = some (.int .i64 T.1) ∧ W.cell? ((a.add (i * 2)).add 1) = some (.int .i64 T.2)) (fun i hi => by
      obtain ⟨cs', h1, h2⟩ := hx i (by omega)
      obtain ⟨_, hl, hc⟩ := World.cells?_some h1
      obtain ⟨xs, m, _, _, _, hxl, hxs⟩ := DataW.trod_array Try.underlying56 h2
      obtain ⟨c0, c1, rfl⟩ := two_of hl
      obtain ⟨y0, y1, rfl⟩ := two_of hxl
      have g0 := hxs 0 (by omega)
      have g1 := hxs 1 (by omega)
      rw [cellsInt] at g0 g1
      obtain ⟨z0, e0, _⟩ := DataW.trod_int Try.underlying3 (show DataW.trod enc Try.prog W 0 (fun _ => true) true m 3 [c0] = some y0 from g0)
      obtain ⟨z1, e1, _⟩ := DataW.trod_int Try.underlying3 (show DataW.trod enc Try.prog W 0 (fun _ => true) true m 3 [c1] = some y1 from g1)
      simp at e0 e1
      subst e0 e1
      exact ⟨(z0, z1), by have := hc 0 (by omega); rw [Go.Deep.add_add] at this; simpa using this, by simpa using hc 1 (by omega)⟩)
    have hrl : ((List.range N).map T).length = N := by simp
    refine ⟨(List.range N).map T, some a, m, by rw [hrl], by omega, by omega, ?_⟩
    by_cases h0 : N = 0
    · left; subst h0; rfl
    · right
      have hs := at_spot (show W.cell? a = _ by have := (hT 0 (by omega)).1; rwa [Nat.zero_mul, show a.add 0 = a from rfl] at this)
      have hadd : ∀ j, a.add j = ⟨a.block, a.off + j, none⟩ := fun j => by
        unfold Addr.add
        split
        · rename_i h5; cases a; simp at hs; simp [hs, h5]
        · rfl
      refine ⟨a.block, a.off, by cases a; simp at hs; rw [hs], fun j hj => ?_⟩
      rw [hrl] at hj
      obtain ⟨h1, h2⟩ := hT j hj
      rw [Go.Deep.add_add, hadd] at h2
      rw [hadd] at h1
      have e : ((List.range N).map T).getD j (0, 0) = T j := by simp [List.getD_eq_getElem?_getD, hj]
      rw [e]
      exact ⟨h1, h2⟩
end Go.Proofs.Ytldfddjacmgiaaa
