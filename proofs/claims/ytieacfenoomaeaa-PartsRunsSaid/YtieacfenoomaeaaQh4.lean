import Derived.Test.YtieacfenoomaeaaQe1
import Derived.Test.YtieacfenoomaeaaQh3
set_option linter.unusedSimpArgs false
set_option linter.unusedVariables false
namespace Go.Proofs.Ytieacfenoomaeaa
open Go.ChangeShapes Go.WideShapes Go.ChangeAt Go.RowKit

theorem one_of {α : Type} {l : List α} (h : l.length = 1) : ∃ a, l = [a] := by
  match l, h with
  | [a], _ => exact ⟨a, rfl⟩
set_option maxRecDepth 100000 in
theorem cellsInts : Try.prog.cellsOf 22 = 1 := by kernel_rfl
set_option maxRecDepth 100000 in
/-- An argument that is a slice of slices of ints. -/
theorem open_lists {H : Type} {enc : TypeId × Value → H} {W : World} {q : Option Addr} {N C : Nat} {d : DataW H} {ps : List MemPlace}
    (h : DataW.Trod enc Try.prog W 0 (fun _ => true) true 42 (.slice q N C) d ps) : ∃ vs, Ils W (.slice q N C) vs := by
  obtain ⟨fuel, hf⟩ := h
  have e : (Value.slice q N C).cells.toList = [.slice q N C] := rfl
  rw [e] at hf
  rcases Go.Deep.open_slice Try.underlying42 hf with ⟨h0, _⟩ | ⟨a, len, cap, m, n', D, Pl, hv, hb, hlc, hm, hmm, _, hx⟩
  · simp at h0
    obtain ⟨rfl, rfl, rfl⟩ := h0
    exact ⟨[], none, 0, rfl, Nat.le_refl _, by omega, by simp, .inl rfl⟩
  · simp at hv
    obtain ⟨rfl, rfl, rfl⟩ := hv
    simp only [if_true] at hmm
    subst hmm
    rw [cellsInts] at hx
    unfold maxLen at hm
    obtain ⟨T, hT⟩ := Go.Deep.choose_lt (α := Value × List Int) (n := N) (p := fun i T => W.cell? (a.add (i * 1)) = some T.1 ∧ Is W T.1 T.2) (fun i hi => by
      obtain ⟨cs', h1, h2⟩ := hx i (by omega)
      obtain ⟨_, hl, hc⟩ := World.cells?_some h1
      obtain ⟨u, rfl⟩ := one_of hl
      have hcu : W.cell? (a.add (i * 1)) = some u := by have := hc 0 (by omega); rw [Go.Deep.add_add] at this; simpa using this
      rcases Go.Deep.open_slice Try.underlying22 h2 with ⟨h0, _⟩ | ⟨a2, len2, cap2, m2, n2, D2, Pl2, hv2, _⟩
      · simp at h0
        subst h0
        exact ⟨(.slice none 0 0, []), hcu, none, 0, rfl, Nat.le_refl _, by omega, .inl rfl⟩
      · simp at hv2
        subst hv2
        obtain ⟨zs, hz⟩ := open_is (d := D i) (ps := Pl i) ⟨_, h2⟩
        exact ⟨(_, zs), hcu, hz⟩)
    have hrl : ((List.range N).map T).length = N := by simp
    refine ⟨(List.range N).map T, some a, m, by rw [hrl], by omega, by omega, ?_, ?_⟩
    · intro y hy
      obtain ⟨i, hi, rfl⟩ := List.mem_map.1 hy
      exact (hT i (List.mem_range.1 hi)).2
    by_cases h0 : N = 0
    · left; subst h0; rfl
    · right
      have hs := at_spot (show W.cell? a = _ by have := (hT 0 (by omega)).1; rwa [Nat.zero_mul, show a.add 0 = a from rfl] at this)
      have hadd : ∀ j, a.add j = ⟨a.block, a.off + j, none⟩ := fun j => by
        unfold Addr.add
        split
        · rename_i h5; cases a; simp at hs; simp [hs, h5]
        · rfl
      refine ⟨a.block, a.off, by cases a; simp at hs; rw [hs], fun j hj => ?_⟩
      rw [hrl] at hj
      obtain ⟨h1, h2⟩ := hT j hj
      rw [hadd, Nat.mul_one] at h1
      simpa using h1
end Go.Proofs.Ytieacfenoomaeaa
