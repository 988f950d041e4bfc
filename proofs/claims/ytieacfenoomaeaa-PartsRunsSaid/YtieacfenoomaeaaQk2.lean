import Derived.Test.YtieacfenoomaeaaQj4
import Derived.Test.YtieacfenoomaeaaQj6
import Derived.Test.YtieacfenoomaeaaQi3
set_option linter.unusedSimpArgs false
set_option linter.unusedVariables false
namespace Go.Proofs.Ytieacfenoomaeaa
open Go.RowKit

/-- These cells, rows and times can be run. -/
def okB (i : Nat) (zs : List Int) (rs : List (List Int)) (ts : List Int) : Bool := areV (kin i) zs && ((decide ((ts.length : Int) = (rs.length : Int)) && tmsB ts) && rs.all (areV (kinIn i)))
theorem okB_yes {i : Nat} {zs : List Int} {rs : List (List Int)} {ts : List Int} (h : okB i zs rs ts = true) : areV (kin i) zs = true ∧ ts.length = rs.length ∧ tmsB ts = true ∧ rs.all (areV (kinIn i)) = true := by
  unfold okB at h
  simp only [Bool.and_eq_true, decide_eq_true_eq] at h
  exact ⟨h.1, by omega, h.2.1.2, h.2.2⟩
theorem all_snd (vs : List (Value × List Int)) (f : List Int → Bool) : (vs.map Prod.snd).all f = vs.all fun y => f y.2 := by rw [List.all_map]; rfl
/-- The program's Run. -/
theorem prun_yes (i : Nat) (hi : i < 9) (W : World) (v vI vT : Value) (zs ts : List Int) (vs : List (Value × List Int)) (hz : Is W v zs) (hI : Ils W vI vs) (hT : Is W vT ts) (hb : ts.length ≤ 1000) (h : okB i zs (vs.map Prod.snd) ts = true) :
    Calls Try.prog 24 #[.string (nmb i), v, vI, vT] W fun r w' => ∃ vo base ps, r = .returned (.tuple #[vo, .int .i64 0]) ∧ Rws w' base vo ps ∧ ps.map Prod.snd = runR i zs (vs.map Prod.snd) ts ∧ Kp [] W w' := by
  obtain ⟨K, n, L, hP⟩ := part_c i hi
  obtain ⟨h1, h2, h3, h4⟩ := okB_yes h
  rw [List.length_map] at h2
  rw [all_snd] at h4
  exact run_main i K n hi L hP _ rfl zs h1 W v vI vT hz vs ts hI hT hb h2 h3 h4
theorem prun_no (i : Nat) (hi : i < 9) (W : World) (v vI vT : Value) (zs ts : List Int) (vs : List (Value × List Int)) (hz : Is W v zs) (hI : Ils W vI vs) (hT : Is W vT ts) (hb : ts.length ≤ 1000) (h : okB i zs (vs.map Prod.snd) ts = false) :
    Calls Try.prog 24 #[.string (nmb i), v, vI, vT] W (RunErr 2 W) := by
  obtain ⟨K, n, L, hP⟩ := part_c i hi
  cases h1 : areV (kin i) zs
  · exact run_err_bad (nmb i) v vI vT W (Lib.hid (pbad_c i hi zs W v hz h1))
  · by_cases h2 : ts.length = vs.length
    · cases h3 : tmsB ts
      · exact run_times i K n L hP _ rfl zs h1 W v vI vT hz vs ts hI hT hb h2 h3
      · refine run_takes i K n L hP _ rfl zs h1 W v vI vT hz vs ts hI hT hb h2 h3 ?_
        unfold okB at h
        rw [h1, h3, all_snd] at h
        simpa [h2] using h
    · exact run_len i K n L hP _ rfl zs h1 W v vI vT hz vs ts hI hT hb h2
/-- The reference's Run. -/
theorem rrun_yes (i : Nat) (hi : i < 9) (W : World) (v vI vT : Value) (zs ts : List Int) (vs : List (Value × List Int)) (hz : Is W v zs) (hI : Ils W vI vs) (hT : Is W vT ts) (hb : vs.length ≤ 1000) (h : okB i zs (vs.map Prod.snd) ts = true) :
    Calls Try.prog 25 #[.string (nmb i), v, vI, vT] W fun r w' => ∃ vo base ps, r = .returned (.tuple #[vo, .bool true]) ∧ Rws w' base vo ps ∧ ps.map Prod.snd = runR i zs (vs.map Prod.snd) ts ∧ Kp [] W w' := by
  obtain ⟨n, L, hR, hC⟩ := rk_c i hi
  obtain ⟨h1, h2, h3, h4⟩ := okB_yes h
  have hm := rrun_main (nmb i) i n hi L hR hC rfl W v vI vT zs ts vs hz h1 hI hT (by rw [List.length_map] at h2; exact h2) h3 hb
  rw [h4] at hm
  refine hm.mono ?_
  rintro r w' ⟨h5, h6⟩
  rw [if_pos rfl] at h5
  obtain ⟨vo, base, ps, e1, e2, e3⟩ := h5
  exact ⟨vo, base, ps, e1, e2, e3, h6⟩
theorem rrun_no (i : Nat) (hi : i < 9) (W : World) (v vI vT : Value) (zs ts : List Int) (vs : List (Value × List Int)) (hz : Is W v zs) (hI : Ils W vI vs) (hT : Is W vT ts) (hb : vs.length ≤ 1000) (h : okB i zs (vs.map Prod.snd) ts = false) :
    Calls Try.prog 25 #[.string (nmb i), v, vI, vT] W fun r w' => r = .returned (.tuple #[.slice none 0 0, .bool false]) ∧ Kp [] W w' := by
  obtain ⟨n, L, hR, hC⟩ := rk_c i hi
  have key : ∀ (rs : List (List Int)), Calls Try.prog 25 #[.string (nmb i), v, vI, vT] W (RunRes i zs rs ts false W) → Calls Try.prog 25 #[.string (nmb i), v, vI, vT] W fun r w' => r = .returned (.tuple #[.slice none 0 0, .bool false]) ∧ Kp [] W w' := by
    intro rs hh
    refine hh.mono ?_
    rintro r w' ⟨h5, h6⟩
    rw [if_neg (by decide)] at h5
    exact ⟨h5, h6⟩
  cases h1 : areV (kin i) zs
  · exact key [] (rrun_right (nmb i) i n L hR W v vI vT zs ts [] hz h1)
  · cases h3 : (decide ((ts.length : Int) = (vs.length : Int)) && tmsB ts)
    · exact key [] (rrun_times (nmb i) i n L hR W v vI vT zs ts vs [] hz h1 hI hT h3)
    · rw [Bool.and_eq_true, decide_eq_true_eq] at h3
      have hm := rrun_main (nmb i) i n hi L hR hC rfl W v vI vT zs ts vs hz h1 hI hT (by omega) h3.2 hb
      unfold okB at h
      rw [h1, h3.2, List.length_map, show decide ((ts.length : Int) = (vs.length : Int)) = true by simpa using h3.1] at h
      simp only [Bool.true_and] at h
      rw [h] at hm
      exact key _ hm
end Go.Proofs.Ytieacfenoomaeaa
