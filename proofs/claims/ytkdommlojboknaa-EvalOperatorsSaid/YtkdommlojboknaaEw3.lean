import Derived.Test.YtkdommlojboknaaEv15
namespace Go.Proofs.Ytkdommlojboknaa
open Go.RowKit

structure UnYes (op v n : Int) : Prop where
  ours : ∀ w : World, Calls Try.prog 8 #[.int .i64 op, .int .i64 v] w fun e w' => e = .returned (.tuple #[.int .i64 n, .int .i64 0]) ∧ Gr w w'
  theirs : ∀ w : World, Calls Try.prog 9 #[.int .i64 op, .int .i64 v] w fun e w' => e = .returned (.tuple #[.int .i64 n, .bool true]) ∧ w' = w
structure UnNo (op v k : Int) : Prop where
  ours : ∀ w : World, Calls Try.prog 8 #[.int .i64 op, .int .i64 v] w fun e w' => e = .returned (.tuple #[.int .i64 0, .int .i64 2]) ∧ Gr w w'
  theirs : ∀ w : World, Calls Try.prog 9 #[.int .i64 op, .int .i64 v] w fun e w' => e = .returned (.tuple #[.int .i64 k, .bool false]) ∧ w' = w
structure BinYes (op v x n f : Int) : Prop where
  ours : ∀ w : World, Calls Try.prog 10 #[.int .i64 op, .int .i64 v, .int .i64 x] w fun e w' => e = .returned (.tuple #[.int .i64 n, .int .i64 f, .int .i64 0]) ∧ Gr w w'
  theirs : ∀ w : World, Calls Try.prog 11 #[.int .i64 op, .int .i64 v, .int .i64 x] w fun e w' => e = .returned (.tuple #[.int .i64 n, .int .i64 f, .bool true]) ∧ w' = w
structure BinNo (op v x : Int) : Prop where
  ours : ∀ w : World, Calls Try.prog 10 #[.int .i64 op, .int .i64 v, .int .i64 x] w fun e w' => e = .returned (.tuple #[.int .i64 0, .int .i64 0, .int .i64 2]) ∧ Gr w w'
  theirs : ∀ w : World, Calls Try.prog 11 #[.int .i64 op, .int .i64 v, .int .i64 x] w fun e w' => e = .returned (.tuple #[.int .i64 0, .int .i64 0, .bool false]) ∧ w' = w

theorem un_both (op v : Int) : (∃ n, UnYes op v n) ∨ ∃ k, UnNo op v k := by
  by_cases h6 : op = 6
  · subst h6
    cases hb : bitB v
    · refine .inr ?_
      have ha : Hid (areB 6 [v] = false) := by show _ = _; rw [areB_one, hb]; cases valB v <;> decide
      have ho := fun w => unary_bad 6 v 0 31 w (by kernel_rfl) ha
      cases hv : valB v
      · exact ⟨0, ho, fun w => run_bad 6 v w hv⟩
      · exact ⟨1 - v, ho, fun w => (run_6 v w hv).mono fun e w' h => ⟨by rw [h.1, hb], h.2⟩⟩
    · have hv : valB v = true := by rcases bit_cases hb with rfl | rfl <;> kernel_rfl
      exact .inl ⟨1 - v, fun w => un_6 v w hb, fun w => (run_6 v w hv).mono fun e w' h => ⟨by rw [h.1, hb], h.2⟩⟩
  · by_cases h7 : op = 7
    · subst h7
      cases hv : valB v
      · have ha : Hid (areB 7 [v] = false) := by show _ = _; rw [areB_one, hv]; rfl
        exact .inr ⟨0, fun w => unary_bad 7 v 1 32 w (by kernel_rfl) ha, fun w => run_bad 7 v w hv⟩
      · exact .inl ⟨wrap32 (-v), fun w => un_7 v w hv, fun w => run_7 v w hv⟩
    · refine .inr ⟨0, fun w => unary_none op v w ?_, fun w => ?_⟩
      · refine find_int op _ 0 ?_
        intro e he
        simp [unE] at he
        rcases he with h | h <;> (subst h; exact ⟨_, rfl, by omega⟩)
      · cases hv : valB v
        · exact run_bad op v w hv
        · exact run_none op v w hv h6 h7

theorem bin_both (op v x : Int) : (∃ n f, BinYes op v x n f) ∨ BinNo op v x := by
  by_cases hlo : op < 8
  · refine .inr ⟨fun w => binary_none op v x w (fun w => binaryOf_lo op w ⟨by omega, by omega⟩), fun w => ?_⟩
    cases h1 : valB v && valB x
    · exact rbin_bad op v x w h1
    · simp at h1; exact rbin_none op v x w h1.1 h1.2 (.inl hlo)
  by_cases hhi : 21 < op
  · refine .inr ⟨fun w => binary_none op v x w (fun w => binaryOf_hi op w ⟨by omega, by omega⟩), fun w => ?_⟩
    cases h1 : valB v && valB x
    · exact rbin_bad op v x w h1
    · simp at h1; exact rbin_none op v x w h1.1 h1.2 (.inr hhi)
  by_cases h8 : op = 8
  · subst h8
    cases hb : bitB v && bitB x
    · have ha : Hid (areB 8 [v, x] = false) := by show _ = _; rw [areB_two]; simp at hb; simp [logB]; intro _ h1 _; exact hb h1
      refine .inr ⟨fun w => binary_bad 8 v x 46 w (binaryOf_8) ha, fun w => ?_⟩
      cases h1 : valB v && valB x
      · exact rbin_bad 8 v x w h1
      · simp at h1; exact rbinno_8 v x w h1.1 h1.2 hb
    · simp at hb
      exact .inl ⟨_, 0, fun w => bin_8 v x w hb.1 hb.2, fun w => rbin_8 v x w hb.1 hb.2⟩
  by_cases h9 : op = 9
  · subst h9
    cases hb : bitB v && bitB x
    · have ha : Hid (areB 9 [v, x] = false) := by show _ = _; rw [areB_two]; simp at hb; simp [logB]; intro _ h1 _; exact hb h1
      refine .inr ⟨fun w => binary_bad 9 v x 47 w (binaryOf_9) ha, fun w => ?_⟩
      cases h1 : valB v && valB x
      · exact rbin_bad 9 v x w h1
      · simp at h1; exact rbinno_9 v x w h1.1 h1.2 hb
    · simp at hb
      exact .inl ⟨_, 0, fun w => bin_9 v x w hb.1 hb.2, fun w => rbin_9 v x w hb.1 hb.2⟩
  by_cases h10 : op = 10
  · subst h10
    cases hb : bitB v && bitB x
    · have ha : Hid (areB 10 [v, x] = false) := by show _ = _; rw [areB_two]; simp at hb; simp [logB]; intro _ h1 _; exact hb h1
      refine .inr ⟨fun w => binary_bad 10 v x 48 w (binaryOf_10) ha, fun w => ?_⟩
      cases h1 : valB v && valB x
      · exact rbin_bad 10 v x w h1
      · simp at h1; exact rbinno_10 v x w h1.1 h1.2 hb
    · simp at hb
      exact .inl ⟨_, 0, fun w => bin_10 v x w hb.1 hb.2, fun w => rbin_10 v x w hb.1 hb.2⟩
  by_cases h11 : op = 11
  · subst h11
    cases h1 : valB v && valB x
    · have ha : Hid (areB 11 [v, x] = false) := by show _ = _; rw [areB_two]; simp at h1; simp [logB]; exact h1
      exact .inr ⟨fun w => binary_bad 11 v x 49 w (binaryOf_11) ha, fun w => rbin_bad 11 v x w h1⟩
    · simp at h1
      exact .inl ⟨_, 0, fun w => bin_11 v x w h1.1 h1.2, fun w => rbin_11 v x w h1.1 h1.2⟩
  by_cases h12 : op = 12
  · subst h12
    cases h1 : valB v && valB x
    · have ha : Hid (areB 12 [v, x] = false) := by show _ = _; rw [areB_two]; simp at h1; simp [logB]; exact h1
      exact .inr ⟨fun w => binary_bad 12 v x 51 w (binaryOf_12) ha, fun w => rbin_bad 12 v x w h1⟩
    · simp at h1
      exact .inl ⟨_, 0, fun w => bin_12 v x w h1.1 h1.2, fun w => rbin_12 v x w h1.1 h1.2⟩
  by_cases h13 : op = 13
  · subst h13
    cases h1 : valB v && valB x
    · have ha : Hid (areB 13 [v, x] = false) := by show _ = _; rw [areB_two]; simp at h1; simp [logB]; exact h1
      exact .inr ⟨fun w => binary_bad 13 v x 52 w (binaryOf_13) ha, fun w => rbin_bad 13 v x w h1⟩
    · simp at h1
      exact .inl ⟨_, 0, fun w => bin_13 v x w h1.1 h1.2, fun w => rbin_13 v x w h1.1 h1.2⟩
  by_cases h14 : op = 14
  · subst h14
    cases h1 : valB v && valB x
    · have ha : Hid (areB 14 [v, x] = false) := by show _ = _; rw [areB_two]; simp at h1; simp [logB]; exact h1
      exact .inr ⟨fun w => binary_bad 14 v x 53 w (binaryOf_14) ha, fun w => rbin_bad 14 v x w h1⟩
    · simp at h1
      exact .inl ⟨_, 0, fun w => bin_14 v x w h1.1 h1.2, fun w => rbin_14 v x w h1.1 h1.2⟩
  by_cases h15 : op = 15
  · subst h15
    cases h1 : valB v && valB x
    · have ha : Hid (areB 15 [v, x] = false) := by show _ = _; rw [areB_two]; simp at h1; simp [logB]; exact h1
      exact .inr ⟨fun w => binary_bad 15 v x 54 w (binaryOf_15) ha, fun w => rbin_bad 15 v x w h1⟩
    · simp at h1
      exact .inl ⟨_, 0, fun w => bin_15 v x w h1.1 h1.2, fun w => rbin_15 v x w h1.1 h1.2⟩
  by_cases h16 : op = 16
  · subst h16
    cases h1 : valB v && valB x
    · have ha : Hid (areB 16 [v, x] = false) := by show _ = _; rw [areB_two]; simp at h1; simp [logB]; exact h1
      exact .inr ⟨fun w => binary_bad 16 v x 55 w (binaryOf_16) ha, fun w => rbin_bad 16 v x w h1⟩
    · simp at h1
      exact .inl ⟨_, 0, fun w => bin_16 v x w h1.1 h1.2, fun w => rbin_16 v x w h1.1 h1.2⟩
  by_cases h17 : op = 17
  · subst h17
    cases h1 : valB v && valB x
    · have ha : Hid (areB 17 [v, x] = false) := by show _ = _; rw [areB_two]; simp at h1; simp [logB]; exact h1
      exact .inr ⟨fun w => binary_bad 17 v x 56 w (binaryOf_17) ha, fun w => rbin_bad 17 v x w h1⟩
    · simp at h1
      exact .inl ⟨_, 0, fun w => bin_17 v x w h1.1 h1.2, fun w => rbin_17 v x w h1.1 h1.2⟩
  by_cases h18 : op = 18
  · subst h18
    cases h1 : valB v && valB x
    · have ha : Hid (areB 18 [v, x] = false) := by show _ = _; rw [areB_two]; simp at h1; simp [logB]; exact h1
      exact .inr ⟨fun w => binary_bad 18 v x 57 w (binaryOf_18) ha, fun w => rbin_bad 18 v x w h1⟩
    · simp at h1
      exact .inl ⟨_, 0, fun w => bin_18 v x w h1.1 h1.2, fun w => rbin_18 v x w h1.1 h1.2⟩
  by_cases h19 : op = 19
  · subst h19
    cases h1 : valB v && valB x
    · have ha : Hid (areB 19 [v, x] = false) := by show _ = _; rw [areB_two]; simp at h1; simp [logB]; exact h1
      exact .inr ⟨fun w => binary_bad 19 v x 58 w (binaryOf_19) ha, fun w => rbin_bad 19 v x w h1⟩
    · simp at h1
      exact .inl ⟨_, 0, fun w => bin_19 v x w h1.1 h1.2, fun w => rbin_19 v x w h1.1 h1.2⟩
  by_cases h20 : op = 20
  · subst h20
    cases h1 : valB v && valB x
    · have ha : Hid (areB 20 [v, x] = false) := by show _ = _; rw [areB_two]; simp at h1; simp [logB]; exact h1
      exact .inr ⟨fun w => binary_bad 20 v x 59 w (binaryOf_20) ha, fun w => rbin_bad 20 v x w h1⟩
    · simp at h1
      by_cases hz : x = 0
      · subst hz
        exact .inl ⟨0, 1, fun w => bin_20_0 v w h1.1, fun w => rbin_20_0 v w h1.1⟩
      · exact .inl ⟨_, 0, fun w => bin_20 v x w h1.1 h1.2 hz, fun w => rbin_20 v x w h1.1 h1.2 hz⟩
  by_cases h21 : op = 21
  · subst h21
    cases h1 : valB v && valB x
    · have ha : Hid (areB 21 [v, x] = false) := by show _ = _; rw [areB_two]; simp at h1; simp [logB]; exact h1
      exact .inr ⟨fun w => binary_bad 21 v x 62 w (binaryOf_21) ha, fun w => rbin_bad 21 v x w h1⟩
    · simp at h1
      by_cases hz : x = 0
      · subst hz
        exact .inl ⟨0, 1, fun w => bin_21_0 v w h1.1, fun w => rbin_21_0 v w h1.1⟩
      · exact .inl ⟨_, 0, fun w => bin_21 v x w h1.1 h1.2 hz, fun w => rbin_21 v x w h1.1 h1.2 hz⟩
  omega
end Go.Proofs.Ytkdommlojboknaa
