import Derived.Test.YtgldbeacjacbcaaGreatEv4
namespace Go.Proofs.YtgldbeacjacbcaaGreat
open Go.RowKit

set_option maxRecDepth 100000 in
theorem ordered_c (v x : Int) (b n c : Nat) (zs : List Int) (w : World) (hn : n = zs.length) (hbig : n ≤ 9223372036854775807)
    (hc : ∀ j, j < zs.length → w.cell? ⟨b, 0 + j, none⟩ = some (.int .i64 (zs.getD j 0))) :
    Calls Tryz.prog 66 #[.int .i64 v, .int .i64 x, .slice (some ⟨b, 0, none⟩) n c] w fun e w' => e = .returned (.tuple #[.int .i64 (oneOf (zs.contains (Lib.compareInt v x))), .int .i64 0]) ∧ w' = w := by
  have hh := Lib.hid hc
  clear hc
  have hq : Hid (zs.take n = zs) := by show _ = _; rw [hn, List.take_length]
  replace hn := Nat.le_of_eq hn
  go_enter Tryz.func66, Tryz.ntmps66
  go_wp2_with fail
  refine (Tryz.cmp_Compare_int v x _).mono ?_
  rintro e w' ⟨rfl, rfl⟩
  go_wp2_with fail
  refine (Tryz.slices_Contains_int b 0 n c zs _ _ hn hbig hh.out).mono ?_
  rintro e w' ⟨rfl, rfl⟩
  rw [hq.out]
  generalize ht : zs.contains (Lib.compareInt v x) = t
  replace ht := Lib.hid ht
  go_wp2_with fail
  refine (truth_c _ _).mono ?_
  rintro e w' ⟨rfl, rfl⟩
  go_wp2_with fail
  go_ret2
  exact ⟨by rw [ht.out]; first | done | rfl, rfl⟩

set_option maxRecDepth 100000 in
theorem cmp1_c (v x : Int) (w : World) :
    Calls Tryz.prog 65 #[.int .i64 v, .int .i64 x] w fun e w' => e = .returned (.tuple #[.int .i64 (oneOf (decide (v = x))), .int .i64 0]) ∧ Gr w w' := by
  have ht : Hid (([0] : List Int).contains (Lib.compareInt v x) = decide (v = x)) := by
    show _ = _
    rw [Bool.eq_iff_iff, decide_eq_true_iff]
    rcases Int.lt_trichotomy v x with h | h | h
    · have e : Lib.compareInt v x = -1 := by simp [Lib.compareInt, h]
      rw [e, List.contains_iff_mem]
      constructor
      · intro hm; simp at hm <;> omega
      · intro hm; first | (exfalso; omega) | decide
    · have e : Lib.compareInt v x = 0 := by simp [Lib.compareInt, h]
      rw [e, List.contains_iff_mem]
      constructor
      · intro hm; simp at hm <;> omega
      · intro hm; first | (exfalso; omega) | decide
    · have e : Lib.compareInt v x = 1 := by have : ¬ v < x := by omega
                                            simp [Lib.compareInt, h, this]
      rw [e, List.contains_iff_mem]
      constructor
      · intro hm; simp at hm <;> omega
      · intro hm; first | (exfalso; omega) | decide
  have hcell : Hid (∀ (w : World) (j : Nat), j < ([0] : List Int).length → (w.alloc (.cells (([0] : List Int).map (Value.int .i64)).toArray 3)).cell? ⟨w.heap.size, 0 + j, none⟩ = some (.int .i64 (([0] : List Int).getD j 0))) := by
    intro w j hj
    refine (Blk.new w 3 _).cell (0 + j) ?_
    have hj2 : j = 0 ∨ (j = 1 ∧ 1 = 2) := by simp only [List.length_cons, List.length_nil] at hj; omega
    rcases hj2 with rfl | ⟨rfl, hn⟩
    · rfl
    · first | rfl | exact absurd hn (by decide)
  go_enter Tryz.func65, Tryz.ntmps65
  go_wp2_with fail
  refine (ordered_c v x w.heap.size 1 1 [0] _ rfl (by decide) (hcell.out w)).mono ?_
  rintro e w' ⟨rfl, rfl⟩
  rw [ht.out]
  generalize ht2 : decide (v = x) = t
  replace ht2 := Lib.hid ht2
  go_wp2_with fail
  go_ret2
  exact ⟨by rw [ht2.out]; first | done | rfl, (Gr.refl _).cells _ _⟩
set_option maxRecDepth 100000 in
theorem cmp2_c (v x : Int) (w : World) :
    Calls Tryz.prog 67 #[.int .i64 v, .int .i64 x] w fun e w' => e = .returned (.tuple #[.int .i64 (oneOf (decide (¬ v = x))), .int .i64 0]) ∧ Gr w w' := by
  have ht : Hid (([-1,1] : List Int).contains (Lib.compareInt v x) = decide (¬ v = x)) := by
    show _ = _
    rw [Bool.eq_iff_iff, decide_eq_true_iff]
    rcases Int.lt_trichotomy v x with h | h | h
    · have e : Lib.compareInt v x = -1 := by simp [Lib.compareInt, h]
      rw [e, List.contains_iff_mem]
      constructor
      · intro hm; simp at hm <;> omega
      · intro hm; first | (exfalso; omega) | decide
    · have e : Lib.compareInt v x = 0 := by simp [Lib.compareInt, h]
      rw [e, List.contains_iff_mem]
      constructor
      · intro hm; simp at hm <;> omega
      · intro hm; first | (exfalso; omega) | decide
    · have e : Lib.compareInt v x = 1 := by have : ¬ v < x := by omega
                                            simp [Lib.compareInt, h, this]
      rw [e, List.contains_iff_mem]
      constructor
      · intro hm; simp at hm <;> omega
      · intro hm; first | (exfalso; omega) | decide
  have hcell : Hid (∀ (w : World) (j : Nat), j < ([-1,1] : List Int).length → (w.alloc (.cells (([-1,1] : List Int).map (Value.int .i64)).toArray 3)).cell? ⟨w.heap.size, 0 + j, none⟩ = some (.int .i64 (([-1,1] : List Int).getD j 0))) := by
    intro w j hj
    refine (Blk.new w 3 _).cell (0 + j) ?_
    have hj2 : j = 0 ∨ (j = 1 ∧ 2 = 2) := by simp only [List.length_cons, List.length_nil] at hj; omega
    rcases hj2 with rfl | ⟨rfl, hn⟩
    · rfl
    · first | rfl | exact absurd hn (by decide)
  go_enter Tryz.func67, Tryz.ntmps67
  go_wp2_with fail
  refine (ordered_c v x w.heap.size 2 2 [-1,1] _ rfl (by decide) (hcell.out w)).mono ?_
  rintro e w' ⟨rfl, rfl⟩
  rw [ht.out]
  generalize ht2 : decide (¬ v = x) = t
  replace ht2 := Lib.hid ht2
  go_wp2_with fail
  go_ret2
  exact ⟨by rw [ht2.out]; first | done | rfl, (Gr.refl _).cells _ _⟩
set_option maxRecDepth 100000 in
theorem cmp3_c (v x : Int) (w : World) :
    Calls Tryz.prog 68 #[.int .i64 v, .int .i64 x] w fun e w' => e = .returned (.tuple #[.int .i64 (oneOf (decide (v < x))), .int .i64 0]) ∧ Gr w w' := by
  have ht : Hid (([-1] : List Int).contains (Lib.compareInt v x) = decide (v < x)) := by
    show _ = _
    rw [Bool.eq_iff_iff, decide_eq_true_iff]
    rcases Int.lt_trichotomy v x with h | h | h
    · have e : Lib.compareInt v x = -1 := by simp [Lib.compareInt, h]
      rw [e, List.contains_iff_mem]
      constructor
      · intro hm; simp at hm <;> omega
      · intro hm; first | (exfalso; omega) | decide
    · have e : Lib.compareInt v x = 0 := by simp [Lib.compareInt, h]
      rw [e, List.contains_iff_mem]
      constructor
      · intro hm; simp at hm <;> omega
      · intro hm; first | (exfalso; omega) | decide
    · have e : Lib.compareInt v x = 1 := by have : ¬ v < x := by omega
                                            simp [Lib.compareInt, h, this]
      rw [e, List.contains_iff_mem]
      constructor
      · intro hm; simp at hm <;> omega
      · intro hm; first | (exfalso; omega) | decide
  have hcell : Hid (∀ (w : World) (j : Nat), j < ([-1] : List Int).length → (w.alloc (.cells (([-1] : List Int).map (Value.int .i64)).toArray 3)).cell? ⟨w.heap.size, 0 + j, none⟩ = some (.int .i64 (([-1] : List Int).getD j 0))) := by
    intro w j hj
    refine (Blk.new w 3 _).cell (0 + j) ?_
    have hj2 : j = 0 ∨ (j = 1 ∧ 1 = 2) := by simp only [List.length_cons, List.length_nil] at hj; omega
    rcases hj2 with rfl | ⟨rfl, hn⟩
    · rfl
    · first | rfl | exact absurd hn (by decide)
  go_enter Tryz.func68, Tryz.ntmps68
  go_wp2_with fail
  refine (ordered_c v x w.heap.size 1 1 [-1] _ rfl (by decide) (hcell.out w)).mono ?_
  rintro e w' ⟨rfl, rfl⟩
  rw [ht.out]
  generalize ht2 : decide (v < x) = t
  replace ht2 := Lib.hid ht2
  go_wp2_with fail
  go_ret2
  exact ⟨by rw [ht2.out]; first | done | rfl, (Gr.refl _).cells _ _⟩
set_option maxRecDepth 100000 in
theorem cmp4_c (v x : Int) (w : World) :
    Calls Tryz.prog 69 #[.int .i64 v, .int .i64 x] w fun e w' => e = .returned (.tuple #[.int .i64 (oneOf (decide (v ≤ x))), .int .i64 0]) ∧ Gr w w' := by
  have ht : Hid (([-1,0] : List Int).contains (Lib.compareInt v x) = decide (v ≤ x)) := by
    show _ = _
    rw [Bool.eq_iff_iff, decide_eq_true_iff]
    rcases Int.lt_trichotomy v x with h | h | h
    · have e : Lib.compareInt v x = -1 := by simp [Lib.compareInt, h]
      rw [e, List.contains_iff_mem]
      constructor
      · intro hm; simp at hm <;> omega
      · intro hm; first | (exfalso; omega) | decide
    · have e : Lib.compareInt v x = 0 := by simp [Lib.compareInt, h]
      rw [e, List.contains_iff_mem]
      constructor
      · intro hm; simp at hm <;> omega
      · intro hm; first | (exfalso; omega) | decide
    · have e : Lib.compareInt v x = 1 := by have : ¬ v < x := by omega
                                            simp [Lib.compareInt, h, this]
      rw [e, List.contains_iff_mem]
      constructor
      · intro hm; simp at hm <;> omega
      · intro hm; first | (exfalso; omega) | decide
  have hcell : Hid (∀ (w : World) (j : Nat), j < ([-1,0] : List Int).length → (w.alloc (.cells (([-1,0] : List Int).map (Value.int .i64)).toArray 3)).cell? ⟨w.heap.size, 0 + j, none⟩ = some (.int .i64 (([-1,0] : List Int).getD j 0))) := by
    intro w j hj
    refine (Blk.new w 3 _).cell (0 + j) ?_
    have hj2 : j = 0 ∨ (j = 1 ∧ 2 = 2) := by simp only [List.length_cons, List.length_nil] at hj; omega
    rcases hj2 with rfl | ⟨rfl, hn⟩
    · rfl
    · first | rfl | exact absurd hn (by decide)
  go_enter Tryz.func69, Tryz.ntmps69
  go_wp2_with fail
  refine (ordered_c v x w.heap.size 2 2 [-1,0] _ rfl (by decide) (hcell.out w)).mono ?_
  rintro e w' ⟨rfl, rfl⟩
  rw [ht.out]
  generalize ht2 : decide (v ≤ x) = t
  replace ht2 := Lib.hid ht2
  go_wp2_with fail
  go_ret2
  exact ⟨by rw [ht2.out]; first | done | rfl, (Gr.refl _).cells _ _⟩
set_option maxRecDepth 100000 in
theorem cmp5_c (v x : Int) (w : World) :
    Calls Tryz.prog 70 #[.int .i64 v, .int .i64 x] w fun e w' => e = .returned (.tuple #[.int .i64 (oneOf (decide (x < v))), .int .i64 0]) ∧ Gr w w' := by
  have ht : Hid (([1] : List Int).contains (Lib.compareInt v x) = decide (x < v)) := by
    show _ = _
    rw [Bool.eq_iff_iff, decide_eq_true_iff]
    rcases Int.lt_trichotomy v x with h | h | h
    · have e : Lib.compareInt v x = -1 := by simp [Lib.compareInt, h]
      rw [e, List.contains_iff_mem]
      constructor
      · intro hm; simp at hm <;> omega
      · intro hm; first | (exfalso; omega) | decide
    · have e : Lib.compareInt v x = 0 := by simp [Lib.compareInt, h]
      rw [e, List.contains_iff_mem]
      constructor
      · intro hm; simp at hm <;> omega
      · intro hm; first | (exfalso; omega) | decide
    · have e : Lib.compareInt v x = 1 := by have : ¬ v < x := by omega
                                            simp [Lib.compareInt, h, this]
      rw [e, List.contains_iff_mem]
      constructor
      · intro hm; simp at hm <;> omega
      · intro hm; first | (exfalso; omega) | decide
  have hcell : Hid (∀ (w : World) (j : Nat), j < ([1] : List Int).length → (w.alloc (.cells (([1] : List Int).map (Value.int .i64)).toArray 3)).cell? ⟨w.heap.size, 0 + j, none⟩ = some (.int .i64 (([1] : List Int).getD j 0))) := by
    intro w j hj
    refine (Blk.new w 3 _).cell (0 + j) ?_
    have hj2 : j = 0 ∨ (j = 1 ∧ 1 = 2) := by simp only [List.length_cons, List.length_nil] at hj; omega
    rcases hj2 with rfl | ⟨rfl, hn⟩
    · rfl
    · first | rfl | exact absurd hn (by decide)
  go_enter Tryz.func70, Tryz.ntmps70
  go_wp2_with fail
  refine (ordered_c v x w.heap.size 1 1 [1] _ rfl (by decide) (hcell.out w)).mono ?_
  rintro e w' ⟨rfl, rfl⟩
  rw [ht.out]
  generalize ht2 : decide (x < v) = t
  replace ht2 := Lib.hid ht2
  go_wp2_with fail
  go_ret2
  exact ⟨by rw [ht2.out]; first | done | rfl, (Gr.refl _).cells _ _⟩
set_option maxRecDepth 100000 in
theorem cmp6_c (v x : Int) (w : World) :
    Calls Tryz.prog 71 #[.int .i64 v, .int .i64 x] w fun e w' => e = .returned (.tuple #[.int .i64 (oneOf (decide (x ≤ v))), .int .i64 0]) ∧ Gr w w' := by
  have ht : Hid (([0,1] : List Int).contains (Lib.compareInt v x) = decide (x ≤ v)) := by
    show _ = _
    rw [Bool.eq_iff_iff, decide_eq_true_iff]
    rcases Int.lt_trichotomy v x with h | h | h
    · have e : Lib.compareInt v x = -1 := by simp [Lib.compareInt, h]
      rw [e, List.contains_iff_mem]
      constructor
      · intro hm; simp at hm <;> omega
      · intro hm; first | (exfalso; omega) | decide
    · have e : Lib.compareInt v x = 0 := by simp [Lib.compareInt, h]
      rw [e, List.contains_iff_mem]
      constructor
      · intro hm; simp at hm <;> omega
      · intro hm; first | (exfalso; omega) | decide
    · have e : Lib.compareInt v x = 1 := by have : ¬ v < x := by omega
                                            simp [Lib.compareInt, h, this]
      rw [e, List.contains_iff_mem]
      constructor
      · intro hm; simp at hm <;> omega
      · intro hm; first | (exfalso; omega) | decide
  have hcell : Hid (∀ (w : World) (j : Nat), j < ([0,1] : List Int).length → (w.alloc (.cells (([0,1] : List Int).map (Value.int .i64)).toArray 3)).cell? ⟨w.heap.size, 0 + j, none⟩ = some (.int .i64 (([0,1] : List Int).getD j 0))) := by
    intro w j hj
    refine (Blk.new w 3 _).cell (0 + j) ?_
    have hj2 : j = 0 ∨ (j = 1 ∧ 2 = 2) := by simp only [List.length_cons, List.length_nil] at hj; omega
    rcases hj2 with rfl | ⟨rfl, hn⟩
    · rfl
    · first | rfl | exact absurd hn (by decide)
  go_enter Tryz.func71, Tryz.ntmps71
  go_wp2_with fail
  refine (ordered_c v x w.heap.size 2 2 [0,1] _ rfl (by decide) (hcell.out w)).mono ?_
  rintro e w' ⟨rfl, rfl⟩
  rw [ht.out]
  generalize ht2 : decide (x ≤ v) = t
  replace ht2 := Lib.hid ht2
  go_wp2_with fail
  go_ret2
  exact ⟨by rw [ht2.out]; first | done | rfl, (Gr.refl _).cells _ _⟩
set_option maxRecDepth 100000 in
theorem add_c (v x : Int) (w : World) (hv : -2147483648 ≤ v ∧ v ≤ 2147483647) (hx : -2147483648 ≤ x ∧ x ≤ 2147483647) :
    Calls Tryz.prog 72 #[.int .i64 v, .int .i64 x] w fun e w' => e = .returned (.tuple #[.int .i64 (v + x), .int .i64 0]) ∧ w' = w := by
  obtain ⟨h1, h2⟩ := hv
  obtain ⟨h3, h4⟩ := hx
  go_enter Tryz.func72, Tryz.ntmps72
  go_wp2_with fail
  go_ret2
  exact ⟨rfl, rfl⟩
theorem sub_c (v x : Int) (w : World) (hv : -2147483648 ≤ v ∧ v ≤ 2147483647) (hx : -2147483648 ≤ x ∧ x ≤ 2147483647) :
    Calls Tryz.prog 73 #[.int .i64 v, .int .i64 x] w fun e w' => e = .returned (.tuple #[.int .i64 (v - x), .int .i64 0]) ∧ w' = w := by
  obtain ⟨h1, h2⟩ := hv
  obtain ⟨h3, h4⟩ := hx
  go_enter Tryz.func73, Tryz.ntmps73
  go_wp2_with fail
  go_ret2
  exact ⟨rfl, rfl⟩
theorem mul_c (v x : Int) (w : World) :
    Calls Tryz.prog 74 #[.int .i64 v, .int .i64 x] w fun e w' => e = .returned (.tuple #[.int .i64 (wrap64 (v * x)), .int .i64 0]) ∧ w' = w := by
  go_enter Tryz.func74, Tryz.ntmps74
  go_wp2_with fail
  go_ret2
  exact ⟨rfl, rfl⟩
end Go.Proofs.YtgldbeacjacbcaaGreat
