import Derived.Test.YtbfmkehchddkoaaDoorLa2
namespace Go.Proofs.YtbfmkehchddkoaaDoor
open Go.RowKit

theorem u64_range (x : Int) : 0 ≤ IntKind.u64.wrap x ∧ IntKind.u64.wrap x ≤ 18446744073709551615 := by
  have e : IntKind.u64.wrap x = x % 18446744073709551616 := by simp [IntKind.wrap, IntKind.bits, IntKind.signed]
  rw [e]; omega

theorem mod_c (x : Int) (n : Nat) (w : World) (h1 : 1 ≤ n) (h2 : n ≤ 8001) :
    Calls Tryd.prog 31 #[.int .i64 x, .int .i64 n] w fun e w' => (∃ r : Nat, r < n ∧ e = .returned (.int .i64 r)) ∧ w = w' := by
  go_enter Tryd.func31, Tryd.ntmps31
  go_wp2_with fail
  go_ret
  refine ⟨⟨((IntKind.u64.wrap x).tmod n).toNat, ?_, ?_⟩, rfl⟩
  all_goals
    have h0 := u64_range x
    have e : (IntKind.u64.wrap x).tmod n = (IntKind.u64.wrap x) % n := Int.tmod_eq_emod_of_nonneg h0.1
    have h3 := Int.emod_nonneg (IntKind.u64.wrap x) (b := (n : Int)) (by omega)
    have h4 := Int.emod_lt_of_pos (IntKind.u64.wrap x) (b := (n : Int)) (by omega)
    rw [e]
  · omega
  · rw [IntWalk.wrap64_in _ ⟨by omega, by omega⟩, Int.toNat_of_nonneg h3]; rfl

/-- A string cut to at most k bytes, as the walk writes it. -/
theorem cut_c (s0 : ByteArray) (k : Nat) (K : Int) (h : K = k) : ∃ s : ByteArray, Hid (s0.extract 0 (min (s0.size : Int) K).toNat = s) ∧ Hid (min (min (s0.size : Int) K).toNat s0.size = s.size) ∧ s.size ≤ k :=
  ⟨_, rfl, by show _ = _; simp, by simp; omega⟩

theorem col_facts (s : ByteArray) : ∀ n, (h : n ≤ s.size) → 1 ≤ (placeL (s.data.toList.take n)).2 ∧ (placeL (s.data.toList.take n)).2 ≤ n + 1 ∧
    (∀ g, (hg : g < s.size) → g + 1 + (placeL (s.data.toList.take n)).2 = n + 1 → s[g] = 10) ∧
    (∀ i, (hi : i < s.size) → i < n → n + 1 ≤ i + (placeL (s.data.toList.take n)).2 → s[i] ≠ 10) := by
  intro n
  induction n with
  | zero => intro _; refine ⟨by simp [placeL], by simp [placeL], fun g _ e => ?_, fun i _ hi => absurd hi (by omega)⟩; simp [placeL] at e
  | succ n ih =>
    intro h
    obtain ⟨a, b, c, d⟩ := ih (by omega)
    rw [take_snoc s n (by omega), placeL_snoc, placeStep]
    by_cases hc : s[n] = 10
    · rw [if_pos hc]
      refine ⟨by simp, by simp, fun g hg e => ?_, fun i hi h1 h2 => ?_⟩
      · simp at e; subst e; exact hc
      · simp at h2; omega
    · rw [if_neg hc]
      refine ⟨by simp, by simp; omega, fun g hg e => ?_, fun i hi h1 h2 => ?_⟩
      · simp at e; exact c g hg (by omega)
      · simp at h2
        by_cases hin : i = n
        · subst hin; exact hc
        · exact d i hi (by omega) (by omega)

theorem count_take (s : ByteArray) (k : Nat) (h : k < s.size) : (s.data.toList.take (k + 1)).count 10 = (s.data.toList.take k).count 10 + if ((s[k].toNat : Int) == 10) = true then 1 else 0 := by
  rw [take_snoc s k h, List.count_append, List.count_cons, List.count_nil]
  congr 1
  by_cases hc : s[k] = 10
  · simp [hc]
  · have : ¬ ((s[k].toNat : Int) = 10) := fun e => hc (UInt8.toNat_inj.1 (by show s[k].toNat = 10; omega))
    simp [hc, this]

set_option maxRecDepth 100000 in
theorem counted_c (s0 : ByteArray) (at_ : Int) (w : World) (hA : Amb w) :
    Calls Tryd.prog 11 #[.string s0, .int .i64 at_] w fun e w' => e = .returned (.bool true) ∧ Kp [] w w' := by
  obtain ⟨s, hs, hz, hs8⟩ := cut_c s0 8000 8000 rfl
  go_enter Tryd.func11, Tryd.ntmps11
  go_wp2_with fail
  rw [hs.out, hz.out]
  refine (mod_c at_ (s.size + 1) _ (by omega) (by omega)).mono ?_
  rintro e w' ⟨⟨n, hn, rfl⟩, rfl⟩
  go_wp2_with fail
  refine (place_ok s n _ hs8 (by omega)).mono ?_
  rintro e w' ⟨rfl, rfl⟩
  obtain ⟨A, B, C, D⟩ := col_facts s n (by omega)
  have L := place_line (s.data.toList.take n)
  obtain ⟨ln, hln⟩ : ∃ ln, (placeL (s.data.toList.take n)).1 = ln := ⟨_, rfl⟩
  obtain ⟨cl, hcl⟩ : ∃ cl, (placeL (s.data.toList.take n)).2 = cl := ⟨_, rfl⟩
  rw [hcl] at A B C D
  rw [hln] at L
  rw [hln, hcl]
  have hll : ln ≤ 1 + n := by rw [L]; have := List.count_le_length (a := (10 : UInt8)) (l := s.data.toList.take n); simp at this; omega
  have hl1 : 1 ≤ ln := by omega
  replace L := Lib.hid L
  replace C := Lib.hid C
  replace D := Lib.hid D
  clear hln hcl
  have t1 : decide ((ln : Int) < 1) = false := by simp; omega
  have t2 : decide ((cl : Int) < 1) = false := by simp; omega
  have t3 : decide ((n : Int) + 1 < (cl : Int)) = false := by simp; omega
  obtain ⟨g, hg⟩ : ∃ g : Nat, n + 1 = g + cl := ⟨n + 1 - cl, by omega⟩
  have e : (n : Int) - cl + 1 = g := by omega
  by_cases hg0 : g = 0
  · subst hg0
    go_wp2_with fail
    go_loop [10, 11] (fun c i => ∃ k x : Nat, k ≤ n ∧ x ≤ 1 + k ∧ c = .int .i64 x ∧ i = .int .i64 k ∧ Hid (x = 1 + (s.data.toList.take k).count 10)) (fun _ i => n - (intOf i).toNat)
    case atStart => exact ⟨0, 1, by omega, by omega, rfl, rfl, rfl⟩
    case round =>
      obtain ⟨k, x, hk, hx, rfl, rfl, hE⟩ := hrel
      by_cases hlt : k < n
      · have hks : k < s.size := by omega
        have hct := Lib.hid (count_take s k hks)
        cases hc10 : ((s[k].toNat : Int) == 10)
        · have hE2 : Hid (x = 1 + (s.data.toList.take (k + 1)).count 10) := by
            show _ = _
            have h1 := hct.out
            have h2 := hE.out
            rw [hc10] at h1
            simp only [Bool.false_eq_true, if_false] at h1
            omega
          go_wp2_with fail
          go_round
          case rel => exact ⟨k + 1, x, by omega, by omega, rfl, by go_num, hE2⟩
          case measure => simp [intOf]; omega
        · have hD := D.out k hks hlt
          exact absurd (UInt8.toNat_inj.1 (by simp at hc10; show s[k].toNat = 10; omega)) (hD (by omega))
      · obtain rfl : k = n := by omega
        have hxl : x = ln := by have h1 := hE.out; have h2 := L.out; omega
        subst hxl
        go_wp2_with (go_at_call 16; refine (awake_c _ hA).mono ?_; rintro e w' ⟨rfl, hk⟩)
        go_ret
        exact ⟨rfl, hk⟩
  · have hgs : g - 1 < s.size := by omega
    have hc : ((s[g - 1].toNat : Int) != 10) = false := by rw [C.out (g - 1) hgs (by omega)]; rfl
    go_wp2_with fail
    go_loop [10, 11] (fun c i => ∃ k x : Nat, k ≤ n ∧ x ≤ 1 + k ∧ c = .int .i64 x ∧ i = .int .i64 k ∧ Hid (x = 1 + (s.data.toList.take k).count 10)) (fun _ i => n - (intOf i).toNat)
    case atStart => exact ⟨0, 1, by omega, by omega, rfl, rfl, rfl⟩
    case round =>
      obtain ⟨k, x, hk, hx, rfl, rfl, hE⟩ := hrel
      by_cases hlt : k < n
      · have hks : k < s.size := by omega
        have hct := Lib.hid (count_take s k hks)
        cases hc10 : ((s[k].toNat : Int) == 10)
        · have hE2 : Hid (x = 1 + (s.data.toList.take (k + 1)).count 10) := by
            show _ = _
            have h1 := hct.out
            have h2 := hE.out
            rw [hc10] at h1
            simp only [Bool.false_eq_true, if_false] at h1
            omega
          go_wp2_with fail
          go_round
          case rel => exact ⟨k + 1, x, by omega, by omega, rfl, by go_num, hE2⟩
          case measure => simp [intOf]; omega
        · have hD := D.out k hks hlt
          have hkg : k < g := by
            rcases Nat.lt_or_ge k g with h | h
            · exact h
            · exact absurd (UInt8.toNat_inj.1 (by simp at hc10; show s[k].toNat = 10; omega)) (hD (by omega))
          have hkg1 : decide ((g : Int) ≤ (k : Int)) = false := by simp; omega
          have hE2 : Hid (x + 1 = 1 + (s.data.toList.take (k + 1)).count 10) := by
            show _ = _
            have h1 := hct.out
            have h2 := hE.out
            rw [hc10] at h1
            simp only [if_true] at h1
            omega
          clear hD
          go_wp2_with fail
          go_round
          case rel => exact ⟨k + 1, x + 1, by omega, by omega, by go_num, by go_num, hE2⟩
          case measure => simp [intOf]; omega
      · obtain rfl : k = n := by omega
        have hxl : x = ln := by have h1 := hE.out; have h2 := L.out; omega
        subst hxl
        go_wp2_with (go_at_call 16; refine (awake_c _ hA).mono ?_; rintro e w' ⟨rfl, hk⟩)
        go_ret
        exact ⟨rfl, hk⟩
end Go.Proofs.YtbfmkehchddkoaaDoor
