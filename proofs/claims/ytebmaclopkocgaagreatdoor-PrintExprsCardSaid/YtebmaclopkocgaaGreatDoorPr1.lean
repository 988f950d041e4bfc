import Derived.Test.YtebmaclopkocgaaGreatDoorPt7
import Derived.Deep.QuietTactic
import Derived.BigQuiet
set_option linter.unusedSimpArgs false
set_option linter.unusedVariables false
namespace Go.Proofs.YtebmaclopkocgaaGreatDoor
open Go.RowKit

/-- How many operators there are in the rows below i. -/
def cum (i : Nat) : Nat := [0, 1, 2, 3, 5, 9, 11, 14].getD i 14
/-- Cell i of a package-level array is a slice with these elements. -/
def RowAt (w : World) (gl i n : Nat) (E : Nat → Value) : Prop :=
  ∃ b off c, w.cell? ⟨gl, i, none⟩ = some (.slice (some ⟨b, off, none⟩) n c) ∧ n ≤ c ∧ c ≤ 9223372036854775807 ∧ ∀ k, k < n → w.cell? ⟨b, off + k, none⟩ = some (E k)
theorem RowAt.kp {w w' : World} {gl i n : Nat} {E : Nat → Value} (h : RowAt w gl i n E) (k : Kp [] w w') : RowAt w' gl i n E := by
  obtain ⟨b, off, c, h1, h2, h3, h4⟩ := h
  exact ⟨b, off, c, k.cell h1 (by simp), h2, h3, fun j hj => k.cell (h4 j hj) (by simp)⟩
/-- The reference's tables of operators. -/
def SgAt (w : World) : Prop := ∀ i, i < 7 → RowAt w 0 i (cum (i + 1) - cum i) (fun k => .int .i64 ((8 + cum i + k : Nat) : Int)) ∧ RowAt w 1 i (cum (i + 1) - cum i) (fun k => .string (st (sgn ((8 + cum i + k : Nat) : Int))))
theorem SgAt.kp {w w' : World} (h : SgAt w) (k : Kp [] w w') : SgAt w' := fun i hi => ⟨(h i hi).1.kp k, (h i hi).2.kp k⟩
def rlvl (op : Int) : Int := if isTwo op then lvl op - 1 else 7
theorem rlvl_fin : ∀ (i : Fin 7) (k : Fin 4), k.val < cum (i.val + 1) - cum i.val → rlvl ((8 + cum i.val + k.val : Nat) : Int) = i.val := by decide
theorem cum_four : ∀ i : Fin 7, cum (i.val + 1) - cum i.val ≤ 4 := by decide
theorem rlvl_is (i k : Nat) (hi : i < 7) (hk : k < cum (i + 1) - cum i) : rlvl ((8 + cum i + k : Nat) : Int) = i :=
  rlvl_fin ⟨i, hi⟩ ⟨k, Nat.lt_of_lt_of_le hk (cum_four ⟨i, hi⟩)⟩ hk
theorem cum_mono (i : Nat) (hi : i < 7) : cum i ≤ cum (i + 1) ∧ cum (i + 1) ≤ 14 := by
  rcases (show i = 0 ∨ i = 1 ∨ i = 2 ∨ i = 3 ∨ i = 4 ∨ i = 5 ∨ i = 6 by omega) with rfl | rfl | rfl | rfl | rfl | rfl | rfl <;> decide
theorem sgn_none {op : Int} (h : ¬ (8 ≤ op ∧ op ≤ 21)) : sgn op = [] := by
  unfold sgn
  have : opL.find? (fun x => x.1 == op) = none := by
    rw [List.find?_eq_none]
    intro x hx
    have hall : (opL.all fun x => decide (8 ≤ x.1) && decide (x.1 ≤ 21)) = true := by decide
    have := List.all_eq_true.1 hall x hx
    simp at this ⊢
    omega
  rw [this]; rfl

set_option maxRecDepth 100000 in
set_option maxHeartbeats 2000000 in
theorem sign_c (op : Int) (w : World) (h : SgAt w) :
    Calls Tryz.prog 20 #[.int .i64 op] w fun e w' => e = .returned (.tuple #[.int .i64 (rlvl op), .string (st (sgn op))]) ∧ Kp [] w w' := by
  replace h := Lib.hid h
  go_enter Tryz.func20, Tryz.ntmps20
  go_wp2
  go_loop [4] (fun i => ∃ a : Nat, a ≤ 7 ∧ i = .int .i64 a ∧ Hid (¬ (8 ≤ op ∧ op < 8 + cum a))) (fun i => 7 - (intOf i).toNat)
  case atStart => exact ⟨0, by omega, rfl, by show ¬ _; simp [cum]⟩
  case round =>
    obtain ⟨a, ha, rfl, hE⟩ := hrel
    by_cases hlt : a < 7
    · obtain ⟨⟨b, off, c, hc, hnc, hcm, hel⟩, ⟨b', off', c', hc', hnc', hcm', hel'⟩⟩ := h.out a hlt
      have hcu := Lib.hid (cum_mono a hlt)
      obtain ⟨n, hn⟩ : ∃ n, cum (a + 1) - cum a = n := ⟨_, rfl⟩
      rw [hn] at hc hc' hnc hnc'
      have hn9 : n ≤ 14 := by have := hcu.out; omega
      replace hel := Lib.hid hel
      replace hel' := Lib.hid hel'
      replace hn := Lib.hid hn
      go_wp2
      go_loop [5] (fun j => ∃ k : Nat, k ≤ n ∧ j = .int .i64 k ∧ Hid (¬ (8 ≤ op ∧ op < 8 + cum a + k))) (fun j => n - (intOf j).toNat)
      case atStart => exact ⟨0, by omega, rfl, by show ¬ _; simpa using hE.out⟩
      case round =>
        obtain ⟨k, hk, rfl, hF⟩ := hrel
        by_cases hlk : k < n
        · have hk2 : k < cum (a + 1) - cum a := by rw [hn.out]; exact hlk
          have d0 := hel.out k hk2
          have d1 := hel'.out k hk2
          have hlv := rlvl_is a k hlt hk2
          obtain ⟨m, hm⟩ : ∃ m : Int, ((8 + cum a + k : Nat) : Int) = m := ⟨_, rfl⟩
          rw [hm] at d0 d1 hlv
          replace hm := Lib.hid hm
          replace hlv := Lib.hid hlv
          clear hk2
          by_cases hop : m = op
          · have hr1 : Hid (rlvl op = a) := by show _ = _; rw [← hop]; exact hlv.out
            have hr2 : Hid (sgn m = sgn op) := by show _ = _; rw [hop]
            go_wp2
            go_region
            all_goals
              go_wp2
              go_ret2
              rw [hr1.out, ← hr2.out]
              exact ⟨rfl, by repeat (first | exact Kp.refl _ _ | apply Kp.drew | apply Kp.drewN)⟩
          · have hF2 : Hid (¬ (8 ≤ op ∧ op < 8 + cum a + ((k + 1 : Nat) : Int))) := by
              show ¬ _
              have h1 := hF.out; have h2 := hm.out
              push_cast at h2 ⊢
              omega
            go_wp2
            go_round
            case rel => exact ⟨k + 1, by omega, by go_num, hF2⟩
            case measure => simp [intOf]; omega
        · have hF2 : Hid (¬ (8 ≤ op ∧ op < 8 + cum (a + 1))) := by
            show ¬ _
            have h1 := hF.out; have h2 := hn.out; have h3 := hcu.out
            omega
          go_wp2
          go_round
          case rel => exact ⟨a + 1, by omega, by go_num, hF2⟩
          case measure => simp [intOf]; omega
    · have hno : ¬ (8 ≤ op ∧ op ≤ 21) := by
        have h1 := hE.out
        have h2 : a = 7 := by omega
        subst h2
        simp [cum] at h1
        omega
      have hr1 : Hid (rlvl op = 7) := by show _ = _; rw [rlvl, two_no hno]; rfl
      have hr2 : Hid (sgn op = []) := sgn_none hno
      go_wp2
      go_ret2
      rw [hr1.out, hr2.out]
      exact ⟨rfl, Kp.refl _ _⟩
end Go.Proofs.YtebmaclopkocgaaGreatDoor
