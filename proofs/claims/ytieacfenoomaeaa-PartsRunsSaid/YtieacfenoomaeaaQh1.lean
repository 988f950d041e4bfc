import Derived.Test.YtieacfenoomaeaaQb4
import Derived.RegionTactic
import Derived.Deep.QuietTactic
set_option linter.unusedSimpArgs false
set_option linter.unusedVariables false
namespace Go.Proofs.Ytieacfenoomaeaa
open Go.RowKit

/-- A time that may stand at place k. -/
def tmAt (zs : List Int) (k : Nat) : Bool := isT (zs.getD k 0) && !(decide (0 < k) && decide (zs.getD k 0 < zs.getD (k - 1) 0))
/-- These are ascending times. -/
def tmsB (zs : List Int) : Bool := (List.range zs.length).all (tmAt zs)
theorem tmsB_no {zs : List Int} {k : Nat} (hk : k < zs.length) (h : tmAt zs k = false) : tmsB zs = false := by
  cases hb : tmsB zs
  · rfl
  · have h2 := List.all_eq_true.1 hb k (List.mem_range.2 hk)
    rw [h] at h2
    cases h2
theorem tmsB_yes {zs : List Int} (h : ∀ j, j < zs.length → tmAt zs j = true) : tmsB zs = true :=
  List.all_eq_true.2 fun k hk => h k (List.mem_range.1 hk)
set_option maxRecDepth 100000 in
set_option maxHeartbeats 4000000 in
theorem rtimes_c (w : World) (v : Value) (zs : List Int) (m : Int) (h1 : Is w v zs) : Calls Try.prog 44 #[v, .int .i64 m] w fun r w' => r = .returned (.bool (decide ((zs.length : Int) = m) && tmsB zs)) ∧ Kp [] w w' := by
  obtain ⟨p, c, rfl, hn1, hc1⟩ := h1.val
  obtain ⟨n, hn⟩ : ∃ n, zs.length = n := ⟨_, rfl⟩
  rw [hn] at h1 hn1 ⊢
  replace h1 := Lib.hid h1
  replace hn := Lib.hid hn
  have hbig : n ≤ 9223372036854775807 := by omega
  by_cases hm : (n : Int) = m
  · subst hm
    simp only [decide_true, Bool.true_and]
    go_enter Try.func44, Try.ntmps44
    go_wp2
    go_loopw [5] (fun i wr => ∃ (k : Nat), k ≤ n ∧ i = .int .i64 k ∧ Hid (∀ j, j < k → tmAt zs j = true) ∧ Hid (Kp [] w wr)) (fun i _ => n - (intOf i).toNat)
    case atStart => exact ⟨0, Nat.zero_le _, rfl, fun j hj => absurd hj (Nat.not_lt_zero _), Kp.refl _ _⟩
    case round =>
      obtain ⟨k, hk, rfl, hE, hK⟩ := hrel
      by_cases hlt : k < n
      · obtain ⟨b, off, rfl, hc⟩ := (h1.out.kp hK.out).at_ k (by rw [hn.out]; exact hlt)
        obtain ⟨z, hz⟩ : ∃ z, zs.getD k 0 = z := ⟨_, rfl⟩
        have hT : Hid (tmAt zs k = (isT z && !(decide (0 < k) && decide (z < zs.getD (k - 1) 0)))) := by
          show _ = _
          unfold tmAt
          rw [hz]
        rw [hz] at hc
        replace hz := Lib.hid hz
        have hy : k - 1 < n := by omega
        obtain ⟨b', off', he, hd⟩ := (h1.out.kp hK.out).at_ (k - 1) (by rw [hn.out]; exact hy)
        simp at he
        obtain ⟨rfl, rfl⟩ := he
        obtain ⟨y, hyy⟩ : ∃ y, zs.getD (k - 1) 0 = y := ⟨_, rfl⟩
        rw [hyy] at hd hT
        clear hyy
        have hdk := Lib.hid hK.out
        by_cases z0 : z < 0
        · have c1 : decide (z < 0) = true := by simpa using z0
          have hF : Hid (tmsB zs = false) := tmsB_no (k := k) (by rw [hn.out]; exact hlt) (by rw [hT.out]; simp [isT]; intro h9; omega)
          clear hT z0
          go_wp2_with fail
          go_quiet (fail)
          go_wp2_with fail
          go_ret
          exact ⟨ret_bool hF.out.symm, by first | exact hdk.out.drewN _ | exact hdk.out | exact hdk.out.drew⟩
        · by_cases z9 : 1000000000 < z
          · have c1 : decide (z < 0) = false := by simpa using z0
            have c2 : decide (z > 1000000000) = true := by simpa using z9
            have c2' : decide (1000000000 < z) = true := by simpa using z9
            have hF : Hid (tmsB zs = false) := tmsB_no (k := k) (by rw [hn.out]; exact hlt) (by rw [hT.out]; simp [isT]; intro h9; omega)
            clear hT z0 z9
            go_wp2_with fail
            go_quiet (fail)
            go_wp2_with fail
            go_ret
            exact ⟨ret_bool hF.out.symm, by first | exact hdk.out.drewN _ | exact hdk.out | exact hdk.out.drew⟩
          · have c1 : decide (z < 0) = false := by simpa using z0
            have c2 : decide (z > 1000000000) = false := by simpa using z9
            have c2' : decide (1000000000 < z) = false := by simpa using z9
            have hTt : isT z = true := by simp [isT]; omega
            rw [hTt] at hT
            clear hTt z0 z9
            by_cases hk0 : k = 0
            · have c3 : ¬ 0 < k := by omega
              have hG : Hid (∀ j, j < k + 1 → tmAt zs j = true) := fun j hj => by
                obtain rfl : j = k := by omega
                rw [hT.out, show decide (0 < j) = false by simp; omega]
                rfl
              clear hT hk0
              go_wp2_with fail
              go_quiet (fail)
              go_wp2_with fail
              go_roundw
              case rel => exact ⟨k + 1, by omega, by go_num, hG, by first | exact hdk.out.drewN _ | exact hdk.out | exact hdk.out.drew⟩
              case measure => simp [intOf]; omega
            · have c3 : decide ((k : Int) > 0) = true := by simp; omega
              have c3' : decide (0 < (k : Int)) = true := by simp; omega
              have c3n : decide (0 < k) = true := by simp; omega
              rw [c3n] at hT
              clear c3n
              have hs1 : IntKind.i64.wrap ((k : Int) - 1) = ((k - 1 : Nat) : Int) := by rw [show ((k - 1 : Nat) : Int) = (k : Int) - 1 by omega]; exact IntWalk.i64_in _ (by omega)
              have hs2 : wrap64 ((k : Int) - 1) = ((k - 1 : Nat) : Int) := by rw [show ((k - 1 : Nat) : Int) = (k : Int) - 1 by omega]; exact IntWalk.wrap64_in _ (by omega)
              obtain ⟨k1, hk1⟩ : ∃ k1, k - 1 = k1 := ⟨_, rfl⟩
              rw [hk1] at hd hs1 hs2 hy
              have c3p : 0 < k := by omega
              clear hk1 hk0
              by_cases zy : z < y
              · have c4 : decide (z < y) = true := by simpa using zy
                have hF : Hid (tmsB zs = false) := tmsB_no (k := k) (by rw [hn.out]; exact hlt) (by rw [hT.out, c4]; rfl)
                clear hT zy
                go_wp2_with fail
                go_quiet (fail)
                go_wp2_with fail
                go_ret
                exact ⟨ret_bool hF.out.symm, by first | exact hdk.out.drewN _ | exact hdk.out | exact hdk.out.drew⟩
              · have c4 : decide (z < y) = false := by simpa using zy
                have hG : Hid (∀ j, j < k + 1 → tmAt zs j = true) := fun j hj => by
                  by_cases hjk : j = k
                  · subst hjk
                    rw [hT.out, c4]
                    rfl
                  · exact hE.out j (by omega)
                clear hT zy
                go_wp2_with fail
                go_quiet (fail)
                go_wp2_with fail
                go_roundw
                case rel => exact ⟨k + 1, by omega, by go_num, hG, by first | exact hdk.out.drewN _ | exact hdk.out | exact hdk.out.drew⟩
                case measure => simp [intOf]; omega
      · obtain rfl : k = n := by omega
        have hF : Hid (tmsB zs = true) := tmsB_yes fun j hj => hE.out j (by rw [hn.out] at hj; exact hj)
        go_wp2
        go_ret
        exact ⟨ret_bool hF.out.symm, hK.out⟩
  · have c1 : ((n : Int) != m) = true := by simpa using hm
    have c2 : decide ((n : Int) = m) = false := by simpa using hm
    have c3 : ((n : Int) == m) = false := by simpa using hm
    rw [c2, Bool.false_and]
    go_enter Try.func44, Try.ntmps44
    go_wp2
    go_ret
    exact ⟨rfl, Kp.refl _ _⟩
end Go.Proofs.Ytieacfenoomaeaa
