import Derived.Test.YtgldbeacjacbcaaGreatEv1
import Derived.LoopTactic
namespace Go.Proofs.YtgldbeacjacbcaaGreat
open Go.RowKit

/-- The operators that want 0 or 1. -/
def logB (op : Int) : Bool := op == 6 || (decide (8 ≤ op) && decide (op ≤ 10))
def areB (op : Int) (zs : List Int) : Bool := zs.all fun v => valB v && (!logB op || bitB v)
theorem areB_take (op : Int) (zs : List Int) (k : Nat) (hk : k < zs.length) (h : areB op (zs.take k) = true) :
    areB op (zs.take (k + 1)) = (valB (zs.getD k 0) && (!logB op || bitB (zs.getD k 0))) := by
  unfold areB at h ⊢
  rw [List.take_succ_eq_append_getElem hk, List.all_append, h]
  simp [List.getD_eq_getElem?_getD, hk]
theorem areB_false (op : Int) (zs : List Int) (k : Nat) (h : areB op (zs.take k) = false) : areB op zs = false := by
  cases e : areB op zs
  · rfl
  · rw [← h]; unfold areB at *; simp at *; intro a ha; exact e a (List.mem_of_mem_take ha)

set_option maxRecDepth 100000 in
theorem areOperands_c (op : Int) (b n c : Nat) (zs : List Int) (w : World) (hn : zs.length = n) (hbig : n ≤ 9223372036854775806)
    (hc : ∀ j, j < zs.length → w.cell? ⟨b, j, none⟩ = some (.int .i64 (zs.getD j 0))) :
    Calls Tryz.prog 24 #[.int .i64 op, .slice (some ⟨b, 0, none⟩) n c] w fun e w' => e = .returned (.bool (areB op zs)) ∧ w' = w := by
  subst hn
  have hL : Hid (∀ k, k < zs.length → areB op (zs.take k) = true → areB op (zs.take (k + 1)) = (valB (zs.getD k 0) && (!logB op || bitB (zs.getD k 0)))) := fun k hk h => areB_take op zs k hk h
  have hF : Hid (∀ k, areB op (zs.take k) = false → areB op zs = false) := fun k h => areB_false op zs k h
  have hW : Hid (areB op zs = areB op (zs.take zs.length)) := by show _ = _; rw [List.take_length]
  rcases (show (op = 6) ∨ (¬ op = 6 ∧ 8 ≤ op ∧ op ≤ 10) ∨ (¬ op = 6 ∧ ¬ 8 ≤ op) ∨ (¬ op = 6 ∧ 8 ≤ op ∧ ¬ op ≤ 10) by omega) with h | ⟨h1, h2, h3⟩ | ⟨h1, h2⟩ | ⟨h1, h2, h3⟩
  · have hG : Hid (logB op = true) := by show _ = _; simp [logB, h]
    subst h
    go_enter Tryz.func24, Tryz.ntmps24
    go_wp2
    go_loop [20] (fun i => ∃ k : Nat, k ≤ zs.length ∧ i = .int .i64 k ∧ Hid (areB 6 (zs.take k) = true)) (fun i => zs.length - (intOf i).toNat)
    case atStart => exact ⟨0, Nat.zero_le _, rfl, rfl⟩
    case round =>
      obtain ⟨k, hk, rfl, hE⟩ := hrel
      by_cases hlt : k < zs.length
      · have hcell := hc k hlt
        have hS := Lib.hid (hL.out k hlt hE.out)
        rw [hG.out] at hS
        obtain ⟨v, hv⟩ : ∃ v, zs.getD k 0 = v := ⟨_, rfl⟩
        rw [hv] at hcell hS
        clear hv hc
        cases e1 : valB v
        · rw [e1] at hS
          go_wp2_with fail
          refine (isValue_c v _).mono ?_
          rintro e w' ⟨rfl, rfl⟩
          rw [e1]
          go_wp2
          go_ret
          exact ⟨ret_bool (by rw [hF.out _ hS.out]), rfl⟩
        · rw [e1] at hS
          go_wp2_with fail
          refine (isValue_c v _).mono ?_
          rintro e w' ⟨rfl, rfl⟩
          rw [e1]
          cases e2 : bitB v
          · rw [e2] at hS
            go_wp2_with fail
            refine (isTruth_c v _).mono ?_
            rintro e w' ⟨rfl, rfl⟩
            rw [e2]
            go_wp2
            go_ret
            exact ⟨ret_bool (by rw [hF.out _ hS.out]), rfl⟩
          · rw [e2] at hS
            go_wp2_with fail
            refine (isTruth_c v _).mono ?_
            rintro e w' ⟨rfl, rfl⟩
            rw [e2]
            go_wp2
            go_round
            case rel => exact ⟨k + 1, by omega, by go_num, hS⟩
            case measure => simp [intOf]; omega
      · obtain rfl : k = zs.length := by omega
        go_wp2
        go_ret
        exact ⟨ret_bool (by rw [hW.out, hE.out]), rfl⟩
  · have he : (op == 6) = false := by simp [h1]
    have hG : Hid (logB op = true) := by show _ = _; simp [logB, h2, h3]
    go_enter Tryz.func24, Tryz.ntmps24
    go_wp2
    go_loop [20] (fun i => ∃ k : Nat, k ≤ zs.length ∧ i = .int .i64 k ∧ Hid (areB op (zs.take k) = true)) (fun i => zs.length - (intOf i).toNat)
    case atStart => exact ⟨0, Nat.zero_le _, rfl, rfl⟩
    case round =>
      obtain ⟨k, hk, rfl, hE⟩ := hrel
      by_cases hlt : k < zs.length
      · have hcell := hc k hlt
        have hS := Lib.hid (hL.out k hlt hE.out)
        rw [hG.out] at hS
        obtain ⟨v, hv⟩ : ∃ v, zs.getD k 0 = v := ⟨_, rfl⟩
        rw [hv] at hcell hS
        clear hv hc
        cases e1 : valB v
        · rw [e1] at hS
          go_wp2_with fail
          refine (isValue_c v _).mono ?_
          rintro e w' ⟨rfl, rfl⟩
          rw [e1]
          go_wp2
          go_ret
          exact ⟨ret_bool (by rw [hF.out _ hS.out]), rfl⟩
        · rw [e1] at hS
          go_wp2_with fail
          refine (isValue_c v _).mono ?_
          rintro e w' ⟨rfl, rfl⟩
          rw [e1]
          cases e2 : bitB v
          · rw [e2] at hS
            go_wp2_with fail
            refine (isTruth_c v _).mono ?_
            rintro e w' ⟨rfl, rfl⟩
            rw [e2]
            go_wp2
            go_ret
            exact ⟨ret_bool (by rw [hF.out _ hS.out]), rfl⟩
          · rw [e2] at hS
            go_wp2_with fail
            refine (isTruth_c v _).mono ?_
            rintro e w' ⟨rfl, rfl⟩
            rw [e2]
            go_wp2
            go_round
            case rel => exact ⟨k + 1, by omega, by go_num, hS⟩
            case measure => simp [intOf]; omega
      · obtain rfl : k = zs.length := by omega
        go_wp2
        go_ret
        exact ⟨ret_bool (by rw [hW.out, hE.out]), rfl⟩
  · have he : (op == 6) = false := by simp [h1]
    have hG : Hid (logB op = false) := by show _ = _; simp [logB, h1]; omega
    go_enter Tryz.func24, Tryz.ntmps24
    go_wp2
    go_loop [20] (fun i => ∃ k : Nat, k ≤ zs.length ∧ i = .int .i64 k ∧ Hid (areB op (zs.take k) = true)) (fun i => zs.length - (intOf i).toNat)
    case atStart => exact ⟨0, Nat.zero_le _, rfl, rfl⟩
    case round =>
      obtain ⟨k, hk, rfl, hE⟩ := hrel
      by_cases hlt : k < zs.length
      · have hcell := hc k hlt
        have hS := Lib.hid (hL.out k hlt hE.out)
        rw [hG.out] at hS
        obtain ⟨v, hv⟩ : ∃ v, zs.getD k 0 = v := ⟨_, rfl⟩
        rw [hv] at hcell hS
        clear hv hc
        cases e1 : valB v
        · rw [e1] at hS
          go_wp2_with fail
          refine (isValue_c v _).mono ?_
          rintro e w' ⟨rfl, rfl⟩
          rw [e1]
          go_wp2
          go_ret
          exact ⟨ret_bool (by rw [hF.out _ hS.out]), rfl⟩
        · rw [e1] at hS
          go_wp2_with fail
          refine (isValue_c v _).mono ?_
          rintro e w' ⟨rfl, rfl⟩
          rw [e1]
          go_wp2
          go_round
          case rel => exact ⟨k + 1, by omega, by go_num, hS⟩
          case measure => simp [intOf]; omega
      · obtain rfl : k = zs.length := by omega
        go_wp2
        go_ret
        exact ⟨ret_bool (by rw [hW.out, hE.out]), rfl⟩
  · have he : (op == 6) = false := by simp [h1]
    have hG : Hid (logB op = false) := by show _ = _; simp [logB, h1]; omega
    go_enter Tryz.func24, Tryz.ntmps24
    go_wp2
    go_loop [20] (fun i => ∃ k : Nat, k ≤ zs.length ∧ i = .int .i64 k ∧ Hid (areB op (zs.take k) = true)) (fun i => zs.length - (intOf i).toNat)
    case atStart => exact ⟨0, Nat.zero_le _, rfl, rfl⟩
    case round =>
      obtain ⟨k, hk, rfl, hE⟩ := hrel
      by_cases hlt : k < zs.length
      · have hcell := hc k hlt
        have hS := Lib.hid (hL.out k hlt hE.out)
        rw [hG.out] at hS
        obtain ⟨v, hv⟩ : ∃ v, zs.getD k 0 = v := ⟨_, rfl⟩
        rw [hv] at hcell hS
        clear hv hc
        cases e1 : valB v
        · rw [e1] at hS
          go_wp2_with fail
          refine (isValue_c v _).mono ?_
          rintro e w' ⟨rfl, rfl⟩
          rw [e1]
          go_wp2
          go_ret
          exact ⟨ret_bool (by rw [hF.out _ hS.out]), rfl⟩
        · rw [e1] at hS
          go_wp2_with fail
          refine (isValue_c v _).mono ?_
          rintro e w' ⟨rfl, rfl⟩
          rw [e1]
          go_wp2
          go_round
          case rel => exact ⟨k + 1, by omega, by go_num, hS⟩
          case measure => simp [intOf]; omega
      · obtain rfl : k = zs.length := by omega
        go_wp2
        go_ret
        exact ⟨ret_bool (by rw [hW.out, hE.out]), rfl⟩
end Go.Proofs.YtgldbeacjacbcaaGreat
