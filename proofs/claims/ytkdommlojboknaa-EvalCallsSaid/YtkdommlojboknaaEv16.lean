import Derived.Test.YtkdommlojboknaaEv15
namespace Go.Proofs.Ytkdommlojboknaa
open Go.RowKit

set_option maxRecDepth 100000 in
theorem sameInts_c (g h n c d : Nat) (ks : List Int) (w : World) (hn : Hid (ks.length = n)) (hbig : n ≤ 9223372036854775806)
    (hg : Hid (∀ w', Gr w w' → ∀ j, j < n → w'.cell? ⟨g, j, none⟩ = some (.int .i64 (ks.getD j 0)))) (hh : Hid (∀ w', Gr w w' → ∀ j, j < n → w'.cell? ⟨h, j, none⟩ = some (.int .i64 (ks.getD j 0)))) :
    Calls Try.prog 20 #[.slice (some ⟨g, 0, none⟩) n c, .slice (some ⟨h, 0, none⟩) n d] w fun e w' => e = .returned (.bool true) ∧ Gr w w' := by
  go_enter Try.func20, Try.ntmps20
  go_wp2
  go_loopw [5] (fun i wr => ∃ k : Nat, k ≤ n ∧ i = .int .i64 k ∧ Gr w wr) (fun i _ => n - (intOf i).toNat)
  case atStart => exact ⟨0, Nat.zero_le _, rfl, Gr.refl _⟩
  case round =>
    obtain ⟨k, hk, rfl, hG⟩ := hrel
    by_cases hlt : k < n
    · have c1 := hg.out wr hG k hlt
      have c2 := hh.out wr hG k hlt
      obtain ⟨v, hv⟩ : ∃ v, ks.getD k 0 = v := ⟨_, rfl⟩
      rw [hv] at c1 c2
      clear hv
      have hi : (k : Int) < (n : Int) := by omega
      have hi0 : (0 : Int) ≤ (k : Int) := by omega
      go_wp2
      go_quiet (fail)
      go_wp2
      go_roundw
      case rel => exact ⟨k + 1, by omega, by go_num, hG.drewN _⟩
      case measure => simp [intOf]; omega
    · obtain rfl : k = n := by omega
      go_wp2
      go_ret
      exact ⟨rfl, hG⟩
set_option maxRecDepth 100000 in
theorem right_len (p q : Option Addr) (n c m d : Nat) (w : World) (h : ¬ (m : Int) = (n : Int)) (_ : n ≤ 9223372036854775807) (_ : m ≤ 9223372036854775807) :
    Calls Try.prog 21 #[.slice p m d, .slice q n c] w fun e w' => e = .returned (.bool false) ∧ w' = w := by
  have h1 : ((m : Int) == (n : Int)) = false := by simpa using h
  have h2 : ((m : Int) != (n : Int)) = true := by simpa using h
  clear h
  go_enter Try.func21, Try.ntmps21
  go_wp2
  go_ret
  exact ⟨rfl, rfl⟩
set_option maxRecDepth 100000 in
set_option maxHeartbeats 1000000 in
theorem right_c (g b off n c d : Nat) (ks zs : List Int) (w : World) (hn : zs.length = n) (hl : Hid (ks.length = zs.length)) (hbig : n ≤ 9223372036854775806)
    (hk : ∀ j, j < ks.length → w.cell? ⟨g, j, none⟩ = some (.int .i64 (ks.getD j 0)))
    (hc : ∀ j, j < zs.length → w.cell? ⟨b, off + j, none⟩ = some (.int .i64 (zs.getD j 0))) :
    Calls Try.prog 21 #[.slice (some ⟨g, 0, none⟩) n d, .slice (some ⟨b, off, none⟩) n c] w fun e w' => e = .returned (.bool (allB ks zs)) ∧ w' = w := by
  subst hn
  have hL : Hid (∀ k, k < zs.length → allB (ks.take k) (zs.take k) = true → allB (ks.take (k + 1)) (zs.take (k + 1)) = (valB (zs.getD k 0) && (!(ks.getD k 0 == 1) || bitB (zs.getD k 0)))) := fun k hk h => allB_take ks zs k hl.out hk h
  have hF : Hid (∀ k, allB (ks.take k) (zs.take k) = false → allB ks zs = false) := fun k h => allB_false ks zs k h
  have hW : Hid (allB ks zs = allB (ks.take zs.length) (zs.take zs.length)) := by show _ = _; rw [List.take_length, ← hl.out, List.take_length]
  have hK : Hid (∀ (j : Nat), j < zs.length → w.cell? ⟨g, j, none⟩ = some (.int .i64 (ks.getD j 0))) := fun j hj => hk j (by rw [hl.out]; exact hj)
  have hC : Hid (∀ (j : Nat), j < zs.length → w.cell? ⟨b, off + j, none⟩ = some (.int .i64 (zs.getD j 0))) := hc
  clear hk hc
  go_enter Try.func21, Try.ntmps21
  go_wp2
  go_loop [5] (fun i => ∃ k : Nat, k ≤ zs.length ∧ i = .int .i64 k ∧ Hid (allB (ks.take k) (zs.take k) = true)) (fun i => zs.length - (intOf i).toNat)
  case atStart => exact ⟨0, Nat.zero_le _, rfl, rfl⟩
  case round =>
    obtain ⟨k, hk, rfl, hE⟩ := hrel
    by_cases hlt : k < zs.length
    · have hcell := hC.out k hlt
      have hkell := hK.out k hlt
      have hS := Lib.hid (hL.out k hlt hE.out)
      obtain ⟨v, hv⟩ : ∃ v, zs.getD k 0 = v := ⟨_, rfl⟩
      obtain ⟨u, hu⟩ : ∃ u, ks.getD k 0 = u := ⟨_, rfl⟩
      rw [hv] at hcell hS
      rw [hu] at hkell hS
      clear hv hu
      cases e1 : valB v
      · rw [e1] at hS
        go_wp2_with fail
        refine (rValue_c v _).mono ?_
        rintro e w' ⟨rfl, rfl⟩
        rw [e1]
        go_wp2
        go_ret
        exact ⟨ret_bool (by rw [hF.out _ hS.out]), rfl⟩
      · rw [e1] at hS
        by_cases hu1 : u = 1
        · subst hu1
          cases e2 : bitB v
          · rw [e2] at hS
            go_wp2_with fail
            refine (rValue_c v _).mono ?_
            rintro e w' ⟨rfl, rfl⟩
            rw [e1]
            go_wp2_with fail
            refine (bit_c v _).mono ?_
            rintro e w' ⟨rfl, rfl⟩
            rw [e2]
            go_wp2
            go_ret
            exact ⟨ret_bool (by rw [hF.out _ hS.out]), rfl⟩
          · rw [e2] at hS
            go_wp2_with fail
            refine (rValue_c v _).mono ?_
            rintro e w' ⟨rfl, rfl⟩
            rw [e1]
            go_wp2_with fail
            refine (bit_c v _).mono ?_
            rintro e w' ⟨rfl, rfl⟩
            rw [e2]
            go_wp2
            go_round
            case rel => exact ⟨k + 1, by omega, by go_num, hS⟩
            case measure => simp [intOf]; omega
        · have hu2 : (u == 1) = false := by simpa using hu1
          rw [hu2] at hS
          clear hu1
          go_wp2_with fail
          refine (rValue_c v _).mono ?_
          rintro e w' ⟨rfl, rfl⟩
          rw [e1]
          go_wp2
          go_round
          case rel => exact ⟨k + 1, by omega, by go_num, hS⟩
          case measure => simp [intOf]; omega
    · obtain rfl : k = zs.length := by omega
      go_wp2
      go_ret
      exact ⟨ret_bool (by rw [hW.out, hE.out]), rfl⟩
set_option maxRecDepth 100000 in
theorem rkinds_0 (w : World) :
    Calls Try.prog 19 #[.string ⟨#[97, 98, 115]⟩] w fun e w' => e = .returned (.tuple #[.slice (some ⟨w.heap.size, 0, none⟩) 1 1, .int .i64 2, .bool true]) ∧ w' = w.alloc (.cells #[.int .i64 2] 3) := by
  go_enter Try.func19, Try.ntmps19
  go_wp2
  go_ret3
  exact ⟨rfl, rfl⟩
set_option maxRecDepth 100000 in
theorem rkinds_1 (w : World) :
    Calls Try.prog 19 #[.string ⟨#[109, 105, 110]⟩] w fun e w' => e = .returned (.tuple #[.slice (some ⟨w.heap.size, 0, none⟩) 2 2, .int .i64 2, .bool true]) ∧ w' = w.alloc (.cells #[.int .i64 2, .int .i64 2] 3) := by
  go_enter Try.func19, Try.ntmps19
  go_wp2
  go_ret3
  exact ⟨rfl, rfl⟩
set_option maxRecDepth 100000 in
theorem rkinds_2 (w : World) :
    Calls Try.prog 19 #[.string ⟨#[109, 97, 120]⟩] w fun e w' => e = .returned (.tuple #[.slice (some ⟨w.heap.size, 0, none⟩) 2 2, .int .i64 2, .bool true]) ∧ w' = w.alloc (.cells #[.int .i64 2, .int .i64 2] 3) := by
  go_enter Try.func19, Try.ntmps19
  go_wp2
  go_ret3
  exact ⟨rfl, rfl⟩
set_option maxRecDepth 100000 in
theorem rkinds_3 (w : World) :
    Calls Try.prog 19 #[.string ⟨#[108, 105, 109, 105, 116]⟩] w fun e w' => e = .returned (.tuple #[.slice (some ⟨w.heap.size, 0, none⟩) 3 3, .int .i64 2, .bool true]) ∧ w' = w.alloc (.cells #[.int .i64 2, .int .i64 2, .int .i64 2] 3) := by
  go_enter Try.func19, Try.ntmps19
  go_wp2
  go_ret3
  exact ⟨rfl, rfl⟩
set_option maxRecDepth 100000 in
theorem rkinds_4 (w : World) :
    Calls Try.prog 19 #[.string ⟨#[115, 101, 108]⟩] w fun e w' => e = .returned (.tuple #[.slice (some ⟨w.heap.size, 0, none⟩) 3 3, .int .i64 2, .bool true]) ∧ w' = w.alloc (.cells #[.int .i64 1, .int .i64 2, .int .i64 2] 3) := by
  go_enter Try.func19, Try.ntmps19
  go_wp2
  go_ret3
  exact ⟨rfl, rfl⟩
set_option maxRecDepth 100000 in
theorem rkinds_5 (w : World) :
    Calls Try.prog 19 #[.string ⟨#[116, 111, 98, 111, 111, 108]⟩] w fun e w' => e = .returned (.tuple #[.slice (some ⟨w.heap.size, 0, none⟩) 1 1, .int .i64 1, .bool true]) ∧ w' = w.alloc (.cells #[.int .i64 2] 3) := by
  go_enter Try.func19, Try.ntmps19
  go_wp2
  go_ret3
  exact ⟨rfl, rfl⟩
set_option maxRecDepth 100000 in
theorem rkinds_6 (w : World) :
    Calls Try.prog 19 #[.string ⟨#[116, 111, 105, 110, 116]⟩] w fun e w' => e = .returned (.tuple #[.slice (some ⟨w.heap.size, 0, none⟩) 1 1, .int .i64 2, .bool true]) ∧ w' = w.alloc (.cells #[.int .i64 3] 3) := by
  go_enter Try.func19, Try.ntmps19
  go_wp2
  go_ret3
  exact ⟨rfl, rfl⟩
set_option maxRecDepth 100000 in
theorem rkinds_7 (w : World) :
    Calls Try.prog 19 #[.string ⟨#[116, 111, 116, 105, 109, 101]⟩] w fun e w' => e = .returned (.tuple #[.slice (some ⟨w.heap.size, 0, none⟩) 1 1, .int .i64 3, .bool true]) ∧ w' = w.alloc (.cells #[.int .i64 2] 3) := by
  go_enter Try.func19, Try.ntmps19
  go_wp2
  go_ret3
  exact ⟨rfl, rfl⟩
end Go.Proofs.Ytkdommlojboknaa
