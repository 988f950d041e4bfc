import Derived.Test.YtgldbeacjacbcaaGreatEv9
namespace Go.Proofs.YtgldbeacjacbcaaGreat
open Go.RowKit

/-- Arguments that a function of these kinds takes. -/
def allB (ks zs : List Int) : Bool := (ks.zip zs).all fun p => valB p.2 && (!(p.1 == 1) || bitB p.2)
theorem allB_take (ks zs : List Int) (k : Nat) (hl : ks.length = zs.length) (hk : k < zs.length) (h : allB (ks.take k) (zs.take k) = true) :
    allB (ks.take (k + 1)) (zs.take (k + 1)) = (valB (zs.getD k 0) && (!(ks.getD k 0 == 1) || bitB (zs.getD k 0))) := by
  unfold allB at h ⊢
  have hk2 : k < ks.length := by omega
  have e : (ks.take (k + 1)).zip (zs.take (k + 1)) = (ks.take k).zip (zs.take k) ++ [(ks.getD k 0, zs.getD k 0)] := by
    rw [List.take_succ_eq_append_getElem hk, List.take_succ_eq_append_getElem hk2, List.zip_append (by simp; omega)]
    simp [List.getD_eq_getElem?_getD, hk, hk2]
  rw [e, List.all_append, h]
  simp
theorem zip_take : ∀ (ks zs : List Int) (k : Nat), (ks.take k).zip (zs.take k) = (ks.zip zs).take k
  | [], _, k => by simp
  | _ :: _, [], k => by simp
  | a :: ks, b :: zs, 0 => rfl
  | a :: ks, b :: zs, k + 1 => by
    have := zip_take ks zs k
    simp [this]
theorem allB_false (ks zs : List Int) (k : Nat) (h : allB (ks.take k) (zs.take k) = false) : allB ks zs = false := by
  cases e : allB ks zs
  · rfl
  · exfalso
    unfold allB at h e
    rw [zip_take] at h
    rw [List.all_eq_true] at e
    have h2 : ((ks.zip zs).take k).all (fun p => valB p.2 && (!(p.1 == 1) || bitB p.2)) = true := by
      rw [List.all_eq_true]; intro a ha; exact e a (List.mem_of_mem_take ha)
    rw [h2] at h
    exact absurd h (by decide)

set_option maxRecDepth 100000 in
theorem takes_len (p q : Option Addr) (n c m d : Nat) (r : Int) (F : Value) (w : World) (h : ¬ (n : Int) = (m : Int)) (_ : n ≤ 9223372036854775807) (_ : m ≤ 9223372036854775807) :
    Calls Tryz.prog 26 #[.agg #[.slice p m d, .int .i64 r, F], .slice q n c] w fun e w' => e = .returned (.bool false) ∧ Gr w w' := by
  have h1 : ((n : Int) == (m : Int)) = false := by simpa using h
  have h2 : ((n : Int) != (m : Int)) = true := by simpa using h
  clear h
  go_enter Tryz.func26, Tryz.ntmps26
  go_wp2
  go_ret
  exact ⟨rfl, (Gr.refl _).cells _ _⟩

set_option maxRecDepth 100000 in
set_option maxHeartbeats 1000000 in
theorem takes_c (g b off n c m d : Nat) (r : Int) (F : Value) (ks zs : List Int) (w : World) (hn : zs.length = n) (hm : ks.length = m) (hl : Hid (ks.length = zs.length)) (hbig : n ≤ 9223372036854775806)
    (hk : ∀ j, j < ks.length → w.cell? ⟨g, j, none⟩ = some (.int .i64 (ks.getD j 0)))
    (hc : ∀ j, j < zs.length → w.cell? ⟨b, off + j, none⟩ = some (.int .i64 (zs.getD j 0))) :
    Calls Tryz.prog 26 #[.agg #[.slice (some ⟨g, 0, none⟩) m d, .int .i64 r, F], .slice (some ⟨b, off, none⟩) n c] w fun e w' => e = .returned (.bool (allB ks zs)) ∧ Gr w w' := by
  subst hn hm
  have hL : Hid (∀ k, k < zs.length → allB (ks.take k) (zs.take k) = true → allB (ks.take (k + 1)) (zs.take (k + 1)) = (valB (zs.getD k 0) && (!(ks.getD k 0 == 1) || bitB (zs.getD k 0)))) := fun k hk h => allB_take ks zs k hl.out hk h
  have hF : Hid (∀ k, allB (ks.take k) (zs.take k) = false → allB ks zs = false) := fun k h => allB_false ks zs k h
  have hW : Hid (allB ks zs = allB (ks.take zs.length) (zs.take zs.length)) := by show _ = _; rw [List.take_length, ← hl.out, List.take_length]
  have hK : Hid (∀ (o : Obj) (j : Nat), j < ks.length → (w.alloc o).cell? ⟨g, j, none⟩ = some (.int .i64 (ks.getD j 0))) := fun o j hj => ((Kp.refl [] w).alloc o).cell (hk j hj) (by simp)
  have hC : Hid (∀ (o : Obj) (j : Nat), j < zs.length → (w.alloc o).cell? ⟨b, off + j, none⟩ = some (.int .i64 (zs.getD j 0))) := fun o j hj => ((Kp.refl [] w).alloc o).cell (hc j hj) (by simp)
  have h1 : ((zs.length : Int) == (ks.length : Int)) = true := by rw [hl.out]; simp
  have h2 : ((zs.length : Int) != (ks.length : Int)) = false := by rw [hl.out]; simp
  have hbk : Hid (ks.length ≤ 9223372036854775806) := by rw [hl.out]; exact hbig
  clear hk hc
  go_enter Tryz.func26, Tryz.ntmps26
  go_wp2
  go_loop [15] (fun i => ∃ k : Nat, k ≤ zs.length ∧ i = .int .i64 k ∧ Hid (allB (ks.take k) (zs.take k) = true)) (fun i => zs.length - (intOf i).toNat)
  case atStart => exact ⟨0, Nat.zero_le _, rfl, rfl⟩
  case round =>
    obtain ⟨k, hk, rfl, hE⟩ := hrel
    by_cases hlt : k < zs.length
    · have hcell := hC.out (.cells #[.slice (some ⟨g, 0, none⟩) ks.length d, .int .i64 r, F] 60) k hlt
      have hlk : k < ks.length := by rw [hl.out]; exact hlt
      have hkell := hK.out (.cells #[.slice (some ⟨g, 0, none⟩) ks.length d, .int .i64 r, F] 60) k hlk
      have hbk2 := hbk.out
      have hS := Lib.hid (hL.out k hlt hE.out)
      obtain ⟨v, hv⟩ : ∃ v, zs.getD k 0 = v := ⟨_, rfl⟩
      obtain ⟨u, hu⟩ : ∃ u, ks.getD k 0 = u := ⟨_, rfl⟩
      rw [hv] at hcell hS
      rw [hu] at hkell hS
      clear hv hu
      cases e1 : valB v
      · rw [e1] at hS
        go_wp2_with fail
        refine (isValue_c v _).mono ?_
        rintro e w' ⟨rfl, rfl⟩
        rw [e1]
        go_wp2
        go_ret
        exact ⟨ret_bool (by rw [hF.out _ hS.out]), (Gr.refl _).cells _ _⟩
      · rw [e1] at hS
        by_cases hu1 : u = 1
        · subst hu1
          cases e2 : bitB v
          · rw [e2] at hS
            go_wp2_with fail
            refine (isValue_c v _).mono ?_
            rintro e w' ⟨rfl, rfl⟩
            rw [e1]
            go_wp2_with fail
            refine (isTruth_c v _).mono ?_
            rintro e w' ⟨rfl, rfl⟩
            rw [e2]
            go_wp2
            go_ret
            exact ⟨ret_bool (by rw [hF.out _ hS.out]), (Gr.refl _).cells _ _⟩
          · rw [e2] at hS
            go_wp2_with fail
            refine (isValue_c v _).mono ?_
            rintro e w' ⟨rfl, rfl⟩
            rw [e1]
            go_wp2_with fail
            refine (isTruth_c v _).mono ?_
            rintro e w' ⟨rfl, rfl⟩
            rw [e2]
            go_wp2
            go_round
            case rel => exact ⟨k + 1, by omega, by go_num, hS⟩
            case measure => simp [intOf]; omega
        · have hu2 : (u == 1) = false := by simpa using hu1
          rw [hu2] at hS
          clear hu1
          go_wp2_with fail
          refine (isValue_c v _).mono ?_
          rintro e w' ⟨rfl, rfl⟩
          rw [e1]
          go_wp2
          go_round
          case rel => exact ⟨k + 1, by omega, by go_num, hS⟩
          case measure => simp [intOf]; omega
    · obtain rfl : k = zs.length := by omega
      go_wp2
      go_ret
      exact ⟨ret_bool (by rw [hW.out, hE.out]), (Gr.refl _).cells _ _⟩
end Go.Proofs.YtgldbeacjacbcaaGreat
