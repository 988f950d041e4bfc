import Derived.Test.YtieacfenoomaeaaQa9
set_option linter.unusedSimpArgs false
set_option linter.unusedVariables false
namespace Go.Proofs.Ytieacfenoomaeaa
open Go.RowKit

/-- Values of these kinds, one of each. -/
def areV : List Int → List Int → Bool
  | [], [] => true
  | k :: ks, z :: zs => isV k z && areV ks zs
  | _, _ => false
theorem areV_len : ∀ {ks zs : List Int}, areV ks zs = true → ks.length = zs.length
  | [], [], _ => rfl
  | k :: ks, z :: zs, h => by
    rw [areV, Bool.and_eq_true] at h
    rw [List.length_cons, List.length_cons, areV_len h.2]
  | [], _ :: _, h => by simp [areV] at h
  | _ :: _, [], h => by simp [areV] at h
theorem areV_step {ks zs : List Int} {k : Nat} (h1 : k < ks.length) (h2 : k < zs.length) : areV (ks.drop k) (zs.drop k) = (isV (ks.getD k 0) (zs.getD k 0) && areV (ks.drop (k + 1)) (zs.drop (k + 1))) := by
  rw [List.drop_eq_getElem_cons h1, List.drop_eq_getElem_cons h2, areV]
  simp [List.getD_eq_getElem?_getD, h1, h2]
theorem areV_over {ks zs : List Int} {k : Nat} (h1 : k = ks.length) (h2 : k < zs.length) : areV (ks.drop k) (zs.drop k) = false := by
  subst h1
  rw [List.drop_length, List.drop_eq_getElem_cons h2]
  simp [areV]
theorem areV_end {ks zs : List Int} {k : Nat} (h1 : k ≤ ks.length) (h2 : k = zs.length) : areV (ks.drop k) (zs.drop k) = decide ((zs.length : Int) = (ks.length : Int)) := by
  subst h2
  rw [List.drop_length]
  by_cases h : zs.length = ks.length
  · rw [h, List.drop_length, areV]; simp
  · have hlt : zs.length < ks.length := by omega
    rw [List.drop_eq_getElem_cons hlt]
    simp [areV]
    omega
theorem Is.at_ {w : World} {p : Option Addr} {n c : Nat} {zs : List Int} (h : Is w (.slice p n c) zs) (k : Nat) (hk : k < zs.length) : ∃ b off, p = some ⟨b, off, none⟩ ∧ w.cell? ⟨b, off + k, none⟩ = some (.int .i64 (zs.getD k 0)) := by
  obtain ⟨p', c', h1, _, _, h4⟩ := h
  simp at h1
  obtain ⟨rfl, rfl, rfl⟩ := h1
  rcases h4 with rfl | ⟨b, off, rfl, h6⟩
  · exact absurd hk (Nat.not_lt_zero _)
  · exact ⟨b, off, rfl, h6 k hk⟩
theorem Is.val {w : World} {v : Value} {zs : List Int} (h : Is w v zs) : ∃ p c, v = .slice p zs.length c ∧ zs.length ≤ c ∧ c ≤ 9223372036854775807 := by
  obtain ⟨p, c, h1, h2, h3, _⟩ := h
  exact ⟨p, c, h1, h2, h3⟩

set_option maxRecDepth 100000 in
set_option maxHeartbeats 2000000 in
theorem areValues_c (w : World) (v1 v2 : Value) (ks zs : List Int) (h1 : Is w v1 ks) (h2 : Is w v2 zs) (hb1 : ks.length ≤ 100) :
    Calls Try.prog 46 #[v1, v2] w fun r w' => r = .returned (.bool (areV ks zs)) ∧ w' = w := by
  obtain ⟨p1, c1, rfl, hn1, hc1⟩ := h1.val
  obtain ⟨p2, c2, rfl, hn2, hc2⟩ := h2.val
  have hE0 : Hid (areV ks zs = areV (ks.drop 0) (zs.drop 0)) := rfl
  obtain ⟨n, hn⟩ : ∃ n, zs.length = n := ⟨_, rfl⟩
  obtain ⟨m, hm⟩ : ∃ m, ks.length = m := ⟨_, rfl⟩
  rw [hn] at h2 hn2 ⊢
  rw [hm] at h1 hn1 hb1 ⊢
  replace h1 := Lib.hid h1
  replace h2 := Lib.hid h2
  replace hn := Lib.hid hn
  replace hm := Lib.hid hm
  have hbig : n ≤ 9223372036854775807 := by omega
  go_enter Try.func46, Try.ntmps46
  go_wp2
  go_loop [9] (fun i => ∃ (k : Nat), k ≤ n ∧ k ≤ m ∧ i = .int .i64 k ∧ Hid (areV ks zs = areV (ks.drop k) (zs.drop k))) (fun i => n - (intOf i).toNat)
  case atStart => exact ⟨0, Nat.zero_le _, Nat.zero_le _, rfl, hE0⟩
  case round =>
    obtain ⟨k, hk, hkm, rfl, hE⟩ := hrel
    by_cases hlt : k < n
    · obtain ⟨b, off, rfl, hc⟩ := h2.out.at_ k (by rw [hn.out]; exact hlt)
      obtain ⟨z, hz⟩ : ∃ z, zs.getD k 0 = z := ⟨_, rfl⟩
      rw [hz] at hc
      replace hz := Lib.hid hz
      by_cases hlm : k < m
      · obtain ⟨b1, off1, rfl, hd⟩ := h1.out.at_ k (by rw [hm.out]; exact hlm)
        obtain ⟨u, hu⟩ : ∃ u, ks.getD k 0 = u := ⟨_, rfl⟩
        rw [hu] at hd
        have hS : Hid (areV (ks.drop k) (zs.drop k) = (isV u z && areV (ks.drop (k + 1)) (zs.drop (k + 1)))) := by
          show _ = _
          rw [← hu, ← hz.out]; exact areV_step (by rw [hm.out]; exact hlm) (by rw [hn.out]; exact hlt)
        replace hu := Lib.hid hu
        have hlm2 : decide ((m : Int) ≤ (k : Int)) = false := by simp; omega
        obtain ⟨bb, hbb⟩ : ∃ bb, isV u z = bb := ⟨_, rfl⟩
        rw [hbb] at hS
        go_wp2_with fail
        refine (isValue_c u z _).mono ?_
        rintro r w2 ⟨rfl, rfl⟩
        rw [hbb]
        cases bb
        · go_wp2
          go_ret
          exact ⟨ret_bool (by rw [hE.out, hS.out]; rfl), rfl⟩
        · go_wp2
          go_round
          case rel => exact ⟨k + 1, by omega, by omega, by go_num, by show _ = _; rw [hE.out, hS.out]; rfl⟩
          case measure => simp [intOf]; omega
      · have hlm2 : decide ((m : Int) ≤ (k : Int)) = true := by simp; omega
        have hF : Hid (areV (ks.drop k) (zs.drop k) = false) := areV_over (by rw [hm.out]; omega) (by rw [hn.out]; exact hlt)
        go_wp2
        go_ret
        exact ⟨ret_bool (by rw [hE.out, hF.out]), rfl⟩
    · obtain rfl : k = n := by omega
      have hF : Hid (areV (ks.drop k) (zs.drop k) = decide ((k : Int) = (m : Int))) := by
        show _ = _
        rw [← hm.out, areV_end (by rw [hm.out]; omega) hn.out.symm, hn.out]
      go_wp2
      go_ret
      exact ⟨ret_bool (by rw [hE.out, hF.out]; first | rfl | (rw [Bool.eq_iff_iff]; simp)), rfl⟩
end Go.Proofs.Ytieacfenoomaeaa
