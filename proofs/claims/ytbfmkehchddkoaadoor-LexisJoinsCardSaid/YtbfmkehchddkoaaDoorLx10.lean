import Derived.Test.YtbfmkehchddkoaaDoorLx9
namespace Go.Proofs.YtbfmkehchddkoaaDoor
open Go.RowKit

section
variable (s : ByteArray) (b i mb : Nat) (w : World)

theorem sign_r (hs : s.size ≤ 140737488355328) (hi : i + 1 ≤ s.size) (h : Scn w b s i (.map (some mb))) (hm : w.heap[mb]? = some (.map signsE 22)) :
    Calls Tryd.prog 86 #[.pointer (some ⟨b, 0, none⟩)] w fun e w' => e = .returned (.tuple #[.int .i64 (sgnL (s.data.toList.drop i)).1, .int .i64 (sgnL (s.data.toList.drop i)).2]) ∧ Kp [] w w' := by
  have c0 := h.c0
  have c1 := h.c1
  have c2 := h.c2
  have hlk := fun (x : ByteArray) (n : Nat) => look_signs (w.drewN n) mb 22 x hm
  go_enter Tryd.func86, Tryd.ntmps86
  go_wp2_with fail
  refine (rest_r s i b _ (by exact c0) (by exact c1) (by omega) (by omega)).mono ?_
  rintro e w' ⟨r, n, rfl, hr, hz, rfl⟩
  have hz1 : r.size ≤ 140737488355328 := by rw [hz.out]; omega
  have hz2 : 1 ≤ r.size := by rw [hz.out]; omega
  go_wp2_with fail
  go_loopw [5] (fun v wr => ∃ k : Nat, k ≤ 2 ∧ k ≤ r.size ∧ v = .int .i64 k ∧ Hid (∀ j, k < j → j ≤ 2 → j ≤ r.size → isSignS (r.extract 0 j) = false) ∧ ∃ m, wr = w.drewN m) (fun v _ => (intOf v).toNat)
  case atStart => exact ⟨min 2 r.size, by omega, by omega, by congr 1; omega, fun j h1 h2 h3 => by omega, ⟨_, rfl⟩⟩
  case round =>
    obtain ⟨k, hk2, hkr, rfl, hno, m, rfl⟩ := hrel
    by_cases hk0 : k = 0
    · subst hk0
      have hL : Hid (sgnL r.data.toList = (0, 0)) := by
        show _ = _
        have h1 := hno.out 1 (by omega) (by omega) (by omega)
        rw [isSignS_L, extract_to] at h1
        by_cases h2 : 2 ≤ r.size
        · have h22 := hno.out 2 (by omega) (by omega) h2
          rw [isSignS_L, extract_to] at h22
          simp [sgnL, h1, h22]
        · have : ¬ 2 ≤ r.data.toList.length := by simpa using h2
          simp [sgnL, h1, h2]
      go_wp2_with fail
      go_ret2
      exact ⟨by rw [← hr.out, hL.out]; rfl, Kp.drewN (Kp.refl _ _) _⟩
    · have hk1 : (0 : Int) < (k : Int) := by omega
      have hkz : (0 : Int) ≤ (k : Int) := by omega
      cases hsg : isSignS (r.extract 0 k)
      · go_wp2_with fail
        go_quiet (fail)
        go_wp2_with fail
        go_roundw
        case rel =>
          refine ⟨k - 1, by omega, by omega, by congr 1; omega, ?_, ⟨_, rfl⟩⟩
          intro j h1 h2 h3
          by_cases hj : j = k
          · subst hj; exact hsg
          · exact hno.out j (by omega) h2 h3
        case measure => simp [intOf]; omega
      · have hL : Hid (sgnL r.data.toList = (4, k)) := by
          show _ = _
          have hs1 := hsg
          rw [isSignS_L, extract_to] at hs1
          by_cases h2 : k = 2
          · subst h2
            have : 2 ≤ r.data.toList.length := by simpa using hkr
            simp [sgnL, hs1, hkr]
          · have hk1' : k = 1 := by omega
            subst hk1'
            by_cases h2 : 2 ≤ r.size
            · have h22 := hno.out 2 (by omega) (by omega) h2
              rw [isSignS_L, extract_to] at h22
              simp [sgnL, hs1, h22]
            · simp [sgnL, hs1, h2]
        go_wp2_with fail
        go_quiet (fail)
        go_wp2_with fail
        go_ret2
        refine ⟨?_, ((Kp.refl [] w).drewN m).drewN nq⟩
        rw [← hr.out, hL.out]; rfl
end
end Go.Proofs.YtbfmkehchddkoaaDoor
