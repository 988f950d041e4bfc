import Derived.Test.YtbfmkehchddkoaaDoorR3
namespace Go.Proofs.YtbfmkehchddkoaaDoor
open Go.RowKit

theorem isRunB_or (c : UInt8) : isRunB c = (isLet c || isDig c || ((c.toNat : Int) == 95)) := rfl

theorem run_step {s : ByteArray} {k : Nat} (h : k < s.size) (hE : isRunL s.data.toList = (s.data.toList.drop k).all isRunB) :
    isRunL s.data.toList = (isRunB s[k] && (s.data.toList.drop (k + 1)).all isRunB) := by
  rw [hE, drop_cons s k h, List.all_cons]
theorem run_first {s : ByteArray} (h : 0 < s.size) : isRunL s.data.toList = (isLet s[0] && (s.data.toList.drop 1).all isRunB) := by
  have e := drop_cons s 0 h
  rw [List.drop_zero] at e
  rw [e, isRunL, ← e]
  cases hl : isLet s[0]
  · simp
  · have : isRunB s[0] = true := by rw [isRunB_or, hl]; rfl
    rw [e]; simp [this]

theorem rname_c (s : ByteArray) (w : World) (hs : s.size ≤ 140737488355328) :
    Calls Tryd.prog 24 #[.string s] w fun e w' => e = .returned (.bool (isNameL s.data.toList)) ∧ Kp [] w w' := by
  have hN : Hid (isNameL s.data.toList = (decide (s.size ≤ 12) && isRunL s.data.toList && !isWordL s.data.toList)) := by show _ = _; simp [isNameL]
  go_enter Tryd.func24, Tryd.ntmps24
  go_wp2
  go_loop [3] (fun i => ∃ k : Nat, k ≤ s.size ∧ i = .int .i64 k ∧ Hid (0 < k → isRunL s.data.toList = (s.data.toList.drop k).all isRunB)) (fun i => s.size - (intOf i).toNat)
  case atStart => exact ⟨0, by omega, rfl, fun h => absurd h (by omega)⟩
  case round =>
    obtain ⟨k, hk, rfl, hE⟩ := hrel
    by_cases hlt : k < s.size
    · by_cases hk0 : k = 0
      · subst hk0
        have hst := Lib.hid (run_first hlt)
        cases hl : isLet s[0]
        · have hF : Hid (isNameL s.data.toList = false) := by show _ = _; rw [hN.out, hst.out, hl]; simp
          go_wp2_with (first | (go_at_call 45; refine (rletter_c _ _).mono ?_; rintro e w' ⟨rfl, rfl⟩) | (go_at_call 46; refine (rdigit_c _ _).mono ?_; rintro e w' ⟨rfl, rfl⟩))
          go_ret
          exact ⟨ret_bool hF.out.symm, Kp.refl _ _⟩
        · have hl1 : Hid (isLet s[0] = true) := hl
          go_wp2_with (first | (go_at_call 45; refine (rletter_c _ _).mono ?_; rintro e w' ⟨rfl, rfl⟩) | (go_at_call 46; refine (rdigit_c _ _).mono ?_; rintro e w' ⟨rfl, rfl⟩))
          go_round
          case rel => exact ⟨1, by omega, rfl, fun _ => by rw [hst.out, hl1.out]; rfl⟩
          case measure => simp [intOf]; omega
      · have hkz : ((k : Int) == 0) = false := by simp; omega
        have hst := Lib.hid (run_step hlt (hE.out (by omega)))
        have hB := Lib.hid (isRunB_or s[k])
        cases hl : isLet s[k] <;> cases hd : isDig s[k] <;> cases hu : ((s[k].toNat : Int) == 95)
        all_goals
          have hu2 : ((s[k].toNat : Int) != 95) = !((s[k].toNat : Int) == 95) := rfl
          rw [hu] at hu2
          have h1 := hst.out
          rw [hB.out, hl, hd, hu] at h1
          simp only [Bool.or_true, Bool.or_false, Bool.true_and, Bool.false_and] at h1
          replace h1 := Lib.hid h1
          simp only [Bool.not_true, Bool.not_false] at hu2
          go_wp2_with (first | (go_at_call 45; refine (rletter_c _ _).mono ?_; rintro e w' ⟨rfl, rfl⟩) | (go_at_call 46; refine (rdigit_c _ _).mono ?_; rintro e w' ⟨rfl, rfl⟩))
          first
            | (go_round
               case rel => exact ⟨k + 1, by omega, by go_num, fun _ => h1.out⟩
               case measure => simp [intOf]; omega)
            | (go_ret
               exact ⟨ret_bool (by rw [hN.out, h1.out]; simp), Kp.refl _ _⟩)
    · obtain rfl : k = s.size := by omega
      have hR : Hid (isRunL s.data.toList = decide (0 < s.size)) := by
        show _ = _
        by_cases hz : 0 < s.size
        · rw [hE.out hz, List.drop_of_length_le (by simp)]; simp [hz]
        · have : s.data.toList = [] := List.eq_nil_of_length_eq_zero (by rw [Array.length_toList]; show s.size = 0; omega)
          rw [this]; simp [isRunL, hz]
      by_cases h1 : 1 ≤ s.size
      · by_cases h12 : s.size ≤ 12
        · have h0 : 0 < s.size := by omega
          have hF : Hid (isNameL s.data.toList = !isWordL s.data.toList) := by show _ = _; rw [hN.out, hR.out]; simp [h12, h0]
          have g1 : decide ((1 : Int) ≤ (s.size : Int)) = true := by simp; omega
          have g2 : decide ((s.size : Int) ≤ 12) = true := by simp; omega
          go_wp2_with (go_at_call 25; refine (rword_c _ _).mono ?_; rintro e w' ⟨rfl, hk⟩)
          go_ret
          exact ⟨ret_bool hF.out.symm, hk⟩
        · have hF : Hid (isNameL s.data.toList = false) := by show _ = _; rw [hN.out]; simp [h12]
          have g1 : decide ((1 : Int) ≤ (s.size : Int)) = true := by simp; omega
          have g2 : decide ((s.size : Int) ≤ 12) = false := by simp; omega
          go_wp2_with (go_at_call 25; refine (rword_c _ _).mono ?_; rintro e w' ⟨rfl, hk⟩)
          go_ret
          exact ⟨ret_bool hF.out.symm, Kp.refl _ _⟩
      · have h0 : ¬ 0 < s.size := by omega
        have hF : Hid (isNameL s.data.toList = false) := by show _ = _; rw [hN.out, hR.out]; simp [h0]
        have g1 : decide ((1 : Int) ≤ (s.size : Int)) = false := by simp; omega
        go_wp2_with (go_at_call 25; refine (rword_c _ _).mono ?_; rintro e w' ⟨rfl, hk⟩)
        go_ret
        exact ⟨ret_bool hF.out.symm, Kp.refl _ _⟩

def isTimeL (l : List UInt8) : Bool := decide (2 < l.length) && (l.take 2 == [116, 35]) && isNumL (l.drop 2) 2147483647

theorem rtime_c (s : ByteArray) (w : World) (hs : s.size ≤ 140737488355328) :
    Calls Tryd.prog 52 #[.string s] w fun e w' => e = .returned (.bool (isTimeL s.data.toList)) ∧ w = w' := by
  have hN : Hid (isTimeL s.data.toList = (decide (2 < s.size) && (s.data.toList.take 2 == [116, 35]) && isNumS (s.extract 2 s.size) 2147483647)) := by
    show _ = _
    rw [isTimeL, isNumS_L, extract_from]; rfl
  by_cases h2 : 2 < s.size
  · have g1 : decide ((2 : Int) < (s.size : Int)) = true := by simp; omega
    have hi1 : (2 : Int) ≤ (s.size : Int) := by omega
    have hi2 : 2 ≤ s.size := by omega
    have hx : (s.extract 2 s.size).size ≤ 140737488355328 := by simp; omega
    have hxl : Hid ((s.extract 0 2).toList = s.data.toList.take 2) := by show _ = _; rw [Lib.toList_data, extract_to]
    cases ht : ((s.extract 0 2).toList == [116, 35])
    · have hF : Hid (isTimeL s.data.toList = false) := by show _ = _; rw [hN.out, ← hxl.out, ht]; simp
      go_enter Tryd.func52, Tryd.ntmps52
      go_wp2_with (go_at_call 49; refine (rnum_c _ 2147483647 _ (by omega) hx).mono ?_; rintro e w' ⟨rfl, rfl⟩)
      go_ret
      exact ⟨ret_bool hF.out.symm, rfl⟩
    · have hF : Hid (isTimeL s.data.toList = isNumS (s.extract 2 s.size) 2147483647) := by show _ = _; rw [hN.out, ← hxl.out, ht]; simp [h2]
      go_enter Tryd.func52, Tryd.ntmps52
      go_wp2_with (go_at_call 49; refine (rnum_c _ 2147483647 _ (by omega) hx).mono ?_; rintro e w' ⟨rfl, rfl⟩)
      go_ret
      exact ⟨ret_bool hF.out.symm, rfl⟩
  · have g1 : decide ((2 : Int) < (s.size : Int)) = false := by simp; omega
    have hF : Hid (isTimeL s.data.toList = false) := by show _ = _; rw [hN.out]; simp [h2]
    go_enter Tryd.func52, Tryd.ntmps52
    go_wp2_with fail
    go_ret
    exact ⟨ret_bool hF.out.symm, rfl⟩

theorem isNumL_nil (lim : Nat) : isNumL [] lim = false := by
  simp [isNumL, isNumS, parseS, Lib.parseUintB]

theorem addrL_short {l : List UInt8} (h : l.length ≤ 2) : isAddrL l = false := by
  match l, h with
  | [], _ => rfl
  | [_], _ => rfl
  | [c, d], _ => simp [isAddrL, isNumL_nil]

set_option maxHeartbeats 2000000 in
theorem raddr_c (s : ByteArray) (w : World) (hs : s.size ≤ 140737488355328) :
    Calls Tryd.prog 27 #[.string s] w fun e w' => e = .returned (.bool (isAddrL s.data.toList)) ∧ w = w' := by
  by_cases h2 : 2 < s.size
  · have g1 : decide ((2 : Int) < (s.size : Int)) = true := by simp; omega
    have h0 : 0 < s.size := by omega
    have h1 : 1 < s.size := by omega
    have hi1 : (2 : Int) ≤ (s.size : Int) := by omega
    have hi2 : 2 ≤ s.size := by omega
    have hx : (s.extract 2 s.size).size ≤ 140737488355328 := by simp; omega
    have hN := addrS_two hi2
    rw [isAddrS_L] at hN
    replace hN := Lib.hid hN
    cases hp : ((s[0].toNat : Int) == 37)
    · have hF : Hid (isAddrL s.data.toList = false) := by show _ = _; rw [hN.out, hp]; simp
      go_enter Tryd.func27, Tryd.ntmps27
      go_wp2_with fail
      go_ret
      exact ⟨ret_bool hF.out.symm, rfl⟩
    · cases ha : ((s[1].toNat : Int) == 105) <;> cases hb : ((s[1].toNat : Int) == 113) <;> cases hc : ((s[1].toNat : Int) == 109)
      all_goals
        have hF := hN.out
        rw [hp, ha, hb, hc] at hF
        simp only [Bool.or_true, Bool.or_false, Bool.true_and, Bool.and_true, Bool.and_false, Bool.false_and, Bool.or_self] at hF
        replace hF := Lib.hid hF
        go_enter Tryd.func27, Tryd.ntmps27
        go_wp2_with (go_at_call 49; refine (rnum_c _ 63 _ (by omega) hx).mono ?_; rintro e w' ⟨rfl, rfl⟩)
        go_ret
        exact ⟨ret_bool hF.out.symm, rfl⟩
  · have g1 : decide ((2 : Int) < (s.size : Int)) = false := by simp; omega
    have hF := Lib.hid (addrL_short (l := s.data.toList) (by rw [Array.length_toList]; show s.size ≤ 2; omega))
    go_enter Tryd.func27, Tryd.ntmps27
    go_wp2_with fail
    go_ret
    exact ⟨ret_bool hF.out.symm, rfl⟩
end Go.Proofs.YtbfmkehchddkoaaDoor
