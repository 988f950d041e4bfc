import Derived.Test.YtbfmkehchddkoaaDoorLx9
namespace Go.Proofs.YtbfmkehchddkoaaDoor
open Go.RowKit

/- The reference's functions. -/
theorem rletter_c (c : UInt8) (w : World) :
    Calls Tryd.prog 45 #[.int .u8 c.toNat] w fun e w' => e = .returned (.bool (isLet c)) ∧ w = w' := by
  go_enter Tryd.func45, Tryd.ntmps45
  go_wp2
  all_goals (go_ret; exact ⟨ret_bool (by simp [isLet]; try omega), rfl⟩)

theorem rdigit_c (c : UInt8) (w : World) :
    Calls Tryd.prog 46 #[.int .u8 c.toNat] w fun e w' => e = .returned (.bool (isDig c)) ∧ w = w' := by
  go_enter Tryd.func46, Tryd.ntmps46
  go_wp2
  all_goals (go_ret; exact ⟨ret_bool (by simp [isDig]; try omega), rfl⟩)

def numGo (lim : Nat) : Nat → List UInt8 → Bool
  | _, [] => true
  | n, c :: l => isDig c && decide (10 * n + (c.toNat - 48) ≤ lim) && numGo lim (10 * n + (c.toNat - 48)) l

theorem isDig_iff (c : UInt8) : isDig c = true ↔ 48 ≤ c.toNat ∧ c.toNat ≤ 57 := by
  simp [isDig]; omega

theorem parse_ge (M : Nat) : ∀ (l : List UInt8) (acc u : Nat), Lib.parseUintM M acc l = .ok u → acc ≤ u
  | [], acc, u, h => by simp [Lib.parseUintM] at h; omega
  | c :: l, acc, u, h => by
    rw [Lib.parseUintM] at h
    by_cases h1 : 48 ≤ c.toNat ∧ c.toNat ≤ 57
    · rw [if_pos h1] at h
      by_cases h2 : 1844674407370955162 ≤ acc
      · rw [if_pos h2] at h; cases h
      · rw [if_neg h2] at h
        by_cases h3 : M < acc * 10 + (c.toNat - 48)
        · rw [if_pos h3] at h; cases h
        · rw [if_neg h3] at h
          have := parse_ge M l _ u h
          omega
    · rw [if_neg h1] at h; cases h

def okLe (lim : Nat) (r : Lib.NumEnd Nat) : Bool := match r with | .ok u => decide (u ≤ lim) | _ => false

theorem numGo_parse (lim : Nat) (hlim : lim ≤ 4294967296) : ∀ (l : List UInt8) (n : Nat), n ≤ lim → numGo lim n l = okLe lim (Lib.parseUintM 18446744073709551615 n l)
  | [], n, hn => by simp [numGo, Lib.parseUintM, okLe, hn]
  | c :: l, n, hn => by
    rw [numGo, Lib.parseUintM]
    by_cases h1 : 48 ≤ c.toNat ∧ c.toNat ≤ 57
    · have hd := (isDig_iff c).2 h1
      rw [if_pos h1, if_neg (by omega), if_neg (by omega), hd, Nat.mul_comm 10 n]
      by_cases h2 : n * 10 + (c.toNat - 48) ≤ lim
      · rw [← numGo_parse lim hlim l _ h2]; simp [h2]
      · simp only [h2, decide_false, Bool.and_false, Bool.false_and]
        cases h3 : Lib.parseUintM 18446744073709551615 (n * 10 + (c.toNat - 48)) l
        all_goals first
          | rfl
          | (have := parse_ge _ _ _ _ h3; simp only [okLe]; symm; rw [decide_eq_false_iff_not]; omega)
    · have hd : isDig c = false := by rw [Bool.eq_false_iff]; intro e; exact h1 ((isDig_iff c).1 e)
      rw [if_neg h1, hd]
      simp [okLe]

theorem isNumS_go (s : ByteArray) (lim : Nat) (hlim : lim ≤ 4294967296) :
    isNumS s lim = (!(decide (1 < s.size) && s.data.toList.head? == some 48) && (decide (0 < s.size) && numGo lim 0 s.data.toList)) := by
  rw [isNumS, parseS, Lib.parseUintB]
  have hz : s.size = s.data.toList.length := by simp
  rw [hz]
  generalize s.data.toList = l
  cases l with
  | nil => simp
  | cons c l =>
    have := numGo_parse lim hlim (c :: l) 0 (by omega)
    rw [this]
    simp only [List.length_cons, reduceCtorEq, if_false]
    have e : (decide (0 < l.length + 1)) = true := by simp
    rw [e, Bool.true_and]
    rfl

theorem drop_cons (s : ByteArray) (k : Nat) (h : k < s.size) : s.data.toList.drop k = s[k] :: s.data.toList.drop (k + 1) := by
  rw [List.drop_eq_getElem_cons (by simpa using h)]; rfl

theorem numGo_step {s : ByteArray} {lim k m : Nat} (h : k < s.size) :
    numGo lim m (s.data.toList.drop k) = (isDig s[k] && decide (10 * m + (s[k].toNat - 48) ≤ lim) && numGo lim (10 * m + (s[k].toNat - 48)) (s.data.toList.drop (k + 1))) := by
  rw [drop_cons s k h, numGo]

theorem rnum_c (s : ByteArray) (lim : Nat) (w : World) (hlim : lim ≤ 4294967296) (hs : s.size ≤ 140737488355328) :
    Calls Tryd.prog 49 #[.string s, .int .i64 lim] w fun e w' => e = .returned (.bool (isNumS s lim)) ∧ w = w' := by
  have hN := Lib.hid (isNumS_go s lim hlim)
  go_enter Tryd.func49, Tryd.ntmps49
  go_wp2
  go_loop [5, 6] (fun n i => ∃ k m : Nat, k ≤ s.size ∧ m ≤ lim ∧ n = .int .i64 m ∧ i = .int .i64 k ∧ Hid (numGo lim 0 s.data.toList = numGo lim m (s.data.toList.drop k)) ∧ Hid (1 < k → ¬ s.data.toList.head? = some 48)) (fun _ i => s.size - (intOf i).toNat)
  case atStart => exact ⟨0, 0, by omega, by omega, rfl, rfl, rfl, fun h => absurd h (by omega)⟩
  case round =>
    obtain ⟨k, m, hk, hm, rfl, rfl, hE, hH⟩ := hrel
    by_cases hlt : k < s.size
    · have hhd : Hid (s.data.toList.head? = some (s[0]'(by omega))) := by show _ = _; rw [list_head s (by omega)]; rfl
      have hst := Lib.hid (numGo_step (lim := lim) (m := m) hlt)
      cases hd : isDig s[k]
      · have hF : Hid (isNumS s lim = false) := by show _ = _; rw [hN.out, hE.out, hst.out, hd]; simp
        go_wp2_with (go_at_call 46; refine (rdigit_c _ _).mono ?_; rintro e w' ⟨rfl, rfl⟩)
        go_ret
        exact ⟨ret_bool hF.out.symm, rfl⟩
      · have hb := (isDig_iff _).1 hd
        obtain ⟨hb1, hb2⟩ := hb
        have hb3 : (48 : Int) ≤ (s[k].toNat : Int) := by omega
        have hb4 : (s[k].toNat : Int) ≤ 57 := by omega
        have h0 : 0 < s.size := by omega
        have hd1 : Hid (isDig s[k] = true) := hd
        by_cases hk1 : k = 1
        · subst hk1
          cases hz : ((s[0].toNat : Int) == 48)
          · by_cases hm2 : 10 * m + (s[1].toNat - 48) ≤ lim
            · go_wp2_with (go_at_call 46; refine (rdigit_c _ _).mono ?_; rintro e w' ⟨rfl, rfl⟩)
              go_round
              case rel =>
                refine ⟨2, 10 * m + (s[1].toNat - 48), by omega, hm2, by congr 1; omega, rfl, ?_, ?_⟩
                · show _ = _
                  rw [hE.out, hst.out, hd1.out]; simp [hm2]
                · intro _ e
                  rw [hhd.out] at e
                  have := Option.some.inj e
                  rw [this] at hz; simp at hz
              case measure => simp [intOf]; omega
            · have hF : Hid (isNumS s lim = false) := by
                show _ = _
                rw [hN.out, hE.out, hst.out]; simp [hm2]
              go_wp2_with (go_at_call 46; refine (rdigit_c _ _).mono ?_; rintro e w' ⟨rfl, rfl⟩)
              go_ret
              exact ⟨ret_bool hF.out.symm, rfl⟩
          · have hF : Hid (isNumS s lim = false) := by
              show _ = _
              have e0 : s[0] = 48 := UInt8.toNat_inj.1 (by simp at hz; show s[0].toNat = 48; omega)
              rw [hN.out, hhd.out, e0]; simp [hlt]
            go_wp2_with (go_at_call 46; refine (rdigit_c _ _).mono ?_; rintro e w' ⟨rfl, rfl⟩)
            go_ret
            exact ⟨ret_bool hF.out.symm, rfl⟩
        · have hk2 : ((k : Int) == 1) = false := by simp; omega
          by_cases hm2 : 10 * m + (s[k].toNat - 48) ≤ lim
          · go_wp2_with (go_at_call 46; refine (rdigit_c _ _).mono ?_; rintro e w' ⟨rfl, rfl⟩)
            go_round
            case rel =>
              refine ⟨k + 1, 10 * m + (s[k].toNat - 48), by omega, hm2, by congr 1; omega, by go_num, ?_, ?_⟩
              · show _ = _
                rw [hE.out, hst.out, hd1.out]; simp [hm2]
              · intro h1
                exact hH.out (by omega)
            case measure => simp [intOf]; omega
          · have hF : Hid (isNumS s lim = false) := by
              show _ = _
              rw [hN.out, hE.out, hst.out]; simp [hm2]
            go_wp2_with (go_at_call 46; refine (rdigit_c _ _).mono ?_; rintro e w' ⟨rfl, rfl⟩)
            go_ret
            exact ⟨ret_bool hF.out.symm, rfl⟩
    · obtain rfl : k = s.size := by omega
      have hE2 : Hid (isNumS s lim = decide (0 < s.size)) := by
        show _ = _
        have e1 : s.data.toList.drop s.size = [] := List.drop_of_length_le (by simp)
        rw [hN.out, hE.out, e1, numGo]
        by_cases h1 : 1 < s.size
        · simp [hH.out h1]
        · simp [h1]
      by_cases hz : s.size = 0
      · have he := str_nil hz
        have he2 : s.toList.isEmpty = true := by simp [he]
        have he3 : (!s.toList.isEmpty) = false := by simp [he]
        go_wp2
        go_ret
        exact ⟨ret_bool (by rw [hE2.out]; simp [hz]), rfl⟩
      · have he : 0 < s.size := by omega
        have he1 := str_ne he
        have he2 : s.toList.isEmpty = false := by simp [he1]
        go_wp2
        go_ret
        exact ⟨ret_bool (by rw [hE2.out]; simp [he]), rfl⟩
end Go.Proofs.YtbfmkehchddkoaaDoor
