import Derived.Test.YtbfmkehchddkoaaDoorLa1
namespace Go.Proofs.YtbfmkehchddkoaaDoor
open Go.RowKit

def placeStep (q : Nat × Nat) (c : UInt8) : Nat × Nat := if c = 10 then (q.1 + 1, 1) else (q.1, q.2 + 1)
/-- The line and the column behind these bytes. -/
def placeL (l : List UInt8) : Nat × Nat := l.foldl placeStep (1, 1)

theorem placeL_snoc (l : List UInt8) (c : UInt8) : placeL (l ++ [c]) = placeStep (placeL l) c := by simp [placeL]
theorem take_snoc (s : ByteArray) (k : Nat) (h : k < s.size) : s.data.toList.take (k + 1) = s.data.toList.take k ++ [s[k]] := by
  rw [List.take_succ_eq_append_getElem (by simpa using h)]; rfl

theorem place_line (l : List UInt8) : (placeL l).1 = 1 + l.count 10 := by
  have h : ∀ (l : List UInt8) (q : Nat × Nat), (l.foldl placeStep q).1 = q.1 + l.count 10 := by
    intro l
    induction l with
    | nil => intro q; simp
    | cons c l ih =>
      intro q
      rw [List.foldl_cons, ih, List.count_cons, placeStep]
      by_cases hc : c = 10
      · simp [hc]; omega
      · simp [hc]
  exact h l (1, 1)

theorem place_col (s : ByteArray) : ∀ n, n ≤ s.size → ((placeL (s.data.toList.take n)).2 : Int) = n - Lib.lastIdx s 10 n := by
  intro n
  induction n with
  | zero => intro _; simp [placeL, Lib.lastIdx]
  | succ n ih =>
    intro h
    have h1 := ih (by omega)
    rw [take_snoc s n (by omega), placeL_snoc, placeStep, Lib.lastIdx]
    have e : s.data[n]! = s[n] := by
      rw [getElem!_pos s.data n (by show n < s.size; omega)]; rfl
    rw [e]
    by_cases hc : s[n] = 10
    · have : ((s[n].toNat : Int) == 10) = true := by rw [hc]; rfl
      simp [hc]; omega
    · have hc2 : ¬ ((s[n].toNat : Int) = 10) := by
        intro e2
        exact hc (UInt8.toNat_inj.1 (by show s[n].toNat = 10; omega))
      simp [hc, hc2]
      omega

theorem place_all (s : ByteArray) : ((placeL s.data.toList).2 : Int) = s.size - Lib.lastIndexByte s 10 := by
  have := place_col s s.size (Nat.le_refl _)
  rwa [List.take_of_length_le (by simp)] at this

theorem place_ok (s : ByteArray) (n : Nat) (w : World) (hs : s.size ≤ 8000) (hn : n ≤ s.size) :
    Calls Tryd.prog 28 #[.string s, .int .i64 n] w fun e w' => e = .returned (.tuple #[.int .i64 (placeL (s.data.toList.take n)).1, .int .i64 (placeL (s.data.toList.take n)).2, .int .i64 0]) ∧ w = w' := by
  have h1 : decide ((8000 : Int) < (s.size : Int)) = false := by simp; omega
  have h2 : decide ((n : Int) < 0) = false := by simp
  have h3 : decide ((s.size : Int) < (n : Int)) = false := by simp; omega
  obtain ⟨q, hq⟩ : ∃ q, s.extract 0 n = q := ⟨_, rfl⟩
  have hqs : q.size = n := by rw [← hq]; first | (simp; done) | (simp; omega)
  have hql : q.data.toList = s.data.toList.take n := by rw [← hq, extract_to]
  have hL1 := place_line q.data.toList
  have hL2 := place_all q
  rw [hql] at hL1 hL2
  have hcl : (s.data.toList.take n).count 10 ≤ n := Nat.le_trans List.count_le_length (by first | (simp; done) | (simp; omega))
  rw [← hql] at hcl
  have hli := Lib.lastIndexByte_spec q 10
  have hli2 : -1 ≤ Lib.lastIndexByte q 10 ∧ Lib.lastIndexByte q 10 < n := by
    rcases hli with ⟨e, _⟩ | ⟨i, hi, e, _⟩
    · rw [e]; omega
    · rw [e]; omega
  obtain ⟨hli3, hli4⟩ := hli2
  clear hli
  replace hL1 := Lib.hid hL1
  replace hL2 := Lib.hid hL2
  replace hq := Lib.hid hq
  replace hqs := Lib.hid hqs
  replace hql := Lib.hid hql
  have hcl' : Lib.countByte q.data.toList 10 ≤ n := hcl
  clear hcl
  have hqz : q.size < 4611686018427387904 := by rw [hqs.out]; omega
  go_enter Tryd.func28, Tryd.ntmps28
  go_wp2_with fail
  rw [hq.out]
  refine (Tryd.strings_Count_one q 10 _).mono ?_
  rintro e w' ⟨rfl, rfl⟩
  go_wp2_with fail
  refine (Tryd.strings_LastIndexByte q 10 hqz _).mono ?_
  rintro e w' ⟨rfl, rfl⟩
  go_wp2_with fail
  go_ret3
  refine ⟨?_, rfl⟩
  have e1 : (((placeL (s.data.toList.take n)).1 : Nat) : Int) = 1 + (Lib.countByte q.data.toList 10 : Int) := by
    rw [hL1.out, ← hql.out]; simp [Lib.countByte]
  have e2 : (((placeL (s.data.toList.take n)).2 : Nat) : Int) = n - Lib.lastIndexByte q 10 := by rw [hL2.out, hqs.out]
  rw [e1, e2]; rfl

theorem place_no (s : ByteArray) (at_ : Int) (w : World) (h : 8000 < s.size ∨ at_ < 0 ∨ s.size < at_) :
    Calls Tryd.prog 28 #[.string s, .int .i64 at_] w fun e w' => e = .returned (.tuple #[.int .i64 0, .int .i64 0, .int .i64 2]) ∧ w = w' := by
  by_cases h1 : 8000 < s.size
  · have g1 : decide ((8000 : Int) < (s.size : Int)) = true := by simp; omega
    go_enter Tryd.func28, Tryd.ntmps28
    go_wp2_with fail
    go_ret3
    exact ⟨rfl, rfl⟩
  · have g1 : decide ((8000 : Int) < (s.size : Int)) = false := by simp; omega
    by_cases h2 : at_ < 0
    · have g2 : decide (at_ < 0) = true := by simp; omega
      go_enter Tryd.func28, Tryd.ntmps28
      go_wp2_with fail
      go_ret3
      exact ⟨rfl, rfl⟩
    · have g2 : decide (at_ < 0) = false := by simp; omega
      have g3 : decide ((s.size : Int) < at_) = true := by simp; omega
      go_enter Tryd.func28, Tryd.ntmps28
      go_wp2_with fail
      go_ret3
      exact ⟨rfl, rfl⟩

theorem refplace_c (s : ByteArray) (n : Nat) (w : World) (hs : s.size ≤ 8000) (hn : n ≤ s.size) :
    Calls Tryd.prog 29 #[.string s, .int .i64 n] w fun e w' => e = .returned (.tuple #[.int .i64 (placeL (s.data.toList.take n)).1, .int .i64 (placeL (s.data.toList.take n)).2]) ∧ w = w' := by
  go_enter Tryd.func29, Tryd.ntmps29
  go_wp2_with fail
  go_loop [6, 7, 8] (fun a b i => ∃ k x y : Nat, k ≤ n ∧ x ≤ 1 + k ∧ y ≤ 1 + k ∧ a = .int .i64 x ∧ b = .int .i64 y ∧ i = .int .i64 k ∧ Hid (placeL (s.data.toList.take k) = (x, y))) (fun _ _ i => n - (intOf i).toNat)
  case atStart => exact ⟨0, 1, 1, by omega, by omega, by omega, rfl, rfl, rfl, rfl⟩
  case round =>
    obtain ⟨k, x, y, hk, hx, hy, rfl, rfl, rfl, hE⟩ := hrel
    by_cases hlt : k < n
    · have hks : k < s.size := by omega
      have hT := take_snoc s k hks
      cases hc : ((s[k].toNat : Int) == 10)
      · have hE2 : Hid (placeL (s.data.toList.take (k + 1)) = (x, y + 1)) := by
          show _ = _
          have : ¬ s[k] = 10 := by intro e; rw [e] at hc; simp at hc
          rw [hT, placeL_snoc, hE.out, placeStep, if_neg this]
        clear hT
        go_wp2_with fail
        go_round
        case rel => exact ⟨k + 1, x, y + 1, by omega, by omega, by omega, rfl, by go_num, by go_num, hE2⟩
        case measure => simp [intOf]; omega
      · have hE2 : Hid (placeL (s.data.toList.take (k + 1)) = (x + 1, 1)) := by
          show _ = _
          have : s[k] = 10 := UInt8.toNat_inj.1 (by simp at hc; show s[k].toNat = 10; omega)
          rw [hT, placeL_snoc, hE.out, placeStep, if_pos this]
        clear hT
        go_wp2_with fail
        go_round
        case rel => exact ⟨k + 1, x + 1, 1, by omega, by omega, by omega, by go_num, rfl, by go_num, hE2⟩
        case measure => simp [intOf]; omega
    · obtain rfl : k = n := by omega
      go_wp2_with fail
      go_ret2
      refine ⟨?_, rfl⟩
      rw [hE.out]; rfl

def briefS (s : ByteArray) : ByteArray := s.extract 0 (min s.size 8001)
theorem briefS_le (s : ByteArray) : (briefS s).size ≤ 8001 := by simp [briefS]; omega
theorem brief_c (s : ByteArray) (w : World) :
    Calls Tryd.prog 12 #[.string s] w fun e w' => e = .returned (.string (briefS s)) ∧ w = w' := by
  have e1 : (min (s.size : Int) 8001).toNat = min s.size 8001 := by omega
  have e1 := Lib.hid e1
  go_enter Tryd.func12, Tryd.ntmps12
  go_wp2_with fail
  go_ret
  refine ⟨?_, rfl⟩
  rw [briefS, ← e1.out]
  rfl

theorem places_c (s : ByteArray) (at_ : Int) (w : World) (hA : Amb w) :
    Calls Tryd.prog 6 #[.string s, .int .i64 at_] w fun e w' => e = .returned (.bool true) ∧ Kp [] w w' := by
  have hbl := briefS_le s
  by_cases h : 8000 < (briefS s).size ∨ at_ < 0 ∨ (briefS s).size < at_
  · by_cases h1 : 8000 < (briefS s).size
    · have g1 : decide ((8000 : Int) < ((briefS s).size : Int)) = true := by simp; omega
      replace h := Lib.hid h
      go_enter Tryd.func6, Tryd.ntmps6
      go_wp2_with (first | (go_at_call 12; refine (brief_c _ _).mono ?_; rintro e w' ⟨rfl, rfl⟩) | (go_at_call 28; refine (place_no _ _ _ h.out).mono ?_; rintro e w' ⟨rfl, rfl⟩) | (go_at_call 16; refine (awake_c _ hA).mono ?_; rintro e w' ⟨rfl, hk⟩))
      go_ret
      exact ⟨rfl, hk⟩
    · have g1 : decide ((8000 : Int) < ((briefS s).size : Int)) = false := by simp; omega
      by_cases h2 : at_ < 0
      · have g2 : decide (at_ < 0) = true := by simp; omega
        replace h := Lib.hid h
        go_enter Tryd.func6, Tryd.ntmps6
        go_wp2_with (first | (go_at_call 12; refine (brief_c _ _).mono ?_; rintro e w' ⟨rfl, rfl⟩) | (go_at_call 28; refine (place_no _ _ _ h.out).mono ?_; rintro e w' ⟨rfl, rfl⟩) | (go_at_call 16; refine (awake_c _ hA).mono ?_; rintro e w' ⟨rfl, hk⟩))
        go_ret
        exact ⟨rfl, hk⟩
      · have g2 : decide (at_ < 0) = false := by simp; omega
        have g3 : decide (((briefS s).size : Int) < at_) = true := by simp; omega
        replace h := Lib.hid h
        go_enter Tryd.func6, Tryd.ntmps6
        go_wp2_with (first | (go_at_call 12; refine (brief_c _ _).mono ?_; rintro e w' ⟨rfl, rfl⟩) | (go_at_call 28; refine (place_no _ _ _ h.out).mono ?_; rintro e w' ⟨rfl, rfl⟩) | (go_at_call 16; refine (awake_c _ hA).mono ?_; rintro e w' ⟨rfl, hk⟩))
        go_ret
        exact ⟨rfl, hk⟩
  · obtain ⟨n, rfl⟩ : ∃ n : Nat, at_ = n := ⟨at_.toNat, by omega⟩
    have hn : n ≤ (briefS s).size := by omega
    have hs8 : (briefS s).size ≤ 8000 := by omega
    clear h
    have g1 : decide ((8000 : Int) < ((briefS s).size : Int)) = false := by simp; omega
    have g3 : decide (((briefS s).size : Int) < (n : Int)) = false := by simp; omega
    go_enter Tryd.func6, Tryd.ntmps6
    go_wp2_with (first | (go_at_call 12; refine (brief_c _ _).mono ?_; rintro e w' ⟨rfl, rfl⟩) | (go_at_call 28; refine (place_ok _ _ _ hs8 hn).mono ?_; rintro e w' ⟨rfl, rfl⟩) | (go_at_call 29; refine (refplace_c _ _ _ hs8 hn).mono ?_; rintro e w' ⟨rfl, rfl⟩) | (go_at_call 16; refine (awake_c _ hA).mono ?_; rintro e w' ⟨rfl, hk⟩))
    go_ret
    exact ⟨rfl, hk⟩
end Go.Proofs.YtbfmkehchddkoaaDoor
