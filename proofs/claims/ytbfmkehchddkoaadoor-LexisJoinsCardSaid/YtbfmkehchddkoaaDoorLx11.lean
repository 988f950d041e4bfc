import Derived.Test.YtbfmkehchddkoaaDoorLx10
namespace Go.Proofs.YtbfmkehchddkoaaDoor
open Go.RowKit

def isPct (c : UInt8) : Bool := ((c.toNat : Int) == 37)
def pickL {α : Type} (l : List UInt8) (t r n a s : α) : α :=
  if List.isPrefixOf [116, 35] l then t else if isLet (l.headD 0) then r else if isDig (l.headD 0) then n else if isPct (l.headD 0) then a else s
def whichL (l : List UInt8) : Nat := pickL l 81 82 84 85 86
/-- The kind and the length of the token that begins here, zeros if there is none. -/
def tokL (l : List UInt8) : Nat × Nat := pickL l (timeL l) (runL l) (numL l) (adrL l) (sgnL l)

theorem drop_ne {l : List UInt8} {i : Nat} (h : i + 1 ≤ l.length) : ∃ c r, l.drop i = c :: r := by
  cases hd : l.drop i with
  | nil => have := congrArg List.length hd; simp at this; omega
  | cons c r => exact ⟨c, r, rfl⟩

section
variable (s : ByteArray) (b i : Nat) (mp : Value) (w : World)
theorem reader_c (hs : s.size ≤ 140737488355328) (hi : i + 1 ≤ s.size) (h : Scn w b s i mp) :
    Calls Tryd.prog 73 #[.pointer (some ⟨b, 0, none⟩)] w fun e w' => e = .returned (.func (.func (whichL (s.data.toList.drop i))) #[.pointer (some ⟨b, 0, none⟩)] #[]) ∧ ∃ n, w' = w.drewN n := by
  have c0 := h.c0
  have c1 := h.c1
  go_enter Tryd.func73, Tryd.ntmps73
  go_wp2_with fail
  refine (rest_r s i b _ (by exact c0) (by exact c1) (by omega) (by omega)).mono ?_
  rintro e w' ⟨r, n, rfl, hr, hz, rfl⟩
  have hz1 : r.size ≤ 140737488355328 := by rw [hz.out]; omega
  have hz2 : 0 < r.size := by rw [hz.out]; omega
  have hl := Lib.hid (list_head r hz2)
  have hw : Hid (whichL r.data.toList = if Lib.hasPrefix r.data.toList [116, 35] then 81 else if isLet r[0] then 82 else if isDig r[0] then 84 else if ((r[0].toNat : Int) == 37) then 85 else 86) := by
    show _ = _
    rw [whichL, pickL, Lib.hasPrefix]
    congr 1
    rw [hl.out]
    rfl
  cases hP : Lib.hasPrefix r.data.toList [116, 35]
  · cases hl : isLet r[0]
    · cases hd : isDig r[0]
      · cases ha : ((r[0].toNat : Int) == 37)
        all_goals
          go_wp2_with (first | (go_at_call 71; refine (Tryd.strings_HasPrefix _ _ _).mono ?_; rintro e w' ⟨rfl, rfl⟩) | (go_at_call 62; refine (letter_c _ _).mono ?_; rintro e w' ⟨rfl, rfl⟩) | (go_at_call 83; refine (digit_c _ _).mono ?_; rintro e w' ⟨rfl, rfl⟩))
          go_ret
          exact ⟨by rw [← hr.out, hw.out]; simp_all, _, rfl⟩
      · go_wp2_with (first | (go_at_call 71; refine (Tryd.strings_HasPrefix _ _ _).mono ?_; rintro e w' ⟨rfl, rfl⟩) | (go_at_call 62; refine (letter_c _ _).mono ?_; rintro e w' ⟨rfl, rfl⟩) | (go_at_call 83; refine (digit_c _ _).mono ?_; rintro e w' ⟨rfl, rfl⟩))
        go_ret
        exact ⟨by rw [← hr.out, hw.out]; simp_all, _, rfl⟩
    · go_wp2_with (first | (go_at_call 71; refine (Tryd.strings_HasPrefix _ _ _).mono ?_; rintro e w' ⟨rfl, rfl⟩) | (go_at_call 62; refine (letter_c _ _).mono ?_; rintro e w' ⟨rfl, rfl⟩))
      go_ret
      exact ⟨by rw [← hr.out, hw.out]; simp_all, _, rfl⟩
  · go_wp2_with (first | (go_at_call 71; refine (Tryd.strings_HasPrefix _ _ _).mono ?_; rintro e w' ⟨rfl, rfl⟩) | (go_at_call 62; refine (letter_c _ _).mono ?_; rintro e w' ⟨rfl, rfl⟩))
    go_ret
    exact ⟨by rw [← hr.out, hw.out]; simp_all, _, rfl⟩

theorem token_c (mb : Nat) (hs : s.size ≤ 140737488355328) (hi : i + 1 ≤ s.size) (h : Scn w b s i (.map (some mb))) (hm : w.heap[mb]? = some (.map signsE 22)) (hA : Amb w) :
    Calls Tryd.prog 56 #[.pointer (some ⟨b, 0, none⟩)] w fun e w' => e = .returned (.tuple #[.int .i64 (tokL (s.data.toList.drop i)).1, .int .i64 (tokL (s.data.toList.drop i)).2]) ∧ Kp [] w w' := by
  have hrd := Lib.hid (fun w hS => reader_c s b i (.map (some mb)) w hs hi hS)
  have hP0 : List.isPrefixOf [116, 35] (s.data.toList.drop i) = true → i + 2 ≤ s.size := by
    intro hp
    have := (List.isPrefixOf_iff_prefix.1 hp).length_le
    simp at this; omega
  have hP0 := Lib.hid hP0
  obtain ⟨l, hl⟩ : ∃ l, s.data.toList.drop i = l := ⟨_, rfl⟩
  cases hP : List.isPrefixOf [116, 35] l
  · cases hlt : isLet (l.headD 0)
    · cases hd : isDig (l.headD 0)
      · cases ha : isPct (l.headD 0)
        · have hw : Hid (whichL l = 86) := by show _ = _; simp only [if_false, Bool.false_eq_true, whichL, pickL, hP, hlt, hd, ha]
          have ht : Hid (tokL l = sgnL l) := by show _ = _; simp only [if_false, Bool.false_eq_true, tokL, pickL, hP, hlt, hd, ha]
          have hl := Lib.hid hl
          go_enter Tryd.func56, Tryd.ntmps56
          go_wp2_with fail
          refine (hrd.out _ (by exact h)).mono ?_
          rintro e w' ⟨rfl, n, rfl⟩
          rw [hl.out, hw.out]
          go_wp2_with fail
          refine (sign_r s b i _ _ hs hi (by exact h) (by exact hm)).mono ?_
          rintro e w' ⟨rfl, hk⟩
          rw [hl.out]
          go_wp2_with fail
          go_ret2
          exact ⟨by rw [hl.out, ht.out]; rfl, ((Kp.refl [] w).drewN n).trans hk⟩
        · have hw : Hid (whichL l = 85) := by show _ = _; simp only [if_false, if_true, Bool.false_eq_true, whichL, pickL, hP, hlt, hd, ha]
          have ht : Hid (tokL l = adrL l) := by show _ = _; simp only [if_false, if_true, Bool.false_eq_true, tokL, pickL, hP, hlt, hd, ha]
          have hl := Lib.hid hl
          go_enter Tryd.func56, Tryd.ntmps56
          go_wp2_with fail
          refine (hrd.out _ (by exact h)).mono ?_
          rintro e w' ⟨rfl, n, rfl⟩
          rw [hl.out, hw.out]
          go_wp2_with fail
          refine (address_r s b i _ _ hs hi (by exact h) (by exact hA.drewN n)).mono ?_
          rintro e w' ⟨rfl, hk⟩
          rw [hl.out]
          go_wp2_with fail
          go_ret2
          exact ⟨by rw [hl.out, ht.out]; rfl, ((Kp.refl [] w).drewN n).trans hk⟩
      · have hw : Hid (whichL l = 84) := by show _ = _; simp only [if_false, if_true, Bool.false_eq_true, whichL, pickL, hP, hlt, hd]
        have ht : Hid (tokL l = numL l) := by show _ = _; simp only [if_false, if_true, Bool.false_eq_true, tokL, pickL, hP, hlt, hd]
        have hl := Lib.hid hl
        go_enter Tryd.func56, Tryd.ntmps56
        go_wp2_with fail
        refine (hrd.out _ (by exact h)).mono ?_
        rintro e w' ⟨rfl, n, rfl⟩
        rw [hl.out, hw.out]
        go_wp2_with fail
        refine (numeral_r s b i _ _ hs (by omega) (by exact h) (by exact hA.drewN n)).mono ?_
        rintro e w' ⟨rfl, hk⟩
        rw [hl.out]
        go_wp2_with fail
        go_ret2
        exact ⟨by rw [hl.out, ht.out]; rfl, ((Kp.refl [] w).drewN n).trans hk⟩
    · have hw : Hid (whichL l = 82) := by show _ = _; simp only [if_false, if_true, Bool.false_eq_true, whichL, pickL, hP, hlt]
      have ht : Hid (tokL l = runL l) := by show _ = _; simp only [if_false, if_true, Bool.false_eq_true, tokL, pickL, hP, hlt]
      have hl := Lib.hid hl
      go_enter Tryd.func56, Tryd.ntmps56
      go_wp2_with fail
      refine (hrd.out _ (by exact h)).mono ?_
      rintro e w' ⟨rfl, n, rfl⟩
      rw [hl.out, hw.out]
      go_wp2_with fail
      refine (run_r s b i _ _ hs (by omega) (by exact h) (by exact hA.drewN n)).mono ?_
      rintro e w' ⟨rfl, hk⟩
      rw [hl.out]
      go_wp2_with fail
      go_ret2
      exact ⟨by rw [hl.out, ht.out]; rfl, ((Kp.refl [] w).drewN n).trans hk⟩
  · have hw : Hid (whichL l = 81) := by show _ = _; simp only [if_true, whichL, pickL, hP]
    have ht : Hid (tokL l = timeL l) := by show _ = _; simp only [if_true, tokL, pickL, hP]
    have h2 : i + 2 ≤ s.size := hP0.out (by rw [hl]; exact hP)
    have hl := Lib.hid hl
    go_enter Tryd.func56, Tryd.ntmps56
    go_wp2_with fail
    refine (hrd.out _ (by exact h)).mono ?_
    rintro e w' ⟨rfl, n, rfl⟩
    rw [hl.out, hw.out]
    go_wp2_with fail
    refine (time_r s b i _ _ hs h2 (by exact h) (by exact hA.drewN n)).mono ?_
    rintro e w' ⟨rfl, hk⟩
    rw [hl.out]
    go_wp2_with fail
    go_ret2
    exact ⟨by rw [hl.out, ht.out]; rfl, ((Kp.refl [] w).drewN n).trans hk⟩
end
end Go.Proofs.YtbfmkehchddkoaaDoor
