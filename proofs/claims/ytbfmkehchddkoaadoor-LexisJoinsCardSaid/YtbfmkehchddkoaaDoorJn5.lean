import Derived.Test.YtbfmkehchddkoaaDoorSc4
namespace Go.Proofs.YtbfmkehchddkoaaDoor
open Go.RowKit

theorem qtok_1 (y : ByteArray) (p : Int) (w : World) (hs : y.size ≤ 140737488355328) :
    Calls Tryd.prog 30 #[.agg #[.int .i64 1, .string y, .int .i64 p]] w fun e w' => e = .returned (.bool (isNameL y.data.toList)) ∧ Kp [] w w' := by
  have _ := hs
  go_enter Tryd.func30, Tryd.ntmps30
  go_wp2_with fail
  refine (rname_c y _ (by omega)).mono ?_
  rintro e w1 ⟨rfl, hk⟩
  go_wp2_with fail
  go_ret
  first
    | exact ⟨rfl, ((Kp.refl _ w).alloc _).trans hk⟩
    | exact ⟨rfl, (Kp.refl _ w).alloc _⟩
theorem qtok_2 (y : ByteArray) (p : Int) (w : World) (hs : y.size ≤ 140737488355328) :
    Calls Tryd.prog 30 #[.agg #[.int .i64 2, .string y, .int .i64 p]] w fun e w' => e = .returned (.bool (isNumS y 2147483647)) ∧ Kp [] w w' := by
  have _ := hs
  go_enter Tryd.func30, Tryd.ntmps30
  go_wp2_with fail
  refine (rnum_c y 2147483647 _ (by omega) (by omega)).mono ?_
  rintro e w1 ⟨rfl, rfl⟩
  go_wp2_with fail
  go_ret
  first
    | exact ⟨rfl, ((Kp.refl _ w).alloc _).trans hk⟩
    | exact ⟨rfl, (Kp.refl _ w).alloc _⟩
theorem qtok_3 (y : ByteArray) (p : Int) (w : World) (hs : y.size ≤ 140737488355328) :
    Calls Tryd.prog 30 #[.agg #[.int .i64 3, .string y, .int .i64 p]] w fun e w' => e = .returned (.bool (isTimeL y.data.toList)) ∧ Kp [] w w' := by
  have _ := hs
  go_enter Tryd.func30, Tryd.ntmps30
  go_wp2_with fail
  refine (rtime_c y _ (by omega)).mono ?_
  rintro e w1 ⟨rfl, rfl⟩
  go_wp2_with fail
  go_ret
  first
    | exact ⟨rfl, ((Kp.refl _ w).alloc _).trans hk⟩
    | exact ⟨rfl, (Kp.refl _ w).alloc _⟩
theorem qtok_4 (y : ByteArray) (p : Int) (w : World) (hs : y.size ≤ 140737488355328) :
    Calls Tryd.prog 30 #[.agg #[.int .i64 4, .string y, .int .i64 p]] w fun e w' => e = .returned (.bool (isSignL y.data.toList)) ∧ Kp [] w w' := by
  have _ := hs
  go_enter Tryd.func30, Tryd.ntmps30
  go_wp2_with fail
  refine (rsign_c y _).mono ?_
  rintro e w1 ⟨rfl, hk⟩
  go_wp2_with fail
  go_ret
  first
    | exact ⟨rfl, ((Kp.refl _ w).alloc _).trans hk⟩
    | exact ⟨rfl, (Kp.refl _ w).alloc _⟩
theorem qtok_5 (y : ByteArray) (p : Int) (w : World) (hs : y.size ≤ 140737488355328) :
    Calls Tryd.prog 30 #[.agg #[.int .i64 5, .string y, .int .i64 p]] w fun e w' => e = .returned (.bool (isWordL y.data.toList)) ∧ Kp [] w w' := by
  have _ := hs
  go_enter Tryd.func30, Tryd.ntmps30
  go_wp2_with fail
  refine (rword_c y _).mono ?_
  rintro e w1 ⟨rfl, hk⟩
  go_wp2_with fail
  go_ret
  first
    | exact ⟨rfl, ((Kp.refl _ w).alloc _).trans hk⟩
    | exact ⟨rfl, (Kp.refl _ w).alloc _⟩
theorem qtok_6 (y : ByteArray) (p : Int) (w : World) (hs : y.size ≤ 140737488355328) :
    Calls Tryd.prog 30 #[.agg #[.int .i64 6, .string y, .int .i64 p]] w fun e w' => e = .returned (.bool (isAddrL y.data.toList)) ∧ Kp [] w w' := by
  have _ := hs
  go_enter Tryd.func30, Tryd.ntmps30
  go_wp2_with fail
  refine (raddr_c y _ (by omega)).mono ?_
  rintro e w1 ⟨rfl, rfl⟩
  go_wp2_with fail
  go_ret
  first
    | exact ⟨rfl, ((Kp.refl _ w).alloc _).trans hk⟩
    | exact ⟨rfl, (Kp.refl _ w).alloc _⟩

/-- What the reference asks. -/
def isTokR (x : TI) : Bool := isTokI x || isEndI x

theorem tokI_B {k : Nat} {y : ByteArray} {p : Int} (h1 : 1 ≤ k) (h6 : k ≤ 6) : isTokI ⟨k, y, p⟩ = isTokB k y.data.toList := by
  have hl : y.data.toList.length = y.size := by rw [Array.length_toList]; rfl
  rw [Bool.eq_iff_iff]
  constructor
  · intro h
    simp only [isTokI, Bool.and_eq_true, decide_eq_true_eq] at h
    obtain ⟨⟨a, b⟩, c⟩ := h
    have hT : tokL y.data.toList = (k, y.size) := Prod.ext (by show _ = k; omega) c
    have := (tok_is hT (by omega)).1
    rwa [← hl, List.take_length] at this
  · intro h
    obtain ⟨hT, hn⟩ := tok_of h (by omega)
    have hp : 0 < y.size := by rw [← hl]; exact List.length_pos_iff.2 hn
    simp [isTokI, hT, hp, hl]

theorem tokI_kinds {x : TI} (h : isTokI x = true) : 1 ≤ x.kind ∧ x.kind ≤ 6 := by
  simp only [isTokI, Bool.and_eq_true, decide_eq_true_eq] at h
  obtain ⟨⟨a, b⟩, c⟩ := h
  have := tok_is (l := x.text.data.toList) (kk := (tokL x.text.data.toList).1) (ll := x.text.size) (Prod.ext rfl c) (by omega)
  omega

theorem endI_B (k : Nat) (y : ByteArray) (p : Int) (h7 : k ≠ 7) : isEndI ⟨k, y, p⟩ = false := by
  simp [isEndI]; omega

theorem rtokI_c (x : TI) (w : World) (hs : x.text.size ≤ 140737488355328) :
    Calls Tryd.prog 30 #[.agg #[.int .i64 x.kind, .string x.text, .int .i64 x.at_]] w fun e w' => e = .returned (.bool (isTokR x)) ∧ Kp [] w w' := by
  obtain ⟨kk, y, p⟩ := x
  simp only at hs
  have key : ∀ (k : Nat) (b : Bool), 1 ≤ k → k ≤ 6 → b = isTokB k y.data.toList → isTokR ⟨k, y, p⟩ = b := by
    intro k b h1 h6 hb
    rw [isTokR, tokI_B h1 h6, endI_B k y p (by omega), hb, Bool.or_false]
  by_cases hr : 1 ≤ kk ∧ kk ≤ 6
  · have hk : kk = 1 ∨ kk = 2 ∨ kk = 3 ∨ kk = 4 ∨ kk = 5 ∨ kk = 6 := by omega
    rcases hk with rfl | rfl | rfl | rfl | rfl | rfl
    · exact (qtok_1 y p w hs).mono fun e w' hh => ⟨by rw [hh.1]; exact ret_bool (key 1 _ (by omega) (by omega) rfl).symm, hh.2⟩
    · exact (qtok_2 y p w hs).mono fun e w' hh => ⟨by rw [hh.1]; exact ret_bool (key 2 _ (by omega) (by omega) rfl).symm, hh.2⟩
    · exact (qtok_3 y p w hs).mono fun e w' hh => ⟨by rw [hh.1]; exact ret_bool (key 3 _ (by omega) (by omega) rfl).symm, hh.2⟩
    · exact (qtok_4 y p w hs).mono fun e w' hh => ⟨by rw [hh.1]; exact ret_bool (key 4 _ (by omega) (by omega) rfl).symm, hh.2⟩
    · exact (qtok_5 y p w hs).mono fun e w' hh => ⟨by rw [hh.1]; exact ret_bool (key 5 _ (by omega) (by omega) rfl).symm, hh.2⟩
    · exact (qtok_6 y p w hs).mono fun e w' hh => ⟨by rw [hh.1]; exact ret_bool (key 6 _ (by omega) (by omega) rfl).symm, hh.2⟩
  · have hF : Hid (isTokR ⟨kk, y, p⟩ = isEndI ⟨kk, y, p⟩) := by
      show _ = _
      have : isTokI ⟨kk, y, p⟩ = false := by
        rw [Bool.eq_false_iff]; intro h
        exact hr (tokI_kinds h)
      rw [isTokR, this, Bool.false_or]
    have k1 : (kk == 1) = false := by simp; omega
    have k2 : (kk == 2) = false := by simp; omega
    have k3 : (kk == 3) = false := by simp; omega
    have k4 : (kk == 4) = false := by simp; omega
    have k5 : (kk == 5) = false := by simp; omega
    have k6 : (kk == 6) = false := by simp; omega
    clear hr key
    by_cases h7 : kk = 7
    · subst h7
      by_cases hz : y.size = 0
      · have he := str_nil hz
        have he2 : y.toList.isEmpty = true := by simp [he]
        have hG : Hid (isEndI ⟨7, y, p⟩ = true) := by show _ = _; simp [isEndI, hz]
        clear k1 k2 k3 k4 k5 k6
        go_enter Tryd.func30, Tryd.ntmps30
        go_wp2_with fail
        go_ret
        exact ⟨ret_bool (by rw [hF.out, hG.out]), (Kp.refl _ w).alloc _⟩
      · have he1 := str_ne (s := y) (by omega)
        have he2 : y.toList.isEmpty = false := by simp [he1]
        have hG : Hid (isEndI ⟨7, y, p⟩ = false) := by show _ = _; simp [isEndI, hz]
        clear k1 k2 k3 k4 k5 k6
        go_enter Tryd.func30, Tryd.ntmps30
        go_wp2_with fail
        go_ret
        exact ⟨ret_bool (by rw [hF.out, hG.out]), (Kp.refl _ w).alloc _⟩
    · have k7 : (kk == 7) = false := by simp [h7]
      have hG : Hid (isEndI ⟨kk, y, p⟩ = false) := by show _ = _; simp [isEndI, h7]
      clear h7
      go_enter Tryd.func30, Tryd.ntmps30
      go_wp2_with fail
      go_ret
      exact ⟨ret_bool (by rw [hF.out, hG.out]), (Kp.refl _ w).alloc _⟩
end Go.Proofs.YtbfmkehchddkoaaDoor
