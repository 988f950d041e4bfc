import Derived.Test.YtebmaclopkocgaaGreatDoorEvW
namespace Go.Proofs.YtebmaclopkocgaaGreatDoor
open Go.RowKit

/- The bytes' classes. -/
def isLet (c : UInt8) : Bool := decide ((97 : Int) ≤ (c.toNat : Int)) && decide ((c.toNat : Int) ≤ 122)
def isDig (c : UInt8) : Bool := decide ((48 : Int) ≤ (c.toNat : Int)) && decide ((c.toNat : Int) ≤ 57)
def isAdr (c : UInt8) : Bool := isLet c || isDig c
def isRunB (c : UInt8) : Bool := isAdr c || ((c.toNat : Int) == 95)


theorem letter_c (c : UInt8) (w : World) :
    Calls Tryz.prog 107 #[.int .u8 c.toNat] w fun e w' => e = .returned (.bool (isLet c)) ∧ w = w' := by
  go_enter Tryz.func107, Tryz.ntmps107
  go_wp2
  all_goals (go_ret; exact ⟨ret_bool (by simp [isLet]; try omega), rfl⟩)

theorem digit_c (c : UInt8) (w : World) :
    Calls Tryz.prog 125 #[.int .u8 c.toNat] w fun e w' => e = .returned (.bool (isDig c)) ∧ w = w' := by
  go_enter Tryz.func125, Tryz.ntmps125
  go_wp2
  all_goals (go_ret; exact ⟨ret_bool (by simp [isDig]; try omega), rfl⟩)

theorem adr_c (c : UInt8) (w : World) :
    Calls Tryz.prog 120 #[.int .u8 c.toNat] w fun e w' => e = .returned (.bool (isAdr c)) ∧ w = w' := by
  go_enter Tryz.func120, Tryz.ntmps120
  go_wp2_with (first | (go_at_call 107; refine (letter_c _ _).mono ?_; rintro e w' ⟨rfl, rfl⟩) | (go_at_call 125; refine (digit_c _ _).mono ?_; rintro e w' ⟨rfl, rfl⟩))
  all_goals (go_ret; exact ⟨ret_bool (by simp_all [isAdr]), rfl⟩)

theorem runb_c (c : UInt8) (w : World) :
    Calls Tryz.prog 109 #[.int .u8 c.toNat] w fun e w' => e = .returned (.bool (isRunB c)) ∧ w = w' := by
  go_enter Tryz.func109, Tryz.ntmps109
  go_wp2_with (go_at_call 120; refine (adr_c _ _).mono ?_; rintro e w' ⟨rfl, rfl⟩)
  all_goals (go_ret; exact ⟨ret_bool (by simp_all [isRunB]), rfl⟩)

def spanL (p : UInt8 → Bool) (l : List UInt8) : Nat := (l.takeWhile p).length
def spanN (p : UInt8 → Bool) (s : ByteArray) : Nat := spanL p s.data.toList

theorem takeWhile_is (p : UInt8 → Bool) : ∀ (l : List UInt8) (k : Nat), k ≤ l.length → (∀ j, (h : j < k) → (hj : j < l.length) → p l[j] = true) → (∀ h : k < l.length, p l[k] = false) → (l.takeWhile p).length = k
  | [], k, hk, _, _ => by simp at hk; subst hk; rfl
  | c :: l, 0, _, _, h2 => by have := h2 (by simp); simp at this; simp [List.takeWhile, this]
  | c :: l, k + 1, hk, h1, h2 => by
    have h0 := h1 0 (by omega) (by simp)
    simp at h0
    have := takeWhile_is p l k (by simpa using hk) (fun j h hj => by have := h1 (j + 1) (by omega) (by simp; omega); simpa using this) (fun h => by have := h2 (by simp; omega); simpa using this)
    simp [List.takeWhile, h0, this]

theorem spanN_is {p : UInt8 → Bool} {s : ByteArray} {k : Nat} (hk : k ≤ s.size) (h1 : ∀ j, (h : j < k) → (hj : j < s.size) → p s[j] = true) (h2 : ∀ h : k < s.size, p s[k] = false) : spanN p s = k :=
  takeWhile_is p _ k (by simpa using hk) (fun j h hj => h1 j h (by simpa using hj)) (fun h => h2 (by simpa using h))
theorem spanN_le (p : UInt8 → Bool) (s : ByteArray) : spanN p s ≤ s.size := by
  unfold spanN spanL
  have := (List.takeWhile_prefix p (l := s.data.toList)).length_le
  simpa using this

theorem span_isRunB (s : ByteArray) (w : World) (hs : s.size ≤ 9223372036854775807) :
    Calls Tryz.prog 108 #[.string s, .func (.func 109) #[] #[]] w fun e w' => e = .returned (.int .i64 (spanN isRunB s)) ∧ w = w' := by
  go_enter Tryz.func108, Tryz.ntmps108
  go_wp2
  go_loop [5, 8] (fun u i => ∃ k : Nat, k ≤ s.size ∧ i = .int .i64 k ∧ ∀ j, (h : j < k) → (hj : j < s.size) → isRunB s[j] = true) (fun u i => s.size - (intOf i).toNat)
  case atStart => exact ⟨0, by omega, rfl, fun j h => absurd h (by omega)⟩
  case round =>
    obtain ⟨k, hk, rfl, hall⟩ := hrel
    have hall := Lib.hid hall
    by_cases hlt : k < s.size
    · cases hp : isRunB s[k]
      · go_wp2_with (go_at_call 109; refine (runb_c _ _).mono ?_; rintro e w' ⟨rfl, rfl⟩)
        go_ret
        exact ⟨ret_int (by rw [spanN_is hk hall.out (fun _ => hp)]), rfl⟩
      · go_wp2_with (go_at_call 109; refine (runb_c _ _).mono ?_; rintro e w' ⟨rfl, rfl⟩)
        go_round
        case rel =>
          refine ⟨k + 1, by omega, by go_num, fun j h hj => ?_⟩
          by_cases hjk : j = k
          · subst hjk; exact hp
          · exact hall.out j (by omega) hj
        case measure => simp [intOf]; omega
    · go_wp2
      go_ret
      exact ⟨ret_int (by rw [spanN_is (k := s.size) (by omega) (fun j h hj => hall.out j (by omega) hj) (fun h => absurd h (by omega))]), rfl⟩
theorem list_head' (l : List UInt8) (h : 0 < l.length) : l = l[0] :: l.tail := by cases l with
  | nil => simp at h
  | cons c l => simp
theorem list_head (r : ByteArray) (h : 0 < r.size) : r.data.toList = r[0] :: r.data.toList.tail := by
  have h1 : 0 < r.data.toList.length := by simpa using h
  have : r[0] = r.data.toList[0] := rfl
  rw [this]
  exact (list_head' _ h1)

/-- What the library's search wants of a package variable. -/
structure Amb (w : World) : Prop where
  m : ∃ m : Int, w.cell? ⟨5, 0, none⟩ = some (.int .i64 m)
theorem Amb.kp0 {w w' : World} (h : Amb w) (k : Kp [] w w') : Amb w' := let ⟨m, hm⟩ := h.m; ⟨⟨m, k.cell hm (by simp)⟩⟩
theorem Amb.drewN {w : World} (h : Amb w) (n : Nat) : Amb (w.drewN n) := ⟨h.m⟩

def isRunL : List UInt8 → Bool
  | [] => false
  | c :: l => isLet c && (c :: l).all isRunB
def isRunS (s : ByteArray) : Bool := isRunL s.data.toList

theorem spanL_all (p : UInt8 → Bool) (l : List UInt8) : (spanL p l == l.length) = l.all p := by
  induction l with
  | nil => simp [spanL]
  | cons c l ih =>
    by_cases h : p c = true
    · simp only [spanL, List.takeWhile, h, List.length_cons, List.all_cons, Bool.true_and] at ih ⊢
      rw [← ih]; simp
    · simp [spanL, List.takeWhile, h]

theorem str_nil {s : ByteArray} (h : s.size = 0) : s.toList = [] := by
  rw [Lib.toList_data]; apply List.eq_nil_of_length_eq_zero; simpa using h
theorem str_ne {s : ByteArray} (h : 0 < s.size) : s.toList ≠ [] := by
  rw [Lib.toList_data]; intro e
  have := congrArg List.length e
  simp at this; rw [this] at h; simp at h

theorem runS_cons {s : ByteArray} (h : 0 < s.size) : isRunS s = (isLet s[0] && ((spanN isRunB s : Int) == (s.size : Int))) := by
  have e := list_head s h
  have hz : s.size = s.data.toList.length := by simp
  have := spanL_all isRunB s.data.toList
  rw [isRunS, e, isRunL, ← e, ← this, spanN]
  congr 1
  rw [hz, Bool.eq_iff_iff, beq_iff_eq, beq_iff_eq]; omega

theorem run_c (s : ByteArray) (w : World) (hs : s.size ≤ 9223372036854775807) :
    Calls Tryz.prog 88 #[.string s] w fun e w' => e = .returned (.bool (isRunS s)) ∧ w = w' := by
  by_cases hz : s.size = 0
  · have he := str_nil hz
    have he2 : s.toList.isEmpty = true := by simp [he]
    have hr : Hid (isRunS s = false) := by show _ = _; rw [isRunS, ← Lib.toList_data, he]; rfl
    go_enter Tryz.func88, Tryz.ntmps88
    go_wp2
    go_ret
    exact ⟨ret_bool hr.out.symm, rfl⟩
  · have he : 0 < s.size := by omega
    have he1 := str_ne he
    have he2 : s.toList.isEmpty = false := by simp [he1]
    have hr := Lib.hid (runS_cons he)
    cases hl : isLet s[0]
    · go_enter Tryz.func88, Tryz.ntmps88
      go_wp2_with (first | (go_at_call 107; refine (letter_c _ _).mono ?_; rintro e w' ⟨rfl, rfl⟩) | (go_at_call 108; refine (span_isRunB _ _ (by omega)).mono ?_; rintro e w' ⟨rfl, rfl⟩))
      go_ret
      exact ⟨ret_bool (by rw [hr.out, hl]; rfl), rfl⟩
    · go_enter Tryz.func88, Tryz.ntmps88
      go_wp2_with (first | (go_at_call 107; refine (letter_c _ _).mono ?_; rintro e w' ⟨rfl, rfl⟩) | (go_at_call 108; refine (span_isRunB _ _ (by omega)).mono ?_; rintro e w' ⟨rfl, rfl⟩))
      go_ret
      exact ⟨ret_bool (by rw [hr.out, hl]; rfl), rfl⟩
end Go.Proofs.YtebmaclopkocgaaGreatDoor
