import Derived.Test.YtbfmkehchddkoaaDoorLx1
import Derived.Test.YtbfmkehchddkoaaDoorShelf
namespace Go.Proofs.YtbfmkehchddkoaaDoor
open Go.RowKit

def spanL (p : UInt8 → Bool) (l : List UInt8) : Nat := (l.takeWhile p).length
def spanN (p : UInt8 → Bool) (s : ByteArray) : Nat := spanL p s.data.toList

theorem takeWhile_is (p : UInt8 → Bool) : ∀ (l : List UInt8) (k : Nat), k ≤ l.length → (∀ j, (h : j < k) → (hj : j < l.length) → p l[j] = true) → (∀ h : k < l.length, p l[k] = false) → (l.takeWhile p).length = k
  | [], k, hk, _, _ => by simp at hk; subst hk; rfl
  | c :: l, 0, _, _, h2 => by have := h2 (by simp); simp at this; simp [List.takeWhile, this]
  | c :: l, k + 1, hk, h1, h2 => by
    have h0 := h1 0 (by omega) (by simp)
    simp at h0
    have := takeWhile_is p l k (by simpa using hk) (fun j h hj => by have := h1 (j + 1) (by omega) (by simp; omega); simpa using this) (fun h => by have := h2 (by simp; omega); simpa using this)
    simp [List.takeWhile, h0, this]

theorem spanN_is {p : UInt8 → Bool} {s : ByteArray} {k : Nat} (hk : k ≤ s.size) (h1 : ∀ j, (h : j < k) → (hj : j < s.size) → p s[j] = true) (h2 : ∀ h : k < s.size, p s[k] = false) : spanN p s = k :=
  takeWhile_is p _ k (by simpa using hk) (fun j h hj => h1 j h (by simpa using hj)) (fun h => h2 (by simpa using h))
theorem spanN_le (p : UInt8 → Bool) (s : ByteArray) : spanN p s ≤ s.size := by
  unfold spanN spanL
  have := (List.takeWhile_prefix p (l := s.data.toList)).length_le
  simpa using this

theorem span_isDig (s : ByteArray) (w : World) (hs : s.size ≤ 9223372036854775807) :
    Calls Tryd.prog 63 #[.string s, .func (.func 83) #[] #[]] w fun e w' => e = .returned (.int .i64 (spanN isDig s)) ∧ w = w' := by
  go_enter Tryd.func63, Tryd.ntmps63
  go_wp2
  go_loop [5, 8] (fun u i => ∃ k : Nat, k ≤ s.size ∧ i = .int .i64 k ∧ ∀ j, (h : j < k) → (hj : j < s.size) → isDig s[j] = true) (fun u i => s.size - (intOf i).toNat)
  case atStart => exact ⟨0, by omega, rfl, fun j h => absurd h (by omega)⟩
  case round =>
    obtain ⟨k, hk, rfl, hall⟩ := hrel
    have hall := Lib.hid hall
    by_cases hlt : k < s.size
    · cases hp : isDig s[k]
      · go_wp2_with (go_at_call 83; refine (digit_c _ _).mono ?_; rintro e w' ⟨rfl, rfl⟩)
        go_ret
        exact ⟨ret_int (by rw [spanN_is hk hall.out (fun _ => hp)]), rfl⟩
      · go_wp2_with (go_at_call 83; refine (digit_c _ _).mono ?_; rintro e w' ⟨rfl, rfl⟩)
        go_round
        case rel =>
          refine ⟨k + 1, by omega, by go_num, fun j h hj => ?_⟩
          by_cases hjk : j = k
          · subst hjk; exact hp
          · exact hall.out j (by omega) hj
        case measure => simp [intOf]; omega
    · go_wp2
      go_ret
      exact ⟨ret_int (by rw [spanN_is (k := s.size) (by omega) (fun j h hj => hall.out j (by omega) hj) (fun h => absurd h (by omega))]), rfl⟩
theorem span_isRunB (s : ByteArray) (w : World) (hs : s.size ≤ 9223372036854775807) :
    Calls Tryd.prog 63 #[.string s, .func (.func 64) #[] #[]] w fun e w' => e = .returned (.int .i64 (spanN isRunB s)) ∧ w = w' := by
  go_enter Tryd.func63, Tryd.ntmps63
  go_wp2
  go_loop [5, 8] (fun u i => ∃ k : Nat, k ≤ s.size ∧ i = .int .i64 k ∧ ∀ j, (h : j < k) → (hj : j < s.size) → isRunB s[j] = true) (fun u i => s.size - (intOf i).toNat)
  case atStart => exact ⟨0, by omega, rfl, fun j h => absurd h (by omega)⟩
  case round =>
    obtain ⟨k, hk, rfl, hall⟩ := hrel
    have hall := Lib.hid hall
    by_cases hlt : k < s.size
    · cases hp : isRunB s[k]
      · go_wp2_with (go_at_call 64; refine (runb_c _ _).mono ?_; rintro e w' ⟨rfl, rfl⟩)
        go_ret
        exact ⟨ret_int (by rw [spanN_is hk hall.out (fun _ => hp)]), rfl⟩
      · go_wp2_with (go_at_call 64; refine (runb_c _ _).mono ?_; rintro e w' ⟨rfl, rfl⟩)
        go_round
        case rel =>
          refine ⟨k + 1, by omega, by go_num, fun j h hj => ?_⟩
          by_cases hjk : j = k
          · subst hjk; exact hp
          · exact hall.out j (by omega) hj
        case measure => simp [intOf]; omega
    · go_wp2
      go_ret
      exact ⟨ret_int (by rw [spanN_is (k := s.size) (by omega) (fun j h hj => hall.out j (by omega) hj) (fun h => absurd h (by omega))]), rfl⟩
theorem span_isAdr (s : ByteArray) (w : World) (hs : s.size ≤ 9223372036854775807) :
    Calls Tryd.prog 63 #[.string s, .func (.func 76) #[] #[]] w fun e w' => e = .returned (.int .i64 (spanN isAdr s)) ∧ w = w' := by
  go_enter Tryd.func63, Tryd.ntmps63
  go_wp2
  go_loop [5, 8] (fun u i => ∃ k : Nat, k ≤ s.size ∧ i = .int .i64 k ∧ ∀ j, (h : j < k) → (hj : j < s.size) → isAdr s[j] = true) (fun u i => s.size - (intOf i).toNat)
  case atStart => exact ⟨0, by omega, rfl, fun j h => absurd h (by omega)⟩
  case round =>
    obtain ⟨k, hk, rfl, hall⟩ := hrel
    have hall := Lib.hid hall
    by_cases hlt : k < s.size
    · cases hp : isAdr s[k]
      · go_wp2_with (go_at_call 76; refine (adr_c _ _).mono ?_; rintro e w' ⟨rfl, rfl⟩)
        go_ret
        exact ⟨ret_int (by rw [spanN_is hk hall.out (fun _ => hp)]), rfl⟩
      · go_wp2_with (go_at_call 76; refine (adr_c _ _).mono ?_; rintro e w' ⟨rfl, rfl⟩)
        go_round
        case rel =>
          refine ⟨k + 1, by omega, by go_num, fun j h hj => ?_⟩
          by_cases hjk : j = k
          · subst hjk; exact hp
          · exact hall.out j (by omega) hj
        case measure => simp [intOf]; omega
    · go_wp2
      go_ret
      exact ⟨ret_int (by rw [spanN_is (k := s.size) (by omega) (fun j h hj => hall.out j (by omega) hj) (fun h => absurd h (by omega))]), rfl⟩
theorem span_notLf (s : ByteArray) (w : World) (hs : s.size ≤ 9223372036854775807) :
    Calls Tryd.prog 63 #[.string s, .func (.func 72) #[] #[]] w fun e w' => e = .returned (.int .i64 (spanN notLf s)) ∧ w = w' := by
  go_enter Tryd.func63, Tryd.ntmps63
  go_wp2
  go_loop [5, 8] (fun u i => ∃ k : Nat, k ≤ s.size ∧ i = .int .i64 k ∧ ∀ j, (h : j < k) → (hj : j < s.size) → notLf s[j] = true) (fun u i => s.size - (intOf i).toNat)
  case atStart => exact ⟨0, by omega, rfl, fun j h => absurd h (by omega)⟩
  case round =>
    obtain ⟨k, hk, rfl, hall⟩ := hrel
    have hall := Lib.hid hall
    by_cases hlt : k < s.size
    · cases hp : notLf s[k]
      · go_wp2_with (go_at_call 72; refine (notlf_c _ _).mono ?_; rintro e w' ⟨rfl, rfl⟩)
        go_ret
        exact ⟨ret_int (by rw [spanN_is hk hall.out (fun _ => hp)]), rfl⟩
      · go_wp2_with (go_at_call 72; refine (notlf_c _ _).mono ?_; rintro e w' ⟨rfl, rfl⟩)
        go_round
        case rel =>
          refine ⟨k + 1, by omega, by go_num, fun j h hj => ?_⟩
          by_cases hjk : j = k
          · subst hjk; exact hp
          · exact hall.out j (by omega) hj
        case measure => simp [intOf]; omega
    · go_wp2
      go_ret
      exact ⟨ret_int (by rw [spanN_is (k := s.size) (by omega) (fun j h hj => hall.out j (by omega) hj) (fun h => absurd h (by omega))]), rfl⟩
end Go.Proofs.YtbfmkehchddkoaaDoor
