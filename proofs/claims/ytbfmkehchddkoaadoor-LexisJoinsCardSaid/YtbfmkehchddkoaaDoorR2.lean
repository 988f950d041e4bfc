import Derived.Test.YtbfmkehchddkoaaDoorR1
import Derived.Test.YtbfmkehchddkoaaDoorLx11
namespace Go.Proofs.YtbfmkehchddkoaaDoor
open Go.RowKit

theorem spanL_cons (p : UInt8 → Bool) (c : UInt8) (l : List UInt8) : spanL p (c :: l) = if p c then 1 + spanL p l else 0 := by
  cases h : p c
  · simp [spanL, List.takeWhile, h]
  · simp [spanL, List.takeWhile, h]; omega

theorem span_step {p : UInt8 → Bool} {s : ByteArray} {k : Nat} (h : k < s.size) :
    spanL p (s.data.toList.drop k) = if p s[k] then 1 + spanL p (s.data.toList.drop (k + 1)) else 0 := by
  rw [drop_cons s k h, spanL_cons]
theorem span_end {p : UInt8 → Bool} {s : ByteArray} {k : Nat} (h : s.size ≤ k) : spanL p (s.data.toList.drop k) = 0 := by
  rw [List.drop_of_length_le (by simpa using h)]; rfl

theorem rspan_run (s : ByteArray) (at_ : Nat) (w : World) (hs : s.size ≤ 140737488355328) (ha : at_ ≤ s.size) :
    Calls Tryd.prog 58 #[.string s, .int .i64 at_, .bool true, .bool true, .bool true] w fun e w' => e = .returned (.int .i64 ((at_ + spanL isRunB (s.data.toList.drop at_) : Nat))) ∧ w = w' := by
  go_enter Tryd.func58, Tryd.ntmps58
  go_wp2
  go_loop [1] (fun i => ∃ k : Nat, k ≤ s.size ∧ i = .int .i64 k ∧ Hid (k + spanL isRunB (s.data.toList.drop k) = at_ + spanL isRunB (s.data.toList.drop at_))) (fun i => s.size - (intOf i).toNat)
  case atStart => exact ⟨at_, ha, rfl, rfl⟩
  case round =>
    obtain ⟨k, hk, rfl, hE⟩ := hrel
    by_cases hlt : k < s.size
    · have hst := Lib.hid (span_step (p := isRunB) hlt)
      have hP : Hid (isRunB s[k] = ((true && isLet s[k]) || (true && isDig s[k]) || (true && ((s[k].toNat : Int) == 95)))) := by show _ = _; simp [isRunB, isAdr]
      cases hl : isLet s[k] <;> cases hd : isDig s[k] <;> cases hu : ((s[k].toNat : Int) == 95)
      all_goals
        have h1 := hst.out
        rw [hP.out, hl, hd, hu] at h1
        simp only [Bool.and_true, Bool.and_false, Bool.or_true, Bool.or_false, if_true, if_false, Bool.false_eq_true] at h1
        replace h1 := Lib.hid h1
        go_wp2_with (first | (go_at_call 45; refine (rletter_c _ _).mono ?_; rintro e w' ⟨rfl, rfl⟩) | (go_at_call 46; refine (rdigit_c _ _).mono ?_; rintro e w' ⟨rfl, rfl⟩))
        first
          | (go_round
             case rel => exact ⟨k + 1, by omega, by go_num, by (show _ = _; have h2 := hE.out; have h3 := h1.out; omega)⟩
             case measure => simp [intOf]; omega)
          | (go_ret
             exact ⟨ret_int (by have h2 := hE.out; have h3 := h1.out; omega), rfl⟩)
    · have h1 := span_end (p := isRunB) (s := s) (k := k) (by omega)
      replace h1 := Lib.hid h1
      go_wp2
      go_ret
      exact ⟨ret_int (by have h2 := hE.out; have h3 := h1.out; omega), rfl⟩
theorem rspan_dig (s : ByteArray) (at_ : Nat) (w : World) (hs : s.size ≤ 140737488355328) (ha : at_ ≤ s.size) :
    Calls Tryd.prog 58 #[.string s, .int .i64 at_, .bool false, .bool true, .bool false] w fun e w' => e = .returned (.int .i64 ((at_ + spanL isDig (s.data.toList.drop at_) : Nat))) ∧ w = w' := by
  go_enter Tryd.func58, Tryd.ntmps58
  go_wp2
  go_loop [1] (fun i => ∃ k : Nat, k ≤ s.size ∧ i = .int .i64 k ∧ Hid (k + spanL isDig (s.data.toList.drop k) = at_ + spanL isDig (s.data.toList.drop at_))) (fun i => s.size - (intOf i).toNat)
  case atStart => exact ⟨at_, ha, rfl, rfl⟩
  case round =>
    obtain ⟨k, hk, rfl, hE⟩ := hrel
    by_cases hlt : k < s.size
    · have hst := Lib.hid (span_step (p := isDig) hlt)
      have hP : Hid (isDig s[k] = ((false && isLet s[k]) || (true && isDig s[k]) || (false && ((s[k].toNat : Int) == 95)))) := by show _ = _; simp
      cases hl : isLet s[k] <;> cases hd : isDig s[k] <;> cases hu : ((s[k].toNat : Int) == 95)
      all_goals
        have h1 := hst.out
        rw [hP.out, hl, hd, hu] at h1
        simp only [Bool.and_true, Bool.and_false, Bool.or_true, Bool.or_false, if_true, if_false, Bool.false_eq_true] at h1
        replace h1 := Lib.hid h1
        go_wp2_with (first | (go_at_call 45; refine (rletter_c _ _).mono ?_; rintro e w' ⟨rfl, rfl⟩) | (go_at_call 46; refine (rdigit_c _ _).mono ?_; rintro e w' ⟨rfl, rfl⟩))
        first
          | (go_round
             case rel => exact ⟨k + 1, by omega, by go_num, by (show _ = _; have h2 := hE.out; have h3 := h1.out; omega)⟩
             case measure => simp [intOf]; omega)
          | (go_ret
             exact ⟨ret_int (by have h2 := hE.out; have h3 := h1.out; omega), rfl⟩)
    · have h1 := span_end (p := isDig) (s := s) (k := k) (by omega)
      replace h1 := Lib.hid h1
      go_wp2
      go_ret
      exact ⟨ret_int (by have h2 := hE.out; have h3 := h1.out; omega), rfl⟩
theorem rspan_adr (s : ByteArray) (at_ : Nat) (w : World) (hs : s.size ≤ 140737488355328) (ha : at_ ≤ s.size) :
    Calls Tryd.prog 58 #[.string s, .int .i64 at_, .bool true, .bool true, .bool false] w fun e w' => e = .returned (.int .i64 ((at_ + spanL isAdr (s.data.toList.drop at_) : Nat))) ∧ w = w' := by
  go_enter Tryd.func58, Tryd.ntmps58
  go_wp2
  go_loop [1] (fun i => ∃ k : Nat, k ≤ s.size ∧ i = .int .i64 k ∧ Hid (k + spanL isAdr (s.data.toList.drop k) = at_ + spanL isAdr (s.data.toList.drop at_))) (fun i => s.size - (intOf i).toNat)
  case atStart => exact ⟨at_, ha, rfl, rfl⟩
  case round =>
    obtain ⟨k, hk, rfl, hE⟩ := hrel
    by_cases hlt : k < s.size
    · have hst := Lib.hid (span_step (p := isAdr) hlt)
      have hP : Hid (isAdr s[k] = ((true && isLet s[k]) || (true && isDig s[k]) || (false && ((s[k].toNat : Int) == 95)))) := by show _ = _; simp [isAdr]
      cases hl : isLet s[k] <;> cases hd : isDig s[k] <;> cases hu : ((s[k].toNat : Int) == 95)
      all_goals
        have h1 := hst.out
        rw [hP.out, hl, hd, hu] at h1
        simp only [Bool.and_true, Bool.and_false, Bool.or_true, Bool.or_false, if_true, if_false, Bool.false_eq_true] at h1
        replace h1 := Lib.hid h1
        go_wp2_with (first | (go_at_call 45; refine (rletter_c _ _).mono ?_; rintro e w' ⟨rfl, rfl⟩) | (go_at_call 46; refine (rdigit_c _ _).mono ?_; rintro e w' ⟨rfl, rfl⟩))
        first
          | (go_round
             case rel => exact ⟨k + 1, by omega, by go_num, by (show _ = _; have h2 := hE.out; have h3 := h1.out; omega)⟩
             case measure => simp [intOf]; omega)
          | (go_ret
             exact ⟨ret_int (by have h2 := hE.out; have h3 := h1.out; omega), rfl⟩)
    · have h1 := span_end (p := isAdr) (s := s) (k := k) (by omega)
      replace h1 := Lib.hid h1
      go_wp2
      go_ret
      exact ⟨ret_int (by have h2 := hE.out; have h3 := h1.out; omega), rfl⟩

def hasL (ws : List (List UInt8)) (l : List UInt8) : Bool := ws.contains l

theorem has_c (ws : List (List UInt8)) (s : ByteArray) (g cap : Nat) (w : World) (hn : ws.length ≤ 1000) (hc : ∀ i x, ws[i]? = some x → w.cell? ⟨g, i, none⟩ = some (.string ⟨x.toArray⟩)) :
    Calls Tryd.prog 47 #[.slice (some ⟨g, 0, none⟩) ws.length cap, .string s] w fun e w' => e = .returned (.bool (hasL ws s.data.toList)) ∧ w = w' := by
  replace hc := Lib.hid hc
  have hsl := Lib.hid (Lib.toList_data s)
  go_enter Tryd.func47, Tryd.ntmps47
  go_wp2
  go_loop [5] (fun i => ∃ k : Nat, k ≤ ws.length ∧ i = .int .i64 k ∧ Hid (hasL (ws.drop k) s.data.toList = hasL ws s.data.toList)) (fun i => ws.length - (intOf i).toNat)
  case atStart => exact ⟨0, by omega, rfl, rfl⟩
  case round =>
    obtain ⟨k, hk, rfl, hE⟩ := hrel
    by_cases hlt : k < ws.length
    · have hcell := hc.out k ws[k] (by simp)
      have hst : Hid (hasL (ws.drop k) s.data.toList = ((s.data.toList == ws[k]) || hasL (ws.drop (k + 1)) s.data.toList)) := by
        show _ = _
        rw [hasL, hasL, List.drop_eq_getElem_cons hlt, List.contains_cons]
      cases hx : (ws[k] == s.toList)
      · have hx2 : Hid ((s.data.toList == ws[k]) = false) := by
          show _ = _
          rw [← hsl.out, Bool.eq_false_iff]; intro e; rw [(beq_iff_eq.1 e)] at hx; simp at hx
        go_wp2
        go_round
        case rel => exact ⟨k + 1, by omega, by go_num, by (show _ = _; rw [← hE.out, hst.out, hx2.out]; rfl)⟩
        case measure => simp [intOf]; omega
      · have hx2 : Hid ((s.data.toList == ws[k]) = true) := by
          show _ = _
          rw [← hsl.out, ← beq_iff_eq.1 hx]; simp
        go_wp2
        go_ret
        exact ⟨ret_bool (by rw [← hE.out, hst.out, hx2.out]; rfl), rfl⟩
    · have hE2 : Hid (hasL ws s.data.toList = false) := by
        show _ = _
        rw [← hE.out, List.drop_of_length_le (by omega)]; rfl
      go_wp2
      go_ret
      exact ⟨ret_bool hE2.out.symm, rfl⟩

def wordsV : Array Value := (wordsL.map fun x => Value.string ⟨x.toArray⟩).toArray

end Go.Proofs.YtbfmkehchddkoaaDoor
