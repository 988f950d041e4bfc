import Derived.Test.YtbfmkehchddkoaaDoorLx4
namespace Go.Proofs.YtbfmkehchddkoaaDoor
open Go.RowKit

/-- What the library's functions want of the package variables: one int, two errors. -/
structure Amb (w : World) : Prop where
  m : ∃ m : Int, w.cell? ⟨2, 0, none⟩ = some (.int .i64 m)
  e1 : ∃ t p, w.cell? ⟨3, 0, none⟩ = some (.iface t p)
  e2 : ∃ t p, w.cell? ⟨4, 0, none⟩ = some (.iface t p)
  lo : 5 ≤ w.heap.size

theorem Amb.kp {w w' : World} {S : List Nat} (h : Amb w) (k : Kp S w w') (hS : ∀ i, i ∈ S → 5 ≤ i) : Amb w' := by
  obtain ⟨⟨m, hm⟩, ⟨t1, p1, h1⟩, ⟨t2, p2, h2⟩, lo⟩ := h
  exact ⟨⟨m, k.cell hm (fun e => by have := hS _ e; simp at this)⟩, ⟨t1, p1, k.cell h1 (fun e => by have := hS _ e; simp at this)⟩,
    ⟨t2, p2, k.cell h2 (fun e => by have := hS _ e; simp at this)⟩, Nat.le_trans lo k.size⟩
theorem Amb.kp0 {w w' : World} (h : Amb w) (k : Kp [] w w') : Amb w' := h.kp k (by simp)
theorem Amb.drewN {w : World} (h : Amb w) (n : Nat) : Amb (w.drewN n) := ⟨h.m, h.e1, h.e2, h.lo⟩

def isRunL : List UInt8 → Bool
  | [] => false
  | c :: l => isLet c && (c :: l).all isRunB
def isRunS (s : ByteArray) : Bool := isRunL s.data.toList

theorem spanL_all (p : UInt8 → Bool) (l : List UInt8) : (spanL p l == l.length) = l.all p := by
  induction l with
  | nil => simp [spanL]
  | cons c l ih =>
    by_cases h : p c = true
    · simp only [spanL, List.takeWhile, h, List.length_cons, List.all_cons, Bool.true_and] at ih ⊢
      rw [← ih]; simp
    · simp [spanL, List.takeWhile, h]

theorem str_nil {s : ByteArray} (h : s.size = 0) : s.toList = [] := by
  rw [Lib.toList_data]; apply List.eq_nil_of_length_eq_zero; simpa using h
theorem str_ne {s : ByteArray} (h : 0 < s.size) : s.toList ≠ [] := by
  rw [Lib.toList_data]; intro e
  have := congrArg List.length e
  simp at this; rw [this] at h; simp at h

theorem runS_cons {s : ByteArray} (h : 0 < s.size) : isRunS s = (isLet s[0] && ((spanN isRunB s : Int) == (s.size : Int))) := by
  have e := list_head s h
  have hz : s.size = s.data.toList.length := by simp
  have := spanL_all isRunB s.data.toList
  rw [isRunS, e, isRunL, ← e, ← this, spanN]
  congr 1
  rw [hz, Bool.eq_iff_iff, beq_iff_eq, beq_iff_eq]; omega

theorem run_c (s : ByteArray) (w : World) (hs : s.size ≤ 9223372036854775807) :
    Calls Tryd.prog 43 #[.string s] w fun e w' => e = .returned (.bool (isRunS s)) ∧ w = w' := by
  by_cases hz : s.size = 0
  · have he := str_nil hz
    have he2 : s.toList.isEmpty = true := by simp [he]
    have hr : Hid (isRunS s = false) := by show _ = _; rw [isRunS, ← Lib.toList_data, he]; rfl
    go_enter Tryd.func43, Tryd.ntmps43
    go_wp2
    go_ret
    exact ⟨ret_bool hr.out.symm, rfl⟩
  · have he : 0 < s.size := by omega
    have he1 := str_ne he
    have he2 : s.toList.isEmpty = false := by simp [he1]
    have hr := Lib.hid (runS_cons he)
    cases hl : isLet s[0]
    · go_enter Tryd.func43, Tryd.ntmps43
      go_wp2_with (first | (go_at_call 62; refine (letter_c _ _).mono ?_; rintro e w' ⟨rfl, rfl⟩) | (go_at_call 63; refine (span_isRunB _ _ (by omega)).mono ?_; rintro e w' ⟨rfl, rfl⟩))
      go_ret
      exact ⟨ret_bool (by rw [hr.out, hl]; rfl), rfl⟩
    · go_enter Tryd.func43, Tryd.ntmps43
      go_wp2_with (first | (go_at_call 62; refine (letter_c _ _).mono ?_; rintro e w' ⟨rfl, rfl⟩) | (go_at_call 63; refine (span_isRunB _ _ (by omega)).mono ?_; rintro e w' ⟨rfl, rfl⟩))
      go_ret
      exact ⟨ret_bool (by rw [hr.out, hl]; rfl), rfl⟩
end Go.Proofs.YtbfmkehchddkoaaDoor
