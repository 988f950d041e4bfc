import Derived.Test.YtbfmkehchddkoaaDoorLx2
import Derived.Test.YtbfmkehchddkoaaDoorLxW
namespace Go.Proofs.YtbfmkehchddkoaaDoor
open Go.RowKit

/-- How many bytes at the head are blanks and comments (the flag: within a comment). -/
def skipC : Bool → List UInt8 → Nat
  | _, [] => 0
  | true, c :: l => if notLf c then 1 + skipC true l else 1 + skipC false l
  | false, c :: l => if isBlk c then 1 + skipC false l else if (c :: l).take 2 = [47, 47] then 1 + skipC true l else 0
def skipL (l : List UInt8) : Nat := skipC false l

theorem skipC_le (b : Bool) (l : List UInt8) : skipC b l ≤ l.length := by
  induction l generalizing b with
  | nil => cases b <;> simp [skipC]
  | cons c l ih =>
    have h1 := ih true
    have h2 := ih false
    cases b <;> simp only [skipC, List.length_cons] <;> (repeat' split) <;> omega

theorem skipC_true (l : List UInt8) : skipC true l = spanL notLf l + skipL (l.drop (spanL notLf l)) := by
  induction l with
  | nil => simp [skipC, spanL, skipL]
  | cons c l ih =>
    by_cases h : notLf c = true
    · have e : spanL notLf (c :: l) = spanL notLf l + 1 := by simp [spanL, List.takeWhile, h]
      rw [e, List.drop_succ_cons]
      simp only [skipC, h, if_true, ih]
      omega
    · have e : spanL notLf (c :: l) = 0 := by simp [spanL, List.takeWhile, h]
      have hc : c = 10 := by
        unfold notLf at h
        simp at h
        exact UInt8.toNat_inj.1 (by simp; omega)
      have hb : isBlk c = true := by subst hc; decide
      rw [e]
      simp only [skipC, h, List.drop_zero, skipL, hb, if_true]
      simp

theorem skipL_nil : skipL [] = 0 := by simp [skipL, skipC]
theorem skipL_blank {c : UInt8} {l : List UInt8} (h : isBlk c = true) : skipL (c :: l) = 1 + skipL l := by simp [skipL, skipC, h]
theorem skipL_comment {c : UInt8} {l : List UInt8} (h : isBlk c = false) (h2 : [47, 47].isPrefixOf (c :: l) = true) : skipL (c :: l) = spanL notLf (c :: l) + skipL ((c :: l).drop (spanL notLf (c :: l))) ∧ 0 < spanL notLf (c :: l) := by
  match l, h2 with
  | [], h2 => simp at h2
  | d :: l, h2 =>
    simp at h2
    obtain ⟨rfl, rfl⟩ := h2
    have hn : notLf 47 = true := by decide
    have e : spanL notLf (47 :: 47 :: l) = spanL notLf (47 :: l) + 1 := by simp [spanL, List.takeWhile, hn]
    refine ⟨?_, by omega⟩
    rw [e, List.drop_succ_cons]
    have := skipC_true (47 :: l)
    simp only [skipL] at this ⊢
    rw [skipC]
    simp only [h]
    simp only [List.take_succ_cons, List.take_zero, if_true, this]
    simp
    omega
theorem skipL_stop {c : UInt8} {l : List UInt8} (h : isBlk c = false) (h2 : [47, 47].isPrefixOf (c :: l) = false) : skipL (c :: l) = 0 := by
  simp only [skipL, skipC, h]
  have : ¬ (c :: l).take 2 = [47, 47] := by
    intro e
    match l, e with
    | [], e => simp at e
    | d :: l, e => simp at e; obtain ⟨rfl, rfl⟩ := e; simp at h2
  simp only [Bool.false_eq_true, if_false, if_neg this]
end Go.Proofs.YtbfmkehchddkoaaDoor
