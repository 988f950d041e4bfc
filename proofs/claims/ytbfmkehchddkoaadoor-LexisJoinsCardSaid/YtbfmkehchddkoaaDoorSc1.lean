import Derived.Test.YtbfmkehchddkoaaDoorLx12
namespace Go.Proofs.YtbfmkehchddkoaaDoor
open Go.RowKit

/-- The tokens from a position on, blanks first. -/
def scanL (f : Nat) (l : List UInt8) (i : Nat) : List Tok × Nat := headL f (l.drop (skipL l)) (i + skipL l)

theorem toksL_scan (l : List UInt8) : toksL l = scanL (l.length + 1) l 0 := by simp [toksL, scanL]

theorem headL_cons {f i : Nat} {l : List UInt8} (hl : l ≠ []) (h0 : (tokL l).2 ≠ 0) :
    headL (f + 1) l i = (⟨(tokL l).1, ⟨(l.take (tokL l).2).toArray⟩, i⟩ :: (scanL f (l.drop (tokL l).2) (i + (tokL l).2)).1, (scanL f (l.drop (tokL l).2) (i + (tokL l).2)).2) := by
  simp [headL, hl, h0, scanL, List.drop_drop, Nat.add_assoc]

theorem skipL_le (l : List UInt8) : skipL l ≤ l.length := skipC_le false l

theorem scan_fuel : ∀ (f g : Nat) (l : List UInt8) (i : Nat), l.length < f → l.length < g → scanL f l i = scanL g l i := by
  intro f
  induction f with
  | zero => intro g l i h; omega
  | succ f ih =>
    intro g l i hf hg
    obtain ⟨g, rfl⟩ : ∃ k, g = k + 1 := ⟨g - 1, by omega⟩
    unfold scanL
    have hk := skipL_le l
    obtain ⟨m, hm⟩ : ∃ m, l.drop (skipL l) = m := ⟨_, rfl⟩
    have hml : m.length ≤ l.length := by rw [← hm]; simp
    rw [hm]
    by_cases hn : m = []
    · rw [hn, headL_end, headL_end]
    · by_cases h0 : (tokL m).2 = 0
      · rw [headL_stop hn h0, headL_stop hn h0]
      · rw [headL_cons hn h0, headL_cons hn h0]
        have hlen : (m.drop (tokL m).2).length < m.length := by
          have : 0 < m.length := List.length_pos_iff.2 hn
          simp; omega
        rw [ih g _ _ (by omega) (by omega)]

theorem spanL_lf (p : UInt8 → Bool) (hp : p 10 = false) (l r : List UInt8) : spanL p (l ++ 10 :: r) = spanL p l := by
  induction l with
  | nil => simp [spanL, List.takeWhile, hp]
  | cons c l ih =>
    by_cases h : p c = true
    · simp only [spanL] at ih
      simp [spanL, List.takeWhile, h, ih]
    · simp [spanL, List.takeWhile, h]

theorem take_app {l x : List UInt8} {k : Nat} (h : k ≤ l.length) : (l ++ x).take k = l.take k := List.take_append_of_le_length h
theorem drop_app {l x : List UInt8} {k : Nat} (h : k ≤ l.length) : (l ++ x).drop k = l.drop k ++ x := List.drop_append_of_le_length h

theorem prefix_lf (l r : List UInt8) : List.isPrefixOf [116, 35] (l ++ 10 :: r) = List.isPrefixOf [116, 35] l := by
  match l with
  | [] => rfl
  | [c] => simp [List.isPrefixOf]
  | c :: d :: l => simp [List.isPrefixOf]

theorem sign_lf (c : UInt8) : isSignL [c, 10] = false := by
  simp [isSignL, signsL]

theorem tokL_lf {l : List UInt8} (r : List UInt8) (hl : l ≠ []) : tokL (l ++ 10 :: r) = tokL l := by
  have hh : (l ++ 10 :: r).headD 0 = l.headD 0 := by
    cases l with
    | nil => exact absurd rfl hl
    | cons c l => rfl
  have hlen : 1 ≤ l.length := List.length_pos_iff.2 hl
  have e1 : runL (l ++ 10 :: r) = runL l := by
    simp only [runL, spanL_lf isRunB (by decide), take_app (spanL_le isRunB l)]
  have e2 : numL (l ++ 10 :: r) = numL l := by
    simp only [numL, spanL_lf isDig (by decide), take_app (spanL_le isDig l)]
  have e3 : adrL (l ++ 10 :: r) = adrL l := by
    have h4 := spanL_le isAdr (l.drop 1)
    simp only [List.length_drop] at h4
    simp only [adrL, drop_app hlen, spanL_lf isAdr (by decide)]
    rw [take_app (by omega)]
  have e4 : sgnL (l ++ 10 :: r) = sgnL l := by
    simp only [sgnL, take_app hlen]
    by_cases h2 : 2 ≤ l.length
    · rw [take_app h2]
      have : 2 ≤ l.length + (r.length + 1) := by omega
      simp [h2, this]
    · obtain ⟨c, rfl⟩ : ∃ c, l = [c] := List.length_eq_one_iff.1 (by omega)
      have e : ([c] ++ 10 :: r).take 2 = [c, 10] := rfl
      rw [e, sign_lf]
      simp
  simp only [tokL, pickL, prefix_lf, hh, e1, e2, e3, e4]
  by_cases hp : List.isPrefixOf [116, 35] l = true
  · have h2 : 2 ≤ l.length := by
      have := (List.isPrefixOf_iff_prefix.1 hp).length_le
      simpa using this
    have e5 : timeL (l ++ 10 :: r) = timeL l := by
      simp only [timeL, drop_app h2, spanL_lf isDig (by decide), take_app (spanL_le isDig (l.drop 2))]
    rw [e5]
  · simp [hp]

theorem skipC_lf (l r : List UInt8) : ∀ b, skipC b (l ++ 10 :: r) = if skipC b l = l.length then l.length + 1 + skipL r else skipC b l := by
  induction l with
  | nil =>
    intro b
    cases b
    · simp [skipC, skipL, isBlk]
    · simp [skipC, skipL, notLf]
  | cons c l ih =>
    intro b
    have h1 := skipC_le true l
    have h2 := skipC_le false l
    cases b
    · rw [List.cons_append, skipC, skipC, ih true, ih false]
      have e : (c :: (l ++ 10 :: r)).take 2 = [47, 47] ↔ (c :: l).take 2 = [47, 47] := by
        cases l with
        | nil => simp
        | cons d l => simp
      by_cases hb : isBlk c = true
      · simp only [hb, if_true, List.length_cons]
        split <;> split <;> omega
      · simp only [hb, if_false, List.length_cons, e, Bool.false_eq_true]
        by_cases hc : (c :: l).take 2 = [47, 47]
        · simp only [hc, if_true]
          split <;> split <;> omega
        · simp only [hc, if_false]
          split
          · omega
          · rfl
    · rw [List.cons_append, skipC, skipC, ih true, ih false]
      by_cases hb : notLf c = true
      · simp only [hb, if_true, List.length_cons]
        split <;> split <;> omega
      · simp only [hb, List.length_cons, Bool.false_eq_true, if_false]
        split <;> split <;> omega
end Go.Proofs.YtbfmkehchddkoaaDoor
