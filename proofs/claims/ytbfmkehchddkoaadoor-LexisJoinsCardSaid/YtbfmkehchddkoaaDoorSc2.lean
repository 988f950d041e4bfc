import Derived.Test.YtbfmkehchddkoaaDoorSc1
namespace Go.Proofs.YtbfmkehchddkoaaDoor
open Go.RowKit

theorem scan_app : ∀ (f : Nat) (l : List UInt8) (i : Nat), l.length < f → ∀ (r : List UInt8) (g : Nat), l.length + 1 + r.length < g →
    ((scanL f l i).2 ≤ i + l.length) ∧
    ((scanL f l i).2 < i + l.length → (scanL g (l ++ 10 :: r) i).2 = (scanL f l i).2) ∧
    ((scanL f l i).2 = i + l.length → ∃ ts, (scanL f l i).1 = ts ++ [⟨7, ⟨#[]⟩, i + l.length⟩] ∧
      scanL g (l ++ 10 :: r) i = (ts ++ (scanL g r (i + l.length + 1)).1, (scanL g r (i + l.length + 1)).2)) := by
  intro f
  induction f with
  | zero => intro l i h; omega
  | succ f ih =>
    intro l i hf r g hg
    obtain ⟨g, rfl⟩ : ∃ k, g = k + 1 := ⟨g - 1, by omega⟩
    have hk := skipL_le l
    have hs := skipC_lf l r false
    by_cases hke : skipL l = l.length
    · have e1 : scanL (f + 1) l i = ([⟨7, ⟨#[]⟩, i + l.length⟩], i + l.length) := by
        unfold scanL
        rw [hke, List.drop_length, headL_end]
      have e2 : scanL (g + 1) (l ++ 10 :: r) i = scanL (g + 1) r (i + l.length + 1) := by
        have hs2 : skipL (l ++ 10 :: r) = l.length + 1 + skipL r := by
          unfold skipL at hke ⊢
          rw [hs, if_pos hke]; rfl
        unfold scanL
        rw [hs2]
        have e3 : (l ++ 10 :: r).drop (l.length + 1 + skipL r) = r.drop (skipL r) := by
          rw [show l.length + 1 + skipL r = l.length + (1 + skipL r) by omega, ← List.drop_drop, List.drop_left, Nat.add_comm 1, List.drop_succ_cons]
        rw [e3]
        congr 1
        omega
      rw [e1, e2]
      exact ⟨Nat.le_refl _, fun h => absurd h (by simp), fun _ => ⟨[], rfl, rfl⟩⟩
    · have hkl : skipL l < l.length := by omega
      have hs2 : skipL (l ++ 10 :: r) = skipL l := by
        unfold skipL at hke ⊢
        rw [hs, if_neg hke]
      obtain ⟨m, hm⟩ : ∃ m, l.drop (skipL l) = m := ⟨_, rfl⟩
      have hml : m.length = l.length - skipL l := by rw [← hm]; simp
      have hmn : m ≠ [] := List.length_pos_iff.1 (by omega)
      have hmr : m ++ 10 :: r ≠ [] := by simp
      have e3 : (l ++ 10 :: r).drop (skipL l) = m ++ 10 :: r := by rw [drop_app hk, hm]
      have e1 : scanL (f + 1) l i = headL (f + 1) m (i + skipL l) := by unfold scanL; rw [hm]
      have e2 : scanL (g + 1) (l ++ 10 :: r) i = headL (g + 1) (m ++ 10 :: r) (i + skipL l) := by unfold scanL; rw [hs2, e3]
      rw [e1, e2]
      by_cases h0 : (tokL m).2 = 0
      · rw [headL_stop hmn h0, headL_stop hmr (by rw [tokL_lf r hmn]; exact h0)]
        refine ⟨by simp; omega, fun _ => rfl, fun h => absurd h (by simp; omega)⟩
      · have ht := tokL_le m
        rw [headL_cons hmn h0, headL_cons hmr (by rw [tokL_lf r hmn]; exact h0), tokL_lf r hmn, take_app ht, drop_app ht]
        have hdl : (m.drop (tokL m).2).length = m.length - (tokL m).2 := by simp
        obtain ⟨a, b, c⟩ := ih (m.drop (tokL m).2) (i + skipL l + (tokL m).2) (by omega) r g (by omega)
        have hpos : i + skipL l + (tokL m).2 + (m.drop (tokL m).2).length = i + l.length := by omega
        rw [hpos] at a b c
        refine ⟨a, b, fun h => ?_⟩
        obtain ⟨ts, t1, t2⟩ := c h
        refine ⟨⟨(tokL m).1, ⟨(m.take (tokL m).2).toArray⟩, i + skipL l⟩ :: ts, by simp [t1], ?_⟩
        rw [t2, scan_fuel (g + 1) g r _ (by omega) (by omega)]
        simp

def shiftT (d : Nat) (t : Tok) : Tok := ⟨t.kind, t.text, t.at_ + d⟩

theorem scan_shift (d : Nat) : ∀ (f : Nat) (l : List UInt8) (i : Nat), scanL f l (i + d) = ((scanL f l i).1.map (shiftT d), (scanL f l i).2 + d) := by
  have hh : ∀ (f : Nat) (l : List UInt8) (i : Nat), headL f l (i + d) = ((headL f l i).1.map (shiftT d), (headL f l i).2 + d) := by
    intro f
    induction f with
    | zero => intro l i; simp [headL]
    | succ f ih =>
      intro l i
      by_cases hl : l = []
      · rw [hl, headL_end, headL_end]; simp [shiftT]
      · by_cases h0 : (tokL l).2 = 0
        · rw [headL_stop hl h0, headL_stop hl h0]; simp
        · rw [headL_cons hl h0, headL_cons hl h0]
          unfold scanL
          have e : i + d + (tokL l).2 + skipL (l.drop (tokL l).2) = (i + (tokL l).2 + skipL (l.drop (tokL l).2)) + d := by omega
          rw [e, ih]
          simp [shiftT]
  intro f l i
  unfold scanL
  have e : i + d + skipL l = (i + skipL l) + d := by omega
  rw [e, hh]

/-- The tokens of two sources with a line feed between them. -/
theorem toks_parts (a b : List UInt8) : (toksL a).2 ≤ a.length ∧
    ((toksL a).2 < a.length → (toksL (a ++ 10 :: b)).2 = (toksL a).2) ∧
    ((toksL a).2 = a.length → ∃ ts, (toksL a).1 = ts ++ [⟨7, ⟨#[]⟩, a.length⟩] ∧
      toksL (a ++ 10 :: b) = (ts ++ (toksL b).1.map (shiftT (a.length + 1)), (toksL b).2 + (a.length + 1))) := by
  have h := scan_app (a.length + 1) a 0 (by omega) b ((a ++ 10 :: b).length + 1) (by simp; omega)
  rw [Nat.zero_add] at h
  rw [toksL_scan a, toksL_scan (a ++ 10 :: b)]
  refine ⟨h.1, h.2.1, fun he => ?_⟩
  obtain ⟨ts, t1, t2⟩ := h.2.2 he
  refine ⟨ts, t1, ?_⟩
  have hs := scan_shift (a.length + 1) ((a ++ 10 :: b).length + 1) b 0
  rw [Nat.zero_add] at hs
  rw [t2, hs, toksL_scan b, scan_fuel ((a ++ 10 :: b).length + 1) (b.length + 1) b 0 (by simp; omega) (by omega)]

/-- The tokens of a source behind which stand a line feed, a comment and a line feed. -/
theorem toks_comment (a c : List UInt8) (hc : ∀ x ∈ c, x ≠ 10) : (toksL a).2 ≤ a.length ∧
    ((toksL a).2 < a.length → (toksL (a ++ 10 :: (47 :: 47 :: c ++ [10]))).2 = (toksL a).2) ∧
    ((toksL a).2 = a.length → ∃ ts, (toksL a).1 = ts ++ [⟨7, ⟨#[]⟩, a.length⟩] ∧
      toksL (a ++ 10 :: (47 :: 47 :: c ++ [10])) = (ts ++ [⟨7, ⟨#[]⟩, a.length + c.length + 4⟩], a.length + c.length + 4)) := by
  obtain ⟨h1, h2, h3⟩ := toks_parts a (47 :: 47 :: c ++ [10])
  refine ⟨h1, h2, fun he => ?_⟩
  obtain ⟨ts, t1, t2⟩ := h3 he
  refine ⟨ts, t1, ?_⟩
  have hsk : ∀ l : List UInt8, (∀ x ∈ l, x ≠ 10) → skipC true (l ++ [10]) = l.length + 1 := by
    intro l
    induction l with
    | nil => intro _; rfl
    | cons d l ih =>
      intro hl
      have hd : notLf d = true := by
        have := hl d (by simp)
        unfold notLf
        simp only [Bool.not_eq_true', beq_eq_false_iff_ne, ne_eq]
        intro e
        exact this (UInt8.toNat_inj.1 (by show d.toNat = 10; omega))
      rw [List.cons_append, skipC, if_pos hd, ih (fun x hx => hl x (by simp [hx]))]
      simp; omega
  have hs : skipL (47 :: 47 :: c ++ [10]) = (47 :: 47 :: c ++ [10]).length := by
    have h47 : notLf 47 = true := by decide
    show skipC false (47 :: 47 :: (c ++ [10])) = _
    rw [skipC, skipC, hsk c hc]
    simp [isBlk, h47]
    omega
  have he2 : toksL (47 :: 47 :: c ++ [10]) = ([⟨7, ⟨#[]⟩, c.length + 3⟩], c.length + 3) := by
    unfold toksL
    rw [hs, List.drop_length, headL_end]
    simp
  rw [t2, he2]
  simp [shiftT]
  omega


/-- How many tokens there are, and where they stand. -/
theorem head_bounds : ∀ (f : Nat) (l : List UInt8) (i : Nat), (headL f l i).1.length ≤ l.length + 1 ∧ (∀ x ∈ (headL f l i).1, i ≤ x.at_ ∧ x.at_ ≤ i + l.length) ∧ (headL f l i).2 ≤ i + l.length := by
  intro f
  induction f with
  | zero => intro l i; simp [headL]
  | succ f ih =>
    intro l i
    by_cases hl : l = []
    · rw [hl, headL_end]; simp
    · by_cases h0 : (tokL l).2 = 0
      · rw [headL_stop hl h0]; simp
      · rw [headL_cons hl h0]
        unfold scanL
        have ht := tokL_le l
        have hk := skipL_le (l.drop (tokL l).2)
        obtain ⟨a, b, c⟩ := ih ((l.drop (tokL l).2).drop (skipL (l.drop (tokL l).2))) (i + (tokL l).2 + skipL (l.drop (tokL l).2))
        simp only [List.length_drop] at a b c hk
        refine ⟨by rw [List.length_cons]; omega, fun x hx => ?_, Nat.le_trans c (by omega)⟩
        simp only [List.mem_cons] at hx
        rcases hx with rfl | hx
        · simp
        · have := b x hx; omega

theorem toks_bounds (l : List UInt8) : (toksL l).1.length ≤ l.length + 1 ∧ (∀ x ∈ (toksL l).1, x.at_ ≤ l.length) := by
  have hk := skipL_le l
  obtain ⟨a, b, _⟩ := head_bounds (l.length + 1) (l.drop (skipL l)) (skipL l)
  simp only [List.length_drop] at a b
  exact ⟨Nat.le_trans a (by omega), fun x hx => by have := (b x hx).2; omega⟩
end Go.Proofs.YtbfmkehchddkoaaDoor
