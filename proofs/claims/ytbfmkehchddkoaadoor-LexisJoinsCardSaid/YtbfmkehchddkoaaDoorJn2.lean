import Derived.Test.YtbfmkehchddkoaaDoorLa12
namespace Go.Proofs.YtbfmkehchddkoaaDoor
open Go.RowKit

theorem span_full {p : UInt8 → Bool} {l : List UInt8} (h : l.all p = true) : spanL p l = l.length := by
  have := spanL_all p l
  rw [h] at this
  exact beq_iff_eq.1 this

theorem run_tok {l : List UInt8} (h : isRunL l = true) : tokL l = if isWordL l = true then (5, l.length) else if isNameL l = true then (1, l.length) else (0, 0) := by
  cases l with
  | nil => simp [isRunL] at h
  | cons c r =>
    have hc : isLet c = true := by simp only [isRunL, Bool.and_eq_true] at h; exact h.1
    have ha : (c :: r).all isRunB = true := by simp only [isRunL, Bool.and_eq_true] at h; exact h.2
    have hp : List.isPrefixOf [116, 35] (c :: r) = false := by
      rw [Bool.eq_false_iff]
      intro hp
      obtain ⟨t, ht⟩ := List.isPrefixOf_iff_prefix.1 hp
      have h35 : (35 : UInt8) ∈ c :: r := by rw [← ht]; simp
      have := List.all_eq_true.1 ha _ h35
      exact absurd this (by decide)
    have hl : (c :: r).headD 0 = c := rfl
    rw [tokL, pickL, hp, hl, hc]
    simp only [Bool.false_eq_true, if_false, if_true, runL, span_full ha, List.take_length]

theorem num_digits (lim : Nat) : ∀ (l : List UInt8) (n : Nat), numGo lim n l = true → l.all isDig = true
  | [], _, _ => rfl
  | c :: l, n, h => by
    rw [numGo, Bool.and_eq_true, Bool.and_eq_true] at h
    rw [List.all_cons, h.1.1, num_digits lim l _ h.2]; rfl

theorem isNumL_digits {l : List UInt8} {lim : Nat} (hlim : lim ≤ 4294967296) (h : isNumL l lim = true) : l ≠ [] ∧ l.all isDig = true := by
  rw [isNumL, isNumS_go _ lim hlim, Bool.and_eq_true, Bool.and_eq_true] at h
  have h2 := num_digits lim _ _ h.2.2
  have h1 := of_decide_eq_true h.2.1
  refine ⟨?_, by simpa using h2⟩
  intro e
  rw [e] at h1
  exact absurd h1 (by decide)

theorem dig_not_let {c : UInt8} (h : isDig c = true) : isLet c = false := by
  rw [isDig_iff] at h
  rw [Bool.eq_false_iff]; intro e
  simp [isLet] at e
  omega

theorem dig_head {c : UInt8} {r : List UInt8} (h : isDig c = true) : List.isPrefixOf [116, 35] (c :: r) = false := by
  rw [Bool.eq_false_iff]
  intro hp
  obtain ⟨t, ht⟩ := List.isPrefixOf_iff_prefix.1 hp
  have : c = 116 := (List.cons.inj ht).1.symm
  rw [this] at h; cases h

theorem num_tok {l : List UInt8} (h : isNumL l 2147483647 = true) : tokL l = (2, l.length) := by
  obtain ⟨hn, hd⟩ := isNumL_digits (by omega) h
  cases l with
  | nil => exact absurd rfl hn
  | cons c r =>
    have hc : isDig c = true := by rw [List.all_cons, Bool.and_eq_true] at hd; exact hd.1
    have hl : (c :: r).headD 0 = c := rfl
    rw [tokL, pickL, dig_head hc, hl, dig_not_let hc, hc]
    simp only [Bool.false_eq_true, if_false, if_true, numL, span_full hd, List.take_length, h]

theorem time_tok {l : List UInt8} (h : isTimeL l = true) : tokL l = (3, l.length) := by
  rw [isTimeL, Bool.and_eq_true, Bool.and_eq_true] at h
  obtain ⟨⟨h1, h2⟩, h3⟩ := h
  have h1 := of_decide_eq_true h1
  have h2 := beq_iff_eq.1 h2
  obtain ⟨_, hd⟩ := isNumL_digits (by omega) h3
  have hp : List.isPrefixOf [116, 35] l = true := by
    rw [List.isPrefixOf_iff_prefix]
    exact ⟨l.drop 2, by rw [← h2, List.take_append_drop]⟩
  have hl : (l.drop 2).take (l.drop 2).length = l.drop 2 := List.take_length
  rw [tokL, pickL, if_pos hp, timeL, span_full hd, hl, if_pos h3, List.length_drop]
  congr 1
  omega

theorem sign_tok : ∀ x ∈ signsL, tokL x = (4, x.length) := by decide +kernel

theorem addr_tok {l : List UInt8} (h : isAddrL l = true) : tokL l = (6, l.length) := by
  match l, h with
  | c :: d :: r, h =>
    have h0 := h
    rw [isAddrL, Bool.and_eq_true, Bool.and_eq_true] at h
    obtain ⟨⟨h1, h2⟩, h3⟩ := h
    have hc : c = 37 := UInt8.toNat_inj.1 (by simp at h1; show c.toNat = 37; omega)
    subst hc
    obtain ⟨_, hd⟩ := isNumL_digits (by omega) h3
    have hdl : isAdr d = true := by
      have : d = 105 ∨ d = 113 ∨ d = 109 := by
        simp only [Bool.or_eq_true, beq_iff_eq] at h2
        rcases h2 with (h | h) | h
        · exact .inl (UInt8.toNat_inj.1 (by show d.toNat = 105; omega))
        · exact .inr (.inl (UInt8.toNat_inj.1 (by show d.toNat = 113; omega)))
        · exact .inr (.inr (UInt8.toNat_inj.1 (by show d.toNat = 109; omega)))
      rcases this with rfl | rfl | rfl <;> rfl
    have ha : (d :: r).all isAdr = true := by
      rw [List.all_cons, hdl, Bool.true_and, List.all_eq_true]
      intro x hx
      have := List.all_eq_true.1 hd x hx
      rw [isAdr, this, Bool.or_true]
    have e1 : tokL (37 :: d :: r) = adrL (37 :: d :: r) := rfl
    rw [e1, adrL]
    show (if isAddrL ((37 :: d :: r).take (1 + spanL isAdr (d :: r))) = true then (6, 1 + spanL isAdr (d :: r)) else (0, 0)) = _
    rw [span_full ha]
    have e2 : (37 :: d :: r).take (1 + (d :: r).length) = 37 :: d :: r := List.take_of_length_le (by simp; omega)
    rw [e2, if_pos h0]
    congr 1
    simp; omega

/-- What the reference takes for a token of some source is one: it is its own token, whole. -/
theorem tok_of {k : Nat} {l : List UInt8} (h : isTokB k l = true) (h7 : k ≠ 7) : tokL l = (k, l.length) ∧ l ≠ [] := by
  have hne : tokL l = (k, l.length) → 1 ≤ k → l ≠ [] := by
    intro ht hk e
    rw [e] at ht
    have : tokL [] = (0, 0) := by decide +kernel
    rw [this] at ht
    have := (Prod.mk.inj ht).1
    omega
  unfold isTokB at h
  by_cases h1 : k = 1
  · subst h1
    rw [if_pos rfl] at h
    have hr : isRunL l = true := by simp only [isNameL, Bool.and_eq_true] at h; exact h.1.2
    have hw : ¬ isWordL l = true := by simp only [isNameL, Bool.and_eq_true] at h; simpa using h.2
    have ht : tokL l = (1, l.length) := by rw [run_tok hr, if_neg hw, if_pos h]
    exact ⟨ht, hne ht (by omega)⟩
  · rw [if_neg h1] at h
    by_cases h2 : k = 2
    · subst h2
      rw [if_pos rfl] at h
      exact ⟨num_tok h, hne (num_tok h) (by omega)⟩
    · rw [if_neg h2] at h
      by_cases h3 : k = 3
      · subst h3
        rw [if_pos rfl] at h
        exact ⟨time_tok h, hne (time_tok h) (by omega)⟩
      · rw [if_neg h3] at h
        by_cases h4 : k = 4
        · subst h4
          rw [if_pos rfl] at h
          have := sign_tok l (by simpa [isSignL] using h)
          exact ⟨this, hne this (by omega)⟩
        · rw [if_neg h4] at h
          by_cases h5 : k = 5
          · subst h5
            rw [if_pos rfl] at h
            have hm : l ∈ wordsL := by simpa [isWordL] using h
            have ht : tokL l = (5, l.length) := by rw [run_tok (words_runs l hm), if_pos h]
            exact ⟨ht, hne ht (by omega)⟩
          · rw [if_neg h5] at h
            by_cases h6 : k = 6
            · subst h6
              rw [if_pos rfl] at h
              exact ⟨addr_tok h, hne (addr_tok h) (by omega)⟩
            · rw [if_neg h6] at h
              simp [h7] at h
end Go.Proofs.YtbfmkehchddkoaaDoor
