import Derived.Test.YtbfmkehchddkoaaDoorLa12
import Derived.Test.YtbfmkehchddkoaaDoorLa5
namespace Go.Proofs.YtbfmkehchddkoaaDoor
open Go.RowKit

/-- How far skipC still goes, after a byte. -/
theorem skipC_step {b : Bool} {s : ByteArray} {k : Nat} (h : k < s.size) (hpos : 0 < skipC b (s.data.toList.drop k)) :
    ∃ c : Bool, skipC b (s.data.toList.drop k) = 1 + skipC c (s.data.toList.drop (k + 1)) ∧
      (c = true ↔ ((((s[k].toNat : Int) == 47) = true ∧ ∃ h2 : k + 1 < s.size, ((s[k + 1].toNat : Int) == 47) = true) ∨ (b = true ∧ ((s[k].toNat : Int) != 10) = true))) ∧
      (c = false → isBlk s[k] = true) := by
  have e := drop_cons s k h
  have hnl : ((s[k].toNat : Int) != 10) = notLf s[k] := rfl
  have h4710 : ((s[k].toNat : Int) == 47) = true → notLf s[k] = true := by
    intro h1
    have : s[k] = 47 := UInt8.toNat_inj.1 (by simp at h1; show s[k].toNat = 47; omega)
    rw [this]; rfl
  rw [hnl]
  cases b
  · by_cases hb : isBlk s[k] = true
    · refine ⟨false, by rw [e, skipC, if_pos hb], ?_, fun _ => hb⟩
      have h47 : ¬ ((s[k].toNat : Int) == 47) = true := by
        intro h1
        have : s[k] = 47 := UInt8.toNat_inj.1 (by simp at h1; show s[k].toNat = 47; omega)
        rw [this] at hb; cases hb
      simp only [Bool.false_eq_true, false_iff, false_and, or_false]
      exact fun h => h47 h.1
    · have hb' : isBlk s[k] = false := by simpa using hb
      by_cases hp : [47, 47].isPrefixOf (s.data.toList.drop k) = true
      · have hl2 : k + 1 < s.size := by
          rcases Nat.lt_or_ge (k + 1) s.size with h | h'
          · exact h
          · rw [comment_last h (by omega)] at hp; cases hp
        have hp2 := hp
        rw [comment_at h hl2, Bool.and_eq_true] at hp2
        refine ⟨true, ?_, ?_, fun h => by cases h⟩
        · have ht : (s.data.toList.drop k).take 2 = [47, 47] := by
            obtain ⟨r, hr⟩ := List.isPrefixOf_iff_prefix.1 hp
            rw [← hr]; rfl
          rw [e] at ht ⊢
          rw [skipC, if_neg hb, if_pos ht]
        · simp only [true_iff]
          exact .inl ⟨hp2.1, hl2, hp2.2⟩
      · have hp' : [47, 47].isPrefixOf (s.data.toList.drop k) = false := Bool.eq_false_iff.2 hp
        have h0 : skipC false (s.data.toList.drop k) = 0 := by
          rw [e] at hp' ⊢
          exact skipL_stop hb' hp'
        omega
  · by_cases hn : notLf s[k] = true
    · refine ⟨true, by rw [e, skipC, if_pos hn], ?_, fun h => by cases h⟩
      simp [hn]
    · refine ⟨false, by rw [e, skipC, if_neg hn], ?_, fun _ => ?_⟩
      · simp only [Bool.false_eq_true, false_iff, true_and]
        rintro (⟨h1, _⟩ | h1)
        · exact hn (h4710 h1)
        · exact hn h1
      · have hc : s[k] = 10 := by
          unfold notLf at hn
          simp at hn
          exact UInt8.toNat_inj.1 (by show s[k].toNat = 10; omega)
        rw [hc]; rfl

theorem skipC_end {b : Bool} {s : ByteArray} {k : Nat} (h : k < s.size) (h0 : skipC b (s.data.toList.drop k) = 0) : b = false := by
  cases b
  · rfl
  · rw [drop_cons s k h, skipC] at h0
    split at h0 <;> omega

/-- What is known at the head of a round of the loop over the tokens: behind position a stand the tokens from number k on. -/
structure StA (s : ByteArray) (TL : List Tok) (k a : Nat) : Prop where
  le : a ≤ s.size
  toks : ∃ f, s.size < a + f ∧ TL.drop k = (scanL f (s.data.toList.drop a) a).1 ∧ (scanL f (s.data.toList.drop a) a).2 = s.size

/-- The token that comes next, and what comes behind it. -/
theorem StA.next {s : ByteArray} {TL : List Tok} {k a : Nat} (h : StA s TL k a) : ∃ x : Tok, TL[k]? = some x ∧ x.at_ = a + skipL (s.data.toList.drop a) ∧ x.at_ + x.text.size ≤ s.size ∧ s.extract x.at_ (x.at_ + x.text.size) = x.text ∧
    ((x.kind = 7 ∧ x.text = ⟨#[]⟩ ∧ x.at_ = s.size ∧ k + 1 = TL.length) ∨
      (1 ≤ x.kind ∧ x.kind ≤ 6 ∧ x.at_ < s.size ∧ k + 1 < TL.length ∧ isTokB x.kind x.text.data.toList = true ∧ StA s TL (k + 1) (x.at_ + x.text.size))) := by
  obtain ⟨hle, f, hf, ht, he⟩ := h
  obtain ⟨f, rfl⟩ : ∃ g, f = g + 1 := ⟨f - 1, by omega⟩
  have hsk := skipL_le_drop s a
  have hsl : s.data.toList.length = s.size := by simp
  unfold scanL at ht he
  rw [List.drop_drop] at ht he
  obtain ⟨p, hp⟩ : ∃ p, a + skipL (s.data.toList.drop a) = p := ⟨_, rfl⟩
  rw [hp] at ht he ⊢
  have hdl : (s.data.toList.drop p).length = s.size - p := by rw [List.length_drop, hsl]
  by_cases hn : s.data.toList.drop p = []
  · have hps : p = s.size := by
      have := congrArg List.length hn
      rw [hdl, List.length_nil] at this; omega
    rw [hn, headL_end] at ht
    subst hps
    have hg : TL[k]? = some ⟨7, ⟨#[]⟩, s.size⟩ := by
      have h1 : (TL.drop k)[0]? = some ⟨7, ⟨#[]⟩, s.size⟩ := by rw [ht]; rfl
      rwa [List.getElem?_drop, Nat.add_zero] at h1
    have hlen : k + 1 = TL.length := by
      have := congrArg List.length ht
      rw [List.length_drop] at this
      simp at this; omega
    refine ⟨_, hg, rfl, Nat.le_refl _, ?_, .inl ⟨rfl, rfl, rfl, hlen⟩⟩
    show s.extract s.size (s.size + 0) = _
    rw [Nat.add_zero, ByteArray.extract_same]; rfl
  · obtain ⟨kk, ll, hT⟩ : ∃ kk ll, tokL (s.data.toList.drop p) = (kk, ll) := ⟨_, _, rfl⟩
    have hps : p < s.size := by
      have := List.length_pos_iff.2 hn
      omega
    by_cases h0 : ll = 0
    · subst h0
      rw [headL_stop hn (by rw [hT])] at he
      simp at he; omega
    · have hll := tokL_le (s.data.toList.drop p)
      rw [hT, hdl] at hll
      simp only at hll
      rw [headL_cons hn (by rw [hT]; exact h0), hT, List.drop_drop] at ht he
      simp only at ht he
      obtain ⟨i1, i2, i3⟩ := tok_is hT h0
      have htl : ((s.data.toList.drop p).take ll).length = ll := by rw [List.length_take, hdl]; omega
      have htz : (⟨((s.data.toList.drop p).take ll).toArray⟩ : ByteArray).size = ll := by
        show ((s.data.toList.drop p).take ll).toArray.size = ll
        rw [List.size_toArray]; exact htl
      have hg : TL[k]? = some ⟨kk, ⟨((s.data.toList.drop p).take ll).toArray⟩, p⟩ := by
        have h1 : (TL.drop k)[0]? = some ⟨kk, ⟨((s.data.toList.drop p).take ll).toArray⟩, p⟩ := by rw [ht]; rfl
        rwa [List.getElem?_drop, Nat.add_zero] at h1
      have hrest : TL.drop (k + 1) = (scanL f (s.data.toList.drop (p + ll)) (p + ll)).1 := by
        have h1 : (TL.drop k).drop 1 = (scanL f (s.data.toList.drop (p + ll)) (p + ll)).1 := by rw [ht]; rfl
        rwa [List.drop_drop] at h1
      have hnx : StA s TL (k + 1) (p + ll) := ⟨by omega, f, by omega, hrest, he⟩
      have hne : k + 1 < TL.length := by
        have hdl2 : (s.data.toList.drop (p + ll)).length = s.size - (p + ll) := by rw [List.length_drop, hsl]
        have hsc := scan_app f (s.data.toList.drop (p + ll)) (p + ll) (by rw [hdl2]; omega) [] (s.size + 2) (by rw [hdl2]; simp; omega)
        obtain ⟨us, u1, _⟩ := hsc.2.2 (by rw [he, hdl2]; omega)
        have := congrArg List.length hrest
        rw [u1, List.length_drop, List.length_append, List.length_singleton] at this
        omega
      refine ⟨_, hg, rfl, ?_, ?_, .inr ⟨i2, i3, hps, hne, i1, ?_⟩⟩
      · show p + (⟨((s.data.toList.drop p).take ll).toArray⟩ : ByteArray).size ≤ _
        rw [htz]; omega
      · show s.extract p (p + (⟨((s.data.toList.drop p).take ll).toArray⟩ : ByteArray).size) = _
        rw [htz, text_eq, Nat.add_sub_cancel_left]
      · show StA s TL (k + 1) (p + (⟨((s.data.toList.drop p).take ll).toArray⟩ : ByteArray).size)
        rw [htz]; exact hnx

theorem StA.first (s : ByteArray) (h : (toksL s.data.toList).2 = s.size) : StA s (toksL s.data.toList).1 0 0 := by
  refine ⟨by omega, s.data.toList.length + 1, by simp, ?_, ?_⟩
  · rw [List.drop_zero, List.drop_zero, ← toksL_scan]
  · rw [List.drop_zero, ← toksL_scan]; exact h
end Go.Proofs.YtbfmkehchddkoaaDoor
