import Derived.Test.YtbfmkehchddkoaaDoorJn6
import Derived.Test.YtbfmkehchddkoaaDoorLa9
namespace Go.Proofs.YtbfmkehchddkoaaDoor
open Go.RowKit Go.Shelf

theorem numGo_len (lim : Nat) : ∀ (l : List UInt8) (n : Nat), n ≤ lim → 1 ≤ n → numGo lim n l = true → n + l.length ≤ lim
  | [], n, h, _, _ => by simpa using h
  | c :: l, n, _, h1, h => by
    rw [numGo, Bool.and_eq_true, Bool.and_eq_true, decide_eq_true_eq] at h
    have := numGo_len lim l _ h.1.2 (by omega) h.2
    rw [List.length_cons]; omega

theorem isNumL_len {l : List UInt8} {lim : Nat} (hlim : lim ≤ 4294967296) (h : isNumL l lim = true) : l.length ≤ lim + 1 := by
  have h0 := h
  rw [isNumL, isNumS_go _ lim hlim, Bool.and_eq_true, Bool.and_eq_true] at h
  obtain ⟨h1, h2, h3⟩ := h
  have e1 : (⟨l.toArray⟩ : ByteArray).data.toList = l := by simp
  have e2 : (⟨l.toArray⟩ : ByteArray).size = l.length := by show l.toArray.size = _; simp
  rw [e1] at h1 h3
  rw [e2] at h1
  cases l with
  | nil => simp
  | cons c r =>
    rw [numGo, Bool.and_eq_true, Bool.and_eq_true, decide_eq_true_eq] at h3
    rw [List.length_cons]
    by_cases hr : r = []
    · subst hr; simp
    · have hc : ¬ c = 48 := by
        intro e
        subst e
        have : 1 < r.length + 1 := by have := List.length_pos_iff.2 hr; omega
        simp [hr] at h1
      have hd := (isDig_iff c).1 h3.1.1
      have hc2 : c.toNat ≠ 48 := fun e => hc (UInt8.toNat_inj.1 (by show c.toNat = 48; exact e))
      have := numGo_len lim r _ h3.1.2 (by omega) h3.2
      omega

theorem tokI_len {x : TI} (h : isTokI x = true) : x.text.size ≤ 4294967296 := by
  obtain ⟨kk, y, p⟩ := x
  obtain ⟨h1, h6⟩ := tokI_kinds h
  simp only at h1 h6
  obtain ⟨k, rfl⟩ : ∃ k : Nat, kk = k := ⟨kk.toNat, by omega⟩
  rw [tokI_B (by omega) (by omega)] at h
  have hl : y.data.toList.length = y.size := by rw [Array.length_toList]; rfl
  show y.size ≤ _
  rw [← hl]
  generalize y.data.toList = l at h
  unfold isTokB at h
  by_cases e1 : k = 1
  · rw [if_pos e1] at h
    simp only [isNameL, Bool.and_eq_true, decide_eq_true_eq] at h
    omega
  · rw [if_neg e1] at h
    by_cases e2 : k = 2
    · rw [if_pos e2] at h
      have := isNumL_len (by omega) h
      omega
    · rw [if_neg e2] at h
      by_cases e3 : k = 3
      · rw [if_pos e3] at h
        rw [isTimeL, Bool.and_eq_true, Bool.and_eq_true] at h
        have := isNumL_len (by omega) h.2
        rw [List.length_drop] at this
        omega
      · rw [if_neg e3] at h
        by_cases e4 : k = 4
        · rw [if_pos e4] at h
          have hm : l ∈ signsL := by simpa [isSignL] using h
          have hall : ∀ x ∈ signsL, x.length ≤ 2 := by decide +kernel
          have := hall l hm
          omega
        · rw [if_neg e4] at h
          by_cases e5 : k = 5
          · rw [if_pos e5] at h
            have hm : l ∈ wordsL := by simpa [isWordL] using h
            have hall : ∀ x ∈ wordsL, x.length ≤ 100 := by decide +kernel
            have := hall l hm
            omega
          · rw [if_neg e5] at h
            by_cases e6 : k = 6
            · rw [if_pos e6] at h
              match l, h with
              | c :: d :: r, h =>
                rw [isAddrL, Bool.and_eq_true] at h
                have := isNumL_len (by omega) h.2
                simp only [List.length_cons]
                omega
            · omega

def tiC (x : TI) : List Value := [.int .i64 x.kind, .string x.text, .int .i64 x.at_]
/-- The value is a slice in memory of the call's own that holds these tokens. -/
def TiSl (W : World) (v : Value) (ts : List TI) : Prop := ∃ base, W.ownsRow base 46 3 v ts.length (ts.flatMap tiC)

theorem flat_ti : ∀ (ts : List TI) (i : Nat) (h : i < ts.length) (j : Nat), j < 3 → (ts.flatMap tiC)[i * 3 + j]? = (tiC ts[i])[j]?
  | t :: ts, 0, _, j, hj => by
    rw [List.flatMap_cons, List.getElem?_append_left (by simp [tiC]; omega)]
    simp
  | t :: ts, i + 1, h, j, hj => by
    have hl : (tiC t).length = 3 := rfl
    rw [List.flatMap_cons, List.getElem?_append_right (by rw [hl]; omega), hl]
    have := flat_ti ts i (by simpa using h) j hj
    rw [show (i + 1) * 3 + j - 3 = i * 3 + j by omega, this]
    simp

theorem TiSl.at {W : World} {v : Value} {ts : List TI} (h : TiSl W v ts) (hn : 0 < ts.length) : ∃ g cap, v = .slice (some ⟨g, 0, none⟩) ts.length cap ∧
    ∀ i x, ts[i]? = some x → TiAt W g i x := by
  obtain ⟨base, hr⟩ := h
  obtain ⟨n, hl⟩ : ∃ n, ts.length = n + 1 := ⟨ts.length - 1, by omega⟩
  rw [hl] at hr
  obtain ⟨g, cap, rfl⟩ := ownsRow_succ hr
  refine ⟨g, cap, by rw [hl], fun i x hx => ?_⟩
  obtain ⟨hi, rfl⟩ := List.getElem?_eq_some_iff.1 hx
  have hc := hr.cells (g := g) rfl
  have h0 := hc (i * 3 + 0) _ ((flat_ti ts i hi 0 (by omega)).trans rfl)
  have h1 := hc (i * 3 + 1) _ ((flat_ti ts i hi 1 (by omega)).trans rfl)
  have h2 := hc (i * 3 + 2) _ ((flat_ti ts i hi 2 (by omega)).trans rfl)
  rw [addr_add] at h0 h1 h2
  exact ⟨h0, h1, h2⟩
end Go.Proofs.YtbfmkehchddkoaaDoor
