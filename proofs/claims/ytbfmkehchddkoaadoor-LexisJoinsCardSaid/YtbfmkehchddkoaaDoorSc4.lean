import Derived.Test.YtbfmkehchddkoaaDoorSc3
namespace Go.Proofs.YtbfmkehchddkoaaDoor
open Go.RowKit

def ti (x : Tok) : TI := ⟨x.kind, x.text, x.at_⟩

theorem Whole.size {x : Tok} (h : Whole x) : 0 < x.text.size := by
  have := List.length_pos_iff.2 h.2
  rwa [Array.length_toList] at this
theorem Whole.tok {x : Tok} (h : Whole x) : isTokI (ti x) = true := by
  have hs := h.size
  have hl : x.text.data.toList.length = x.text.size := by rw [Array.length_toList]; rfl
  simp [isTokI, ti, hs, h.1, hl]
theorem Whole.notEnd {x : Tok} (h : Whole x) : isEndI (ti x) = false := by
  have hs := h.size
  have : ¬ x.text.size = 0 := by omega
  simp [isEndI, ti, this]

/-- The tokens before the end are whole. -/
theorem head_whole : ∀ (f : Nat) (l : List UInt8) (i : Nat), ∃ us tail, (headL f l i).1 = us ++ tail ∧ (∀ x ∈ us, Whole x) ∧ (tail = [] ∨ ∃ p, tail = [⟨7, ⟨#[]⟩, p⟩]) := by
  intro f
  induction f with
  | zero => intro l i; exact ⟨[], [], by simp [headL], by simp, .inl rfl⟩
  | succ f ih =>
    intro l i
    by_cases hl : l = []
    · rw [hl, headL_end]
      exact ⟨[], _, rfl, by simp, .inr ⟨i, rfl⟩⟩
    · by_cases h0 : (tokL l).2 = 0
      · rw [headL_stop hl h0]
        exact ⟨[], [], rfl, by simp, .inl rfl⟩
      · rw [headL_cons hl h0]
        unfold scanL
        obtain ⟨us, tail, e, hu, ht⟩ := ih ((l.drop (tokL l).2).drop (skipL (l.drop (tokL l).2))) (i + (tokL l).2 + skipL (l.drop (tokL l).2))
        refine ⟨⟨(tokL l).1, ⟨(l.take (tokL l).2).toArray⟩, i⟩ :: us, tail, by simp only [e, List.cons_append], ?_, ht⟩
        intro x hx
        rw [List.mem_cons] at hx
        rcases hx with rfl | hx
        · obtain ⟨i1, _, i6⟩ := tok_is (l := l) (kk := (tokL l).1) (ll := (tokL l).2) rfl h0
          have i7 : (tokL l).1 ≠ 7 := by omega
          exact tok_of i1 i7
        · exact hu x hx

theorem toks_whole {l : List UInt8} {ts : List Tok} {p : Nat} (h : (toksL l).1 = ts ++ [⟨7, ⟨#[]⟩, p⟩]) : ∀ x ∈ ts, Whole x := by
  obtain ⟨us, tail, e, hu, ht⟩ := head_whole (l.length + 1) (l.drop (skipL l)) (skipL l)
  have e' : ts ++ [⟨7, ⟨#[]⟩, p⟩] = us ++ tail := by rw [← h, ← e]; rfl
  rcases ht with rfl | ⟨q, rfl⟩
  · rw [List.append_nil] at e'
    have hm : (⟨7, ⟨#[]⟩, p⟩ : Tok) ∈ us := by rw [← e']; simp
    exact absurd rfl (hu _ hm).2
  · have := List.append_inj' e' rfl
    rw [this.1]; exact hu

theorem jn_end_free : ∀ (ts : List Tok), (∀ x ∈ ts, Whole x) → ∀ (first : Bool) (acc : List UInt8) (p : Nat), jn first acc (ts.map ti ++ [ti ⟨7, ⟨#[]⟩, p⟩]) = jn first acc (ts.map ti)
  | [], _, first, acc, p => by
    rw [List.map_nil, List.nil_append, jn_end (by simp [isEndI, ti]; rfl), jn]
  | x :: r, h, first, acc, p => by
    have hx := h x (by simp)
    rw [List.map_cons, List.cons_append, jn_step (by rw [hx.notEnd]; rfl) hx.tok rfl, jn_step (by rw [hx.notEnd]; rfl) hx.tok rfl,
      jn_end_free r (fun z hz => h z (by simp [hz])) false _ p]

theorem jn_same {ts us : List Tok} (h : SameL ts us) : (∀ x ∈ ts, Whole x) → ∀ (first : Bool) (acc : List UInt8), jn first acc (ts.map ti) = jn first acc (us.map ti) := by
  induction h with
  | nil => intro _ _ _; rfl
  | @cons x y xs ys hxy _ ih =>
    intro hw first acc
    have hx := hw x (by simp)
    have hy : Whole y := by
      obtain ⟨h1, h2⟩ := hx
      exact ⟨by rw [← hxy.1, ← hxy.2]; exact h1, by rw [← hxy.2]; exact h2⟩
    have e : (if first then acc else acc ++ [32]) ++ (ti y).text.data.toList = (if first then acc else acc ++ [32]) ++ (ti x).text.data.toList := by
      show _ ++ y.text.data.toList = _ ++ x.text.data.toList
      rw [hxy.2]
    rw [List.map_cons, List.map_cons, jn_step (by rw [hx.notEnd]; rfl) hx.tok rfl, jn_step (by rw [hy.notEnd]; rfl) hy.tok e, ih (fun z hz => hw z (by simp [hz]))]

theorem jn_is : ∀ (ts : List Tok), (∀ x ∈ ts, Whole x) → ∀ (first : Bool) (acc a : List UInt8), acc.length ≤ 8000 → jn first acc (ts.map ti) = some a →
    a = (if ts = [] then acc else (if first then acc else acc ++ [32]) ++ jt ts) ∧ a.length ≤ 8000
  | [], _, first, acc, a, hl, h => by
    rw [List.map_nil, jn] at h
    obtain rfl := Option.some.inj h
    exact ⟨by simp, hl⟩
  | x :: r, hw, first, acc, a, hl, h => by
    have hx := hw x (by simp)
    rw [List.map_cons, jn_step (by rw [hx.notEnd]; rfl) hx.tok rfl] at h
    by_cases h8 : 8000 < ((if first then acc else acc ++ [32]) ++ (ti x).text.data.toList).length
    · rw [if_pos h8] at h; cases h
    · rw [if_neg h8] at h
      obtain ⟨e, hl2⟩ := jn_is r (fun z hz => hw z (by simp [hz])) false _ a (by omega) h
      refine ⟨?_, hl2⟩
      rw [e]
      cases r with
      | nil => simp [jt, ti]
      | cons y r => simp [jt, ti, List.append_assoc]
end Go.Proofs.YtbfmkehchddkoaaDoor
