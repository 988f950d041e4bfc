import Derived.Test.YtbfmkehchddkoaaDoorJn4
import Derived.Test.YtbfmkehchddkoaaDoorLa13
namespace Go.Proofs.YtbfmkehchddkoaaDoor
open Go.RowKit

/- Tokens with a blank behind them: the joined text is cut where it was joined. -/
theorem spanL_sp (p : UInt8 → Bool) (hp : p 32 = false) (l r : List UInt8) : spanL p (l ++ 32 :: r) = spanL p l := by
  induction l with
  | nil => simp [spanL, List.takeWhile, hp]
  | cons c l ih =>
    by_cases h : p c = true
    · simp only [spanL] at ih
      simp [spanL, List.takeWhile, h, ih]
    · simp [spanL, List.takeWhile, h]

theorem prefix_sp (l r : List UInt8) : List.isPrefixOf [116, 35] (l ++ 32 :: r) = List.isPrefixOf [116, 35] l := by
  match l with
  | [] => rfl
  | [c] => simp [List.isPrefixOf]
  | c :: d :: l => simp [List.isPrefixOf]

theorem sign_sp (c : UInt8) : isSignL [c, 32] = false := by
  simp [isSignL, signsL]

theorem tokL_sp {l : List UInt8} (r : List UInt8) (hl : l ≠ []) : tokL (l ++ 32 :: r) = tokL l := by
  have hh : (l ++ 32 :: r).headD 0 = l.headD 0 := by
    cases l with
    | nil => exact absurd rfl hl
    | cons c l => rfl
  have hlen : 1 ≤ l.length := List.length_pos_iff.2 hl
  have e1 : runL (l ++ 32 :: r) = runL l := by
    simp only [runL, spanL_sp isRunB (by decide), take_app (spanL_le isRunB l)]
  have e2 : numL (l ++ 32 :: r) = numL l := by
    simp only [numL, spanL_sp isDig (by decide), take_app (spanL_le isDig l)]
  have e3 : adrL (l ++ 32 :: r) = adrL l := by
    have h4 := spanL_le isAdr (l.drop 1)
    simp only [List.length_drop] at h4
    simp only [adrL, drop_app hlen, spanL_sp isAdr (by decide)]
    rw [take_app (by omega)]
  have e4 : sgnL (l ++ 32 :: r) = sgnL l := by
    simp only [sgnL, take_app hlen]
    by_cases h2 : 2 ≤ l.length
    · rw [take_app h2]
      have : 2 ≤ l.length + (r.length + 1) := by omega
      simp [h2, this]
    · obtain ⟨c, rfl⟩ : ∃ c, l = [c] := List.length_eq_one_iff.1 (by omega)
      have e : ([c] ++ 32 :: r).take 2 = [c, 32] := rfl
      rw [e, sign_sp]
      simp
  simp only [tokL, pickL, prefix_sp, hh, e1, e2, e3, e4]
  by_cases hp : List.isPrefixOf [116, 35] l = true
  · have h2 : 2 ≤ l.length := by
      have := (List.isPrefixOf_iff_prefix.1 hp).length_le
      simpa using this
    have e5 : timeL (l ++ 32 :: r) = timeL l := by
      simp only [timeL, drop_app h2, spanL_sp isDig (by decide), take_app (spanL_le isDig (l.drop 2))]
    rw [e5]
  · simp [hp]

theorem bytes_blk {c : UInt8} (h : isBlk c = true) : c = 9 ∨ c = 10 ∨ c = 13 ∨ c = 32 := by
  unfold isBlk at h
  simp only [Bool.or_eq_true, beq_iff_eq] at h
  rcases h with ((h | h) | h) | h
  · exact .inl (UInt8.toNat_inj.1 (by show c.toNat = 9; omega))
  · exact .inr (.inl (UInt8.toNat_inj.1 (by show c.toNat = 10; omega)))
  · exact .inr (.inr (.inl (UInt8.toNat_inj.1 (by show c.toNat = 13; omega))))
  · exact .inr (.inr (.inr (UInt8.toNat_inj.1 (by show c.toNat = 32; omega))))


theorem sign_blank (c : UInt8) (m : List UInt8) (h : isBlk c = true) : isSignL (c :: m) = false := by
  have hc : c = 9 ∨ c = 10 ∨ c = 13 ∨ c = 32 := by
    rcases bytes_blk h with h | h | h | h
    · exact .inl h
    · exact .inr (.inl h)
    · exact .inr (.inr (.inl h))
    · exact .inr (.inr (.inr h))
  rw [Bool.eq_false_iff]
  intro e
  have hm : (c :: m) ∈ signsL := by simpa [isSignL] using e
  have hall : ∀ x ∈ signsL, x.headD 0 ≠ 9 ∧ x.headD 0 ≠ 10 ∧ x.headD 0 ≠ 13 ∧ x.headD 0 ≠ 32 := by decide +kernel
  have := hall _ hm
  simp only [List.headD_cons] at this
  rcases hc with rfl | rfl | rfl | rfl <;> simp at this

theorem tok_blank {c : UInt8} {l : List UInt8} (h : isBlk c = true) : (tokL (c :: l)).2 = 0 := by
  have hl : (c :: l).headD 0 = c := rfl
  have hc : c = 9 ∨ c = 10 ∨ c = 13 ∨ c = 32 := bytes_blk h
  have h1 : List.isPrefixOf [116, 35] (c :: l) = false := by rcases hc with rfl | rfl | rfl | rfl <;> simp [List.isPrefixOf]
  have h2 : isLet c = false := by rcases hc with rfl | rfl | rfl | rfl <;> rfl
  have h3 : isDig c = false := by rcases hc with rfl | rfl | rfl | rfl <;> rfl
  have h4 : isPct c = false := by rcases hc with rfl | rfl | rfl | rfl <;> rfl
  rw [tokL, pickL, h1, hl, h2, h3, h4]
  simp only [Bool.false_eq_true, if_false]
  rw [sgnL]
  have e1 : (c :: l).take 1 = [c] := rfl
  have e2 : (c :: l).take 2 = c :: l.take 1 := rfl
  rw [e1, e2, sign_blank c _ h, sign_blank c _ h]
  simp

theorem tok_slash {l : List UInt8} : (tokL (47 :: 47 :: l)).2 ≠ l.length + 2 := by
  have e : tokL (47 :: 47 :: l) = sgnL (47 :: 47 :: l) := rfl
  have e2 : isSignL [47, 47] = false := by decide
  have e1 : isSignL [47] = true := by decide
  rw [e, sgnL]
  show (if 2 ≤ (47 :: 47 :: l).length ∧ isSignL [47, 47] = true then (4, 2) else if isSignL [47] = true then (4, 1) else (0, 0)).2 ≠ _
  rw [e2, e1]
  simp

/-- No blanks and no comment stand before a token. -/
theorem skip_tok {t r : List UInt8} {k : Nat} (ht : tokL t = (k, t.length)) (hn : t ≠ []) : skipL (t ++ 32 :: r) = 0 ∧ skipL t = 0 := by
  cases t with
  | nil => exact absurd rfl hn
  | cons c l =>
    have hb : isBlk c = false := by
      rw [Bool.eq_false_iff]
      intro hb
      have := tok_blank (l := l) hb
      rw [ht] at this
      simp at this
    cases l with
    | nil =>
      refine ⟨skipL_stop hb ?_, skipL_stop hb ?_⟩ <;> simp [List.isPrefixOf]
    | cons d l =>
      have hp : ∀ m : List UInt8, [47, 47].isPrefixOf (c :: d :: m) = false := by
        intro m
        rw [Bool.eq_false_iff]
        intro hp
        obtain ⟨x, hx⟩ := List.isPrefixOf_iff_prefix.1 hp
        have h1 : c = 47 := (List.cons.inj hx).1.symm
        have h2 : d = 47 := (List.cons.inj (List.cons.inj hx).2).1.symm
        subst h1; subst h2
        have := tok_slash (l := l)
        rw [ht] at this
        exact this rfl
      exact ⟨skipL_stop hb (hp _), skipL_stop hb (hp _)⟩

theorem scan_tok {t r : List UInt8} {k : Nat} (ht : tokL t = (k, t.length)) (hn : t ≠ []) (f i : Nat) :
    scanL (f + 1) (t ++ 32 :: r) i = (⟨k, ⟨t.toArray⟩, i⟩ :: (scanL f r (i + t.length + 1)).1, (scanL f r (i + t.length + 1)).2) := by
  have h1 := tokL_sp r hn
  have hl : t.length ≠ 0 := fun e => hn (List.eq_nil_of_length_eq_zero e)
  unfold scanL
  rw [(skip_tok (r := r) ht hn).1, List.drop_zero, Nat.add_zero]
  rw [headL_cons (by simp) (by rw [h1, ht]; exact hl), h1, ht]
  have e1 : (t ++ 32 :: r).take t.length = t := List.take_left
  have e2 : (t ++ 32 :: r).drop t.length = 32 :: r := List.drop_left
  rw [e1, e2]
  unfold scanL
  have e3 : skipL (32 :: r) = 1 + skipL r := skipL_blank (by decide)
  have e4 : (32 :: r).drop (1 + skipL r) = r.drop (skipL r) := by rw [Nat.add_comm, List.drop_succ_cons]
  rw [e3, e4, ← Nat.add_assoc]; rfl

theorem scan_last {t : List UInt8} {k : Nat} (ht : tokL t = (k, t.length)) (hn : t ≠ []) (f i : Nat) :
    scanL (f + 2) t i = ([⟨k, ⟨t.toArray⟩, i⟩, ⟨7, ⟨#[]⟩, i + t.length⟩], i + t.length) := by
  have hl : t.length ≠ 0 := fun e => hn (List.eq_nil_of_length_eq_zero e)
  unfold scanL
  rw [(skip_tok (r := []) ht hn).2, List.drop_zero, Nat.add_zero, headL_cons hn (by rw [ht]; exact hl), ht]
  simp only [List.take_length, List.drop_length]
  unfold scanL
  rw [skipL_nil, List.drop_nil, headL_end]
  rfl

/-- The joined texts. -/
def jt : List Tok → List UInt8
  | [] => []
  | [x] => x.text.data.toList
  | x :: y :: r => x.text.data.toList ++ 32 :: jt (y :: r)

def sameT (x y : Tok) : Prop := x.kind = y.kind ∧ x.text = y.text
inductive SameL : List Tok → List Tok → Prop
  | nil : SameL [] []
  | cons {x y : Tok} {xs ys : List Tok} (h : sameT x y) (t : SameL xs ys) : SameL (x :: xs) (y :: ys)

/-- A token of a source is its own token, whole. -/
def Whole (x : Tok) : Prop := tokL x.text.data.toList = (x.kind, x.text.data.toList.length) ∧ x.text.data.toList ≠ []

theorem scan_jt : ∀ (ts : List Tok), (∀ x ∈ ts, Whole x) → ∀ (f i : Nat), (jt ts).length < f →
    ∃ us, SameL ts us ∧ scanL f (jt ts) i = (us ++ [⟨7, ⟨#[]⟩, i + (jt ts).length⟩], i + (jt ts).length)
  | [], _, f, i, hf => by
    obtain ⟨f, rfl⟩ : ∃ g, f = g + 1 := ⟨f - 1, by omega⟩
    refine ⟨[], .nil, ?_⟩
    unfold scanL
    rw [jt, skipL_nil, List.drop_nil, headL_end]; rfl
  | [x], h, f, i, hf => by
    obtain ⟨h1, h2⟩ := h x (by simp)
    have hp : 0 < x.text.data.toList.length := List.length_pos_iff.2 h2
    rw [jt] at hf ⊢
    obtain ⟨f, rfl⟩ : ∃ g, f = g + 2 := ⟨f - 2, by omega⟩
    refine ⟨[⟨x.kind, ⟨x.text.data.toList.toArray⟩, i⟩], .cons ⟨rfl, rfl⟩ .nil, ?_⟩
    rw [scan_last h1 h2]; rfl
  | x :: y :: r, h, f, i, hf => by
    obtain ⟨h1, h2⟩ := h x (by simp)
    rw [jt] at hf ⊢
    obtain ⟨f, rfl⟩ : ∃ g, f = g + 1 := ⟨f - 1, by omega⟩
    have hlen : (x.text.data.toList ++ 32 :: jt (y :: r)).length = x.text.data.toList.length + 1 + (jt (y :: r)).length := by simp; omega
    obtain ⟨us, u1, u2⟩ := scan_jt (y :: r) (fun z hz => h z (by simp only [List.mem_cons] at hz ⊢; exact .inr hz)) f (i + x.text.data.toList.length + 1) (by rw [hlen] at hf; omega)
    refine ⟨⟨x.kind, ⟨x.text.data.toList.toArray⟩, i⟩ :: us, .cons ⟨rfl, rfl⟩ u1, ?_⟩
    rw [scan_tok h1 h2, u2, hlen]
    have e : i + x.text.data.toList.length + 1 + (jt (y :: r)).length = i + (x.text.data.toList.length + 1 + (jt (y :: r)).length) := by omega
    rw [e]; rfl

/-- The tokens of the joined texts. -/
theorem toks_jt (ts : List Tok) (h : ∀ x ∈ ts, Whole x) : ∃ us, SameL ts us ∧ toksL (jt ts) = (us ++ [⟨7, ⟨#[]⟩, (jt ts).length⟩], (jt ts).length) := by
  obtain ⟨us, u1, u2⟩ := scan_jt ts h ((jt ts).length + 1) 0 (by omega)
  refine ⟨us, u1, ?_⟩
  rw [toksL_scan, u2, Nat.zero_add]
end Go.Proofs.YtbfmkehchddkoaaDoor
