import Derived.Test.YtgldbeacjacbcaaGreatTy8
set_option linter.unusedSimpArgs false
set_option linter.unusedVariables false
namespace Go.Proofs.YtgldbeacjacbcaaGreat
open Go.RowKit

set_option maxRecDepth 100000 in
theorem dec_10 (kind n : Int) (s f : ByteArray) (a : Ex) (l : List Ex) (v : Value) (w : World) (hv : exsSl w v (a :: l)) :
    Calls Tryz.prog 29 #[.agg #[.int .i64 10, .int .i64 kind, .int .i64 n, .string s, .string f, v]] w fun r w' => r = .returned (.bool (isC a 0)) ∧ Kp [] w w' := by
  obtain ⟨q, cap, rfl⟩ := hv.val
  obtain ⟨len, hlen⟩ : ∃ len, (a :: l).length = len := ⟨_, rfl⟩
  have hp : 0 < len := by rw [← hlen]; simp
  rw [hlen] at hv ⊢
  have hk := (Kp.refl [] w).alloc (.cells #[.int .i64 10, .int .i64 kind, .int .i64 n, .string s, .string f, .slice q len cap] 24)
  obtain ⟨b, off, ux, rfl, hux, c0, c1, c2, c3, c4, c5⟩ := hv.at_in hk 0 (by rw [hlen]; exact hp)
  have he : (a :: l)[0]'(by simp) = a := rfl
  rw [he] at c0 c1 c2 c3 c4 hux
  simp only [Nat.zero_mul, Nat.add_zero] at c0 c1 c2 c3 c4 c5
  obtain ⟨qu, cu, rfl⟩ := hux.val
  have hcall := Lib.hid (isC_c a 0 qu a.args.length cu)
  obtain ⟨lu, hlu⟩ : ∃ lu, a.args.length = lu := ⟨_, rfl⟩
  rw [hlu] at c5 hcall
  obtain ⟨t, ht⟩ : ∃ t, isC a 0 = t := ⟨_, rfl⟩
  rw [ht] at hcall ⊢
  clear hlu hux he hlen hv ht
  replace hk := Lib.hid hk
  go_enter Tryz.func29, Tryz.ntmps29
  go_wp2_with fail
  refine (hcall.out _).mono ?_
  rintro r w2 ⟨rfl, hg⟩
  go_wp2_with fail
  go_ret
  exact ⟨rfl, hk.out.trans hg.kp⟩
set_option maxRecDepth 100000 in
theorem dec_8 (kind n : Int) (s f : ByteArray) (a : Ex) (l : List Ex) (v : Value) (w : World) (hv : exsSl w v (a :: l)) :
    Calls Tryz.prog 29 #[.agg #[.int .i64 8, .int .i64 kind, .int .i64 n, .string s, .string f, v]] w fun r w' => r = .returned (.bool (isC a 1)) ∧ Kp [] w w' := by
  obtain ⟨q, cap, rfl⟩ := hv.val
  obtain ⟨len, hlen⟩ : ∃ len, (a :: l).length = len := ⟨_, rfl⟩
  have hp : 0 < len := by rw [← hlen]; simp
  rw [hlen] at hv ⊢
  have hk := (Kp.refl [] w).alloc (.cells #[.int .i64 8, .int .i64 kind, .int .i64 n, .string s, .string f, .slice q len cap] 24)
  obtain ⟨b, off, ux, rfl, hux, c0, c1, c2, c3, c4, c5⟩ := hv.at_in hk 0 (by rw [hlen]; exact hp)
  have he : (a :: l)[0]'(by simp) = a := rfl
  rw [he] at c0 c1 c2 c3 c4 hux
  simp only [Nat.zero_mul, Nat.add_zero] at c0 c1 c2 c3 c4 c5
  obtain ⟨qu, cu, rfl⟩ := hux.val
  have hcall := Lib.hid (isC_c a 1 qu a.args.length cu)
  obtain ⟨lu, hlu⟩ : ∃ lu, a.args.length = lu := ⟨_, rfl⟩
  rw [hlu] at c5 hcall
  obtain ⟨t, ht⟩ : ∃ t, isC a 1 = t := ⟨_, rfl⟩
  rw [ht] at hcall ⊢
  clear hlu hux he hlen hv ht
  replace hk := Lib.hid hk
  go_enter Tryz.func29, Tryz.ntmps29
  go_wp2_with fail
  refine (hcall.out _).mono ?_
  rintro r w2 ⟨rfl, hg⟩
  go_wp2_with fail
  go_ret
  exact ⟨rfl, hk.out.trans hg.kp⟩
set_option maxRecDepth 100000 in
theorem dec_no (op kind n : Int) (s f : ByteArray) (q : Option Addr) (len cap : Nat) (w : World) (h1 : ¬ op = 10) (h2 : ¬ op = 8) :
    Calls Tryz.prog 29 #[.agg #[.int .i64 op, .int .i64 kind, .int .i64 n, .string s, .string f, .slice q len cap]] w fun r w' => r = .returned (.bool false) ∧ Kp [] w w' := by
  go_enter Tryz.func29, Tryz.ntmps29
  go_wp2_with fail
  go_ret
  exact ⟨rfl, (Kp.refl [] w).alloc _⟩
theorem dec_c (op kind n : Int) (s f : ByteArray) (l : List Ex) (v : Value) (w : World) (hv : exsSl w v l) (hl : op = 8 ∨ op = 10 → l ≠ []) :
    Calls Tryz.prog 29 #[.agg #[.int .i64 op, .int .i64 kind, .int .i64 n, .string s, .string f, v]] w fun r w' => r = .returned (.bool (decE op l)) ∧ Kp [] w w' := by
  by_cases h10 : op = 10
  · subst h10
    cases l with
    | nil => exact absurd rfl (hl (.inr rfl))
    | cons a l => exact (dec_10 kind n s f a l v w hv).mono fun r w' h => ⟨h.1.trans (ret_bool (by simp [decE])), h.2⟩
  · by_cases h8 : op = 8
    · subst h8
      cases l with
      | nil => exact absurd rfl (hl (.inl rfl))
      | cons a l => exact (dec_8 kind n s f a l v w hv).mono fun r w' h => ⟨h.1.trans (ret_bool (by simp [decE])), h.2⟩
    · obtain ⟨q, cap, rfl⟩ := hv.val
      refine (dec_no op kind n s f q l.length cap w h10 h8).mono fun r w' h => ⟨h.1.trans (ret_bool ?_), h.2⟩
      cases l with
      | nil => rfl
      | cons a l =>
        have e1 : (op == 10) = false := by simpa using h10
        have e2 : (op == 8) = false := by simpa using h8
        simp [decE, e1, e2]

/-! Slices whose cells lie in certain blocks. -/
def SlB (B : Nat → Prop) (w : World) (v : Value) (n : Nat) (cs : List Value) : Prop :=
  ∃ (q : Option Addr) (cap : Nat), v = .slice q n cap ∧ n ≤ cap ∧ cap ≤ 9223372036854775807 ∧ (n = 0 ∨ ∃ b off, q = some ⟨b, off, none⟩ ∧ B b ∧ ∀ j u, cs[j]? = some u → w.cell? ⟨b, off + j, none⟩ = some u)
mutual
def exAtB (B : Nat → Prop) (w : World) : Ex → List Value → Prop
  | .mk op kind n s field args, cs => ∃ v L, cs = [.int .i64 op, .int .i64 kind, .int .i64 n, .string s, .string field, v] ∧ SlB B w v args.length L.flatten ∧ exsAtB B w args L
def exsAtB (B : Nat → Prop) (w : World) : List Ex → List (List Value) → Prop
  | [], L => L = []
  | e :: es, L => ∃ c L', L = c :: L' ∧ exAtB B w e c ∧ exsAtB B w es L'
end
def exsSlB (B : Nat → Prop) (w : World) (v : Value) (es : List Ex) : Prop := ∃ L, SlB B w v es.length L.flatten ∧ exsAtB B w es L
theorem SlB.move {B C : Nat → Prop} {w w' : World} {v : Value} {n : Nat} {cs : List Value} (h : SlB B w v n cs) (hBC : ∀ b, B b → C b) (hb : ∀ b, B b → b < w.heap.size → w'.heap[b]? = w.heap[b]?) : SlB C w' v n cs := by
  obtain ⟨q, cap, rfl, h1, h2, h3⟩ := h
  refine ⟨q, cap, rfl, h1, h2, ?_⟩
  rcases h3 with h3 | ⟨b, off, rfl, hB, h3⟩
  · exact .inl h3
  · refine .inr ⟨b, off, rfl, hBC b hB, fun j u hu => ?_⟩
    have hc := h3 j u hu
    have hlt : b < w.heap.size := by
      rcases Nat.lt_or_ge b w.heap.size with h1 | h1
      · exact h1
      · simp [World.cell?, Array.getElem?_eq_none h1] at hc
    exact (World.cell?_of_block (w := w) (hb b hB hlt)).trans hc
mutual
theorem exAtB.move {B C : Nat → Prop} {w w' : World} (hBC : ∀ b, B b → C b) (hb : ∀ b, B b → b < w.heap.size → w'.heap[b]? = w.heap[b]?) : ∀ (e : Ex) (cs : List Value), exAtB B w e cs → exAtB C w' e cs
  | .mk op kind n s field args, cs, h => by
    rw [exAtB] at h ⊢
    obtain ⟨v, L, h1, h2, h3⟩ := h
    exact ⟨v, L, h1, h2.move hBC hb, exsAtB.move hBC hb args L h3⟩
theorem exsAtB.move {B C : Nat → Prop} {w w' : World} (hBC : ∀ b, B b → C b) (hb : ∀ b, B b → b < w.heap.size → w'.heap[b]? = w.heap[b]?) : ∀ (es : List Ex) (L : List (List Value)), exsAtB B w es L → exsAtB C w' es L
  | [], L, h => by rw [exsAtB] at h ⊢; exact h
  | e :: es, L, h => by
    rw [exsAtB] at h ⊢
    obtain ⟨c, L', rfl, h1, h2⟩ := h
    exact ⟨c, L', rfl, exAtB.move hBC hb e c h1, exsAtB.move hBC hb es L' h2⟩
end
theorem exsSlB.move {B C : Nat → Prop} {w w' : World} {v : Value} {es : List Ex} (h : exsSlB B w v es) (hBC : ∀ b, B b → C b) (hb : ∀ b, B b → b < w.heap.size → w'.heap[b]? = w.heap[b]?) : exsSlB C w' v es :=
  let ⟨L, h1, h2⟩ := h; ⟨L, h1.move hBC hb, exsAtB.move hBC hb es L h2⟩
theorem SlB.drop {B : Nat → Prop} {w : World} {v : Value} {n : Nat} {cs : List Value} (h : SlB B w v n cs) : Sl w v n cs := by
  obtain ⟨q, cap, rfl, h1, h2, h3⟩ := h
  refine ⟨q, cap, rfl, h1, h2, ?_⟩
  rcases h3 with h3 | ⟨b, off, rfl, _, h3⟩
  · exact .inl h3
  · exact .inr ⟨b, off, rfl, h3⟩
mutual
theorem exAtB.drop {B : Nat → Prop} {w : World} : ∀ (e : Ex) (cs : List Value), exAtB B w e cs → exAt w e cs
  | .mk op kind n s field args, cs, h => by
    rw [exAtB] at h
    rw [exAt]
    obtain ⟨v, L, h1, h2, h3⟩ := h
    exact ⟨v, L, h1, h2.drop, exsAtB.drop args L h3⟩
theorem exsAtB.drop {B : Nat → Prop} {w : World} : ∀ (es : List Ex) (L : List (List Value)), exsAtB B w es L → exsAt w es L
  | [], L, h => by rw [exsAtB] at h; rw [exsAt]; exact h
  | e :: es, L, h => by
    rw [exsAtB] at h
    rw [exsAt]
    obtain ⟨c, L', rfl, h1, h2⟩ := h
    exact ⟨c, L', rfl, exAtB.drop e c h1, exsAtB.drop es L' h2⟩
end
theorem exsSlB.drop {B : Nat → Prop} {w : World} {v : Value} {es : List Ex} (h : exsSlB B w v es) : exsSl w v es :=
  let ⟨L, h1, h2⟩ := h; ⟨L, h1.drop, exsAtB.drop es L h2⟩
theorem exsSlB.nil (B : Nat → Prop) (w : World) : exsSlB B w (.slice none 0 0) [] := ⟨[], ⟨none, 0, rfl, Nat.le_refl _, by decide, .inl rfl⟩, by rw [exsAtB]⟩
theorem exAtB_mk {B : Nat → Prop} {w : World} {e : Ex} {v : Value} (h : exsSlB B w v e.args) : exAtB B w e (exV e v) := by
  cases e with
  | mk op kind n s field args =>
    rw [exAtB]
    obtain ⟨L, h1, h2⟩ := h
    exact ⟨v, L, rfl, h1, h2⟩
theorem exAtB_inv {B : Nat → Prop} {w : World} {e : Ex} {c : List Value} (h : exAtB B w e c) : ∃ v, c = exV e v ∧ exsSlB B w v e.args := by
  cases e with
  | mk op kind n s field args =>
    rw [exAtB] at h
    obtain ⟨v, L, rfl, h1, h2⟩ := h
    exact ⟨v, rfl, L, h1, h2⟩
theorem exsAtB.snoc {B : Nat → Prop} {w : World} : ∀ {es : List Ex} {L : List (List Value)} {e : Ex} {c : List Value}, exsAtB B w es L → exAtB B w e c → exsAtB B w (es ++ [e]) (L ++ [c])
  | [], L, e, c, h, hc => by
    rw [exsAtB] at h; subst h
    show exsAtB B w [e] [c]
    rw [exsAtB]
    exact ⟨c, [], rfl, hc, by rw [exsAtB]⟩
  | a :: es, L, e, c, h, hc => by
    rw [exsAtB] at h
    obtain ⟨c0, L', rfl, h1, h2⟩ := h
    show exsAtB B w (a :: (es ++ [e])) (c0 :: (L' ++ [c]))
    rw [exsAtB]
    exact ⟨c0, L' ++ [c], rfl, h1, exsAtB.snoc h2 hc⟩
end Go.Proofs.YtgldbeacjacbcaaGreat
