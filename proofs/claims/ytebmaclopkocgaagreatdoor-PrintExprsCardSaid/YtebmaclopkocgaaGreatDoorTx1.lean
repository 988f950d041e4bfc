import Derived.Test.YtebmaclopkocgaaGreatDoorEvW
set_option linter.unusedSimpArgs false
set_option linter.unusedVariables false
namespace Go.Proofs.YtebmaclopkocgaaGreatDoor
open Go.RowKit

/-- An expression. -/
inductive Ex where
  | mk (op kind n : Int) (s field : ByteArray) (args : List Ex)

def Ex.op : Ex → Int | .mk op _ _ _ _ _ => op
def Ex.kind : Ex → Int | .mk _ kind _ _ _ _ => kind
def Ex.num : Ex → Int | .mk _ _ n _ _ _ => n
def Ex.s : Ex → ByteArray | .mk _ _ _ s _ _ => s
def Ex.field : Ex → ByteArray | .mk _ _ _ _ f _ => f
def Ex.args : Ex → List Ex | .mk _ _ _ _ _ a => a
theorem Ex.eta : ∀ e : Ex, e = .mk e.op e.kind e.num e.s e.field e.args | .mk .. => rfl

mutual
/-- How many nodes there are. -/
def Ex.cnt : Ex → Nat
  | .mk _ _ _ _ _ args => 1 + cntL args
def cntL : List Ex → Nat
  | [] => 0
  | e :: es => e.cnt + cntL es
end
theorem cnt_pos : ∀ e : Ex, 1 ≤ e.cnt | .mk .. => by rw [Ex.cnt]; omega
theorem len_cntL : ∀ es : List Ex, es.length ≤ cntL es
  | [] => Nat.zero_le _
  | e :: es => by have := len_cntL es; have := cnt_pos e; rw [cntL, List.length_cons]; omega
theorem cnt_args (e : Ex) : cntL e.args < e.cnt := by cases e; rw [Ex.cnt, Ex.args]; omega
theorem cnt_mem : ∀ {es : List Ex} {i : Nat} (hi : i < es.length), es[i].cnt ≤ cntL es
  | e :: es, 0, _ => by rw [cntL]; simp
  | e :: es, i + 1, hi => by have := cnt_mem (es := es) (i := i) (by simpa using hi); rw [cntL]; simp only [List.getElem_cons_succ]; omega

/-- The value is a slice of n elements, whose cells are these. -/
def Sl (w : World) (v : Value) (n : Nat) (cs : List Value) : Prop :=
  ∃ (q : Option Addr) (cap : Nat), v = .slice q n cap ∧ n ≤ cap ∧ cap ≤ 9223372036854775807 ∧ (n = 0 ∨ ∃ b off, q = some ⟨b, off, none⟩ ∧ ∀ j u, cs[j]? = some u → w.cell? ⟨b, off + j, none⟩ = some u)

theorem Sl.kp {w w' : World} {v : Value} {n : Nat} {cs : List Value} (h : Sl w v n cs) (k : Kp [] w w') : Sl w' v n cs := by
  obtain ⟨q, cap, rfl, h1, h2, h3⟩ := h
  refine ⟨q, cap, rfl, h1, h2, ?_⟩
  rcases h3 with h3 | ⟨b, off, rfl, h3⟩
  · exact .inl h3
  · exact .inr ⟨b, off, rfl, fun j u hu => k.cell (h3 j u hu) (by simp)⟩

mutual
/-- The six cells of an expression. -/
def exAt (w : World) : Ex → List Value → Prop
  | .mk op kind n s field args, cs => ∃ v L, cs = [.int .i64 op, .int .i64 kind, .int .i64 n, .string s, .string field, v] ∧ Sl w v args.length L.flatten ∧ exsAt w args L
def exsAt (w : World) : List Ex → List (List Value) → Prop
  | [], L => L = []
  | e :: es, L => ∃ c L', L = c :: L' ∧ exAt w e c ∧ exsAt w es L'
end

mutual
theorem exAt.kp {w w' : World} (k : Kp [] w w') : ∀ (e : Ex) (cs : List Value), exAt w e cs → exAt w' e cs
  | .mk op kind n s field args, cs, h => by
    rw [exAt] at h ⊢
    obtain ⟨v, L, h1, h2, h3⟩ := h
    exact ⟨v, L, h1, h2.kp k, exsAt.kp k args L h3⟩
theorem exsAt.kp {w w' : World} (k : Kp [] w w') : ∀ (es : List Ex) (L : List (List Value)), exsAt w es L → exsAt w' es L
  | [], L, h => by rw [exsAt] at h ⊢; exact h
  | e :: es, L, h => by
    rw [exsAt] at h ⊢
    obtain ⟨c, L', rfl, h1, h2⟩ := h
    exact ⟨c, L', rfl, exAt.kp k e c h1, exsAt.kp k es L' h2⟩
end

/-- The value is a slice of these expressions. -/
def exsSl (w : World) (v : Value) (es : List Ex) : Prop := ∃ L, Sl w v es.length L.flatten ∧ exsAt w es L
theorem exsSl.kp {w w' : World} {v : Value} {es : List Ex} (h : exsSl w v es) (k : Kp [] w w') : exsSl w' v es :=
  let ⟨L, h1, h2⟩ := h; ⟨L, h1.kp k, exsAt.kp k es L h2⟩
theorem exsSl.nil (w : World) : exsSl w (.slice none 0 0) [] := ⟨[], ⟨none, 0, rfl, Nat.le_refl _, by decide, .inl rfl⟩, by rw [exsAt]⟩
/-- The six values of an expression: its slice of operands is v. -/
def exV (e : Ex) (v : Value) : List Value := [.int .i64 e.op, .int .i64 e.kind, .int .i64 e.num, .string e.s, .string e.field, v]
theorem exAt_iff {w : World} {e : Ex} {cs : List Value} : exAt w e cs ↔ ∃ v, cs = exV e v ∧ exsSl w v e.args := by
  cases e with
  | mk op kind n s field args =>
    rw [exAt]
    constructor
    · rintro ⟨v, L, rfl, h2, h3⟩; exact ⟨v, rfl, L, h2, h3⟩
    · rintro ⟨v, rfl, L, h2, h3⟩; exact ⟨v, L, rfl, h2, h3⟩
theorem exAt.len {w : World} {e : Ex} {c : List Value} (h : exAt w e c) : c.length = 6 := by
  obtain ⟨v, rfl, _⟩ := exAt_iff.1 h; rfl

/-- Element i of a slice of expressions lies at its six cells. -/
theorem exsAt.get {w : World} : ∀ {es : List Ex} {L : List (List Value)}, exsAt w es L → ∀ (i : Nat) (hi : i < es.length), ∃ c, exAt w es[i] c ∧ ∀ j u, c[j]? = some u → L.flatten[i * 6 + j]? = some u
  | e :: es, L, h, 0, _ => by
    rw [exsAt] at h
    obtain ⟨c, L', rfl, h1, _⟩ := h
    refine ⟨c, h1, fun j u hu => ?_⟩
    have hlt := (List.getElem?_eq_some_iff.1 hu).1
    rw [List.flatten_cons, List.getElem?_append_left (by omega)]
    simpa using hu
  | e :: es, L, h, i + 1, hi => by
    rw [exsAt] at h
    obtain ⟨c0, L', rfl, h0, h⟩ := h
    obtain ⟨c', h1, h2⟩ := exsAt.get h i (by simpa using hi)
    refine ⟨c', by simpa using h1, fun j u hu => ?_⟩
    have hl := exAt.len h0
    rw [List.flatten_cons, List.getElem?_append_right (by omega), hl, show (i + 1) * 6 + j - 6 = i * 6 + j by omega]
    exact h2 j u hu
/-- A slice of expressions that is not empty. -/
theorem exsSl.at_ {w : World} {q : Option Addr} {n cap : Nat} {es : List Ex} (h : exsSl w (.slice q n cap) es) (i : Nat) (hi : i < es.length) :
    ∃ b off v, q = some ⟨b, off, none⟩ ∧ exsSl w v es[i].args ∧
      w.cell? ⟨b, off + i * 6, none⟩ = some (.int .i64 es[i].op) ∧ w.cell? ⟨b, off + i * 6 + 1, none⟩ = some (.int .i64 es[i].kind) ∧ w.cell? ⟨b, off + i * 6 + 2, none⟩ = some (.int .i64 es[i].num) ∧
      w.cell? ⟨b, off + i * 6 + 3, none⟩ = some (.string es[i].s) ∧ w.cell? ⟨b, off + i * 6 + 4, none⟩ = some (.string es[i].field) ∧ w.cell? ⟨b, off + i * 6 + 5, none⟩ = some v := by
  obtain ⟨L, ⟨q', cap', h0, _, _, h3⟩, hL⟩ := h
  obtain ⟨rfl, rfl, rfl⟩ : q' = q ∧ es.length = n ∧ cap' = cap := by simp at h0; exact ⟨h0.1.symm, h0.2.1.symm, h0.2.2.symm⟩
  rcases h3 with h3 | ⟨b, off, rfl, h3⟩
  · omega
  · obtain ⟨c, h1, h2⟩ := hL.get i hi
    obtain ⟨v, rfl, hv⟩ := exAt_iff.1 h1
    have hc : ∀ j u, (exV es[i] v)[j]? = some u → w.cell? ⟨b, off + i * 6 + j, none⟩ = some u := fun j u hu => by rw [Nat.add_assoc]; exact h3 _ _ (h2 j u hu)
    exact ⟨b, off, v, rfl, hv, hc 0 _ rfl, hc 1 _ rfl, hc 2 _ rfl, hc 3 _ rfl, hc 4 _ rfl, hc 5 _ rfl⟩
theorem exsSl.len {w : World} {q : Option Addr} {n cap : Nat} {es : List Ex} (h : exsSl w (.slice q n cap) es) : es.length = n ∧ n ≤ cap ∧ cap ≤ 9223372036854775807 := by
  obtain ⟨L, ⟨q', cap', h0, h1, h2, _⟩, _⟩ := h
  simp at h0
  obtain ⟨rfl, rfl, rfl⟩ := h0
  exact ⟨rfl, h1, h2⟩
theorem exsSl.val {w : World} {v : Value} {es : List Ex} (h : exsSl w v es) : ∃ q cap, v = .slice q es.length cap := by
  obtain ⟨L, ⟨q', cap', h0, _⟩, _⟩ := h
  exact ⟨q', cap', h0⟩
end Go.Proofs.YtebmaclopkocgaaGreatDoor
