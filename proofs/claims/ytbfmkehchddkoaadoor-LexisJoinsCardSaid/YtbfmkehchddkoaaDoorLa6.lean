import Derived.Test.YtbfmkehchddkoaaDoorLa2
import Derived.Test.YtbfmkehchddkoaaDoorSc2
namespace Go.Proofs.YtbfmkehchddkoaaDoor
open Go.RowKit

/-- The value is a slice in memory of the call's own that holds these tokens. -/
def TokSl (W : World) (v : Value) (ts : List Tok) : Prop := ∃ base, W.ownsRow base 46 3 v ts.length (ts.flatMap tokC)

theorem TokSl.kp {W W' : World} {v : Value} {ts : List Tok} (h : TokSl W v ts) (k : Kp [] W W') : TokSl W' v ts := by
  obtain ⟨base, hr⟩ := h
  refine ⟨base, hr.kept (row := none) ⟨k.os, k.tape, k.output, k.size, fun i hi _ => k.block i hi (by simp)⟩ ?_⟩
  cases v.ownBlock <;> simp

theorem flat_tok : ∀ (ts : List Tok) (i : Nat) (h : i < ts.length) (j : Nat), j < 3 → (ts.flatMap tokC)[i * 3 + j]? = (tokC ts[i])[j]?
  | t :: ts, 0, _, j, hj => by
    rw [List.flatMap_cons, List.getElem?_append_left (by simp [tokC]; omega)]
    simp
  | t :: ts, i + 1, h, j, hj => by
    have hl : (tokC t).length = 3 := rfl
    rw [List.flatMap_cons, List.getElem?_append_right (by rw [hl]; omega), hl]
    have := flat_tok ts i (by simpa using h) j hj
    rw [show (i + 1) * 3 + j - 3 = i * 3 + j by omega, this]
    simp

theorem addr_add (g k : Nat) : (⟨g, 0, none⟩ : Addr).add k = ⟨g, k, none⟩ := by
  unfold Addr.add
  by_cases h : k = 0 <;> simp [h]

theorem TokSl.cells {W : World} {v : Value} {ts : List Tok} (h : TokSl W v ts) (hn : 0 < ts.length) : ∃ g cap, v = .slice (some ⟨g, 0, none⟩) ts.length cap ∧
    ∀ i (hi : i < ts.length), W.cell? ⟨g, i * 3, none⟩ = some (.int .i64 ts[i].kind) ∧ W.cell? ⟨g, i * 3 + 1, none⟩ = some (.string ts[i].text) ∧ W.cell? ⟨g, i * 3 + 2, none⟩ = some (.int .i64 ts[i].at_) := by
  obtain ⟨base, hr⟩ := h
  obtain ⟨n, hl⟩ : ∃ n, ts.length = n + 1 := ⟨ts.length - 1, by omega⟩
  rw [hl] at hr
  obtain ⟨g, cap, rfl⟩ := ownsRow_succ hr
  refine ⟨g, cap, by rw [hl], fun i hi => ?_⟩
  have hc := hr.cells (g := g) rfl
  have h0 := hc (i * 3 + 0) _ ((flat_tok ts i hi 0 (by omega)).trans rfl)
  have h1 := hc (i * 3 + 1) _ ((flat_tok ts i hi 1 (by omega)).trans rfl)
  have h2 := hc (i * 3 + 2) _ ((flat_tok ts i hi 2 (by omega)).trans rfl)
  rw [addr_add] at h0 h1 h2
  exact ⟨h0, h1, h2⟩

/-- Element i of the array of tokens in block g is x. -/
def TokAt (W : World) (g i : Nat) (x : Tok) : Prop :=
  W.cell? ⟨g, i * 3, none⟩ = some (.int .i64 x.kind) ∧ W.cell? ⟨g, i * 3 + 1, none⟩ = some (.string x.text) ∧ W.cell? ⟨g, i * 3 + 2, none⟩ = some (.int .i64 x.at_)

theorem TokAt.kp {W W' : World} {g i : Nat} {x : Tok} (h : TokAt W g i x) (k : Kp [] W W') : TokAt W' g i x :=
  ⟨k.cell h.1 (by simp), k.cell h.2.1 (by simp), k.cell h.2.2 (by simp)⟩

theorem TokAt.al {W W' : World} {g i : Nat} {x : Tok} (h : TokAt W g i x) (k : Kp [] W W') :
    (∀ O, (W'.alloc O).cell? ⟨g, i * 3, none⟩ = some (.int .i64 x.kind)) ∧ (∀ O, (W'.alloc O).cell? ⟨g, i * 3 + 1, none⟩ = some (.string x.text)) ∧ (∀ O, (W'.alloc O).cell? ⟨g, i * 3 + 2, none⟩ = some (.int .i64 x.at_)) :=
  ⟨fun O => (h.kp (k.alloc O)).1, fun O => (h.kp (k.alloc O)).2.1, fun O => (h.kp (k.alloc O)).2.2⟩

theorem TokSl.at {W : World} {v : Value} {ts : List Tok} (h : TokSl W v ts) (hn : 0 < ts.length) : ∃ g cap, v = .slice (some ⟨g, 0, none⟩) ts.length cap ∧
    ∀ i x, ts[i]? = some x → TokAt W g i x := by
  obtain ⟨g, cap, e, h⟩ := h.cells hn
  refine ⟨g, cap, e, fun i x hx => ?_⟩
  obtain ⟨hi, rfl⟩ := List.getElem?_eq_some_iff.1 hx
  exact h i hi

/-- Tokens, of a source that has tokens; of one that has an error; of any. -/
theorem tokens_ok (s : ByteArray) (w : World) (hA : Amb w) (hs : s.size ≤ 8000) (h : (toksL s.data.toList).2 = s.size) :
    Calls Tryd.prog 13 #[.string s] w fun e w' => ∃ v, e = .returned (.tuple #[v, .int .i64 0, .int .i64 0]) ∧ Kp [] w w' ∧ TokSl w' v (toksL s.data.toList).1 := by
  refine (tokens_main s w hA hs).mono ?_
  rintro e w' ⟨hk, (⟨h1, rfl⟩ | ⟨h1, v, base, rfl, hb, hr⟩)⟩
  · omega
  · exact ⟨v, rfl, hk, base, hr⟩
theorem tokens_bad (s : ByteArray) (w : World) (hA : Amb w) (hs : s.size ≤ 8000) (n : Nat) (hn : (toksL s.data.toList).2 = n) (h : n < s.size) :
    Calls Tryd.prog 13 #[.string s] w fun e w' => e = .returned (.tuple #[.slice none 0 0, .int .i64 n, .int .i64 4]) ∧ Kp [] w w' := by
  refine (tokens_main s w hA hs).mono ?_
  rintro e w' ⟨hk, (⟨h1, rfl⟩ | ⟨h1, v, base, rfl, hb, hr⟩)⟩
  · rw [hn]; exact ⟨rfl, hk⟩
  · omega
theorem tokens_any (s : ByteArray) (w : World) (hA : Amb w) (hs : s.size ≤ 8000) :
    Calls Tryd.prog 13 #[.string s] w fun e w' => ∃ v a b, e = .returned (.tuple #[v, .int .i64 a, .int .i64 b]) ∧ Kp [] w w' := by
  refine (tokens_main s w hA hs).mono ?_
  rintro e w' ⟨hk, (⟨h1, rfl⟩ | ⟨h1, v, base, rfl, hb, hr⟩)⟩
  · exact ⟨_, _, _, rfl, hk⟩
  · exact ⟨v, 0, 0, rfl, hk⟩

theorem tokens_full (s : ByteArray) (w : World) (h : 8000 < s.size) :
    Calls Tryd.prog 13 #[.string s] w fun e w' => e = .returned (.tuple #[.slice none 0 0, .int .i64 0, .int .i64 5]) ∧ Kp [] w w' := by
  have g1 : decide ((8000 : Int) < (s.size : Int)) = true := by simp; omega
  go_enter Tryd.func13, Tryd.ntmps13
  go_wp2_with fail
  go_ret3
  exact ⟨rfl, Kp.refl _ _⟩
theorem rtokens_full (s : ByteArray) (w : World) (h : 8000 < s.size) :
    Calls Tryd.prog 14 #[.string s] w fun e w' => e = .returned (.tuple #[.slice none 0 0, .int .i64 0, .int .i64 5]) ∧ Kp [] w w' := by
  have g1 : decide ((8000 : Int) < (s.size : Int)) = true := by simp; omega
  go_enter Tryd.func14, Tryd.ntmps14
  go_wp2_with fail
  go_ret3
  exact ⟨rfl, Kp.refl _ _⟩
end Go.Proofs.YtbfmkehchddkoaaDoor
