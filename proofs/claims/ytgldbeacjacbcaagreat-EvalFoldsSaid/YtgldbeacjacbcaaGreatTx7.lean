import Derived.Test.YtgldbeacjacbcaaGreatTx6
import Derived.Test.YtgldbeacjacbcaaGreatEv13
set_option linter.unusedSimpArgs false
set_option linter.unusedVariables false
namespace Go.Proofs.YtgldbeacjacbcaaGreat
open Go.RowKit

/- What folding makes of an expression. -/
def kindRes (op k : Int) : Int := if op = 17 ∨ op = 18 then k else if op = 7 ∨ op = 19 ∨ op = 20 ∨ op = 21 then 2 else 1
def kindOk (op k : Int) : Bool :=
  if op = 6 ∨ op = 8 ∨ op = 9 ∨ op = 10 then k == 1
  else if op = 7 ∨ op = 19 ∨ op = 20 ∨ op = 21 then k == 2
  else if op = 11 ∨ op = 12 then k == 1 || k == 2 || k == 3
  else k == 2 || k == 3
def unR (op v : Int) : Int := if op = 6 then 1 - v else wrap32 (-v)
def biR (op v x : Int) : Int × Int :=
  if op = 8 then (max v x, 0) else if op = 9 then ((v + x) % 2, 0) else if op = 10 then (min v x, 0)
  else if op = 11 then (oneOf (decide (v = x)), 0) else if op = 12 then (oneOf (decide (¬ v = x)), 0)
  else if op = 13 then (oneOf (decide (v < x)), 0) else if op = 14 then (oneOf (decide (v ≤ x)), 0)
  else if op = 15 then (oneOf (decide (x < v)), 0) else if op = 16 then (oneOf (decide (x ≤ v)), 0)
  else if op = 17 then (wrap32 (v + x), 0) else if op = 18 then (wrap32 (v - x), 0) else if op = 19 then (wrap32 (v * x), 0)
  else if x = 0 then (0, 1) else if op = 20 then (wrap32 (v.tdiv x), 0) else (wrap32 (v.tmod x), 0)
def cst (k n : Int) : Ex := .mk 1 k n ⟨#[]⟩ ⟨#[]⟩ []
def isC (e : Ex) (n : Int) : Bool := e.op == 1 && e.kind == 1 && e.num == n
/-- The constant that an operator of constants makes. -/
def conE (op : Int) : List Ex → Option Ex
  | [a] => if a.op = 1 ∧ kindOk op a.kind = true ∧ 0 ≤ unR op a.num then some (cst (kindRes op a.kind) (unR op a.num)) else none
  | [a, b] => if a.op = 1 ∧ b.op = 1 ∧ b.kind = a.kind ∧ kindOk op a.kind = true ∧ (biR op a.num b.num).2 = 0 ∧ 0 ≤ (biR op a.num b.num).1 then some (cst (kindRes op a.kind) (biR op a.num b.num).1) else none
  | _ => none
def decE (op : Int) : List Ex → Bool
  | a :: _ => (op == 10 && isC a 0) || (op == 8 && isC a 1)
  | [] => false
def hdE (d : Ex) : List Ex → Ex
  | a :: _ => a
  | [] => d
/-- One step, behind the folding of the operands. -/
def stepE (e : Ex) : Ex :=
  if decE e.op e.args then hdE e e.args
  else if e.op < 6 then e
  else match conE e.op e.args with
    | some c => c
    | none => e
mutual
def foldE : Ex → Ex
  | .mk op kind n s f args => stepE (.mk op kind n s f (foldL args))
def foldL : List Ex → List Ex
  | [] => []
  | e :: es => foldE e :: foldL es
end
theorem foldL_len : ∀ es, (foldL es).length = es.length
  | [] => by rw [foldL]
  | e :: es => by rw [foldL, List.length_cons, foldL_len es, List.length_cons]
theorem foldE_eq (e : Ex) : foldE e = stepE (.mk e.op e.kind e.num e.s e.field (foldL e.args)) := by cases e; rw [foldE]; rfl

theorem stepE_cases (e : Ex) : (∃ a, a ∈ e.args ∧ stepE e = a ∧ a.op = 1) ∨ (6 ≤ e.op ∧ ∃ k n, stepE e = cst k n ∧ conE e.op e.args = some (cst k n)) ∨ stepE e = e := by
  unfold stepE
  split
  · rename_i h
    cases ha : e.args with
    | nil => rw [ha] at h; simp [decE] at h
    | cons a l1 =>
      rw [ha] at h
      refine .inl ⟨a, by simp, by simp [hdE], ?_⟩
      simp [decE, isC] at h
      rcases h with h | h <;> exact h.2.1.1
  · split
    · exact .inr (.inr rfl)
    · cases hc : conE e.op e.args with
      | none => exact .inr (.inr rfl)
      | some c =>
        refine .inr (.inl ⟨by omega, ?_⟩)
        have : ∃ k n, c = cst k n := by
          cases ha : e.args with
          | nil => rw [ha] at hc; simp [conE] at hc
          | cons a l1 =>
            cases l1 with
            | nil => rw [ha, conE] at hc; split at hc <;> simp at hc; exact ⟨_, _, hc.symm⟩
            | cons b bs =>
              cases bs with
              | nil => rw [ha, conE] at hc; split at hc <;> simp at hc; exact ⟨_, _, hc.symm⟩
              | cons c' cs => rw [ha] at hc; simp [conE] at hc
        obtain ⟨k, n, rfl⟩ := this
        exact ⟨k, n, rfl, rfl⟩
end Go.Proofs.YtgldbeacjacbcaaGreat
