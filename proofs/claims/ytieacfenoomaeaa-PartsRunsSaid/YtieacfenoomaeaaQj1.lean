import Derived.RangeFuncNested
import Derived.RangeFuncBound
import Derived.RangeFuncCalls
import Derived.RangeFuncLeaves
import Derived.RangeFuncBox
import Derived.Shelf.Abstract
import Derived.Shelf.RegionOpen
import Derived.OwnWalkIn
import Derived.TacticsInMore
import Derived.LoopNIn
import Derived.LoopIn
import Derived.Maps.AppendAt
import Derived.Deep.RegionHeld3
import Derived.Deep.RegionLaw
import Derived.Laws.CopyRow
import Derived.Test.YtieacfenoomaeaaQim
set_option linter.unusedSimpArgs false
set_option linter.unusedVariables false
namespace Go.Proofs.Ytieacfenoomaeaa
open Go.RowKit Go.Shelf
attribute [local go_sem] Oper.semAt_some

theorem uponIn_yield {F : Fence} {n : Nat} {P : Program} {o : Oper} {a : Act} {next : Act → World → Prop} {Q : Exit → Act → World → Prop} {l : Nat} {args : Array Value} {W : World} {R : Ending → World → Prop}
    (hd : F.depth = none) (h : YieldAt F (n - 1) P l args W R)
    (hn : ∀ e W', R e W' → (match e, W' with
      | .returned v, w'' => next (a.put o.dst v) w''
      | .panicked chain, w'' => Q (.panic chain) a w''
      | .outgrown, _ => LetsOut Q)) : Oper.uponIn F n P o a next Q ((Instr.yield l args).run P W) := by
  obtain ⟨fn, tmps, assign, body, hy, hR⟩ := h
  rw [hy]
  exact ⟨by simp [hd], hR.mono hn⟩
/-- A range over a closure that never stops early: what the one call must come to. -/
theorem rangeFunc_cap {P : Program} {g : Operand} {ps : Array Tmp} {assign body : Code} {Q : Exit → Act → World → Prop} {a : Act} {w : World} {gf : Nat} {cp : Array Value}
    (hg : a.eval g = .func (.func gf) #[] cp) (eg : ∀ args w, (callFunc gf args).run P w = .ok (.enter gf args) w) (X : World → Prop)
    (hcall : ∀ fn (rec : Loop), rec = { state := .ready, pending := none, fn, tmps := a.tmps, params := ps, assign, body, defers := w.heap.size } →
      CallsIn Fence.wide 0 P gf (#[.func (.yield (w.heap.size + 1)) #[] #[]] ++ cp) ((w.alloc (.deferred (some []))).alloc (.loop rec)) fun e W' => (∃ v, e = .returned v) ∧ W'.heap[w.heap.size + 1]? = some (.loop rec) ∧ X W')
    (hdone : ∀ (rec : Loop) (W' : World), W'.heap[w.heap.size + 1]? = some (.loop rec) → X W' →
      Q .normal { a with defers := { target := .collected w.heap.size, args := #[] } :: a.defers } (W'.putObj (w.heap.size + 1) (.loop { rec with state := .exhausted }))) :
    (Code.rangeFunc g ps assign body).wpIn Fence.wide 0 P Q a w := by
  refine wpIn_rangeFunc ?_
  intro fn hfn
  obtain ⟨W1, hW1⟩ : ∃ W1, (w.alloc (.deferred (some []))).alloc (.loop { state := .ready, pending := none, fn, tmps := a.tmps, params := ps, assign, body, defers := w.heap.size }) = W1 := ⟨_, rfl⟩
  refine ⟨w.heap.size + 1, [{ target := .collected w.heap.size, args := #[] }], W1, { target := .fn (.func gf) cp, args := #[.func (.yield (w.heap.size + 1)) #[] #[]] }, W1, gf,
    #[.func (.yield (w.heap.size + 1)) #[] #[]] ++ cp, W1, ?_, ?_, fun _ _ => trivial, ?_, by simp [Fence.wide], ?_⟩
  · rw [← hW1]; exact run_enterLoop_outer _ _ _ _ _
  · simp only [resolve, hg]
    simp [go_sem]
  · simp [invoke, go_sem, eg]
  · rw [← hW1]
    refine (hcall fn _ rfl).mono ?_
    rintro e W' ⟨⟨v, rfl⟩, hl, hX⟩
    exact ⟨none, _, run_endLoop hl (by simp), hdone _ _ hl hX⟩
theorem yield_round {P : Program} {W : World} {l : Nat} {rec : Loop} {args : Array Value} {R : Ending → World → Prop} (hl : W.heap[l]? = some (.loop rec)) (hsz : args.size = rec.params.size)
    (h : rec.assign.wpIn (Fence.wide.inRound l) 0 P (Exit.then (fun a₁ w₁ => ∃ w₂, (Instr.beginRound l).run P w₁ = .ok () w₂ ∧ rec.body.wpIn (Fence.wide.inRound l) 0 P (roundPost P l R) a₁ w₂) (fun _ _ _ => False))
      { tmps := (rec.params.zip args).foldl (fun tmps x => match x with | (t, a) => tmps.setIfInBounds t a) rec.tmps, defers := [] } W) : YieldAt Fence.wide 0 P l args W R :=
  ⟨rec.fn, _, rec.assign, rec.body, run_yield hl hsz, roundIn_of_wpIn trivial h⟩
theorem kp_setRow {w : World} (b : Nat) (cs : Array Value) : Kp [b] w (w.setRow b cs) :=
  ⟨rfl, rfl, rfl, by simp [World.setRow], fun k hk hn => setRow_other w b k cs (by simpa using hn)⟩
end Go.Proofs.Ytieacfenoomaeaa
