/-
  For every string and every slice of ints the law EvalCalls returns true: Kinds answers the kinds of a standard function, and Call its result, or the error that the reference has. No condition.
-/
import Derived.Test.YtkdommlojboknaaEv20
import Derived.Test.YtkdommlojboknaaRows
import Derived.WalkKit
import Derived.ProofKit
import Derived.OpenShut
import Derived.ReadAgain
import Derived.ChangeReads
import Derived.ChangeArms
import Derived.Deep.Slices
namespace Go.Proofs.Ytkdommlojboknaa.evalCalls
open Go.ChangeShapes Go.WideShapes Go.ChangeAt Go.RowKit
open Go.ChangeMaps (open_string shut_string)

theorem own : ownKnob Try.prog.godebug = none := by kernel_rfl
set_option maxRecDepth 100000 in
theorem kids_of : Kids Try.prog (· < Try.prog.types.size) := kids_rows (by kernel_rfl) (by kernel_rfl)
set_option maxRecDepth 100000 in
theorem full_of : ∀ t e, t < Try.prog.types.size → Try.prog.underlying t = some (.slice e) → 0 < Try.prog.cellsOf e := slices_full_of _ (by kernel_rfl)
theorem kp_sameAt {W W' : World} (h : Kp [] W W') {p : MemPlace} (hp : p.block < W.heap.size) : W.sameAt W' p := by
  have hb := h.block p.block hp (by simp)
  cases p with
  | cell b off => exact World.cell?_of_block (w := W) hb
  | map b => exact hb
/-- An argument of whatever type reads as it did behind a call that kept the blocks. -/
theorem trod_kept {H : Type} {enc : TypeId × Value → H} {W W' : World} {t : TypeId} {v : Value} {d : DataW H} {ps : List MemPlace} (hT : t < Try.prog.types.size)
    (h : DataW.Trod enc Try.prog W 0 (fun _ => true) true t v d ps) (hk : Kp [] W W') (hin : ∀ p ∈ ps, p.block < W.heap.size) (sp : Nat → Bool) (hs : ∀ p ∈ ps, sp p.block = true) :
    DataW.Trod enc Try.prog W' 0 sp true t v d ps := by
  obtain ⟨n, hn⟩ := h.respare (spare' := sp) kids_of full_of hT hs
  exact ⟨n, DataW.trod_carry _ _ _ _ hn fun p hp => kp_sameAt hk (hin p hp)⟩
set_option maxRecDepth 100000 in
theorem cellsInt : Try.prog.cellsOf 3 = 1 := by kernel_rfl

/-- An argument that is a slice of ints. -/
theorem open_args {H : Type} {enc : TypeId × Value → H} {W : World} {q : Option Addr} {N C : Nat} {d : DataW H} {ps : List MemPlace}
    (h : DataW.Trod enc Try.prog W 0 (fun _ => true) true 35 (.slice q N C) d ps) : ∃ zs, IntsAt q N C zs W := by
  obtain ⟨fuel, hf⟩ := h
  rcases open_ints Try.underlying35 Try.underlying3 cellsInt hf with ⟨hcs, _⟩ | ⟨a, len, cap, zs, hcs, _, hl, hm, hz, _, hc, _⟩
  · have e : (Value.slice q N C).cells.toList = [.slice q N C] := rfl
    rw [e] at hcs
    simp at hcs
    exact ⟨[], .inl ⟨hcs.1, hcs.2.1, hcs.2.2⟩⟩
  · have e : (Value.slice q N C).cells.toList = [.slice q N C] := rfl
    rw [e] at hcs
    simp at hcs
    obtain ⟨rfl, rfl, rfl⟩ := hcs
    unfold maxLen at hm
    exact ⟨zs, .inr ⟨a, rfl, hl, hm, by simpa using hz, hc⟩⟩

set_option maxRecDepth 100000 in
theorem lifted (os : Os) (started : os.Started) (H : Type) (enc : TypeId × Value → H) :
    ReturnsInHanded {} Try.checked os 4 .any (Rows.evalCallsSpec.pre6 enc Try.prog Try.f4 Rows.evalCallsRow.domain false) (Rows.evalCallsSpec.post enc Try.prog Try.f4 false true false false) := by
  refine returnsInHanded_of_change (C := Try.checked) own started (by kernel_rfl) Try.func4
    (ChangeSpec.witness6 (enc := enc) (C := Try.checked) false ⟨#[], #[.string ⟨#[]⟩, .slice none 0 0], []⟩ 8 (by kernel_rfl) (by kernel_rfl) (by kernel_rfl) (by kernel_rfl)) ?_
  intro W base args ds gs before hval0 hW hcnd _
  have hval : ∀ (j : Nat) t v, Try.f4.params[j]? = some t → args[j]? = some v → Value.okWide Try.prog W .any base t v := hval0
  have hW' := hW
  obtain ⟨p, q, hA0, hV, rfl, hfz, hnd⟩ := hW
  have hA : DataW.TrodAll enc Try.prog W 0 (fun _ => true) true Try.f4.params.toList args.toList ds p := hA0
  rw [Try.params4] at hA hval
  obtain ⟨v0, vs0, d0, ds0, p0, q0, hargs, rfl, rfl, h0, r0⟩ := trodAll_cons hA
  obtain ⟨v1, vs1, d1, ds1, p1, q1, rfl, rfl, rfl, h1, r1⟩ := trodAll_cons r0
  obtain ⟨rfl, rfl, rfl⟩ := trodAll_nil r1
  obtain rfl : args = #[v0, v1] := by cases args; simp_all
  obtain ⟨rfl, rfl⟩ := trodVars_none hV
  obtain ⟨s, rfl, rfl, rfl, ws⟩ := open_string Try.underlying9 (hval 0 9 v0 rfl rfl) h0
  obtain ⟨q, N, C, rfl⟩ := okWide_slice Try.underlying35 (hval 1 35 v1 rfl rfl)
  clear hA0 hval0
  have hin : ∀ p0 ∈ p1, p0.block < W.heap.size := fun p0 hp => hW'.lt p0 (by simpa using hp)
  simp only [List.append_nil] at hW'
  obtain ⟨zs, hat⟩ := open_args h1
  refine (calls_c s q N C zs W hat).mono fun e W' ⟨he, hg⟩ => ?_
  subst he
  exact ⟨_, rfl, post_of_same (pa := p1) (pv := []) hW' (fun _ _ _ => (trodAll_cons_mk (shut_bool Try.underlying4 _) trodAll_mk0)) (fun sp hsp => by
      have h2 := trodAll_cons_mk (trod_kept (of_decide_eq_true (by kernel_rfl)) h1 hg.kp hin sp (fun p hp => hsp p (by simpa using hp))) (trodAll_mk0 (enc := enc) (P := Try.prog) (w := W') (base := 0) (spare := sp) (held := true))
      have h3 := trodAll_cons_mk (shut_string Try.underlying9 ws) h2
      have h4 : DataW.TrodAll enc Try.prog W' 0 sp true [9, 35] [.string s, .slice q N C] [.lit (.string s.data.toList), d1] p1 := by simpa using h3
      exact h4) (fun _ _ => rfl) (by simp)
    (hg.grown.frame _) hg.grown.2.1 (ok_one (by kernel_rfl) rfl (okWide_bool_mk Try.underlying4 _))⟩

theorem over : Rows.evalCallsRow.holds Try.pinned (OpenSpec.ofChange Rows.evalCallsSpec) :=
  OpenClaim.holds_of_wide 4 Try.f4 rfl rfl rfl rfl rfl rfl rfl ⟨rfl, rfl, rfl, rfl, rfl⟩ rfl rfl rfl rfl rfl (by kernel_rfl) Try.func4 (by kernel_rfl)
    (of_decide_eq_true (by kernel_rfl)) (by unfold Func.isWrapper; first | (rw [if_pos (by decide +kernel)]; kernel_rfl) | (rw [if_neg (by decide +kernel)]; exact ⟨rfl, rfl⟩))
    (fun os started H enc _ => lifted os started H enc)

theorem proved : Rows.EvalCallsSaid :=
  over
#print axioms proved
end Go.Proofs.Ytkdommlojboknaa.evalCalls
