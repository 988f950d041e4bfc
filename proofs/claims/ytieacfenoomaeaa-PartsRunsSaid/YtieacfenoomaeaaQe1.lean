import Derived.Test.YtieacfenoomaeaaQc2
import Derived.Test.YtieacfenoomaeaaRows
import Derived.WalkKit
import Derived.ProofKit
import Derived.OpenShut
import Derived.ReadAgain
import Derived.ChangeReads
import Derived.ChangeArms
import Derived.Deep.Slices
set_option linter.unusedSimpArgs false
set_option linter.unusedVariables false
namespace Go.Proofs.Ytieacfenoomaeaa
open Go.ChangeShapes Go.WideShapes Go.ChangeAt Go.RowKit

theorem own : ownKnob Try.prog.godebug = none := by kernel_rfl
set_option maxRecDepth 100000 in
theorem kids_of : Kids Try.prog (· < Try.prog.types.size) := kids_rows (by kernel_rfl) (by kernel_rfl)
set_option maxRecDepth 100000 in
theorem full_of : ∀ t e, t < Try.prog.types.size → Try.prog.underlying t = some (.slice e) → 0 < Try.prog.cellsOf e := slices_full_of _ (by kernel_rfl)
theorem kp_sameAt {W W' : World} (h : Kp [] W W') {p : MemPlace} (hp : p.block < W.heap.size) : W.sameAt W' p := by
  have hb := h.block p.block hp (by simp)
  cases p with
  | cell b off => exact World.cell?_of_block (w := W) hb
  | map b => exact hb
/-- An argument of whatever type reads as it did behind a call that kept the blocks. -/
theorem trod_kept {H : Type} {enc : TypeId × Value → H} {W W' : World} {t : TypeId} {v : Value} {d : DataW H} {ps : List MemPlace} (hT : t < Try.prog.types.size)
    (h : DataW.Trod enc Try.prog W 0 (fun _ => true) true t v d ps) (hk : Kp [] W W') (hin : ∀ p ∈ ps, p.block < W.heap.size) (sp : Nat → Bool) (hs : ∀ p ∈ ps, sp p.block = true) :
    DataW.Trod enc Try.prog W' 0 sp true t v d ps := by
  obtain ⟨n, hn⟩ := h.respare (spare' := sp) kids_of full_of hT hs
  exact ⟨n, DataW.trod_carry _ _ _ _ hn fun p hp => kp_sameAt hk (hin p hp)⟩
/-- The same of all arguments. -/
theorem all_kept {H : Type} {enc : TypeId × Value → H} {W W' : World} (hk : Kp [] W W') (sp : Nat → Bool) : ∀ (ts : List TypeId) (vs : List Value) (ds : List (DataW H)) (ps : List MemPlace), (∀ t ∈ ts, t < Try.prog.types.size) →
    DataW.TrodAll enc Try.prog W 0 (fun _ => true) true ts vs ds ps → (∀ p ∈ ps, p.block < W.heap.size) → (∀ p ∈ ps, sp p.block = true) → DataW.TrodAll enc Try.prog W' 0 sp true ts vs ds ps
  | [], vs, ds, ps, _, h, _, _ => by
    obtain ⟨rfl, rfl, rfl⟩ := trodAll_nil h
    exact trodAll_mk0
  | t :: ts, vs, ds, ps, hT, h, hin, hs => by
    obtain ⟨v, vs', d, ds', p, q, rfl, rfl, rfl, h0, r0⟩ := trodAll_cons h
    exact trodAll_cons_mk (trod_kept (hT t (by simp)) h0 hk (fun x hx => hin x (by simp [hx])) sp (fun x hx => hs x (by simp [hx])))
      (all_kept hk sp ts vs' ds' q (fun x hx => hT x (by simp [hx])) r0 (fun x hx => hin x (by simp [hx])) (fun x hx => hs x (by simp [hx])))
/-- What a law's contract (it returns true, and has made new memory alone) owes its row. -/
theorem row_kept {H : Type} {enc : TypeId × Value → H} {f : Func} {s : ChangeSpec} {W W' : World} {args : Array Value} {v : Value} {ds gs : List (DataW H)} {old : List MemPlace}
    (hW : DataW.Whole enc Try.prog f.params.toList s.vars false W args.toList ds gs old) (hk : Kp [] W W')
    (hr : ∀ b sp hd, DataW.TrodAll enc Try.prog W' b sp hd f.resultTypes.toList (v.resultList f.resultTypes.size) (s.fn H (ds ++ gs)).results [])
    (ha : ∀ sp : Nat → Bool, (∀ p ∈ old, sp p.block = true) → DataW.TrodAll enc Try.prog W' 0 sp true f.params.toList args.toList (s.fn H (ds ++ gs)).args old)
    (hv : ∀ sp : Nat → Bool, DataW.TrodVars enc Try.prog W' sp s.vars (s.fn H (ds ++ gs)).vars []) :
    s.post enc Try.prog f false true false false W args v W' := by
  have hin : ∀ p ∈ old, p.block < W.heap.size := fun p hp => hW.lt p hp
  have hsp : ∀ p ∈ old, (fun b => decide (b < W.heap.size)) p.block = true := fun p hp => decide_eq_true (hin p hp)
  have hkb : W.keptBut W' (fun p => p ∈ old ∧ p ∈ [] ++ (old ++ [])) := World.keptBut_mono (fun p hp => ⟨hp, by simpa using hp⟩) (hk.below.frame (· ∈ old))
  refine ⟨ds, gs, old, [], old, [], hW, hr _ _ _, ha _ hsp, hv _, ?_, fun h => by cases h⟩
  exact World.keptBut_mono (fun p hp => ⟨hp.1, by simpa using hp.2⟩) hkb
theorem at_spot {W : World} {a : Addr} {v : Value} (h : W.cell? a = some v) : a.spot = none := by
  unfold World.cell? at h
  split at h
  · split at h
    · cases h
    · rename_i h2; simpa using h2
  · cases h
set_option maxRecDepth 100000 in
theorem cellsInt : Try.prog.cellsOf 3 = 1 := by kernel_rfl
/-- An argument that is a slice of ints. -/
theorem open_is {H : Type} {enc : TypeId × Value → H} {W : World} {q : Option Addr} {N C : Nat} {d : DataW H} {ps : List MemPlace}
    (h : DataW.Trod enc Try.prog W 0 (fun _ => true) true 22 (.slice q N C) d ps) : ∃ zs, Is W (.slice q N C) zs := by
  obtain ⟨fuel, hf⟩ := h
  rcases open_ints Try.underlying22 Try.underlying3 cellsInt hf with ⟨hcs, _⟩ | ⟨a, len, cap, zs, hcs, _, hl, hm, hz, _, hc, _⟩
  · have e : (Value.slice q N C).cells.toList = [.slice q N C] := rfl
    rw [e] at hcs
    simp at hcs
    obtain ⟨rfl, rfl, rfl⟩ := hcs
    exact ⟨[], none, 0, rfl, Nat.le_refl _, by omega, .inl rfl⟩
  · have e : (Value.slice q N C).cells.toList = [.slice q N C] := rfl
    rw [e] at hcs
    simp at hcs
    obtain ⟨rfl, rfl, rfl⟩ := hcs
    unfold maxLen at hm
    have hz2 : zs.length = C := by simpa using hz
    have hzl : (zs.take N).length = N := by rw [List.length_take]; omega
    refine ⟨zs.take N, some a, C, by rw [hzl], by omega, by omega, ?_⟩
    by_cases h0 : N = 0
    · left; rw [h0]; rfl
    · right
      have hs := at_spot (show W.cell? a = _ from hc 0 (by omega))
      refine ⟨a.block, a.off, by cases a; simp at hs; rw [hs], fun j hj => ?_⟩
      rw [hzl] at hj
      have h3 := hc j (by omega)
      have h4 : a.add j = ⟨a.block, a.off + j, none⟩ := by
        unfold Addr.add
        split
        · rename_i h5; cases a; simp at hs; simp [hs, h5]
        · rfl
      rw [h4] at h3
      rw [h3]
      congr 2
      simp [List.getD_eq_getElem?_getD, List.getElem?_take, hj]
end Go.Proofs.Ytieacfenoomaeaa
