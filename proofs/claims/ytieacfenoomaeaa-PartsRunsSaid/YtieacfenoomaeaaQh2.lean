import Derived.Test.YtieacfenoomaeaaQh1
import Derived.Shelf.SlSorted.IsSorted
import Derived.Shelf.SlicesE.IndexFunc
import Derived.Shelf.Lay
import Derived.Ground.SlsoProg
import Derived.Ground.SlgfProg
set_option linter.unusedSimpArgs false
set_option linter.unusedVariables false
namespace Go.Proofs.Ytieacfenoomaeaa
open Go.RowKit Go.Shelf Go.Lib

shelf_lay_g SlLaysO.n10 Slso 10 at Try 61 as Try.srtI
shelf_lay_g SlLaysH.n8 Slgf 8 at Try 62 as Try.cfI

theorem arr_get (zs : List Int) (i : Nat) : zs.toArray[i]! = zs.getD i 0 := by
  simp [List.getD_eq_getElem?_getD, getElem!_def]
  cases zs[i]? <;> rfl
theorem lst_get (zs : List Int) (i : Nat) : zs[i]! = zs.getD i 0 := by
  simp [List.getD_eq_getElem?_getD, getElem!_def]
  cases zs[i]? <;> rfl
theorem tmsB_eq (zs : List Int) : tmsB zs = (Lib.downOK (fun x y : Int => decide (x < y)) zs.toArray (zs.toArray.size - 1) && !(zs.any fun x => !isT x)) := by
  rw [Bool.eq_iff_iff, Bool.and_eq_true, Lib.downOK_iff]
  simp only [tmsB, List.all_eq_true, List.mem_range, tmAt, Bool.and_eq_true, Bool.not_eq_true', Bool.and_eq_false_iff, decide_eq_false_iff_not, arr_get, List.size_toArray, List.any_eq_false]
  constructor
  · intro h
    refine ⟨fun i hi => ?_, fun x hx => ?_⟩
    · have h2 := (h (i + 1) (by omega)).2
      rcases h2 with h2 | h2
      · omega
      · simpa using h2
    · obtain ⟨i, hi, rfl⟩ := List.mem_iff_getElem.1 hx
      have h2 := (h i hi).1
      simp [List.getD_eq_getElem?_getD, hi] at h2
      simp [h2]
  · intro ⟨h1, h2⟩ k hk
    refine ⟨?_, ?_⟩
    · have h3 := h2 (zs[k]) (List.getElem_mem hk)
      simp [List.getD_eq_getElem?_getD, hk]
      simpa using h3
    · by_cases h0 : 0 < k
      · have h3 := h1 (k - 1) (by omega)
        rw [show k - 1 + 1 = k by omega] at h3
        exact .inr h3
      · exact .inl h0
theorem isNone_at (w : World) : PredAt Try.prog 60 #[] (Value.int .i64) (fun x => !isT x) w := fun W x _ => by
  show Calls Try.prog 60 #[.int .i64 x] W _
  go_enter Try.func60, Try.ntmps60
  go_wp2_with fail
  refine (isTime_c x _).mono ?_
  rintro r w2 ⟨rfl, rfl⟩
  go_wp2
  go_ret
  exact ⟨rfl, 0, rfl⟩
set_option maxRecDepth 100000 in
set_option maxHeartbeats 2000000 in
theorem areTimes_c (w : World) (v : Value) (zs : List Int) (h1 : Is w v zs) (hb : zs.length ≤ 1000000) : Calls Try.prog 40 #[v] w fun r w' => r = .returned (.bool (tmsB zs)) ∧ Kp [] w w' := by
  obtain ⟨p, c, rfl, hn1, hc1⟩ := h1.val
  by_cases h0 : zs = []
  · subst h0
    have hs := Lib.hid (fun W => AnyO.slices_IsSorted_int_none Try.srtI p c W)
    have hcf := Lib.hid (fun fv W => AnyE.slices_ContainsFunc_empty Try.cfI p c fv W)
    go_enter Try.func40, Try.ntmps40
    go_wp2_with fail
    refine (hs.out _).mono ?_
    rintro r w2 ⟨rfl, rfl⟩
    go_wp2_with fail
    refine (hcf.out _ _).mono ?_
    rintro r w3 ⟨rfl, rfl⟩
    go_wp2
    go_ret
    exact ⟨rfl, Kp.refl _ _⟩
  · have hpos : 0 < zs.length := List.length_pos_iff.2 h0
    obtain ⟨b, off, rfl, -⟩ := h1.at_ 0 hpos
    have hat : ∀ W, Kp [] w W → ∀ j, j < zs.length → W.cell? ⟨b, off + j, none⟩ = some (.int .i64 (zs.getD j 0)) := fun W k j hj => by
      obtain ⟨b2, o2, e2, h2⟩ := (h1.kp k).at_ j hj
      simp at e2
      obtain ⟨rfl, rfl⟩ := e2
      exact h2
    have eg : ∀ args w, (callFunc 60 args).run Try.prog w = .ok (.enter 60 args) w := enters_of Try.func60 (by kernel_rfl) rfl
    have hs := Lib.hid (fun W (k : Kp [] w W) => AnyO.slices_IsSorted_int Try.srtI b off c zs.toArray W (fun i hi => by rw [arr_get]; exact hat W k i (by simpa using hi)) (by simp; omega))
    have hcf := Lib.hid (fun W (k : Kp [] w W) => AnyE.slices_ContainsFunc Try.cfI (Value.int .i64) (fun x => !isT x) 60 #[] eg b off zs.length c zs W (isNone_at W) (Nat.le_refl _) (by omega) (fun i hi => by rw [lst_get]; exact hat W k i hi))
    have hE := Lib.hid (tmsB_eq zs)
    rw [List.take_length] at hcf
    obtain ⟨b1, hb1⟩ : ∃ x, Lib.downOK (fun x y : Int => decide (x < y)) zs.toArray (zs.toArray.size - 1) = x := ⟨_, rfl⟩
    obtain ⟨b2, hb2⟩ : ∃ x, (zs.any fun x => !isT x) = x := ⟨_, rfl⟩
    rw [hb1] at hs hE
    rw [hb2] at hcf hE
    rw [List.size_toArray] at hs
    obtain ⟨n, hn⟩ : ∃ n, zs.length = n := ⟨_, rfl⟩
    rw [hn] at hs hcf ⊢
    rw [hE.out]
    clear hat eg hb1 hb2 hE
    replace h1 := Lib.hid h1
    replace hn := Lib.hid hn
    go_enter Try.func40, Try.ntmps40
    go_wp2_with fail
    refine (hs.out _ (Kp.refl _ _)).mono ?_
    rintro r w2 ⟨rfl, q, rfl⟩
    cases b1
    · go_wp2
      go_ret
      exact ⟨rfl, (Kp.refl _ _).drewN _⟩
    · go_wp2_with fail
      refine (hcf.out _ ((Kp.refl _ _).drewN _)).mono ?_
      rintro r w3 ⟨rfl, q2, rfl⟩
      go_wp2
      go_ret
      exact ⟨rfl, by first | exact (Kp.refl _ _).drewN _ | exact ((Kp.refl _ _).drewN _).drewN _⟩
end Go.Proofs.Ytieacfenoomaeaa
