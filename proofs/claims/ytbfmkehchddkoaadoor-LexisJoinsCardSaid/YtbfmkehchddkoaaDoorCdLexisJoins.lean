/-
  Whatever the slice of tokens: LexisJoins returns true, and the slice reads behind the call as it read before. The condition on sizes that the statement carries is used: no text is longer than the machine's memory reaches. The package variables of the library start as the program's text lays them; no other condition.
-/
import Derived.Test.YtbfmkehchddkoaaDoorLa3
import Derived.Test.YtbfmkehchddkoaaDoorJn9
import Derived.Test.YtbfmkehchddkoaaDoorCards
import Derived.SevenTiedAt
import Derived.Handed
import Derived.SizedLaws
namespace Go.Proofs.YtbfmkehchddkoaaDoor
open Go.ChangeShapes Go.WideShapes Go.ChangeAt Go.WideMaps Go.WideElems Go.RowKit
open Go.ChangeMaps (open_string shut_string)

set_option maxRecDepth 100000 in
theorem lexisJoins_lifted (os : Os) (started : os.Started) (H : Type) (enc : TypeId × Value → H) :
    ReturnsInHanded {} Tryd.checked os 4 .any (fun w args => (Rows.lexisJoinsSpec.pre enc Tryd.prog Tryd.f4 [] false w args ∧ laidMetH Tryd.prog Rows.lexisPlacesRow.laid w) ∧ sizedMet enc Tryd.prog Tryd.f4 (OpenSpec.ofChange Rows.lexisJoinsSpec) false w args)
      (Rows.lexisJoinsSpec.post enc Tryd.prog Tryd.f4 false true false false) := by
  refine returnsInHanded_of_calls (C := Tryd.checked) own started (by kernel_rfl)
    (ChangeSpec.witness_shaped (enc := enc) (C := Tryd.checked) (os := os) (X := fun w _ => laidMetH Tryd.prog Rows.lexisPlacesRow.laid w) false (World.doorLaid Tryd.prog 86 os) #[.slice none 0 0] 8 rfl (World.shaped_of_RefB (by kernel_rfl) (by kernel_rfl)) (by kernel_rfl) (by kernel_rfl) (by kernel_rfl) (door_met os _)) ?_
  intro w tape i _ hsh _ hok hpre hholds
  obtain ⟨_, _, _, fn', hfn', _, _, _, _, hval0⟩ := hok
  obtain rfl : fn' = Tryd.f4 := Option.some.inj (hfn'.symm.trans Tryd.func4)
  obtain ⟨⟨⟨ds, gs, before, hw, hc⟩, hx⟩, hz⟩ := hpre
  have hwt := hz.weights hw
  have hW' := DataW.Whole.of_heap (w' := w.forCall tape i) (by rfl) hw
  have hL : laidMetH Tryd.prog Rows.lexisPlacesRow.laid (w.forCall tape i) := hx.of_heap (w' := w.forCall tape i) (by rfl)
  have hA0 := amb_of hsh hL
  have hval : ∀ (j : Nat) t v, Tryd.f4.params[j]? = some t → i.args[j]? = some v → Value.okWide Tryd.prog (w.forCall tape i) .any w.heap.size t v := hval0
  clear hval0 hx hz hc hL hw hholds
  generalize w.forCall tape i = W at *
  generalize i.args = args at *
  obtain ⟨p, q, hA1, hV, rfl, hfz, hnd⟩ := id hW'
  have hA : DataW.TrodAll enc Tryd.prog W 0 (fun _ => true) true Tryd.f4.params.toList args.toList ds p := hA1
  rw [Tryd.params4] at hA hval
  obtain ⟨v0, d0, rfl, rfl, h0⟩ := trodAll_one hA
  obtain ⟨rfl, rfl⟩ := trodVars_none hV
  obtain ⟨a0, l0, c0, rfl⟩ := okWide_slice Tryd.underlying23 (hval 0 23 v0 rfl rfl)
  have hin : ∀ p0 ∈ p, p0.block < W.heap.size := fun p0 hp => hW'.lt p0 (by simpa using hp)
  have hlast : ∀ (e : Ending) (W' : World), (e = .returned (.bool true) ∧ Kp [] W W') → ∃ v, e = .returned v ∧ (Rows.lexisJoinsSpec).post enc Tryd.prog Tryd.f4 false true false false W #[.slice a0 l0 c0] v W' := by
    rintro e W' ⟨he, hk⟩
    refine ⟨_, he, ?_⟩
    simp only [List.append_nil] at hW'
    exact row_kept hW' hk (fun _ _ _ => trodAll_mk1 (shut_bool Tryd.underlying4 _)) (fun sp hsp => trodAll_mk1 (trod_kept (of_decide_eq_true (by kernel_rfl)) h0 hk hin sp hsp)) (fun _ => rfl)
  have hwd : ∀ n ∈ d0.weights Tryd.prog 23, n ≤ reachBytes := fun n hn => by
    have := List.all_eq_true.1 hwt n (DataW.weights_mem_each (j := 0) (t := 23) (d := d0) (by rw [Tryd.params4]; rfl) rfl n hn)
    simpa using this
  have hgo : Calls Tryd.prog 4 #[.slice a0 l0 c0] W fun e W' => e = .returned (.bool true) ∧ Kp [] W W' := by
    obtain ⟨fuel, hf⟩ := h0
    rcases open_toks (x := (d0, p)) hf hwd with hv | ⟨a, cap, ts, hv, hl, hm, hc, hs⟩
    · rw [hv]; exact joins_nil W hA0 _ (list_nil W)
    · rw [hv]
      have hL := list_c a cap ts W hl hm hc
      by_cases h0 : ts.length = 0
      · refine joins_nil W hA0 _ (hL.mono ?_)
        rintro e w' ⟨v', rfl, hk, _, hn⟩
        exact ⟨by rw [hn (by rw [List.length_take]; omega)], hk⟩
      · exact joins_c _ (ts.take 4002) W hA0 (by rw [List.length_take]; omega) (by rw [List.length_take]; omega) (fun y hy => hs y (List.mem_of_mem_take hy)) hL
  refine hgo.mono fun e W' he => ?_
  obtain ⟨v, rfl, hp⟩ := hlast e W' he
  exact ChangeSpec.post_blind hp

theorem lexisJoins_holds : Rows.LexisJoinsSaid :=
  OpenClaim.holds_of_wide 4 Tryd.f4 rfl rfl rfl rfl rfl rfl rfl ⟨rfl, rfl, rfl, rfl, rfl⟩ rfl rfl rfl rfl rfl (by kernel_rfl) Tryd.func4 (by kernel_rfl)
    (of_decide_eq_true (by kernel_rfl)) (by unfold Func.isWrapper; first | (rw [if_pos (by decide +kernel)]; kernel_rfl) | (rw [if_neg (by decide +kernel)]; exact ⟨rfl, rfl⟩))
    (fun os started H enc _ => lexisJoins_lifted os started H enc)

theorem lexisJoins_card : Rows.LexisJoinsCardSaid :=
  Claim7.holds_tied_plain_at .later [] [.data, .data, .data, .sentinel, .sentinel] true (true, "0da2cf6e0c32ebfd2a7c6be520a7740b8bfe329181a1cac2eac14768ce974234") true
    lexisJoins_holds (fun _ h => by cases h) (by kernel_rfl) (fun _ h => by cases h) lexisJoins_row_tie rfl ⟨rfl, rfl⟩ (by kernel_rfl) rfl
    (fun f fn hf hfn => by
      obtain rfl : f = 4 := Option.some.inj ((show Tryd.prog.funcNamed "winch/winchlaw01.LexisJoins" = some 4 by kernel_rfl).symm.trans hf) |>.symm
      obtain rfl : fn = Tryd.f4 := (Option.some.inj (Tryd.func4.symm.trans hfn)).symm
      exact ⟨by kernel_rfl, fun j t ht => by
        rw [Tryd.params4] at ht
        have hm : t ∈ [23] := by simpa using Array.mem_of_getElem? ht
        have hall : ([23].all fun u => !Tryd.prog.wantsStandIn u) = true := by kernel_rfl
        exact (show Tryd.prog.wantsStandIn t = false by simpa using List.all_eq_true.1 hall t hm)⟩)
    (by kernel_rfl)
#print axioms lexisJoins_card
end Go.Proofs.YtbfmkehchddkoaaDoor
