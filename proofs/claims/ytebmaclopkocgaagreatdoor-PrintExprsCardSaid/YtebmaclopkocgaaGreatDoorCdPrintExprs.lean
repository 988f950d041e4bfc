/-
  For every expression the law PrintExprs returns true: print.Expr and the reference give the same text, or ErrArg, and awake holds. The package variables of the library and of the reference start as the program's text lays them; no other condition.
-/
import Derived.Test.YtebmaclopkocgaaGreatDoorCw2
import Derived.Test.YtebmaclopkocgaaGreatDoorPl2
import Derived.Test.YtebmaclopkocgaaGreatDoorPz6
set_option linter.unusedSimpArgs false
set_option linter.unusedVariables false
namespace Go.Proofs.YtebmaclopkocgaaGreatDoor
open Go.ChangeShapes Go.WideShapes Go.ChangeAt Go.WideMaps Go.WideElems Go.RowKit

def arg0 : Value := .agg #[.int .i64 0, .int .i64 0, .int .i64 0, .string ⟨#[]⟩, .string ⟨#[]⟩, .slice none 0 0]

theorem start_met2 (os : Os) (args : Array Value) : laidMetH Tryz.prog Rows.printExprsRow.laid ((startW os).forCall (fun _ _ => 0) ⟨#[], args, []⟩).memory :=
  laidMetH_of_parts3 (fuel := 8) (laidMet_of_run' 8 (by kernel_rfl) (by kernel_rfl)) (by kernel_rfl) (by kernel_rfl)
theorem tab2_of {W : World} (h : laidMetH Tryz.prog Rows.printExprsRow.laid W) : TabI W ∧ SgAt W := by
  rw [MakeChecks.laidMetH_plain _ _ _ (by kernel_rfl)] at h
  obtain ⟨ps, ⟨g0, t0, cs0, f0, p0, q0, hg0, ht0, hv0, hd0, ⟨g1, t1, cs1, f1, p1, q1, hg1, ht1, hv1, hd1, ⟨g2, t2, cs2, f2, p2, q2, hg2, ht2, hv2, hd2, ⟨g3, t3, cs3, f3, p3, q3, hg3, ht3, hv3, hd3, ⟨g4, t4, cs4, f4, p4, q4, hg4, ht4, hv4, hd4, ⟨g5, t5, cs5, f5, p5, q5, hg5, ht5, hv5, hd5, _, _⟩, _⟩, _⟩, _⟩, _⟩, _⟩, _, _⟩ := h
  exact ⟨tabI_of hg2 ht2 hv2 hd2, sgAt_of hg5 ht5 hv5 hd5 hg4 ht4 hv4 hd4⟩

set_option maxRecDepth 100000 in
theorem printExprs_lifted (os : Os) (started : os.Started) (H : Type) (enc : TypeId × Value → H) :
    ReturnsInHanded {} Tryz.checked os 3 .any (fun w args => (Rows.printExprsSpec.pre enc Tryz.prog Tryz.f3 [] false w args ∧ laidMetH Tryz.prog Rows.printExprsRow.laid w) ∧ sizedMet enc Tryz.prog Tryz.f3 (OpenSpec.ofChange Rows.printExprsSpec) false w args)
      (Rows.printExprsSpec.post enc Tryz.prog Tryz.f3 false true false false) := by
  refine returnsInHanded_of_calls (C := Tryz.checked) own started (by kernel_rfl)
    (ChangeSpec.witness_shaped (enc := enc) (C := Tryz.checked) (os := os) (X := fun w _ => laidMetH Tryz.prog Rows.printExprsRow.laid w) false (startW os) #[arg0] 8 rfl (World.shaped_of_RefB (by kernel_rfl) (by kernel_rfl)) (by kernel_rfl) (by kernel_rfl) (by kernel_rfl) (start_met2 os _)) ?_
  intro w tape i _ hsh _ hok hpre hholds
  obtain ⟨_, _, _, fn', hfn', _, _, _, _, hval0⟩ := hok
  obtain rfl : fn' = Tryz.f3 := Option.some.inj (hfn'.symm.trans Tryz.func3)
  obtain ⟨⟨⟨ds, gs, before, hw, hc⟩, hx⟩, hz⟩ := hpre
  have hW' := DataW.Whole.of_heap (w' := w.forCall tape i) (by rfl) hw
  have hL : laidMetH Tryz.prog Rows.printExprsRow.laid (w.forCall tape i) := hx.of_heap (w' := w.forCall tape i) (by rfl)
  have hwt := hz.weights hw
  obtain ⟨hT, hS⟩ := tab2_of hL
  have hA0 := amb_of hsh
  have hval : ∀ (j : Nat) t v, Tryz.f3.params[j]? = some t → i.args[j]? = some v → Value.okWide Tryz.prog (w.forCall tape i) .any w.heap.size t v := hval0
  clear hval0 hx hz hc hL hw hholds
  generalize w.forCall tape i = W at *
  generalize i.args = args at *
  obtain ⟨p, q, hA1, hV, rfl, hfz, hnd⟩ := id hW'
  have hA : DataW.TrodAll enc Tryz.prog W 0 (fun _ => true) true Tryz.f3.params.toList args.toList ds p := hA1
  rw [Tryz.params3] at hA hval
  obtain ⟨v0, d0, rfl, rfl, h0⟩ := trodAll_one hA
  obtain ⟨rfl, rfl⟩ := trodVars_none hV
  obtain ⟨cs, rfl, hcs⟩ := okWide_struct Tryz.underlying24 (hval 0 24 v0 rfl rfl)
  clear hA1
  have hin : ∀ p0 ∈ p, p0.block < W.heap.size := fun p0 hp => hW'.lt p0 (by simpa using hp)
  have hlast : ∀ (e : Ending) (W' : World), (e = .returned (.bool true) ∧ Kp [] W W') → ∃ v, e = .returned v ∧ (Rows.printExprsSpec).post enc Tryz.prog Tryz.f3 false true false false W #[.agg cs] v W' := by
    rintro e W' ⟨he, hk⟩
    refine ⟨_, he, ?_⟩
    simp only [List.append_nil] at hW'
    exact row_kept hW' hk (fun _ _ _ => trodAll_mk1 (shut_bool Tryz.underlying4 _)) (fun sp hsp => trodAll_mk1 (trod_kept (of_decide_eq_true (by kernel_rfl)) h0 hk hin sp hsp)) (fun _ => rfl)
  have hwd : ∀ n ∈ d0.weights Tryz.prog 24, n ≤ reachBytes := fun n hn => by
    have := List.all_eq_true.1 hwt n (DataW.weights_mem_each (j := 0) (t := 24) (d := d0) (by rw [Tryz.params3]; rfl) rfl n hn)
    simpa using this
  obtain ⟨fuel, hf⟩ := h0
  obtain ⟨e, he, hwide, hfit⟩ := open_ex _ _ _ _ hf (Nat.lt_succ_self _) hwd
  obtain ⟨u, hu, hs⟩ := exAt_iff.1 he
  have hcs2 : (Value.agg cs) = exVal e u := by
    show Value.agg cs = Value.agg #[_, _, _, _, _, _]
    congr 1
    apply Array.toList_inj.1
    exact hu
  have hgo : Calls Tryz.prog 3 #[.agg cs] W fun e W' => e = .returned (.bool true) ∧ Kp [] W W' := by
    rw [hcs2]
    exact pexprsLaw_c e u W hs hA0 hT hS hfit hwide
  refine hgo.mono fun e W' he => ?_
  obtain ⟨v, rfl, hp⟩ := hlast e W' he
  exact ChangeSpec.post_blind hp

theorem printExprs_holds : Rows.PrintExprsSaid :=
  OpenClaim.holds_of_wide 3 Tryz.f3 rfl rfl rfl rfl rfl rfl rfl ⟨rfl, rfl, rfl, rfl, rfl⟩ rfl rfl rfl rfl rfl (by kernel_rfl) Tryz.func3 (by kernel_rfl)
    (of_decide_eq_true (by kernel_rfl)) (by unfold Func.isWrapper; first | (rw [if_pos (by decide +kernel)]; kernel_rfl) | (rw [if_neg (by decide +kernel)]; exact ⟨rfl, rfl⟩))
    (fun os started H enc _ => printExprs_lifted os started H enc)

theorem printExprs_card : Rows.PrintExprsCardSaid :=
  Claim7.holds_tied_plain_at .later [] [.data, .data, .data, .data, .data, .data, .pinned] true (true, "d801735fc7a786d053e0e29c995a3eab8c7b03e0d2235c7e66792a161ce09344") false
    printExprs_holds (fun _ h => by cases h) (by kernel_rfl) (fun _ h => by cases h) printExprs_row_tie rfl ⟨rfl, rfl⟩ (by kernel_rfl) rfl
    (fun f fn hf hfn => by
      obtain rfl : f = 3 := Option.some.inj ((show Tryz.prog.funcNamed "winch/winchlaw03.PrintExprs" = some 3 by kernel_rfl).symm.trans hf) |>.symm
      obtain rfl : fn = Tryz.f3 := (Option.some.inj (Tryz.func3.symm.trans hfn)).symm
      exact ⟨by kernel_rfl, fun j t ht => by
        rw [Tryz.params3] at ht
        have hm : t ∈ [24] := by simpa using Array.mem_of_getElem? ht
        have hall : ([24].all fun u => !Tryz.prog.wantsStandIn u) = true := by kernel_rfl
        exact (show Tryz.prog.wantsStandIn t = false by simpa using List.all_eq_true.1 hall t hm)⟩)
    (by kernel_rfl)
#print axioms printExprs_card
end Go.Proofs.YtebmaclopkocgaaGreatDoor
