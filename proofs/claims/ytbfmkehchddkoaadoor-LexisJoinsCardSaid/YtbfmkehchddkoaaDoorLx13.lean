import Derived.Test.YtbfmkehchddkoaaDoorLx12
namespace Go.Proofs.YtbfmkehchddkoaaDoor
open Go.RowKit Go.Shelf
attribute [local go_sem] Oper.semAt_some

theorem Tryd.infoTok : (Tryd.prog.info? 46).map (fun i => (i.zero, i.size, i.bytes)) = some (some (.agg #[.int .i64 0, .string ⟨#[]⟩, .int .i64 0]), 3, 32) := by kernel_rfl

theorem kp_grown {b : Nat} {A B : World} (h : Kp [b] A B) : A.grownBy B (some b) :=
  ⟨h.os, h.tape, h.output, h.size, fun k hk hn => h.block k hk (by simpa using hn)⟩

/-- Between two rounds of the loop in Tokens. -/
structure TkJ (w0 : World) (rec : Loop) (pre : List Tok) (W : World) : Prop where
  box : ∃ v, Blk W w0.heap.size 23 #[v] ∧ W.ownsRow (w0.heap.size + 5) 46 3 v pre.length (pre.flatMap tokC)
  dfr : W.heap[w0.heap.size + 3]? = some (.deferred (some []))
  lp : W.heap[w0.heap.size + 4]? = some (.loop rec)
  bel : Below w0.heap.size w0 W

theorem TkJ.kp {w0 : World} {rec : Loop} {pre : List Tok} {A B : World} (h : TkJ w0 rec pre A) (k : Kp [w0.heap.size + 2] A B) : TkJ w0 rec pre B := by
  obtain ⟨v, hb, hr⟩ := h.box
  refine ⟨⟨v, hb.kp k (by simp), hr.kept (kp_grown k) ?_⟩, k.heap h.dfr (by simp), k.heap h.lp (by simp), ?_⟩
  · rcases hr.2 with ⟨rfl, _⟩ | ⟨g, cap, cur, rfl, hg, _⟩
    · exact .inl rfl
    · refine .inr fun e => ?_
      simp [Value.ownBlock] at e; omega
  · exact h.bel.trans ⟨k.os, k.tape, k.output, k.size, fun i hi => k.block i (Nat.lt_of_lt_of_le hi h.bel.size) (by simp; omega)⟩

/-- A range over a bound method that never stops early: what the one call must come to. -/
theorem rangeFunc_all {P : Program} {g : Operand} {ps : Array Tmp} {assign body : Code} {Q : Exit → Act → World → Prop} {a : Act} {w : World} {gf : Nat} {bd : Array Value}
    (hg : a.eval g = .func (.func gf) bd #[]) (eg : ∀ args w, (callFunc gf args).run P w = .ok (.enter gf args) w) (X : World → Prop)
    (hcall : ∀ fn (rec : Loop), rec = { state := .ready, pending := none, fn, tmps := a.tmps, params := ps, assign, body, defers := w.heap.size } →
      CallsIn Fence.wide 0 P gf (bd ++ #[.func (.yield (w.heap.size + 1)) #[] #[]]) ((w.alloc (.deferred (some []))).alloc (.loop rec)) fun e W' => (∃ v, e = .returned v) ∧ W'.heap[w.heap.size + 1]? = some (.loop rec) ∧ X W')
    (hdone : ∀ (rec : Loop) (W' : World), W'.heap[w.heap.size + 1]? = some (.loop rec) → X W' →
      Q .normal { a with defers := { target := .collected w.heap.size, args := #[] } :: a.defers } (W'.putObj (w.heap.size + 1) (.loop { rec with state := .exhausted }))) :
    (Code.rangeFunc g ps assign body).wpIn Fence.wide 0 P Q a w := by
  refine wpIn_rangeFunc ?_
  intro fn hfn
  obtain ⟨W1, hW1⟩ : ∃ W1, (w.alloc (.deferred (some []))).alloc (.loop { state := .ready, pending := none, fn, tmps := a.tmps, params := ps, assign, body, defers := w.heap.size }) = W1 := ⟨_, rfl⟩
  refine ⟨w.heap.size + 1, [{ target := .collected w.heap.size, args := #[] }], W1, { target := .fn (.func gf) #[], args := bd ++ #[.func (.yield (w.heap.size + 1)) #[] #[]] }, W1, gf,
    bd ++ #[.func (.yield (w.heap.size + 1)) #[] #[]], W1, ?_, ?_, fun _ _ => trivial, ?_, by simp [Fence.wide], ?_⟩
  · rw [← hW1]; exact run_enterLoop_outer _ _ _ _ _
  · simp only [resolve, hg]
    simp [go_sem]
  · simp [invoke, go_sem, eg]
  · rw [← hW1]
    refine (hcall fn _ rfl).mono ?_
    rintro e W' ⟨⟨v, rfl⟩, hl, hX⟩
    exact ⟨none, _, run_endLoop hl (by simp), hdone _ _ hl hX⟩

theorem yield_round {P : Program} {W : World} {l : Nat} {rec : Loop} {args : Array Value} {R : Ending → World → Prop} (hl : W.heap[l]? = some (.loop rec)) (hsz : args.size = rec.params.size)
    (h : rec.assign.wpIn (Fence.wide.inRound l) 0 P (Exit.then (fun a₁ w₁ => ∃ w₂, (Instr.beginRound l).run P w₁ = .ok () w₂ ∧ rec.body.wpIn (Fence.wide.inRound l) 0 P (roundPost P l R) a₁ w₂) (fun _ _ _ => False))
      { tmps := (rec.params.zip args).foldl (fun tmps x => match x with | (t, a) => tmps.setIfInBounds t a) rec.tmps, defers := [] } W) : YieldAt Fence.wide 0 P l args W R :=
  ⟨rec.fn, _, rec.assign, rec.body, run_yield hl hsz, roundIn_of_wpIn trivial h⟩

/-- What Tokens leaves: the position of an error, or the tokens in new memory. -/
def TokRes (s : ByteArray) (w : World) (e : Ending) (w' : World) : Prop :=
  Kp [] w w' ∧ (((toksL s.data.toList).2 < s.size ∧ e = .returned (.tuple #[.slice none 0 0, .int .i64 (toksL s.data.toList).2, .int .i64 4])) ∨
    (¬ (toksL s.data.toList).2 < s.size ∧ ∃ v base, e = .returned (.tuple #[v, .int .i64 0, .int .i64 0]) ∧ w.heap.size ≤ base ∧
      w'.ownsRow base 46 3 v (toksL s.data.toList).1.length ((toksL s.data.toList).1.flatMap tokC)))

/-- What one round of the loop in Tokens does to its invariant. -/
theorem TkJ.round {w W W2 w1 : World} {rec : Loop} {pre : List Tok} {x : Tok} {v v' : Value} {tmp : Obj} {a : Act} (hlo : 5 ≤ w.heap.size) (hJ : TkJ w rec pre W) (e5 : rec.state = .ready) (e6 : rec.pending = none)
    (hl2 : W2.heap[w.heap.size + 4]? = some (.loop { rec with state := .busy })) (hB2 : Boxed W2 w.heap.size 23 v)
    (hR2 : W2.ownsRow (w.heap.size + 5) 46 3 v pre.length (pre.flatMap tokC)) (hK2 : Kp [w.heap.size + 4] W W2)
    (hown' : w1.ownsRow (w.heap.size + 5) 46 3 v' (pre.length + 1) (pre.flatMap tokC ++ tokC x)) (hgrow : (W2.alloc tmp).grownBy w1 v.ownBlock) :
    roundPost Tryd.prog (w.heap.size + 4) (fun e W' => e = .returned (.bool true) ∧ TkJ w rec (pre ++ [x]) W' ∧ W'.heap[w.heap.size + 2]? = W.heap[w.heap.size + 2]? ∧ W'.heap[w.heap.size + 1]? = W.heap[w.heap.size + 1]? ∧ (Amb W → Amb W'))
      .normal a (w1.setCell ⟨w.heap.size, 0, none⟩ v') := by
  have hrow : ∀ k, v.ownBlock = some k → w.heap.size + 5 ≤ k := fun k hk => (hR2.lt k hk).1
  have hv1 := (hB2.alloc tmp).kept hgrow (hB2.not_row (by decide) hR2)
  have hr3 : (w1.setCell ⟨w.heap.size, 0, none⟩ v').ownsRow (w.heap.size + 5) 46 3 v' (pre.length + 1) (pre.flatMap tokC ++ tokC x) :=
    hown'.kept (grownBy_setCell' w1 w.heap.size v') (.inr (hv1.not_row (by decide) hown').symm)
  have hb3 : Blk (w1.setCell ⟨w.heap.size, 0, none⟩ v') w.heap.size 23 #[v'] := hv1.set v'
  have hS : ∀ k, k ∈ (w.heap.size + 4) :: w.heap.size :: v.ownBlock.toList → k = w.heap.size + 4 ∨ k = w.heap.size ∨ w.heap.size + 5 ≤ k := by
    intro k hk
    simp only [List.mem_cons, Option.mem_toList] at hk
    rcases hk with h | h | h
    · exact .inl h
    · exact .inr (.inl h)
    · exact .inr (.inr (hrow k h))
  have hK3 : Kp ((w.heap.size + 4) :: w.heap.size :: v.ownBlock.toList) W (w1.setCell ⟨w.heap.size, 0, none⟩ v') := by
    refine ((((hK2.mono (by simp)).alloc tmp).grown hgrow (fun k hk => .inl (by simp [hk]))).setCell (.inl (by simp)) _)
  have hl3 : (w1.setCell ⟨w.heap.size, 0, none⟩ v').heap[w.heap.size + 4]? = some (.loop { rec with state := .busy }) := by
    refine (Below.heap_setCell _ _ _ _ (by simp)).trans ((hgrow.block _ ?_ ?_).trans ((Below.heap_alloc _ _ _ ?_).trans hl2))
    · have := (Array.getElem?_eq_some_iff.1 hl2).1; simp; omega
    · intro e; have := hrow _ e.symm; omega
    · exact (Array.getElem?_eq_some_iff.1 hl2).1
  have hend := run_endRound (P := Tryd.prog) none hl3
  have hrec : ({ rec with state := (if (none : Option Code).isNone = true then LoopState.ready else LoopState.done), pending := none } : Loop) = rec := by
    cases rec; simp at e5 e6; subst e5; subst e6; rfl
  have hlz : w.heap.size + 4 < (w1.setCell ⟨w.heap.size, 0, none⟩ v').heap.size := (Array.getElem?_eq_some_iff.1 hl3).1
  have hK4 : Kp ((w.heap.size + 4) :: w.heap.size :: v.ownBlock.toList) W ((w1.setCell ⟨w.heap.size, 0, none⟩ v').putObj (w.heap.size + 4) (.loop rec)) :=
    hK3.grown (grownBy_putObj' _ _ _) (fun k e => by cases e; exact .inl (by simp))
  have hb2 : w.heap.size + 4 < W.heap.size := (Array.getElem?_eq_some_iff.1 hJ.lp).1
  refine ⟨_, _, hend, rfl, ?_, ?_, ?_, ?_⟩
  · show TkJ w rec (pre ++ [x]) ((w1.setCell ⟨w.heap.size, 0, none⟩ v').putObj (w.heap.size + 4) (.loop { rec with state := (if (none : Option Code).isNone = true then LoopState.ready else LoopState.done), pending := none }))
    rw [hrec]
    refine ⟨⟨v', (World.putObj_heap_other (by omega)).trans hb3, ?_⟩, ?_, World.putObj_heap_same hlz, ?_⟩
    · have := ownsRow_putObj hr3 (.loop rec) hl3 rfl
      rw [List.length_append, List.flatMap_append]
      simpa using this
    · exact hK4.heap hJ.dfr (fun hm => by rcases hS _ hm with h | h | h <;> omega)
    · exact hJ.bel.trans ⟨hK4.os, hK4.tape, hK4.output, hK4.size, fun i hi => hK4.block i (by have := hJ.bel.size; omega) (fun hm => by rcases hS _ hm with h | h | h <;> omega)⟩
  · show ((w1.setCell ⟨w.heap.size, 0, none⟩ v').putObj (w.heap.size + 4) (.loop { rec with state := (if (none : Option Code).isNone = true then LoopState.ready else LoopState.done), pending := none })).heap[w.heap.size + 2]? = _
    rw [hrec]
    exact hK4.block _ (by omega) (fun hm => by rcases hS _ hm with h | h | h <;> omega)
  · show ((w1.setCell ⟨w.heap.size, 0, none⟩ v').putObj (w.heap.size + 4) (.loop { rec with state := (if (none : Option Code).isNone = true then LoopState.ready else LoopState.done), pending := none })).heap[w.heap.size + 1]? = _
    rw [hrec]
    exact hK4.block _ (by omega) (fun hm => by rcases hS _ hm with h | h | h <;> omega)
  · intro hA
    show Amb ((w1.setCell ⟨w.heap.size, 0, none⟩ v').putObj (w.heap.size + 4) (.loop { rec with state := (if (none : Option Code).isNone = true then LoopState.ready else LoopState.done), pending := none }))
    rw [hrec]
    exact hA.kp hK4 (fun i hm => by rcases hS _ hm with h | h | h <;> omega)

set_option maxRecDepth 100000 in
set_option maxHeartbeats 2000000 in
theorem tokens_main (s : ByteArray) (w : World) (hA : Amb w) (hs : s.size ≤ 8000) :
    Calls Tryd.prog 13 #[.string s] w (TokRes s w) := by
  refine (callsIn_wide (n := 0)).1 ?_
  refine callsIn_of_wp_marks Tryd.func13 rfl trivial ?_ rfl
  simp only [Tryd.ntmps13, List.size_toArray, List.length_cons, List.length_nil, Nat.reduceAdd, Nat.reduceSub, Array.replicate_succ, Array.replicate_zero, List.push_toArray, List.append_toArray, List.nil_append, List.cons_append]
  have hs1 : decide ((8000 : Int) < (s.size : Int)) = false := by simp; omega
  gi_wp2_with fail
  refine ⟨trivial, rfl, callsIn_wide.2 ((new_c s _).mono ?_)⟩
  rintro e w' ⟨rfl, rfl⟩
  gi_wp2_with fail
  obtain ⟨W0, hW0⟩ : ∃ W0, ((w.alloc (.cells #[.slice none 0 0] 23)).alloc (.map signsE 22)).alloc (.cells #[.string s, .int .i64 0, .map (some (w.heap.size + 1))] 55) = W0 := ⟨_, rfl⟩
  have z0 : W0.heap.size = w.heap.size + 3 := by rw [← hW0]; simp
  have hK0 : Kp [] w W0 := by rw [← hW0]; exact (((Kp.refl _ w).alloc _).alloc _).alloc _
  have hB0 : Blk W0 w.heap.size 23 #[.slice none 0 0] := by rw [← hW0]; exact ((Blk.new w _ _).alloc _).alloc _
  have hM0 : W0.heap[w.heap.size + 1]? = some (.map signsE 22) := by
    rw [← hW0]
    refine (Below.heap_alloc _ _ _ (by simp)).trans ?_
    have := World.alloc_heap_new (w.alloc (.cells #[.slice none 0 0] 23)) (.map signsE 22)
    simpa using this
  have hS0 : Scn W0 (w.heap.size + 2) s 0 (.map (some (w.heap.size + 1))) := by
    rw [← hW0]
    have := Blk.new ((w.alloc (.cells #[.slice none 0 0] 23)).alloc (.map signsE 22)) 55 #[.string s, .int .i64 0, .map (some (w.heap.size + 1))]
    simp only [World.size_alloc] at this
    exact this
  rw [hW0]
  have hA0 := hA.kp0 hK0
  have hlo := hA.lo
  refine rangeFunc_all (gf := 33) (bd := #[.pointer (some ⟨w.heap.size + 2, 0, none⟩)]) rfl (enters_of Tryd.func33 (by kernel_rfl) rfl)
    (fun W' => ∃ rec, TkJ w rec (toksL s.data.toList).1 W' ∧ Scn W' (w.heap.size + 2) s (toksL s.data.toList).2 (.map (some (w.heap.size + 1)))) ?call ?done
  case call =>
    intro fn rec hrec
    have e1 := congrArg Loop.assign hrec
    have e2 := congrArg Loop.body hrec
    have e3 := congrArg Loop.tmps hrec
    have e4 := congrArg Loop.params hrec
    have e5 := congrArg Loop.state hrec
    have e6 := congrArg Loop.pending hrec
    dsimp only at e1 e2 e3 e4 e5 e6
    clear hrec
    have hJ0 : TkJ w rec [] ((W0.alloc (.deferred (some []))).alloc (.loop rec)) := by
      refine ⟨⟨_, (hB0.alloc _).alloc _, World.ownsRow_nil _ _ _ _⟩, ?_, ?_, ?_⟩
      · rw [← z0]; exact (Below.heap_alloc _ _ _ (by simp)).trans (World.alloc_heap_new W0 _)
      · have := World.alloc_heap_new (W0.alloc (.deferred (some []))) (.loop rec)
        rw [World.size_alloc, z0] at this
        exact this
      · exact (((Kp.any hK0 (S := [])).alloc _).alloc _).below
    refine (tokens_it s (w.heap.size + 2) (w.heap.size + 1) (W0.heap.size + 1) _ hs ?s0 ?m0 ?a0 (by omega) (by omega) (TkJ w rec) (fun xs A B h k => h.kp k) hJ0 ?round).mono ?post
    case s0 => exact Blk.alloc (Blk.alloc hS0 _) _
    case m0 => exact (((Kp.refl [] W0).alloc _).alloc _).heap hM0 (by simp)
    case a0 => exact hA0.kp0 (((Kp.refl [] W0).alloc _).alloc _)
    case post =>
      rintro e W' ⟨he, hJ, hS⟩
      exact ⟨he, by rw [z0]; exact hJ.lp, rec, hJ, hS⟩
    case round =>
      intro pre x W hJ hlen hS
      refine yield_round (by rw [z0]; exact hJ.lp) (by rw [e4]; rfl) ?_
      rw [e1, e2, e3, e4]
      clear e1 e2 e3 e4
      simp only [tokV]
      gi_wp2_with fail
      obtain ⟨v, hb, hr⟩ := hJ.box
      have hl := hJ.lp
      rw [z0]
      have hz : w.heap.size + 3 + 1 = w.heap.size + 4 := rfl
      rw [hz]
      have hbz : w.heap.size + 4 < W.heap.size := (Array.getElem?_eq_some_iff.1 hl).1
      obtain ⟨W1, hW1⟩ : ∃ W1, W.alloc (.cells #[.int .i64 x.kind, .string x.text, .int .i64 x.at_] 46) = W1 := ⟨_, rfl⟩
      have hl1 : W1.heap[w.heap.size + 4]? = some (.loop rec) := by rw [← hW1]; exact (Below.heap_alloc _ _ _ hbz).trans hl
      have s1 : W1.heap.size = W.heap.size + 1 := by rw [← hW1]; simp
      rw [hW1]
      refine ⟨_, run_beginRound hl1 e5, ?_⟩
      obtain ⟨W2, hW2⟩ : ∃ W2, W1.putObj (w.heap.size + 4) (.loop { rec with state := .busy }) = W2 := ⟨_, rfl⟩
      rw [hW2]
      have s2 : W2.heap.size = W.heap.size + 1 := by rw [← hW2, ← s1]; simp [World.putObj]
      have hl2 : W2.heap[w.heap.size + 4]? = some (.loop { rec with state := .busy }) := by rw [← hW2]; exact World.putObj_heap_same (by omega)
      have hX2 : Blk W2 W.heap.size 46 #[.int .i64 x.kind, .string x.text, .int .i64 x.at_] := by
        rw [← hW2, ← hW1]; exact (World.putObj_heap_other (by omega)).trans (Blk.new W _ _)
      have hB2 : Boxed W2 w.heap.size 23 v := by
        rw [← hW2, ← hW1]; exact (World.putObj_heap_other (by omega)).trans (hb.alloc _)
      have hR2 : W2.ownsRow (w.heap.size + 5) 46 3 v pre.length (pre.flatMap tokC) := by
        rw [← hW2, ← hW1] at *; exact ownsRow_putObj (hr.alloc _) _ hl1 rfl
      have hK2 : Kp [w.heap.size + 4] W W2 := by
        rw [← hW2, ← hW1]; exact ((Kp.refl _ W).alloc _).grown (grownBy_putObj' _ _ _) (fun k e => by cases e; simp)
      clear hW2 hW1 hl1 s1
      have cx0 := hX2.cell 0 rfl
      have cx1 := hX2.cell 1 rfl
      have cx2 := hX2.cell 2 rfl
      have cb := Blk.cell hB2 0 rfl
      obtain ⟨i0, hi, hz0, hz1, hz2⟩ := info_parts Tryd.infoTok
      have hnew : Hid (∀ j u, (tokC x)[j]? = some u → (W2.alloc (.cells #[.int .i64 x.kind, .string x.text, .int .i64 x.at_] 46)).cell? ((⟨W.heap.size + 1, 0, none⟩ : Addr).add j) = some u) := by
        rw [← s2]
        intro j u hj
        have hbk := Blk.new W2 46 #[.int .i64 x.kind, .string x.text, .int .i64 x.at_]
        match j, hj with
        | 0, hj => exact hbk.cell 0 hj
        | 1, hj => exact hbk.cell 1 hj
        | 2, hj => exact hbk.cell 2 hj
        | j + 3, hj => simp [tokC] at hj
      have hone : Hid (∀ u ∈ tokC x, u.oneCell' = true) := by
        show ∀ u ∈ tokC x, u.oneCell' = true
        simp [tokC, Value.oneCell']
      have s2 := Lib.hid s2
      have z0 := Lib.hid z0
      have hRa := Lib.hid (hR2.alloc (.cells #[.int .i64 x.kind, .string x.text, .int .i64 x.at_] 46))
      have hbs : Hid (w.heap.size + 5 ≤ (W2.alloc (.cells #[.int .i64 x.kind, .string x.text, .int .i64 x.at_] 46)).heap.size) := by
        show _ ≤ _
        rw [World.size_alloc, s2.out]; omega
      gi_wp2_with (gi_at_builtin; refine wpListIn_append_own _ rfl _ _ 23 rfl (w.heap.size + 5) 46 i0 _ 3 32 Tryd.underlying23 hi hz0 hz1 hz2 rfl (by decide) _ _ _ rfl hRa.out ⟨W.heap.size + 1, 0, none⟩ 1 1 (tokC x) rfl rfl hnew.out hone.out (by unfold maxLen; omega) (by omega) hbs.out ?_; intro v' w1 hown' hgrow _; obtain ⟨g', cap', rfl⟩ := ownsRow_succ hown'; have hv1 := (hB2.alloc _).kept hgrow (hB2.not_row (by decide) hR2); have hc1 := hv1.cell; have hf1 := hv1.frozen)
      exact TkJ.round hlo hJ e5 e6 hl2 hB2 hR2 hK2 hown' hgrow
  case done =>
    rintro rec W' hl ⟨rec', hJ, hS⟩
    obtain ⟨tv, hb, hr⟩ := hJ.box
    obtain ⟨W2, hW2⟩ : ∃ W2, W'.putObj (W0.heap.size + 1) (.loop { rec with state := .exhausted }) = W2 := ⟨_, rfl⟩
    have hB2 : Blk W2 w.heap.size 23 #[tv] := by rw [← hW2]; exact (World.putObj_heap_other (by omega)).trans hb
    have hS2 : Scn W2 (w.heap.size + 1 + 1) s (toksL s.data.toList).2 (.map (some (w.heap.size + 1))) := by rw [← hW2]; exact (World.putObj_heap_other (by omega)).trans hS
    have hR2 : W2.ownsRow (w.heap.size + 5) 46 3 tv (toksL s.data.toList).1.length ((toksL s.data.toList).1.flatMap tokC) := by rw [← hW2]; exact ownsRow_putObj hr _ hl rfl
    have hD2 : W2.heap[w.heap.size + 3]? = some (.deferred (some [])) := by rw [← hW2]; exact (World.putObj_heap_other (by omega)).trans hJ.dfr
    have hBe : Below w.heap.size w W2 := by rw [← hW2]; exact hJ.bel.grown (grownBy_putObj' _ _ _) hJ.bel.size (fun k e => by cases e; omega)
    rw [hW2, z0]
    clear hW2 hW0 hb hS hr hl hJ hB0 hM0 hS0 hK0 hA0
    have z0 := Lib.hid z0
    have c1 := hS2.c1
    have cb := hB2.cell 0 rfl
    obtain ⟨at_, hat⟩ : ∃ a, (toksL s.data.toList).2 = a := ⟨_, rfl⟩
    rw [hat] at c1
    have hat := Lib.hid hat
    by_cases hlt : at_ < s.size
    · have hlt1 : decide ((at_ : Int) < (s.size : Int)) = true := by simp; omega
      gi_wp2_with fail
      refine wpIn_wide.2 ?_
      go_quiet (fail)
      gi_wp2_with fail
      refine ⟨by simp, .inl ⟨_, _, rfl, run_takeDeferred (by exact hD2), ?_⟩⟩
      refine ⟨_, results_tmp3 rfl _ _ _, ?_, .inl ⟨by rw [hat.out]; exact hlt, by rw [hat.out]; rfl⟩⟩
      exact Kp.of_below ((((Kp.of_below hBe).drewN nq).below).trans (belowK_b (w := w) (Nat.le_refl _) (W2.drewN nq) _ _ _ (by omega) hD2 rfl rfl))
    · have hlt1 : decide ((at_ : Int) < (s.size : Int)) = false := by simp; omega
      gi_wp2_with fail
      refine ⟨by simp, .inl ⟨_, _, rfl, run_takeDeferred (by exact hD2), ?_⟩⟩
      refine ⟨_, results_tmp3 rfl _ _ _, ?_, .inr ⟨by rw [hat.out]; exact hlt, tv, w.heap.size + 5, rfl, by omega, ownsRow_putObj hR2 _ hD2 rfl⟩⟩
      exact Kp.of_below (hBe.trans (belowK_b (w := w) (Nat.le_refl _) W2 _ _ _ (by omega) hD2 rfl rfl))
end Go.Proofs.YtbfmkehchddkoaaDoor
