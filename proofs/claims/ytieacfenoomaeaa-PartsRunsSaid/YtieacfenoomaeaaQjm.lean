import Derived.Test.YtieacfenoomaeaaQj3
import Derived.Test.YtieacfenoomaeaaQj2
import Derived.Test.YtieacfenoomaeaaQim
set_option linter.unusedSimpArgs false
set_option linter.unusedVariables false
namespace Go.Proofs.Ytieacfenoomaeaa
open Go.RowKit Go.Shelf

set_option maxRecDepth 100000 in
set_option maxHeartbeats 1000000 in
theorem execs_c (W : World) (g n K : Nat) (xa xb xc xd xe xf : Int) (pI pT : Option Addr) (M cI cT : Nat) :
    Calls Try.prog 43 #[.agg #[.slice (some ⟨g, 0, none⟩) n n, .func (.func K) #[] #[], .int .i64 xa, .int .i64 xb, .int .i64 xc, .int .i64 xd, .int .i64 xe, .int .i64 xf], .slice pI M cI, .slice pT M cT] W fun r w' =>
      r = .returned (.func (.func 66) #[] #[.pointer (some ⟨W.heap.size, 0, none⟩), .pointer (some ⟨W.heap.size + 1, 0, none⟩), .pointer (some ⟨W.heap.size + 2, 0, none⟩)]) ∧
      w' = ((W.alloc (.cells #[.slice (some ⟨g, 0, none⟩) n n, .func (.func K) #[] #[], .int .i64 xa, .int .i64 xb, .int .i64 xc, .int .i64 xd, .int .i64 xe, .int .i64 xf] 67)).alloc (.cells #[.slice pI M cI] 42)).alloc (.cells #[.slice pT M cT] 22) := by
  go_enter Try.func43, Try.ntmps43
  go_wp2
  go_ret
  exact ⟨rfl, rfl⟩
end Go.Proofs.Ytieacfenoomaeaa

set_option linter.unusedSimpArgs false
set_option linter.unusedVariables false
namespace Go.Proofs.Ytieacfenoomaeaa
open Go.RowKit Go.Shelf

theorem infoSm : (Try.prog.info? 22).map (fun i => (i.zero, i.size, i.bytes)) = some (some (.slice none 0 0), 1, 24) := by kernel_rfl
theorem slc_one (p : Option Addr) (n c : Nat) : ∀ u ∈ [Value.slice p n c], u.oneCell' = true := by intro u hu; simp at hu; subst hu; rfl
theorem slc_cell (W : World) (u : Value) : ∀ j x, ([u] : List Value)[j]? = some x → (W.alloc (.cells #[u] 22)).cell? ((⟨W.heap.size, 0, none⟩ : Addr).add j) = some x := by
  intro j x hj
  have hb := Blk.new W 22 #[u]
  match j, hj with
  | 0, hj => exact hb.cell 0 hj
/-- Between two rounds of the loop in Run. -/
structure RnJ (w0 : World) (rec : Loop) (OB a8 a9 PB IB TB S g n K : Nat) (x : F6) (M : Nat) (pI pT : Option Addr) (cI cT : Nat) (vs : List (Value × List Int)) (ts : List Int) (IN IO : Nat) (zz : Nat → List Int) (k : Nat) (W : World) : Prop where
  box : ∃ v ps, Boxed W OB 42 v ∧ Rws W (S + 3) v ps ∧ ps.map Prod.snd = (List.range k).map zz
  beg : Blk W a8 3 #[.int .i64 IN]
  en : Blk W a9 3 #[.int .i64 IO]
  part : Blk W PB 67 (partCells g n K x)
  inp : Blk W IB 42 #[.slice pI M cI]
  tim : Blk W TB 22 #[.slice pT M cT]
  dfr : W.heap[S]? = some (.deferred (some []))
  lp : W.heap[S + 1]? = some (.loop rec)
  bel : Below w0.heap.size w0 W
/-- The boxes that lie ahead of the loop. -/
structure Ahead (w0 : World) (OB a8 a9 PB IB TB S : Nat) : Prop where
  ob : OB < S
  b8 : a8 < S
  b9 : a9 < S
  pb : PB < S
  ib : IB < S
  tb : TB < S
  le0 : w0.heap.size ≤ S
  o8 : OB ≠ a8
  o9 : OB ≠ a9
  op : OB ≠ PB
  oi : OB ≠ IB
  ot : OB ≠ TB
  o0 : w0.heap.size ≤ OB
theorem RnJ.kps {w0 : World} {rec : Loop} {OB a8 a9 PB IB TB S g n K : Nat} {x : F6} {M : Nat} {pI pT : Option Addr} {cI cT : Nat} {vs : List (Value × List Int)} {ts : List Int} {IN IO : Nat} {zz : Nat → List Int} {k : Nat} {A B : World}
    (h : RnJ w0 rec OB a8 a9 PB IB TB S g n K x M pI pT cI cT vs ts IN IO zz k A) (hA : Ahead w0 OB a8 a9 PB IB TB S) (kk : Kp [S + 2] A B) : RnJ w0 rec OB a8 a9 PB IB TB S g n K x M pI pT cI cT vs ts IN IO zz k B := by
  obtain ⟨v, ps, h1, h2, h3⟩ := h.box
  have a1 := hA.ob
  have a2 := hA.b8
  have a3 := hA.b9
  have a4 := hA.pb
  have a5 := hA.ib
  have a6 := hA.tb
  have a7 := hA.le0
  refine ⟨⟨v, ps, Blk.kp h1 kk (by simp; omega), h2.kps kk (by simp; omega), h3⟩, Blk.kp h.beg kk (by simp; omega), Blk.kp h.en kk (by simp; omega), Blk.kp h.part kk (by simp; omega), Blk.kp h.inp kk (by simp; omega), Blk.kp h.tim kk (by simp; omega), kk.heap h.dfr (by simp), kk.heap h.lp (by simp), ?_⟩
  exact h.bel.trans ⟨kk.os, kk.tape, kk.output, kk.size, fun i hi => kk.block i (Nat.lt_of_lt_of_le hi h.bel.size) (by simp; omega)⟩
theorem RnJ.boxes {w0 : World} {rec : Loop} {OB a8 a9 PB IB TB S g n K : Nat} {x : F6} {M : Nat} {pI pT : Option Addr} {cI cT : Nat} {vs : List (Value × List Int)} {ts : List Int} {IN IO : Nat} {zz : Nat → List Int} {k : Nat} {W : World}
    (h : RnJ w0 rec OB a8 a9 PB IB TB S g n K x M pI pT cI cT vs ts IN IO zz k W) (h1 : Ils w0 (.slice pI M cI) vs) (h2 : Is w0 (.slice pT M cT) ts) : Boxes W PB IB TB g n K x M pI pT cI cT vs ts :=
  ⟨h.part, h.inp, h.tim, h1.kp (Kp.of_below h.bel), h2.kp (Kp.of_below h.bel)⟩
/-- What one round does. W4: behind the clone; w1: behind the append. -/
theorem RnJ.round {w0 : World} {rec : Loop} {OB a8 a9 PB IB TB S g n K : Nat} {x : F6} {M : Nat} {pI pT : Option Addr} {cI cT : Nat} {vs : List (Value × List Int)} {ts : List Int} {IN IO : Nat} {zz : Nat → List Int} {k : Nat} {W W4 w1 : World} {u v v' : Value} {tmp : Obj} {ps : List (Value × List Int)} {a : Act} (m : Nat) (hS2 : S + 2 < W.heap.size)
    (hA : Ahead w0 OB a8 a9 PB IB TB S) (hJ : RnJ w0 rec OB a8 a9 PB IB TB S g n K x M pI pT cI cT vs ts IN IO zz k W) (e5 : rec.state = .ready) (e6 : rec.pending = none)
    (hK4 : Kp [S + 1] W W4) (hl4 : W4.heap[S + 1]? = some (.loop { rec with state := .busy })) (hB4 : Boxed W4 OB 42 v) (hR4 : Rws W4 (S + 3) v ps) (hps : ps.map Prod.snd = (List.range k).map zz)
    (hu : W4.ownsRow (S + 3) 3 1 u (zz k).length ((zz k).map (Value.int .i64)))
    (hown' : w1.ownsRow (S + 3) 22 1 v' (ps.length + 1) (ps.map Prod.fst ++ [u])) (hgrow : (W4.alloc tmp).grownBy w1 v.ownBlock) :
    roundPost Try.prog (S + 1) (fun e W' => e = .returned (.bool true) ∧ RnJ w0 rec OB a8 a9 PB IB TB S g n K x M pI pT cI cT vs ts IN IO zz (k + 1) W' ∧ W'.heap[S + 2]? = W.heap[S + 2]?)
      .normal a ((w1.setCell ⟨OB, 0, none⟩ v').drewN m) := by
  have a1 := hA.ob
  have a2 := hA.b8
  have a3 := hA.b9
  have a4 := hA.pb
  have a5 := hA.ib
  have a6 := hA.tb
  have a7 := hA.le0
  have b8 := hA.o8
  have b9 := hA.o9
  have bp := hA.op
  have bi := hA.oi
  have bt := hA.ot
  have b0 := hA.o0
  have hrow : ∀ k, v.ownBlock = some k → S + 3 ≤ k := fun k hk => (hR4.1.lt k hk).1
  have hv1 := (hB4.alloc tmp).kept hgrow (hB4.not_row (by decide) hR4.1)
  have hR5 := Rws.snoc (hR4.kp ((Kp.refl [] W4).alloc tmp)) (hu.alloc tmp) hown' hgrow
  have hR6 : Rws (w1.setCell ⟨OB, 0, none⟩ v') (S + 3) v' (ps ++ [(u, zz k)]) := hR5.kps (S := [OB]) ((Kp.refl _ w1).setCell (.inl (by simp)) _) (by simp; omega)
  have hb6 : Boxed (w1.setCell ⟨OB, 0, none⟩ v') OB 42 v' := hv1.set v'
  have hS : ∀ k, k ∈ (S + 1) :: OB :: v.ownBlock.toList → k = S + 1 ∨ k = OB ∨ S + 3 ≤ k := by
    intro k hk
    simp only [List.mem_cons, Option.mem_toList] at hk
    rcases hk with h | h | h
    · exact .inl h
    · exact .inr (.inl h)
    · exact .inr (.inr (hrow k h))
  have hK6 : Kp ((S + 1) :: OB :: v.ownBlock.toList) W ((w1.setCell ⟨OB, 0, none⟩ v').drewN m) := by
    refine ((((hK4.mono (by simp)).alloc tmp).grown hgrow (fun k hk => .inl (by simp [hk]))).setCell (.inl (by simp)) _).drewN m
  have hl6 : ((w1.setCell ⟨OB, 0, none⟩ v').drewN m).heap[S + 1]? = some (.loop { rec with state := .busy }) := by
    refine (Below.heap_setCell _ _ _ _ (by show S + 1 ≠ OB; omega)).trans ((hgrow.block _ ?_ ?_).trans ((Below.heap_alloc _ _ _ ?_).trans hl4))
    · have := (Array.getElem?_eq_some_iff.1 hl4).1; simp; omega
    · intro e; have := hrow _ e.symm; omega
    · exact (Array.getElem?_eq_some_iff.1 hl4).1
  have hend := run_endRound (P := Try.prog) none hl6
  have hrec : ({ rec with state := (if (none : Option Code).isNone = true then LoopState.ready else LoopState.done), pending := none } : Loop) = rec := by
    cases rec; simp at e5 e6; subst e5; subst e6; rfl
  have hlz : S + 1 < ((w1.setCell ⟨OB, 0, none⟩ v').drewN m).heap.size := (Array.getElem?_eq_some_iff.1 hl6).1
  have hK7 : Kp ((S + 1) :: OB :: v.ownBlock.toList) W (((w1.setCell ⟨OB, 0, none⟩ v').drewN m).putObj (S + 1) (.loop rec)) :=
    hK6.grown (grownBy_putObj' _ _ _) (fun k e => by cases e; exact .inl (by simp))
  have hn : ∀ k, k < S + 1 → k ≠ OB → k ∉ (S + 1) :: OB :: v.ownBlock.toList := fun k h1 h2 hm => by rcases hS _ hm with h | h | h <;> omega
  refine ⟨_, _, hend, rfl, ?_, ?_⟩
  · show RnJ w0 rec OB a8 a9 PB IB TB S g n K x M pI pT cI cT vs ts IN IO zz (k + 1) (((w1.setCell ⟨OB, 0, none⟩ v').drewN m).putObj (S + 1) (.loop { rec with state := (if (none : Option Code).isNone = true then LoopState.ready else LoopState.done), pending := none }))
    rw [hrec]
    refine ⟨⟨v', ps ++ [(u, zz k)], (World.putObj_heap_other (by omega)).trans hb6, ?_, ?_⟩, Blk.kp hJ.beg hK7 (hn _ (by omega) (by omega)), Blk.kp hJ.en hK7 (hn _ (by omega) (by omega)), Blk.kp hJ.part hK7 (hn _ (by omega) (by omega)), Blk.kp hJ.inp hK7 (hn _ (by omega) (by omega)), Blk.kp hJ.tim hK7 (hn _ (by omega) (by omega)), hK7.heap hJ.dfr (hn _ (by omega) (by omega)), World.putObj_heap_same hlz, ?_⟩
    · exact Rws.kps (S := [S + 1]) (show Rws ((w1.setCell ⟨OB, 0, none⟩ v').drewN m) _ _ _ from hR6.kp ((Kp.refl [] _).drewN m)) ((Kp.refl _ _).grown (grownBy_putObj' _ _ _) (fun k e => by cases e; exact .inl (by simp))) (by simp; omega)
    · rw [List.map_append, hps, List.range_succ, List.map_append]; rfl
    · exact hJ.bel.trans ⟨hK7.os, hK7.tape, hK7.output, hK7.size, fun i hi => hK7.block i (by have := hJ.bel.size; omega) (hn _ (by omega) (by omega))⟩
  · show (((w1.setCell ⟨OB, 0, none⟩ v').drewN m).putObj (S + 1) (.loop { rec with state := (if (none : Option Code).isNone = true then LoopState.ready else LoopState.done), pending := none })).heap[S + 2]? = _
    rw [hrec]
    exact hK7.block _ hS2 (fun hm => by rcases hS _ hm with h | h | h <;> omega)
end Go.Proofs.Ytieacfenoomaeaa

set_option linter.unusedSimpArgs false
set_option linter.unusedVariables false
namespace Go.Proofs.Ytieacfenoomaeaa
open Go.RowKit Go.Shelf

/-- The cells of a block, with the inputs of execution k laid over them. -/
def czs (i : Nat) (zs : List Int) (rs : List (List Int)) (ts : List Int) (k : Nat) : List Int := rs.getD k [] ++ (nxts i zs (rs.take k) ts).drop (rs.getD k []).length
theorem getD_rs {rs : List (List Int)} {k : Nat} (h : k < rs.length) : rs.getD k [] = rs[k] := by simp [List.getD_eq_getElem?_getD, h]
theorem nxts_at {i : Nat} (hi : i < 9) {zs : List Int} {rs : List (List Int)} {ts : List Int} (hv : areV (kin i) zs = true) (hr : ∀ r ∈ rs, areV (kinIn i) r = true) (hl : ts.length = rs.length) (ht : tmsB ts = true) (k : Nat) : areV (kin i) (nxts i zs (rs.take k) ts) = true := by
  refine nxts_kin hi hv (fun r h => hr r (List.mem_of_mem_take h)) (by rw [List.length_take]; omega) (fun t h => ?_)
  obtain ⟨j, hj, rfl⟩ := List.mem_iff_getElem.1 h
  have h2 := tms_isT ht hj
  simpa [List.getD_eq_getElem?_getD, hj] using h2
theorem czs_kin {i : Nat} (hi : i < 9) {zs : List Int} {rs : List (List Int)} {ts : List Int} (hv : areV (kin i) zs = true) (hr : ∀ r ∈ rs, areV (kinIn i) r = true) (hl : ts.length = rs.length) (ht : tmsB ts = true) {k : Nat} (hk : k < rs.length) : areV (kin i) (czs i zs rs ts k) = true := by
  unfold czs
  rw [getD_rs hk]
  exact over_kin hi (nxts_at hi hv hr hl ht k) (hr _ (List.getElem_mem hk))
theorem nxts_czs {i : Nat} {zs : List Int} {rs : List (List Int)} {ts : List Int} (hl : ts.length = rs.length) {k : Nat} (hk : k < rs.length) : nxts i zs (rs.take (k + 1)) ts = stp i (czs i zs rs ts k) (ts.getD k 0) := by
  rw [nxts_snoc i k rs zs ts hk (by omega)]
  unfold nxt czs
  rw [getD_rs hk]
theorem czs_over {i : Nat} (hi : i < 9) {zs : List Int} {rs : List (List Int)} {ts : List Int} (hv : areV (kin i) zs = true) (hr : ∀ r ∈ rs, areV (kinIn i) r = true) (hl : ts.length = rs.length) (ht : tmsB ts = true) {k : Nat} (hk : k < rs.length) :
    0 < rs[k].length ∧ rs[k].length ≤ 6 ∧ rs[k].map (Value.int .i64) ++ (f6 (nxts i zs (rs.take k) ts)).cells.toList.drop rs[k].length = (f6 (czs i zs rs ts k)).cells.toList := by
  have h1 := areV_len (hr _ (List.getElem_mem hk))
  rw [inN_len hi] at h1
  obtain ⟨h2, h3, h4, h5⟩ := inN_le hi
  have h6 := areV_len (nxts_at hi hv hr hl ht k)
  refine ⟨by omega, by omega, ?_⟩
  unfold czs
  rw [getD_rs hk]
  refine f6_over (by omega) ?_
  rw [← h6]
  exact kin_len hi
theorem run_czs {i K n : Nat} (hi : i < 9) {L : List (ByteArray × Int × Int)} (hP : Part i K n L) {zs : List Int} {rs : List (List Int)} {ts : List Int} (hv : areV (kin i) zs = true) (hr : ∀ r ∈ rs, areV (kinIn i) r = true) (hl : ts.length = rs.length) (ht : tmsB ts = true) {k : Nat} (hk : k < rs.length) (W : World) :
    Calls Try.prog K #[(f6 (czs i zs rs ts k)).v, .int .i64 (ts.getD k 0)] W (FrRes (f6 (nxts i zs (rs.take (k + 1)) ts)) W) := by
  have hc := czs_kin hi hv hr hl ht hk
  rw [nxts_czs hl hk, f6_stp hi hc]
  exact hP.run _ _ hc (tms_isT ht (by omega)) W
theorem outs_len {i : Nat} (hi : i < 9) {zs : List Int} {rs : List (List Int)} {ts : List Int} (hv : areV (kin i) zs = true) (hr : ∀ r ∈ rs, areV (kinIn i) r = true) (hl : ts.length = rs.length) (ht : tmsB ts = true) (k : Nat) :
    ((f6 (nxts i zs (rs.take k) ts)).list.drop (inN i)).take (ioN i - inN i) = outN i (nxts i zs (rs.take k) ts) ∧ (outN i (nxts i zs (rs.take k) ts)).length = ioN i - inN i := by
  have h := areV_len (nxts_at hi hv hr hl ht k)
  obtain ⟨h2, h3, h4, h5⟩ := inN_le hi
  refine ⟨out_frame hi h.symm, ?_⟩
  unfold outN
  rw [List.length_take, List.length_drop]
  omega
/-- All outputs. -/
theorem runR_range (i : Nat) (zs : List Int) (rs : List (List Int)) (ts : List Int) (hl : rs.length ≤ ts.length) : ∀ k, k ≤ rs.length → runR i zs (rs.take k) ts = (List.range k).map (fun k => outN i (nxts i zs (rs.take (k + 1)) ts))
  | 0, _ => rfl
  | k + 1, hk => by
    rw [runR_snoc i k rs zs ts (by omega) (by omega), runR_range i zs rs ts hl k (by omega), List.range_succ, List.map_append]
    rfl
theorem io_cases {i : Nat} (hi : i < 9) : (inN i = 2 ∧ ioN i = 4) ∨ (inN i = 3 ∧ ioN i = 5) ∨ (inN i = 2 ∧ ioN i = 3) ∨ (inN i = 1 ∧ ioN i = 2) := by
  rcases (show i = 0 ∨ i = 1 ∨ i = 2 ∨ i = 3 ∨ i = 4 ∨ i = 5 ∨ i = 6 ∨ i = 7 ∨ i = 8 by omega) with rfl | rfl | rfl | rfl | rfl | rfl | rfl | rfl | rfl <;> decide
end Go.Proofs.Ytieacfenoomaeaa
