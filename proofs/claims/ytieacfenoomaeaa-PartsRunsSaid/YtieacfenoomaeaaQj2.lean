import Derived.Test.YtieacfenoomaeaaQj1
set_option linter.unusedSimpArgs false
set_option linter.unusedVariables false
namespace Go.Proofs.Ytieacfenoomaeaa
open Go.RowKit Go.Shelf
attribute [local go_sem] Oper.semAt_some

/-- What the iterator reads: the boxes that it has captured. -/
structure Boxes (W : World) (PB IB TB g n K : Nat) (x : F6) (M : Nat) (pI pT : Option Addr) (cI cT : Nat) (vs : List (Value × List Int)) (ts : List Int) : Prop where
  part : Blk W PB 67 (partCells g n K x)
  inp : Blk W IB 42 #[.slice pI M cI]
  tim : Blk W TB 22 #[.slice pT M cT]
  ins : Ils W (.slice pI M cI) vs
  tis : Is W (.slice pT M cT) ts

set_option maxRecDepth 100000 in
set_option maxHeartbeats 4000000 in
theorem exec_it (l PB IB TB : Nat) (w : World) (g n K : Nat) (y c : Nat → F6) (M : Nat) (vs : List (Value × List Int)) (ts : List Int) (pI pT : Option Addr) (cI cT : Nat)
    (hM : vs.length = M) (hMT : ts.length = M) (hM9 : M ≤ 1000) (hMc : M ≤ cI) (hMd : M ≤ cT)
    (hK : ∀ args W, (callFunc K args).run Try.prog W = .ok (.enter K args) W)
    (hF : ∀ k, k < M → ∀ W, Calls Try.prog K #[(c k).v, .int .i64 (ts.getD k 0)] W (FrRes (y (k + 1)) W))
    (hc : ∀ k (h : k < vs.length), 0 < vs[k].2.length ∧ vs[k].2.length ≤ 6 ∧ (vs[k].2.map (Value.int .i64)) ++ (y k).cells.toList.drop vs[k].2.length = (c k).cells.toList)
    (J : Nat → World → Prop) (hJ : ∀ k A B, J k A → Kp [w.heap.size] A B → J k B)
    (hB : ∀ k W, J k W → Boxes W PB IB TB g n K (y 0) M pI pT cI cT vs ts) (h0 : J 0 w)
    (hY : ∀ k W, k < M → J k W → Blk W w.heap.size 65 (y (k + 1)).cells → YieldAt Fence.wide 0 Try.prog l #[(y (k + 1)).v] W fun e W' => e = .returned (.bool true) ∧ J (k + 1) W' ∧ W'.heap[w.heap.size]? = W.heap[w.heap.size]?) :
    CallsIn Fence.wide 0 Try.prog 66 #[.func (.yield l) #[] #[], .pointer (some ⟨PB, 0, none⟩), .pointer (some ⟨IB, 0, none⟩), .pointer (some ⟨TB, 0, none⟩)] w fun e W' => (∃ v, e = .returned v) ∧ J M W' := by
  have hx0 := hB 0 w h0
  have p1 := hx0.part
  obtain ⟨x, hx⟩ : ∃ x, y 0 = x := ⟨_, rfl⟩
  rw [hx] at p1
  obtain ⟨xa, xb, xc, xd, xe, xf⟩ := x
  unfold partCells at p1
  have a2 : w.cell? ⟨PB, 2, none⟩ = some (.int .i64 xa) := p1.cell 2 rfl
  have a3 : w.cell? ⟨PB, 3, none⟩ = some (.int .i64 xb) := p1.cell 3 rfl
  have a4 : w.cell? ⟨PB, 4, none⟩ = some (.int .i64 xc) := p1.cell 4 rfl
  have a5 : w.cell? ⟨PB, 5, none⟩ = some (.int .i64 xd) := p1.cell 5 rfl
  have a6 : w.cell? ⟨PB, 6, none⟩ = some (.int .i64 xe) := p1.cell 6 rfl
  have a7 : w.cell? ⟨PB, 7, none⟩ = some (.int .i64 xf) := p1.cell 7 rfl
  obtain ⟨b, hb⟩ : ∃ b, w.heap.size = b := ⟨_, rfl⟩
  have hb0 := Blk.new w 65 (frCells xa xb xc xd xe xf)
  have hk0 : Kp [b] w (w.alloc (.cells (frCells xa xb xc xd xe xf) 65)) := (Kp.refl _ w).alloc _
  obtain ⟨W0, hW0⟩ : ∃ W0, w.alloc (.cells (frCells xa xb xc xd xe xf) 65) = W0 := ⟨_, rfl⟩
  rw [hW0] at hb0 hk0
  rw [hb] at hb0 hJ hY
  have h0' := Lib.hid (hJ 0 _ _ h0 hk0)
  have hx1 := hB 0 W0 h0'.out
  unfold frCells at hW0
  have q0 : (w.alloc (.cells #[.int .i64 xa, .int .i64 xb, .int .i64 xc, .int .i64 xd, .int .i64 xe, .int .i64 xf] 65)).cell? ⟨IB, 0, none⟩ = some (.slice pI M cI) := hW0 ▸ hx1.inp.cell 0 rfl
  replace hW0 := Lib.hid hW0
  have hb0' : Hid (Blk W0 b 65 (y 0).cells) := by show Blk _ _ _ _; rw [hx]; exact hb0
  have hPB : Hid (PB ≠ b) := by show PB ≠ b; have := hx0.part.lt; omega
  have hTB : Hid (TB ≠ b) := by show TB ≠ b; have := hx0.tim.lt; omega
  have h00 := Lib.hid h0
  clear hb0 hk0 p1 hx0 hx1 h0
  replace hx := Lib.hid hx
  replace hJ := Lib.hid hJ
  replace hY := Lib.hid hY
  replace hB := Lib.hid hB
  replace hF := Lib.hid hF
  replace hc := Lib.hid hc
  replace hM := Lib.hid hM
  replace hMT := Lib.hid hMT
  refine callsIn_of_wp Try.func66 rfl trivial ?_ rfl
  simp only [Try.ntmps66, List.size_toArray, List.length_cons, List.length_nil, Nat.reduceAdd, Nat.reduceSub, Array.replicate_succ, Array.replicate_zero, List.push_toArray, List.append_toArray, List.nil_append, List.cons_append]
  have hmx : Try.prog.follows .mixedOrders = true := by kernel_rfl
  gi_wp2_with fail
  rw [hW0.out]
  replace hb := Lib.hid hb
  gi_loopw [12] (fun ix wr => ∃ k : Nat, k ≤ M ∧ ix = .int .i64 k ∧ Hid (J k wr) ∧ Hid (Blk wr b 65 (y k).cells)) (fun ix _ => M - (intOf ix).toNat)
  case atStart => exact ⟨0, Nat.zero_le _, rfl, h0'.out, hb0'.out⟩
  case round =>
    obtain ⟨k, hk, rfl, hJk, hbk⟩ := hrel
    by_cases hlt : k < M
    · have hx2 := hB.out k wr hJk.out
      have hlt2 : k < vs.length := by rw [hM.out]; exact hlt
      obtain ⟨bI, oI, q, cc, rfl, hcI, hIr, hcc1, hcc2⟩ := hx2.ins.at_ k hlt2
      obtain ⟨hr0, hr6, hce⟩ := hc.out k hlt2
      obtain ⟨row, hrow⟩ : ∃ x, vs[k].2 = x := ⟨_, rfl⟩
      rw [hrow] at hcI hIr hcc1 hr0 hr6 hce
      obtain ⟨R, hRl⟩ : ∃ x, row.length = x := ⟨_, rfl⟩
      rw [hRl] at hcI hIr hcc1 hr0 hr6 hce
      obtain ⟨br, off, rfl, -⟩ := hIr.at_ 0 (by omega)
      have hcp := fun ty => run_copy_row Try.prog wr 22 22 ty 3 b 0 6 6 ⟨br, off, none⟩ R cc (y k).cells 65 (row.map (Value.int .i64)) Try.underlying22 sizeInt hbk.out (by rw [List.length_map, hRl]; exact (Nat.min_eq_left hr6).symm) hIr.adds (by rw [List.length_map, hRl]; show 0 + R ≤ 6; omega) (by intro u hu; obtain ⟨x, _, rfl⟩ := List.mem_map.1 hu; rfl)
      rw [List.take_zero, List.nil_append, List.length_map, hRl, Nat.zero_add, hce, Array.toArray_toList] at hcp
      have hb1 : Blk (wr.setRow b (c k).cells) b 65 (c k).cells := setRow_heap wr b _ _ _ _ hbk.out
      have hk1 : Kp [b] wr (wr.setRow b (c k).cells) := kp_setRow b _
      obtain ⟨W1, hW1⟩ : ∃ W1, wr.setRow b (c k).cells = W1 := ⟨_, rfl⟩
      rw [hW1] at hcp hb1 hk1
      have hJ1 := hJ.out k _ _ hJk.out hk1
      have hx3 := hB.out k W1 hJ1
      obtain ⟨bt, ot, hpt, htc⟩ := hx3.tis.at_ k (by rw [hMT.out]; exact hlt)
      subst hpt
      have hcall := hF.out k hlt
      obtain ⟨t, ht⟩ : ∃ t, ts.getD k 0 = t := ⟨_, rfl⟩
      rw [ht] at htc hcall
      obtain ⟨ck, hck⟩ : ∃ x, c k = x := ⟨_, rfl⟩
      rw [hck] at hb1 hcall
      obtain ⟨yk, hyk⟩ : ∃ x, y (k + 1) = x := ⟨_, rfl⟩
      rw [hyk] at hcall
      obtain ⟨ya, yb, yc, yd, ye, yf⟩ := yk
      obtain ⟨ca, cb, cc', cd, ce, cf⟩ := ck
      unfold F6.cells frCells at hb1
      replace hcall : ∀ W, Calls Try.prog K #[.agg #[.int .i64 ca, .int .i64 cb, .int .i64 cc', .int .i64 cd, .int .i64 ce, .int .i64 cf], .int .i64 t] W fun r w' => r = .returned (.agg #[.int .i64 ya, .int .i64 yb, .int .i64 yc, .int .i64 yd, .int .i64 ye, .int .i64 yf]) ∧ Kp [] W w' := hcall
      have g0 : W1.cell? ⟨b, 0, none⟩ = some (.int .i64 ca) := hb1.cell 0 rfl
      have g1 : W1.cell? ⟨b, 1, none⟩ = some (.int .i64 cb) := hb1.cell 1 rfl
      have g2 : W1.cell? ⟨b, 2, none⟩ = some (.int .i64 cc') := hb1.cell 2 rfl
      have g3 : W1.cell? ⟨b, 3, none⟩ = some (.int .i64 cd) := hb1.cell 3 rfl
      have g4 : W1.cell? ⟨b, 4, none⟩ = some (.int .i64 ce) := hb1.cell 4 rfl
      have g5 : W1.cell? ⟨b, 5, none⟩ = some (.int .i64 cf) := hb1.cell 5 rfl
      have hp3 := hx3.part
      rw [hx.out] at hp3
      have m1 : W1.cell? ⟨PB, 1, none⟩ = some (.func (.func K) #[] #[]) := hp3.cell 1 rfl
      have m3 : W1.cell? ⟨TB, 0, none⟩ = some (.slice (some ⟨bt, ot, none⟩) M cT) := hx3.tim.cell 0 rfl
      have hbt : bt ≠ b := by
        obtain ⟨b9, o9, e9, h9⟩ := (hB.out 0 w h00.out).tis.at_ k (by rw [hMT.out]; exact hlt)
        simp at e9
        obtain ⟨rfl, rfl⟩ := e9
        have := World.block_lt_of_cell? w _ h9
        rw [hb.out] at this
        simp only at this
        omega
      replace hbt := Lib.hid hbt
      clear hp3 hx3 hx2 hIr hW1 hk1 hce
      replace hcall := Lib.hid hcall
      replace hrow := Lib.hid hrow
      replace hRl := Lib.hid hRl
      replace ht := Lib.hid ht
      replace hck := Lib.hid hck
      replace hyk := Lib.hid hyk
      replace hJ1 := Lib.hid hJ1
      replace hb1 := Lib.hid hb1
      gi_wp2_with fail
      refine wpIn_wide.2 ?_
      refine wp_region_held_drew (S := fun w' => w'.cell? ⟨PB, 1, none⟩ = some (.func (.func K) #[] #[]) ∧ w'.cell? ⟨TB, 0, none⟩ = some (.slice (some ⟨bt, ot, none⟩) M cT) ∧ w'.cell? ⟨bt, ot + k, none⟩ = some (.int .i64 t)) (by assumption) ?_ ?_
      · exact ⟨m1, m3, htc⟩
      intro hS0
      refine wpAnyH_take (i := 0) (v := ?vv0) rfl (by kernel_rfl) (by kernel_rfl) (by kernel_rfl) (fun _ _ _ h => h) (Or.inl ⟨by kernel_rfl, ?hy0⟩) (by assumption) ?rest0
      case hy0 => (intro w hSw; (try dsimp only at hSw); go_simp; try with_reducible rfl)
      try simp only [Act.put, List.setIfInBounds_toArray, List.set_cons_zero, List.set_cons_succ]
      refine wpAnyH_take (i := 1) (v := ?vv1) rfl (by kernel_rfl) (by kernel_rfl) (by kernel_rfl) (fun _ _ _ h => h) (Or.inl ⟨by kernel_rfl, ?hy1⟩) (by assumption) ?rest1
      case hy1 => (intro w hSw; (try dsimp only at hSw); go_simp; try with_reducible rfl)
      try simp only [Act.put, List.setIfInBounds_toArray, List.set_cons_zero, List.set_cons_succ]
      refine wpAnyH_take (i := 3) (v := ?vv3) rfl (by kernel_rfl) (by kernel_rfl) (by kernel_rfl) (fun _ _ _ h => h) (Or.inl ⟨by kernel_rfl, ?hy3⟩) (by assumption) ?rest3
      case hy3 => (intro w hSw; (try dsimp only at hSw); go_simp; try with_reducible rfl)
      try simp only [Act.put, List.setIfInBounds_toArray, List.set_cons_zero, List.set_cons_succ]
      refine wpAnyH_take (i := 4) (v := ?vv4) rfl (by kernel_rfl) (by kernel_rfl) (by kernel_rfl) (fun _ _ _ h => h) (Or.inl ⟨by kernel_rfl, ?hy4⟩) (by assumption) ?rest4
      case hy4 => (intro w hSw; (try dsimp only at hSw); go_simp; try with_reducible rfl)
      try simp only [Act.put, List.setIfInBounds_toArray, List.set_cons_zero, List.set_cons_succ]
      refine wpAnyH_take (i := 5) (v := ?vv5) rfl (by kernel_rfl) (by kernel_rfl) (by kernel_rfl) (fun _ _ _ h => h) (Or.inl ⟨by kernel_rfl, ?hy5⟩) (by assumption) ?rest5
      case hy5 => (intro w hSw; (try dsimp only at hSw); go_simp; try with_reducible rfl)
      try simp only [Act.put, List.setIfInBounds_toArray, List.set_cons_zero, List.set_cons_succ]
      refine wpAnyH_take (i := 6) (v := ?vv6) rfl (by kernel_rfl) (by kernel_rfl) (by kernel_rfl) (fun _ _ _ h => h) (Or.inl ⟨by kernel_rfl, ?hy6⟩) (by assumption) ?rest6
      case hy6 => (intro w hSw; (try dsimp only at hSw); go_simp; try with_reducible rfl)
      try simp only [Act.put, List.setIfInBounds_toArray, List.set_cons_zero, List.set_cons_succ]
      refine wpAnyH_ready (rs := [2]) (by kernel_rfl) (by simp) ?_
      refine AllReadyH.cons rfl (fun K hK => ?_) AllReadyH.nil
      go_simp
      refine hK.out _ _ hS0 (fun hHeld => ?_)
      try simp only [Act.put, List.setIfInBounds_toArray, List.set_cons_zero, List.set_cons_succ]
      refine wpAnyH_ready (rs := [7]) (by kernel_rfl) (by simp) ?_
      refine AllReadyH.cons rfl (fun K hK => ?_) AllReadyH.nil
      go_simp
      refine (hcall.out _).mono ?_
      rintro r w2 ⟨rfl, hk2⟩
      have hb2 : Blk w2 b 65 #[.int .i64 ca, .int .i64 cb, .int .i64 cc', .int .i64 cd, .int .i64 ce, .int .i64 cf] := hk2.heap hb1.out (by simp)
      have s0 : w2.cell? ⟨b, 0, none⟩ = some (.int .i64 ca) := hb2.cell 0 rfl
      have z0 := hb2.frozen 0
      have s1 : w2.cell? ⟨b, 1, none⟩ = some (.int .i64 cb) := hb2.cell 1 rfl
      have z1 := hb2.frozen 1
      have s2 : w2.cell? ⟨b, 2, none⟩ = some (.int .i64 cc') := hb2.cell 2 rfl
      have z2 := hb2.frozen 2
      have s3 : w2.cell? ⟨b, 3, none⟩ = some (.int .i64 cd) := hb2.cell 3 rfl
      have z3 := hb2.frozen 3
      have s4 : w2.cell? ⟨b, 4, none⟩ = some (.int .i64 ce) := hb2.cell 4 rfl
      have z4 := hb2.frozen 4
      have s5 : w2.cell? ⟨b, 5, none⟩ = some (.int .i64 cf) := hb2.cell 5 rfl
      have z5 := hb2.frozen 5
      have n1 := hk2.cell m1 (by simp)
      have n3 := hk2.cell m3 (by simp)
      have n4 := hk2.cell htc (by simp)
      go_wp2_with fail
      refine hK.out _ _ ?_ (fun hHeld2 => ?_)
      · exact ⟨n1, n3, n4⟩
      refine wpAnyH_ready (rs := [8]) (by kernel_rfl) (by simp) ?_
      refine AllReadyH.cons rfl (fun K hK => ?_) AllReadyH.nil
      go_simp
      have hJ2 := hJ.out k _ _ hJ1.out (show Kp [b] W1 w2 from ((Kp.refl [b] W1).drew).trans hk2.any)
      clear hcall hcp hJ1 hbk hJk hHeld hHeld2 hS0
      replace hJ2 := Lib.hid hJ2
      replace hb2 := Lib.hid hb2
      replace hk2 := Lib.hid hk2
      replace n1 := Lib.hid n1
      replace n3 := Lib.hid n3
      replace n4 := Lib.hid n4
      go_wp2_with fail
      have hb3 := (((((hb2.out.set 0 (.int .i64 ya)).set 1 (.int .i64 yb)).set 2 (.int .i64 yc)).set 3 (.int .i64 yd)).set 4 (.int .i64 ye)).set 5 (.int .i64 yf)
      have hk3 : Kp [b] w2 ((((((w2.setCell ⟨b, 0, none⟩ (.int .i64 ya)).setCell ⟨b, 1, none⟩ (.int .i64 yb)).setCell ⟨b, 2, none⟩ (.int .i64 yc)).setCell ⟨b, 3, none⟩ (.int .i64 yd)).setCell ⟨b, 4, none⟩ (.int .i64 ye)).setCell ⟨b, 5, none⟩ (.int .i64 yf)) := ((((((Kp.refl [b] w2).setCell (.inl (by simp)) _).setCell (.inl (by simp)) _).setCell (.inl (by simp)) _).setCell (.inl (by simp)) _).setCell (.inl (by simp)) _).setCell (.inl (by simp)) _
      obtain ⟨W4, hW4⟩ : ∃ W4, ((((((w2.setCell ⟨b, 0, none⟩ (.int .i64 ya)).setCell ⟨b, 1, none⟩ (.int .i64 yb)).setCell ⟨b, 2, none⟩ (.int .i64 yc)).setCell ⟨b, 3, none⟩ (.int .i64 yd)).setCell ⟨b, 4, none⟩ (.int .i64 ye)).setCell ⟨b, 5, none⟩ (.int .i64 yf)) = W4 := ⟨_, rfl⟩
      rw [hW4] at hb3 hk3 ⊢
      replace hb3 : Blk W4 b 65 #[.int .i64 ya, .int .i64 yb, .int .i64 yc, .int .i64 yd, .int .i64 ye, .int .i64 yf] := hb3
      refine hK.out _ _ ?_ (fun hHeld2 => ?_)
      · exact ⟨hk3.cell n1.out (by have := hPB.out; simpa using this), hk3.cell n3.out (by have := hTB.out; simpa using this), hk3.cell n4.out (by have := hbt.out; simpa using this)⟩
      refine wpAnyH_done (by kernel_rfl) ?_ _
      have hJ4 := hJ.out k _ _ hJ2.out hk3
      have t0 : W4.cell? ⟨b, 0, none⟩ = some (.int .i64 ya) := hb3.cell 0 rfl
      have t1 : W4.cell? ⟨b, 1, none⟩ = some (.int .i64 yb) := hb3.cell 1 rfl
      have t2 : W4.cell? ⟨b, 2, none⟩ = some (.int .i64 yc) := hb3.cell 2 rfl
      have t3 : W4.cell? ⟨b, 3, none⟩ = some (.int .i64 yd) := hb3.cell 3 rfl
      have t4 : W4.cell? ⟨b, 4, none⟩ = some (.int .i64 ye) := hb3.cell 4 rfl
      have t5 : W4.cell? ⟨b, 5, none⟩ = some (.int .i64 yf) := hb3.cell 5 rfl
      have hy9 := hY.out k W4 hlt hJ4 (by rw [hyk.out]; exact hb3)
      rw [hyk.out] at hy9
      unfold F6.v fr at hy9
      have hb4 := Lib.hid hb3
      clear hHeld2 hJ4 hb3 hk3 hW4 hK s0 s1 s2 s3 s4 s5 z0 z1 z2 z3 z4 z5 g0 g1 g2 g3 g4 g5 m1 m3 htc
      replace hy9 := Lib.hid hy9
      gi_wp2_with fail
      refine uponIn_yield rfl hy9.out ?_
      rintro e W5 ⟨rfl, hJ5, hb5⟩
      have hbk5 : Hid (Blk W5 b 65 (y (k + 1)).cells) := by show Blk _ _ _ _; rw [hyk.out]; exact hb5.trans hb4.out
      replace hJ5 := Lib.hid hJ5
      clear hb5
      gi_wp2_with fail
      go_roundw
      case rel => exact ⟨k + 1, by omega, by go_num, hJ5.out, hbk5.out⟩
      case measure => simp [intOf]; omega
    · obtain rfl : k = M := by omega
      gi_wp2_with fail
      go_end0
      exact ⟨⟨_, rfl⟩, hJk.out⟩
end Go.Proofs.Ytieacfenoomaeaa
