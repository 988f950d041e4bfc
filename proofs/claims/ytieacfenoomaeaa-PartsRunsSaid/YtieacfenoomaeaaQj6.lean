import Derived.Test.YtieacfenoomaeaaQj5
import Derived.Test.YtieacfenoomaeaaQk1
set_option linter.unusedSimpArgs false
set_option linter.unusedVariables false
namespace Go.Proofs.Ytieacfenoomaeaa
open Go.RowKit Go.Shelf
attribute [local go_sem] Oper.semAt_some

set_option maxRecDepth 100000 in
set_option maxHeartbeats 4000000 in
theorem run_main (i K n : Nat) (hi : i < 9) (L : List (ByteArray × Int × Int)) (hP : Part i K n L) (nm : ByteArray) (hnm : nmb i = nm) (zs : List Int) (hv : areV (kin i) zs = true) (w : World) (v vI vT : Value) (hz : Is w v zs) (vs : List (Value × List Int)) (ts : List Int) (hI : Ils w vI vs) (hT : Is w vT ts) (hb : ts.length ≤ 1000)
    (hl : ts.length = vs.length) (ht : tmsB ts = true) (ha : (vs.all fun y => areV (kinIn i) y.2) = true) :
    Calls Try.prog 24 #[.string nm, v, vI, vT] w fun r w' => ∃ vo base ps, r = .returned (.tuple #[vo, .int .i64 0]) ∧ Rws w' base vo ps ∧ ps.map Prod.snd = runR i zs (vs.map Prod.snd) ts ∧ Kp [] w w' := by
  have hp := Lib.hid (hP.of zs hv)
  rw [hnm] at hp
  have htm := Lib.hid (fun W h => areTimes_c W vT ts h (by omega))
  have htk := Lib.hid (fun W g hL h => takes_c W g n K (f6 zs) L hL hP.len hP.le vI vs h)
  rw [hP.ins] at htk
  obtain ⟨p1, c1, rfl, h11, h12⟩ := hz.val
  obtain ⟨pI, cI, rfl, hI1, hI2⟩ := hI.val
  obtain ⟨pT, cT, rfl, hT1, hT2⟩ := hT.val
  obtain ⟨M, hM⟩ : ∃ M, vs.length = M := ⟨_, rfl⟩
  rw [hl] at hT1 hT htm ⊢
  rw [hM] at hI1 hI htk hT1 hT htm ⊢
  have hM9 : M ≤ 1000 := by omega
  obtain ⟨rs, hrs⟩ : ∃ rs, vs.map Prod.snd = rs := ⟨_, rfl⟩
  have hrl : Hid (rs.length = M) := by show _ = _; rw [← hrs, List.length_map, hM]
  have hrk : Hid (∀ k (h : k < vs.length) (h2 : k < rs.length), vs[k].2 = rs[k]) := fun k h h2 => by simp [← hrs]
  have hra : Hid (∀ r ∈ rs, areV (kinIn i) r = true) := by
    intro r hr
    rw [← hrs] at hr
    obtain ⟨y, hy, rfl⟩ := List.mem_map.1 hr
    exact List.all_eq_true.1 ha y hy
  rw [hrs]
  clear hrs
  obtain ⟨x, hx⟩ : ∃ x, f6 zs = x := ⟨_, rfl⟩
  rw [hx] at hp htk
  obtain ⟨xa, xb, xc, xd, xe, xf⟩ := x
  rw [ht] at htm
  rw [ha] at htk
  replace hl := Lib.hid (hl.trans hM)
  replace hz := Lib.hid hz
  replace hI := Lib.hid hI
  replace hT := Lib.hid hT
  replace hM := Lib.hid hM
  replace hx := Lib.hid hx
  replace hv := Lib.hid hv
  replace ht := Lib.hid ht
  replace ha := Lib.hid ha
  replace hP := Lib.hid hP
  clear hnm hb
  unfold partV at hp htk
  refine (callsIn_wide (n := 0)).1 ?_
  refine callsIn_of_wp_marks Try.func24 rfl trivial ?_ rfl
  simp only [Try.ntmps24, List.size_toArray, List.length_cons, List.length_nil, Nat.reduceAdd, Nat.reduceSub, Array.replicate_succ, Array.replicate_zero, List.push_toArray, List.append_toArray, List.nil_append, List.cons_append]
  have r1 : ((M : Int) != (M : Int)) = false := by simp
  gi_wp2_with fail
  refine ⟨trivial, rfl, callsIn_wide.2 ((hp.out _ _ hz.out).mono ?_)⟩
  rintro r w1 ⟨g, rfl, hV, hk1⟩
  have hB := Blk.new w1 67 #[.slice (some ⟨g, 0, none⟩) n n, .func (.func K) #[] #[], .int .i64 xa, .int .i64 xb, .int .i64 xc, .int .i64 xd, .int .i64 xe, .int .i64 xf]
  have hK1 := hk1.alloc (.cells #[.slice (some ⟨g, 0, none⟩) n n, .func (.func K) #[] #[], .int .i64 xa, .int .i64 xb, .int .i64 xc, .int .i64 xd, .int .i64 xe, .int .i64 xf] 67)
  have hV1 := hV.kp ((Kp.refl [] w1).alloc (.cells #[.slice (some ⟨g, 0, none⟩) n n, .func (.func K) #[] #[], .int .i64 xa, .int .i64 xb, .int .i64 xc, .int .i64 xd, .int .i64 xe, .int .i64 xf] 67))
  obtain ⟨W1, hW1⟩ : ∃ W1, w1.alloc (.cells #[.slice (some ⟨g, 0, none⟩) n n, .func (.func K) #[] #[], .int .i64 xa, .int .i64 xb, .int .i64 xc, .int .i64 xd, .int .i64 xe, .int .i64 xf] 67) = W1 := ⟨_, rfl⟩
  rw [hW1] at hB hK1 hV1
  obtain ⟨B, hBB⟩ : ∃ B, w1.heap.size = B := ⟨_, rfl⟩
  rw [hBB] at hB
  replace hW1 := Lib.hid hW1
  replace hk1 := Lib.hid hk1
  replace hB := Lib.hid hB
  replace hK1 := Lib.hid hK1
  replace hV1 := Lib.hid hV1
  clear hV
  gi_wp2_with fail
  rw [hW1.out]
  refine ⟨trivial, rfl, callsIn_wide.2 ((htm.out _ (hT.out.kp hK1.out)).mono ?_)⟩
  rintro r w2 ⟨rfl, hk2⟩
  have hB2 := hB.out.kp hk2 (by simp)
  have hK2 := Lib.hid (hK1.out.trans hk2)
  have hV2 := Lib.hid (hV1.out.kp hk2)
  have e0 : w2.cell? ⟨B, 0, none⟩ = some (.slice (some ⟨g, 0, none⟩) n n) := hB2.cell 0 rfl
  have e1 : w2.cell? ⟨B, 1, none⟩ = some (.func (.func K) #[] #[]) := hB2.cell 1 rfl
  have e2 : w2.cell? ⟨B, 2, none⟩ = some (.int .i64 xa) := hB2.cell 2 rfl
  have e3 : w2.cell? ⟨B, 3, none⟩ = some (.int .i64 xb) := hB2.cell 3 rfl
  have e4 : w2.cell? ⟨B, 4, none⟩ = some (.int .i64 xc) := hB2.cell 4 rfl
  have e5 : w2.cell? ⟨B, 5, none⟩ = some (.int .i64 xd) := hB2.cell 5 rfl
  have e6 : w2.cell? ⟨B, 6, none⟩ = some (.int .i64 xe) := hB2.cell 6 rfl
  have e7 : w2.cell? ⟨B, 7, none⟩ = some (.int .i64 xf) := hB2.cell 7 rfl
  replace hB2 := Lib.hid hB2
  clear hk2 hB hK1 hV1
  gi_wp2_with fail
  refine ⟨trivial, rfl, callsIn_wide.2 ((htk.out _ g hV2.out (hI.out.kp hK2.out)).mono ?_)⟩
  rintro r w3 ⟨rfl, hk3⟩
  have hB3 := Lib.hid (hB2.out.kp hk3 (by simp))
  have hK3 := Lib.hid (hK2.out.trans hk3)
  have hV3 := Lib.hid (hV2.out.kp hk3)
  clear hk3 e0 e1 e2 e3 e4 e5 e6 e7 hB2 hK2 hV2 htm htk hp
  obtain ⟨IN, hIN⟩ : ∃ x, inN i = x := ⟨_, rfl⟩
  obtain ⟨IO, hIO⟩ : ∃ x, ioN i = x := ⟨_, rfl⟩
  have hk2 : Hid (∀ W, Kp [] w3 W → ∀ a, Blk W a 3 #[.int .i64 1] → Calls Try.prog 42 #[.agg #[.slice (some ⟨g, 0, none⟩) n n, .func (.func K) #[] #[], .int .i64 xa, .int .i64 xb, .int .i64 xc, .int .i64 xd, .int .i64 xe, .int .i64 xf], .slice (some ⟨a, 0, none⟩) 1 1] W fun r w' => ∃ q d, r = .returned (.slice q IN d) ∧ Kp [] W w') := by
    intro W k a hbl
    refine (kinds_c W g n K ⟨xa, xb, xc, xd, xe, xf⟩ L (hV3.out.kp k) hP.out.len hP.out.le _ [1] (is_lit (n := 1) (zs := [1]) hbl rfl (by omega) rfl)).mono ?_
    rintro r w' ⟨v', rfl, h1, h2⟩
    obtain ⟨q, d, e1, -, -⟩ := h1.val
    rw [hP.out.ins, inN_len hi, hIN] at e1
    exact ⟨q, d, by rw [e1], h2⟩
  have hk6 : Hid (∀ W, Kp [] w3 W → ∀ a, Blk W a 3 #[.int .i64 1, .int .i64 2] → Calls Try.prog 42 #[.agg #[.slice (some ⟨g, 0, none⟩) n n, .func (.func K) #[] #[], .int .i64 xa, .int .i64 xb, .int .i64 xc, .int .i64 xd, .int .i64 xe, .int .i64 xf], .slice (some ⟨a, 0, none⟩) 2 2] W fun r w' => ∃ q d, r = .returned (.slice q IO d) ∧ Kp [] W w') := by
    intro W k a hbl
    refine (kinds_c W g n K ⟨xa, xb, xc, xd, xe, xf⟩ L (hV3.out.kp k) hP.out.len hP.out.le _ [1, 2] (is_lit (n := 2) (zs := [1, 2]) hbl rfl (by omega) rfl)).mono ?_
    rintro r w' ⟨v', rfl, h1, h2⟩
    obtain ⟨q, d, e1, -, -⟩ := h1.val
    rw [hP.out.io, hIO] at e1
    exact ⟨q, d, by rw [e1], h2⟩
  replace hIN := Lib.hid hIN
  replace hIO := Lib.hid hIO
  have hBl : B < w3.heap.size := hB3.out.lt
  gi_wp2_with fail
  refine wpIn_wide.2 ?_
  refine Code.wp_mono (Q := QN _) (by rintro _ a w ⟨rfl, h⟩; exact h) ?_
  refine wp_region_held_drew (S := SB w3 B g n K xa xb xc xd xe xf) (by kernel_rfl) ⟨(Kp.refl [] w3).drew, hB3.out⟩ ?_
  intro hS0
  refine wpAnyH_take (i := 0) (v := ?vv0) rfl (by kernel_rfl) (by kernel_rfl) (by kernel_rfl) (fun _ _ _ h => by cases h.1) (Or.inl ⟨by kernel_rfl, ?hy0⟩) hS0 ?rest0
  case hy0 =>
    intro w hSw
    have c0 : w.cell? ⟨B, 0, none⟩ = some (.slice (some ⟨g, 0, none⟩) n n) := hSw.2.cell 0 rfl
    have c1 : w.cell? ⟨B, 1, none⟩ = some (.func (.func K) #[] #[]) := hSw.2.cell 1 rfl
    have c2 : w.cell? ⟨B, 2, none⟩ = some (.int .i64 xa) := hSw.2.cell 2 rfl
    have c3 : w.cell? ⟨B, 3, none⟩ = some (.int .i64 xb) := hSw.2.cell 3 rfl
    have c4 : w.cell? ⟨B, 4, none⟩ = some (.int .i64 xc) := hSw.2.cell 4 rfl
    have c5 : w.cell? ⟨B, 5, none⟩ = some (.int .i64 xd) := hSw.2.cell 5 rfl
    have c6 : w.cell? ⟨B, 6, none⟩ = some (.int .i64 xe) := hSw.2.cell 6 rfl
    have c7 : w.cell? ⟨B, 7, none⟩ = some (.int .i64 xf) := hSw.2.cell 7 rfl
    go_simp
    try with_reducible rfl
  try simp only [Act.put, List.setIfInBounds_toArray, List.set_cons_zero, List.set_cons_succ]
  refine wpAnyH_take (i := 4) (v := ?vv4) rfl (by kernel_rfl) (by kernel_rfl) (by kernel_rfl) (fun _ _ _ h => by cases h.1) (Or.inl ⟨by kernel_rfl, ?hy4⟩) hS0 ?rest4
  case hy4 =>
    intro w hSw
    have c0 : w.cell? ⟨B, 0, none⟩ = some (.slice (some ⟨g, 0, none⟩) n n) := hSw.2.cell 0 rfl
    have c1 : w.cell? ⟨B, 1, none⟩ = some (.func (.func K) #[] #[]) := hSw.2.cell 1 rfl
    have c2 : w.cell? ⟨B, 2, none⟩ = some (.int .i64 xa) := hSw.2.cell 2 rfl
    have c3 : w.cell? ⟨B, 3, none⟩ = some (.int .i64 xb) := hSw.2.cell 3 rfl
    have c4 : w.cell? ⟨B, 4, none⟩ = some (.int .i64 xc) := hSw.2.cell 4 rfl
    have c5 : w.cell? ⟨B, 5, none⟩ = some (.int .i64 xd) := hSw.2.cell 5 rfl
    have c6 : w.cell? ⟨B, 6, none⟩ = some (.int .i64 xe) := hSw.2.cell 6 rfl
    have c7 : w.cell? ⟨B, 7, none⟩ = some (.int .i64 xf) := hSw.2.cell 7 rfl
    go_simp
    try with_reducible rfl
  try simp only [Act.put, List.setIfInBounds_toArray, List.set_cons_zero, List.set_cons_succ]
  refine lat6 (IN := IN) (IO := IO) ?_ ?_ ?_ ?_ ?_ ?_ ?_ ?_ ?_ ?_ ?_ ?_ ?_ ?_ ?_ ?_ ?_ ?_ ?_ ?_ ?_ ?_ ?_ ?_ ?_ ?_ ?_ ?_ hS0
  · intro kCl125689x a1 q1 d1 a5 a8 a9 w hS b5 b8 l8 b9 l9 ne
    refine wpAnyH_ready (rs := [6]) (by kernel_rfl) (by simp) ?_
    refine AllReadyH.cons rfl (fun K hK => ?_) ?_
    · go_simp
      refine (hk6.out w hS.1 a5 b5).mono ?_
      rintro r w2 ⟨q2, d2, rfl, hkk⟩
      go_wp2_with fail
      refine hK.out _ _ (hS.kp hkk) (fun _ => ?_)
      try simp only [Act.put, List.setIfInBounds_toArray, List.set_cons_zero, List.set_cons_succ]
      refine wpAnyH_take (i := 7) (v := ?vv11) rfl (by kernel_rfl) (by kernel_rfl) (by kernel_rfl) (fun _ _ _ h => by cases h.1) (Or.inl ⟨by kernel_rfl, ?hy11⟩) (hS.kp hkk) ?rest11
      case hy11 => (intro w hSw; go_simp; try with_reducible rfl)
      try simp only [Act.put, List.setIfInBounds_toArray, List.set_cons_zero, List.set_cons_succ]
      exact kCl125689x a1 q1 d1 a5 q2 d2 a8 a9 _ (hS.kp hkk) (b8.kp hkk (by simp)) l8 (b9.kp hkk (by simp)) l9 ne
    exact AllReadyH.nil
  · intro kCl125689x a1 q1 d1 a5 q2 d2 a9 w hS b9 l9
    refine wpAnyH_ready (rs := [8]) (by kernel_rfl) (by simp) ?_
    refine AllReadyH.cons rfl (fun K hK => ?_) ?_
    · go_simp
      refine hK.out _ _ (hS.alloc _) (fun _ => ?_)
      try simp only [Act.put, List.setIfInBounds_toArray, List.set_cons_zero, List.set_cons_succ]
      exact kCl125689x a1 q1 d1 a5 q2 d2 _ a9 _ (hS.alloc _) (Blk.new w _ _) hS.1.size (b9.alloc _) l9 (by have := b9.lt; omega)
    exact AllReadyH.nil
  · intro kCl125689x a1 q1 d1 a5 q2 d2 a8 w hS b8 l8
    refine wpAnyH_ready (rs := [9]) (by kernel_rfl) (by simp) ?_
    refine AllReadyH.cons rfl (fun K hK => ?_) ?_
    · go_simp
      refine hK.out _ _ (hS.alloc _) (fun _ => ?_)
      try simp only [Act.put, List.setIfInBounds_toArray, List.set_cons_zero, List.set_cons_succ]
      exact kCl125689x a1 q1 d1 a5 q2 d2 a8 _ _ (hS.alloc _) (b8.alloc _) l8 (Blk.new w _ _) hS.1.size (by have := b8.lt; omega)
    exact AllReadyH.nil
  · intro kCl12589x a1 a5 a8 a9 w hS b1 b5 b8 l8 b9 l9 ne
    refine wpAnyH_ready (rs := [2]) (by kernel_rfl) (by simp) ?_
    refine AllReadyH.cons rfl (fun K hK => ?_) ?_
    · go_simp
      refine (hk2.out w hS.1 a1 b1).mono ?_
      rintro r w2 ⟨q1, d1, rfl, hkk⟩
      go_wp2_with fail
      refine hK.out _ _ (hS.kp hkk) (fun _ => ?_)
      try simp only [Act.put, List.setIfInBounds_toArray, List.set_cons_zero, List.set_cons_succ]
      refine wpAnyH_take (i := 3) (v := ?vv14) rfl (by kernel_rfl) (by kernel_rfl) (by kernel_rfl) (fun _ _ _ h => by cases h.1) (Or.inl ⟨by kernel_rfl, ?hy14⟩) (hS.kp hkk) ?rest14
      case hy14 => (intro w hSw; go_simp; try with_reducible rfl)
      try simp only [Act.put, List.setIfInBounds_toArray, List.set_cons_zero, List.set_cons_succ]
      exact kCl12589x a1 q1 d1 a5 a8 a9 _ (hS.kp hkk) (b5.kp hkk (by simp)) (b8.kp hkk (by simp)) l8 (b9.kp hkk (by simp)) l9 ne
    exact AllReadyH.nil
  · intro kCl12589x a1 q1 d1 a8 a9 w hS b8 l8 b9 l9 ne
    refine wpAnyH_ready (rs := [5]) (by kernel_rfl) (by simp) ?_
    refine AllReadyH.cons rfl (fun K hK => ?_) ?_
    · go_simp
      refine hK.out _ _ (hS.alloc _) (fun _ => ?_)
      try simp only [Act.put, List.setIfInBounds_toArray, List.set_cons_zero, List.set_cons_succ]
      exact kCl12589x a1 q1 d1 _ a8 a9 _ (hS.alloc _) (Blk.new w _ _) (b8.alloc _) l8 (b9.alloc _) l9 (by have := b8.lt; omega)
    exact AllReadyH.nil
  · intro kCl12569x kCl12589x a1 q1 d1 a5 a9 w hS b5 b9 l9
    refine wpAnyH_ready (rs := [6, 8]) (by kernel_rfl) (by simp) ?_
    refine AllReadyH.cons rfl (fun K hK => ?_) ?_
    · go_simp
      refine (hk6.out w hS.1 a5 b5).mono ?_
      rintro r w2 ⟨q2, d2, rfl, hkk⟩
      go_wp2_with fail
      refine hK.out _ _ (hS.kp hkk) (fun _ => ?_)
      try simp only [Act.put, List.setIfInBounds_toArray, List.set_cons_zero, List.set_cons_succ]
      refine wpAnyH_take (i := 7) (v := ?vv16) rfl (by kernel_rfl) (by kernel_rfl) (by kernel_rfl) (fun _ _ _ h => by cases h.1) (Or.inl ⟨by kernel_rfl, ?hy16⟩) (hS.kp hkk) ?rest16
      case hy16 => (intro w hSw; go_simp; try with_reducible rfl)
      try simp only [Act.put, List.setIfInBounds_toArray, List.set_cons_zero, List.set_cons_succ]
      exact kCl12569x a1 q1 d1 a5 q2 d2 a9 _ (hS.kp hkk) (b9.kp hkk (by simp)) l9
    refine AllReadyH.cons rfl (fun K hK => ?_) ?_
    · go_simp
      refine hK.out _ _ (hS.alloc _) (fun _ => ?_)
      try simp only [Act.put, List.setIfInBounds_toArray, List.set_cons_zero, List.set_cons_succ]
      exact kCl12589x a1 q1 d1 a5 _ a9 _ (hS.alloc _) (b5.alloc _) (Blk.new w _ _) hS.1.size (b9.alloc _) l9 (by have := b9.lt; omega)
    exact AllReadyH.nil
  · intro kCl12568x kCl12589x a1 q1 d1 a5 a8 w hS b5 b8 l8
    refine wpAnyH_ready (rs := [6, 9]) (by kernel_rfl) (by simp) ?_
    refine AllReadyH.cons rfl (fun K hK => ?_) ?_
    · go_simp
      refine (hk6.out w hS.1 a5 b5).mono ?_
      rintro r w2 ⟨q2, d2, rfl, hkk⟩
      go_wp2_with fail
      refine hK.out _ _ (hS.kp hkk) (fun _ => ?_)
      try simp only [Act.put, List.setIfInBounds_toArray, List.set_cons_zero, List.set_cons_succ]
      refine wpAnyH_take (i := 7) (v := ?vv18) rfl (by kernel_rfl) (by kernel_rfl) (by kernel_rfl) (fun _ _ _ h => by cases h.1) (Or.inl ⟨by kernel_rfl, ?hy18⟩) (hS.kp hkk) ?rest18
      case hy18 => (intro w hSw; go_simp; try with_reducible rfl)
      try simp only [Act.put, List.setIfInBounds_toArray, List.set_cons_zero, List.set_cons_succ]
      exact kCl12568x a1 q1 d1 a5 q2 d2 a8 _ (hS.kp hkk) (b8.kp hkk (by simp)) l8
    refine AllReadyH.cons rfl (fun K hK => ?_) ?_
    · go_simp
      refine hK.out _ _ (hS.alloc _) (fun _ => ?_)
      try simp only [Act.put, List.setIfInBounds_toArray, List.set_cons_zero, List.set_cons_succ]
      exact kCl12589x a1 q1 d1 a5 a8 _ _ (hS.alloc _) (b5.alloc _) (b8.alloc _) l8 (Blk.new w _ _) hS.1.size (by have := b8.lt; omega)
    exact AllReadyH.nil
  · intro kCl12568x kCl12569x a1 q1 d1 a5 q2 d2 w hS 
    refine wpAnyH_ready (rs := [8, 9]) (by kernel_rfl) (by simp) ?_
    refine AllReadyH.cons rfl (fun K hK => ?_) ?_
    · go_simp
      refine hK.out _ _ (hS.alloc _) (fun _ => ?_)
      try simp only [Act.put, List.setIfInBounds_toArray, List.set_cons_zero, List.set_cons_succ]
      exact kCl12568x a1 q1 d1 a5 q2 d2 _ _ (hS.alloc _) (Blk.new w _ _) hS.1.size
    refine AllReadyH.cons rfl (fun K hK => ?_) ?_
    · go_simp
      refine hK.out _ _ (hS.alloc _) (fun _ => ?_)
      try simp only [Act.put, List.setIfInBounds_toArray, List.set_cons_zero, List.set_cons_succ]
      exact kCl12569x a1 q1 d1 a5 q2 d2 _ _ (hS.alloc _) (Blk.new w _ _) hS.1.size
    exact AllReadyH.nil
  · intro kCl1589x a5 a8 a9 w hS b5 b8 l8 b9 l9 ne
    refine wpAnyH_ready (rs := [1]) (by kernel_rfl) (by simp) ?_
    refine AllReadyH.cons rfl (fun K hK => ?_) ?_
    · go_simp
      refine hK.out _ _ (hS.alloc _) (fun _ => ?_)
      try simp only [Act.put, List.setIfInBounds_toArray, List.set_cons_zero, List.set_cons_succ]
      exact kCl1589x _ a5 a8 a9 _ (hS.alloc _) (Blk.new w _ _) (b5.alloc _) (b8.alloc _) l8 (b9.alloc _) l9 (by have := b8.lt; omega)
    exact AllReadyH.nil
  · intro kCl1289x kCl1589x a1 a8 a9 w hS b1 b8 l8 b9 l9 ne
    refine wpAnyH_ready (rs := [2, 5]) (by kernel_rfl) (by simp) ?_
    refine AllReadyH.cons rfl (fun K hK => ?_) ?_
    · go_simp
      refine (hk2.out w hS.1 a1 b1).mono ?_
      rintro r w2 ⟨q1, d1, rfl, hkk⟩
      go_wp2_with fail
      refine hK.out _ _ (hS.kp hkk) (fun _ => ?_)
      try simp only [Act.put, List.setIfInBounds_toArray, List.set_cons_zero, List.set_cons_succ]
      refine wpAnyH_take (i := 3) (v := ?vv23) rfl (by kernel_rfl) (by kernel_rfl) (by kernel_rfl) (fun _ _ _ h => by cases h.1) (Or.inl ⟨by kernel_rfl, ?hy23⟩) (hS.kp hkk) ?rest23
      case hy23 => (intro w hSw; go_simp; try with_reducible rfl)
      try simp only [Act.put, List.setIfInBounds_toArray, List.set_cons_zero, List.set_cons_succ]
      exact kCl1289x a1 q1 d1 a8 a9 _ (hS.kp hkk) (b8.kp hkk (by simp)) l8 (b9.kp hkk (by simp)) l9 ne
    refine AllReadyH.cons rfl (fun K hK => ?_) ?_
    · go_simp
      refine hK.out _ _ (hS.alloc _) (fun _ => ?_)
      try simp only [Act.put, List.setIfInBounds_toArray, List.set_cons_zero, List.set_cons_succ]
      exact kCl1589x a1 _ a8 a9 _ (hS.alloc _) (b1.alloc _) (Blk.new w _ _) (b8.alloc _) l8 (b9.alloc _) l9 (by have := b8.lt; omega)
    exact AllReadyH.nil
  · intro kCl1259x kCl1589x a1 a5 a9 w hS b1 b5 b9 l9
    refine wpAnyH_ready (rs := [2, 8]) (by kernel_rfl) (by simp) ?_
    refine AllReadyH.cons rfl (fun K hK => ?_) ?_
    · go_simp
      refine (hk2.out w hS.1 a1 b1).mono ?_
      rintro r w2 ⟨q1, d1, rfl, hkk⟩
      go_wp2_with fail
      refine hK.out _ _ (hS.kp hkk) (fun _ => ?_)
      try simp only [Act.put, List.setIfInBounds_toArray, List.set_cons_zero, List.set_cons_succ]
      refine wpAnyH_take (i := 3) (v := ?vv25) rfl (by kernel_rfl) (by kernel_rfl) (by kernel_rfl) (fun _ _ _ h => by cases h.1) (Or.inl ⟨by kernel_rfl, ?hy25⟩) (hS.kp hkk) ?rest25
      case hy25 => (intro w hSw; go_simp; try with_reducible rfl)
      try simp only [Act.put, List.setIfInBounds_toArray, List.set_cons_zero, List.set_cons_succ]
      exact kCl1259x a1 q1 d1 a5 a9 _ (hS.kp hkk) (b5.kp hkk (by simp)) (b9.kp hkk (by simp)) l9
    refine AllReadyH.cons rfl (fun K hK => ?_) ?_
    · go_simp
      refine hK.out _ _ (hS.alloc _) (fun _ => ?_)
      try simp only [Act.put, List.setIfInBounds_toArray, List.set_cons_zero, List.set_cons_succ]
      exact kCl1589x a1 a5 _ a9 _ (hS.alloc _) (b1.alloc _) (b5.alloc _) (Blk.new w _ _) hS.1.size (b9.alloc _) l9 (by have := b9.lt; omega)
    exact AllReadyH.nil
  · intro kCl1258x kCl1589x a1 a5 a8 w hS b1 b5 b8 l8
    refine wpAnyH_ready (rs := [2, 9]) (by kernel_rfl) (by simp) ?_
    refine AllReadyH.cons rfl (fun K hK => ?_) ?_
    · go_simp
      refine (hk2.out w hS.1 a1 b1).mono ?_
      rintro r w2 ⟨q1, d1, rfl, hkk⟩
      go_wp2_with fail
      refine hK.out _ _ (hS.kp hkk) (fun _ => ?_)
      try simp only [Act.put, List.setIfInBounds_toArray, List.set_cons_zero, List.set_cons_succ]
      refine wpAnyH_take (i := 3) (v := ?vv27) rfl (by kernel_rfl) (by kernel_rfl) (by kernel_rfl) (fun _ _ _ h => by cases h.1) (Or.inl ⟨by kernel_rfl, ?hy27⟩) (hS.kp hkk) ?rest27
      case hy27 => (intro w hSw; go_simp; try with_reducible rfl)
      try simp only [Act.put, List.setIfInBounds_toArray, List.set_cons_zero, List.set_cons_succ]
      exact kCl1258x a1 q1 d1 a5 a8 _ (hS.kp hkk) (b5.kp hkk (by simp)) (b8.kp hkk (by simp)) l8
    refine AllReadyH.cons rfl (fun K hK => ?_) ?_
    · go_simp
      refine hK.out _ _ (hS.alloc _) (fun _ => ?_)
      try simp only [Act.put, List.setIfInBounds_toArray, List.set_cons_zero, List.set_cons_succ]
      exact kCl1589x a1 a5 a8 _ _ (hS.alloc _) (b1.alloc _) (b5.alloc _) (b8.alloc _) l8 (Blk.new w _ _) hS.1.size (by have := b8.lt; omega)
    exact AllReadyH.nil
  · intro kCl1259x kCl1289x a1 q1 d1 a9 w hS b9 l9
    refine wpAnyH_ready (rs := [5, 8]) (by kernel_rfl) (by simp) ?_
    refine AllReadyH.cons rfl (fun K hK => ?_) ?_
    · go_simp
      refine hK.out _ _ (hS.alloc _) (fun _ => ?_)
      try simp only [Act.put, List.setIfInBounds_toArray, List.set_cons_zero, List.set_cons_succ]
      exact kCl1259x a1 q1 d1 _ a9 _ (hS.alloc _) (Blk.new w _ _) (b9.alloc _) l9
    refine AllReadyH.cons rfl (fun K hK => ?_) ?_
    · go_simp
      refine hK.out _ _ (hS.alloc _) (fun _ => ?_)
      try simp only [Act.put, List.setIfInBounds_toArray, List.set_cons_zero, List.set_cons_succ]
      exact kCl1289x a1 q1 d1 _ a9 _ (hS.alloc _) (Blk.new w _ _) hS.1.size (b9.alloc _) l9 (by have := b9.lt; omega)
    exact AllReadyH.nil
  · intro kCl1258x kCl1289x a1 q1 d1 a8 w hS b8 l8
    refine wpAnyH_ready (rs := [5, 9]) (by kernel_rfl) (by simp) ?_
    refine AllReadyH.cons rfl (fun K hK => ?_) ?_
    · go_simp
      refine hK.out _ _ (hS.alloc _) (fun _ => ?_)
      try simp only [Act.put, List.setIfInBounds_toArray, List.set_cons_zero, List.set_cons_succ]
      exact kCl1258x a1 q1 d1 _ a8 _ (hS.alloc _) (Blk.new w _ _) (b8.alloc _) l8
    refine AllReadyH.cons rfl (fun K hK => ?_) ?_
    · go_simp
      refine hK.out _ _ (hS.alloc _) (fun _ => ?_)
      try simp only [Act.put, List.setIfInBounds_toArray, List.set_cons_zero, List.set_cons_succ]
      exact kCl1289x a1 q1 d1 a8 _ _ (hS.alloc _) (b8.alloc _) l8 (Blk.new w _ _) hS.1.size (by have := b8.lt; omega)
    exact AllReadyH.nil
  · intro kCl1256x kCl1258x kCl1259x a1 q1 d1 a5 w hS b5
    refine wpAnyH_ready (rs := [6, 8, 9]) (by kernel_rfl) (by simp) ?_
    refine AllReadyH.cons rfl (fun K hK => ?_) ?_
    · go_simp
      refine (hk6.out w hS.1 a5 b5).mono ?_
      rintro r w2 ⟨q2, d2, rfl, hkk⟩
      go_wp2_with fail
      refine hK.out _ _ (hS.kp hkk) (fun _ => ?_)
      try simp only [Act.put, List.setIfInBounds_toArray, List.set_cons_zero, List.set_cons_succ]
      refine wpAnyH_take (i := 7) (v := ?vv33) rfl (by kernel_rfl) (by kernel_rfl) (by kernel_rfl) (fun _ _ _ h => by cases h.1) (Or.inl ⟨by kernel_rfl, ?hy33⟩) (hS.kp hkk) ?rest33
      case hy33 => (intro w hSw; go_simp; try with_reducible rfl)
      try simp only [Act.put, List.setIfInBounds_toArray, List.set_cons_zero, List.set_cons_succ]
      exact kCl1256x a1 q1 d1 a5 q2 d2 _ (hS.kp hkk) 
    refine AllReadyH.cons rfl (fun K hK => ?_) ?_
    · go_simp
      refine hK.out _ _ (hS.alloc _) (fun _ => ?_)
      try simp only [Act.put, List.setIfInBounds_toArray, List.set_cons_zero, List.set_cons_succ]
      exact kCl1258x a1 q1 d1 a5 _ _ (hS.alloc _) (b5.alloc _) (Blk.new w _ _) hS.1.size
    refine AllReadyH.cons rfl (fun K hK => ?_) ?_
    · go_simp
      refine hK.out _ _ (hS.alloc _) (fun _ => ?_)
      try simp only [Act.put, List.setIfInBounds_toArray, List.set_cons_zero, List.set_cons_succ]
      exact kCl1259x a1 q1 d1 a5 _ _ (hS.alloc _) (b5.alloc _) (Blk.new w _ _) hS.1.size
    exact AllReadyH.nil
  · intro kCl189x kCl589x a8 a9 w hS b8 l8 b9 l9 ne
    refine wpAnyH_ready (rs := [1, 5]) (by kernel_rfl) (by simp) ?_
    refine AllReadyH.cons rfl (fun K hK => ?_) ?_
    · go_simp
      refine hK.out _ _ (hS.alloc _) (fun _ => ?_)
      try simp only [Act.put, List.setIfInBounds_toArray, List.set_cons_zero, List.set_cons_succ]
      exact kCl189x _ a8 a9 _ (hS.alloc _) (Blk.new w _ _) (b8.alloc _) l8 (b9.alloc _) l9 (by have := b8.lt; omega)
    refine AllReadyH.cons rfl (fun K hK => ?_) ?_
    · go_simp
      refine hK.out _ _ (hS.alloc _) (fun _ => ?_)
      try simp only [Act.put, List.setIfInBounds_toArray, List.set_cons_zero, List.set_cons_succ]
      exact kCl589x _ a8 a9 _ (hS.alloc _) (Blk.new w _ _) (b8.alloc _) l8 (b9.alloc _) l9 (by have := b8.lt; omega)
    exact AllReadyH.nil
  · intro kCl159x kCl589x a5 a9 w hS b5 b9 l9
    refine wpAnyH_ready (rs := [1, 8]) (by kernel_rfl) (by simp) ?_
    refine AllReadyH.cons rfl (fun K hK => ?_) ?_
    · go_simp
      refine hK.out _ _ (hS.alloc _) (fun _ => ?_)
      try simp only [Act.put, List.setIfInBounds_toArray, List.set_cons_zero, List.set_cons_succ]
      exact kCl159x _ a5 a9 _ (hS.alloc _) (Blk.new w _ _) (b5.alloc _) (b9.alloc _) l9
    refine AllReadyH.cons rfl (fun K hK => ?_) ?_
    · go_simp
      refine hK.out _ _ (hS.alloc _) (fun _ => ?_)
      try simp only [Act.put, List.setIfInBounds_toArray, List.set_cons_zero, List.set_cons_succ]
      exact kCl589x a5 _ a9 _ (hS.alloc _) (b5.alloc _) (Blk.new w _ _) hS.1.size (b9.alloc _) l9 (by have := b9.lt; omega)
    exact AllReadyH.nil
  · intro kCl158x kCl589x a5 a8 w hS b5 b8 l8
    refine wpAnyH_ready (rs := [1, 9]) (by kernel_rfl) (by simp) ?_
    refine AllReadyH.cons rfl (fun K hK => ?_) ?_
    · go_simp
      refine hK.out _ _ (hS.alloc _) (fun _ => ?_)
      try simp only [Act.put, List.setIfInBounds_toArray, List.set_cons_zero, List.set_cons_succ]
      exact kCl158x _ a5 a8 _ (hS.alloc _) (Blk.new w _ _) (b5.alloc _) (b8.alloc _) l8
    refine AllReadyH.cons rfl (fun K hK => ?_) ?_
    · go_simp
      refine hK.out _ _ (hS.alloc _) (fun _ => ?_)
      try simp only [Act.put, List.setIfInBounds_toArray, List.set_cons_zero, List.set_cons_succ]
      exact kCl589x a5 a8 _ _ (hS.alloc _) (b5.alloc _) (b8.alloc _) l8 (Blk.new w _ _) hS.1.size (by have := b8.lt; omega)
    exact AllReadyH.nil
  · intro kCl129x kCl159x kCl189x a1 a9 w hS b1 b9 l9
    refine wpAnyH_ready (rs := [2, 5, 8]) (by kernel_rfl) (by simp) ?_
    refine AllReadyH.cons rfl (fun K hK => ?_) ?_
    · go_simp
      refine (hk2.out w hS.1 a1 b1).mono ?_
      rintro r w2 ⟨q1, d1, rfl, hkk⟩
      go_wp2_with fail
      refine hK.out _ _ (hS.kp hkk) (fun _ => ?_)
      try simp only [Act.put, List.setIfInBounds_toArray, List.set_cons_zero, List.set_cons_succ]
      refine wpAnyH_take (i := 3) (v := ?vv42) rfl (by kernel_rfl) (by kernel_rfl) (by kernel_rfl) (fun _ _ _ h => by cases h.1) (Or.inl ⟨by kernel_rfl, ?hy42⟩) (hS.kp hkk) ?rest42
      case hy42 => (intro w hSw; go_simp; try with_reducible rfl)
      try simp only [Act.put, List.setIfInBounds_toArray, List.set_cons_zero, List.set_cons_succ]
      exact kCl129x a1 q1 d1 a9 _ (hS.kp hkk) (b9.kp hkk (by simp)) l9
    refine AllReadyH.cons rfl (fun K hK => ?_) ?_
    · go_simp
      refine hK.out _ _ (hS.alloc _) (fun _ => ?_)
      try simp only [Act.put, List.setIfInBounds_toArray, List.set_cons_zero, List.set_cons_succ]
      exact kCl159x a1 _ a9 _ (hS.alloc _) (b1.alloc _) (Blk.new w _ _) (b9.alloc _) l9
    refine AllReadyH.cons rfl (fun K hK => ?_) ?_
    · go_simp
      refine hK.out _ _ (hS.alloc _) (fun _ => ?_)
      try simp only [Act.put, List.setIfInBounds_toArray, List.set_cons_zero, List.set_cons_succ]
      exact kCl189x a1 _ a9 _ (hS.alloc _) (b1.alloc _) (Blk.new w _ _) hS.1.size (b9.alloc _) l9 (by have := b9.lt; omega)
    exact AllReadyH.nil
  · intro kCl128x kCl158x kCl189x a1 a8 w hS b1 b8 l8
    refine wpAnyH_ready (rs := [2, 5, 9]) (by kernel_rfl) (by simp) ?_
    refine AllReadyH.cons rfl (fun K hK => ?_) ?_
    · go_simp
      refine (hk2.out w hS.1 a1 b1).mono ?_
      rintro r w2 ⟨q1, d1, rfl, hkk⟩
      go_wp2_with fail
      refine hK.out _ _ (hS.kp hkk) (fun _ => ?_)
      try simp only [Act.put, List.setIfInBounds_toArray, List.set_cons_zero, List.set_cons_succ]
      refine wpAnyH_take (i := 3) (v := ?vv45) rfl (by kernel_rfl) (by kernel_rfl) (by kernel_rfl) (fun _ _ _ h => by cases h.1) (Or.inl ⟨by kernel_rfl, ?hy45⟩) (hS.kp hkk) ?rest45
      case hy45 => (intro w hSw; go_simp; try with_reducible rfl)
      try simp only [Act.put, List.setIfInBounds_toArray, List.set_cons_zero, List.set_cons_succ]
      exact kCl128x a1 q1 d1 a8 _ (hS.kp hkk) (b8.kp hkk (by simp)) l8
    refine AllReadyH.cons rfl (fun K hK => ?_) ?_
    · go_simp
      refine hK.out _ _ (hS.alloc _) (fun _ => ?_)
      try simp only [Act.put, List.setIfInBounds_toArray, List.set_cons_zero, List.set_cons_succ]
      exact kCl158x a1 _ a8 _ (hS.alloc _) (b1.alloc _) (Blk.new w _ _) (b8.alloc _) l8
    refine AllReadyH.cons rfl (fun K hK => ?_) ?_
    · go_simp
      refine hK.out _ _ (hS.alloc _) (fun _ => ?_)
      try simp only [Act.put, List.setIfInBounds_toArray, List.set_cons_zero, List.set_cons_succ]
      exact kCl189x a1 a8 _ _ (hS.alloc _) (b1.alloc _) (b8.alloc _) l8 (Blk.new w _ _) hS.1.size (by have := b8.lt; omega)
    exact AllReadyH.nil
  · intro kCl125x kCl158x kCl159x a1 a5 w hS b1 b5
    refine wpAnyH_ready (rs := [2, 8, 9]) (by kernel_rfl) (by simp) ?_
    refine AllReadyH.cons rfl (fun K hK => ?_) ?_
    · go_simp
      refine (hk2.out w hS.1 a1 b1).mono ?_
      rintro r w2 ⟨q1, d1, rfl, hkk⟩
      go_wp2_with fail
      refine hK.out _ _ (hS.kp hkk) (fun _ => ?_)
      try simp only [Act.put, List.setIfInBounds_toArray, List.set_cons_zero, List.set_cons_succ]
      refine wpAnyH_take (i := 3) (v := ?vv48) rfl (by kernel_rfl) (by kernel_rfl) (by kernel_rfl) (fun _ _ _ h => by cases h.1) (Or.inl ⟨by kernel_rfl, ?hy48⟩) (hS.kp hkk) ?rest48
      case hy48 => (intro w hSw; go_simp; try with_reducible rfl)
      try simp only [Act.put, List.setIfInBounds_toArray, List.set_cons_zero, List.set_cons_succ]
      exact kCl125x a1 q1 d1 a5 _ (hS.kp hkk) (b5.kp hkk (by simp))
    refine AllReadyH.cons rfl (fun K hK => ?_) ?_
    · go_simp
      refine hK.out _ _ (hS.alloc _) (fun _ => ?_)
      try simp only [Act.put, List.setIfInBounds_toArray, List.set_cons_zero, List.set_cons_succ]
      exact kCl158x a1 a5 _ _ (hS.alloc _) (b1.alloc _) (b5.alloc _) (Blk.new w _ _) hS.1.size
    refine AllReadyH.cons rfl (fun K hK => ?_) ?_
    · go_simp
      refine hK.out _ _ (hS.alloc _) (fun _ => ?_)
      try simp only [Act.put, List.setIfInBounds_toArray, List.set_cons_zero, List.set_cons_succ]
      exact kCl159x a1 a5 _ _ (hS.alloc _) (b1.alloc _) (b5.alloc _) (Blk.new w _ _) hS.1.size
    exact AllReadyH.nil
  · intro kCl125x kCl128x kCl129x a1 q1 d1 w hS 
    refine wpAnyH_ready (rs := [5, 8, 9]) (by kernel_rfl) (by simp) ?_
    refine AllReadyH.cons rfl (fun K hK => ?_) ?_
    · go_simp
      refine hK.out _ _ (hS.alloc _) (fun _ => ?_)
      try simp only [Act.put, List.setIfInBounds_toArray, List.set_cons_zero, List.set_cons_succ]
      exact kCl125x a1 q1 d1 _ _ (hS.alloc _) (Blk.new w _ _)
    refine AllReadyH.cons rfl (fun K hK => ?_) ?_
    · go_simp
      refine hK.out _ _ (hS.alloc _) (fun _ => ?_)
      try simp only [Act.put, List.setIfInBounds_toArray, List.set_cons_zero, List.set_cons_succ]
      exact kCl128x a1 q1 d1 _ _ (hS.alloc _) (Blk.new w _ _) hS.1.size
    refine AllReadyH.cons rfl (fun K hK => ?_) ?_
    · go_simp
      refine hK.out _ _ (hS.alloc _) (fun _ => ?_)
      try simp only [Act.put, List.setIfInBounds_toArray, List.set_cons_zero, List.set_cons_succ]
      exact kCl129x a1 q1 d1 _ _ (hS.alloc _) (Blk.new w _ _) hS.1.size
    exact AllReadyH.nil
  · intro kCl19x kCl59x kCl89x a9 w hS b9 l9
    refine wpAnyH_ready (rs := [1, 5, 8]) (by kernel_rfl) (by simp) ?_
    refine AllReadyH.cons rfl (fun K hK => ?_) ?_
    · go_simp
      refine hK.out _ _ (hS.alloc _) (fun _ => ?_)
      try simp only [Act.put, List.setIfInBounds_toArray, List.set_cons_zero, List.set_cons_succ]
      exact kCl19x _ a9 _ (hS.alloc _) (Blk.new w _ _) (b9.alloc _) l9
    refine AllReadyH.cons rfl (fun K hK => ?_) ?_
    · go_simp
      refine hK.out _ _ (hS.alloc _) (fun _ => ?_)
      try simp only [Act.put, List.setIfInBounds_toArray, List.set_cons_zero, List.set_cons_succ]
      exact kCl59x _ a9 _ (hS.alloc _) (Blk.new w _ _) (b9.alloc _) l9
    refine AllReadyH.cons rfl (fun K hK => ?_) ?_
    · go_simp
      refine hK.out _ _ (hS.alloc _) (fun _ => ?_)
      try simp only [Act.put, List.setIfInBounds_toArray, List.set_cons_zero, List.set_cons_succ]
      exact kCl89x _ a9 _ (hS.alloc _) (Blk.new w _ _) hS.1.size (b9.alloc _) l9 (by have := b9.lt; omega)
    exact AllReadyH.nil
  · intro kCl18x kCl58x kCl89x a8 w hS b8 l8
    refine wpAnyH_ready (rs := [1, 5, 9]) (by kernel_rfl) (by simp) ?_
    refine AllReadyH.cons rfl (fun K hK => ?_) ?_
    · go_simp
      refine hK.out _ _ (hS.alloc _) (fun _ => ?_)
      try simp only [Act.put, List.setIfInBounds_toArray, List.set_cons_zero, List.set_cons_succ]
      exact kCl18x _ a8 _ (hS.alloc _) (Blk.new w _ _) (b8.alloc _) l8
    refine AllReadyH.cons rfl (fun K hK => ?_) ?_
    · go_simp
      refine hK.out _ _ (hS.alloc _) (fun _ => ?_)
      try simp only [Act.put, List.setIfInBounds_toArray, List.set_cons_zero, List.set_cons_succ]
      exact kCl58x _ a8 _ (hS.alloc _) (Blk.new w _ _) (b8.alloc _) l8
    refine AllReadyH.cons rfl (fun K hK => ?_) ?_
    · go_simp
      refine hK.out _ _ (hS.alloc _) (fun _ => ?_)
      try simp only [Act.put, List.setIfInBounds_toArray, List.set_cons_zero, List.set_cons_succ]
      exact kCl89x a8 _ _ (hS.alloc _) (b8.alloc _) l8 (Blk.new w _ _) hS.1.size (by have := b8.lt; omega)
    exact AllReadyH.nil
  · intro kCl15x kCl58x kCl59x a5 w hS b5
    refine wpAnyH_ready (rs := [1, 8, 9]) (by kernel_rfl) (by simp) ?_
    refine AllReadyH.cons rfl (fun K hK => ?_) ?_
    · go_simp
      refine hK.out _ _ (hS.alloc _) (fun _ => ?_)
      try simp only [Act.put, List.setIfInBounds_toArray, List.set_cons_zero, List.set_cons_succ]
      exact kCl15x _ a5 _ (hS.alloc _) (Blk.new w _ _) (b5.alloc _)
    refine AllReadyH.cons rfl (fun K hK => ?_) ?_
    · go_simp
      refine hK.out _ _ (hS.alloc _) (fun _ => ?_)
      try simp only [Act.put, List.setIfInBounds_toArray, List.set_cons_zero, List.set_cons_succ]
      exact kCl58x a5 _ _ (hS.alloc _) (b5.alloc _) (Blk.new w _ _) hS.1.size
    refine AllReadyH.cons rfl (fun K hK => ?_) ?_
    · go_simp
      refine hK.out _ _ (hS.alloc _) (fun _ => ?_)
      try simp only [Act.put, List.setIfInBounds_toArray, List.set_cons_zero, List.set_cons_succ]
      exact kCl59x a5 _ _ (hS.alloc _) (b5.alloc _) (Blk.new w _ _) hS.1.size
    exact AllReadyH.nil
  · intro kCl12x kCl15x kCl18x kCl19x a1 w hS b1
    refine wpAnyH_ready (rs := [2, 5, 8, 9]) (by kernel_rfl) (by simp) ?_
    refine AllReadyH.cons rfl (fun K hK => ?_) ?_
    · go_simp
      refine (hk2.out w hS.1 a1 b1).mono ?_
      rintro r w2 ⟨q1, d1, rfl, hkk⟩
      go_wp2_with fail
      refine hK.out _ _ (hS.kp hkk) (fun _ => ?_)
      try simp only [Act.put, List.setIfInBounds_toArray, List.set_cons_zero, List.set_cons_succ]
      refine wpAnyH_take (i := 3) (v := ?vv63) rfl (by kernel_rfl) (by kernel_rfl) (by kernel_rfl) (fun _ _ _ h => by cases h.1) (Or.inl ⟨by kernel_rfl, ?hy63⟩) (hS.kp hkk) ?rest63
      case hy63 => (intro w hSw; go_simp; try with_reducible rfl)
      try simp only [Act.put, List.setIfInBounds_toArray, List.set_cons_zero, List.set_cons_succ]
      exact kCl12x a1 q1 d1 _ (hS.kp hkk) 
    refine AllReadyH.cons rfl (fun K hK => ?_) ?_
    · go_simp
      refine hK.out _ _ (hS.alloc _) (fun _ => ?_)
      try simp only [Act.put, List.setIfInBounds_toArray, List.set_cons_zero, List.set_cons_succ]
      exact kCl15x a1 _ _ (hS.alloc _) (b1.alloc _) (Blk.new w _ _)
    refine AllReadyH.cons rfl (fun K hK => ?_) ?_
    · go_simp
      refine hK.out _ _ (hS.alloc _) (fun _ => ?_)
      try simp only [Act.put, List.setIfInBounds_toArray, List.set_cons_zero, List.set_cons_succ]
      exact kCl18x a1 _ _ (hS.alloc _) (b1.alloc _) (Blk.new w _ _) hS.1.size
    refine AllReadyH.cons rfl (fun K hK => ?_) ?_
    · go_simp
      refine hK.out _ _ (hS.alloc _) (fun _ => ?_)
      try simp only [Act.put, List.setIfInBounds_toArray, List.set_cons_zero, List.set_cons_succ]
      exact kCl19x a1 _ _ (hS.alloc _) (b1.alloc _) (Blk.new w _ _) hS.1.size
    exact AllReadyH.nil
  · intro kCl1x kCl5x kCl8x kCl9x  w hS 
    refine wpAnyH_ready (rs := [1, 5, 8, 9]) (by kernel_rfl) (by simp) ?_
    refine AllReadyH.cons rfl (fun K hK => ?_) ?_
    · go_simp
      refine hK.out _ _ (hS.alloc _) (fun _ => ?_)
      try simp only [Act.put, List.setIfInBounds_toArray, List.set_cons_zero, List.set_cons_succ]
      exact kCl1x _ _ (hS.alloc _) (Blk.new w _ _)
    refine AllReadyH.cons rfl (fun K hK => ?_) ?_
    · go_simp
      refine hK.out _ _ (hS.alloc _) (fun _ => ?_)
      try simp only [Act.put, List.setIfInBounds_toArray, List.set_cons_zero, List.set_cons_succ]
      exact kCl5x _ _ (hS.alloc _) (Blk.new w _ _)
    refine AllReadyH.cons rfl (fun K hK => ?_) ?_
    · go_simp
      refine hK.out _ _ (hS.alloc _) (fun _ => ?_)
      try simp only [Act.put, List.setIfInBounds_toArray, List.set_cons_zero, List.set_cons_succ]
      exact kCl8x _ _ (hS.alloc _) (Blk.new w _ _) hS.1.size
    refine AllReadyH.cons rfl (fun K hK => ?_) ?_
    · go_simp
      refine hK.out _ _ (hS.alloc _) (fun _ => ?_)
      try simp only [Act.put, List.setIfInBounds_toArray, List.set_cons_zero, List.set_cons_succ]
      exact kCl9x _ _ (hS.alloc _) (Blk.new w _ _) hS.1.size
    exact AllReadyH.nil
  · intro a1 q1 d1 a5 q2 d2 a8 a9 wf hS b8 l8 b9 l9 ne
    have s8 : wf.cell? ⟨a8, 0, none⟩ = some (.int .i64 0) := b8.cell 0 rfl
    have f8 := b8.frozen 0
    refine wpAnyH_ready (rs := [10]) (by kernel_rfl) (by simp) ?_
    refine AllReadyH.cons rfl (fun K9 hK => ?_) AllReadyH.nil
    go_simp
    refine hK.out _ _ (hS.set l8 hBl _) (fun _ => ?_)
    try simp only [Act.put, List.setIfInBounds_toArray, List.set_cons_zero, List.set_cons_succ]
    have hS2 := hS.set l8 hBl (.int .i64 IN)
    have b82 := b8.set 0 (.int .i64 IN)
    have b92 := b9.other (p := ⟨a8, 0, none⟩) (fun e => ne (Eq.symm e)) (.int .i64 IN)
    obtain ⟨w8, hw8⟩ : ∃ x, wf.setCell ⟨a8, 0, none⟩ (.int .i64 IN) = x := ⟨_, rfl⟩
    rw [hw8] at hS2 b82 b92 ⊢
    have s9 : w8.cell? ⟨a9, 0, none⟩ = some (.int .i64 0) := b92.cell 0 rfl
    have f9 := b92.frozen 0
    refine wpAnyH_ready (rs := [11]) (by kernel_rfl) (by simp) ?_
    refine AllReadyH.cons rfl (fun K9 hK => ?_) AllReadyH.nil
    go_simp
    refine hK.out _ _ (hS2.set l9 hBl _) (fun _ => ?_)
    try simp only [Act.put, List.setIfInBounds_toArray, List.set_cons_zero, List.set_cons_succ]
    have hS3 := hS2.set l9 hBl (.int .i64 IO)
    have b83 := b82.other (p := ⟨a9, 0, none⟩) ne (.int .i64 IO)
    have b93 := b92.set 0 (.int .i64 IO)
    obtain ⟨w9, hw9⟩ : ∃ x, w8.setCell ⟨a9, 0, none⟩ (.int .i64 IO) = x := ⟨_, rfl⟩
    rw [hw9] at hS3 b83 b93 ⊢
    refine wpAnyH_done (by kernel_rfl) ?_ _
    refine ⟨rfl, ?_⟩
    replace b83 : Hid (Blk w9 a8 3 #[.int .i64 IN]) := b83
    replace b93 : Hid (Blk w9 a9 3 #[.int .i64 IO]) := b93
    have hK9 := Lib.hid hS3.1
    have hB9 := Lib.hid hS3.2
    replace ne := Lib.hid ne
    clear hS hS2 hS3 b8 b9 b82 b92 s8 s9 f8 f9 hw8 hw9 hS0
    have hBa := Blk.alloc hB9.out (.cells #[.slice none 0 0] 42)
    have e0 : (w9.alloc (.cells #[.slice none 0 0] 42)).cell? ⟨B, 0, none⟩ = some (.slice (some ⟨g, 0, none⟩) n n) := hBa.cell 0 rfl
    have e1 : (w9.alloc (.cells #[.slice none 0 0] 42)).cell? ⟨B, 1, none⟩ = some (.func (.func K) #[] #[]) := hBa.cell 1 rfl
    have e2 : (w9.alloc (.cells #[.slice none 0 0] 42)).cell? ⟨B, 2, none⟩ = some (.int .i64 xa) := hBa.cell 2 rfl
    have e3 : (w9.alloc (.cells #[.slice none 0 0] 42)).cell? ⟨B, 3, none⟩ = some (.int .i64 xb) := hBa.cell 3 rfl
    have e4 : (w9.alloc (.cells #[.slice none 0 0] 42)).cell? ⟨B, 4, none⟩ = some (.int .i64 xc) := hBa.cell 4 rfl
    have e5 : (w9.alloc (.cells #[.slice none 0 0] 42)).cell? ⟨B, 5, none⟩ = some (.int .i64 xd) := hBa.cell 5 rfl
    have e6 : (w9.alloc (.cells #[.slice none 0 0] 42)).cell? ⟨B, 6, none⟩ = some (.int .i64 xe) := hBa.cell 6 rfl
    have e7 : (w9.alloc (.cells #[.slice none 0 0] 42)).cell? ⟨B, 7, none⟩ = some (.int .i64 xf) := hBa.cell 7 rfl
    have hex := Lib.hid (fun W => execs_c W g n K xa xb xc xd xe xf pI pT M cI cT)
    clear hBa
    gi_wp2_with fail
    refine ⟨trivial, rfl, callsIn_wide.2 ((hex.out _).mono ?_)⟩
    rintro r w' ⟨rfl, rfl⟩
    clear e0 e1 e2 e3 e4 e5 e6 e7 hex
    have hOb := (((Boxed.new w9 42 (.slice none 0 0)).alloc (.cells #[.slice (some ⟨g, 0, none⟩) n n, .func (.func K) #[] #[], .int .i64 xa, .int .i64 xb, .int .i64 xc, .int .i64 xd, .int .i64 xe, .int .i64 xf] 67)).alloc (.cells #[.slice pI M cI] 42)).alloc (.cells #[.slice pT M cT] 22)
    have hPb := ((Blk.new (w9.alloc (.cells #[.slice none 0 0] 42)) 67 #[.slice (some ⟨g, 0, none⟩) n n, .func (.func K) #[] #[], .int .i64 xa, .int .i64 xb, .int .i64 xc, .int .i64 xd, .int .i64 xe, .int .i64 xf]).alloc (.cells #[.slice pI M cI] 42)).alloc (.cells #[.slice pT M cT] 22)
    have hIb := (Blk.new ((w9.alloc (.cells #[.slice none 0 0] 42)).alloc (.cells #[.slice (some ⟨g, 0, none⟩) n n, .func (.func K) #[] #[], .int .i64 xa, .int .i64 xb, .int .i64 xc, .int .i64 xd, .int .i64 xe, .int .i64 xf] 67)) 42 #[.slice pI M cI]).alloc (.cells #[.slice pT M cT] 22)
    have hTb := Blk.new (((w9.alloc (.cells #[.slice none 0 0] 42)).alloc (.cells #[.slice (some ⟨g, 0, none⟩) n n, .func (.func K) #[] #[], .int .i64 xa, .int .i64 xb, .int .i64 xc, .int .i64 xd, .int .i64 xe, .int .i64 xf] 67)).alloc (.cells #[.slice pI M cI] 42)) 22 #[.slice pT M cT]
    have h8b := (((Blk.alloc b83.out (.cells #[.slice none 0 0] 42)).alloc (.cells #[.slice (some ⟨g, 0, none⟩) n n, .func (.func K) #[] #[], .int .i64 xa, .int .i64 xb, .int .i64 xc, .int .i64 xd, .int .i64 xe, .int .i64 xf] 67)).alloc (.cells #[.slice pI M cI] 42)).alloc (.cells #[.slice pT M cT] 22)
    have h9b := (((Blk.alloc b93.out (.cells #[.slice none 0 0] 42)).alloc (.cells #[.slice (some ⟨g, 0, none⟩) n n, .func (.func K) #[] #[], .int .i64 xa, .int .i64 xb, .int .i64 xc, .int .i64 xd, .int .i64 xe, .int .i64 xf] 67)).alloc (.cells #[.slice pI M cI] 42)).alloc (.cells #[.slice pT M cT] 22)
    have hKb := (((hK9.out.alloc (.cells #[.slice none 0 0] 42)).alloc (.cells #[.slice (some ⟨g, 0, none⟩) n n, .func (.func K) #[] #[], .int .i64 xa, .int .i64 xb, .int .i64 xc, .int .i64 xd, .int .i64 xe, .int .i64 xf] 67)).alloc (.cells #[.slice pI M cI] 42)).alloc (.cells #[.slice pT M cT] 22)
    have l8' := b83.out.lt
    have l9' := b93.out.lt
    obtain ⟨W0, hW0⟩ : ∃ W0, (((w9.alloc (.cells #[.slice none 0 0] 42)).alloc (.cells #[.slice (some ⟨g, 0, none⟩) n n, .func (.func K) #[] #[], .int .i64 xa, .int .i64 xb, .int .i64 xc, .int .i64 xd, .int .i64 xe, .int .i64 xf] 67)).alloc (.cells #[.slice pI M cI] 42)).alloc (.cells #[.slice pT M cT] 22) = W0 := ⟨_, rfl⟩
    have z0 : W0.heap.size = w9.heap.size + 4 := by rw [← hW0]; simp
    rw [hW0] at hOb hPb hIb hTb h8b h9b hKb
    simp only [World.size_alloc] at hPb hIb hTb
    obtain ⟨OB, hOB⟩ : ∃ x, w9.heap.size = x := ⟨_, rfl⟩
    rw [hOB] at hOb hPb hIb hTb z0 l8' l9'
    have hsz := hK3.out.size
    have hsz9 := hK9.out.size
    have hA : Hid (Ahead w OB a8 a9 (OB + 1) (OB + 1 + 1) (OB + 1 + 1 + 1) (OB + 4)) := ⟨by omega, by omega, by omega, by omega, by omega, by omega, by omega, by omega, by omega, by omega, by omega, by omega, by omega⟩
    replace hW0 := Lib.hid hW0
    replace z0 := Lib.hid z0
    replace hOB := Lib.hid hOB
    clear hB9 b83 b93 l8' l9' hsz hsz9
    have hJ0 : ∀ rec, RnJ w rec OB a8 a9 (OB + 1) (OB + 1 + 1) (OB + 1 + 1 + 1) (OB + 4) g n K ⟨xa, xb, xc, xd, xe, xf⟩ M pI pT cI cT vs ts IN IO (fun k => outN i (nxts i zs (rs.take (k + 1)) ts)) 0 ((W0.alloc (.deferred (some []))).alloc (.loop rec)) := by
      intro rec
      refine ⟨⟨.slice none 0 0, [], (hOb.alloc _).alloc _, Rws.nil _ _, rfl⟩, (h8b.alloc _).alloc _, (h9b.alloc _).alloc _, (hPb.alloc _).alloc _, (hIb.alloc _).alloc _, (hTb.alloc _).alloc _, ?_, ?_, ?_⟩
      · rw [← z0.out]; exact (Below.heap_alloc _ _ _ (by simp)).trans (World.alloc_heap_new W0 _)
      · have := World.alloc_heap_new (W0.alloc (.deferred (some []))) (.loop rec)
        rw [World.size_alloc, z0.out] at this
        exact this
      · exact (((hK3.out.trans hKb).alloc _).alloc _).below
    replace hJ0 := Lib.hid hJ0
    clear hOb h8b h9b hPb hIb hTb hKb
    gi_wp2_with fail
    rw [hW0.out]
    simp only [World.size_alloc, hOB.out]
    refine rangeFunc_cap (gf := 66) (cp := #[.pointer (some ⟨OB + 1, 0, none⟩), .pointer (some ⟨OB + 1 + 1, 0, none⟩), .pointer (some ⟨OB + 1 + 1 + 1, 0, none⟩)]) rfl (enters_of Try.func66 (by kernel_rfl) rfl)
      (fun W' => ∃ rec, RnJ w rec OB a8 a9 (OB + 1) (OB + 1 + 1) (OB + 1 + 1 + 1) (OB + 4) g n K ⟨xa, xb, xc, xd, xe, xf⟩ M pI pT cI cT vs ts IN IO (fun k => outN i (nxts i zs (rs.take (k + 1)) ts)) M W') ?call ?done
    case call =>
      intro fn rec hrec
      have e1 := congrArg Loop.assign hrec
      have e2 := congrArg Loop.body hrec
      have e3 := congrArg Loop.tmps hrec
      have e4 := congrArg Loop.params hrec
      have e5 := congrArg Loop.state hrec
      have e6 := congrArg Loop.pending hrec
      dsimp only at e1 e2 e3 e4 e5 e6
      clear hrec
      have hJ1 := hJ0.out rec
      have hlr : ts.length = rs.length := hl.out.trans hrl.out.symm
      obtain ⟨Ws, hWs⟩ : ∃ Ws, (W0.alloc (.deferred (some []))).alloc (.loop rec) = Ws := ⟨_, rfl⟩
      have zs2 : Ws.heap.size = OB + 4 + 2 := by rw [← hWs]; simp [z0.out]
      rw [hWs] at hJ1
      rw [z0.out, hWs]
      refine (exec_it (OB + 4 + 1) (OB + 1) (OB + 1 + 1) (OB + 1 + 1 + 1) Ws g n K (fun k => f6 (nxts i zs (rs.take k) ts)) (fun k => f6 (czs i zs rs ts k)) M vs ts pI pT cI cT hM.out hl.out hM9 hI1 hT1 hP.out.enters ?gF ?gc
        (RnJ w rec OB a8 a9 (OB + 1) (OB + 1 + 1) (OB + 1 + 1 + 1) (OB + 4) g n K ⟨xa, xb, xc, xd, xe, xf⟩ M pI pT cI cT vs ts IN IO (fun k => outN i (nxts i zs (rs.take (k + 1)) ts))) ?kp ?bx hJ1 ?round).mono ?post
      case gF => exact fun k hk W => run_czs hi hP.out hv.out hra.out hlr ht.out (by rw [hrl.out]; exact hk) W
      case gc =>
        intro k hk
        rw [hrk.out k hk (by rw [hrl.out, ← hM.out]; exact hk)]
        exact czs_over hi hv.out hra.out hlr ht.out (by rw [hrl.out, ← hM.out]; exact hk)
      case kp =>
        intro k A B h1 h2
        rw [zs2] at h2
        exact h1.kps hA.out h2
      case bx =>
        intro k W h1
        have := h1.boxes hI.out hT.out
        rw [← hx.out] at this
        exact this
      case post =>
        rintro e W' ⟨he, hJ⟩
        exact ⟨he, hJ.lp, rec, hJ⟩
      case round =>
        rw [zs2]
        intro k W hk hJ hbk
        refine yield_round hJ.lp (by rw [e4]; rfl) ?_
        rw [e1, e2, e3, e4]
        clear e1 e2 e3 e4
        obtain ⟨yk, hyk⟩ : ∃ y, f6 (nxts i zs (rs.take (k + 1)) ts) = y := ⟨_, rfl⟩
        have hol := outs_len hi hv.out hra.out hlr ht.out (k + 1)
        rw [hyk, hIN.out, hIO.out] at hol
        obtain ⟨ya, yb, yc, yd, ye, yf⟩ := yk
        simp only [hyk]
        unfold F6.v fr
        replace hyk := Lib.hid hyk
        replace hbk := Lib.hid hbk
        replace hol := Lib.hid hol
        gi_wp2_with fail
        obtain ⟨v, ps, hb, hr, hpsm⟩ := hJ.box
        obtain ⟨pv, nv, cv, rfl⟩ := own_sl hr.1
        have hl2 := hJ.lp
        have hbz : OB + 4 + 1 < W.heap.size := (Array.getElem?_eq_some_iff.1 hl2).1
        have hS2 := hbk.out.lt
        have hAo := hA.out.ob
        have hA8 := hA.out.b8
        have hA9 := hA.out.b9
        obtain ⟨W1, hW1⟩ : ∃ W1, W.alloc (.cells #[.int .i64 ya, .int .i64 yb, .int .i64 yc, .int .i64 yd, .int .i64 ye, .int .i64 yf] 65) = W1 := ⟨_, rfl⟩
        have hl1 : W1.heap[OB + 4 + 1]? = some (.loop rec) := by rw [← hW1]; exact (Below.heap_alloc _ _ _ hbz).trans hl2
        have s1 : W1.heap.size = W.heap.size + 1 := by rw [← hW1]; simp
        have hK1 : Kp [] W W1 := by rw [← hW1]; exact (Kp.refl _ W).alloc _
        have hX1 : Blk W1 W.heap.size 65 #[.int .i64 ya, .int .i64 yb, .int .i64 yc, .int .i64 yd, .int .i64 ye, .int .i64 yf] := by rw [← hW1]; exact Blk.new W _ _
        rw [hW1]
        refine ⟨_, run_beginRound hl1 e5, ?_⟩
        have hKp : Kp [OB + 4 + 1] W1 (W1.putObj (OB + 4 + 1) (.loop { rec with state := .busy })) := (Kp.refl _ _).grown (grownBy_putObj' _ _ _) (fun k e => by cases e; simp)
        obtain ⟨W2, hW2⟩ : ∃ W2, W1.putObj (OB + 4 + 1) (.loop { rec with state := .busy }) = W2 := ⟨_, rfl⟩
        have hlb : W2.heap[OB + 4 + 1]? = some (.loop { rec with state := .busy }) := by rw [← hW2]; exact World.putObj_heap_same (by omega)
        rw [hW2] at hKp ⊢
        have hK2 : Kp [OB + 4 + 1] W W2 := hK1.any.trans hKp
        have hX2 := hX1.kp hKp (by simp; omega)
        have hB2 : Boxed W2 OB 42 (.slice pv nv cv) := Blk.kp hb hK2 (by simp; omega)
        have hR2 := hr.kps hK2 (by simp; omega)
        have h82 := Blk.kp hJ.beg hK2 (by simp; omega)
        have h92 := Blk.kp hJ.en hK2 (by simp; omega)
        have s2 : W2.heap.size = W.heap.size + 1 := by rw [← hW2, ← s1]; simp [World.putObj]
        obtain ⟨bx, hbx⟩ : ∃ x, W.heap.size = x := ⟨_, rfl⟩
        rw [hbx] at hX2 s2 hbz hS2
        have cx0 : W2.cell? ⟨bx, 0, none⟩ = some (.int .i64 ya) := hX2.cell 0 rfl
        have cx1 : W2.cell? ⟨bx, 1, none⟩ = some (.int .i64 yb) := hX2.cell 1 rfl
        have cx2 : W2.cell? ⟨bx, 2, none⟩ = some (.int .i64 yc) := hX2.cell 2 rfl
        have cx3 : W2.cell? ⟨bx, 3, none⟩ = some (.int .i64 yd) := hX2.cell 3 rfl
        have cx4 : W2.cell? ⟨bx, 4, none⟩ = some (.int .i64 ye) := hX2.cell 4 rfl
        have cx5 : W2.cell? ⟨bx, 5, none⟩ = some (.int .i64 yf) := hX2.cell 5 rfl
        have c8 : W2.cell? ⟨a8, 0, none⟩ = some (.int .i64 IN) := h82.cell 0 rfl
        have c9 : W2.cell? ⟨a9, 0, none⟩ = some (.int .i64 IO) := h92.cell 0 rfl
        have cb : W2.cell? ⟨OB, 0, none⟩ = some (.slice pv nv cv) := hB2.cell
        have hcl : Hid (∀ W', Kp [] W2 W' → Calls Try.prog 32 #[.slice (some ⟨bx, IN, none⟩) (IO - IN) (6 - IN)] W' fun e w' => ∃ v', e = .returned v' ∧ w'.ownsRow W'.heap.size 3 1 v' (IO - IN) ((outN i (nxts i zs (rs.take (k + 1)) ts)).map (Value.int .i64)) ∧ Kp [] W' w') := by
          intro W' kw
          have hio := io_cases hi
          rw [hIN.out, hIO.out] at hio
          refine (Try.slices_Clone_int bx IN (IO - IN) (6 - IN) ([ya, yb, yc, yd, ye, yf].drop IN) W' (by simp; omega) (by omega) ?_).mono ?_
          · intro j hj
            have hj6 : IN + j < 6 := by simp at hj; omega
            rw [show ([ya, yb, yc, yd, ye, yf].drop IN).getD j 0 = [ya, yb, yc, yd, ye, yf].getD (IN + j) 0 by simp [List.getD_eq_getElem?_getD]]
            exact Is.row (x := ⟨ya, yb, yc, yd, ye, yf⟩) (Blk.kp hX2 kw (by simp)) (IN + j) hj6 ▸ (by rw [Nat.zero_add])
          · rintro e w' ⟨v', rfl, h1, -, h3⟩
            refine ⟨v', rfl, ?_, Kp.of_below h3⟩
            have := hol.out.1
            unfold F6.list at this
            rw [this] at h1
            exact h1
        replace hJ := Lib.hid hJ
        replace hX2 := Lib.hid hX2
        replace hB2 := Lib.hid hB2
        replace hR2 := Lib.hid hR2
        replace hK2 := Lib.hid hK2
        replace hlb := Lib.hid hlb
        replace hW2 := Lib.hid hW2
        replace hbx := Lib.hid hbx
        replace s2 := Lib.hid s2
        have hio := io_cases hi
        rw [hIN.out, hIO.out] at hio
        replace hio := Lib.hid hio
        have hi1 : ((IN : Int) ≤ (IO : Int)) := by have := hio.out; omega
        have hi2 : ((IO : Int) ≤ 6) := by have := hio.out; omega
        have hi3 : (0 : Int) ≤ (IN : Int) := by omega
        have hi4 : IN ≤ IO := by omega
        have hi5 : IO ≤ 6 := by omega
        have hi6 : ¬ 6 = IN := by have := hio.out; omega
        clear hb hr hl2 hW1 hl1 s1 hK1 hX1 hKp h82 h92
        gi_wp2_with fail
        refine wpIn_region_any (by kernel_rfl) ?_
        change wpAnyIn _ _ _ _ _ _ _ _ _ (World.drew _)
        rw [hbx.out]
        refine lat10 (IN := IN) (IO := IO) (pv := pv) (nv := nv) (cv := cv) (XS := (outN i (nxts i zs (rs.take (k + 1)) ts)).map (Value.int .i64)) ?_ ?_ ?_ ?_ ?_ ?_ ?_ ?_ ?_ ?_ ?_ ?_ ?_ ?_
        · intro kCm012345x pu nu cu w hu hkw
          unfold Cm012345x at kCm012345x
          have cb2 : (w.alloc (.cells #[.slice pu nu cu] 22)).cell? ⟨OB, 0, none⟩ = some (.slice pv nv cv) := (hkw.alloc _).cell cb (by simp)
          refine wpAnyIn_ready (rs := [0]) (by kernel_rfl) (by simp) ?_
          refine AllReadyIn.cons rfl (fun K9 hK => ?_) ?_
          · replace hK := Lib.hid hK
            go_simp
            refine hK.out _ _ ?_
            try simp only [Act.put, List.setIfInBounds_toArray, List.set_cons_zero, List.set_cons_succ]
            exact kCm012345x _ _ _ _ hu hkw
          exact AllReadyIn.nil
        · intro kCm012345x pu nu cu w hu hkw
          unfold Cm012345x at kCm012345x
          refine wpAnyIn_ready (rs := [5]) (by kernel_rfl) (by simp) ?_
          refine AllReadyIn.cons rfl (fun K9 hK => ?_) ?_
          · replace hK := Lib.hid hK
            go_simp
            refine hK.out _ _ ?_
            try simp only [Act.put, List.setIfInBounds_toArray, List.set_cons_zero, List.set_cons_succ]
            exact kCm012345x _ _ _ _ hu hkw
          exact AllReadyIn.nil
        · intro kCm01234x kCm12345x pu nu cu w hu hkw
          unfold Cm01234x at kCm01234x
          unfold Cm12345x at kCm12345x
          have cb2 : w.cell? ⟨OB, 0, none⟩ = some (.slice pv nv cv) := hkw.cell cb (by simp)
          refine wpAnyIn_ready (rs := [0, 5]) (by kernel_rfl) (by simp) ?_
          refine AllReadyIn.cons rfl (fun K9 hK => ?_) ?_
          · replace hK := Lib.hid hK
            go_simp
            refine hK.out _ _ ?_
            try simp only [Act.put, List.setIfInBounds_toArray, List.set_cons_zero, List.set_cons_succ]
            exact kCm01234x _ _ _ _ hu hkw
          refine AllReadyIn.cons rfl (fun K9 hK => ?_) ?_
          · replace hK := Lib.hid hK
            go_simp
            refine hK.out _ _ ?_
            try simp only [Act.put, List.setIfInBounds_toArray, List.set_cons_zero, List.set_cons_succ]
            exact kCm12345x _ _ _ _ hu hkw
          exact AllReadyIn.nil
        · intro kCm01234x
          unfold Cm01234x at kCm01234x
          show wpAnyIn _ _ _ _ _ _ _ _ _ _
          refine wpAnyIn_ready (rs := [4]) (by kernel_rfl) (by simp) ?_
          refine AllReadyIn.cons rfl (fun K9 hK => ?_) ?_
          · replace hK := Lib.hid hK
            go_simp
            refine ⟨trivial, rfl, (CallsIn.inRound _ (callsIn_wide.2 (hcl.out _ (Kp.refl [] W2).drew))).mono ?_⟩
            rintro e9 w9' ⟨v9, rfl, hu, hkw⟩
            obtain ⟨pu, nu, cu, rfl⟩ := own_sl hu
            refine hK.out _ _ ?_
            try simp only [Act.put, List.setIfInBounds_toArray, List.set_cons_zero, List.set_cons_succ]
            exact kCm01234x _ _ _ _ hu hkw
          exact AllReadyIn.nil
        · intro kCm0123x kCm1234x
          unfold Cm0123x at kCm0123x
          unfold Cm1234x at kCm1234x
          show wpAnyIn _ _ _ _ _ _ _ _ _ _
          refine wpAnyIn_ready (rs := [0, 4]) (by kernel_rfl) (by simp) ?_
          refine AllReadyIn.cons rfl (fun K9 hK => ?_) ?_
          · replace hK := Lib.hid hK
            go_simp
            refine hK.out _ _ ?_
            try simp only [Act.put, List.setIfInBounds_toArray, List.set_cons_zero, List.set_cons_succ]
            exact kCm0123x
          refine AllReadyIn.cons rfl (fun K9 hK => ?_) ?_
          · replace hK := Lib.hid hK
            go_simp
            refine ⟨trivial, rfl, (CallsIn.inRound _ (callsIn_wide.2 (hcl.out _ (Kp.refl [] W2).drew))).mono ?_⟩
            rintro e9 w9' ⟨v9, rfl, hu, hkw⟩
            obtain ⟨pu, nu, cu, rfl⟩ := own_sl hu
            refine hK.out _ _ ?_
            try simp only [Act.put, List.setIfInBounds_toArray, List.set_cons_zero, List.set_cons_succ]
            exact kCm1234x _ _ _ _ hu hkw
          exact AllReadyIn.nil
        · intro kCm0123x
          unfold Cm0123x at kCm0123x
          show wpAnyIn _ _ _ _ _ _ _ _ _ _
          refine wpAnyIn_ready (rs := [3]) (by kernel_rfl) (by simp) ?_
          refine AllReadyIn.cons rfl (fun K9 hK => ?_) ?_
          · replace hK := Lib.hid hK
            go_simp
            refine hK.out _ _ ?_
            try simp only [Act.put, List.setIfInBounds_toArray, List.set_cons_zero, List.set_cons_succ]
            try rw [if_neg hi6]
            exact kCm0123x
          exact AllReadyIn.nil
        · intro kCm012x kCm123x
          unfold Cm012x at kCm012x
          unfold Cm123x at kCm123x
          show wpAnyIn _ _ _ _ _ _ _ _ _ _
          refine wpAnyIn_ready (rs := [0, 3]) (by kernel_rfl) (by simp) ?_
          refine AllReadyIn.cons rfl (fun K9 hK => ?_) ?_
          · replace hK := Lib.hid hK
            go_simp
            refine hK.out _ _ ?_
            try simp only [Act.put, List.setIfInBounds_toArray, List.set_cons_zero, List.set_cons_succ]
            exact kCm012x
          refine AllReadyIn.cons rfl (fun K9 hK => ?_) ?_
          · replace hK := Lib.hid hK
            go_simp
            refine hK.out _ _ ?_
            try simp only [Act.put, List.setIfInBounds_toArray, List.set_cons_zero, List.set_cons_succ]
            try rw [if_neg hi6]
            exact kCm123x
          exact AllReadyIn.nil
        · intro kCm012x
          unfold Cm012x at kCm012x
          show wpAnyIn _ _ _ _ _ _ _ _ _ _
          refine wpAnyIn_ready (rs := [1]) (by kernel_rfl) (by simp) ?_
          refine AllReadyIn.cons rfl (fun K9 hK => ?_) ?_
          · replace hK := Lib.hid hK
            go_simp
            refine hK.out _ _ ?_
            try simp only [Act.put, List.setIfInBounds_toArray, List.set_cons_zero, List.set_cons_succ]
            exact kCm012x
          exact AllReadyIn.nil
        · intro kCm012x
          unfold Cm012x at kCm012x
          show wpAnyIn _ _ _ _ _ _ _ _ _ _
          refine wpAnyIn_ready (rs := [2]) (by kernel_rfl) (by simp) ?_
          refine AllReadyIn.cons rfl (fun K9 hK => ?_) ?_
          · replace hK := Lib.hid hK
            go_simp
            refine hK.out _ _ ?_
            try simp only [Act.put, List.setIfInBounds_toArray, List.set_cons_zero, List.set_cons_succ]
            exact kCm012x
          exact AllReadyIn.nil
        · intro kCm02x kCm12x
          unfold Cm02x at kCm02x
          unfold Cm12x at kCm12x
          show wpAnyIn _ _ _ _ _ _ _ _ _ _
          refine wpAnyIn_ready (rs := [0, 1]) (by kernel_rfl) (by simp) ?_
          refine AllReadyIn.cons rfl (fun K9 hK => ?_) ?_
          · replace hK := Lib.hid hK
            go_simp
            refine hK.out _ _ ?_
            try simp only [Act.put, List.setIfInBounds_toArray, List.set_cons_zero, List.set_cons_succ]
            exact kCm02x
          refine AllReadyIn.cons rfl (fun K9 hK => ?_) ?_
          · replace hK := Lib.hid hK
            go_simp
            refine hK.out _ _ ?_
            try simp only [Act.put, List.setIfInBounds_toArray, List.set_cons_zero, List.set_cons_succ]
            exact kCm12x
          exact AllReadyIn.nil
        · intro kCm01x kCm12x
          unfold Cm01x at kCm01x
          unfold Cm12x at kCm12x
          show wpAnyIn _ _ _ _ _ _ _ _ _ _
          refine wpAnyIn_ready (rs := [0, 2]) (by kernel_rfl) (by simp) ?_
          refine AllReadyIn.cons rfl (fun K9 hK => ?_) ?_
          · replace hK := Lib.hid hK
            go_simp
            refine hK.out _ _ ?_
            try simp only [Act.put, List.setIfInBounds_toArray, List.set_cons_zero, List.set_cons_succ]
            exact kCm01x
          refine AllReadyIn.cons rfl (fun K9 hK => ?_) ?_
          · replace hK := Lib.hid hK
            go_simp
            refine hK.out _ _ ?_
            try simp only [Act.put, List.setIfInBounds_toArray, List.set_cons_zero, List.set_cons_succ]
            exact kCm12x
          exact AllReadyIn.nil
        · intro kCm01x kCm02x
          unfold Cm01x at kCm01x
          unfold Cm02x at kCm02x
          show wpAnyIn _ _ _ _ _ _ _ _ _ _
          refine wpAnyIn_ready (rs := [1, 2]) (by kernel_rfl) (by simp) ?_
          refine AllReadyIn.cons rfl (fun K9 hK => ?_) ?_
          · replace hK := Lib.hid hK
            go_simp
            refine hK.out _ _ ?_
            try simp only [Act.put, List.setIfInBounds_toArray, List.set_cons_zero, List.set_cons_succ]
            exact kCm01x
          refine AllReadyIn.cons rfl (fun K9 hK => ?_) ?_
          · replace hK := Lib.hid hK
            go_simp
            refine hK.out _ _ ?_
            try simp only [Act.put, List.setIfInBounds_toArray, List.set_cons_zero, List.set_cons_succ]
            exact kCm02x
          exact AllReadyIn.nil
        · intro kCm0x kCm1x kCm2x
          unfold Cm0x at kCm0x
          unfold Cm1x at kCm1x
          unfold Cm2x at kCm2x
          show wpAnyIn _ _ _ _ _ _ _ _ _ _
          refine wpAnyIn_ready (rs := [0, 1, 2]) (by kernel_rfl) (by simp) ?_
          refine AllReadyIn.cons rfl (fun K9 hK => ?_) ?_
          · replace hK := Lib.hid hK
            go_simp
            refine hK.out _ _ ?_
            try simp only [Act.put, List.setIfInBounds_toArray, List.set_cons_zero, List.set_cons_succ]
            exact kCm0x
          refine AllReadyIn.cons rfl (fun K9 hK => ?_) ?_
          · replace hK := Lib.hid hK
            go_simp
            refine hK.out _ _ ?_
            try simp only [Act.put, List.setIfInBounds_toArray, List.set_cons_zero, List.set_cons_succ]
            exact kCm1x
          refine AllReadyIn.cons rfl (fun K9 hK => ?_) ?_
          · replace hK := Lib.hid hK
            go_simp
            refine hK.out _ _ ?_
            try simp only [Act.put, List.setIfInBounds_toArray, List.set_cons_zero, List.set_cons_succ]
            exact kCm2x
          exact AllReadyIn.nil
        · intro pu nu cu w9' hu hkw
          have hup := hu
          have hKu : Kp [OB + 4 + 1] W2 w9' := ((Kp.refl [OB + 4 + 1] W2).drew).trans hkw.any
          have hlu : w9'.heap[OB + 4 + 1]? = some (.loop { rec with state := .busy }) := hkw.heap hlb.out (by simp)
          have hBu : Boxed w9' OB 42 (.slice pv nv cv) := hkw.heap hB2.out (by simp)
          have hRu : Rws w9' (OB + 4 + 3) (.slice pv nv cv) ps := Rws.kp (show Rws W2.drew _ _ _ from hR2.out) hkw
          have hsw : OB + 4 + 3 ≤ W2.drew.heap.size := by show OB + 4 + 3 ≤ W2.heap.size; rw [s2.out]; omega
          have hou := own_base hu hsw
          have hpl : ps.length ≤ 1000 := by have := congrArg List.length hpsm; rw [List.length_map, List.length_map, List.length_range] at this; omega
          obtain ⟨i1, hj0, hj1, hj2, hj3⟩ := info_parts infoSm
          have hnew := slc_cell w9' (.slice pu nu cu)
          have hRa := hRu.1.alloc (.cells #[.slice pu nu cu] 22)
          refine wpAnyIn_ready (rs := [6]) (by kernel_rfl) (by simp) ?_
          refine AllReadyIn.cons rfl (fun K9 hK => ?_) AllReadyIn.nil
          replace hK := Lib.hid hK
          refine step_append_in rfl (.tmp 56) (.tmp 61) 42 rfl (OB + 4 + 3) 22 i1 _ 1 24 Try.underlying42 hj0 hj1 hj2 hj3 rfl (by decide) _ _ _ rfl hRa ⟨w9'.heap.size, 0, none⟩ 1 1 [.slice pu nu cu] rfl rfl hnew (slc_one _ _ _) (by unfold maxLen; omega) (by omega) (Nat.le_trans hsw (Nat.le_trans hkw.size (by simp))) ?_
          intro v' w5 hown' hgrow
          obtain ⟨pw, nw, cw, rfl⟩ := own_sl hown'
          refine hK.out _ _ ?_
          try simp only [Act.put, List.setIfInBounds_toArray, List.set_cons_zero, List.set_cons_succ]
          have hv1 := (hBu.alloc (.cells #[.slice pu nu cu] 22)).kept hgrow (hBu.not_row (by decide) hRu.1)
          have cv1 := hv1.cell
          have fv1 := hv1.frozen
          refine wpAnyIn_ready (rs := [7]) (by kernel_rfl) (by simp) ?_
          refine AllReadyIn.cons rfl (fun K9 hK => ?_) AllReadyIn.nil
          replace hK := Lib.hid hK
          go_simp
          refine hK.out _ _ ?_
          refine wpAnyIn_done (by kernel_rfl) ?_ _
          have hu2 : w9'.ownsRow (OB + 4 + 3) 3 1 (.slice pu nu cu) (outN i (nxts i zs (rs.take (k + 1)) ts)).length ((outN i (nxts i zs (rs.take (k + 1)) ts)).map (Value.int .i64)) := by rw [hol.out.2]; exact hou
          exact RnJ.round (a := { tmps := #[], defers := [] }) (zz := fun k => outN i (nxts i zs (rs.take (k + 1)) ts)) 0 (by rw [hbx.out]; exact hS2) hA.out hJ.out e5 e6 (hK2.out.trans hKu) hlu hBu hRu hpsm hu2 hown' hgrow
    case done =>
      rintro rec W' hl9 ⟨rec', hJ⟩
      obtain ⟨tv, ps, hb, hr, hpm⟩ := hJ.box
      obtain ⟨W2, hW2⟩ : ∃ W2, W'.putObj (W0.heap.size + 1) (.loop { rec with state := .exhausted }) = W2 := ⟨_, rfl⟩
      rw [z0.out] at hW2
      obtain ⟨pv, nv, cv, rfl⟩ := own_sl hr.1
      have hAo := hA.out.ob
      have hB2 : Boxed W2 OB 42 (.slice pv nv cv) := by rw [← hW2]; exact (World.putObj_heap_other (by omega)).trans hb
      have hD2 : W2.heap[OB + 4]? = some (.deferred (some [])) := by rw [← hW2]; exact (World.putObj_heap_other (by omega)).trans hJ.dfr
      have hR2 : Rws W2 (OB + 4 + 3) (.slice pv nv cv) ps := by
        rw [← hW2]
        exact hr.kps (S := [OB + 4 + 1]) ((Kp.refl _ _).grown (grownBy_putObj' _ _ _) (fun k e => by cases e; exact .inl (by simp))) (by simp; omega)
      have hBe : Below w.heap.size w W2 := by rw [← hW2]; exact hJ.bel.grown (grownBy_putObj' _ _ _) hJ.bel.size (fun k e => by cases e; have := hA.out.le0; omega)
      have hfin : ps.map Prod.snd = runR i zs rs ts := by
        rw [hpm, ← runR_range i zs rs ts (by rw [hrl.out, hl.out]; exact Nat.le_refl _) M (by rw [hrl.out]; exact Nat.le_refl _), List.take_of_length_le (by rw [hrl.out]; exact Nat.le_refl _)]
      have hle0 := hA.out.le0
      rw [z0.out, hW2]
      have cb := hB2.cell
      replace hR2 := Lib.hid hR2
      replace hBe := Lib.hid hBe
      replace hfin := Lib.hid hfin
      clear hW2 hb hr hJ hpm hB2 hl9
      gi_wp2_with fail
      refine ⟨by simp, .inl ⟨_, _, rfl, run_takeDeferred (by exact hD2), ?_⟩⟩
      refine ⟨_, results_tmp2 rfl _ _ _, ?_⟩
      refine ⟨_, OB + 4 + 3, ps, rfl, ?_, hfin.out, ?_⟩
      · exact hR2.out.kps (S := [OB + 4]) ((Kp.refl _ _).grown (grownBy_putObj' _ _ _) (fun k e => by cases e; exact .inl (by simp))) (by simp; omega)
      · exact Kp.of_below (hBe.out.trans (belowK_b (w := w) (Nat.le_refl _) W2 _ _ _ (by omega) hD2 rfl rfl))
end Go.Proofs.Ytieacfenoomaeaa
