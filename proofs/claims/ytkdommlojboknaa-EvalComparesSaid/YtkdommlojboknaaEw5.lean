import Derived.Test.YtkdommlojboknaaEv15
import Derived.LoopN
namespace Go.Proofs.Ytkdommlojboknaa
open Go.RowKit

theorem Gr.setCell {a w : World} (h : Gr a w) {p : Addr} (hp : a.heap.size ≤ p.block) (u : Value) : Gr a (w.setCell p u) :=
  ⟨h.kp.setCell (.inr hp) u, fun x => (World.frozen?_setCell _ _ _ _).trans (h.fz x)⟩
theorem not_0 (w : World) : Calls Try.prog 8 #[.int .i64 6, .int .i64 0] w fun e w' => e = .returned (.tuple #[.int .i64 1, .int .i64 0]) ∧ Gr w w' :=
  (un_6 0 w rfl).mono fun e w' h => ⟨h.1.trans (by kernel_rfl), h.2⟩
theorem not_1 (w : World) : Calls Try.prog 8 #[.int .i64 6, .int .i64 1] w fun e w' => e = .returned (.tuple #[.int .i64 0, .int .i64 0]) ∧ Gr w w' :=
  (un_6 1 w rfl).mono fun e w' h => ⟨h.1.trans (by kernel_rfl), h.2⟩
set_option maxRecDepth 100000 in
set_option maxHeartbeats 4000000 in
theorem compares_lt (a b x y : Int) (w : World) (ha : Hid (wrap32 x = a)) (hb : Hid (wrap32 y = b))
    (c13 : Hid (∀ w : World, Calls Try.prog 10 #[.int .i64 13, .int .i64 a, .int .i64 b] w fun e w' => e = .returned (.tuple #[.int .i64 1, .int .i64 0, .int .i64 0]) ∧ Gr w w'))
    (c11 : Hid (∀ w : World, Calls Try.prog 10 #[.int .i64 11, .int .i64 a, .int .i64 b] w fun e w' => e = .returned (.tuple #[.int .i64 0, .int .i64 0, .int .i64 0]) ∧ Gr w w'))
    (c15 : Hid (∀ w : World, Calls Try.prog 10 #[.int .i64 15, .int .i64 a, .int .i64 b] w fun e w' => e = .returned (.tuple #[.int .i64 0, .int .i64 0, .int .i64 0]) ∧ Gr w w'))
    (c16 : Hid (∀ w : World, Calls Try.prog 10 #[.int .i64 16, .int .i64 a, .int .i64 b] w fun e w' => e = .returned (.tuple #[.int .i64 0, .int .i64 0, .int .i64 0]) ∧ Gr w w'))
    (c12 : Hid (∀ w : World, Calls Try.prog 10 #[.int .i64 12, .int .i64 a, .int .i64 b] w fun e w' => e = .returned (.tuple #[.int .i64 1, .int .i64 0, .int .i64 0]) ∧ Gr w w'))
    (c14 : Hid (∀ w : World, Calls Try.prog 10 #[.int .i64 14, .int .i64 a, .int .i64 b] w fun e w' => e = .returned (.tuple #[.int .i64 1, .int .i64 0, .int .i64 0]) ∧ Gr w w'))
    : Calls Try.prog 7 #[.int .i64 x, .int .i64 y] w fun e w' => e = .returned (.bool true) ∧ Gr w w' := by
  have O0 : Blk ((w.alloc (.cells #[.int .i64 13, .int .i64 11, .int .i64 15, .int .i64 16, .int .i64 12, .int .i64 14] 46)).alloc (.cells #[.int .i64 0, .int .i64 0, .int .i64 0, .int .i64 0, .int .i64 0, .int .i64 0] 46)) w.heap.size 46 #[.int .i64 13, .int .i64 11, .int .i64 15, .int .i64 16, .int .i64 12, .int .i64 14] := (Blk.new w _ _).alloc _
  have G0 : Blk ((w.alloc (.cells #[.int .i64 13, .int .i64 11, .int .i64 15, .int .i64 16, .int .i64 12, .int .i64 14] 46)).alloc (.cells #[.int .i64 0, .int .i64 0, .int .i64 0, .int .i64 0, .int .i64 0, .int .i64 0] 46)) (w.heap.size + 1) 46 #[.int .i64 0, .int .i64 0, .int .i64 0, .int .i64 0, .int .i64 0, .int .i64 0] := blk_at (by simp) _ _
  have T0 : Gr w ((w.alloc (.cells #[.int .i64 13, .int .i64 11, .int .i64 15, .int .i64 16, .int .i64 12, .int .i64 14] 46)).alloc (.cells #[.int .i64 0, .int .i64 0, .int .i64 0, .int .i64 0, .int .i64 0, .int .i64 0] 46)) := ((Gr.refl w).cells _ _).cells _ _
  have hne : w.heap.size ≠ w.heap.size + 1 := by omega
  replace O0 := Lib.hid O0
  replace G0 := Lib.hid G0
  replace T0 := Lib.hid T0
  replace hne := Lib.hid hne
  go_enter Try.func7, Try.ntmps7
  go_wp2_with fail
  refine (rwrap_c x _).mono ?_
  rintro e w' ⟨rfl, rfl⟩
  rw [ha.out]
  go_wp2_with fail
  refine (rwrap_c y _).mono ?_
  rintro e w' ⟨rfl, rfl⟩
  rw [hb.out]
  go_wp2_with fail
  refine wp_loop_rounds 7 ?_
  rw [rounds_succ]
  go_wp2_with fail
  refine (c13.out _).mono ?_
  rintro e u0 ⟨rfl, h⟩
  have O := O0.out.kp h.kp (by simp)
  have G := G0.out.kp h.kp (by simp)
  have hc := G.cell 0 rfl
  have hf := G.frozen 0
  have O1 := Lib.hid (O.other (p := ⟨w'.heap.size + 1, 0, none⟩) hne.out (.int .i64 1))
  have G1 : Hid (Blk (u0.setCell ⟨w'.heap.size + 1, 0, none⟩ (.int .i64 1)) (w'.heap.size + 1) 46 #[.int .i64 1, .int .i64 0, .int .i64 0, .int .i64 0, .int .i64 0, .int .i64 0]) := G.set 0 (.int .i64 1)
  have T1 : Hid (Gr w' (u0.setCell ⟨w'.heap.size + 1, 0, none⟩ (.int .i64 1))) := (T0.out.trans h).setCell (by simp) _
  have hO := O1.out.cell 1 rfl
  clear O G h O0 G0 T0
  go_wp2_with fail
  rw [rounds_succ]
  go_wp2_with fail
  refine (c11.out _).mono ?_
  rintro e u1 ⟨rfl, h⟩
  have O := O1.out.kp h.kp (by simp)
  have G := G1.out.kp h.kp (by simp)
  have hc := G.cell 1 rfl
  have hf := G.frozen 1
  have O2 := Lib.hid (O.other (p := ⟨w'.heap.size + 1, 1, none⟩) hne.out (.int .i64 0))
  have G2 : Hid (Blk (u1.setCell ⟨w'.heap.size + 1, 1, none⟩ (.int .i64 0)) (w'.heap.size + 1) 46 #[.int .i64 1, .int .i64 0, .int .i64 0, .int .i64 0, .int .i64 0, .int .i64 0]) := G.set 1 (.int .i64 0)
  have T2 : Hid (Gr w' (u1.setCell ⟨w'.heap.size + 1, 1, none⟩ (.int .i64 0))) := (T1.out.trans h).setCell (by simp) _
  have hO := O2.out.cell 2 rfl
  clear O G h O1 G1 T1
  go_wp2_with fail
  rw [rounds_succ]
  go_wp2_with fail
  refine (c15.out _).mono ?_
  rintro e u2 ⟨rfl, h⟩
  have O := O2.out.kp h.kp (by simp)
  have G := G2.out.kp h.kp (by simp)
  have hc := G.cell 2 rfl
  have hf := G.frozen 2
  have O3 := Lib.hid (O.other (p := ⟨w'.heap.size + 1, 2, none⟩) hne.out (.int .i64 0))
  have G3 : Hid (Blk (u2.setCell ⟨w'.heap.size + 1, 2, none⟩ (.int .i64 0)) (w'.heap.size + 1) 46 #[.int .i64 1, .int .i64 0, .int .i64 0, .int .i64 0, .int .i64 0, .int .i64 0]) := G.set 2 (.int .i64 0)
  have T3 : Hid (Gr w' (u2.setCell ⟨w'.heap.size + 1, 2, none⟩ (.int .i64 0))) := (T2.out.trans h).setCell (by simp) _
  have hO := O3.out.cell 3 rfl
  clear O G h O2 G2 T2
  go_wp2_with fail
  rw [rounds_succ]
  go_wp2_with fail
  refine (c16.out _).mono ?_
  rintro e u3 ⟨rfl, h⟩
  have O := O3.out.kp h.kp (by simp)
  have G := G3.out.kp h.kp (by simp)
  have hc := G.cell 3 rfl
  have hf := G.frozen 3
  have O4 := Lib.hid (O.other (p := ⟨w'.heap.size + 1, 3, none⟩) hne.out (.int .i64 0))
  have G4 : Hid (Blk (u3.setCell ⟨w'.heap.size + 1, 3, none⟩ (.int .i64 0)) (w'.heap.size + 1) 46 #[.int .i64 1, .int .i64 0, .int .i64 0, .int .i64 0, .int .i64 0, .int .i64 0]) := G.set 3 (.int .i64 0)
  have T4 : Hid (Gr w' (u3.setCell ⟨w'.heap.size + 1, 3, none⟩ (.int .i64 0))) := (T3.out.trans h).setCell (by simp) _
  have hO := O4.out.cell 4 rfl
  clear O G h O3 G3 T3
  go_wp2_with fail
  rw [rounds_succ]
  go_wp2_with fail
  refine (c12.out _).mono ?_
  rintro e u4 ⟨rfl, h⟩
  have O := O4.out.kp h.kp (by simp)
  have G := G4.out.kp h.kp (by simp)
  have hc := G.cell 4 rfl
  have hf := G.frozen 4
  have O5 := Lib.hid (O.other (p := ⟨w'.heap.size + 1, 4, none⟩) hne.out (.int .i64 1))
  have G5 : Hid (Blk (u4.setCell ⟨w'.heap.size + 1, 4, none⟩ (.int .i64 1)) (w'.heap.size + 1) 46 #[.int .i64 1, .int .i64 0, .int .i64 0, .int .i64 0, .int .i64 1, .int .i64 0]) := G.set 4 (.int .i64 1)
  have T5 : Hid (Gr w' (u4.setCell ⟨w'.heap.size + 1, 4, none⟩ (.int .i64 1))) := (T4.out.trans h).setCell (by simp) _
  have hO := O5.out.cell 5 rfl
  clear O G h O4 G4 T4
  go_wp2_with fail
  rw [rounds_succ]
  go_wp2_with fail
  refine (c14.out _).mono ?_
  rintro e u5 ⟨rfl, h⟩
  have O := O5.out.kp h.kp (by simp)
  have G := G5.out.kp h.kp (by simp)
  have hc := G.cell 5 rfl
  have hf := G.frozen 5
  have O6 := Lib.hid (O.other (p := ⟨w'.heap.size + 1, 5, none⟩) hne.out (.int .i64 1))
  have G6 : Hid (Blk (u5.setCell ⟨w'.heap.size + 1, 5, none⟩ (.int .i64 1)) (w'.heap.size + 1) 46 #[.int .i64 1, .int .i64 0, .int .i64 0, .int .i64 0, .int .i64 1, .int .i64 1]) := G.set 5 (.int .i64 1)
  have T6 : Hid (Gr w' (u5.setCell ⟨w'.heap.size + 1, 5, none⟩ (.int .i64 1))) := (T5.out.trans h).setCell (by simp) _
  clear O G h O5 G5 T5
  go_wp2_with fail
  rw [rounds_succ]
  go_wp2_with fail
  refine wp_loop_rounds 4 ?_
  have g0 := G6.out.cell 0 rfl
  have g1 := G6.out.cell 1 rfl
  have g2 := G6.out.cell 2 rfl
  have g3 := G6.out.cell 3 rfl
  have g4 := G6.out.cell 4 rfl
  have g5 := G6.out.cell 5 rfl
  rw [rounds_succ]
  go_wp2_with fail
  refine (not_1 _).mono ?_
  rintro e v0 ⟨rfl, h⟩
  have G7 : Hid (Blk v0 (w'.heap.size + 1) 46 #[.int .i64 1, .int .i64 0, .int .i64 0, .int .i64 0, .int .i64 1, .int .i64 1]) := G6.out.kp h.kp (by simp)
  have T7 : Hid (Gr w' v0) := T6.out.trans h
  clear g0 g1 g2 g3 g4 g5 h G6 T6
  have g0 := G7.out.cell 0 rfl
  have g1 := G7.out.cell 1 rfl
  have g2 := G7.out.cell 2 rfl
  have g3 := G7.out.cell 3 rfl
  have g4 := G7.out.cell 4 rfl
  have g5 := G7.out.cell 5 rfl
  go_wp2_with fail
  rw [rounds_succ]
  go_wp2_with fail
  refine (not_0 _).mono ?_
  rintro e v1 ⟨rfl, h⟩
  have G8 : Hid (Blk v1 (w'.heap.size + 1) 46 #[.int .i64 1, .int .i64 0, .int .i64 0, .int .i64 0, .int .i64 1, .int .i64 1]) := G7.out.kp h.kp (by simp)
  have T8 : Hid (Gr w' v1) := T7.out.trans h
  clear g0 g1 g2 g3 g4 g5 h G7 T7
  have g0 := G8.out.cell 0 rfl
  have g1 := G8.out.cell 1 rfl
  have g2 := G8.out.cell 2 rfl
  have g3 := G8.out.cell 3 rfl
  have g4 := G8.out.cell 4 rfl
  have g5 := G8.out.cell 5 rfl
  go_wp2_with fail
  rw [rounds_succ]
  go_wp2_with fail
  refine (not_0 _).mono ?_
  rintro e v2 ⟨rfl, h⟩
  have G9 : Hid (Blk v2 (w'.heap.size + 1) 46 #[.int .i64 1, .int .i64 0, .int .i64 0, .int .i64 0, .int .i64 1, .int .i64 1]) := G8.out.kp h.kp (by simp)
  have T9 : Hid (Gr w' v2) := T8.out.trans h
  clear g0 g1 g2 g3 g4 g5 h G8 T8
  have g0 := G9.out.cell 0 rfl
  have g1 := G9.out.cell 1 rfl
  have g2 := G9.out.cell 2 rfl
  have g3 := G9.out.cell 3 rfl
  have g4 := G9.out.cell 4 rfl
  have g5 := G9.out.cell 5 rfl
  go_wp2_with fail
  rw [rounds_succ]
  go_wp2_with fail
  refine (awake_c _).mono ?_
  rintro e w4 ⟨rfl, h4⟩
  go_wp2_with fail
  go_ret
  exact ⟨rfl, T9.out.trans h4⟩
set_option maxRecDepth 100000 in
set_option maxHeartbeats 4000000 in
theorem compares_eq (a b x y : Int) (w : World) (ha : Hid (wrap32 x = a)) (hb : Hid (wrap32 y = b))
    (c13 : Hid (∀ w : World, Calls Try.prog 10 #[.int .i64 13, .int .i64 a, .int .i64 b] w fun e w' => e = .returned (.tuple #[.int .i64 0, .int .i64 0, .int .i64 0]) ∧ Gr w w'))
    (c11 : Hid (∀ w : World, Calls Try.prog 10 #[.int .i64 11, .int .i64 a, .int .i64 b] w fun e w' => e = .returned (.tuple #[.int .i64 1, .int .i64 0, .int .i64 0]) ∧ Gr w w'))
    (c15 : Hid (∀ w : World, Calls Try.prog 10 #[.int .i64 15, .int .i64 a, .int .i64 b] w fun e w' => e = .returned (.tuple #[.int .i64 0, .int .i64 0, .int .i64 0]) ∧ Gr w w'))
    (c16 : Hid (∀ w : World, Calls Try.prog 10 #[.int .i64 16, .int .i64 a, .int .i64 b] w fun e w' => e = .returned (.tuple #[.int .i64 1, .int .i64 0, .int .i64 0]) ∧ Gr w w'))
    (c12 : Hid (∀ w : World, Calls Try.prog 10 #[.int .i64 12, .int .i64 a, .int .i64 b] w fun e w' => e = .returned (.tuple #[.int .i64 0, .int .i64 0, .int .i64 0]) ∧ Gr w w'))
    (c14 : Hid (∀ w : World, Calls Try.prog 10 #[.int .i64 14, .int .i64 a, .int .i64 b] w fun e w' => e = .returned (.tuple #[.int .i64 1, .int .i64 0, .int .i64 0]) ∧ Gr w w'))
    : Calls Try.prog 7 #[.int .i64 x, .int .i64 y] w fun e w' => e = .returned (.bool true) ∧ Gr w w' := by
  have O0 : Blk ((w.alloc (.cells #[.int .i64 13, .int .i64 11, .int .i64 15, .int .i64 16, .int .i64 12, .int .i64 14] 46)).alloc (.cells #[.int .i64 0, .int .i64 0, .int .i64 0, .int .i64 0, .int .i64 0, .int .i64 0] 46)) w.heap.size 46 #[.int .i64 13, .int .i64 11, .int .i64 15, .int .i64 16, .int .i64 12, .int .i64 14] := (Blk.new w _ _).alloc _
  have G0 : Blk ((w.alloc (.cells #[.int .i64 13, .int .i64 11, .int .i64 15, .int .i64 16, .int .i64 12, .int .i64 14] 46)).alloc (.cells #[.int .i64 0, .int .i64 0, .int .i64 0, .int .i64 0, .int .i64 0, .int .i64 0] 46)) (w.heap.size + 1) 46 #[.int .i64 0, .int .i64 0, .int .i64 0, .int .i64 0, .int .i64 0, .int .i64 0] := blk_at (by simp) _ _
  have T0 : Gr w ((w.alloc (.cells #[.int .i64 13, .int .i64 11, .int .i64 15, .int .i64 16, .int .i64 12, .int .i64 14] 46)).alloc (.cells #[.int .i64 0, .int .i64 0, .int .i64 0, .int .i64 0, .int .i64 0, .int .i64 0] 46)) := ((Gr.refl w).cells _ _).cells _ _
  have hne : w.heap.size ≠ w.heap.size + 1 := by omega
  replace O0 := Lib.hid O0
  replace G0 := Lib.hid G0
  replace T0 := Lib.hid T0
  replace hne := Lib.hid hne
  go_enter Try.func7, Try.ntmps7
  go_wp2_with fail
  refine (rwrap_c x _).mono ?_
  rintro e w' ⟨rfl, rfl⟩
  rw [ha.out]
  go_wp2_with fail
  refine (rwrap_c y _).mono ?_
  rintro e w' ⟨rfl, rfl⟩
  rw [hb.out]
  go_wp2_with fail
  refine wp_loop_rounds 7 ?_
  rw [rounds_succ]
  go_wp2_with fail
  refine (c13.out _).mono ?_
  rintro e u0 ⟨rfl, h⟩
  have O := O0.out.kp h.kp (by simp)
  have G := G0.out.kp h.kp (by simp)
  have hc := G.cell 0 rfl
  have hf := G.frozen 0
  have O1 := Lib.hid (O.other (p := ⟨w'.heap.size + 1, 0, none⟩) hne.out (.int .i64 0))
  have G1 : Hid (Blk (u0.setCell ⟨w'.heap.size + 1, 0, none⟩ (.int .i64 0)) (w'.heap.size + 1) 46 #[.int .i64 0, .int .i64 0, .int .i64 0, .int .i64 0, .int .i64 0, .int .i64 0]) := G.set 0 (.int .i64 0)
  have T1 : Hid (Gr w' (u0.setCell ⟨w'.heap.size + 1, 0, none⟩ (.int .i64 0))) := (T0.out.trans h).setCell (by simp) _
  have hO := O1.out.cell 1 rfl
  clear O G h O0 G0 T0
  go_wp2_with fail
  rw [rounds_succ]
  go_wp2_with fail
  refine (c11.out _).mono ?_
  rintro e u1 ⟨rfl, h⟩
  have O := O1.out.kp h.kp (by simp)
  have G := G1.out.kp h.kp (by simp)
  have hc := G.cell 1 rfl
  have hf := G.frozen 1
  have O2 := Lib.hid (O.other (p := ⟨w'.heap.size + 1, 1, none⟩) hne.out (.int .i64 1))
  have G2 : Hid (Blk (u1.setCell ⟨w'.heap.size + 1, 1, none⟩ (.int .i64 1)) (w'.heap.size + 1) 46 #[.int .i64 0, .int .i64 1, .int .i64 0, .int .i64 0, .int .i64 0, .int .i64 0]) := G.set 1 (.int .i64 1)
  have T2 : Hid (Gr w' (u1.setCell ⟨w'.heap.size + 1, 1, none⟩ (.int .i64 1))) := (T1.out.trans h).setCell (by simp) _
  have hO := O2.out.cell 2 rfl
  clear O G h O1 G1 T1
  go_wp2_with fail
  rw [rounds_succ]
  go_wp2_with fail
  refine (c15.out _).mono ?_
  rintro e u2 ⟨rfl, h⟩
  have O := O2.out.kp h.kp (by simp)
  have G := G2.out.kp h.kp (by simp)
  have hc := G.cell 2 rfl
  have hf := G.frozen 2
  have O3 := Lib.hid (O.other (p := ⟨w'.heap.size + 1, 2, none⟩) hne.out (.int .i64 0))
  have G3 : Hid (Blk (u2.setCell ⟨w'.heap.size + 1, 2, none⟩ (.int .i64 0)) (w'.heap.size + 1) 46 #[.int .i64 0, .int .i64 1, .int .i64 0, .int .i64 0, .int .i64 0, .int .i64 0]) := G.set 2 (.int .i64 0)
  have T3 : Hid (Gr w' (u2.setCell ⟨w'.heap.size + 1, 2, none⟩ (.int .i64 0))) := (T2.out.trans h).setCell (by simp) _
  have hO := O3.out.cell 3 rfl
  clear O G h O2 G2 T2
  go_wp2_with fail
  rw [rounds_succ]
  go_wp2_with fail
  refine (c16.out _).mono ?_
  rintro e u3 ⟨rfl, h⟩
  have O := O3.out.kp h.kp (by simp)
  have G := G3.out.kp h.kp (by simp)
  have hc := G.cell 3 rfl
  have hf := G.frozen 3
  have O4 := Lib.hid (O.other (p := ⟨w'.heap.size + 1, 3, none⟩) hne.out (.int .i64 1))
  have G4 : Hid (Blk (u3.setCell ⟨w'.heap.size + 1, 3, none⟩ (.int .i64 1)) (w'.heap.size + 1) 46 #[.int .i64 0, .int .i64 1, .int .i64 0, .int .i64 1, .int .i64 0, .int .i64 0]) := G.set 3 (.int .i64 1)
  have T4 : Hid (Gr w' (u3.setCell ⟨w'.heap.size + 1, 3, none⟩ (.int .i64 1))) := (T3.out.trans h).setCell (by simp) _
  have hO := O4.out.cell 4 rfl
  clear O G h O3 G3 T3
  go_wp2_with fail
  rw [rounds_succ]
  go_wp2_with fail
  refine (c12.out _).mono ?_
  rintro e u4 ⟨rfl, h⟩
  have O := O4.out.kp h.kp (by simp)
  have G := G4.out.kp h.kp (by simp)
  have hc := G.cell 4 rfl
  have hf := G.frozen 4
  have O5 := Lib.hid (O.other (p := ⟨w'.heap.size + 1, 4, none⟩) hne.out (.int .i64 0))
  have G5 : Hid (Blk (u4.setCell ⟨w'.heap.size + 1, 4, none⟩ (.int .i64 0)) (w'.heap.size + 1) 46 #[.int .i64 0, .int .i64 1, .int .i64 0, .int .i64 1, .int .i64 0, .int .i64 0]) := G.set 4 (.int .i64 0)
  have T5 : Hid (Gr w' (u4.setCell ⟨w'.heap.size + 1, 4, none⟩ (.int .i64 0))) := (T4.out.trans h).setCell (by simp) _
  have hO := O5.out.cell 5 rfl
  clear O G h O4 G4 T4
  go_wp2_with fail
  rw [rounds_succ]
  go_wp2_with fail
  refine (c14.out _).mono ?_
  rintro e u5 ⟨rfl, h⟩
  have O := O5.out.kp h.kp (by simp)
  have G := G5.out.kp h.kp (by simp)
  have hc := G.cell 5 rfl
  have hf := G.frozen 5
  have O6 := Lib.hid (O.other (p := ⟨w'.heap.size + 1, 5, none⟩) hne.out (.int .i64 1))
  have G6 : Hid (Blk (u5.setCell ⟨w'.heap.size + 1, 5, none⟩ (.int .i64 1)) (w'.heap.size + 1) 46 #[.int .i64 0, .int .i64 1, .int .i64 0, .int .i64 1, .int .i64 0, .int .i64 1]) := G.set 5 (.int .i64 1)
  have T6 : Hid (Gr w' (u5.setCell ⟨w'.heap.size + 1, 5, none⟩ (.int .i64 1))) := (T5.out.trans h).setCell (by simp) _
  clear O G h O5 G5 T5
  go_wp2_with fail
  rw [rounds_succ]
  go_wp2_with fail
  refine wp_loop_rounds 4 ?_
  have g0 := G6.out.cell 0 rfl
  have g1 := G6.out.cell 1 rfl
  have g2 := G6.out.cell 2 rfl
  have g3 := G6.out.cell 3 rfl
  have g4 := G6.out.cell 4 rfl
  have g5 := G6.out.cell 5 rfl
  rw [rounds_succ]
  go_wp2_with fail
  refine (not_0 _).mono ?_
  rintro e v0 ⟨rfl, h⟩
  have G7 : Hid (Blk v0 (w'.heap.size + 1) 46 #[.int .i64 0, .int .i64 1, .int .i64 0, .int .i64 1, .int .i64 0, .int .i64 1]) := G6.out.kp h.kp (by simp)
  have T7 : Hid (Gr w' v0) := T6.out.trans h
  clear g0 g1 g2 g3 g4 g5 h G6 T6
  have g0 := G7.out.cell 0 rfl
  have g1 := G7.out.cell 1 rfl
  have g2 := G7.out.cell 2 rfl
  have g3 := G7.out.cell 3 rfl
  have g4 := G7.out.cell 4 rfl
  have g5 := G7.out.cell 5 rfl
  go_wp2_with fail
  rw [rounds_succ]
  go_wp2_with fail
  refine (not_1 _).mono ?_
  rintro e v1 ⟨rfl, h⟩
  have G8 : Hid (Blk v1 (w'.heap.size + 1) 46 #[.int .i64 0, .int .i64 1, .int .i64 0, .int .i64 1, .int .i64 0, .int .i64 1]) := G7.out.kp h.kp (by simp)
  have T8 : Hid (Gr w' v1) := T7.out.trans h
  clear g0 g1 g2 g3 g4 g5 h G7 T7
  have g0 := G8.out.cell 0 rfl
  have g1 := G8.out.cell 1 rfl
  have g2 := G8.out.cell 2 rfl
  have g3 := G8.out.cell 3 rfl
  have g4 := G8.out.cell 4 rfl
  have g5 := G8.out.cell 5 rfl
  go_wp2_with fail
  rw [rounds_succ]
  go_wp2_with fail
  refine (not_0 _).mono ?_
  rintro e v2 ⟨rfl, h⟩
  have G9 : Hid (Blk v2 (w'.heap.size + 1) 46 #[.int .i64 0, .int .i64 1, .int .i64 0, .int .i64 1, .int .i64 0, .int .i64 1]) := G8.out.kp h.kp (by simp)
  have T9 : Hid (Gr w' v2) := T8.out.trans h
  clear g0 g1 g2 g3 g4 g5 h G8 T8
  have g0 := G9.out.cell 0 rfl
  have g1 := G9.out.cell 1 rfl
  have g2 := G9.out.cell 2 rfl
  have g3 := G9.out.cell 3 rfl
  have g4 := G9.out.cell 4 rfl
  have g5 := G9.out.cell 5 rfl
  go_wp2_with fail
  rw [rounds_succ]
  go_wp2_with fail
  refine (awake_c _).mono ?_
  rintro e w4 ⟨rfl, h4⟩
  go_wp2_with fail
  go_ret
  exact ⟨rfl, T9.out.trans h4⟩
set_option maxRecDepth 100000 in
set_option maxHeartbeats 4000000 in
theorem compares_gt (a b x y : Int) (w : World) (ha : Hid (wrap32 x = a)) (hb : Hid (wrap32 y = b))
    (c13 : Hid (∀ w : World, Calls Try.prog 10 #[.int .i64 13, .int .i64 a, .int .i64 b] w fun e w' => e = .returned (.tuple #[.int .i64 0, .int .i64 0, .int .i64 0]) ∧ Gr w w'))
    (c11 : Hid (∀ w : World, Calls Try.prog 10 #[.int .i64 11, .int .i64 a, .int .i64 b] w fun e w' => e = .returned (.tuple #[.int .i64 0, .int .i64 0, .int .i64 0]) ∧ Gr w w'))
    (c15 : Hid (∀ w : World, Calls Try.prog 10 #[.int .i64 15, .int .i64 a, .int .i64 b] w fun e w' => e = .returned (.tuple #[.int .i64 1, .int .i64 0, .int .i64 0]) ∧ Gr w w'))
    (c16 : Hid (∀ w : World, Calls Try.prog 10 #[.int .i64 16, .int .i64 a, .int .i64 b] w fun e w' => e = .returned (.tuple #[.int .i64 1, .int .i64 0, .int .i64 0]) ∧ Gr w w'))
    (c12 : Hid (∀ w : World, Calls Try.prog 10 #[.int .i64 12, .int .i64 a, .int .i64 b] w fun e w' => e = .returned (.tuple #[.int .i64 1, .int .i64 0, .int .i64 0]) ∧ Gr w w'))
    (c14 : Hid (∀ w : World, Calls Try.prog 10 #[.int .i64 14, .int .i64 a, .int .i64 b] w fun e w' => e = .returned (.tuple #[.int .i64 0, .int .i64 0, .int .i64 0]) ∧ Gr w w'))
    : Calls Try.prog 7 #[.int .i64 x, .int .i64 y] w fun e w' => e = .returned (.bool true) ∧ Gr w w' := by
  have O0 : Blk ((w.alloc (.cells #[.int .i64 13, .int .i64 11, .int .i64 15, .int .i64 16, .int .i64 12, .int .i64 14] 46)).alloc (.cells #[.int .i64 0, .int .i64 0, .int .i64 0, .int .i64 0, .int .i64 0, .int .i64 0] 46)) w.heap.size 46 #[.int .i64 13, .int .i64 11, .int .i64 15, .int .i64 16, .int .i64 12, .int .i64 14] := (Blk.new w _ _).alloc _
  have G0 : Blk ((w.alloc (.cells #[.int .i64 13, .int .i64 11, .int .i64 15, .int .i64 16, .int .i64 12, .int .i64 14] 46)).alloc (.cells #[.int .i64 0, .int .i64 0, .int .i64 0, .int .i64 0, .int .i64 0, .int .i64 0] 46)) (w.heap.size + 1) 46 #[.int .i64 0, .int .i64 0, .int .i64 0, .int .i64 0, .int .i64 0, .int .i64 0] := blk_at (by simp) _ _
  have T0 : Gr w ((w.alloc (.cells #[.int .i64 13, .int .i64 11, .int .i64 15, .int .i64 16, .int .i64 12, .int .i64 14] 46)).alloc (.cells #[.int .i64 0, .int .i64 0, .int .i64 0, .int .i64 0, .int .i64 0, .int .i64 0] 46)) := ((Gr.refl w).cells _ _).cells _ _
  have hne : w.heap.size ≠ w.heap.size + 1 := by omega
  replace O0 := Lib.hid O0
  replace G0 := Lib.hid G0
  replace T0 := Lib.hid T0
  replace hne := Lib.hid hne
  go_enter Try.func7, Try.ntmps7
  go_wp2_with fail
  refine (rwrap_c x _).mono ?_
  rintro e w' ⟨rfl, rfl⟩
  rw [ha.out]
  go_wp2_with fail
  refine (rwrap_c y _).mono ?_
  rintro e w' ⟨rfl, rfl⟩
  rw [hb.out]
  go_wp2_with fail
  refine wp_loop_rounds 7 ?_
  rw [rounds_succ]
  go_wp2_with fail
  refine (c13.out _).mono ?_
  rintro e u0 ⟨rfl, h⟩
  have O := O0.out.kp h.kp (by simp)
  have G := G0.out.kp h.kp (by simp)
  have hc := G.cell 0 rfl
  have hf := G.frozen 0
  have O1 := Lib.hid (O.other (p := ⟨w'.heap.size + 1, 0, none⟩) hne.out (.int .i64 0))
  have G1 : Hid (Blk (u0.setCell ⟨w'.heap.size + 1, 0, none⟩ (.int .i64 0)) (w'.heap.size + 1) 46 #[.int .i64 0, .int .i64 0, .int .i64 0, .int .i64 0, .int .i64 0, .int .i64 0]) := G.set 0 (.int .i64 0)
  have T1 : Hid (Gr w' (u0.setCell ⟨w'.heap.size + 1, 0, none⟩ (.int .i64 0))) := (T0.out.trans h).setCell (by simp) _
  have hO := O1.out.cell 1 rfl
  clear O G h O0 G0 T0
  go_wp2_with fail
  rw [rounds_succ]
  go_wp2_with fail
  refine (c11.out _).mono ?_
  rintro e u1 ⟨rfl, h⟩
  have O := O1.out.kp h.kp (by simp)
  have G := G1.out.kp h.kp (by simp)
  have hc := G.cell 1 rfl
  have hf := G.frozen 1
  have O2 := Lib.hid (O.other (p := ⟨w'.heap.size + 1, 1, none⟩) hne.out (.int .i64 0))
  have G2 : Hid (Blk (u1.setCell ⟨w'.heap.size + 1, 1, none⟩ (.int .i64 0)) (w'.heap.size + 1) 46 #[.int .i64 0, .int .i64 0, .int .i64 0, .int .i64 0, .int .i64 0, .int .i64 0]) := G.set 1 (.int .i64 0)
  have T2 : Hid (Gr w' (u1.setCell ⟨w'.heap.size + 1, 1, none⟩ (.int .i64 0))) := (T1.out.trans h).setCell (by simp) _
  have hO := O2.out.cell 2 rfl
  clear O G h O1 G1 T1
  go_wp2_with fail
  rw [rounds_succ]
  go_wp2_with fail
  refine (c15.out _).mono ?_
  rintro e u2 ⟨rfl, h⟩
  have O := O2.out.kp h.kp (by simp)
  have G := G2.out.kp h.kp (by simp)
  have hc := G.cell 2 rfl
  have hf := G.frozen 2
  have O3 := Lib.hid (O.other (p := ⟨w'.heap.size + 1, 2, none⟩) hne.out (.int .i64 1))
  have G3 : Hid (Blk (u2.setCell ⟨w'.heap.size + 1, 2, none⟩ (.int .i64 1)) (w'.heap.size + 1) 46 #[.int .i64 0, .int .i64 0, .int .i64 1, .int .i64 0, .int .i64 0, .int .i64 0]) := G.set 2 (.int .i64 1)
  have T3 : Hid (Gr w' (u2.setCell ⟨w'.heap.size + 1, 2, none⟩ (.int .i64 1))) := (T2.out.trans h).setCell (by simp) _
  have hO := O3.out.cell 3 rfl
  clear O G h O2 G2 T2
  go_wp2_with fail
  rw [rounds_succ]
  go_wp2_with fail
  refine (c16.out _).mono ?_
  rintro e u3 ⟨rfl, h⟩
  have O := O3.out.kp h.kp (by simp)
  have G := G3.out.kp h.kp (by simp)
  have hc := G.cell 3 rfl
  have hf := G.frozen 3
  have O4 := Lib.hid (O.other (p := ⟨w'.heap.size + 1, 3, none⟩) hne.out (.int .i64 1))
  have G4 : Hid (Blk (u3.setCell ⟨w'.heap.size + 1, 3, none⟩ (.int .i64 1)) (w'.heap.size + 1) 46 #[.int .i64 0, .int .i64 0, .int .i64 1, .int .i64 1, .int .i64 0, .int .i64 0]) := G.set 3 (.int .i64 1)
  have T4 : Hid (Gr w' (u3.setCell ⟨w'.heap.size + 1, 3, none⟩ (.int .i64 1))) := (T3.out.trans h).setCell (by simp) _
  have hO := O4.out.cell 4 rfl
  clear O G h O3 G3 T3
  go_wp2_with fail
  rw [rounds_succ]
  go_wp2_with fail
  refine (c12.out _).mono ?_
  rintro e u4 ⟨rfl, h⟩
  have O := O4.out.kp h.kp (by simp)
  have G := G4.out.kp h.kp (by simp)
  have hc := G.cell 4 rfl
  have hf := G.frozen 4
  have O5 := Lib.hid (O.other (p := ⟨w'.heap.size + 1, 4, none⟩) hne.out (.int .i64 1))
  have G5 : Hid (Blk (u4.setCell ⟨w'.heap.size + 1, 4, none⟩ (.int .i64 1)) (w'.heap.size + 1) 46 #[.int .i64 0, .int .i64 0, .int .i64 1, .int .i64 1, .int .i64 1, .int .i64 0]) := G.set 4 (.int .i64 1)
  have T5 : Hid (Gr w' (u4.setCell ⟨w'.heap.size + 1, 4, none⟩ (.int .i64 1))) := (T4.out.trans h).setCell (by simp) _
  have hO := O5.out.cell 5 rfl
  clear O G h O4 G4 T4
  go_wp2_with fail
  rw [rounds_succ]
  go_wp2_with fail
  refine (c14.out _).mono ?_
  rintro e u5 ⟨rfl, h⟩
  have O := O5.out.kp h.kp (by simp)
  have G := G5.out.kp h.kp (by simp)
  have hc := G.cell 5 rfl
  have hf := G.frozen 5
  have O6 := Lib.hid (O.other (p := ⟨w'.heap.size + 1, 5, none⟩) hne.out (.int .i64 0))
  have G6 : Hid (Blk (u5.setCell ⟨w'.heap.size + 1, 5, none⟩ (.int .i64 0)) (w'.heap.size + 1) 46 #[.int .i64 0, .int .i64 0, .int .i64 1, .int .i64 1, .int .i64 1, .int .i64 0]) := G.set 5 (.int .i64 0)
  have T6 : Hid (Gr w' (u5.setCell ⟨w'.heap.size + 1, 5, none⟩ (.int .i64 0))) := (T5.out.trans h).setCell (by simp) _
  clear O G h O5 G5 T5
  go_wp2_with fail
  rw [rounds_succ]
  go_wp2_with fail
  refine wp_loop_rounds 4 ?_
  have g0 := G6.out.cell 0 rfl
  have g1 := G6.out.cell 1 rfl
  have g2 := G6.out.cell 2 rfl
  have g3 := G6.out.cell 3 rfl
  have g4 := G6.out.cell 4 rfl
  have g5 := G6.out.cell 5 rfl
  rw [rounds_succ]
  go_wp2_with fail
  refine (not_0 _).mono ?_
  rintro e v0 ⟨rfl, h⟩
  have G7 : Hid (Blk v0 (w'.heap.size + 1) 46 #[.int .i64 0, .int .i64 0, .int .i64 1, .int .i64 1, .int .i64 1, .int .i64 0]) := G6.out.kp h.kp (by simp)
  have T7 : Hid (Gr w' v0) := T6.out.trans h
  clear g0 g1 g2 g3 g4 g5 h G6 T6
  have g0 := G7.out.cell 0 rfl
  have g1 := G7.out.cell 1 rfl
  have g2 := G7.out.cell 2 rfl
  have g3 := G7.out.cell 3 rfl
  have g4 := G7.out.cell 4 rfl
  have g5 := G7.out.cell 5 rfl
  go_wp2_with fail
  rw [rounds_succ]
  go_wp2_with fail
  refine (not_0 _).mono ?_
  rintro e v1 ⟨rfl, h⟩
  have G8 : Hid (Blk v1 (w'.heap.size + 1) 46 #[.int .i64 0, .int .i64 0, .int .i64 1, .int .i64 1, .int .i64 1, .int .i64 0]) := G7.out.kp h.kp (by simp)
  have T8 : Hid (Gr w' v1) := T7.out.trans h
  clear g0 g1 g2 g3 g4 g5 h G7 T7
  have g0 := G8.out.cell 0 rfl
  have g1 := G8.out.cell 1 rfl
  have g2 := G8.out.cell 2 rfl
  have g3 := G8.out.cell 3 rfl
  have g4 := G8.out.cell 4 rfl
  have g5 := G8.out.cell 5 rfl
  go_wp2_with fail
  rw [rounds_succ]
  go_wp2_with fail
  refine (not_1 _).mono ?_
  rintro e v2 ⟨rfl, h⟩
  have G9 : Hid (Blk v2 (w'.heap.size + 1) 46 #[.int .i64 0, .int .i64 0, .int .i64 1, .int .i64 1, .int .i64 1, .int .i64 0]) := G8.out.kp h.kp (by simp)
  have T9 : Hid (Gr w' v2) := T8.out.trans h
  clear g0 g1 g2 g3 g4 g5 h G8 T8
  have g0 := G9.out.cell 0 rfl
  have g1 := G9.out.cell 1 rfl
  have g2 := G9.out.cell 2 rfl
  have g3 := G9.out.cell 3 rfl
  have g4 := G9.out.cell 4 rfl
  have g5 := G9.out.cell 5 rfl
  go_wp2_with fail
  rw [rounds_succ]
  go_wp2_with fail
  refine (awake_c _).mono ?_
  rintro e w4 ⟨rfl, h4⟩
  go_wp2_with fail
  go_ret
  exact ⟨rfl, T9.out.trans h4⟩
theorem compares_c (x y : Int) (w : World) (_ : (Lit.int .i64 x).wf = true) (_ : (Lit.int .i64 y).wf = true) :
    Calls Try.prog 7 #[.int .i64 x, .int .i64 y] w fun e w' => e = .returned (.bool true) ∧ Gr w w' := by
  have va := val_wrap32 x
  have vb := val_wrap32 y
  rcases Int.lt_trichotomy (wrap32 x) (wrap32 y) with h | h | h
  · refine compares_lt (wrap32 x) (wrap32 y) x y w rfl rfl ?_ ?_ ?_ ?_ ?_ ?_
    · exact fun w => (bin_13 _ _ w va vb).mono fun e w' k => ⟨k.1.trans (by congr 5; simp only [oneOf]; split <;> first | rfl | (rename_i g; simp at g; omega)), k.2⟩
    · exact fun w => (bin_11 _ _ w va vb).mono fun e w' k => ⟨k.1.trans (by congr 5; simp only [oneOf]; split <;> first | rfl | (rename_i g; simp at g; omega)), k.2⟩
    · exact fun w => (bin_15 _ _ w va vb).mono fun e w' k => ⟨k.1.trans (by congr 5; simp only [oneOf]; split <;> first | rfl | (rename_i g; simp at g; omega)), k.2⟩
    · exact fun w => (bin_16 _ _ w va vb).mono fun e w' k => ⟨k.1.trans (by congr 5; simp only [oneOf]; split <;> first | rfl | (rename_i g; simp at g; omega)), k.2⟩
    · exact fun w => (bin_12 _ _ w va vb).mono fun e w' k => ⟨k.1.trans (by congr 5; simp only [oneOf]; split <;> first | rfl | (rename_i g; simp at g; omega)), k.2⟩
    · exact fun w => (bin_14 _ _ w va vb).mono fun e w' k => ⟨k.1.trans (by congr 5; simp only [oneOf]; split <;> first | rfl | (rename_i g; simp at g; omega)), k.2⟩
  · refine compares_eq (wrap32 x) (wrap32 y) x y w rfl rfl ?_ ?_ ?_ ?_ ?_ ?_
    · exact fun w => (bin_13 _ _ w va vb).mono fun e w' k => ⟨k.1.trans (by congr 5; simp only [oneOf]; split <;> first | rfl | (rename_i g; simp at g; omega)), k.2⟩
    · exact fun w => (bin_11 _ _ w va vb).mono fun e w' k => ⟨k.1.trans (by congr 5; simp only [oneOf]; split <;> first | rfl | (rename_i g; simp at g; omega)), k.2⟩
    · exact fun w => (bin_15 _ _ w va vb).mono fun e w' k => ⟨k.1.trans (by congr 5; simp only [oneOf]; split <;> first | rfl | (rename_i g; simp at g; omega)), k.2⟩
    · exact fun w => (bin_16 _ _ w va vb).mono fun e w' k => ⟨k.1.trans (by congr 5; simp only [oneOf]; split <;> first | rfl | (rename_i g; simp at g; omega)), k.2⟩
    · exact fun w => (bin_12 _ _ w va vb).mono fun e w' k => ⟨k.1.trans (by congr 5; simp only [oneOf]; split <;> first | rfl | (rename_i g; simp at g; omega)), k.2⟩
    · exact fun w => (bin_14 _ _ w va vb).mono fun e w' k => ⟨k.1.trans (by congr 5; simp only [oneOf]; split <;> first | rfl | (rename_i g; simp at g; omega)), k.2⟩
  · refine compares_gt (wrap32 x) (wrap32 y) x y w rfl rfl ?_ ?_ ?_ ?_ ?_ ?_
    · exact fun w => (bin_13 _ _ w va vb).mono fun e w' k => ⟨k.1.trans (by congr 5; simp only [oneOf]; split <;> first | rfl | (rename_i g; simp at g; omega)), k.2⟩
    · exact fun w => (bin_11 _ _ w va vb).mono fun e w' k => ⟨k.1.trans (by congr 5; simp only [oneOf]; split <;> first | rfl | (rename_i g; simp at g; omega)), k.2⟩
    · exact fun w => (bin_15 _ _ w va vb).mono fun e w' k => ⟨k.1.trans (by congr 5; simp only [oneOf]; split <;> first | rfl | (rename_i g; simp at g; omega)), k.2⟩
    · exact fun w => (bin_16 _ _ w va vb).mono fun e w' k => ⟨k.1.trans (by congr 5; simp only [oneOf]; split <;> first | rfl | (rename_i g; simp at g; omega)), k.2⟩
    · exact fun w => (bin_12 _ _ w va vb).mono fun e w' k => ⟨k.1.trans (by congr 5; simp only [oneOf]; split <;> first | rfl | (rename_i g; simp at g; omega)), k.2⟩
    · exact fun w => (bin_14 _ _ w va vb).mono fun e w' k => ⟨k.1.trans (by congr 5; simp only [oneOf]; split <;> first | rfl | (rename_i g; simp at g; omega)), k.2⟩
end Go.Proofs.Ytkdommlojboknaa
