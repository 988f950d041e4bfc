import Derived.Test.YtgldbeacjacbcaaGreatTz2
set_option linter.unusedSimpArgs false
set_option linter.unusedVariables false
namespace Go.Proofs.YtgldbeacjacbcaaGreat
open Go.RowKit

mutual
theorem fold_c : ∀ e : Ex, FoldC e
  | .mk op kind n s f args => fold_step _ (list_c args (folds_all args))
theorem folds_all : ∀ (es : List Ex) (i : Nat) (hi : i < es.length), FoldC es[i]
  | e :: es, 0, _ => fold_c e
  | e :: es, i + 1, hi => folds_all es i (by simpa using hi)
end
theorem wellB_of {e : Ex} (h : wellB e = true) : e.well = true ∧ e.cnt ≤ 500 := by
  simp only [wellB, okE, Bool.and_eq_true, decide_eq_true_eq] at h
  exact ⟨h.1.1, by omega⟩
set_option maxRecDepth 100000 in
set_option maxHeartbeats 2000000 in
theorem foldNo_c (e : Ex) (v : Value) (w : World) (hv : exsSl w v e.args) (hA : Amb w) (hf : e.fits) (hw : wellB e = false) :
    Calls Tryz.prog 6 #[exVal e v] w fun r w' => r = .returned (.tuple #[zeroX, .int .i64 2]) ∧ Kp [] w w' := by
  obtain ⟨q, cap, rfl⟩ := hv.val
  have hW : Kp [] w ((w.alloc (.cells #[.int .i64 e.op, .int .i64 e.kind, .int .i64 e.num, .string e.s, .string e.field, .slice q e.args.length cap] 24)).alloc (.cells #[.int .i64 0, .int .i64 0, .int .i64 0, .string ⟨#[]⟩, .string ⟨#[]⟩, .slice none 0 0] 24)) := ((Kp.refl [] w).alloc _).alloc _
  have hB2 : Blk ((w.alloc (.cells #[.int .i64 e.op, .int .i64 e.kind, .int .i64 e.num, .string e.s, .string e.field, .slice q e.args.length cap] 24)).alloc (.cells #[.int .i64 0, .int .i64 0, .int .i64 0, .string ⟨#[]⟩, .string ⟨#[]⟩, .slice none 0 0] 24)) (w.heap.size + 1) 24 #[.int .i64 0, .int .i64 0, .int .i64 0, .string ⟨#[]⟩, .string ⟨#[]⟩, .slice none 0 0] := blk_new (by simp) _ _
  have hc := Lib.hid (checkExpr_c e _ _ (hv.kp hW) (hA.kp0 hW) hf)
  rw [hw] at hc
  obtain ⟨len, hlen⟩ : ∃ len, e.args.length = len := ⟨_, rfl⟩
  unfold exVal at hc ⊢
  rw [hlen] at hc hW hB2 ⊢
  clear hv hA hf hw hlen
  replace hW := Lib.hid hW
  replace hB2 := Lib.hid hB2
  go_enter Tryz.func6, Tryz.ntmps6
  go_wp2_with fail
  refine hc.out.mono ?_
  rintro r w2 ⟨rfl, hg⟩
  have hBr := hB2.out.kp hg.kp (by simp)
  have hK := hW.out.trans hg.kp
  have f0 := hBr.frozen 0
  have f1 := hBr.frozen 1
  have f2 := hBr.frozen 2
  have f3 := hBr.frozen 3
  have f4 := hBr.frozen 4
  have f5 := hBr.frozen 5
  have g0 := hBr.cell 0 (v := .int .i64 0) rfl
  have g1 := hBr.cell 1 (v := .int .i64 0) rfl
  have g2 := hBr.cell 2 (v := .int .i64 0) rfl
  have g3 := hBr.cell 3 (v := .string ⟨#[]⟩) rfl
  have g4 := hBr.cell 4 (v := .string ⟨#[]⟩) rfl
  have g5 := hBr.cell 5 (v := .slice none 0 0) rfl
  have hlt3 : w.heap.size + 1 < w2.heap.size := hBr.lt
  have hZ : Blk ((((((w2.setCell ⟨w.heap.size + 1, 0, none⟩ (.int .i64 0)).setCell ⟨w.heap.size + 1, 1, none⟩ (.int .i64 0)).setCell ⟨w.heap.size + 1, 2, none⟩ (.int .i64 0)).setCell ⟨w.heap.size + 1, 3, none⟩ (.string ⟨#[]⟩)).setCell ⟨w.heap.size + 1, 4, none⟩ (.string ⟨#[]⟩)).setCell ⟨w.heap.size + 1, 5, none⟩ (.slice none 0 0)) (w.heap.size + 1) 24 #[.int .i64 0, .int .i64 0, .int .i64 0, .string ⟨#[]⟩, .string ⟨#[]⟩, .slice none 0 0] := (((((hBr.set 0 (.int .i64 0)).set 1 (.int .i64 0)).set 2 (.int .i64 0)).set 3 (.string ⟨#[]⟩)).set 4 (.string ⟨#[]⟩)).set 5 (.slice none 0 0)
  have hKf := Lib.hid (fun (a : World) (h : Kp [] w a) (i : Nat) (u : Value) => h.setCell (p := ⟨w.heap.size + 1, i, none⟩) (.inr (by simp)) u)
  have hKz : Hid (Kp [] w ((((((w2.setCell ⟨w.heap.size + 1, 0, none⟩ (.int .i64 0)).setCell ⟨w.heap.size + 1, 1, none⟩ (.int .i64 0)).setCell ⟨w.heap.size + 1, 2, none⟩ (.int .i64 0)).setCell ⟨w.heap.size + 1, 3, none⟩ (.string ⟨#[]⟩)).setCell ⟨w.heap.size + 1, 4, none⟩ (.string ⟨#[]⟩)).setCell ⟨w.heap.size + 1, 5, none⟩ (.slice none 0 0))) := (hKf.out _ (hKf.out _ (hKf.out _ (hKf.out _ (hKf.out _ (hKf.out _ hK 0 _) 1 _) 2 _) 3 _) 4 _) 5 _)
  have z0 := hZ.cell 0 (v := .int .i64 0) rfl
  have z1 := hZ.cell 1 (v := .int .i64 0) rfl
  have z2 := hZ.cell 2 (v := .int .i64 0) rfl
  have z3 := hZ.cell 3 (v := .string ⟨#[]⟩) rfl
  have z4 := hZ.cell 4 (v := .string ⟨#[]⟩) rfl
  have z5 := hZ.cell 5 (v := .slice none 0 0) rfl
  replace hZ := Lib.hid hZ
  replace hBr := Lib.hid hBr
  clear hg hK
  simp only [Bool.false_eq_true, if_false]
  go_wp2_with fail
  refine bodyPost_ret (v := .tuple #[.agg #[.int .i64 0, .int .i64 0, .int .i64 0, .string ⟨#[]⟩, .string ⟨#[]⟩, .slice none 0 0], .int .i64 2]) (by simp [results, Tryz.results6, go_sem, z0, z1, z2, z3, z4, z5]) rfl ⟨rfl, hKz.out⟩

set_option maxRecDepth 100000 in
set_option maxHeartbeats 2000000 in
theorem foldYes_c (e : Ex) (v : Value) (w : World) (hv : exsSl w v e.args) (hA : Amb w) (hf : e.fits) (hw : wellB e = true) :
    Calls Tryz.prog 6 #[exVal e v] w fun r w' => ∃ u, r = .returned (.tuple #[exVal (foldE e) u, .int .i64 0]) ∧ Kp [] w w' ∧ exsSl w' u (foldE e).args := by
  obtain ⟨q, cap, rfl⟩ := hv.val
  have hW : Kp [] w ((w.alloc (.cells #[.int .i64 e.op, .int .i64 e.kind, .int .i64 e.num, .string e.s, .string e.field, .slice q e.args.length cap] 24)).alloc (.cells #[.int .i64 0, .int .i64 0, .int .i64 0, .string ⟨#[]⟩, .string ⟨#[]⟩, .slice none 0 0] 24)) := ((Kp.refl [] w).alloc _).alloc _
  have hB1 : Blk ((w.alloc (.cells #[.int .i64 e.op, .int .i64 e.kind, .int .i64 e.num, .string e.s, .string e.field, .slice q e.args.length cap] 24)).alloc (.cells #[.int .i64 0, .int .i64 0, .int .i64 0, .string ⟨#[]⟩, .string ⟨#[]⟩, .slice none 0 0] 24)) w.heap.size 24 #[.int .i64 e.op, .int .i64 e.kind, .int .i64 e.num, .string e.s, .string e.field, .slice q e.args.length cap] := (Blk.new w _ _).alloc _
  have hB2 : Blk ((w.alloc (.cells #[.int .i64 e.op, .int .i64 e.kind, .int .i64 e.num, .string e.s, .string e.field, .slice q e.args.length cap] 24)).alloc (.cells #[.int .i64 0, .int .i64 0, .int .i64 0, .string ⟨#[]⟩, .string ⟨#[]⟩, .slice none 0 0] 24)) (w.heap.size + 1) 24 #[.int .i64 0, .int .i64 0, .int .i64 0, .string ⟨#[]⟩, .string ⟨#[]⟩, .slice none 0 0] := blk_new (by simp) _ _
  have hc := Lib.hid (checkExpr_c e _ _ (hv.kp hW) (hA.kp0 hW) hf)
  have hwe := wellB_of hw
  have hfo := Lib.hid (fun (W : World) (h : Kp [] w W) => fold_c e W _ (hv.kp h) hwe.1 hwe.2)
  rw [hw] at hc
  obtain ⟨y, hy⟩ : ∃ y, foldE e = y := ⟨_, rfl⟩
  rw [hy] at hfo ⊢
  obtain ⟨len, hlen⟩ : ∃ len, e.args.length = len := ⟨_, rfl⟩
  unfold exVal at hc hfo ⊢
  rw [hlen] at hc hW hB1 hB2 hfo ⊢
  clear hv hA hf hw hlen hwe hy
  replace hW := Lib.hid hW
  replace hB1 := Lib.hid hB1
  replace hB2 := Lib.hid hB2
  go_enter Tryz.func6, Tryz.ntmps6
  go_wp2_with fail
  refine hc.out.mono ?_
  rintro r w2 ⟨rfl, hg⟩
  have hBe := hB1.out.kp hg.kp (by simp)
  have hBr := hB2.out.kp hg.kp (by simp)
  have hK2 := Lib.hid (hW.out.trans hg.kp)
  have e0 := hBe.cell 0 (v := .int .i64 e.op) rfl
  have e1 := hBe.cell 1 (v := .int .i64 e.kind) rfl
  have e2 := hBe.cell 2 (v := .int .i64 e.num) rfl
  have e3 := hBe.cell 3 (v := .string e.s) rfl
  have e4 := hBe.cell 4 (v := .string e.field) rfl
  have e5 := hBe.cell 5 (v := .slice q len cap) rfl
  replace hBe := Lib.hid hBe
  replace hBr := Lib.hid hBr
  clear hg
  simp only [if_true]
  go_wp2_with fail
  refine (hfo.out _ hK2.out).mono ?_
  rintro r w3 ⟨u, rfl, hk3, hu⟩
  obtain ⟨qa, ca, rfl⟩ := hu.drop.val
  unfold exVal
  obtain ⟨la, hla⟩ : ∃ la, y.args.length = la := ⟨_, rfl⟩
  rw [hla] at hu ⊢
  have hBr3 := hBr.out.kp hk3 (by simp)
  have hK3 := hK2.out.trans hk3
  clear e0 e1 e2 e3 e4 e5 hla
  have f0 := hBr3.frozen 0
  have f1 := hBr3.frozen 1
  have f2 := hBr3.frozen 2
  have f3 := hBr3.frozen 3
  have f4 := hBr3.frozen 4
  have f5 := hBr3.frozen 5
  have g0 := hBr3.cell 0 (v := .int .i64 0) rfl
  have g1 := hBr3.cell 1 (v := .int .i64 0) rfl
  have g2 := hBr3.cell 2 (v := .int .i64 0) rfl
  have g3 := hBr3.cell 3 (v := .string ⟨#[]⟩) rfl
  have g4 := hBr3.cell 4 (v := .string ⟨#[]⟩) rfl
  have g5 := hBr3.cell 5 (v := .slice none 0 0) rfl
  have hlt3 : w.heap.size + 1 < w3.heap.size := hBr3.lt
  have hZ : Blk ((((((w3.setCell ⟨w.heap.size + 1, 0, none⟩ (.int .i64 y.op)).setCell ⟨w.heap.size + 1, 1, none⟩ (.int .i64 y.kind)).setCell ⟨w.heap.size + 1, 2, none⟩ (.int .i64 y.num)).setCell ⟨w.heap.size + 1, 3, none⟩ (.string y.s)).setCell ⟨w.heap.size + 1, 4, none⟩ (.string y.field)).setCell ⟨w.heap.size + 1, 5, none⟩ (.slice qa la ca)) (w.heap.size + 1) 24 #[.int .i64 y.op, .int .i64 y.kind, .int .i64 y.num, .string y.s, .string y.field, .slice qa la ca] := (((((hBr3.set 0 (.int .i64 y.op)).set 1 (.int .i64 y.kind)).set 2 (.int .i64 y.num)).set 3 (.string y.s)).set 4 (.string y.field)).set 5 (.slice qa la ca)
  have hKf := Lib.hid (fun (a b : World) (h : Kp [w.heap.size + 1] a b) (i : Nat) (u : Value) => h.setCell (p := ⟨w.heap.size + 1, i, none⟩) (.inl (by simp)) u)
  have hKz : Hid (Kp [w.heap.size + 1] w3 ((((((w3.setCell ⟨w.heap.size + 1, 0, none⟩ (.int .i64 y.op)).setCell ⟨w.heap.size + 1, 1, none⟩ (.int .i64 y.kind)).setCell ⟨w.heap.size + 1, 2, none⟩ (.int .i64 y.num)).setCell ⟨w.heap.size + 1, 3, none⟩ (.string y.s)).setCell ⟨w.heap.size + 1, 4, none⟩ (.string y.field)).setCell ⟨w.heap.size + 1, 5, none⟩ (.slice qa la ca))) := (hKf.out _ _ (hKf.out _ _ (hKf.out _ _ (hKf.out _ _ (hKf.out _ _ (hKf.out _ _ (Kp.refl _ w3) 0 _) 1 _) 2 _) 3 _) 4 _) 5 _)
  have hu2 : exsSlB (fun b => w2.heap.size ≤ b) w3 (.slice qa la ca) y.args := hu.move (fun b h => h.1) (fun _ _ _ => rfl)
  have hlt2 : Hid (w.heap.size + 1 < w2.heap.size) := hBr.out.lt
  have hK4 := Lib.hid (hK3.trans' hKz.out (fun i hi hl => by simp at hi; omega))
  have hu3 := Lib.hid (hu2.move (C := fun _ => True) (fun _ _ => trivial) (fun b h hb => hKz.out.block b hb (by have := hlt2.out; simp; omega))).drop
  have z0 := hZ.cell 0 (v := .int .i64 y.op) rfl
  have z1 := hZ.cell 1 (v := .int .i64 y.kind) rfl
  have z2 := hZ.cell 2 (v := .int .i64 y.num) rfl
  have z3 := hZ.cell 3 (v := .string y.s) rfl
  have z4 := hZ.cell 4 (v := .string y.field) rfl
  have z5 := hZ.cell 5 (v := .slice qa la ca) rfl
  replace hZ := Lib.hid hZ
  replace hBr3 := Lib.hid hBr3
  clear hu hu2 hk3 hK3
  go_wp2_with fail
  refine bodyPost_ret (v := .tuple #[.agg #[.int .i64 y.op, .int .i64 y.kind, .int .i64 y.num, .string y.s, .string y.field, .slice qa la ca], .int .i64 0]) (by simp [results, Tryz.results6, go_sem, z0, z1, z2, z3, z4, z5]) rfl ⟨_, rfl, hK4.out, hu3.out⟩
end Go.Proofs.YtgldbeacjacbcaaGreat
