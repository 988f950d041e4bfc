import Derived.Test.YtebmaclopkocgaaGreatDoorTx5
set_option linter.unusedSimpArgs false
set_option linter.unusedVariables false
namespace Go.Proofs.YtebmaclopkocgaaGreatDoor
open Go.RowKit

set_option maxRecDepth 100000 in
theorem exprs_c (es : List Ex) (IH : AllC es) (w0 w : World) (g : Nat) (n dp d : Int) (v : Value) (hv : exsSl w0 v es) (hk0 : Kp [] w0 w) (hg : w0.heap.size ≤ g) (hA : Amb w0) (hM : Mt w g n dp) (hn0 : 0 ≤ n) (hn5 : n ≤ 500) (hdp : dp ≤ 14) (hd0 : 0 ≤ d) (hd1 : d ≤ 15) (hfit : fitsL es) :
    Calls Tryz.prog 49 #[.pointer (some ⟨g, 0, none⟩), v, .int .i64 d] w (MtRes g (okL es d n) (n + cntL es) w) := by
  have hmf : ∀ (fn : Fn) (first cap : Array Value) (w : World), (Instr.makeFunc fn first cap).run Tryz.prog w = .ok (.func fn first cap) w := fun _ _ _ _ => rfl
  have hc := Lib.hid (IH w0 w g n dp d v hv hk0 hg hA hM hn0 hn5 hdp hd0 hd1 hfit)
  clear IH hv hk0 hA hM hfit
  go_enter Tryz.func49, Tryz.ntmps49
  go_wp2_with fail
  refine hc.out.mono ?_
  rintro r w2 ⟨rfl, hG, hM, hok⟩
  go_wp2_with fail
  go_ret
  exact ⟨rfl, hG, hM, hok⟩

set_option maxRecDepth 100000 in
set_option maxHeartbeats 2000000 in
theorem expr_step (e : Ex) (IH : AllC e.args) : MeterC e := by
  intro w0 w g n dp d v hv hk0 hg hA hM hn0 hn5 hdp hd0 hd1 hfit
  obtain ⟨q, cap, rfl⟩ := hv.val
  have hlt : w.heap.size ≠ g := by have := Blk.lt hM; omega
  have hfe := (fits_eq e).1 hfit
  have hE := Lib.hid (okE_eq e d n)
  obtain ⟨b1, hb1⟩ : ∃ b, shpB e = b := ⟨_, rfl⟩
  have hB := Blk.new w 24 #[.int .i64 e.op, .int .i64 e.kind, .int .i64 e.num, .string e.s, .string e.field, .slice q e.args.length cap]
  have hW1 : Kp [] w0 (w.alloc (.cells #[.int .i64 e.op, .int .i64 e.kind, .int .i64 e.num, .string e.s, .string e.field, .slice q e.args.length cap] 24)) := hk0.alloc _
  have hM1 := hM.cells (.cells #[.int .i64 e.op, .int .i64 e.kind, .int .i64 e.num, .string e.s, .string e.field, .slice q e.args.length cap] 24)
  have hG1 := (Gm.refl g w).cells #[.int .i64 e.op, .int .i64 e.kind, .int .i64 e.num, .string e.s, .string e.field, .slice q e.args.length cap] 24
  have hexp : Hid (∀ (w2 : World) (dp2 : Int), Kp [] w0 w2 → Mt w2 g (n + 1) dp2 → n + 1 ≤ 500 → d ≤ 14 → dp2 ≤ 14 → Calls Tryz.prog 49 #[.pointer (some ⟨g, 0, none⟩), .slice q e.args.length cap, .int .i64 (d + 1)] w2 (MtRes g (okL e.args (d + 1) (n + 1)) (n + 1 + cntL e.args) w2)) :=
    fun w2 dp2 k m h1 h2 h3 => exprs_c e.args IH w0 w2 g (n + 1) dp2 (d + 1) _ hv k hg hA m (by omega) h1 h3 (by omega) (by omega) hfe.2
  have hshp : Hid (∀ w2 : World, Kp [] w0 w2 → Calls Tryz.prog 48 #[.agg #[.int .i64 e.op, .int .i64 e.kind, .int .i64 e.num, .string e.s, .string e.field, .slice q e.args.length cap]] w2 fun r w' => r = .returned (.bool (shpB e)) ∧ Gr w2 w') :=
    fun w2 k => isExpr_c e q cap w2 (hA.kp0 k) hfe.1
  have hcnt : Hid (n + e.cnt = n + 1 + cntL e.args) := by show _ = _; rw [cnt_eq]; omega
  obtain ⟨len, hlen⟩ : ∃ len, e.args.length = len := ⟨_, rfl⟩
  unfold exVal
  rw [hlen] at hB hW1 hM1 hG1 hexp hshp ⊢
  clear hlen hv hfe hfit IH
  replace hB := Lib.hid hB
  replace hW1 := Lib.hid hW1
  replace hM1 := Lib.hid hM1
  replace hG1 := Lib.hid hG1
  replace hb1 := Lib.hid hb1
  replace hA := Lib.hid hA
  replace hk0 := Lib.hid hk0
  replace hM := Lib.hid hM
  replace hlt := Lib.hid hlt
  by_cases hen : n + 1 ≤ 500 ∧ d ≤ 14
  · obtain ⟨he1, he2⟩ := hen
    have hd3 : max dp d ≤ 14 := by omega
    have hbb : Hid ((decide (n + 1 ≤ 500) && decide (max dp d ≤ 14)) = true) := by show _ = _; simp [he1, hd3]
    have hE2 : Hid (okE e d n = (shpB e && okL e.args (d + 1) (n + 1))) := by show _ = _; rw [hE.out]; simp [he1, he2]
    go_enter Tryz.func29, Tryz.ntmps29
    go_wp2_with fail
    refine (enter_c g n dp d _ hM1.out hn0 (by omega)).mono ?_
    rintro r w2 ⟨rfl, hM2, hG2⟩
    rw [hbb.out]
    replace hM2 := Lib.hid hM2
    have hB2 : Blk w2 w.heap.size 24 #[.int .i64 e.op, .int .i64 e.kind, .int .i64 e.num, .string e.s, .string e.field, .slice q len cap] := hB.out.kp hG2.kp (by simpa using hlt.out)
    have hK2 := Lib.hid (hG2.old hW1.out hg)
    have hG3 := Lib.hid (hG1.out.trans hG2)
    clear hG2
    have c0 := hB2.cell 0 (v := .int .i64 e.op) rfl
    have c1 := hB2.cell 1 (v := .int .i64 e.kind) rfl
    have c2 := hB2.cell 2 (v := .int .i64 e.num) rfl
    have c3 := hB2.cell 3 (v := .string e.s) rfl
    have c4 := hB2.cell 4 (v := .string e.field) rfl
    have c5 := hB2.cell 5 (v := .slice q len cap) rfl
    replace hB2 := Lib.hid hB2
    go_wp2_with fail
    refine (hshp.out w2 hK2.out).mono ?_
    rintro r w3 ⟨rfl, hg3⟩
    have hM3 := Lib.hid (hM2.out.kp hg3.kp)
    have hK3 := Lib.hid (hK2.out.trans hg3.kp)
    have d5 := hg3.kp.cell c5 (by simp)
    have hG4 := Lib.hid (hG3.out.trans (Gm.of_gr hg3))
    clear c0 c1 c2 c3 c4 c5 hg3
    cases hs : shpB e
    · have hE3 : Hid (okE e d n = false) := by show _ = _; rw [hE2.out, hs]; rfl
      go_wp2_with fail
      go_ret
      exact ⟨ret_bool hE3.out.symm, hG4.out, ⟨_, _, hM3.out⟩, fun h => by rw [hE3.out] at h; cases h⟩
    · have hE3 : Hid (okE e d n = okL e.args (d + 1) (n + 1)) := by show _ = _; rw [hE2.out, hs]; rfl
      go_wp2_with fail
      refine (hexp.out w3 _ hK3.out hM3.out he1 he2 hd3).mono ?_
      rintro r w4 ⟨rfl, hG5, hM5, hok⟩
      rw [← hE3.out]
      have hT : MtRes g (okE e d n) (n + e.cnt) w (.returned (.bool (okE e d n))) w4 := ⟨rfl, hG4.out.trans hG5, hM5, fun h => by rw [hcnt.out]; exact hok (by rw [← hE3.out]; exact h)⟩
      obtain ⟨t, ht⟩ : ∃ t, okE e d n = t := ⟨_, rfl⟩
      rw [ht] at hT ⊢
      replace hT := Lib.hid hT
      replace ht := Lib.hid ht
      clear hok hM5 hG5
      go_wp2_with fail
      go_ret
      rw [ht.out]
      exact hT.out
  · have hbb : Hid ((decide (n + 1 ≤ 500) && decide (max dp d ≤ 14)) = false) := by
      show _ = _
      by_cases h : n + 1 ≤ 500
      · have : ¬ max dp d ≤ 14 := by omega
        simp [this]
      · simp [h]
    have hE2 : Hid (okE e d n = false) := by
      show _ = _; rw [hE.out]
      by_cases h : n + 1 ≤ 500
      · have : ¬ d ≤ 14 := by omega
        simp [this]
      · simp [h]
    go_enter Tryz.func29, Tryz.ntmps29
    go_wp2_with fail
    refine (enter_c g n dp d _ hM1.out hn0 (by omega)).mono ?_
    rintro r w2 ⟨rfl, hM2, hG2⟩
    rw [hbb.out]
    replace hM2 := Lib.hid hM2
    replace hG2 := Lib.hid hG2
    go_wp2_with fail
    go_ret
    exact ⟨ret_bool hE2.out.symm, hG1.out.trans hG2.out, ⟨_, _, hM2.out⟩, fun h => by rw [hE2.out] at h; cases h⟩
mutual
theorem expr_c : ∀ e : Ex, MeterC e
  | .mk op kind n s f args => expr_step _ (all_c args (exprs_all args))
theorem exprs_all : ∀ (es : List Ex) (i : Nat) (hi : i < es.length), MeterC es[i]
  | e :: es, 0, _ => expr_c e
  | e :: es, i + 1, hi => exprs_all es i (by simpa using hi)
end

theorem blk_new {w : World} {n : Nat} (h : n = w.heap.size) (t : TypeId) (cs : Array Value) : Blk (w.alloc (.cells cs t (0, 0))) n t cs := by subst h; exact Blk.new w t cs
/-- A well formed expression. -/
def wellB (e : Ex) : Bool := okE e 1 0
set_option maxRecDepth 100000 in
theorem checkExpr_c (e : Ex) (v : Value) (w : World) (hv : exsSl w v e.args) (hA : Amb w) (hf : e.fits) :
    Calls Tryz.prog 13 #[exVal e v] w fun r w' => r = .returned (.int .i64 (if wellB e then 0 else 2)) ∧ Gr w w' := by
  obtain ⟨q, cap, rfl⟩ := hv.val
  have hc := expr_c e w ((w.alloc (.cells #[.int .i64 e.op, .int .i64 e.kind, .int .i64 e.num, .string e.s, .string e.field, .slice q e.args.length cap] 24)).alloc (.cells #[.int .i64 0, .int .i64 0] 65)) (w.heap.size + 1) 0 0 1 _ hv (((Kp.refl [] w).alloc _).alloc _) (by omega) hA (blk_new (by simp) _ _) (by omega) (by omega) (by omega) (by omega) (by omega) hf
  have hG : Gr w ((w.alloc (.cells #[.int .i64 e.op, .int .i64 e.kind, .int .i64 e.num, .string e.s, .string e.field, .slice q e.args.length cap] 24)).alloc (.cells #[.int .i64 0, .int .i64 0] 65)) := ((Gr.refl w).cells _ _).cells _ _
  obtain ⟨len, hlen⟩ : ∃ len, e.args.length = len := ⟨_, rfl⟩
  unfold exVal at hc ⊢
  rw [hlen] at hc hG ⊢
  replace hc := Lib.hid hc
  replace hG := Lib.hid hG
  clear hv hA hf hlen
  cases ho : okE e 1 0
  all_goals
    have hW : Hid (wellB e = okE e 1 0) := rfl
    rw [show wellB e = okE e 1 0 from rfl, ho]
    go_enter Tryz.func13, Tryz.ntmps13
    go_wp2_with fail
    refine hc.out.mono ?_
    rintro r w2 ⟨rfl, hG2, _⟩
    rw [ho]
    have hG3 := Lib.hid (hG2.gr hG.out (by omega))
    clear hG2
    go_wp2_with fail
    go_ret
    exact ⟨rfl, hG3.out⟩
end Go.Proofs.YtebmaclopkocgaaGreatDoor
