import Derived.Test.YtieacfenoomaeaaQa3
set_option linter.unusedSimpArgs false
set_option linter.unusedVariables false
namespace Go.Proofs.Ytieacfenoomaeaa
open Go.RowKit

def tonF (x : F6) (now : Int) : F6 :=
  if x.a = 0 then { x with c := 0, d := 0, f := 0 } else
    let e := if x.f = 0 then now else x.e
    let f := if x.f = 0 then 1 else x.f
    { x with c := oneOf (decide (pre x.b ≤ gone x.b e now)), d := gone x.b e now, e := e, f := f }
/-- The end of a block: the frame's cell is handed back. -/
theorem fin_frame {fn : Func} {x y : F6} {w W : World} {g : Nat} {tmps : Array Value} {p : Tmp} (h : fn.results = #[.cell p 65]) (hp : tmps.getD p undef = .pointer (some ⟨g, 0, none⟩))
    (hB : Blk W g 65 y.cells) (hxy : y = x) (hk : Kp [] w W) : bodyPost Try.prog fn (FrRes x w) Exit.ret { tmps := tmps, defers := [] } W := by
  subst hxy
  exact bodyPost_ret (v := y.v) (results_cell_row h _ _ g 65 _ (0, 0) _ hp hB Try.underlying65 rfl (by kernel_rfl)) rfl ⟨rfl, hk⟩

/-- The same, behind the store of a frame. -/
theorem fin_set {fn : Func} {x : F6} {w W : World} {gx : Nat} {tmps : Array Value} {p : Tmp} {a b c d e f r0 r1 r2 r3 r4 r5 : Int} (h : fn.results = #[.cell p 65]) (hp : tmps.getD p undef = .pointer (some ⟨gx + 1, 0, none⟩))
    (hT : Blk W (gx + 1) 65 (frCells r0 r1 r2 r3 r4 r5)) (hk : Kp [] w W) (hg : w.heap.size = gx) (hxy : ⟨a, b, c, d, e, f⟩ = x) :
    bodyPost Try.prog fn (FrRes x w) Exit.ret { tmps := tmps, defers := [] } ((((((W.setCell ⟨gx + 1, 0, none⟩ (.int .i64 a)).setCell ⟨gx + 1, 1, none⟩ (.int .i64 b)).setCell ⟨gx + 1, 2, none⟩ (.int .i64 c)).setCell ⟨gx + 1, 3, none⟩ (.int .i64 d)).setCell ⟨gx + 1, 4, none⟩ (.int .i64 e)).setCell ⟨gx + 1, 5, none⟩ (.int .i64 f)) := by
  have hB : Blk _ (gx + 1) 65 (F6.cells ⟨a, b, c, d, e, f⟩) := (((((hT.set 0 (.int .i64 a)).set 1 (.int .i64 b)).set 2 (.int .i64 c)).set 3 (.int .i64 d)).set 4 (.int .i64 e)).set 5 (.int .i64 f)
  have hl : ∀ j, (⟨gx + 1, j, none⟩ : Addr).block ∈ ([] : List Nat) ∨ w.heap.size ≤ (⟨gx + 1, j, none⟩ : Addr).block := fun j => .inr (by show w.heap.size ≤ gx + 1; omega)
  exact fin_frame h hp hB hxy ((((((hk.setCell (hl 0) _).setCell (hl 1) _).setCell (hl 2) _).setCell (hl 3) _).setCell (hl 4) _).setCell (hl 5) _)

set_option maxRecDepth 100000 in
set_option maxHeartbeats 1000000 in
theorem ton_off (x : F6) (now : Int) (w : World) (ha : x.a = 0) : Calls Try.prog 49 #[x.v, .int .i64 now] w (FrRes (tonF x now) w) := by
  obtain ⟨a, b, c, d, e, f⟩ := x
  obtain rfl : a = 0 := ha
  unfold F6.v fr
  go_enter Try.func49, Try.ntmps49
  go_wp2
  refine fin_frame (y := ⟨0, b, 0, 0, e, 0⟩) rfl rfl (heap_alloc2_new w _ _) (by simp [tonF]) (((Kp.refl [] w).alloc _).alloc _)
set_option maxRecDepth 100000 in
set_option maxHeartbeats 2000000 in
theorem ton_run (x : F6) (now : Int) (w : World) (ha : ¬ x.a = 0) (hf : ¬ x.f = 0) (he : -2147483648 ≤ x.e ∧ x.e ≤ 2147483647) (hn : 0 ≤ now ∧ now ≤ 1000000000) : Calls Try.prog 49 #[x.v, .int .i64 now] w (FrRes (tonF x now) w) := by
  obtain ⟨a, b, c, d, e, f⟩ := x
  have ha2 : (a == 0) = false := by simpa using ha
  have hf2 : (f == 0) = false := by simpa using hf
  have hB := Blk.new w 65 (frCells a b c d e f)
  have hR := Blk.new (w.alloc (.cells (frCells a b c d e f) 65)) 65 (frCells 0 0 0 0 0 0)
  replace hB := hB.alloc (.cells (frCells 0 0 0 0 0 0) 65)
  simp only [World.size_alloc] at hR
  obtain ⟨W1, hW1⟩ : ∃ W1, (w.alloc (.cells (frCells a b c d e f) 65)).alloc (.cells (frCells 0 0 0 0 0 0) 65) = W1 := ⟨_, rfl⟩
  have hk1 : Kp [] w W1 := hW1 ▸ ((Kp.refl [] w).alloc _).alloc _
  rw [hW1] at hB hR
  have hc := Lib.hid (fun W => elapsed_c a b c d e f now W (by omega) hn)
  have hp := Lib.hid (fun d W => preset_c a b c d e f W)
  unfold frCells at hW1
  unfold fr at hc hp
  obtain ⟨g0, hg0⟩ : ∃ g, gone b e now = g := ⟨_, rfl⟩
  have hG : Hid (⟨a, b, oneOf (decide (pre b ≤ g0)), g0, e, f⟩ = tonF ⟨a, b, c, d, e, f⟩ now) := by
    show _ = _
    simp [tonF, hg0, show ¬ a = 0 from ha, show ¬ f = 0 from hf]
  rw [hg0] at hc
  obtain ⟨Z, hZ⟩ : ∃ Z, tonF ⟨a, b, c, d, e, f⟩ now = Z := ⟨_, rfl⟩
  rw [hZ] at hG ⊢
  unfold F6.v fr
  replace hB := Lib.hid hB
  replace hR := Lib.hid hR
  replace hW1 := Lib.hid hW1
  replace hk1 := Lib.hid hk1
  replace hg0 := Lib.hid hg0
  clear he hn ha hf hZ
  go_enter Try.func49, Try.ntmps49
  go_wp2_with fail
  rw [hW1.out]
  refine (hc.out _).mono ?_
  rintro r w2 ⟨rfl, hk2⟩
  obtain ⟨gx, hgx⟩ : ∃ x, w.heap.size = x := ⟨_, rfl⟩
  rw [hgx] at hB hR ⊢
  have hB2 := hB.out.kp hk2 (by simp)
  have hR2 := hR.out.kp hk2 (by simp)
  have f3 := hB2.frozen 3
  have c3 := hB2.cell 3 (v := .int .i64 d) rfl
  have hK2 := Lib.hid (hk1.out.trans hk2)
  have hS := hB2.set 3 (.int .i64 g0)
  have hRS := hR2.other (p := ⟨gx, 3, none⟩) (by simp) (.int .i64 g0)
  have hKS := hK2.out.setCell (p := ⟨gx, 3, none⟩) (.inr (by show w.heap.size ≤ gx; omega)) (.int .i64 g0)
  obtain ⟨W3, hW3⟩ : ∃ W3, w2.setCell ⟨gx, 3, none⟩ (.int .i64 g0) = W3 := ⟨_, rfl⟩
  rw [hW3] at hS hRS hKS
  replace hS := Lib.hid hS
  replace hRS := Lib.hid hRS
  replace hKS := Lib.hid hKS
  replace hW3 := Lib.hid hW3
  clear hk2 hB2 hR2 hB hR hk1 hW1
  go_wp2_with fail
  rw [hW3.out]
  have hS' : Blk W3 gx 65 (frCells a b c g0 e f) := hS.out
  obtain ⟨s0, s1, s2, s3, s4, s5⟩ := hS'.drew.fr
  have hp3 := Lib.hid (hp.out g0 W3.drew)
  replace hS' := Lib.hid hS'
  clear hp hc hS
  go_region_with (first
    | (go_at_call 33; refine hp3.out.mono ?_; rintro r w5 ⟨rfl, hk5⟩; replace hk5 := Lib.hid hk5; have hS5 := hS'.out.drew.kp hk5.out (by simp); have t3 := hS5.cell 3 (v := .int .i64 g0) rfl; have t2 := hS5.cell 2 (v := .int .i64 c) rfl; have z2 := hS5.frozen 2; replace hS5 := Lib.hid hS5)
    | (go_at_call 73; refine (truth_c _ _).mono ?_; rintro r w5 ⟨rfl, rfl⟩))
  all_goals
    obtain ⟨v, hv⟩ : ∃ v, oneOf (decide (pre b ≤ g0)) = v := ⟨_, rfl⟩
    rw [hv] at hG ⊢
    clear s0 s1 s2 s3 s4 s5 t2 t3 z2 f3 c3
    have hU := hS5.out.set 2 (.int .i64 v)
    have hT := ((hRS.out.drew.kp hk5.out (by simp)).other (p := ⟨gx, 2, none⟩) (by simp) (.int .i64 v))
    have hKT := (hKS.out.drew.trans hk5.out).setCell (p := ⟨gx, 2, none⟩) (.inr (by show w.heap.size ≤ gx; omega)) (.int .i64 v)
    obtain ⟨W9, hW9⟩ : ∃ W9, (World.setCell w5 ⟨gx, 2, none⟩ (.int .i64 v)) = W9 := ⟨_, rfl⟩
    rw [hW9] at hU hT hKT ⊢
    replace hU : Blk W9 gx 65 (frCells a b v g0 e f) := hU
    obtain ⟨s0, s1, s2, s3, s4, s5⟩ := hU.fr
    obtain ⟨r0, r1, r2, r3, r4, r5⟩ := hT.fr
    have q0 := hT.frozen 0
    have q1 := hT.frozen 1
    have q2 := hT.frozen 2
    have q3 := hT.frozen 3
    have q4 := hT.frozen 4
    have q5 := hT.frozen 5
    replace hT := Lib.hid hT
    replace hKT := Lib.hid hKT
    replace hW9 := Lib.hid hW9
    replace hv := Lib.hid hv
    clear hU hS5 hk5 hRS hKS hK2 hS' hp3
    go_wp2
    exact fin_set rfl rfl hT.out hKT.out hgx hG.out
set_option maxRecDepth 100000 in
set_option maxHeartbeats 2000000 in
theorem ton_start (x : F6) (now : Int) (w : World) (ha : ¬ x.a = 0) (hf :  x.f = 0) (he : -2147483648 ≤ x.e ∧ x.e ≤ 2147483647) (hn : 0 ≤ now ∧ now ≤ 1000000000) : Calls Try.prog 49 #[x.v, .int .i64 now] w (FrRes (tonF x now) w) := by
  obtain ⟨a, b, c, d, e, f⟩ := x
  have ha2 : (a == 0) = false := by simpa using ha
  have hf2 : (f == 0) = true := by simpa using hf
  have hB := Blk.new w 65 (frCells a b c d now 1)
  have hR := Blk.new (w.alloc (.cells (frCells a b c d now 1) 65)) 65 (frCells 0 0 0 0 0 0)
  replace hB := hB.alloc (.cells (frCells 0 0 0 0 0 0) 65)
  simp only [World.size_alloc] at hR
  obtain ⟨W1, hW1⟩ : ∃ W1, (w.alloc (.cells (frCells a b c d now 1) 65)).alloc (.cells (frCells 0 0 0 0 0 0) 65) = W1 := ⟨_, rfl⟩
  have hk1 : Kp [] w W1 := hW1 ▸ ((Kp.refl [] w).alloc _).alloc _
  rw [hW1] at hB hR
  have hc := Lib.hid (fun W => elapsed_c a b c d now 1 now W (by omega) hn)
  have hp := Lib.hid (fun d W => preset_c a b c d now 1 W)
  unfold frCells at hW1
  unfold fr at hc hp
  obtain ⟨g0, hg0⟩ : ∃ g, gone b now now = g := ⟨_, rfl⟩
  have hG : Hid (⟨a, b, oneOf (decide (pre b ≤ g0)), g0, now, 1⟩ = tonF ⟨a, b, c, d, e, f⟩ now) := by
    show _ = _
    simp [tonF, hg0, show ¬ a = 0 from ha, show  f = 0 from hf]
  rw [hg0] at hc
  obtain ⟨Z, hZ⟩ : ∃ Z, tonF ⟨a, b, c, d, e, f⟩ now = Z := ⟨_, rfl⟩
  rw [hZ] at hG ⊢
  unfold F6.v fr
  replace hB := Lib.hid hB
  replace hR := Lib.hid hR
  replace hW1 := Lib.hid hW1
  replace hk1 := Lib.hid hk1
  replace hg0 := Lib.hid hg0
  clear he hn ha hf hZ
  go_enter Try.func49, Try.ntmps49
  go_wp2_with fail
  rw [hW1.out]
  refine (hc.out _).mono ?_
  rintro r w2 ⟨rfl, hk2⟩
  obtain ⟨gx, hgx⟩ : ∃ x, w.heap.size = x := ⟨_, rfl⟩
  rw [hgx] at hB hR ⊢
  have hB2 := hB.out.kp hk2 (by simp)
  have hR2 := hR.out.kp hk2 (by simp)
  have f3 := hB2.frozen 3
  have c3 := hB2.cell 3 (v := .int .i64 d) rfl
  have hK2 := Lib.hid (hk1.out.trans hk2)
  have hS := hB2.set 3 (.int .i64 g0)
  have hRS := hR2.other (p := ⟨gx, 3, none⟩) (by simp) (.int .i64 g0)
  have hKS := hK2.out.setCell (p := ⟨gx, 3, none⟩) (.inr (by show w.heap.size ≤ gx; omega)) (.int .i64 g0)
  obtain ⟨W3, hW3⟩ : ∃ W3, w2.setCell ⟨gx, 3, none⟩ (.int .i64 g0) = W3 := ⟨_, rfl⟩
  rw [hW3] at hS hRS hKS
  replace hS := Lib.hid hS
  replace hRS := Lib.hid hRS
  replace hKS := Lib.hid hKS
  replace hW3 := Lib.hid hW3
  clear hk2 hB2 hR2 hB hR hk1 hW1
  go_wp2_with fail
  rw [hW3.out]
  have hS' : Blk W3 gx 65 (frCells a b c g0 now 1) := hS.out
  obtain ⟨s0, s1, s2, s3, s4, s5⟩ := hS'.drew.fr
  have hp3 := Lib.hid (hp.out g0 W3.drew)
  replace hS' := Lib.hid hS'
  clear hp hc hS
  go_region_with (first
    | (go_at_call 33; refine hp3.out.mono ?_; rintro r w5 ⟨rfl, hk5⟩; replace hk5 := Lib.hid hk5; have hS5 := hS'.out.drew.kp hk5.out (by simp); have t3 := hS5.cell 3 (v := .int .i64 g0) rfl; have t2 := hS5.cell 2 (v := .int .i64 c) rfl; have z2 := hS5.frozen 2; replace hS5 := Lib.hid hS5)
    | (go_at_call 73; refine (truth_c _ _).mono ?_; rintro r w5 ⟨rfl, rfl⟩))
  all_goals
    obtain ⟨v, hv⟩ : ∃ v, oneOf (decide (pre b ≤ g0)) = v := ⟨_, rfl⟩
    rw [hv] at hG ⊢
    clear s0 s1 s2 s3 s4 s5 t2 t3 z2 f3 c3
    have hU := hS5.out.set 2 (.int .i64 v)
    have hT := ((hRS.out.drew.kp hk5.out (by simp)).other (p := ⟨gx, 2, none⟩) (by simp) (.int .i64 v))
    have hKT := (hKS.out.drew.trans hk5.out).setCell (p := ⟨gx, 2, none⟩) (.inr (by show w.heap.size ≤ gx; omega)) (.int .i64 v)
    obtain ⟨W9, hW9⟩ : ∃ W9, (World.setCell w5 ⟨gx, 2, none⟩ (.int .i64 v)) = W9 := ⟨_, rfl⟩
    rw [hW9] at hU hT hKT ⊢
    replace hU : Blk W9 gx 65 (frCells a b v g0 now 1) := hU
    obtain ⟨s0, s1, s2, s3, s4, s5⟩ := hU.fr
    obtain ⟨r0, r1, r2, r3, r4, r5⟩ := hT.fr
    have q0 := hT.frozen 0
    have q1 := hT.frozen 1
    have q2 := hT.frozen 2
    have q3 := hT.frozen 3
    have q4 := hT.frozen 4
    have q5 := hT.frozen 5
    replace hT := Lib.hid hT
    replace hKT := Lib.hid hKT
    replace hW9 := Lib.hid hW9
    replace hv := Lib.hid hv
    clear hU hS5 hk5 hRS hKS hK2 hS' hp3
    go_wp2
    exact fin_set rfl rfl hT.out hKT.out hgx hG.out
theorem ton_c (x : F6) (now : Int) (w : World) (he : -2147483648 ≤ x.e ∧ x.e ≤ 2147483647) (hn : 0 ≤ now ∧ now ≤ 1000000000) : Calls Try.prog 49 #[x.v, .int .i64 now] w (FrRes (tonF x now) w) := by
  by_cases ha : x.a = 0
  · exact ton_off x now w ha
  · by_cases hf : x.f = 0
    · exact ton_start x now w ha hf he hn
    · exact ton_run x now w ha hf he hn
end Go.Proofs.Ytieacfenoomaeaa
