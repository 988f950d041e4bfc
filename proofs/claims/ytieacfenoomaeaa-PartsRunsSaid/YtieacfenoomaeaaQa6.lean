import Derived.Test.YtieacfenoomaeaaQa5
set_option linter.unusedSimpArgs false
set_option linter.unusedVariables false
namespace Go.Proofs.Ytieacfenoomaeaa
open Go.RowKit

set_option maxRecDepth 100000 in
set_option maxHeartbeats 2000000 in
theorem tp_start (x : F6) (now : Int) (w : World) (hf : x.f = 0) (ha : x.a = 1) (hc0 : x.c = 0) (hd : x.d = 0) (hb : 0 < x.b) (hbr : ¬ pre x.b ≤ gone x.b now now) (he : -2147483648 ≤ x.e ∧ x.e ≤ 2147483647) (hn : 0 ≤ now ∧ now ≤ 1000000000) : Calls Try.prog 51 #[x.v, .int .i64 now] w (FrRes (tpF x now) w) := by
  obtain ⟨a, b, c, d, e, f⟩ := x
  have ha2 : (a == 1) = true := by simpa using ha
  have hc2 : (c == 0) = true := by simpa using hc0
  have hd2 : (d == 0) = true := by simpa using hd
  have hf2 : (f == 0) = true := by simpa using hf
  replace hb : 0 < b := hb
  have hb2 : decide (0 < b) = true := by simpa using hb
  replace hbr : ¬ pre b ≤ gone b now now := hbr
  have hb3 := Lib.hid hb
  have hB := Blk.new w 65 (frCells a b 1 d now 1)
  have hR := Blk.new (w.alloc (.cells (frCells a b 1 d now 1) 65)) 65 (frCells 0 0 0 0 0 0)
  replace hB := hB.alloc (.cells (frCells 0 0 0 0 0 0) 65)
  simp only [World.size_alloc] at hR
  obtain ⟨W1, hW1⟩ : ∃ W1, (w.alloc (.cells (frCells a b 1 d now 1) 65)).alloc (.cells (frCells 0 0 0 0 0 0) 65) = W1 := ⟨_, rfl⟩
  have hk1 : Kp [] w W1 := hW1 ▸ ((Kp.refl [] w).alloc _).alloc _
  rw [hW1] at hB hR
  have hc := Lib.hid (fun W => elapsed_c a b 1 d now 1 now W (by omega) hn)
  have hp := Lib.hid (fun d W => preset_c a b 1 d now 1 W)
  unfold frCells at hW1
  unfold fr at hc hp
  obtain ⟨g0, hg0⟩ : ∃ g, gone b now now = g := ⟨_, rfl⟩
  rw [hg0] at hc hbr
  have hbr2 := hbr
  obtain ⟨Z, hZ⟩ : ∃ Z, tpF ⟨a, b, c, d, e, f⟩ now = Z := ⟨_, rfl⟩
  have hG : Hid ((⟨a, b, 1, g0, now, 1⟩ : F6) = Z) := by
    show _ = _
    rw [← hZ]
    simp [tpF, tpE, hg0, show a = 1 from ha, show c = 0 from hc0, show d = 0 from hd, show f = 0 from hf, hb, hbr]
  rw [hZ]
  unfold F6.v fr
  replace hB := Lib.hid hB
  replace hR := Lib.hid hR
  replace hW1 := Lib.hid hW1
  replace hk1 := Lib.hid hk1
  replace hg0 := Lib.hid hg0
  replace hbr := Lib.hid hbr
  have hbb : decide (pre b ≤ g0) = false := by simpa using hbr2
  clear hbr2 he hn hZ ha hc0 hd hb hf
  go_enter Try.func51, Try.ntmps51
  go_wp2_with fail
  rw [hW1.out]
  refine (hc.out _).mono ?_
  rintro r w2 ⟨rfl, hk2⟩
  obtain ⟨gx, hgx⟩ : ∃ x, w.heap.size = x := ⟨_, rfl⟩
  rw [hgx] at hB hR ⊢
  have hB2 := hB.out.kp hk2 (by simp)
  have hR2 := hR.out.kp hk2 (by simp)
  have f3 := hB2.frozen 3
  have c3 := hB2.cell 3 (v := .int .i64 d) rfl
  have hK2 := Lib.hid (hk1.out.trans hk2)
  have hS := hB2.set 3 (.int .i64 g0)
  have hRS := hR2.other (p := ⟨gx, 3, none⟩) (by simp) (.int .i64 g0)
  have hKS := hK2.out.setCell (p := ⟨gx, 3, none⟩) (.inr (by show w.heap.size ≤ gx; omega)) (.int .i64 g0)
  obtain ⟨W3, hW3⟩ : ∃ W3, w2.setCell ⟨gx, 3, none⟩ (.int .i64 g0) = W3 := ⟨_, rfl⟩
  rw [hW3] at hS hRS hKS
  replace hS := Lib.hid hS
  replace hRS := Lib.hid hRS
  replace hKS := Lib.hid hKS
  replace hW3 := Lib.hid hW3
  clear hk2 hB2 hR2 hB hR hk1 hW1
  go_wp2_with fail
  rw [hW3.out]
  have hS' : Blk W3 gx 65 (frCells a b 1 g0 now 1) := hS.out
  have hall : Hid (∀ W', Kp [] W3 W' → FrAt W' gx a b 1 g0 now 1) := fun W' k => (hS'.kp k (by simp)).fr
  unfold FrAt at hall
  have hp3 := Lib.hid (hp.out g0 W3.drew)
  replace hS' := Lib.hid hS'
  clear hp hc hS f3 c3
  go_region_held3 (fun W' => W'.cell? ⟨gx, 0, none⟩ = some (.int .i64 a) ∧ W'.cell? ⟨gx, 1, none⟩ = some (.int .i64 b) ∧ W'.cell? ⟨gx, 2, none⟩ = some (.int .i64 1) ∧ W'.cell? ⟨gx, 3, none⟩ = some (.int .i64 g0) ∧ W'.cell? ⟨gx, 4, none⟩ = some (.int .i64 now) ∧ W'.cell? ⟨gx, 5, none⟩ = some (.int .i64 1))
    (first | exact hall.out _ hk5.out | exact hall.out _ (Kp.refl _ _) | exact hall.out _ (Kp.refl _ _).drew)
    (first | (go_at_call 33; refine hp3.out.mono ?_; rintro r w5 ⟨rfl, hk5⟩; replace hk5 := Lib.hid ((Kp.refl [] W3).drew.trans hk5)))
  all_goals
    have hU := hS'.out.kp hk5.out (by simp)
    have hT := hRS.out.kp hk5.out (by simp)
    have hKT := hKS.out.trans hk5.out
    obtain ⟨s0, s1, s2, s3, s4, s5⟩ := hU.fr
    obtain ⟨r0, r1, r2, r3, r4, r5⟩ := hT.fr
    have z2 := hU.frozen 2
    have z3 := hU.frozen 3
    have z5 := hU.frozen 5
    have q0 := hT.frozen 0
    have q1 := hT.frozen 1
    have q2 := hT.frozen 2
    have q3 := hT.frozen 3
    have q4 := hT.frozen 4
    have q5 := hT.frozen 5
    replace hU := Lib.hid hU
    replace hT := Lib.hid hT
    replace hKT := Lib.hid hKT
    clear hall hRS hKS hK2 hS' hp3 hk5 hW3
    go_wp2
    exact fin_set rfl rfl hT.out hKT.out hgx hG.out
set_option maxRecDepth 100000 in
set_option maxHeartbeats 2000000 in
theorem tp_run_on0 (x : F6) (now : Int) (w : World) (hf : x.f = 1) (ha :  x.a = 0) (hbr :  pre x.b ≤ gone x.b x.e now) (he : -2147483648 ≤ x.e ∧ x.e ≤ 2147483647) (hn : 0 ≤ now ∧ now ≤ 1000000000) : Calls Try.prog 51 #[x.v, .int .i64 now] w (FrRes (tpF x now) w) := by
  obtain ⟨a, b, c, d, e, f⟩ := x
  have hf2 : (f == 0) = false := by have : f = 1 := hf; subst this; rfl
  have hf3 : (f == 1) = true := by simpa using hf
  replace hbr :  pre b ≤ gone b e now := hbr
  have ha2 : (a == 0) = true := by simpa using ha
  have hB := Blk.new w 65 (frCells a b c d e f)
  have hR := Blk.new (w.alloc (.cells (frCells a b c d e f) 65)) 65 (frCells 0 0 0 0 0 0)
  replace hB := hB.alloc (.cells (frCells 0 0 0 0 0 0) 65)
  simp only [World.size_alloc] at hR
  obtain ⟨W1, hW1⟩ : ∃ W1, (w.alloc (.cells (frCells a b c d e f) 65)).alloc (.cells (frCells 0 0 0 0 0 0) 65) = W1 := ⟨_, rfl⟩
  have hk1 : Kp [] w W1 := hW1 ▸ ((Kp.refl [] w).alloc _).alloc _
  rw [hW1] at hB hR
  have hc := Lib.hid (fun W => elapsed_c a b c d e f now W (by omega) hn)
  have hp := Lib.hid (fun d W => preset_c a b c d e f W)
  unfold frCells at hW1
  unfold fr at hc hp
  obtain ⟨g0, hg0⟩ : ∃ g, gone b e now = g := ⟨_, rfl⟩
  rw [hg0] at hc hbr
  have hbr2 := hbr
  obtain ⟨Z, hZ⟩ : ∃ Z, tpF ⟨a, b, c, d, e, f⟩ now = Z := ⟨_, rfl⟩
  have hG : Hid ((⟨a, b, 0, 0, e, 0⟩ : F6) = Z) := by
    show _ = _
    rw [← hZ]
    simp [tpF, tpE, hg0, show f = 1 from hf, hbr, show  a = 0 from ha]
  rw [hZ]
  unfold F6.v fr
  replace hB := Lib.hid hB
  replace hR := Lib.hid hR
  replace hW1 := Lib.hid hW1
  replace hk1 := Lib.hid hk1
  replace hg0 := Lib.hid hg0
  replace hbr := Lib.hid hbr
  have hbb : decide (pre b ≤ g0) = true := by simpa using hbr2
  clear hbr2 he hn hZ hf ha
  go_enter Try.func51, Try.ntmps51
  go_wp2_with fail
  rw [hW1.out]
  refine (hc.out _).mono ?_
  rintro r w2 ⟨rfl, hk2⟩
  obtain ⟨gx, hgx⟩ : ∃ x, w.heap.size = x := ⟨_, rfl⟩
  rw [hgx] at hB hR ⊢
  have hB2 := hB.out.kp hk2 (by simp)
  have hR2 := hR.out.kp hk2 (by simp)
  have f3 := hB2.frozen 3
  have c3 := hB2.cell 3 (v := .int .i64 d) rfl
  have hK2 := Lib.hid (hk1.out.trans hk2)
  have hS := hB2.set 3 (.int .i64 g0)
  have hRS := hR2.other (p := ⟨gx, 3, none⟩) (by simp) (.int .i64 g0)
  have hKS := hK2.out.setCell (p := ⟨gx, 3, none⟩) (.inr (by show w.heap.size ≤ gx; omega)) (.int .i64 g0)
  obtain ⟨W3, hW3⟩ : ∃ W3, w2.setCell ⟨gx, 3, none⟩ (.int .i64 g0) = W3 := ⟨_, rfl⟩
  rw [hW3] at hS hRS hKS
  replace hS := Lib.hid hS
  replace hRS := Lib.hid hRS
  replace hKS := Lib.hid hKS
  replace hW3 := Lib.hid hW3
  clear hk2 hB2 hR2 hB hR hk1 hW1
  go_wp2_with fail
  rw [hW3.out]
  have hS' : Blk W3 gx 65 (frCells a b c g0 e f) := hS.out
  have hall : Hid (∀ W', Kp [] W3 W' → FrAt W' gx a b c g0 e f) := fun W' k => (hS'.kp k (by simp)).fr
  unfold FrAt at hall
  have hp3 := Lib.hid (hp.out g0 W3.drew)
  replace hS' := Lib.hid hS'
  clear hp hc hS f3 c3
  go_region_held3 (fun W' => W'.cell? ⟨gx, 0, none⟩ = some (.int .i64 a) ∧ W'.cell? ⟨gx, 1, none⟩ = some (.int .i64 b) ∧ W'.cell? ⟨gx, 2, none⟩ = some (.int .i64 c) ∧ W'.cell? ⟨gx, 3, none⟩ = some (.int .i64 g0) ∧ W'.cell? ⟨gx, 4, none⟩ = some (.int .i64 e) ∧ W'.cell? ⟨gx, 5, none⟩ = some (.int .i64 f))
    (first | exact hall.out _ hk5.out | exact hall.out _ (Kp.refl _ _) | exact hall.out _ (Kp.refl _ _).drew)
    (first | (go_at_call 33; refine hp3.out.mono ?_; rintro r w5 ⟨rfl, hk5⟩; replace hk5 := Lib.hid ((Kp.refl [] W3).drew.trans hk5)))
  all_goals
    have hU := hS'.out.kp hk5.out (by simp)
    have hT := hRS.out.kp hk5.out (by simp)
    have hKT := hKS.out.trans hk5.out
    obtain ⟨s0, s1, s2, s3, s4, s5⟩ := hU.fr
    obtain ⟨r0, r1, r2, r3, r4, r5⟩ := hT.fr
    have z2 := hU.frozen 2
    have z3 := hU.frozen 3
    have z5 := hU.frozen 5
    have q0 := hT.frozen 0
    have q1 := hT.frozen 1
    have q2 := hT.frozen 2
    have q3 := hT.frozen 3
    have q4 := hT.frozen 4
    have q5 := hT.frozen 5
    replace hU := Lib.hid hU
    replace hT := Lib.hid hT
    replace hKT := Lib.hid hKT
    clear hall hRS hKS hK2 hS' hp3 hk5 hW3
    go_wp2
    have hT2 := ((hT.out.other (p := ⟨gx, 2, none⟩) (by simp) (.int .i64 0)).other (p := ⟨gx, 5, none⟩) (by simp) (.int .i64 0)).other (p := ⟨gx, 3, none⟩) (by simp) (.int .i64 0)
    have hl : ∀ j, (⟨gx, j, none⟩ : Addr).block ∈ ([] : List Nat) ∨ w.heap.size ≤ (⟨gx, j, none⟩ : Addr).block := fun j => .inr (by show w.heap.size ≤ gx; omega)
    exact fin_set rfl rfl hT2 (((hKT.out.setCell (hl 2) _).setCell (hl 5) _).setCell (hl 3) _) hgx hG.out
set_option maxRecDepth 100000 in
set_option maxHeartbeats 2000000 in
theorem tp_run_on1 (x : F6) (now : Int) (w : World) (hf : x.f = 1) (ha : ¬ x.a = 0) (hbr :  pre x.b ≤ gone x.b x.e now) (he : -2147483648 ≤ x.e ∧ x.e ≤ 2147483647) (hn : 0 ≤ now ∧ now ≤ 1000000000) : Calls Try.prog 51 #[x.v, .int .i64 now] w (FrRes (tpF x now) w) := by
  obtain ⟨a, b, c, d, e, f⟩ := x
  have hf2 : (f == 0) = false := by have : f = 1 := hf; subst this; rfl
  have hf3 : (f == 1) = true := by simpa using hf
  replace hbr :  pre b ≤ gone b e now := hbr
  have ha2 : (a == 0) = false := by simpa using ha
  have hB := Blk.new w 65 (frCells a b c d e f)
  have hR := Blk.new (w.alloc (.cells (frCells a b c d e f) 65)) 65 (frCells 0 0 0 0 0 0)
  replace hB := hB.alloc (.cells (frCells 0 0 0 0 0 0) 65)
  simp only [World.size_alloc] at hR
  obtain ⟨W1, hW1⟩ : ∃ W1, (w.alloc (.cells (frCells a b c d e f) 65)).alloc (.cells (frCells 0 0 0 0 0 0) 65) = W1 := ⟨_, rfl⟩
  have hk1 : Kp [] w W1 := hW1 ▸ ((Kp.refl [] w).alloc _).alloc _
  rw [hW1] at hB hR
  have hc := Lib.hid (fun W => elapsed_c a b c d e f now W (by omega) hn)
  have hp := Lib.hid (fun d W => preset_c a b c d e f W)
  unfold frCells at hW1
  unfold fr at hc hp
  obtain ⟨g0, hg0⟩ : ∃ g, gone b e now = g := ⟨_, rfl⟩
  rw [hg0] at hc hbr
  have hbr2 := hbr
  obtain ⟨Z, hZ⟩ : ∃ Z, tpF ⟨a, b, c, d, e, f⟩ now = Z := ⟨_, rfl⟩
  have hG : Hid ((⟨a, b, 0, g0, e, 0⟩ : F6) = Z) := by
    show _ = _
    rw [← hZ]
    simp [tpF, tpE, hg0, show f = 1 from hf, hbr, show ¬ a = 0 from ha]
  rw [hZ]
  unfold F6.v fr
  replace hB := Lib.hid hB
  replace hR := Lib.hid hR
  replace hW1 := Lib.hid hW1
  replace hk1 := Lib.hid hk1
  replace hg0 := Lib.hid hg0
  replace hbr := Lib.hid hbr
  have hbb : decide (pre b ≤ g0) = true := by simpa using hbr2
  clear hbr2 he hn hZ hf ha
  go_enter Try.func51, Try.ntmps51
  go_wp2_with fail
  rw [hW1.out]
  refine (hc.out _).mono ?_
  rintro r w2 ⟨rfl, hk2⟩
  obtain ⟨gx, hgx⟩ : ∃ x, w.heap.size = x := ⟨_, rfl⟩
  rw [hgx] at hB hR ⊢
  have hB2 := hB.out.kp hk2 (by simp)
  have hR2 := hR.out.kp hk2 (by simp)
  have f3 := hB2.frozen 3
  have c3 := hB2.cell 3 (v := .int .i64 d) rfl
  have hK2 := Lib.hid (hk1.out.trans hk2)
  have hS := hB2.set 3 (.int .i64 g0)
  have hRS := hR2.other (p := ⟨gx, 3, none⟩) (by simp) (.int .i64 g0)
  have hKS := hK2.out.setCell (p := ⟨gx, 3, none⟩) (.inr (by show w.heap.size ≤ gx; omega)) (.int .i64 g0)
  obtain ⟨W3, hW3⟩ : ∃ W3, w2.setCell ⟨gx, 3, none⟩ (.int .i64 g0) = W3 := ⟨_, rfl⟩
  rw [hW3] at hS hRS hKS
  replace hS := Lib.hid hS
  replace hRS := Lib.hid hRS
  replace hKS := Lib.hid hKS
  replace hW3 := Lib.hid hW3
  clear hk2 hB2 hR2 hB hR hk1 hW1
  go_wp2_with fail
  rw [hW3.out]
  have hS' : Blk W3 gx 65 (frCells a b c g0 e f) := hS.out
  have hall : Hid (∀ W', Kp [] W3 W' → FrAt W' gx a b c g0 e f) := fun W' k => (hS'.kp k (by simp)).fr
  unfold FrAt at hall
  have hp3 := Lib.hid (hp.out g0 W3.drew)
  replace hS' := Lib.hid hS'
  clear hp hc hS f3 c3
  go_region_held3 (fun W' => W'.cell? ⟨gx, 0, none⟩ = some (.int .i64 a) ∧ W'.cell? ⟨gx, 1, none⟩ = some (.int .i64 b) ∧ W'.cell? ⟨gx, 2, none⟩ = some (.int .i64 c) ∧ W'.cell? ⟨gx, 3, none⟩ = some (.int .i64 g0) ∧ W'.cell? ⟨gx, 4, none⟩ = some (.int .i64 e) ∧ W'.cell? ⟨gx, 5, none⟩ = some (.int .i64 f))
    (first | exact hall.out _ hk5.out | exact hall.out _ (Kp.refl _ _) | exact hall.out _ (Kp.refl _ _).drew)
    (first | (go_at_call 33; refine hp3.out.mono ?_; rintro r w5 ⟨rfl, hk5⟩; replace hk5 := Lib.hid ((Kp.refl [] W3).drew.trans hk5)))
  all_goals
    have hU := hS'.out.kp hk5.out (by simp)
    have hT := hRS.out.kp hk5.out (by simp)
    have hKT := hKS.out.trans hk5.out
    obtain ⟨s0, s1, s2, s3, s4, s5⟩ := hU.fr
    obtain ⟨r0, r1, r2, r3, r4, r5⟩ := hT.fr
    have z2 := hU.frozen 2
    have z3 := hU.frozen 3
    have z5 := hU.frozen 5
    have q0 := hT.frozen 0
    have q1 := hT.frozen 1
    have q2 := hT.frozen 2
    have q3 := hT.frozen 3
    have q4 := hT.frozen 4
    have q5 := hT.frozen 5
    replace hU := Lib.hid hU
    replace hT := Lib.hid hT
    replace hKT := Lib.hid hKT
    clear hall hRS hKS hK2 hS' hp3 hk5 hW3
    go_wp2
    have hT2 := (hT.out.other (p := ⟨gx, 2, none⟩) (by simp) (.int .i64 0)).other (p := ⟨gx, 5, none⟩) (by simp) (.int .i64 0)
    have hl : ∀ j, (⟨gx, j, none⟩ : Addr).block ∈ ([] : List Nat) ∨ w.heap.size ≤ (⟨gx, j, none⟩ : Addr).block := fun j => .inr (by show w.heap.size ≤ gx; omega)
    exact fin_set rfl rfl hT2 ((hKT.out.setCell (hl 2) _).setCell (hl 5) _) hgx hG.out
set_option maxRecDepth 100000 in
set_option maxHeartbeats 2000000 in
theorem tp_run_off (x : F6) (now : Int) (w : World) (hf : x.f = 1) (hbr : ¬ pre x.b ≤ gone x.b x.e now) (he : -2147483648 ≤ x.e ∧ x.e ≤ 2147483647) (hn : 0 ≤ now ∧ now ≤ 1000000000) : Calls Try.prog 51 #[x.v, .int .i64 now] w (FrRes (tpF x now) w) := by
  obtain ⟨a, b, c, d, e, f⟩ := x
  have hf2 : (f == 0) = false := by have : f = 1 := hf; subst this; rfl
  have hf3 : (f == 1) = true := by simpa using hf
  replace hbr : ¬ pre b ≤ gone b e now := hbr
  have hB := Blk.new w 65 (frCells a b c d e f)
  have hR := Blk.new (w.alloc (.cells (frCells a b c d e f) 65)) 65 (frCells 0 0 0 0 0 0)
  replace hB := hB.alloc (.cells (frCells 0 0 0 0 0 0) 65)
  simp only [World.size_alloc] at hR
  obtain ⟨W1, hW1⟩ : ∃ W1, (w.alloc (.cells (frCells a b c d e f) 65)).alloc (.cells (frCells 0 0 0 0 0 0) 65) = W1 := ⟨_, rfl⟩
  have hk1 : Kp [] w W1 := hW1 ▸ ((Kp.refl [] w).alloc _).alloc _
  rw [hW1] at hB hR
  have hc := Lib.hid (fun W => elapsed_c a b c d e f now W (by omega) hn)
  have hp := Lib.hid (fun d W => preset_c a b c d e f W)
  unfold frCells at hW1
  unfold fr at hc hp
  obtain ⟨g0, hg0⟩ : ∃ g, gone b e now = g := ⟨_, rfl⟩
  rw [hg0] at hc hbr
  have hbr2 := hbr
  obtain ⟨Z, hZ⟩ : ∃ Z, tpF ⟨a, b, c, d, e, f⟩ now = Z := ⟨_, rfl⟩
  have hG : Hid ((⟨a, b, c, g0, e, f⟩ : F6) = Z) := by
    show _ = _
    rw [← hZ]
    simp [tpF, tpE, hg0, show f = 1 from hf, hbr]
  rw [hZ]
  unfold F6.v fr
  replace hB := Lib.hid hB
  replace hR := Lib.hid hR
  replace hW1 := Lib.hid hW1
  replace hk1 := Lib.hid hk1
  replace hg0 := Lib.hid hg0
  replace hbr := Lib.hid hbr
  have hbb : decide (pre b ≤ g0) = false := by simpa using hbr2
  clear hbr2 he hn hZ hf
  go_enter Try.func51, Try.ntmps51
  go_wp2_with fail
  rw [hW1.out]
  refine (hc.out _).mono ?_
  rintro r w2 ⟨rfl, hk2⟩
  obtain ⟨gx, hgx⟩ : ∃ x, w.heap.size = x := ⟨_, rfl⟩
  rw [hgx] at hB hR ⊢
  have hB2 := hB.out.kp hk2 (by simp)
  have hR2 := hR.out.kp hk2 (by simp)
  have f3 := hB2.frozen 3
  have c3 := hB2.cell 3 (v := .int .i64 d) rfl
  have hK2 := Lib.hid (hk1.out.trans hk2)
  have hS := hB2.set 3 (.int .i64 g0)
  have hRS := hR2.other (p := ⟨gx, 3, none⟩) (by simp) (.int .i64 g0)
  have hKS := hK2.out.setCell (p := ⟨gx, 3, none⟩) (.inr (by show w.heap.size ≤ gx; omega)) (.int .i64 g0)
  obtain ⟨W3, hW3⟩ : ∃ W3, w2.setCell ⟨gx, 3, none⟩ (.int .i64 g0) = W3 := ⟨_, rfl⟩
  rw [hW3] at hS hRS hKS
  replace hS := Lib.hid hS
  replace hRS := Lib.hid hRS
  replace hKS := Lib.hid hKS
  replace hW3 := Lib.hid hW3
  clear hk2 hB2 hR2 hB hR hk1 hW1
  go_wp2_with fail
  rw [hW3.out]
  have hS' : Blk W3 gx 65 (frCells a b c g0 e f) := hS.out
  have hall : Hid (∀ W', Kp [] W3 W' → FrAt W' gx a b c g0 e f) := fun W' k => (hS'.kp k (by simp)).fr
  unfold FrAt at hall
  have hp3 := Lib.hid (hp.out g0 W3.drew)
  replace hS' := Lib.hid hS'
  clear hp hc hS f3 c3
  go_region_held3 (fun W' => W'.cell? ⟨gx, 0, none⟩ = some (.int .i64 a) ∧ W'.cell? ⟨gx, 1, none⟩ = some (.int .i64 b) ∧ W'.cell? ⟨gx, 2, none⟩ = some (.int .i64 c) ∧ W'.cell? ⟨gx, 3, none⟩ = some (.int .i64 g0) ∧ W'.cell? ⟨gx, 4, none⟩ = some (.int .i64 e) ∧ W'.cell? ⟨gx, 5, none⟩ = some (.int .i64 f))
    (first | exact hall.out _ hk5.out | exact hall.out _ (Kp.refl _ _) | exact hall.out _ (Kp.refl _ _).drew)
    (first | (go_at_call 33; refine hp3.out.mono ?_; rintro r w5 ⟨rfl, hk5⟩; replace hk5 := Lib.hid ((Kp.refl [] W3).drew.trans hk5)))
  all_goals
    have hU := hS'.out.kp hk5.out (by simp)
    have hT := hRS.out.kp hk5.out (by simp)
    have hKT := hKS.out.trans hk5.out
    obtain ⟨s0, s1, s2, s3, s4, s5⟩ := hU.fr
    obtain ⟨r0, r1, r2, r3, r4, r5⟩ := hT.fr
    have z2 := hU.frozen 2
    have z3 := hU.frozen 3
    have z5 := hU.frozen 5
    have q0 := hT.frozen 0
    have q1 := hT.frozen 1
    have q2 := hT.frozen 2
    have q3 := hT.frozen 3
    have q4 := hT.frozen 4
    have q5 := hT.frozen 5
    replace hU := Lib.hid hU
    replace hT := Lib.hid hT
    replace hKT := Lib.hid hKT
    clear hall hRS hKS hK2 hS' hp3 hk5 hW3
    go_wp2
    exact fin_set rfl rfl hT.out hKT.out hgx hG.out
set_option maxRecDepth 100000 in
set_option maxHeartbeats 1000000 in
theorem tp_idle_a0 (x : F6) (now : Int) (w : World) (hf : x.f = 0) (ha : x.a = 0) : Calls Try.prog 51 #[x.v, .int .i64 now] w (FrRes (tpF x now) w) := by
  obtain ⟨a, b, c, d, e, f⟩ := x
  obtain rfl : f = 0 := hf
  obtain rfl : a = 0 := ha
  obtain ⟨Z, hZ⟩ : ∃ Z, tpF ⟨0, b, c, d, e, 0⟩ now = Z := ⟨_, rfl⟩
  have hG : Hid ((⟨0, b, c, 0, e, 0⟩ : F6) = Z) := by
    show _ = _
    rw [← hZ]
    simp [tpF, tpE]
  rw [hZ]
  clear hZ
  unfold F6.v fr
  go_enter Try.func51, Try.ntmps51
  go_wp2
  refine fin_frame (y := ⟨0, b, c, 0, e, 0⟩) rfl rfl (heap_alloc2_new w _ _) hG.out (((Kp.refl [] w).alloc _).alloc _)
set_option maxRecDepth 100000 in
set_option maxHeartbeats 1000000 in
theorem tp_idle_a (x : F6) (now : Int) (w : World) (hf : x.f = 0) (ha : ¬ x.a = 0) (ha1 : ¬ x.a = 1) : Calls Try.prog 51 #[x.v, .int .i64 now] w (FrRes (tpF x now) w) := by
  obtain ⟨a, b, c, d, e, f⟩ := x
  obtain rfl : f = 0 := hf
  have a2 : (a == 0) = false := by simpa using ha
  have a3 : (a == 1) = false := by simpa using ha1
  replace ha := Lib.hid ha
  replace ha1 := Lib.hid ha1
  obtain ⟨Z, hZ⟩ : ∃ Z, tpF ⟨a, b, c, d, e, 0⟩ now = Z := ⟨_, rfl⟩
  have hG : Hid ((⟨a, b, c, d, e, 0⟩ : F6) = Z) := by
    show _ = _
    rw [← hZ]
    simp [tpF, tpE, show ¬ a = 0 from ha.out, show ¬ a = 1 from ha1.out]
  rw [hZ]
  clear hZ
  unfold F6.v fr
  go_enter Try.func51, Try.ntmps51
  go_wp2
  refine fin_frame (y := ⟨a, b, c, d, e, 0⟩) rfl rfl (heap_alloc2_new w _ _) hG.out (((Kp.refl [] w).alloc _).alloc _)
set_option maxRecDepth 100000 in
set_option maxHeartbeats 1000000 in
theorem tp_idle_c (x : F6) (now : Int) (w : World) (hf : x.f = 0) (ha : x.a = 1) (hc : ¬ x.c = 0) : Calls Try.prog 51 #[x.v, .int .i64 now] w (FrRes (tpF x now) w) := by
  obtain ⟨a, b, c, d, e, f⟩ := x
  obtain rfl : f = 0 := hf
  obtain rfl : a = 1 := ha
  have c2 : (c == 0) = false := by simpa using hc
  replace hc := Lib.hid hc
  obtain ⟨Z, hZ⟩ : ∃ Z, tpF ⟨1, b, c, d, e, 0⟩ now = Z := ⟨_, rfl⟩
  have hG : Hid ((⟨1, b, c, d, e, 0⟩ : F6) = Z) := by
    show _ = _
    rw [← hZ]
    simp [tpF, tpE, show ¬ c = 0 from hc.out]
  rw [hZ]
  clear hZ
  unfold F6.v fr
  go_enter Try.func51, Try.ntmps51
  go_wp2
  refine fin_frame (y := ⟨1, b, c, d, e, 0⟩) rfl rfl (heap_alloc2_new w _ _) hG.out (((Kp.refl [] w).alloc _).alloc _)
set_option maxRecDepth 100000 in
set_option maxHeartbeats 1000000 in
theorem tp_idle_d (x : F6) (now : Int) (w : World) (hf : x.f = 0) (ha : x.a = 1) (hc : x.c = 0) (hd : ¬ x.d = 0) : Calls Try.prog 51 #[x.v, .int .i64 now] w (FrRes (tpF x now) w) := by
  obtain ⟨a, b, c, d, e, f⟩ := x
  obtain rfl : f = 0 := hf
  obtain rfl : a = 1 := ha
  obtain rfl : c = 0 := hc
  have d2 : (d == 0) = false := by simpa using hd
  replace hd := Lib.hid hd
  obtain ⟨Z, hZ⟩ : ∃ Z, tpF ⟨1, b, 0, d, e, 0⟩ now = Z := ⟨_, rfl⟩
  have hG : Hid ((⟨1, b, 0, d, e, 0⟩ : F6) = Z) := by
    show _ = _
    rw [← hZ]
    simp [tpF, tpE, show ¬ d = 0 from hd.out]
  rw [hZ]
  clear hZ
  unfold F6.v fr
  go_enter Try.func51, Try.ntmps51
  go_wp2
  refine fin_frame (y := ⟨1, b, 0, d, e, 0⟩) rfl rfl (heap_alloc2_new w _ _) hG.out (((Kp.refl [] w).alloc _).alloc _)
set_option maxRecDepth 100000 in
set_option maxHeartbeats 1000000 in
theorem tp_idle_b (x : F6) (now : Int) (w : World) (hf : x.f = 0) (ha : x.a = 1) (hc : x.c = 0) (hd : x.d = 0) (hb : ¬ 0 < x.b) : Calls Try.prog 51 #[x.v, .int .i64 now] w (FrRes (tpF x now) w) := by
  obtain ⟨a, b, c, d, e, f⟩ := x
  obtain rfl : f = 0 := hf
  obtain rfl : a = 1 := ha
  obtain rfl : c = 0 := hc
  obtain rfl : d = 0 := hd
  have b2 : decide (0 < b) = false := by simpa using hb
  replace hb : ¬ 0 < b := hb
  have hb2 := Lib.hid hb
  obtain ⟨Z, hZ⟩ : ∃ Z, tpF ⟨1, b, 0, 0, e, 0⟩ now = Z := ⟨_, rfl⟩
  have hG : Hid ((⟨1, b, 0, 0, e, 0⟩ : F6) = Z) := by
    show _ = _
    rw [← hZ]
    simp [tpF, tpE, show ¬ 0 < b from hb2.out]
  rw [hZ]
  clear hZ
  unfold F6.v fr
  go_enter Try.func51, Try.ntmps51
  go_wp2
  refine fin_frame (y := ⟨1, b, 0, 0, e, 0⟩) rfl rfl (heap_alloc2_new w _ _) hG.out (((Kp.refl [] w).alloc _).alloc _)
theorem tp_c (x : F6) (now : Int) (w : World) (hf : x.f = 0 ∨ x.f = 1) (he : -2147483648 ≤ x.e ∧ x.e ≤ 2147483647) (hn : 0 ≤ now ∧ now ≤ 1000000000) : Calls Try.prog 51 #[x.v, .int .i64 now] w (FrRes (tpF x now) w) := by
  rcases hf with hf | hf
  · by_cases ha : x.a = 1
    · by_cases hc : x.c = 0
      · by_cases hd : x.d = 0
        · by_cases hb : 0 < x.b
          · exact tp_start x now w hf ha hc hd hb (by unfold pre gone; omega) he hn
          · exact tp_idle_b x now w hf ha hc hd hb
        · exact tp_idle_d x now w hf ha hc hd
      · exact tp_idle_c x now w hf ha hc
    · by_cases h0 : x.a = 0
      · exact tp_idle_a0 x now w hf h0
      · exact tp_idle_a x now w hf h0 ha
  · by_cases hbr : pre x.b ≤ gone x.b x.e now
    · by_cases h0 : x.a = 0
      · exact tp_run_on0 x now w hf h0 hbr he hn
      · exact tp_run_on1 x now w hf h0 hbr he hn
    · exact tp_run_off x now w hf hbr he hn
end Go.Proofs.Ytieacfenoomaeaa
