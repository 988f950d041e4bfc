import Derived.Test.YtieacfenoomaeaaQb2
set_option linter.unusedSimpArgs false
set_option linter.unusedVariables false
namespace Go.Proofs.Ytieacfenoomaeaa
open Go.RowKit

def zeroPart : Array Value := #[.slice none 0 0, .nilFunc, .int .i64 0, .int .i64 0, .int .i64 0, .int .i64 0, .int .i64 0, .int .i64 0]
theorem zero_sets {w : World} {g : Nat} (h : Blk w g 67 zeroPart) :
    Blk ((((((((w.setCell ⟨g, 0, none⟩ (.slice none 0 0)).setCell ⟨g, 1, none⟩ .nilFunc).setCell ⟨g, 2, none⟩ (.int .i64 0)).setCell ⟨g, 3, none⟩ (.int .i64 0)).setCell ⟨g, 4, none⟩ (.int .i64 0)).setCell ⟨g, 5, none⟩ (.int .i64 0)).setCell ⟨g, 6, none⟩ (.int .i64 0)).setCell ⟨g, 7, none⟩ (.int .i64 0)) g 67 zeroPart :=
  (((((((h.set 0 (.slice none 0 0)).set 1 .nilFunc).set 2 (.int .i64 0)).set 3 (.int .i64 0)).set 4 (.int .i64 0)).set 5 (.int .i64 0)).set 6 (.int .i64 0)).set 7 (.int .i64 0)
/-- The result block holds nothing: it is handed back with an error. -/
theorem fin_zero {fn : Func} {w W : World} {g : Nat} {tmps : Array Value} {p q : Tmp} {n : Int} (h : fn.results = #[.cell p 67, .tmp q]) (hp : tmps.getD p undef = .pointer (some ⟨g, 0, none⟩)) (hq : tmps.getD q undef = .int .i64 n)
    (hB : Blk W g 67 zeroPart) (hk : Kp [] w W) (hg : w.heap.size = g) :
    bodyPost Try.prog fn (fun r w' => r = .returned (.tuple #[noPart, .int .i64 n]) ∧ Kp [] w w') Exit.ret { tmps := tmps, defers := [] } ((((((((W.setCell ⟨g, 0, none⟩ (.slice none 0 0)).setCell ⟨g, 1, none⟩ .nilFunc).setCell ⟨g, 2, none⟩ (.int .i64 0)).setCell ⟨g, 3, none⟩ (.int .i64 0)).setCell ⟨g, 4, none⟩ (.int .i64 0)).setCell ⟨g, 5, none⟩ (.int .i64 0)).setCell ⟨g, 6, none⟩ (.int .i64 0)).setCell ⟨g, 7, none⟩ (.int .i64 0)) := by
  have hl9 : ∀ j, (⟨g, j, none⟩ : Addr).block ∈ ([] : List Nat) ∨ w.heap.size ≤ (⟨g, j, none⟩ : Addr).block := fun j => .inr (by show w.heap.size ≤ g; omega)
  refine bodyPost_ret (v := .tuple #[noPart, .int .i64 n]) ?_ rfl ⟨rfl, (((((((hk.setCell (hl9 0) _).setCell (hl9 1) _).setCell (hl9 2) _).setCell (hl9 3) _).setCell (hl9 4) _).setCell (hl9 5) _).setCell (hl9 6) _).setCell (hl9 7) _⟩
  rw [← hq]
  exact results_cell_tmp h _ _ g 67 _ (0, 0) _ hp (zero_sets hB) Try.underlying67 (by kernel_rfl)

set_option maxRecDepth 100000 in
set_option maxHeartbeats 2000000 in
theorem partOf_no (k : ByteArray) (h : ∀ i, i < 9 → k ≠ nmb i) (w : World) (v : Value) :
    Calls Try.prog 30 #[.string k, v] w fun r w' => r = .returned (.tuple #[noPart, .int .i64 6]) ∧ Kp [] w w' := by
  have hB0 := Blk.new w 67 zeroPart
  obtain ⟨w0, hw0⟩ : ∃ w0, w.alloc (.cells zeroPart 67) = w0 := ⟨_, rfl⟩
  have hk0 : Kp [] w w0 := hw0 ▸ (Kp.refl [] w).alloc _
  rw [hw0] at hB0
  have hl := lookno_bl (w0.alloc (.map blE 9)) w0.heap.size (heap_alloc_new w0 _) k (find_bl h)
  replace h := Lib.hid h
  unfold zeroPart at hw0
  replace hB0 := Lib.hid hB0
  replace hk0 := Lib.hid hk0
  replace hw0 := Lib.hid hw0
  go_enter Try.func30, Try.ntmps30
  go_wp2_with fail
  rw [hw0.out]
  refine (bl_c _).mono ?_
  rintro r w1 ⟨rfl, rfl⟩
  have hk1 := hk0.out.alloc (.map blE 9)
  have hB1 := hB0.out.alloc (.map blE 9)
  obtain ⟨W1, hW1⟩ : ∃ W1, w0.alloc (.map blE 9) = W1 := ⟨_, rfl⟩
  obtain ⟨gx, hgx⟩ : ∃ x, w0.heap.size = x := ⟨_, rfl⟩
  obtain ⟨go, hgo⟩ : ∃ x, w.heap.size = x := ⟨_, rfl⟩
  rw [hgx] at hl ⊢
  rw [hgo] at hB1 ⊢
  rw [hW1] at hl hk1 hB1 ⊢
  have r0 := hB1.cell 0 rfl
  have q0 := hB1.frozen 0
  have r1 := hB1.cell 1 rfl
  have q1 := hB1.frozen 1
  have r2 := hB1.cell 2 rfl
  have q2 := hB1.frozen 2
  have r3 := hB1.cell 3 rfl
  have q3 := hB1.frozen 3
  have r4 := hB1.cell 4 rfl
  have q4 := hB1.frozen 4
  have r5 := hB1.cell 5 rfl
  have q5 := hB1.frozen 5
  have r6 := hB1.cell 6 rfl
  have q6 := hB1.frozen 6
  have r7 := hB1.cell 7 rfl
  have q7 := hB1.frozen 7
  replace hB1 := Lib.hid hB1
  replace hk1 := Lib.hid hk1
  replace hW1 := Lib.hid hW1
  clear hB0 hk0 hw0
  go_wp2
  exact fin_zero rfl rfl rfl hB1.out hk1.out hgo
set_option maxRecDepth 100000 in
set_option maxHeartbeats 2000000 in
theorem partOf_bad (k : ByteArray) (i K S n : Nat) (L : List (ByteArray × Int × Int)) (hk : Kind k i K S n L) (hn6 : n ≤ 6) (zs : List Int) (hv : areV (allK L) zs = false) (w : World) (v : Value) (hz : Is w v zs) :
    Calls Try.prog 30 #[.string k, v] w fun r w' => r = .returned (.tuple #[noPart, .int .i64 2]) ∧ Kp [] w w' := by
  obtain ⟨p, c, rfl, hcap, hcap2⟩ := hz.val
  have hB0 := Blk.new w 67 zeroPart
  obtain ⟨w0, hw0⟩ : ∃ w0, w.alloc (.cells zeroPart 67) = w0 := ⟨_, rfl⟩
  have hk0 : Kp [] w w0 := hw0 ▸ (Kp.refl [] w).alloc _
  rw [hw0] at hB0
  have hl := look_bl (w0.alloc (.map blE 9)) w0.heap.size (heap_alloc_new w0 _) k i _ hk.bl
  have hbl := Lib.hid hk.len
  unfold zeroPart at hw0
  replace hk := Lib.hid hk
  replace hz := Lib.hid hz
  replace hB0 := Lib.hid hB0
  replace hk0 := Lib.hid hk0
  replace hw0 := Lib.hid hw0
  replace hv := Lib.hid hv
  go_enter Try.func30, Try.ntmps30
  go_wp2_with fail
  rw [hw0.out]
  refine (bl_c _).mono ?_
  rintro r w1 ⟨rfl, rfl⟩
  have hk1 := hk0.out.alloc (.map blE 9)
  obtain ⟨W1, hW1⟩ : ∃ W1, w0.alloc (.map blE 9) = W1 := ⟨_, rfl⟩
  rw [hW1] at hl hk1 ⊢
  have hkW := Lib.hid (show Kp [] w0 W1 from hW1 ▸ (Kp.refl [] w0).alloc _)
  replace hk1 := Lib.hid hk1
  replace hW1 := Lib.hid hW1
  obtain ⟨gx, hgx⟩ : ∃ x, w0.heap.size = x := ⟨_, rfl⟩
  rw [hgx] at hl ⊢
  go_wp2_with fail
  refine (hk.out.st _).mono ?_
  rintro r w2 ⟨g, rfl, hV, hk2⟩
  have hK2 := hk1.out.trans hk2
  have hk02 := hkW.out.trans hk2
  clear hl
  replace hV := Lib.hid hV
  replace hk2 := Lib.hid hk2
  have hC2 := Blk.new (w2.alloc (.cells #[.slice (some ⟨g, 0, none⟩) n n, .func (.func K) #[] #[], .int .i64 0, .int .i64 0, .int .i64 0, .int .i64 0, .int .i64 0, .int .i64 0] 67)) 3 #[.int .i64 1, .int .i64 2, .int .i64 3]
  simp only [World.size_alloc] at hC2
  have hkk := ((Kp.refl [] w2).alloc (.cells #[.slice (some ⟨g, 0, none⟩) n n, .func (.func K) #[] #[], .int .i64 0, .int .i64 0, .int .i64 0, .int .i64 0, .int .i64 0, .int .i64 0] 67)).alloc (.cells #[.int .i64 1, .int .i64 2, .int .i64 3] 3)
  obtain ⟨W3, hW3⟩ : ∃ W3, (w2.alloc (.cells #[.slice (some ⟨g, 0, none⟩) n n, .func (.func K) #[] #[], .int .i64 0, .int .i64 0, .int .i64 0, .int .i64 0, .int .i64 0, .int .i64 0] 67)).alloc (.cells #[.int .i64 1, .int .i64 2, .int .i64 3] 3) = W3 := ⟨_, rfl⟩
  rw [hW3] at hC2 hkk
  have hcl := Lib.hid (is_lit (n := 3) (zs := [1, 2, 3]) hC2 rfl (by omega) rfl)
  obtain ⟨g2, hg2⟩ : ∃ x, w2.heap.size = x := ⟨_, rfl⟩
  rw [hg2] at hC2 hcl
  have hK3 := Lib.hid (hK2.trans hkk)
  have hk03 := Lib.hid (hk02.trans hkk)
  replace hK2 := Lib.hid hK2
  replace hk02 := Lib.hid hk02
  replace hkk := Lib.hid hkk
  replace hC2 := Lib.hid hC2
  replace hW3 := Lib.hid hW3
  go_wp2_with fail
  rw [hW3.out]
  have hki := kinds_c W3 g n K ⟨0, 0, 0, 0, 0, 0⟩ L (hV.out.kp hkk.out) hbl.out (by omega) _ [1, 2, 3] hcl.out
  unfold partV at hki
  refine hki.mono ?_
  rintro r w4 ⟨kv, rfl, hkv, hk4⟩
  have hK4 := hK3.out.trans hk4
  have hR4 := hB0.out.kp (hk03.out.trans hk4) (by simp)
  have hz4 := Lib.hid (hz.out.kp hK4)
  obtain ⟨go, hgo⟩ : ∃ x, w.heap.size = x := ⟨_, rfl⟩
  rw [hgo] at hR4 ⊢
  replace hK4 := Lib.hid hK4
  replace hkv := Lib.hid hkv
  have r0 := hR4.cell 0 rfl
  have q0 := hR4.frozen 0
  have r1 := hR4.cell 1 rfl
  have q1 := hR4.frozen 1
  have r2 := hR4.cell 2 rfl
  have q2 := hR4.frozen 2
  have r3 := hR4.cell 3 rfl
  have q3 := hR4.frozen 3
  have r4 := hR4.cell 4 rfl
  have q4 := hR4.frozen 4
  have r5 := hR4.cell 5 rfl
  have q5 := hR4.frozen 5
  have r6 := hR4.cell 6 rfl
  have q6 := hR4.frozen 6
  have r7 := hR4.cell 7 rfl
  have q7 := hR4.frozen 7
  replace hR4 := Lib.hid hR4
  have hlk := Lib.hid (Nat.le_trans (kindsF_len [1, 2, 3] L) (show L.length ≤ 100 by rw [hbl.out]; omega))
  clear hki hk4
  go_wp2_with fail
  refine (areValues_c w4 _ _ (allK L) zs hkv.out hz4.out hlk.out).mono ?_
  rintro r w5 ⟨rfl, rfl⟩
  rw [hv.out]
  go_wp2
  exact fin_zero rfl rfl rfl hR4.out hK4.out hgo

def F6.list (x : F6) : List Int := [x.a, x.b, x.c, x.d, x.e, x.f]
theorem Is.row {w : World} {g : Nat} {x : F6} (h : Blk w g 65 x.cells) : ∀ j, j < x.list.length → w.cell? ⟨g, 0 + j, none⟩ = some (.int .i64 (x.list.getD j 0)) := by
  intro j hj
  refine h.cell _ ?_
  have hj6 : j < 6 := hj
  rcases (show j = 0 ∨ j = 1 ∨ j = 2 ∨ j = 3 ∨ j = 4 ∨ j = 5 by omega) with rfl | rfl | rfl | rfl | rfl | rfl
  all_goals rfl
/-- What a scan that has an error gives. -/
def ScanErr (n : Int) (w : World) (r : Ending) (w' : World) : Prop := r = .returned (.tuple #[.slice none 0 0, .int .i64 n]) ∧ Kp [] w w'
set_option maxRecDepth 100000 in
set_option maxHeartbeats 1000000 in
theorem scan_no (k : ByteArray) (v : Value) (now : Int) (w : World) (hP : Hid (∀ W, Kp [] w W → Calls Try.prog 30 #[.string k, v] W fun r w' => r = .returned (.tuple #[noPart, .int .i64 6]) ∧ Kp [] W w')) :
    Calls Try.prog 11 #[.string k, v, .int .i64 now] w (ScanErr 6 w) := by
  go_enter Try.func11, Try.ntmps11
  go_wp2_with fail
  refine (hP.out _ (Kp.refl _ _)).mono ?_
  rintro r w1 ⟨rfl, hk1⟩
  unfold noPart
  go_wp2
  go_ret2
  exact ⟨rfl, hk1.alloc _⟩
set_option maxRecDepth 100000 in
set_option maxHeartbeats 1000000 in
theorem scan_bad (k : ByteArray) (v : Value) (now : Int) (w : World) (hP : Hid (∀ W, Kp [] w W → Calls Try.prog 30 #[.string k, v] W fun r w' => r = .returned (.tuple #[noPart, .int .i64 2]) ∧ Kp [] W w')) :
    Calls Try.prog 11 #[.string k, v, .int .i64 now] w (ScanErr 2 w) := by
  go_enter Try.func11, Try.ntmps11
  go_wp2_with fail
  refine (hP.out _ (Kp.refl _ _)).mono ?_
  rintro r w1 ⟨rfl, hk1⟩
  unfold noPart
  go_wp2
  go_ret2
  exact ⟨rfl, hk1.alloc _⟩
/-- A row of ints of the call's own, new since w0. -/
def Ow (w0 w : World) (v : Value) (zs : List Int) : Prop := w.ownsRow w0.heap.size 3 1 v zs.length (zs.map (Value.int .i64))
theorem own_base {w : World} {base base' : Nat} {e : TypeId} {size : Nat} {v : Value} {n : Nat} {xs : List Value} (h : w.ownsRow base e size v n xs) (hb : base' ≤ base) : w.ownsRow base' e size v n xs := by
  refine ⟨h.1, ?_⟩
  rcases h.2 with h2 | ⟨g, cap, cur, h1, h2, h3⟩
  · exact .inl h2
  · exact .inr ⟨g, cap, cur, h1, Nat.le_trans hb h2, h3⟩
theorem Ow.is {w0 w : World} {v : Value} {zs : List Int} (h : Ow w0 w v zs) : Is w v zs := is_row h
theorem Ow.base {w0 w1 w : World} {v : Value} {zs : List Int} (h : Ow w1 w v zs) (hb : w0.heap.size ≤ w1.heap.size) : Ow w0 w v zs := own_base h hb
theorem Ow.kp {w0 w w' : World} {v : Value} {zs : List Int} (h : Ow w0 w v zs) (k : Kp [] w w') : Ow w0 w' v zs := ownsRow_kp h k
theorem ow_lit {w0 w : World} {zs : List Int} {n : Nat} {cs : Array Value} (hn : n = zs.length) (hb : n ≤ 1000) (h0 : w0.heap.size ≤ w.heap.size) (hc : cs = (zs.map (Value.int .i64)).toArray) :
    Ow w0 (w.alloc (.cells cs 3 (0, 0))) (.slice (some ⟨w.heap.size, 0, none⟩) n n) zs := by
  subst hn hc
  refine ⟨by simp, .inr ⟨w.heap.size, zs.length, _, rfl, h0, Blk.new w _ _, Nat.le_refl _, by unfold maxLen; omega, by simp, by simp [← List.map_take]⟩⟩
/-- Its cells can be written. -/
theorem Ow.at_ {w0 w : World} {v : Value} {zs : List Int} (h : Ow w0 w v zs) (hl : 0 < zs.length) : ∃ g c, v = .slice (some ⟨g, 0, none⟩) zs.length c ∧ w0.heap.size ≤ g ∧ g < w.heap.size ∧ (∀ j, j < zs.length → w.cell? ⟨g, j, none⟩ = some (.int .i64 (zs.getD j 0))) ∧ ∀ j, w.frozen? ⟨g, j, none⟩ = false := by
  have hi := h.is
  rcases h.2 with ⟨_, h2⟩ | ⟨g, cap, cur, rfl, h2, h3, h4⟩
  · omega
  · refine ⟨g, cap, rfl, h2, (Array.getElem?_eq_some_iff.1 h3).1, fun j hj => ?_, fun j => Blk.frozen h3 j⟩
    obtain ⟨b, o, hp, hc⟩ := hi.at_ j hj
    simp at hp
    obtain ⟨rfl, rfl⟩ := hp
    simpa using hc
theorem Ow.set {w0 w : World} {g n c : Nat} {zs : List Int} (h : Ow w0 w (.slice (some ⟨g, 0, none⟩) n c) zs) (j : Nat) (hj : j < zs.length) (x : Int) : Ow w0 (w.setCell ⟨g, j, none⟩ (.int .i64 x)) (.slice (some ⟨g, 0, none⟩) n c) (zs.set j x) := by
  rcases h.2 with ⟨h1, _⟩ | ⟨g', cap, cur, h1, h2, h3, h4, h5, h6, h7⟩
  · cases h1
  · simp at h1
    obtain ⟨rfl, rfl, rfl⟩ := h1
    refine ⟨by simp, .inr ⟨g, c, cur.setIfInBounds j (.int .i64 x), by simp, h2, Blk.set h3 j _, by simpa using h4, h5, by simpa using h6, ?_⟩⟩
    rw [Array.toList_setIfInBounds, List.take_set, List.length_set, h7, List.map_set]
set_option maxRecDepth 100000 in
set_option maxHeartbeats 2000000 in
theorem scan_ok3 (k : ByteArray) (K : Nat) (L : List (ByteArray × Int × Int)) (x y : F6) (v : Value) (now : Int) (w : World) (q : Option Addr) (c : Nat) (hv : v = .slice q 3 c)
    (hK : ∀ (args : Array Value) (w : World), (callFunc K args).run Try.prog w = .ok (.enter K args) w)
    (ht : isT now = true)
    (hP : Hid (∀ W, Kp [] w W → Calls Try.prog 30 #[.string k, v] W fun r w' => ∃ g, r = .returned (.tuple #[partV g 3 K x, .int .i64 0]) ∧ VarsAt w' g L ∧ Kp [] W w'))
    (hF : Hid (∀ W, Calls Try.prog K #[x.v, .int .i64 now] W (FrRes y W))) :
    Calls Try.prog 11 #[.string k, v, .int .i64 now] w fun r w' => ∃ v', r = .returned (.tuple #[v', .int .i64 0]) ∧ Is w' v' (y.list.take 3) ∧ Kp [] w w' ∧ Ow w w' v' (y.list.take 3) := by
  subst hv
  replace ht := Lib.hid ht
  go_enter Try.func11, Try.ntmps11
  go_wp2_with fail
  refine (hP.out _ (Kp.refl _ _)).mono ?_
  rintro r w1 ⟨g, rfl, hV, hk1⟩
  have hB := Blk.new w1 67 (partCells g 3 K x)
  have hK1 := hk1.alloc (.cells (partCells g 3 K x) 67)
  obtain ⟨W1, hW1⟩ : ∃ W1, w1.alloc (.cells (partCells g 3 K x) 67) = W1 := ⟨_, rfl⟩
  rw [hW1] at hB hK1
  unfold partV
  unfold partCells at hW1 hB
  replace hK1 := Lib.hid hK1
  replace hW1 := Lib.hid hW1
  replace hV := Lib.hid hV
  replace hk1 := Lib.hid hk1
  go_wp2_with fail
  rw [hW1.out]
  refine (isTime_c now _).mono ?_
  rintro r w2 ⟨rfl, rfl⟩
  rw [ht.out]
  obtain ⟨gx, hgx⟩ : ∃ x, w1.heap.size = x := ⟨_, rfl⟩
  rw [hgx] at hB ⊢
  have e1 := hB.cell 1 rfl
  have e2 := hB.cell 2 rfl
  have e3 := hB.cell 3 rfl
  have e4 := hB.cell 4 rfl
  have e5 := hB.cell 5 rfl
  have e6 := hB.cell 6 rfl
  have e7 := hB.cell 7 rfl
  replace hB := Lib.hid hB
  have hF2 := hF.out w2
  unfold F6.v fr at hF2
  replace hF2 := Lib.hid hF2
  go_wp2_with fail
  refine hF2.out.mono ?_
  rintro r w3 ⟨rfl, hk3⟩
  have hC := Blk.new w3 65 y.cells
  have hK3 := (hK1.out.trans hk3).alloc (.cells y.cells 65)
  obtain ⟨W4, hW4⟩ : ∃ W4, w3.alloc (.cells y.cells 65) = W4 := ⟨_, rfl⟩
  rw [hW4] at hC hK3
  unfold F6.cells frCells at hW4
  have hcl := Try.slices_Clone_int w3.heap.size 0 3 6 y.list W4 (by show 3 ≤ 6; omega) (by omega) (Is.row hC)
  unfold F6.v fr
  replace hcl := Lib.hid hcl
  replace hC := Lib.hid hC
  replace hK3 := Lib.hid hK3
  replace hW4 := Lib.hid hW4
  replace hk3 := Lib.hid hk3
  clear e1 e2 e3 e4 e5 e6 e7
  go_wp2_with fail
  rw [hW4.out]
  refine hcl.out.mono ?_
  rintro r w5 ⟨v', rfl, hown, hne, hb⟩
  have hk5 := Kp.of_below hb
  go_wp2
  go_ret2
  have hlen : (y.list.take 3).length = 3 := rfl
  have hO : Ow W4 w5 v' (y.list.take 3) := by
    show World.ownsRow _ _ _ _ _ _ _
    rw [hlen]
    exact hown
  exact ⟨v', rfl, hO.is, hK3.out.trans hk5, hO.base hK3.out.size⟩
set_option maxRecDepth 100000 in
set_option maxHeartbeats 2000000 in
theorem scan_ok6 (k : ByteArray) (K : Nat) (L : List (ByteArray × Int × Int)) (x y : F6) (v : Value) (now : Int) (w : World) (q : Option Addr) (c : Nat) (hv : v = .slice q 6 c)
    (hK : ∀ (args : Array Value) (w : World), (callFunc K args).run Try.prog w = .ok (.enter K args) w)
    (ht : isT now = true)
    (hP : Hid (∀ W, Kp [] w W → Calls Try.prog 30 #[.string k, v] W fun r w' => ∃ g, r = .returned (.tuple #[partV g 6 K x, .int .i64 0]) ∧ VarsAt w' g L ∧ Kp [] W w'))
    (hF : Hid (∀ W, Calls Try.prog K #[x.v, .int .i64 now] W (FrRes y W))) :
    Calls Try.prog 11 #[.string k, v, .int .i64 now] w fun r w' => ∃ v', r = .returned (.tuple #[v', .int .i64 0]) ∧ Is w' v' (y.list.take 6) ∧ Kp [] w w' ∧ Ow w w' v' (y.list.take 6) := by
  subst hv
  replace ht := Lib.hid ht
  go_enter Try.func11, Try.ntmps11
  go_wp2_with fail
  refine (hP.out _ (Kp.refl _ _)).mono ?_
  rintro r w1 ⟨g, rfl, hV, hk1⟩
  have hB := Blk.new w1 67 (partCells g 6 K x)
  have hK1 := hk1.alloc (.cells (partCells g 6 K x) 67)
  obtain ⟨W1, hW1⟩ : ∃ W1, w1.alloc (.cells (partCells g 6 K x) 67) = W1 := ⟨_, rfl⟩
  rw [hW1] at hB hK1
  unfold partV
  unfold partCells at hW1 hB
  replace hK1 := Lib.hid hK1
  replace hW1 := Lib.hid hW1
  replace hV := Lib.hid hV
  replace hk1 := Lib.hid hk1
  go_wp2_with fail
  rw [hW1.out]
  refine (isTime_c now _).mono ?_
  rintro r w2 ⟨rfl, rfl⟩
  rw [ht.out]
  obtain ⟨gx, hgx⟩ : ∃ x, w1.heap.size = x := ⟨_, rfl⟩
  rw [hgx] at hB ⊢
  have e1 := hB.cell 1 rfl
  have e2 := hB.cell 2 rfl
  have e3 := hB.cell 3 rfl
  have e4 := hB.cell 4 rfl
  have e5 := hB.cell 5 rfl
  have e6 := hB.cell 6 rfl
  have e7 := hB.cell 7 rfl
  replace hB := Lib.hid hB
  have hF2 := hF.out w2
  unfold F6.v fr at hF2
  replace hF2 := Lib.hid hF2
  go_wp2_with fail
  refine hF2.out.mono ?_
  rintro r w3 ⟨rfl, hk3⟩
  have hC := Blk.new w3 65 y.cells
  have hK3 := (hK1.out.trans hk3).alloc (.cells y.cells 65)
  obtain ⟨W4, hW4⟩ : ∃ W4, w3.alloc (.cells y.cells 65) = W4 := ⟨_, rfl⟩
  rw [hW4] at hC hK3
  unfold F6.cells frCells at hW4
  have hcl := Try.slices_Clone_int w3.heap.size 0 6 6 y.list W4 (by show 6 ≤ 6; omega) (by omega) (Is.row hC)
  unfold F6.v fr
  replace hcl := Lib.hid hcl
  replace hC := Lib.hid hC
  replace hK3 := Lib.hid hK3
  replace hW4 := Lib.hid hW4
  replace hk3 := Lib.hid hk3
  clear e1 e2 e3 e4 e5 e6 e7
  go_wp2_with fail
  rw [hW4.out]
  refine hcl.out.mono ?_
  rintro r w5 ⟨v', rfl, hown, hne, hb⟩
  have hk5 := Kp.of_below hb
  go_wp2
  go_ret2
  have hlen : (y.list.take 6).length = 6 := rfl
  have hO : Ow W4 w5 v' (y.list.take 6) := by
    show World.ownsRow _ _ _ _ _ _ _
    rw [hlen]
    exact hown
  exact ⟨v', rfl, hO.is, hK3.out.trans hk5, hO.base hK3.out.size⟩
end Go.Proofs.Ytieacfenoomaeaa
