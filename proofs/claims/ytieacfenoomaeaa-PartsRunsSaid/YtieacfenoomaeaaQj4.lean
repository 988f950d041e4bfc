import Derived.Test.YtieacfenoomaeaaQj3
set_option linter.unusedSimpArgs false
set_option linter.unusedVariables false
namespace Go.Proofs.Ytieacfenoomaeaa
open Go.RowKit Go.Shelf

set_option maxRecDepth 100000 in
set_option maxHeartbeats 2000000 in
theorem run_len (i K n : Nat) (L : List (ByteArray × Int × Int)) (hP : Part i K n L) (nm : ByteArray) (hnm : nmb i = nm) (zs : List Int) (hv : areV (kin i) zs = true) (w : World) (v vI vT : Value) (hz : Is w v zs) (vs : List (Value × List Int)) (ts : List Int) (hI : Ils w vI vs) (hT : Is w vT ts) (hb : ts.length ≤ 1000) (hl : ¬ ts.length = vs.length) :
    Calls Try.prog 24 #[.string nm, v, vI, vT] w (RunErr 2 w) := by
  have hp := Lib.hid (hP.of zs hv)
  rw [hnm] at hp
  have htm := Lib.hid (fun W h => areTimes_c W vT ts h (by omega))
  have htk := Lib.hid (fun W g hL h => takes_c W g n K (f6 zs) L hL hP.len hP.le vI vs h)
  rw [hP.ins] at htk
  obtain ⟨p1, c1, rfl, h11, h12⟩ := hz.val
  obtain ⟨pI, cI, rfl, hI1, hI2⟩ := hI.val
  obtain ⟨pT, cT, rfl, hT1, hT2⟩ := hT.val
  obtain ⟨M, hM⟩ : ∃ M, vs.length = M := ⟨_, rfl⟩
  obtain ⟨MT, hMT⟩ : ∃ M, ts.length = M := ⟨_, rfl⟩
  rw [hM] at hI1 hl hI htk ⊢
  rw [hMT] at hT1 hl hT htm ⊢
  obtain ⟨x, hx⟩ : ∃ x, f6 zs = x := ⟨_, rfl⟩
  rw [hx] at hp htk
  obtain ⟨xa, xb, xc, xd, xe, xf⟩ := x
  replace hz := Lib.hid hz
  replace hI := Lib.hid hI
  replace hT := Lib.hid hT
  replace hM := Lib.hid hM
  replace hMT := Lib.hid hMT
  replace hx := Lib.hid hx
  clear hnm hP hv hb
  unfold partV at hp htk
  go_enter Try.func24, Try.ntmps24
  go_wp2_with fail
  refine (hp.out _ _ hz.out).mono ?_
  rintro r w1 ⟨g, rfl, hV, hk1⟩
  have hB := Blk.new w1 67 #[.slice (some ⟨g, 0, none⟩) n n, .func (.func K) #[] #[], .int .i64 xa, .int .i64 xb, .int .i64 xc, .int .i64 xd, .int .i64 xe, .int .i64 xf]
  have hK1 := hk1.alloc (.cells #[.slice (some ⟨g, 0, none⟩) n n, .func (.func K) #[] #[], .int .i64 xa, .int .i64 xb, .int .i64 xc, .int .i64 xd, .int .i64 xe, .int .i64 xf] 67)
  have hV1 := hV.kp ((Kp.refl [] w1).alloc (.cells #[.slice (some ⟨g, 0, none⟩) n n, .func (.func K) #[] #[], .int .i64 xa, .int .i64 xb, .int .i64 xc, .int .i64 xd, .int .i64 xe, .int .i64 xf] 67))
  obtain ⟨W1, hW1⟩ : ∃ W1, w1.alloc (.cells #[.slice (some ⟨g, 0, none⟩) n n, .func (.func K) #[] #[], .int .i64 xa, .int .i64 xb, .int .i64 xc, .int .i64 xd, .int .i64 xe, .int .i64 xf] 67) = W1 := ⟨_, rfl⟩
  rw [hW1] at hB hK1 hV1
  obtain ⟨B, hBB⟩ : ∃ B, w1.heap.size = B := ⟨_, rfl⟩
  rw [hBB] at hB
  replace hW1 := Lib.hid hW1
  replace hk1 := Lib.hid hk1
  replace hB := Lib.hid hB
  replace hK1 := Lib.hid hK1
  replace hV1 := Lib.hid hV1
  clear hV
  have r1 : ((MT : Int) != (M : Int)) = true := by simp; omega
  have r2 : ((MT : Int) == (M : Int)) = false := by simp; omega
  have r3 : (MT != M) = true := by simpa using hl
  have r4 : (MT == M) = false := by simpa using hl
  go_wp2_with fail
  rw [hW1.out]
  go_ret2
  exact ⟨rfl, hK1.out⟩
set_option maxRecDepth 100000 in
set_option maxHeartbeats 2000000 in
theorem run_times (i K n : Nat) (L : List (ByteArray × Int × Int)) (hP : Part i K n L) (nm : ByteArray) (hnm : nmb i = nm) (zs : List Int) (hv : areV (kin i) zs = true) (w : World) (v vI vT : Value) (hz : Is w v zs) (vs : List (Value × List Int)) (ts : List Int) (hI : Ils w vI vs) (hT : Is w vT ts) (hb : ts.length ≤ 1000) (hl : ts.length = vs.length) (ht : tmsB ts = false) :
    Calls Try.prog 24 #[.string nm, v, vI, vT] w (RunErr 2 w) := by
  have hp := Lib.hid (hP.of zs hv)
  rw [hnm] at hp
  have htm := Lib.hid (fun W h => areTimes_c W vT ts h (by omega))
  have htk := Lib.hid (fun W g hL h => takes_c W g n K (f6 zs) L hL hP.len hP.le vI vs h)
  rw [hP.ins] at htk
  obtain ⟨p1, c1, rfl, h11, h12⟩ := hz.val
  obtain ⟨pI, cI, rfl, hI1, hI2⟩ := hI.val
  obtain ⟨pT, cT, rfl, hT1, hT2⟩ := hT.val
  obtain ⟨M, hM⟩ : ∃ M, vs.length = M := ⟨_, rfl⟩
  obtain ⟨MT, hMT⟩ : ∃ M, ts.length = M := ⟨_, rfl⟩
  rw [hM] at hI1 hl hI htk ⊢
  rw [hMT] at hT1 hl hT htm ⊢
  obtain ⟨x, hx⟩ : ∃ x, f6 zs = x := ⟨_, rfl⟩
  rw [hx] at hp htk
  obtain ⟨xa, xb, xc, xd, xe, xf⟩ := x
  replace hz := Lib.hid hz
  replace hI := Lib.hid hI
  replace hT := Lib.hid hT
  replace hM := Lib.hid hM
  replace hMT := Lib.hid hMT
  replace hx := Lib.hid hx
  clear hnm hP hv hb
  unfold partV at hp htk
  go_enter Try.func24, Try.ntmps24
  go_wp2_with fail
  refine (hp.out _ _ hz.out).mono ?_
  rintro r w1 ⟨g, rfl, hV, hk1⟩
  have hB := Blk.new w1 67 #[.slice (some ⟨g, 0, none⟩) n n, .func (.func K) #[] #[], .int .i64 xa, .int .i64 xb, .int .i64 xc, .int .i64 xd, .int .i64 xe, .int .i64 xf]
  have hK1 := hk1.alloc (.cells #[.slice (some ⟨g, 0, none⟩) n n, .func (.func K) #[] #[], .int .i64 xa, .int .i64 xb, .int .i64 xc, .int .i64 xd, .int .i64 xe, .int .i64 xf] 67)
  have hV1 := hV.kp ((Kp.refl [] w1).alloc (.cells #[.slice (some ⟨g, 0, none⟩) n n, .func (.func K) #[] #[], .int .i64 xa, .int .i64 xb, .int .i64 xc, .int .i64 xd, .int .i64 xe, .int .i64 xf] 67))
  obtain ⟨W1, hW1⟩ : ∃ W1, w1.alloc (.cells #[.slice (some ⟨g, 0, none⟩) n n, .func (.func K) #[] #[], .int .i64 xa, .int .i64 xb, .int .i64 xc, .int .i64 xd, .int .i64 xe, .int .i64 xf] 67) = W1 := ⟨_, rfl⟩
  rw [hW1] at hB hK1 hV1
  obtain ⟨B, hBB⟩ : ∃ B, w1.heap.size = B := ⟨_, rfl⟩
  rw [hBB] at hB
  replace hW1 := Lib.hid hW1
  replace hk1 := Lib.hid hk1
  replace hB := Lib.hid hB
  replace hK1 := Lib.hid hK1
  replace hV1 := Lib.hid hV1
  clear hV
  subst hl
  rw [ht] at htm
  have r1 : ((MT : Int) != (MT : Int)) = false := by simp
  go_wp2_with fail
  rw [hW1.out]
  refine (htm.out _ (hT.out.kp hK1.out)).mono ?_
  rintro r w2 ⟨rfl, hk2⟩
  replace hk2 := Lib.hid hk2
  go_wp2_with fail
  go_ret2
  exact ⟨rfl, hK1.out.trans hk2.out⟩
set_option maxRecDepth 100000 in
set_option maxHeartbeats 2000000 in
theorem run_takes (i K n : Nat) (L : List (ByteArray × Int × Int)) (hP : Part i K n L) (nm : ByteArray) (hnm : nmb i = nm) (zs : List Int) (hv : areV (kin i) zs = true) (w : World) (v vI vT : Value) (hz : Is w v zs) (vs : List (Value × List Int)) (ts : List Int) (hI : Ils w vI vs) (hT : Is w vT ts) (hb : ts.length ≤ 1000) (hl : ts.length = vs.length) (ht : tmsB ts = true) (ha : (vs.all fun y => areV (kinIn i) y.2) = false) :
    Calls Try.prog 24 #[.string nm, v, vI, vT] w (RunErr 2 w) := by
  have hp := Lib.hid (hP.of zs hv)
  rw [hnm] at hp
  have htm := Lib.hid (fun W h => areTimes_c W vT ts h (by omega))
  have htk := Lib.hid (fun W g hL h => takes_c W g n K (f6 zs) L hL hP.len hP.le vI vs h)
  rw [hP.ins] at htk
  obtain ⟨p1, c1, rfl, h11, h12⟩ := hz.val
  obtain ⟨pI, cI, rfl, hI1, hI2⟩ := hI.val
  obtain ⟨pT, cT, rfl, hT1, hT2⟩ := hT.val
  obtain ⟨M, hM⟩ : ∃ M, vs.length = M := ⟨_, rfl⟩
  obtain ⟨MT, hMT⟩ : ∃ M, ts.length = M := ⟨_, rfl⟩
  rw [hM] at hI1 hl hI htk ⊢
  rw [hMT] at hT1 hl hT htm ⊢
  obtain ⟨x, hx⟩ : ∃ x, f6 zs = x := ⟨_, rfl⟩
  rw [hx] at hp htk
  obtain ⟨xa, xb, xc, xd, xe, xf⟩ := x
  replace hz := Lib.hid hz
  replace hI := Lib.hid hI
  replace hT := Lib.hid hT
  replace hM := Lib.hid hM
  replace hMT := Lib.hid hMT
  replace hx := Lib.hid hx
  clear hnm hP hv hb
  unfold partV at hp htk
  go_enter Try.func24, Try.ntmps24
  go_wp2_with fail
  refine (hp.out _ _ hz.out).mono ?_
  rintro r w1 ⟨g, rfl, hV, hk1⟩
  have hB := Blk.new w1 67 #[.slice (some ⟨g, 0, none⟩) n n, .func (.func K) #[] #[], .int .i64 xa, .int .i64 xb, .int .i64 xc, .int .i64 xd, .int .i64 xe, .int .i64 xf]
  have hK1 := hk1.alloc (.cells #[.slice (some ⟨g, 0, none⟩) n n, .func (.func K) #[] #[], .int .i64 xa, .int .i64 xb, .int .i64 xc, .int .i64 xd, .int .i64 xe, .int .i64 xf] 67)
  have hV1 := hV.kp ((Kp.refl [] w1).alloc (.cells #[.slice (some ⟨g, 0, none⟩) n n, .func (.func K) #[] #[], .int .i64 xa, .int .i64 xb, .int .i64 xc, .int .i64 xd, .int .i64 xe, .int .i64 xf] 67))
  obtain ⟨W1, hW1⟩ : ∃ W1, w1.alloc (.cells #[.slice (some ⟨g, 0, none⟩) n n, .func (.func K) #[] #[], .int .i64 xa, .int .i64 xb, .int .i64 xc, .int .i64 xd, .int .i64 xe, .int .i64 xf] 67) = W1 := ⟨_, rfl⟩
  rw [hW1] at hB hK1 hV1
  obtain ⟨B, hBB⟩ : ∃ B, w1.heap.size = B := ⟨_, rfl⟩
  rw [hBB] at hB
  replace hW1 := Lib.hid hW1
  replace hk1 := Lib.hid hk1
  replace hB := Lib.hid hB
  replace hK1 := Lib.hid hK1
  replace hV1 := Lib.hid hV1
  clear hV
  subst hl
  rw [ht] at htm
  rw [ha] at htk
  have r1 : ((MT : Int) != (MT : Int)) = false := by simp
  go_wp2_with fail
  rw [hW1.out]
  refine (htm.out _ (hT.out.kp hK1.out)).mono ?_
  rintro r w2 ⟨rfl, hk2⟩
  have hB2 := hB.out.kp hk2 (by simp)
  have hK2 := Lib.hid (hK1.out.trans hk2)
  have hV2 := Lib.hid (hV1.out.kp hk2)
  have e0 : w2.cell? ⟨B, 0, none⟩ = some (.slice (some ⟨g, 0, none⟩) n n) := hB2.cell 0 rfl
  have e1 : w2.cell? ⟨B, 1, none⟩ = some (.func (.func K) #[] #[]) := hB2.cell 1 rfl
  have e2 : w2.cell? ⟨B, 2, none⟩ = some (.int .i64 xa) := hB2.cell 2 rfl
  have e3 : w2.cell? ⟨B, 3, none⟩ = some (.int .i64 xb) := hB2.cell 3 rfl
  have e4 : w2.cell? ⟨B, 4, none⟩ = some (.int .i64 xc) := hB2.cell 4 rfl
  have e5 : w2.cell? ⟨B, 5, none⟩ = some (.int .i64 xd) := hB2.cell 5 rfl
  have e6 : w2.cell? ⟨B, 6, none⟩ = some (.int .i64 xe) := hB2.cell 6 rfl
  have e7 : w2.cell? ⟨B, 7, none⟩ = some (.int .i64 xf) := hB2.cell 7 rfl
  clear hB2 hk2
  go_wp2_with fail
  refine (htk.out _ g hV2.out (hI.out.kp hK2.out)).mono ?_
  rintro r w3 ⟨rfl, hk3⟩
  replace hk3 := Lib.hid hk3
  go_wp2_with fail
  go_ret2
  exact ⟨rfl, hK2.out.trans hk3.out⟩
end Go.Proofs.Ytieacfenoomaeaa
