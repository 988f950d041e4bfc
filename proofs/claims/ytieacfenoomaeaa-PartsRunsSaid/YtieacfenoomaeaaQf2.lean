import Derived.Test.YtieacfenoomaeaaQf1
set_option linter.unusedSimpArgs false
set_option linter.unusedVariables false
namespace Go.Proofs.Ytieacfenoomaeaa
open Go.RowKit

theorem isV_val {k z : Int} (h : valB z = false) : isV k z = false := by
  unfold isV
  split
  · simp [valB] at h
    simp [bitB]
    omega
  · exact h
theorem isV_other {k z : Int} (hk : ¬ k = 1) : isV k z = valB z := by simp [isV, hk]
theorem kindAt {L : List (ByteArray × Int × Int)} {i : Nat} (h : i < L.length) : (L.flatMap cellC)[i * 5 + 1]? = some (.int .i64 ((L.map fun x => x.2.2).getD i 0)) := by
  induction L generalizing i with
  | nil => exact absurd h (Nat.not_lt_zero _)
  | cons x L ih =>
    cases i with
    | zero => rfl
    | succ i =>
      have hl : (cellC x).length = 5 := rfl
      rw [List.flatMap_cons, List.getElem?_append_right (by omega), hl, show (i + 1) * 5 + 1 - 5 = i * 5 + 1 by omega, ih (by simpa using h)]
      simp [List.getD_eq_getElem?_getD]
theorem classAt {L : List (ByteArray × Int × Int)} {i : Nat} (h : i < L.length) : (L.flatMap cellC)[i * 5 + 2]? = some (.int .i64 ((L.map fun x => x.2.1).getD i 0)) := by
  induction L generalizing i with
  | nil => exact absurd h (Nat.not_lt_zero _)
  | cons x L ih =>
    cases i with
    | zero => rfl
    | succ i =>
      have hl : (cellC x).length = 5 := rfl
      rw [List.flatMap_cons, List.getElem?_append_right (by omega), hl, show (i + 1) * 5 + 2 - 5 = i * 5 + 2 by omega, ih (by simpa using h)]
      simp [List.getD_eq_getElem?_getD]
theorem own_slice {W : World} {b n s : Nat} {e : TypeId} {v : Value} {xs : List Value} (h : W.ownsRow b e s v n xs) (hn : 0 < n) : ∃ g c, v = .slice (some ⟨g, 0, none⟩) n c ∧ n ≤ c := by
  rcases h.2 with ⟨_, h2⟩ | ⟨g, cap, cur, h1, h2, h3, h4, _⟩
  · omega
  · exact ⟨g, cap, h1, h4⟩
set_option maxRecDepth 100000 in
set_option maxHeartbeats 2000000 in
theorem fits_c (w : World) (base n : Nat) (L : List (ByteArray × Int × Int)) (v : Value) (hc : w.ownsRow base 52 5 v n (L.flatMap cellC)) (hn : L.length = n) (h0 : 0 < n) (h6 : n ≤ 6) (v2 : Value) (zs : List Int) (hz : Is w v2 zs) :
    Calls Try.prog 37 #[v, v2] w fun r w' => r = .returned (.bool (areV (L.map fun x => x.2.2) zs)) ∧ w' = w := by
  obtain ⟨g, c1, rfl, hc1⟩ := own_slice hc h0
  obtain ⟨p2, c2, rfl, hn2, hc2⟩ := hz.val
  obtain ⟨ks, hks⟩ : ∃ ks, (L.map fun x => x.2.2) = ks := ⟨_, rfl⟩
  have hkl : Hid (ks.length = n) := by show _ = _; rw [← hks, List.length_map, hn]
  have hcell : Hid (∀ i, i < n → w.cell? ⟨g, i * 5 + 1, none⟩ = some (.int .i64 (ks.getD i 0))) := fun i hi => by
    rw [World.ownsRow.cellAt hc (i * 5 + 1) (by omega), kindAt (by omega), hks]
  rw [hks]
  obtain ⟨m, hm⟩ : ∃ n, zs.length = n := ⟨_, rfl⟩
  rw [hm] at hz hn2 ⊢
  replace hz := Lib.hid hz
  replace hc := Lib.hid hc
  replace hks := Lib.hid hks
  replace hn := Lib.hid hn
  have hbig : m ≤ 9223372036854775807 := by omega
  by_cases hmn : m = n
  · subst hmn
    have hE0 : Hid (areV ks zs = areV (ks.drop 0) (zs.drop 0)) := rfl
    replace hm := Lib.hid hm
    go_enter Try.func37, Try.ntmps37
    go_wp2
    go_loop [5] (fun i => ∃ (k : Nat), k ≤ m ∧ i = .int .i64 k ∧ Hid (areV ks zs = areV (ks.drop k) (zs.drop k))) (fun i => m - (intOf i).toNat)
    case atStart => exact ⟨0, Nat.zero_le _, rfl, hE0⟩
    case round =>
      obtain ⟨k, hk, rfl, hE⟩ := hrel
      by_cases hlt : k < m
      · obtain ⟨b, off, rfl, hcz⟩ := hz.out.at_ k (by rw [hm.out]; exact hlt)
        have hck := hcell.out k hlt
        have hS : Hid (areV (ks.drop k) (zs.drop k) = (isV (ks.getD k 0) (zs.getD k 0) && areV (ks.drop (k + 1)) (zs.drop (k + 1)))) := areV_step (by rw [hkl.out]; exact hlt) (by rw [hm.out]; exact hlt)
        obtain ⟨z, hzz⟩ : ∃ z, zs.getD k 0 = z := ⟨_, rfl⟩
        obtain ⟨u, hu⟩ : ∃ u, ks.getD k 0 = u := ⟨_, rfl⟩
        rw [hzz] at hcz hS
        rw [hu] at hck hS
        replace hzz := Lib.hid hzz
        replace hu := Lib.hid hu
        cases e1 : valB z
        · rw [isV_val (k := u) e1] at hS
          go_wp2_with fail
          refine (rValue_c z _).mono ?_
          rintro r w2 ⟨rfl, rfl⟩
          rw [e1]
          go_wp2
          go_ret
          exact ⟨ret_bool (by rw [hE.out, hS.out]; rfl), rfl⟩
        · by_cases hu1 : u = 1
          · subst hu1
            by_cases hb : z = 0 ∨ z = 1
            · have hi : isV 1 z = true := by simp [isV, bitB]; exact hb
              rw [hi] at hS
              rcases hb with rfl | rfl
              all_goals
                go_wp2_with fail
                refine (rValue_c _ _).mono ?_
                rintro r w2 ⟨rfl, rfl⟩
                rw [e1]
                go_wp2
                go_round
                case rel => exact ⟨k + 1, by omega, by go_num, by show _ = _; rw [hE.out, hS.out]; rfl⟩
                case measure => simp [intOf]; omega
            · have hi : isV 1 z = false := by simp [isV, bitB]; omega
              rw [hi] at hS
              have z0 : (z == 0) = false := by simp; omega
              have z1 : (z == 1) = false := by simp; omega
              have z2 : (z != 0) = true := by simp; omega
              have z3 : (z != 1) = true := by simp; omega
              replace hb := Lib.hid hb
              go_wp2_with fail
              refine (rValue_c z _).mono ?_
              rintro r w2 ⟨rfl, rfl⟩
              rw [e1]
              go_wp2
              go_ret
              exact ⟨ret_bool (by rw [hE.out, hS.out]; rfl), rfl⟩
          · have u1 : (u == 1) = false := by simpa using hu1
            rw [isV_other hu1, e1] at hS
            replace hu1 := Lib.hid hu1
            go_wp2_with fail
            refine (rValue_c z _).mono ?_
            rintro r w2 ⟨rfl, rfl⟩
            rw [e1]
            go_wp2
            go_round
            case rel => exact ⟨k + 1, by omega, by go_num, by show _ = _; rw [hE.out, hS.out]; rfl⟩
            case measure => simp [intOf]; omega
      · obtain rfl : k = m := by omega
        have hF : Hid (areV (ks.drop k) (zs.drop k) = true) := by
          show _ = _
          rw [areV_end (by rw [hkl.out]; omega) hm.out.symm, hkl.out, hm.out]
          simp
        go_wp2
        go_ret
        exact ⟨ret_bool (by rw [hE.out, hF.out]), rfl⟩
  · have hF : Hid (areV ks zs = false) := by
      show _ = _
      cases hb : areV ks zs
      · rfl
      · exact absurd (areV_len hb) (by rw [hkl.out, hm]; omega)
    have hne1 : ((n : Int) != (m : Int)) = true := by simp; omega
    have hne2 : ((n : Int) == (m : Int)) = false := by simp; omega
    replace hmn := Lib.hid hmn
    replace hm := Lib.hid hm
    go_enter Try.func37, Try.ntmps37
    go_wp2
    go_ret
    exact ⟨ret_bool hF.out.symm, rfl⟩
/-- What a block's cells must be, by the reference. -/
structure RKind (k : ByteArray) (i n : Nat) (L : List (ByteArray × Int × Int)) : Prop where
  cells : ∀ W, Calls Try.prog 27 #[.string k] W (CelOk n L W)
  len : L.length = n
  pos : 0 < n
  le : n ≤ 6
  kinds : (L.map fun x => x.2.2) = kin i
set_option maxRecDepth 100000 in
set_option maxHeartbeats 1000000 in
theorem right_gen (k : ByteArray) (i n : Nat) (L : List (ByteArray × Int × Int)) (h : RKind k i n L) (w : World) (v : Value) (zs : List Int) (hz : Is w v zs) :
    Calls Try.prog 20 #[.string k, v] w fun r w' => r = .returned (.bool (areV (kin i) zs)) ∧ Kp [] w w' := by
  have hc := Lib.hid h.cells
  replace hz := Lib.hid hz
  go_enter Try.func20, Try.ntmps20
  go_wp2_with fail
  refine (hc.out _).mono ?_
  rintro r w1 ⟨u, rfl, hr, hk⟩
  have hf := fits_c w1 w.heap.size n L u hr h.len h.pos h.le v zs (hz.out.kp hk)
  rw [h.kinds] at hf
  replace hf := Lib.hid hf
  replace hk := Lib.hid hk
  clear hr
  go_wp2_with fail
  refine hf.out.mono ?_
  rintro r w2 ⟨rfl, rfl⟩
  go_wp2
  go_ret
  exact ⟨rfl, hk.out⟩
set_option maxRecDepth 100000 in
set_option maxHeartbeats 1000000 in
theorem cells_no (k : ByteArray) (w : World) (h : ∀ i, i < 9 → k ≠ nmb i) : Calls Try.prog 27 #[.string k] w fun r w' => r = .returned (.tuple #[.slice none 0 0, .bool false]) ∧ w' = w := by
  have hs := Lib.hid (fun W => rstd_no k W h)
  go_enter Try.func27, Try.ntmps27
  go_wp2_with fail
  refine (hs.out _).mono ?_
  rintro r w1 ⟨rfl, rfl⟩
  go_wp2
  go_loop [6, 7] (fun v i => v = .slice none 0 0 ∧ i = .int .i64 0) (fun v i => 0)
  case atStart => exact ⟨rfl, rfl⟩
  case round =>
    obtain ⟨rfl, rfl⟩ := hrel
    go_wp2
    go_ret2
    exact ⟨rfl, rfl⟩
set_option maxRecDepth 100000 in
theorem right_no (k : ByteArray) (w : World) (v : Value) (h : ∀ i, i < 9 → k ≠ nmb i) : Calls Try.prog 20 #[.string k, v] w fun r w' => r = .returned (.bool false) ∧ w' = w := by
  have hs := Lib.hid (fun W => cells_no k W h)
  go_enter Try.func20, Try.ntmps20
  go_wp2_with fail
  refine (hs.out _).mono ?_
  rintro r w1 ⟨rfl, rfl⟩
  go_wp2
  go_ret
  exact ⟨rfl, rfl⟩
set_option maxRecDepth 100000 in
theorem lright_c1 (k : ByteArray) (v : Value) (now : Int) (w : World) (hR : Hid (∀ W, Kp [] w W → Calls Try.prog 20 #[.string k, v] W fun r w' => r = .returned (.bool true) ∧ Kp [] W w')) :
    Calls Try.prog 26 #[.string k, v, .int .i64 now] w fun r w' => r = .returned (.bool (true && isT now)) ∧ Kp [] w w' := by
  go_enter Try.func26, Try.ntmps26
  go_wp2_with fail
  refine (hR.out _ (Kp.refl _ _)).mono ?_
  rintro r w1 ⟨rfl, hk⟩
  replace hk := Lib.hid hk
  go_wp2
  all_goals (go_ret; refine ⟨ret_bool ?_, hk.out⟩; simp [isT, *] <;> omega)
set_option maxRecDepth 100000 in
theorem lright_c0 (k : ByteArray) (v : Value) (now : Int) (w : World) (hR : Hid (∀ W, Kp [] w W → Calls Try.prog 20 #[.string k, v] W fun r w' => r = .returned (.bool false) ∧ Kp [] W w')) :
    Calls Try.prog 26 #[.string k, v, .int .i64 now] w fun r w' => r = .returned (.bool (false && isT now)) ∧ Kp [] w w' := by
  go_enter Try.func26, Try.ntmps26
  go_wp2_with fail
  refine (hR.out _ (Kp.refl _ _)).mono ?_
  rintro r w1 ⟨rfl, hk⟩
  replace hk := Lib.hid hk
  go_wp2
  all_goals (go_ret; refine ⟨ret_bool ?_, hk.out⟩; simp [isT, *] <;> omega)
theorem rk_ton : RKind ⟨#[116, 111, 110]⟩ 0 6 timerL where
  cells := fun W => cells_gen ⟨#[116, 111, 110]⟩ 6 timerL W rfl (by omega) (fun W => rstd_ton W)
  len := rfl
  pos := by omega
  le := by omega
  kinds := rfl
theorem rk_tof : RKind ⟨#[116, 111, 102]⟩ 1 6 timerL where
  cells := fun W => cells_gen ⟨#[116, 111, 102]⟩ 6 timerL W rfl (by omega) (fun W => rstd_tof W)
  len := rfl
  pos := by omega
  le := by omega
  kinds := rfl
theorem rk_tp : RKind ⟨#[116, 112]⟩ 2 6 timerL where
  cells := fun W => cells_gen ⟨#[116, 112]⟩ 6 timerL W rfl (by omega) (fun W => rstd_tp W)
  len := rfl
  pos := by omega
  le := by omega
  kinds := rfl
theorem rk_ctu : RKind ⟨#[99, 116, 117]⟩ 3 6 ctuL where
  cells := fun W => cells_gen ⟨#[99, 116, 117]⟩ 6 ctuL W rfl (by omega) (fun W => rstd_ctu W)
  len := rfl
  pos := by omega
  le := by omega
  kinds := rfl
theorem rk_ctd : RKind ⟨#[99, 116, 100]⟩ 4 6 ctdL where
  cells := fun W => cells_gen ⟨#[99, 116, 100]⟩ 6 ctdL W rfl (by omega) (fun W => rstd_ctd W)
  len := rfl
  pos := by omega
  le := by omega
  kinds := rfl
theorem rk_sr : RKind ⟨#[115, 114]⟩ 5 3 srL where
  cells := fun W => cells_gen ⟨#[115, 114]⟩ 3 srL W rfl (by omega) (fun W => rstd_sr W)
  len := rfl
  pos := by omega
  le := by omega
  kinds := rfl
theorem rk_rs : RKind ⟨#[114, 115]⟩ 6 3 rsL where
  cells := fun W => cells_gen ⟨#[114, 115]⟩ 3 rsL W rfl (by omega) (fun W => rstd_rs W)
  len := rfl
  pos := by omega
  le := by omega
  kinds := rfl
theorem rk_rtrig : RKind ⟨#[114, 116, 114, 105, 103]⟩ 7 3 edgeL where
  cells := fun W => cells_gen ⟨#[114, 116, 114, 105, 103]⟩ 3 edgeL W rfl (by omega) (fun W => rstd_rtrig W)
  len := rfl
  pos := by omega
  le := by omega
  kinds := rfl
theorem rk_ftrig : RKind ⟨#[102, 116, 114, 105, 103]⟩ 8 3 edgeL where
  cells := fun W => cells_gen ⟨#[102, 116, 114, 105, 103]⟩ 3 edgeL W rfl (by omega) (fun W => rstd_ftrig W)
  len := rfl
  pos := by omega
  le := by omega
  kinds := rfl
end Go.Proofs.Ytieacfenoomaeaa
