import Derived.Test.YtebmaclopkocgaaGreatDoorSz5
set_option linter.unusedSimpArgs false
set_option linter.unusedVariables false
namespace Go.Proofs.YtebmaclopkocgaaGreatDoor
open Go.RowKit

set_option maxRecDepth 100000 in
set_option maxHeartbeats 4000000 in
theorem sz_1_a (kind m : Int) (h0 : m < 0) (s f : ByteArray) (q : Option Addr) (len cap : Nat) (g : Nat) (n dp d : Int) (w : World) (hs : s.size ≤ 140737488355328) (hf : f.size ≤ 140737488355328) (hS : Sz w g n dp false)
    (hn0 : 0 ≤ n) (hn5 : n ≤ 500) (hd0 : 0 ≤ d) (hd1 : d ≤ 15) (ok : Bool) (n' : Int)
    (hexp : Hid (∀ w2 dp2, Kp [g] w w2 → Sz w2 g (n + 1) dp2 false → n + 1 ≤ 500 → d ≤ 14 → Calls Tryz.prog 35 #[.pointer (some ⟨g, 0, none⟩), .slice q len cap, .int .i64 (d + 1)] w2 (SzRes g ok n' w2)))
    (hwr : Hid (∀ w2 n2 dp2, Sz w2 g n2 dp2 true → Calls Tryz.prog 35 #[.pointer (some ⟨g, 0, none⟩), .slice q len cap, .int .i64 (d + 1)] w2 (fun r w' => r = .returned (.tuple #[]) ∧ w' = w2))) :
    Calls Tryz.prog 16 #[.pointer (some ⟨g, 0, none⟩), .agg #[.int .i64 1, .int .i64 kind, .int .i64 m, .string s, .string f, .slice q len cap], .int .i64 d] w
      (SzRes g (decide (n + 1 ≤ 500) && decide (d ≤ 14) && (false && (((len : Int) == 0) && emB s && emB f)) && ok) n' w) := by
  have h0b : ¬ 0 ≤ m := by omega
  try obtain ⟨g4a, g4b, g4c⟩ := g4
  have hg := Blk.lt hS
  have hB := Blk.new w 24 #[.int .i64 1, .int .i64 kind, .int .i64 m, .string s, .string f, .slice q len cap]
  have hS1 := Lib.hid (hS.cells (.cells #[.int .i64 1, .int .i64 kind, .int .i64 m, .string s, .string f, .slice q len cap] 24))
  have hc2 := Blk.cell hS 2 (v := .bool false) rfl
  replace hS := Lib.hid hS
  replace hB := Lib.hid hB
  go_enter Tryz.func16, Tryz.ntmps16
  go_wp2_with fail
  refine (node_c g n dp d _ hS1.out hn0 (by omega)).mono ?_
  rintro r w2 ⟨rfl, hS2, hk2⟩
  have hne : w.heap.size ∉ [g] := by simp; omega
  have hB2 := hB.out.kp hk2 hne
  have e0 := hB2.cell 0 (v := .int .i64 1) rfl
  have e1 := hB2.cell 1 (v := .int .i64 kind) rfl
  have e2 := hB2.cell 2 (v := .int .i64 m) rfl
  have e3 := hB2.cell 3 (v := .string s) rfl
  have e4 := hB2.cell 4 (v := .string f) rfl
  have e5 := hB2.cell 5 (v := .slice q len cap) rfl
  obtain ⟨b1, hb1⟩ : ∃ b, (decide (500 < n + 1) || decide (14 < d)) = b := ⟨_, rfl⟩
  obtain ⟨dp1, hdp1⟩ : ∃ x, max dp d = x := ⟨_, rfl⟩
  rw [hb1, hdp1] at hS2
  replace hS2 := Lib.hid hS2
  replace hB2 := Lib.hid hB2
  replace hb1 := Lib.hid hb1
  replace hk2 := Lib.hid hk2
  replace hne := Lib.hid hne
  clear hdp1 hc2
  obtain ⟨c3, hc3⟩ : ∃ c : Bool, ((len : Int) == 0) = c := ⟨_, rfl⟩
  obtain ⟨c4, hc4⟩ : ∃ c : Bool, emB s = c := ⟨_, rfl⟩
  obtain ⟨c5, hc5⟩ : ∃ c : Bool, emB f = c := ⟨_, rfl⟩
  replace hc3 := Lib.hid hc3
  replace hc4 := Lib.hid hc4
  replace hc5 := Lib.hid hc5
  go_upto_region 19 with (go_at_call 33; refine (right_c g _ _ _ _ _ hS2.out).mono ?_; rintro r w2b ⟨rfl, hS2b, hk2b⟩)
  have hk3a := Lib.hid (hk2.out.trans hk2b)
  have hB2b := hB2.out.kp hk2b hne.out
  clear e0 e1 e2 e3 e4 e5 hS2 hk2
  obtain ⟨w2, hw2⟩ : ∃ x, w2b = x := ⟨_, rfl⟩
  subst hw2
  have e0 := hB2b.cell 0 (v := .int .i64 1) rfl
  have e1 := hB2b.cell 1 (v := .int .i64 kind) rfl
  have e2 := hB2b.cell 2 (v := .int .i64 m) rfl
  have e3 := hB2b.cell 3 (v := .string s) rfl
  have e4 := hB2b.cell 4 (v := .string f) rfl
  have e5 := hB2b.cell 5 (v := .slice q len cap) rfl
  replace hS2b := sz_to (c := false) hS2b (by first | rfl | (simp; omega))
  obtain ⟨b2, hb2⟩ : ∃ b, (b1 || !false) = b := ⟨_, rfl⟩
  rw [hb2] at hS2b
  replace hb2 := Lib.hid hb2
  replace hS2b := Lib.hid hS2b
  replace hB2b := Lib.hid hB2b
  go_cut [1] (fun _ wx => Hid (Sz wx g (n + 1) dp1 (b2 || !c3)) ∧ Hid (Kp [g] w2b wx))
  case first =>
    go_wp2_with (go_at_call 33; refine (right_c g _ _ _ _ _ hS2b.out).mono ?_; rintro r w3 ⟨rfl, hS3, hk3⟩)
    all_goals
      go_meet
      case rel => exact ⟨sz_to hS3 (hc3.out.symm.trans (by first | (simp [*]; done) | (simp [*]; omega))), hk3⟩
  case rest =>
    obtain ⟨hS3, hk3⟩ := hcut
    have hB3 := hB2b.out.kp hk3.out hne.out
    clear e0 e1 e2 e3 e4 e5
    have e3 := hB3.cell 3 (v := .string s) rfl
    have e4 := hB3.cell 4 (v := .string f) rfl
    have e5 := hB3.cell 5 (v := .slice q len cap) rfl
    obtain ⟨b3, hb3⟩ : ∃ b, (b2 || !c3) = b := ⟨_, rfl⟩
    rw [hb3] at hS3
    replace hb3 := Lib.hid hb3
    replace hB3 := Lib.hid hB3
    obtain ⟨w3, hw3⟩ : ∃ x, wc = x := ⟨_, rfl⟩
    subst hw3
    go_upto_region 20 with fail
    go_cut [1] (fun _ wx => Hid (Sz wx g (n + 1) dp1 (b3 || !c4)) ∧ Hid (Kp [g] wc wx))
    case first =>
      go_wp2_with (first | (go_at_call 34; refine (rname_c _ _ hs).mono ?_; rintro r w4 ⟨rfl, hkn⟩; rw [hc4.out]) | (go_at_call 33; refine (right_c g _ _ _ _ _ (by first | exact hS3.out | exact hS3.out.kp hkn)).mono ?_; rintro r w5 ⟨rfl, hS5, hk5⟩))
      all_goals
        go_meet
        case rel => exact ⟨sz_to hS5 (first_to hc4.out (by first | (left; simp [*]; done) | (right; simp [emB, *]; done))), by first | exact hkn.any.trans hk5 | exact hk5⟩
    case rest =>
      obtain ⟨hS4, hk4⟩ := hcut
      have hB4 := hB3.out.kp hk4.out hne.out
      clear e3 e4 e5
      have e4 := hB4.cell 4 (v := .string f) rfl
      have e5 := hB4.cell 5 (v := .slice q len cap) rfl
      obtain ⟨b4, hb4⟩ : ∃ b, (b3 || !c4) = b := ⟨_, rfl⟩
      rw [hb4] at hS4
      replace hb4 := Lib.hid hb4
      replace hB4 := Lib.hid hB4
      replace hk4 := Lib.hid (hk3.out.trans hk4.out)
      clear hS3 hk3
      obtain ⟨w4, hw4⟩ : ∃ x, wc = x := ⟨_, rfl⟩
      go_upto_region 21 with fail
      go_cut [1] (fun _ wx => Hid (Sz wx g (n + 1) dp1 (b4 || !c5)) ∧ Hid (Kp [g] w4 wx))
      case first =>
        subst hw4
        go_wp2_with (first | (go_at_call 34; refine (rname_c _ _ hf).mono ?_; rintro r w4 ⟨rfl, hkn⟩; rw [hc5.out]) | (go_at_call 33; refine (right_c g _ _ _ _ _ (by first | exact hS4.out | exact hS4.out.kp hkn)).mono ?_; rintro r w5 ⟨rfl, hS5, hk5⟩))
        all_goals
          go_meet
          case rel => exact ⟨sz_to hS5 (first_to hc5.out (by first | (left; simp [*]; done) | (right; simp [emB, *]; done))), by first | exact hkn.any.trans hk5 | exact hk5⟩
      case rest =>
        obtain ⟨hS5, hk5⟩ := hcut
        subst hw4
        have hB5 := hB4.out.kp hk5.out hne.out
        clear e4 e5
        have e5 := hB5.cell 5 (v := .slice q len cap) rfl
        have hk6 := Lib.hid (hk4.out.trans hk5.out)
        have hend := Lib.hid (sz_end hk3a.out hk6.out)
        obtain ⟨b5, hb5⟩ : ∃ b, (b4 || !c5) = b := ⟨_, rfl⟩
        rw [hb5] at hS5
        have hres : Hid (b5 = (!(decide (n + 1 ≤ 500) && decide (d ≤ 14) && (false && (c3 && c4 && c5))))) := by
          show _ = _
          rw [← hb5, ← hb4.out, ← hb3.out, ← hb2.out, ← hb1.out]
          by_cases h1 : n + 1 ≤ 500 <;> by_cases h2 : d ≤ 14 <;> simp [h1, h2, Int.not_lt.2, Int.not_le.1] <;> (try omega) <;> simp [Bool.or_assoc]
        clear hB5 hS4 hk4 hk5 hk6
        cases b5
        · have h3 : Hid ((decide (n + 1 ≤ 500) && decide (d ≤ 14) && (false && (c3 && c4 && c5))) = true) := tr_of hres.out
          have h4 : n + 1 ≤ 500 ∧ d ≤ 14 := by have := h3.out; simp only [Bool.and_eq_true, decide_eq_true_eq] at this; exact this.1
          have hcall := Lib.hid (hexp.out wc dp1 hend.out hS5 h4.1 h4.2)
          clear h4
          go_wp2_with fail
          refine hcall.out.mono ?_
          rintro r w9 ⟨rfl, hk9, hR⟩
          go_wp2_with fail
          go_end0
          rw [hc3.out, hc4.out, hc5.out, h3.out, Bool.true_and]
          exact ⟨rfl, hend.out.trans hk9, hR⟩
        · have h3 : Hid ((decide (n + 1 ≤ 500) && decide (d ≤ 14) && (false && (c3 && c4 && c5))) = false) := fl_of hres.out
          have hcall := Lib.hid (hwr.out wc _ _ hS5)
          go_wp2_with fail
          refine hcall.out.mono ?_
          rintro r w9 ⟨rfl, rfl⟩
          go_wp2_with fail
          go_end0
          rw [hc3.out, hc4.out, hc5.out, h3.out, Bool.false_and]
          exact ⟨rfl, hend.out, _, _, hS5, fun h => by cases h⟩
set_option maxRecDepth 100000 in
set_option maxHeartbeats 4000000 in
theorem sz_1_b (kind m : Int) (h0 : 0 ≤ m) (h1 : 2147483647 < m) (s f : ByteArray) (q : Option Addr) (len cap : Nat) (g : Nat) (n dp d : Int) (w : World) (hs : s.size ≤ 140737488355328) (hf : f.size ≤ 140737488355328) (hS : Sz w g n dp false)
    (hn0 : 0 ≤ n) (hn5 : n ≤ 500) (hd0 : 0 ≤ d) (hd1 : d ≤ 15) (ok : Bool) (n' : Int)
    (hexp : Hid (∀ w2 dp2, Kp [g] w w2 → Sz w2 g (n + 1) dp2 false → n + 1 ≤ 500 → d ≤ 14 → Calls Tryz.prog 35 #[.pointer (some ⟨g, 0, none⟩), .slice q len cap, .int .i64 (d + 1)] w2 (SzRes g ok n' w2)))
    (hwr : Hid (∀ w2 n2 dp2, Sz w2 g n2 dp2 true → Calls Tryz.prog 35 #[.pointer (some ⟨g, 0, none⟩), .slice q len cap, .int .i64 (d + 1)] w2 (fun r w' => r = .returned (.tuple #[]) ∧ w' = w2))) :
    Calls Tryz.prog 16 #[.pointer (some ⟨g, 0, none⟩), .agg #[.int .i64 1, .int .i64 kind, .int .i64 m, .string s, .string f, .slice q len cap], .int .i64 d] w
      (SzRes g (decide (n + 1 ≤ 500) && decide (d ≤ 14) && (false && (((len : Int) == 0) && emB s && emB f)) && ok) n' w) := by
  have h1b : ¬ m ≤ 2147483647 := by omega
  try obtain ⟨g4a, g4b, g4c⟩ := g4
  have hg := Blk.lt hS
  have hB := Blk.new w 24 #[.int .i64 1, .int .i64 kind, .int .i64 m, .string s, .string f, .slice q len cap]
  have hS1 := Lib.hid (hS.cells (.cells #[.int .i64 1, .int .i64 kind, .int .i64 m, .string s, .string f, .slice q len cap] 24))
  have hc2 := Blk.cell hS 2 (v := .bool false) rfl
  replace hS := Lib.hid hS
  replace hB := Lib.hid hB
  go_enter Tryz.func16, Tryz.ntmps16
  go_wp2_with fail
  refine (node_c g n dp d _ hS1.out hn0 (by omega)).mono ?_
  rintro r w2 ⟨rfl, hS2, hk2⟩
  have hne : w.heap.size ∉ [g] := by simp; omega
  have hB2 := hB.out.kp hk2 hne
  have e0 := hB2.cell 0 (v := .int .i64 1) rfl
  have e1 := hB2.cell 1 (v := .int .i64 kind) rfl
  have e2 := hB2.cell 2 (v := .int .i64 m) rfl
  have e3 := hB2.cell 3 (v := .string s) rfl
  have e4 := hB2.cell 4 (v := .string f) rfl
  have e5 := hB2.cell 5 (v := .slice q len cap) rfl
  obtain ⟨b1, hb1⟩ : ∃ b, (decide (500 < n + 1) || decide (14 < d)) = b := ⟨_, rfl⟩
  obtain ⟨dp1, hdp1⟩ : ∃ x, max dp d = x := ⟨_, rfl⟩
  rw [hb1, hdp1] at hS2
  replace hS2 := Lib.hid hS2
  replace hB2 := Lib.hid hB2
  replace hb1 := Lib.hid hb1
  replace hk2 := Lib.hid hk2
  replace hne := Lib.hid hne
  clear hdp1 hc2
  obtain ⟨c3, hc3⟩ : ∃ c : Bool, ((len : Int) == 0) = c := ⟨_, rfl⟩
  obtain ⟨c4, hc4⟩ : ∃ c : Bool, emB s = c := ⟨_, rfl⟩
  obtain ⟨c5, hc5⟩ : ∃ c : Bool, emB f = c := ⟨_, rfl⟩
  replace hc3 := Lib.hid hc3
  replace hc4 := Lib.hid hc4
  replace hc5 := Lib.hid hc5
  go_upto_region 19 with (go_at_call 33; refine (right_c g _ _ _ _ _ hS2.out).mono ?_; rintro r w2b ⟨rfl, hS2b, hk2b⟩)
  have hk3a := Lib.hid (hk2.out.trans hk2b)
  have hB2b := hB2.out.kp hk2b hne.out
  clear e0 e1 e2 e3 e4 e5 hS2 hk2
  obtain ⟨w2, hw2⟩ : ∃ x, w2b = x := ⟨_, rfl⟩
  subst hw2
  have e0 := hB2b.cell 0 (v := .int .i64 1) rfl
  have e1 := hB2b.cell 1 (v := .int .i64 kind) rfl
  have e2 := hB2b.cell 2 (v := .int .i64 m) rfl
  have e3 := hB2b.cell 3 (v := .string s) rfl
  have e4 := hB2b.cell 4 (v := .string f) rfl
  have e5 := hB2b.cell 5 (v := .slice q len cap) rfl
  replace hS2b := sz_to (c := false) hS2b (by first | rfl | (simp; omega))
  obtain ⟨b2, hb2⟩ : ∃ b, (b1 || !false) = b := ⟨_, rfl⟩
  rw [hb2] at hS2b
  replace hb2 := Lib.hid hb2
  replace hS2b := Lib.hid hS2b
  replace hB2b := Lib.hid hB2b
  go_cut [1] (fun _ wx => Hid (Sz wx g (n + 1) dp1 (b2 || !c3)) ∧ Hid (Kp [g] w2b wx))
  case first =>
    go_wp2_with (go_at_call 33; refine (right_c g _ _ _ _ _ hS2b.out).mono ?_; rintro r w3 ⟨rfl, hS3, hk3⟩)
    all_goals
      go_meet
      case rel => exact ⟨sz_to hS3 (hc3.out.symm.trans (by first | (simp [*]; done) | (simp [*]; omega))), hk3⟩
  case rest =>
    obtain ⟨hS3, hk3⟩ := hcut
    have hB3 := hB2b.out.kp hk3.out hne.out
    clear e0 e1 e2 e3 e4 e5
    have e3 := hB3.cell 3 (v := .string s) rfl
    have e4 := hB3.cell 4 (v := .string f) rfl
    have e5 := hB3.cell 5 (v := .slice q len cap) rfl
    obtain ⟨b3, hb3⟩ : ∃ b, (b2 || !c3) = b := ⟨_, rfl⟩
    rw [hb3] at hS3
    replace hb3 := Lib.hid hb3
    replace hB3 := Lib.hid hB3
    obtain ⟨w3, hw3⟩ : ∃ x, wc = x := ⟨_, rfl⟩
    subst hw3
    go_upto_region 20 with fail
    go_cut [1] (fun _ wx => Hid (Sz wx g (n + 1) dp1 (b3 || !c4)) ∧ Hid (Kp [g] wc wx))
    case first =>
      go_wp2_with (first | (go_at_call 34; refine (rname_c _ _ hs).mono ?_; rintro r w4 ⟨rfl, hkn⟩; rw [hc4.out]) | (go_at_call 33; refine (right_c g _ _ _ _ _ (by first | exact hS3.out | exact hS3.out.kp hkn)).mono ?_; rintro r w5 ⟨rfl, hS5, hk5⟩))
      all_goals
        go_meet
        case rel => exact ⟨sz_to hS5 (first_to hc4.out (by first | (left; simp [*]; done) | (right; simp [emB, *]; done))), by first | exact hkn.any.trans hk5 | exact hk5⟩
    case rest =>
      obtain ⟨hS4, hk4⟩ := hcut
      have hB4 := hB3.out.kp hk4.out hne.out
      clear e3 e4 e5
      have e4 := hB4.cell 4 (v := .string f) rfl
      have e5 := hB4.cell 5 (v := .slice q len cap) rfl
      obtain ⟨b4, hb4⟩ : ∃ b, (b3 || !c4) = b := ⟨_, rfl⟩
      rw [hb4] at hS4
      replace hb4 := Lib.hid hb4
      replace hB4 := Lib.hid hB4
      replace hk4 := Lib.hid (hk3.out.trans hk4.out)
      clear hS3 hk3
      obtain ⟨w4, hw4⟩ : ∃ x, wc = x := ⟨_, rfl⟩
      go_upto_region 21 with fail
      go_cut [1] (fun _ wx => Hid (Sz wx g (n + 1) dp1 (b4 || !c5)) ∧ Hid (Kp [g] w4 wx))
      case first =>
        subst hw4
        go_wp2_with (first | (go_at_call 34; refine (rname_c _ _ hf).mono ?_; rintro r w4 ⟨rfl, hkn⟩; rw [hc5.out]) | (go_at_call 33; refine (right_c g _ _ _ _ _ (by first | exact hS4.out | exact hS4.out.kp hkn)).mono ?_; rintro r w5 ⟨rfl, hS5, hk5⟩))
        all_goals
          go_meet
          case rel => exact ⟨sz_to hS5 (first_to hc5.out (by first | (left; simp [*]; done) | (right; simp [emB, *]; done))), by first | exact hkn.any.trans hk5 | exact hk5⟩
      case rest =>
        obtain ⟨hS5, hk5⟩ := hcut
        subst hw4
        have hB5 := hB4.out.kp hk5.out hne.out
        clear e4 e5
        have e5 := hB5.cell 5 (v := .slice q len cap) rfl
        have hk6 := Lib.hid (hk4.out.trans hk5.out)
        have hend := Lib.hid (sz_end hk3a.out hk6.out)
        obtain ⟨b5, hb5⟩ : ∃ b, (b4 || !c5) = b := ⟨_, rfl⟩
        rw [hb5] at hS5
        have hres : Hid (b5 = (!(decide (n + 1 ≤ 500) && decide (d ≤ 14) && (false && (c3 && c4 && c5))))) := by
          show _ = _
          rw [← hb5, ← hb4.out, ← hb3.out, ← hb2.out, ← hb1.out]
          by_cases h1 : n + 1 ≤ 500 <;> by_cases h2 : d ≤ 14 <;> simp [h1, h2, Int.not_lt.2, Int.not_le.1] <;> (try omega) <;> simp [Bool.or_assoc]
        clear hB5 hS4 hk4 hk5 hk6
        cases b5
        · have h3 : Hid ((decide (n + 1 ≤ 500) && decide (d ≤ 14) && (false && (c3 && c4 && c5))) = true) := tr_of hres.out
          have h4 : n + 1 ≤ 500 ∧ d ≤ 14 := by have := h3.out; simp only [Bool.and_eq_true, decide_eq_true_eq] at this; exact this.1
          have hcall := Lib.hid (hexp.out wc dp1 hend.out hS5 h4.1 h4.2)
          clear h4
          go_wp2_with fail
          refine hcall.out.mono ?_
          rintro r w9 ⟨rfl, hk9, hR⟩
          go_wp2_with fail
          go_end0
          rw [hc3.out, hc4.out, hc5.out, h3.out, Bool.true_and]
          exact ⟨rfl, hend.out.trans hk9, hR⟩
        · have h3 : Hid ((decide (n + 1 ≤ 500) && decide (d ≤ 14) && (false && (c3 && c4 && c5))) = false) := fl_of hres.out
          have hcall := Lib.hid (hwr.out wc _ _ hS5)
          go_wp2_with fail
          refine hcall.out.mono ?_
          rintro r w9 ⟨rfl, rfl⟩
          go_wp2_with fail
          go_end0
          rw [hc3.out, hc4.out, hc5.out, h3.out, Bool.false_and]
          exact ⟨rfl, hend.out, _, _, hS5, fun h => by cases h⟩
set_option maxRecDepth 100000 in
set_option maxHeartbeats 4000000 in
theorem sz_1_c (m : Int) (h0 : 0 ≤ m) (h1 : m ≤ 2147483647) (s f : ByteArray) (q : Option Addr) (len cap : Nat) (g : Nat) (n dp d : Int) (w : World) (hs : s.size ≤ 140737488355328) (hf : f.size ≤ 140737488355328) (hS : Sz w g n dp false)
    (hn0 : 0 ≤ n) (hn5 : n ≤ 500) (hd0 : 0 ≤ d) (hd1 : d ≤ 15) (ok : Bool) (n' : Int)
    (hexp : Hid (∀ w2 dp2, Kp [g] w w2 → Sz w2 g (n + 1) dp2 false → n + 1 ≤ 500 → d ≤ 14 → Calls Tryz.prog 35 #[.pointer (some ⟨g, 0, none⟩), .slice q len cap, .int .i64 (d + 1)] w2 (SzRes g ok n' w2)))
    (hwr : Hid (∀ w2 n2 dp2, Sz w2 g n2 dp2 true → Calls Tryz.prog 35 #[.pointer (some ⟨g, 0, none⟩), .slice q len cap, .int .i64 (d + 1)] w2 (fun r w' => r = .returned (.tuple #[]) ∧ w' = w2))) :
    Calls Tryz.prog 16 #[.pointer (some ⟨g, 0, none⟩), .agg #[.int .i64 1, .int .i64 2, .int .i64 m, .string s, .string f, .slice q len cap], .int .i64 d] w
      (SzRes g (decide (n + 1 ≤ 500) && decide (d ≤ 14) && (true && (((len : Int) == 0) && emB s && emB f)) && ok) n' w) := by
  skip
  try obtain ⟨g4a, g4b, g4c⟩ := g4
  have hg := Blk.lt hS
  have hB := Blk.new w 24 #[.int .i64 1, .int .i64 2, .int .i64 m, .string s, .string f, .slice q len cap]
  have hS1 := Lib.hid (hS.cells (.cells #[.int .i64 1, .int .i64 2, .int .i64 m, .string s, .string f, .slice q len cap] 24))
  have hc2 := Blk.cell hS 2 (v := .bool false) rfl
  replace hS := Lib.hid hS
  replace hB := Lib.hid hB
  go_enter Tryz.func16, Tryz.ntmps16
  go_wp2_with fail
  refine (node_c g n dp d _ hS1.out hn0 (by omega)).mono ?_
  rintro r w2 ⟨rfl, hS2, hk2⟩
  have hne : w.heap.size ∉ [g] := by simp; omega
  have hB2 := hB.out.kp hk2 hne
  have e0 := hB2.cell 0 (v := .int .i64 1) rfl
  have e1 := hB2.cell 1 (v := .int .i64 2) rfl
  have e2 := hB2.cell 2 (v := .int .i64 m) rfl
  have e3 := hB2.cell 3 (v := .string s) rfl
  have e4 := hB2.cell 4 (v := .string f) rfl
  have e5 := hB2.cell 5 (v := .slice q len cap) rfl
  obtain ⟨b1, hb1⟩ : ∃ b, (decide (500 < n + 1) || decide (14 < d)) = b := ⟨_, rfl⟩
  obtain ⟨dp1, hdp1⟩ : ∃ x, max dp d = x := ⟨_, rfl⟩
  rw [hb1, hdp1] at hS2
  replace hS2 := Lib.hid hS2
  replace hB2 := Lib.hid hB2
  replace hb1 := Lib.hid hb1
  replace hk2 := Lib.hid hk2
  replace hne := Lib.hid hne
  clear hdp1 hc2
  obtain ⟨c3, hc3⟩ : ∃ c : Bool, ((len : Int) == 0) = c := ⟨_, rfl⟩
  obtain ⟨c4, hc4⟩ : ∃ c : Bool, emB s = c := ⟨_, rfl⟩
  obtain ⟨c5, hc5⟩ : ∃ c : Bool, emB f = c := ⟨_, rfl⟩
  replace hc3 := Lib.hid hc3
  replace hc4 := Lib.hid hc4
  replace hc5 := Lib.hid hc5
  go_upto_region 19 with (go_at_call 33; refine (right_c g _ _ _ _ _ hS2.out).mono ?_; rintro r w2b ⟨rfl, hS2b, hk2b⟩)
  have hk3a := Lib.hid (hk2.out.trans hk2b)
  have hB2b := hB2.out.kp hk2b hne.out
  clear e0 e1 e2 e3 e4 e5 hS2 hk2
  obtain ⟨w2, hw2⟩ : ∃ x, w2b = x := ⟨_, rfl⟩
  subst hw2
  have e0 := hB2b.cell 0 (v := .int .i64 1) rfl
  have e1 := hB2b.cell 1 (v := .int .i64 2) rfl
  have e2 := hB2b.cell 2 (v := .int .i64 m) rfl
  have e3 := hB2b.cell 3 (v := .string s) rfl
  have e4 := hB2b.cell 4 (v := .string f) rfl
  have e5 := hB2b.cell 5 (v := .slice q len cap) rfl
  replace hS2b := sz_to (c := true) hS2b (by first | rfl | (simp; omega))
  obtain ⟨b2, hb2⟩ : ∃ b, (b1 || !true) = b := ⟨_, rfl⟩
  rw [hb2] at hS2b
  replace hb2 := Lib.hid hb2
  replace hS2b := Lib.hid hS2b
  replace hB2b := Lib.hid hB2b
  go_cut [1] (fun _ wx => Hid (Sz wx g (n + 1) dp1 (b2 || !c3)) ∧ Hid (Kp [g] w2b wx))
  case first =>
    go_wp2_with (go_at_call 33; refine (right_c g _ _ _ _ _ hS2b.out).mono ?_; rintro r w3 ⟨rfl, hS3, hk3⟩)
    all_goals
      go_meet
      case rel => exact ⟨sz_to hS3 (hc3.out.symm.trans (by first | (simp [*]; done) | (simp [*]; omega))), hk3⟩
  case rest =>
    obtain ⟨hS3, hk3⟩ := hcut
    have hB3 := hB2b.out.kp hk3.out hne.out
    clear e0 e1 e2 e3 e4 e5
    have e3 := hB3.cell 3 (v := .string s) rfl
    have e4 := hB3.cell 4 (v := .string f) rfl
    have e5 := hB3.cell 5 (v := .slice q len cap) rfl
    obtain ⟨b3, hb3⟩ : ∃ b, (b2 || !c3) = b := ⟨_, rfl⟩
    rw [hb3] at hS3
    replace hb3 := Lib.hid hb3
    replace hB3 := Lib.hid hB3
    obtain ⟨w3, hw3⟩ : ∃ x, wc = x := ⟨_, rfl⟩
    subst hw3
    go_upto_region 20 with fail
    go_cut [1] (fun _ wx => Hid (Sz wx g (n + 1) dp1 (b3 || !c4)) ∧ Hid (Kp [g] wc wx))
    case first =>
      go_wp2_with (first | (go_at_call 34; refine (rname_c _ _ hs).mono ?_; rintro r w4 ⟨rfl, hkn⟩; rw [hc4.out]) | (go_at_call 33; refine (right_c g _ _ _ _ _ (by first | exact hS3.out | exact hS3.out.kp hkn)).mono ?_; rintro r w5 ⟨rfl, hS5, hk5⟩))
      all_goals
        go_meet
        case rel => exact ⟨sz_to hS5 (first_to hc4.out (by first | (left; simp [*]; done) | (right; simp [emB, *]; done))), by first | exact hkn.any.trans hk5 | exact hk5⟩
    case rest =>
      obtain ⟨hS4, hk4⟩ := hcut
      have hB4 := hB3.out.kp hk4.out hne.out
      clear e3 e4 e5
      have e4 := hB4.cell 4 (v := .string f) rfl
      have e5 := hB4.cell 5 (v := .slice q len cap) rfl
      obtain ⟨b4, hb4⟩ : ∃ b, (b3 || !c4) = b := ⟨_, rfl⟩
      rw [hb4] at hS4
      replace hb4 := Lib.hid hb4
      replace hB4 := Lib.hid hB4
      replace hk4 := Lib.hid (hk3.out.trans hk4.out)
      clear hS3 hk3
      obtain ⟨w4, hw4⟩ : ∃ x, wc = x := ⟨_, rfl⟩
      go_upto_region 21 with fail
      go_cut [1] (fun _ wx => Hid (Sz wx g (n + 1) dp1 (b4 || !c5)) ∧ Hid (Kp [g] w4 wx))
      case first =>
        subst hw4
        go_wp2_with (first | (go_at_call 34; refine (rname_c _ _ hf).mono ?_; rintro r w4 ⟨rfl, hkn⟩; rw [hc5.out]) | (go_at_call 33; refine (right_c g _ _ _ _ _ (by first | exact hS4.out | exact hS4.out.kp hkn)).mono ?_; rintro r w5 ⟨rfl, hS5, hk5⟩))
        all_goals
          go_meet
          case rel => exact ⟨sz_to hS5 (first_to hc5.out (by first | (left; simp [*]; done) | (right; simp [emB, *]; done))), by first | exact hkn.any.trans hk5 | exact hk5⟩
      case rest =>
        obtain ⟨hS5, hk5⟩ := hcut
        subst hw4
        have hB5 := hB4.out.kp hk5.out hne.out
        clear e4 e5
        have e5 := hB5.cell 5 (v := .slice q len cap) rfl
        have hk6 := Lib.hid (hk4.out.trans hk5.out)
        have hend := Lib.hid (sz_end hk3a.out hk6.out)
        obtain ⟨b5, hb5⟩ : ∃ b, (b4 || !c5) = b := ⟨_, rfl⟩
        rw [hb5] at hS5
        have hres : Hid (b5 = (!(decide (n + 1 ≤ 500) && decide (d ≤ 14) && (true && (c3 && c4 && c5))))) := by
          show _ = _
          rw [← hb5, ← hb4.out, ← hb3.out, ← hb2.out, ← hb1.out]
          by_cases h1 : n + 1 ≤ 500 <;> by_cases h2 : d ≤ 14 <;> simp [h1, h2, Int.not_lt.2, Int.not_le.1] <;> (try omega) <;> simp [Bool.or_assoc]
        clear hB5 hS4 hk4 hk5 hk6
        cases b5
        · have h3 : Hid ((decide (n + 1 ≤ 500) && decide (d ≤ 14) && (true && (c3 && c4 && c5))) = true) := tr_of hres.out
          have h4 : n + 1 ≤ 500 ∧ d ≤ 14 := by have := h3.out; simp only [Bool.and_eq_true, decide_eq_true_eq] at this; exact this.1
          have hcall := Lib.hid (hexp.out wc dp1 hend.out hS5 h4.1 h4.2)
          clear h4
          go_wp2_with fail
          refine hcall.out.mono ?_
          rintro r w9 ⟨rfl, hk9, hR⟩
          go_wp2_with fail
          go_end0
          rw [hc3.out, hc4.out, hc5.out, h3.out, Bool.true_and]
          exact ⟨rfl, hend.out.trans hk9, hR⟩
        · have h3 : Hid ((decide (n + 1 ≤ 500) && decide (d ≤ 14) && (true && (c3 && c4 && c5))) = false) := fl_of hres.out
          have hcall := Lib.hid (hwr.out wc _ _ hS5)
          go_wp2_with fail
          refine hcall.out.mono ?_
          rintro r w9 ⟨rfl, rfl⟩
          go_wp2_with fail
          go_end0
          rw [hc3.out, hc4.out, hc5.out, h3.out, Bool.false_and]
          exact ⟨rfl, hend.out, _, _, hS5, fun h => by cases h⟩
set_option maxRecDepth 100000 in
set_option maxHeartbeats 4000000 in
theorem sz_1_d (m : Int) (h0 : 0 ≤ m) (h1 : m ≤ 2147483647) (s f : ByteArray) (q : Option Addr) (len cap : Nat) (g : Nat) (n dp d : Int) (w : World) (hs : s.size ≤ 140737488355328) (hf : f.size ≤ 140737488355328) (hS : Sz w g n dp false)
    (hn0 : 0 ≤ n) (hn5 : n ≤ 500) (hd0 : 0 ≤ d) (hd1 : d ≤ 15) (ok : Bool) (n' : Int)
    (hexp : Hid (∀ w2 dp2, Kp [g] w w2 → Sz w2 g (n + 1) dp2 false → n + 1 ≤ 500 → d ≤ 14 → Calls Tryz.prog 35 #[.pointer (some ⟨g, 0, none⟩), .slice q len cap, .int .i64 (d + 1)] w2 (SzRes g ok n' w2)))
    (hwr : Hid (∀ w2 n2 dp2, Sz w2 g n2 dp2 true → Calls Tryz.prog 35 #[.pointer (some ⟨g, 0, none⟩), .slice q len cap, .int .i64 (d + 1)] w2 (fun r w' => r = .returned (.tuple #[]) ∧ w' = w2))) :
    Calls Tryz.prog 16 #[.pointer (some ⟨g, 0, none⟩), .agg #[.int .i64 1, .int .i64 3, .int .i64 m, .string s, .string f, .slice q len cap], .int .i64 d] w
      (SzRes g (decide (n + 1 ≤ 500) && decide (d ≤ 14) && (true && (((len : Int) == 0) && emB s && emB f)) && ok) n' w) := by
  skip
  try obtain ⟨g4a, g4b, g4c⟩ := g4
  have hg := Blk.lt hS
  have hB := Blk.new w 24 #[.int .i64 1, .int .i64 3, .int .i64 m, .string s, .string f, .slice q len cap]
  have hS1 := Lib.hid (hS.cells (.cells #[.int .i64 1, .int .i64 3, .int .i64 m, .string s, .string f, .slice q len cap] 24))
  have hc2 := Blk.cell hS 2 (v := .bool false) rfl
  replace hS := Lib.hid hS
  replace hB := Lib.hid hB
  go_enter Tryz.func16, Tryz.ntmps16
  go_wp2_with fail
  refine (node_c g n dp d _ hS1.out hn0 (by omega)).mono ?_
  rintro r w2 ⟨rfl, hS2, hk2⟩
  have hne : w.heap.size ∉ [g] := by simp; omega
  have hB2 := hB.out.kp hk2 hne
  have e0 := hB2.cell 0 (v := .int .i64 1) rfl
  have e1 := hB2.cell 1 (v := .int .i64 3) rfl
  have e2 := hB2.cell 2 (v := .int .i64 m) rfl
  have e3 := hB2.cell 3 (v := .string s) rfl
  have e4 := hB2.cell 4 (v := .string f) rfl
  have e5 := hB2.cell 5 (v := .slice q len cap) rfl
  obtain ⟨b1, hb1⟩ : ∃ b, (decide (500 < n + 1) || decide (14 < d)) = b := ⟨_, rfl⟩
  obtain ⟨dp1, hdp1⟩ : ∃ x, max dp d = x := ⟨_, rfl⟩
  rw [hb1, hdp1] at hS2
  replace hS2 := Lib.hid hS2
  replace hB2 := Lib.hid hB2
  replace hb1 := Lib.hid hb1
  replace hk2 := Lib.hid hk2
  replace hne := Lib.hid hne
  clear hdp1 hc2
  obtain ⟨c3, hc3⟩ : ∃ c : Bool, ((len : Int) == 0) = c := ⟨_, rfl⟩
  obtain ⟨c4, hc4⟩ : ∃ c : Bool, emB s = c := ⟨_, rfl⟩
  obtain ⟨c5, hc5⟩ : ∃ c : Bool, emB f = c := ⟨_, rfl⟩
  replace hc3 := Lib.hid hc3
  replace hc4 := Lib.hid hc4
  replace hc5 := Lib.hid hc5
  go_upto_region 19 with (go_at_call 33; refine (right_c g _ _ _ _ _ hS2.out).mono ?_; rintro r w2b ⟨rfl, hS2b, hk2b⟩)
  have hk3a := Lib.hid (hk2.out.trans hk2b)
  have hB2b := hB2.out.kp hk2b hne.out
  clear e0 e1 e2 e3 e4 e5 hS2 hk2
  obtain ⟨w2, hw2⟩ : ∃ x, w2b = x := ⟨_, rfl⟩
  subst hw2
  have e0 := hB2b.cell 0 (v := .int .i64 1) rfl
  have e1 := hB2b.cell 1 (v := .int .i64 3) rfl
  have e2 := hB2b.cell 2 (v := .int .i64 m) rfl
  have e3 := hB2b.cell 3 (v := .string s) rfl
  have e4 := hB2b.cell 4 (v := .string f) rfl
  have e5 := hB2b.cell 5 (v := .slice q len cap) rfl
  replace hS2b := sz_to (c := true) hS2b (by first | rfl | (simp; omega))
  obtain ⟨b2, hb2⟩ : ∃ b, (b1 || !true) = b := ⟨_, rfl⟩
  rw [hb2] at hS2b
  replace hb2 := Lib.hid hb2
  replace hS2b := Lib.hid hS2b
  replace hB2b := Lib.hid hB2b
  go_cut [1] (fun _ wx => Hid (Sz wx g (n + 1) dp1 (b2 || !c3)) ∧ Hid (Kp [g] w2b wx))
  case first =>
    go_wp2_with (go_at_call 33; refine (right_c g _ _ _ _ _ hS2b.out).mono ?_; rintro r w3 ⟨rfl, hS3, hk3⟩)
    all_goals
      go_meet
      case rel => exact ⟨sz_to hS3 (hc3.out.symm.trans (by first | (simp [*]; done) | (simp [*]; omega))), hk3⟩
  case rest =>
    obtain ⟨hS3, hk3⟩ := hcut
    have hB3 := hB2b.out.kp hk3.out hne.out
    clear e0 e1 e2 e3 e4 e5
    have e3 := hB3.cell 3 (v := .string s) rfl
    have e4 := hB3.cell 4 (v := .string f) rfl
    have e5 := hB3.cell 5 (v := .slice q len cap) rfl
    obtain ⟨b3, hb3⟩ : ∃ b, (b2 || !c3) = b := ⟨_, rfl⟩
    rw [hb3] at hS3
    replace hb3 := Lib.hid hb3
    replace hB3 := Lib.hid hB3
    obtain ⟨w3, hw3⟩ : ∃ x, wc = x := ⟨_, rfl⟩
    subst hw3
    go_upto_region 20 with fail
    go_cut [1] (fun _ wx => Hid (Sz wx g (n + 1) dp1 (b3 || !c4)) ∧ Hid (Kp [g] wc wx))
    case first =>
      go_wp2_with (first | (go_at_call 34; refine (rname_c _ _ hs).mono ?_; rintro r w4 ⟨rfl, hkn⟩; rw [hc4.out]) | (go_at_call 33; refine (right_c g _ _ _ _ _ (by first | exact hS3.out | exact hS3.out.kp hkn)).mono ?_; rintro r w5 ⟨rfl, hS5, hk5⟩))
      all_goals
        go_meet
        case rel => exact ⟨sz_to hS5 (first_to hc4.out (by first | (left; simp [*]; done) | (right; simp [emB, *]; done))), by first | exact hkn.any.trans hk5 | exact hk5⟩
    case rest =>
      obtain ⟨hS4, hk4⟩ := hcut
      have hB4 := hB3.out.kp hk4.out hne.out
      clear e3 e4 e5
      have e4 := hB4.cell 4 (v := .string f) rfl
      have e5 := hB4.cell 5 (v := .slice q len cap) rfl
      obtain ⟨b4, hb4⟩ : ∃ b, (b3 || !c4) = b := ⟨_, rfl⟩
      rw [hb4] at hS4
      replace hb4 := Lib.hid hb4
      replace hB4 := Lib.hid hB4
      replace hk4 := Lib.hid (hk3.out.trans hk4.out)
      clear hS3 hk3
      obtain ⟨w4, hw4⟩ : ∃ x, wc = x := ⟨_, rfl⟩
      go_upto_region 21 with fail
      go_cut [1] (fun _ wx => Hid (Sz wx g (n + 1) dp1 (b4 || !c5)) ∧ Hid (Kp [g] w4 wx))
      case first =>
        subst hw4
        go_wp2_with (first | (go_at_call 34; refine (rname_c _ _ hf).mono ?_; rintro r w4 ⟨rfl, hkn⟩; rw [hc5.out]) | (go_at_call 33; refine (right_c g _ _ _ _ _ (by first | exact hS4.out | exact hS4.out.kp hkn)).mono ?_; rintro r w5 ⟨rfl, hS5, hk5⟩))
        all_goals
          go_meet
          case rel => exact ⟨sz_to hS5 (first_to hc5.out (by first | (left; simp [*]; done) | (right; simp [emB, *]; done))), by first | exact hkn.any.trans hk5 | exact hk5⟩
      case rest =>
        obtain ⟨hS5, hk5⟩ := hcut
        subst hw4
        have hB5 := hB4.out.kp hk5.out hne.out
        clear e4 e5
        have e5 := hB5.cell 5 (v := .slice q len cap) rfl
        have hk6 := Lib.hid (hk4.out.trans hk5.out)
        have hend := Lib.hid (sz_end hk3a.out hk6.out)
        obtain ⟨b5, hb5⟩ : ∃ b, (b4 || !c5) = b := ⟨_, rfl⟩
        rw [hb5] at hS5
        have hres : Hid (b5 = (!(decide (n + 1 ≤ 500) && decide (d ≤ 14) && (true && (c3 && c4 && c5))))) := by
          show _ = _
          rw [← hb5, ← hb4.out, ← hb3.out, ← hb2.out, ← hb1.out]
          by_cases h1 : n + 1 ≤ 500 <;> by_cases h2 : d ≤ 14 <;> simp [h1, h2, Int.not_lt.2, Int.not_le.1] <;> (try omega) <;> simp [Bool.or_assoc]
        clear hB5 hS4 hk4 hk5 hk6
        cases b5
        · have h3 : Hid ((decide (n + 1 ≤ 500) && decide (d ≤ 14) && (true && (c3 && c4 && c5))) = true) := tr_of hres.out
          have h4 : n + 1 ≤ 500 ∧ d ≤ 14 := by have := h3.out; simp only [Bool.and_eq_true, decide_eq_true_eq] at this; exact this.1
          have hcall := Lib.hid (hexp.out wc dp1 hend.out hS5 h4.1 h4.2)
          clear h4
          go_wp2_with fail
          refine hcall.out.mono ?_
          rintro r w9 ⟨rfl, hk9, hR⟩
          go_wp2_with fail
          go_end0
          rw [hc3.out, hc4.out, hc5.out, h3.out, Bool.true_and]
          exact ⟨rfl, hend.out.trans hk9, hR⟩
        · have h3 : Hid ((decide (n + 1 ≤ 500) && decide (d ≤ 14) && (true && (c3 && c4 && c5))) = false) := fl_of hres.out
          have hcall := Lib.hid (hwr.out wc _ _ hS5)
          go_wp2_with fail
          refine hcall.out.mono ?_
          rintro r w9 ⟨rfl, rfl⟩
          go_wp2_with fail
          go_end0
          rw [hc3.out, hc4.out, hc5.out, h3.out, Bool.false_and]
          exact ⟨rfl, hend.out, _, _, hS5, fun h => by cases h⟩
set_option maxRecDepth 100000 in
set_option maxHeartbeats 4000000 in
theorem sz_1_e (m : Int) (h0 : 0 ≤ m) (h1 : m ≤ 1) (s f : ByteArray) (q : Option Addr) (len cap : Nat) (g : Nat) (n dp d : Int) (w : World) (hs : s.size ≤ 140737488355328) (hf : f.size ≤ 140737488355328) (hS : Sz w g n dp false)
    (hn0 : 0 ≤ n) (hn5 : n ≤ 500) (hd0 : 0 ≤ d) (hd1 : d ≤ 15) (ok : Bool) (n' : Int)
    (hexp : Hid (∀ w2 dp2, Kp [g] w w2 → Sz w2 g (n + 1) dp2 false → n + 1 ≤ 500 → d ≤ 14 → Calls Tryz.prog 35 #[.pointer (some ⟨g, 0, none⟩), .slice q len cap, .int .i64 (d + 1)] w2 (SzRes g ok n' w2)))
    (hwr : Hid (∀ w2 n2 dp2, Sz w2 g n2 dp2 true → Calls Tryz.prog 35 #[.pointer (some ⟨g, 0, none⟩), .slice q len cap, .int .i64 (d + 1)] w2 (fun r w' => r = .returned (.tuple #[]) ∧ w' = w2))) :
    Calls Tryz.prog 16 #[.pointer (some ⟨g, 0, none⟩), .agg #[.int .i64 1, .int .i64 1, .int .i64 m, .string s, .string f, .slice q len cap], .int .i64 d] w
      (SzRes g (decide (n + 1 ≤ 500) && decide (d ≤ 14) && (true && (((len : Int) == 0) && emB s && emB f)) && ok) n' w) := by
  have h1b : m ≤ 2147483647 := by omega
  try obtain ⟨g4a, g4b, g4c⟩ := g4
  have hg := Blk.lt hS
  have hB := Blk.new w 24 #[.int .i64 1, .int .i64 1, .int .i64 m, .string s, .string f, .slice q len cap]
  have hS1 := Lib.hid (hS.cells (.cells #[.int .i64 1, .int .i64 1, .int .i64 m, .string s, .string f, .slice q len cap] 24))
  have hc2 := Blk.cell hS 2 (v := .bool false) rfl
  replace hS := Lib.hid hS
  replace hB := Lib.hid hB
  go_enter Tryz.func16, Tryz.ntmps16
  go_wp2_with fail
  refine (node_c g n dp d _ hS1.out hn0 (by omega)).mono ?_
  rintro r w2 ⟨rfl, hS2, hk2⟩
  have hne : w.heap.size ∉ [g] := by simp; omega
  have hB2 := hB.out.kp hk2 hne
  have e0 := hB2.cell 0 (v := .int .i64 1) rfl
  have e1 := hB2.cell 1 (v := .int .i64 1) rfl
  have e2 := hB2.cell 2 (v := .int .i64 m) rfl
  have e3 := hB2.cell 3 (v := .string s) rfl
  have e4 := hB2.cell 4 (v := .string f) rfl
  have e5 := hB2.cell 5 (v := .slice q len cap) rfl
  obtain ⟨b1, hb1⟩ : ∃ b, (decide (500 < n + 1) || decide (14 < d)) = b := ⟨_, rfl⟩
  obtain ⟨dp1, hdp1⟩ : ∃ x, max dp d = x := ⟨_, rfl⟩
  rw [hb1, hdp1] at hS2
  replace hS2 := Lib.hid hS2
  replace hB2 := Lib.hid hB2
  replace hb1 := Lib.hid hb1
  replace hk2 := Lib.hid hk2
  replace hne := Lib.hid hne
  clear hdp1 hc2
  obtain ⟨c3, hc3⟩ : ∃ c : Bool, ((len : Int) == 0) = c := ⟨_, rfl⟩
  obtain ⟨c4, hc4⟩ : ∃ c : Bool, emB s = c := ⟨_, rfl⟩
  obtain ⟨c5, hc5⟩ : ∃ c : Bool, emB f = c := ⟨_, rfl⟩
  replace hc3 := Lib.hid hc3
  replace hc4 := Lib.hid hc4
  replace hc5 := Lib.hid hc5
  go_upto_region 19 with (go_at_call 33; refine (right_c g _ _ _ _ _ hS2.out).mono ?_; rintro r w2b ⟨rfl, hS2b, hk2b⟩)
  have hk3a := Lib.hid (hk2.out.trans hk2b)
  have hB2b := hB2.out.kp hk2b hne.out
  clear e0 e1 e2 e3 e4 e5 hS2 hk2
  obtain ⟨w2, hw2⟩ : ∃ x, w2b = x := ⟨_, rfl⟩
  subst hw2
  have e0 := hB2b.cell 0 (v := .int .i64 1) rfl
  have e1 := hB2b.cell 1 (v := .int .i64 1) rfl
  have e2 := hB2b.cell 2 (v := .int .i64 m) rfl
  have e3 := hB2b.cell 3 (v := .string s) rfl
  have e4 := hB2b.cell 4 (v := .string f) rfl
  have e5 := hB2b.cell 5 (v := .slice q len cap) rfl
  replace hS2b := sz_to (c := true) hS2b (by first | rfl | (simp; omega))
  obtain ⟨b2, hb2⟩ : ∃ b, (b1 || !true) = b := ⟨_, rfl⟩
  rw [hb2] at hS2b
  replace hb2 := Lib.hid hb2
  replace hS2b := Lib.hid hS2b
  replace hB2b := Lib.hid hB2b
  go_cut [1] (fun _ wx => Hid (Sz wx g (n + 1) dp1 (b2 || !c3)) ∧ Hid (Kp [g] w2b wx))
  case first =>
    go_wp2_with (go_at_call 33; refine (right_c g _ _ _ _ _ hS2b.out).mono ?_; rintro r w3 ⟨rfl, hS3, hk3⟩)
    all_goals
      go_meet
      case rel => exact ⟨sz_to hS3 (hc3.out.symm.trans (by first | (simp [*]; done) | (simp [*]; omega))), hk3⟩
  case rest =>
    obtain ⟨hS3, hk3⟩ := hcut
    have hB3 := hB2b.out.kp hk3.out hne.out
    clear e0 e1 e2 e3 e4 e5
    have e3 := hB3.cell 3 (v := .string s) rfl
    have e4 := hB3.cell 4 (v := .string f) rfl
    have e5 := hB3.cell 5 (v := .slice q len cap) rfl
    obtain ⟨b3, hb3⟩ : ∃ b, (b2 || !c3) = b := ⟨_, rfl⟩
    rw [hb3] at hS3
    replace hb3 := Lib.hid hb3
    replace hB3 := Lib.hid hB3
    obtain ⟨w3, hw3⟩ : ∃ x, wc = x := ⟨_, rfl⟩
    subst hw3
    go_upto_region 20 with fail
    go_cut [1] (fun _ wx => Hid (Sz wx g (n + 1) dp1 (b3 || !c4)) ∧ Hid (Kp [g] wc wx))
    case first =>
      go_wp2_with (first | (go_at_call 34; refine (rname_c _ _ hs).mono ?_; rintro r w4 ⟨rfl, hkn⟩; rw [hc4.out]) | (go_at_call 33; refine (right_c g _ _ _ _ _ (by first | exact hS3.out | exact hS3.out.kp hkn)).mono ?_; rintro r w5 ⟨rfl, hS5, hk5⟩))
      all_goals
        go_meet
        case rel => exact ⟨sz_to hS5 (first_to hc4.out (by first | (left; simp [*]; done) | (right; simp [emB, *]; done))), by first | exact hkn.any.trans hk5 | exact hk5⟩
    case rest =>
      obtain ⟨hS4, hk4⟩ := hcut
      have hB4 := hB3.out.kp hk4.out hne.out
      clear e3 e4 e5
      have e4 := hB4.cell 4 (v := .string f) rfl
      have e5 := hB4.cell 5 (v := .slice q len cap) rfl
      obtain ⟨b4, hb4⟩ : ∃ b, (b3 || !c4) = b := ⟨_, rfl⟩
      rw [hb4] at hS4
      replace hb4 := Lib.hid hb4
      replace hB4 := Lib.hid hB4
      replace hk4 := Lib.hid (hk3.out.trans hk4.out)
      clear hS3 hk3
      obtain ⟨w4, hw4⟩ : ∃ x, wc = x := ⟨_, rfl⟩
      go_upto_region 21 with fail
      go_cut [1] (fun _ wx => Hid (Sz wx g (n + 1) dp1 (b4 || !c5)) ∧ Hid (Kp [g] w4 wx))
      case first =>
        subst hw4
        go_wp2_with (first | (go_at_call 34; refine (rname_c _ _ hf).mono ?_; rintro r w4 ⟨rfl, hkn⟩; rw [hc5.out]) | (go_at_call 33; refine (right_c g _ _ _ _ _ (by first | exact hS4.out | exact hS4.out.kp hkn)).mono ?_; rintro r w5 ⟨rfl, hS5, hk5⟩))
        all_goals
          go_meet
          case rel => exact ⟨sz_to hS5 (first_to hc5.out (by first | (left; simp [*]; done) | (right; simp [emB, *]; done))), by first | exact hkn.any.trans hk5 | exact hk5⟩
      case rest =>
        obtain ⟨hS5, hk5⟩ := hcut
        subst hw4
        have hB5 := hB4.out.kp hk5.out hne.out
        clear e4 e5
        have e5 := hB5.cell 5 (v := .slice q len cap) rfl
        have hk6 := Lib.hid (hk4.out.trans hk5.out)
        have hend := Lib.hid (sz_end hk3a.out hk6.out)
        obtain ⟨b5, hb5⟩ : ∃ b, (b4 || !c5) = b := ⟨_, rfl⟩
        rw [hb5] at hS5
        have hres : Hid (b5 = (!(decide (n + 1 ≤ 500) && decide (d ≤ 14) && (true && (c3 && c4 && c5))))) := by
          show _ = _
          rw [← hb5, ← hb4.out, ← hb3.out, ← hb2.out, ← hb1.out]
          by_cases h1 : n + 1 ≤ 500 <;> by_cases h2 : d ≤ 14 <;> simp [h1, h2, Int.not_lt.2, Int.not_le.1] <;> (try omega) <;> simp [Bool.or_assoc]
        clear hB5 hS4 hk4 hk5 hk6
        cases b5
        · have h3 : Hid ((decide (n + 1 ≤ 500) && decide (d ≤ 14) && (true && (c3 && c4 && c5))) = true) := tr_of hres.out
          have h4 : n + 1 ≤ 500 ∧ d ≤ 14 := by have := h3.out; simp only [Bool.and_eq_true, decide_eq_true_eq] at this; exact this.1
          have hcall := Lib.hid (hexp.out wc dp1 hend.out hS5 h4.1 h4.2)
          clear h4
          go_wp2_with fail
          refine hcall.out.mono ?_
          rintro r w9 ⟨rfl, hk9, hR⟩
          go_wp2_with fail
          go_end0
          rw [hc3.out, hc4.out, hc5.out, h3.out, Bool.true_and]
          exact ⟨rfl, hend.out.trans hk9, hR⟩
        · have h3 : Hid ((decide (n + 1 ≤ 500) && decide (d ≤ 14) && (true && (c3 && c4 && c5))) = false) := fl_of hres.out
          have hcall := Lib.hid (hwr.out wc _ _ hS5)
          go_wp2_with fail
          refine hcall.out.mono ?_
          rintro r w9 ⟨rfl, rfl⟩
          go_wp2_with fail
          go_end0
          rw [hc3.out, hc4.out, hc5.out, h3.out, Bool.false_and]
          exact ⟨rfl, hend.out, _, _, hS5, fun h => by cases h⟩
set_option maxRecDepth 100000 in
set_option maxHeartbeats 4000000 in
theorem sz_1_f (m : Int) (h0 : 0 ≤ m) (h1 : 1 < m) (h2 : m ≤ 2147483647) (s f : ByteArray) (q : Option Addr) (len cap : Nat) (g : Nat) (n dp d : Int) (w : World) (hs : s.size ≤ 140737488355328) (hf : f.size ≤ 140737488355328) (hS : Sz w g n dp false)
    (hn0 : 0 ≤ n) (hn5 : n ≤ 500) (hd0 : 0 ≤ d) (hd1 : d ≤ 15) (ok : Bool) (n' : Int)
    (hexp : Hid (∀ w2 dp2, Kp [g] w w2 → Sz w2 g (n + 1) dp2 false → n + 1 ≤ 500 → d ≤ 14 → Calls Tryz.prog 35 #[.pointer (some ⟨g, 0, none⟩), .slice q len cap, .int .i64 (d + 1)] w2 (SzRes g ok n' w2)))
    (hwr : Hid (∀ w2 n2 dp2, Sz w2 g n2 dp2 true → Calls Tryz.prog 35 #[.pointer (some ⟨g, 0, none⟩), .slice q len cap, .int .i64 (d + 1)] w2 (fun r w' => r = .returned (.tuple #[]) ∧ w' = w2))) :
    Calls Tryz.prog 16 #[.pointer (some ⟨g, 0, none⟩), .agg #[.int .i64 1, .int .i64 1, .int .i64 m, .string s, .string f, .slice q len cap], .int .i64 d] w
      (SzRes g (decide (n + 1 ≤ 500) && decide (d ≤ 14) && (false && (((len : Int) == 0) && emB s && emB f)) && ok) n' w) := by
  have h1b : ¬ m ≤ 1 := by omega
  try obtain ⟨g4a, g4b, g4c⟩ := g4
  have hg := Blk.lt hS
  have hB := Blk.new w 24 #[.int .i64 1, .int .i64 1, .int .i64 m, .string s, .string f, .slice q len cap]
  have hS1 := Lib.hid (hS.cells (.cells #[.int .i64 1, .int .i64 1, .int .i64 m, .string s, .string f, .slice q len cap] 24))
  have hc2 := Blk.cell hS 2 (v := .bool false) rfl
  replace hS := Lib.hid hS
  replace hB := Lib.hid hB
  go_enter Tryz.func16, Tryz.ntmps16
  go_wp2_with fail
  refine (node_c g n dp d _ hS1.out hn0 (by omega)).mono ?_
  rintro r w2 ⟨rfl, hS2, hk2⟩
  have hne : w.heap.size ∉ [g] := by simp; omega
  have hB2 := hB.out.kp hk2 hne
  have e0 := hB2.cell 0 (v := .int .i64 1) rfl
  have e1 := hB2.cell 1 (v := .int .i64 1) rfl
  have e2 := hB2.cell 2 (v := .int .i64 m) rfl
  have e3 := hB2.cell 3 (v := .string s) rfl
  have e4 := hB2.cell 4 (v := .string f) rfl
  have e5 := hB2.cell 5 (v := .slice q len cap) rfl
  obtain ⟨b1, hb1⟩ : ∃ b, (decide (500 < n + 1) || decide (14 < d)) = b := ⟨_, rfl⟩
  obtain ⟨dp1, hdp1⟩ : ∃ x, max dp d = x := ⟨_, rfl⟩
  rw [hb1, hdp1] at hS2
  replace hS2 := Lib.hid hS2
  replace hB2 := Lib.hid hB2
  replace hb1 := Lib.hid hb1
  replace hk2 := Lib.hid hk2
  replace hne := Lib.hid hne
  clear hdp1 hc2
  obtain ⟨c3, hc3⟩ : ∃ c : Bool, ((len : Int) == 0) = c := ⟨_, rfl⟩
  obtain ⟨c4, hc4⟩ : ∃ c : Bool, emB s = c := ⟨_, rfl⟩
  obtain ⟨c5, hc5⟩ : ∃ c : Bool, emB f = c := ⟨_, rfl⟩
  replace hc3 := Lib.hid hc3
  replace hc4 := Lib.hid hc4
  replace hc5 := Lib.hid hc5
  go_upto_region 19 with (go_at_call 33; refine (right_c g _ _ _ _ _ hS2.out).mono ?_; rintro r w2b ⟨rfl, hS2b, hk2b⟩)
  have hk3a := Lib.hid (hk2.out.trans hk2b)
  have hB2b := hB2.out.kp hk2b hne.out
  clear e0 e1 e2 e3 e4 e5 hS2 hk2
  obtain ⟨w2, hw2⟩ : ∃ x, w2b = x := ⟨_, rfl⟩
  subst hw2
  have e0 := hB2b.cell 0 (v := .int .i64 1) rfl
  have e1 := hB2b.cell 1 (v := .int .i64 1) rfl
  have e2 := hB2b.cell 2 (v := .int .i64 m) rfl
  have e3 := hB2b.cell 3 (v := .string s) rfl
  have e4 := hB2b.cell 4 (v := .string f) rfl
  have e5 := hB2b.cell 5 (v := .slice q len cap) rfl
  replace hS2b := sz_to (c := false) hS2b (by first | rfl | (simp; omega))
  obtain ⟨b2, hb2⟩ : ∃ b, (b1 || !false) = b := ⟨_, rfl⟩
  rw [hb2] at hS2b
  replace hb2 := Lib.hid hb2
  replace hS2b := Lib.hid hS2b
  replace hB2b := Lib.hid hB2b
  go_cut [1] (fun _ wx => Hid (Sz wx g (n + 1) dp1 (b2 || !c3)) ∧ Hid (Kp [g] w2b wx))
  case first =>
    go_wp2_with (go_at_call 33; refine (right_c g _ _ _ _ _ hS2b.out).mono ?_; rintro r w3 ⟨rfl, hS3, hk3⟩)
    all_goals
      go_meet
      case rel => exact ⟨sz_to hS3 (hc3.out.symm.trans (by first | (simp [*]; done) | (simp [*]; omega))), hk3⟩
  case rest =>
    obtain ⟨hS3, hk3⟩ := hcut
    have hB3 := hB2b.out.kp hk3.out hne.out
    clear e0 e1 e2 e3 e4 e5
    have e3 := hB3.cell 3 (v := .string s) rfl
    have e4 := hB3.cell 4 (v := .string f) rfl
    have e5 := hB3.cell 5 (v := .slice q len cap) rfl
    obtain ⟨b3, hb3⟩ : ∃ b, (b2 || !c3) = b := ⟨_, rfl⟩
    rw [hb3] at hS3
    replace hb3 := Lib.hid hb3
    replace hB3 := Lib.hid hB3
    obtain ⟨w3, hw3⟩ : ∃ x, wc = x := ⟨_, rfl⟩
    subst hw3
    go_upto_region 20 with fail
    go_cut [1] (fun _ wx => Hid (Sz wx g (n + 1) dp1 (b3 || !c4)) ∧ Hid (Kp [g] wc wx))
    case first =>
      go_wp2_with (first | (go_at_call 34; refine (rname_c _ _ hs).mono ?_; rintro r w4 ⟨rfl, hkn⟩; rw [hc4.out]) | (go_at_call 33; refine (right_c g _ _ _ _ _ (by first | exact hS3.out | exact hS3.out.kp hkn)).mono ?_; rintro r w5 ⟨rfl, hS5, hk5⟩))
      all_goals
        go_meet
        case rel => exact ⟨sz_to hS5 (first_to hc4.out (by first | (left; simp [*]; done) | (right; simp [emB, *]; done))), by first | exact hkn.any.trans hk5 | exact hk5⟩
    case rest =>
      obtain ⟨hS4, hk4⟩ := hcut
      have hB4 := hB3.out.kp hk4.out hne.out
      clear e3 e4 e5
      have e4 := hB4.cell 4 (v := .string f) rfl
      have e5 := hB4.cell 5 (v := .slice q len cap) rfl
      obtain ⟨b4, hb4⟩ : ∃ b, (b3 || !c4) = b := ⟨_, rfl⟩
      rw [hb4] at hS4
      replace hb4 := Lib.hid hb4
      replace hB4 := Lib.hid hB4
      replace hk4 := Lib.hid (hk3.out.trans hk4.out)
      clear hS3 hk3
      obtain ⟨w4, hw4⟩ : ∃ x, wc = x := ⟨_, rfl⟩
      go_upto_region 21 with fail
      go_cut [1] (fun _ wx => Hid (Sz wx g (n + 1) dp1 (b4 || !c5)) ∧ Hid (Kp [g] w4 wx))
      case first =>
        subst hw4
        go_wp2_with (first | (go_at_call 34; refine (rname_c _ _ hf).mono ?_; rintro r w4 ⟨rfl, hkn⟩; rw [hc5.out]) | (go_at_call 33; refine (right_c g _ _ _ _ _ (by first | exact hS4.out | exact hS4.out.kp hkn)).mono ?_; rintro r w5 ⟨rfl, hS5, hk5⟩))
        all_goals
          go_meet
          case rel => exact ⟨sz_to hS5 (first_to hc5.out (by first | (left; simp [*]; done) | (right; simp [emB, *]; done))), by first | exact hkn.any.trans hk5 | exact hk5⟩
      case rest =>
        obtain ⟨hS5, hk5⟩ := hcut
        subst hw4
        have hB5 := hB4.out.kp hk5.out hne.out
        clear e4 e5
        have e5 := hB5.cell 5 (v := .slice q len cap) rfl
        have hk6 := Lib.hid (hk4.out.trans hk5.out)
        have hend := Lib.hid (sz_end hk3a.out hk6.out)
        obtain ⟨b5, hb5⟩ : ∃ b, (b4 || !c5) = b := ⟨_, rfl⟩
        rw [hb5] at hS5
        have hres : Hid (b5 = (!(decide (n + 1 ≤ 500) && decide (d ≤ 14) && (false && (c3 && c4 && c5))))) := by
          show _ = _
          rw [← hb5, ← hb4.out, ← hb3.out, ← hb2.out, ← hb1.out]
          by_cases h1 : n + 1 ≤ 500 <;> by_cases h2 : d ≤ 14 <;> simp [h1, h2, Int.not_lt.2, Int.not_le.1] <;> (try omega) <;> simp [Bool.or_assoc]
        clear hB5 hS4 hk4 hk5 hk6
        cases b5
        · have h3 : Hid ((decide (n + 1 ≤ 500) && decide (d ≤ 14) && (false && (c3 && c4 && c5))) = true) := tr_of hres.out
          have h4 : n + 1 ≤ 500 ∧ d ≤ 14 := by have := h3.out; simp only [Bool.and_eq_true, decide_eq_true_eq] at this; exact this.1
          have hcall := Lib.hid (hexp.out wc dp1 hend.out hS5 h4.1 h4.2)
          clear h4
          go_wp2_with fail
          refine hcall.out.mono ?_
          rintro r w9 ⟨rfl, hk9, hR⟩
          go_wp2_with fail
          go_end0
          rw [hc3.out, hc4.out, hc5.out, h3.out, Bool.true_and]
          exact ⟨rfl, hend.out.trans hk9, hR⟩
        · have h3 : Hid ((decide (n + 1 ≤ 500) && decide (d ≤ 14) && (false && (c3 && c4 && c5))) = false) := fl_of hres.out
          have hcall := Lib.hid (hwr.out wc _ _ hS5)
          go_wp2_with fail
          refine hcall.out.mono ?_
          rintro r w9 ⟨rfl, rfl⟩
          go_wp2_with fail
          go_end0
          rw [hc3.out, hc4.out, hc5.out, h3.out, Bool.false_and]
          exact ⟨rfl, hend.out, _, _, hS5, fun h => by cases h⟩
set_option maxRecDepth 100000 in
set_option maxHeartbeats 4000000 in
theorem sz_1_g (kind m : Int) (h4 : ¬ kind = 1) (h5 : ¬ kind = 2) (h6 : ¬ kind = 3) (h0 : 0 ≤ m) (h1 : m ≤ 2147483647) (s f : ByteArray) (q : Option Addr) (len cap : Nat) (g : Nat) (n dp d : Int) (w : World) (hs : s.size ≤ 140737488355328) (hf : f.size ≤ 140737488355328) (hS : Sz w g n dp false)
    (hn0 : 0 ≤ n) (hn5 : n ≤ 500) (hd0 : 0 ≤ d) (hd1 : d ≤ 15) (ok : Bool) (n' : Int)
    (hexp : Hid (∀ w2 dp2, Kp [g] w w2 → Sz w2 g (n + 1) dp2 false → n + 1 ≤ 500 → d ≤ 14 → Calls Tryz.prog 35 #[.pointer (some ⟨g, 0, none⟩), .slice q len cap, .int .i64 (d + 1)] w2 (SzRes g ok n' w2)))
    (hwr : Hid (∀ w2 n2 dp2, Sz w2 g n2 dp2 true → Calls Tryz.prog 35 #[.pointer (some ⟨g, 0, none⟩), .slice q len cap, .int .i64 (d + 1)] w2 (fun r w' => r = .returned (.tuple #[]) ∧ w' = w2))) :
    Calls Tryz.prog 16 #[.pointer (some ⟨g, 0, none⟩), .agg #[.int .i64 1, .int .i64 kind, .int .i64 m, .string s, .string f, .slice q len cap], .int .i64 d] w
      (SzRes g (decide (n + 1 ≤ 500) && decide (d ≤ 14) && (false && (((len : Int) == 0) && emB s && emB f)) && ok) n' w) := by
  have g4 : (kind == 1) = false ∧ (kind == 2) = false ∧ (kind == 3) = false := by simp [h4, h5, h6]
  try obtain ⟨g4a, g4b, g4c⟩ := g4
  have hg := Blk.lt hS
  have hB := Blk.new w 24 #[.int .i64 1, .int .i64 kind, .int .i64 m, .string s, .string f, .slice q len cap]
  have hS1 := Lib.hid (hS.cells (.cells #[.int .i64 1, .int .i64 kind, .int .i64 m, .string s, .string f, .slice q len cap] 24))
  have hc2 := Blk.cell hS 2 (v := .bool false) rfl
  replace hS := Lib.hid hS
  replace hB := Lib.hid hB
  go_enter Tryz.func16, Tryz.ntmps16
  go_wp2_with fail
  refine (node_c g n dp d _ hS1.out hn0 (by omega)).mono ?_
  rintro r w2 ⟨rfl, hS2, hk2⟩
  have hne : w.heap.size ∉ [g] := by simp; omega
  have hB2 := hB.out.kp hk2 hne
  have e0 := hB2.cell 0 (v := .int .i64 1) rfl
  have e1 := hB2.cell 1 (v := .int .i64 kind) rfl
  have e2 := hB2.cell 2 (v := .int .i64 m) rfl
  have e3 := hB2.cell 3 (v := .string s) rfl
  have e4 := hB2.cell 4 (v := .string f) rfl
  have e5 := hB2.cell 5 (v := .slice q len cap) rfl
  obtain ⟨b1, hb1⟩ : ∃ b, (decide (500 < n + 1) || decide (14 < d)) = b := ⟨_, rfl⟩
  obtain ⟨dp1, hdp1⟩ : ∃ x, max dp d = x := ⟨_, rfl⟩
  rw [hb1, hdp1] at hS2
  replace hS2 := Lib.hid hS2
  replace hB2 := Lib.hid hB2
  replace hb1 := Lib.hid hb1
  replace hk2 := Lib.hid hk2
  replace hne := Lib.hid hne
  clear hdp1 hc2
  obtain ⟨c3, hc3⟩ : ∃ c : Bool, ((len : Int) == 0) = c := ⟨_, rfl⟩
  obtain ⟨c4, hc4⟩ : ∃ c : Bool, emB s = c := ⟨_, rfl⟩
  obtain ⟨c5, hc5⟩ : ∃ c : Bool, emB f = c := ⟨_, rfl⟩
  replace hc3 := Lib.hid hc3
  replace hc4 := Lib.hid hc4
  replace hc5 := Lib.hid hc5
  go_upto_region 19 with (go_at_call 33; refine (right_c g _ _ _ _ _ hS2.out).mono ?_; rintro r w2b ⟨rfl, hS2b, hk2b⟩)
  have hk3a := Lib.hid (hk2.out.trans hk2b)
  have hB2b := hB2.out.kp hk2b hne.out
  clear e0 e1 e2 e3 e4 e5 hS2 hk2
  obtain ⟨w2, hw2⟩ : ∃ x, w2b = x := ⟨_, rfl⟩
  subst hw2
  have e0 := hB2b.cell 0 (v := .int .i64 1) rfl
  have e1 := hB2b.cell 1 (v := .int .i64 kind) rfl
  have e2 := hB2b.cell 2 (v := .int .i64 m) rfl
  have e3 := hB2b.cell 3 (v := .string s) rfl
  have e4 := hB2b.cell 4 (v := .string f) rfl
  have e5 := hB2b.cell 5 (v := .slice q len cap) rfl
  replace hS2b := sz_to (c := false) hS2b (by first | rfl | (simp; omega))
  obtain ⟨b2, hb2⟩ : ∃ b, (b1 || !false) = b := ⟨_, rfl⟩
  rw [hb2] at hS2b
  replace hb2 := Lib.hid hb2
  replace hS2b := Lib.hid hS2b
  replace hB2b := Lib.hid hB2b
  go_cut [1] (fun _ wx => Hid (Sz wx g (n + 1) dp1 (b2 || !c3)) ∧ Hid (Kp [g] w2b wx))
  case first =>
    go_wp2_with (go_at_call 33; refine (right_c g _ _ _ _ _ hS2b.out).mono ?_; rintro r w3 ⟨rfl, hS3, hk3⟩)
    all_goals
      go_meet
      case rel => exact ⟨sz_to hS3 (hc3.out.symm.trans (by first | (simp [*]; done) | (simp [*]; omega))), hk3⟩
  case rest =>
    obtain ⟨hS3, hk3⟩ := hcut
    have hB3 := hB2b.out.kp hk3.out hne.out
    clear e0 e1 e2 e3 e4 e5
    have e3 := hB3.cell 3 (v := .string s) rfl
    have e4 := hB3.cell 4 (v := .string f) rfl
    have e5 := hB3.cell 5 (v := .slice q len cap) rfl
    obtain ⟨b3, hb3⟩ : ∃ b, (b2 || !c3) = b := ⟨_, rfl⟩
    rw [hb3] at hS3
    replace hb3 := Lib.hid hb3
    replace hB3 := Lib.hid hB3
    obtain ⟨w3, hw3⟩ : ∃ x, wc = x := ⟨_, rfl⟩
    subst hw3
    go_upto_region 20 with fail
    go_cut [1] (fun _ wx => Hid (Sz wx g (n + 1) dp1 (b3 || !c4)) ∧ Hid (Kp [g] wc wx))
    case first =>
      go_wp2_with (first | (go_at_call 34; refine (rname_c _ _ hs).mono ?_; rintro r w4 ⟨rfl, hkn⟩; rw [hc4.out]) | (go_at_call 33; refine (right_c g _ _ _ _ _ (by first | exact hS3.out | exact hS3.out.kp hkn)).mono ?_; rintro r w5 ⟨rfl, hS5, hk5⟩))
      all_goals
        go_meet
        case rel => exact ⟨sz_to hS5 (first_to hc4.out (by first | (left; simp [*]; done) | (right; simp [emB, *]; done))), by first | exact hkn.any.trans hk5 | exact hk5⟩
    case rest =>
      obtain ⟨hS4, hk4⟩ := hcut
      have hB4 := hB3.out.kp hk4.out hne.out
      clear e3 e4 e5
      have e4 := hB4.cell 4 (v := .string f) rfl
      have e5 := hB4.cell 5 (v := .slice q len cap) rfl
      obtain ⟨b4, hb4⟩ : ∃ b, (b3 || !c4) = b := ⟨_, rfl⟩
      rw [hb4] at hS4
      replace hb4 := Lib.hid hb4
      replace hB4 := Lib.hid hB4
      replace hk4 := Lib.hid (hk3.out.trans hk4.out)
      clear hS3 hk3
      obtain ⟨w4, hw4⟩ : ∃ x, wc = x := ⟨_, rfl⟩
      go_upto_region 21 with fail
      go_cut [1] (fun _ wx => Hid (Sz wx g (n + 1) dp1 (b4 || !c5)) ∧ Hid (Kp [g] w4 wx))
      case first =>
        subst hw4
        go_wp2_with (first | (go_at_call 34; refine (rname_c _ _ hf).mono ?_; rintro r w4 ⟨rfl, hkn⟩; rw [hc5.out]) | (go_at_call 33; refine (right_c g _ _ _ _ _ (by first | exact hS4.out | exact hS4.out.kp hkn)).mono ?_; rintro r w5 ⟨rfl, hS5, hk5⟩))
        all_goals
          go_meet
          case rel => exact ⟨sz_to hS5 (first_to hc5.out (by first | (left; simp [*]; done) | (right; simp [emB, *]; done))), by first | exact hkn.any.trans hk5 | exact hk5⟩
      case rest =>
        obtain ⟨hS5, hk5⟩ := hcut
        subst hw4
        have hB5 := hB4.out.kp hk5.out hne.out
        clear e4 e5
        have e5 := hB5.cell 5 (v := .slice q len cap) rfl
        have hk6 := Lib.hid (hk4.out.trans hk5.out)
        have hend := Lib.hid (sz_end hk3a.out hk6.out)
        obtain ⟨b5, hb5⟩ : ∃ b, (b4 || !c5) = b := ⟨_, rfl⟩
        rw [hb5] at hS5
        have hres : Hid (b5 = (!(decide (n + 1 ≤ 500) && decide (d ≤ 14) && (false && (c3 && c4 && c5))))) := by
          show _ = _
          rw [← hb5, ← hb4.out, ← hb3.out, ← hb2.out, ← hb1.out]
          by_cases h1 : n + 1 ≤ 500 <;> by_cases h2 : d ≤ 14 <;> simp [h1, h2, Int.not_lt.2, Int.not_le.1] <;> (try omega) <;> simp [Bool.or_assoc]
        clear hB5 hS4 hk4 hk5 hk6
        cases b5
        · have h3 : Hid ((decide (n + 1 ≤ 500) && decide (d ≤ 14) && (false && (c3 && c4 && c5))) = true) := tr_of hres.out
          have h4 : n + 1 ≤ 500 ∧ d ≤ 14 := by have := h3.out; simp only [Bool.and_eq_true, decide_eq_true_eq] at this; exact this.1
          have hcall := Lib.hid (hexp.out wc dp1 hend.out hS5 h4.1 h4.2)
          clear h4
          go_wp2_with fail
          refine hcall.out.mono ?_
          rintro r w9 ⟨rfl, hk9, hR⟩
          go_wp2_with fail
          go_end0
          rw [hc3.out, hc4.out, hc5.out, h3.out, Bool.true_and]
          exact ⟨rfl, hend.out.trans hk9, hR⟩
        · have h3 : Hid ((decide (n + 1 ≤ 500) && decide (d ≤ 14) && (false && (c3 && c4 && c5))) = false) := fl_of hres.out
          have hcall := Lib.hid (hwr.out wc _ _ hS5)
          go_wp2_with fail
          refine hcall.out.mono ?_
          rintro r w9 ⟨rfl, rfl⟩
          go_wp2_with fail
          go_end0
          rw [hc3.out, hc4.out, hc5.out, h3.out, Bool.false_and]
          exact ⟨rfl, hend.out, _, _, hS5, fun h => by cases h⟩
end Go.Proofs.YtebmaclopkocgaaGreatDoor
