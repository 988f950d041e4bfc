import Derived.Test.YtgldbeacjacbcaaGreatRn1
import Derived.Test.YtgldbeacjacbcaaGreatTx5
import Derived.Deep.DeepCutAuto
import Derived.Test.YtgldbeacjacbcaaGreatTx6
import Derived.LoopTactic
set_option linter.unusedSimpArgs false
set_option linter.unusedVariables false
namespace Go.Proofs.YtgldbeacjacbcaaGreat
open Go.RowKit

/-- The reference's measure: its nodes, its depth, whether something is wrong. -/
def Sz (w : World) (g : Nat) (n d : Int) (b : Bool) : Prop := Blk w g 43 #[.int .i64 n, .int .i64 d, .bool b]
theorem Sz.kp {w w' : World} {g : Nat} {n d : Int} {b : Bool} (h : Sz w g n d b) (k : Kp [] w w') : Sz w' g n d b := Blk.kp h k (by simp)
theorem Sz.cells {w : World} {g : Nat} {n d : Int} {b : Bool} (h : Sz w g n d b) (o : Obj) : Sz (w.alloc o) g n d b := h.kp ((Kp.refl [] w).alloc o)

set_option maxRecDepth 100000 in
theorem right_c (g : Nat) (n d : Int) (wr b : Bool) (w : World) (h : Sz w g n d wr) :
    Calls Tryz.prog 32 #[.pointer (some ⟨g, 0, none⟩), .bool b] w fun e w' => e = .returned (.tuple #[]) ∧ Sz w' g n d (wr || !b) ∧ Kp [g] w w' := by
  have f2 := Blk.frozen h 2
  have c2 := Blk.cell h 2 (v := .bool wr) rfl
  replace h := Lib.hid h
  cases b
  · go_enter Tryz.func32, Tryz.ntmps32
    go_wp2
    go_end0
    refine ⟨rfl, ?_, (Kp.refl _ _).setCell (.inl (by simp)) _⟩
    rw [show (wr || !false) = true by simp]
    exact Blk.set h.out 2 (.bool true)
  · go_enter Tryz.func32, Tryz.ntmps32
    go_wp2
    go_end0
    refine ⟨rfl, ?_, Kp.refl _ _⟩
    rw [show (wr || !true) = wr by simp]
    exact h.out

set_option maxRecDepth 100000 in
theorem node_c (g : Nat) (n dp d : Int) (w : World) (h : Sz w g n dp false) (hn : 0 ≤ n) (hn2 : n ≤ 1000000) :
    Calls Tryz.prog 31 #[.pointer (some ⟨g, 0, none⟩), .int .i64 d] w fun e w' => e = .returned (.tuple #[]) ∧ Sz w' g (n + 1) (max dp d) (decide (500 < n + 1) || decide (14 < d)) ∧ Kp [g] w w' := by
  have c0 := Blk.cell h 0 (v := .int .i64 n) rfl
  have c1 := Blk.cell h 1 (v := .int .i64 dp) rfl
  have c2 := Blk.cell h 2 (v := .bool false) rfl
  have f0 := Blk.frozen h 0
  have f1 := Blk.frozen h 1
  have f2 := Blk.frozen h 2
  replace h := Lib.hid h
  go_enter Tryz.func31, Tryz.ntmps31
  go_wp2
  · go_end0
    rename_i h1 h2
    refine ⟨rfl, ?_, (((Kp.refl _ _).setCell (.inl (by simp)) _).setCell (.inl (by simp)) _).setCell (.inl (by simp)) _⟩
    rw [show (decide (500 < n + 1) || decide (14 < d)) = true by simp; omega]
    exact Blk.set (Blk.set (Blk.set h.out 0 (.int .i64 (n + 1))) 1 (.int .i64 (max dp d))) 2 (.bool true)
  · go_end0
    rename_i h1 h2
    refine ⟨rfl, ?_, ((Kp.refl _ _).setCell (.inl (by simp)) _).setCell (.inl (by simp)) _⟩
    rw [show (decide (500 < n + 1) || decide (14 < d)) = false by simp; omega]
    exact Blk.set (Blk.set h.out 0 (.int .i64 (n + 1))) 1 (.int .i64 (max dp d))
  · go_end0
    rename_i h1
    refine ⟨rfl, ?_, (((Kp.refl _ _).setCell (.inl (by simp)) _).setCell (.inl (by simp)) _).setCell (.inl (by simp)) _⟩
    exact Blk.set (Blk.set (Blk.set h.out 0 (.int .i64 (n + 1))) 1 (.int .i64 (max dp d))) 2 (.bool true)
end Go.Proofs.YtgldbeacjacbcaaGreat

set_option linter.unusedSimpArgs false
set_option linter.unusedVariables false
namespace Go.Proofs.YtgldbeacjacbcaaGreat
open Go.RowKit

/-- What the reference's measure answers of an expression, or of a list. -/
def SzRes (g : Nat) (ok : Bool) (n' : Int) (w : World) (r : Ending) (w' : World) : Prop :=
  r = .returned (.tuple #[]) ∧ Kp [g] w w' ∧ ∃ n2 d2, Sz w' g n2 d2 (!ok) ∧ (ok = true → n2 = n')
theorem sz_to {w : World} {g : Nat} {n d : Int} {b1 b c : Bool} (h : Sz w g n d (b1 || !b)) (e : c = b) : Sz w g n d (b1 || !c) := e ▸ h
/-- Behind the box of the expression and the node that is counted. -/
theorem sz_end {g : Nat} {w w2 w3 : World} {o : Obj} (h1 : Kp [g] (w.alloc o) w2) (h2 : Kp [g] w2 w3) : Kp [g] w w3 := ((Kp.refl [g] w).alloc o).trans (h1.trans h2)
theorem first_to {a c b : Bool} (h : a = c) (e : c = b ∨ a = b) : c = b := by rcases e with e | e <;> simp_all

theorem tr_of {b : Bool} (h : false = !b) : b = true := by cases b <;> simp_all
theorem fl_of {b : Bool} (h : true = !b) : b = false := by cases b <;> simp_all

set_option maxRecDepth 100000 in
set_option maxHeartbeats 4000000 in
theorem sz_2 (kind m : Int) (s f : ByteArray) (q : Option Addr) (len cap : Nat) (g : Nat) (n dp d : Int) (w : World) (hs : s.size ≤ 140737488355328) (hf : f.size ≤ 140737488355328) (hS : Sz w g n dp false)
    (hn0 : 0 ≤ n) (hn5 : n ≤ 500) (hd0 : 0 ≤ d) (hd1 : d ≤ 15) (ok : Bool) (n' : Int)
    (hexp : Hid (∀ w2 dp2, Kp [g] w w2 → Sz w2 g (n + 1) dp2 false → n + 1 ≤ 500 → d ≤ 14 → Calls Tryz.prog 34 #[.pointer (some ⟨g, 0, none⟩), .slice q len cap, .int .i64 (d + 1)] w2 (SzRes g ok n' w2)))
    (hwr : Hid (∀ w2 n2 dp2, Sz w2 g n2 dp2 true → Calls Tryz.prog 34 #[.pointer (some ⟨g, 0, none⟩), .slice q len cap, .int .i64 (d + 1)] w2 (fun r w' => r = .returned (.tuple #[]) ∧ w' = w2))) :
    Calls Tryz.prog 16 #[.pointer (some ⟨g, 0, none⟩), .agg #[.int .i64 2, .int .i64 kind, .int .i64 m, .string s, .string f, .slice q len cap], .int .i64 d] w
      (SzRes g (decide (n + 1 ≤ 500) && decide (d ≤ 14) && (((len : Int) == 0 && (kind == 0 && m == 0)) && isNameS s && emB f) && ok) n' w) := by
  have hg := Blk.lt hS
  have hB := Blk.new w 24 #[.int .i64 2, .int .i64 kind, .int .i64 m, .string s, .string f, .slice q len cap]
  have hS1 := Lib.hid (hS.cells (.cells #[.int .i64 2, .int .i64 kind, .int .i64 m, .string s, .string f, .slice q len cap] 24))
  have hc2 := Blk.cell hS 2 (v := .bool false) rfl
  replace hS := Lib.hid hS
  replace hB := Lib.hid hB
  go_enter Tryz.func16, Tryz.ntmps16
  go_wp2_with fail
  refine (node_c g n dp d _ hS1.out hn0 (by omega)).mono ?_
  rintro r w2 ⟨rfl, hS2, hk2⟩
  have hne : w.heap.size ∉ [g] := by simp; omega
  have hB2 := hB.out.kp hk2 hne
  have e0 := hB2.cell 0 (v := .int .i64 2) rfl
  have e1 := hB2.cell 1 (v := .int .i64 kind) rfl
  have e2 := hB2.cell 2 (v := .int .i64 m) rfl
  have e3 := hB2.cell 3 (v := .string s) rfl
  have e4 := hB2.cell 4 (v := .string f) rfl
  have e5 := hB2.cell 5 (v := .slice q len cap) rfl
  obtain ⟨b1, hb1⟩ : ∃ b, (decide (500 < n + 1) || decide (14 < d)) = b := ⟨_, rfl⟩
  obtain ⟨dp1, hdp1⟩ : ∃ x, max dp d = x := ⟨_, rfl⟩
  rw [hb1, hdp1] at hS2
  replace hS2 := Lib.hid hS2
  replace hB2 := Lib.hid hB2
  replace hb1 := Lib.hid hb1
  replace hk2 := Lib.hid hk2
  replace hne := Lib.hid hne
  clear hdp1 hc2
  obtain ⟨c3, hc3⟩ : ∃ c : Bool, ((len : Int) == 0 && (kind == 0 && m == 0)) = c := ⟨_, rfl⟩
  obtain ⟨c4, hc4⟩ : ∃ c : Bool, isNameS s = c := ⟨_, rfl⟩
  obtain ⟨c5, hc5⟩ : ∃ c : Bool, emB f = c := ⟨_, rfl⟩
  replace hc3 := Lib.hid hc3
  replace hc4 := Lib.hid hc4
  replace hc5 := Lib.hid hc5
  go_upto_region 19 with fail
  go_cut [1] (fun _ wx => Hid (Sz wx g (n + 1) dp1 (b1 || !c3)) ∧ Hid (Kp [g] w2 wx))
  case first =>
    go_wp2_with (go_at_call 32; refine (right_c g _ _ _ _ _ hS2.out).mono ?_; rintro r w3 ⟨rfl, hS3, hk3⟩)
    all_goals
      go_meet
      case rel => exact ⟨sz_to hS3 (hc3.out.symm.trans (by first | (simp [*]; done) | (simp [*]; omega))), hk3⟩
  case rest =>
    obtain ⟨hS3, hk3⟩ := hcut
    have hB3 := hB2.out.kp hk3.out hne.out
    clear e0 e1 e2 e3 e4 e5
    have e3 := hB3.cell 3 (v := .string s) rfl
    have e4 := hB3.cell 4 (v := .string f) rfl
    have e5 := hB3.cell 5 (v := .slice q len cap) rfl
    obtain ⟨b3, hb3⟩ : ∃ b, (b1 || !c3) = b := ⟨_, rfl⟩
    rw [hb3] at hS3
    replace hb3 := Lib.hid hb3
    replace hB3 := Lib.hid hB3
    obtain ⟨w3, hw3⟩ : ∃ x, wc = x := ⟨_, rfl⟩
    subst hw3
    go_upto_region 20 with fail
    go_cut [1] (fun _ wx => Hid (Sz wx g (n + 1) dp1 (b3 || !c4)) ∧ Hid (Kp [g] wc wx))
    case first =>
      go_wp2_with (first | (go_at_call 33; refine (rname_c _ _ hs).mono ?_; rintro r w4 ⟨rfl, hkn⟩; rw [hc4.out]) | (go_at_call 32; refine (right_c g _ _ _ _ _ (by first | exact hS3.out | exact hS3.out.kp hkn)).mono ?_; rintro r w5 ⟨rfl, hS5, hk5⟩))
      all_goals
        go_meet
        case rel => exact ⟨sz_to hS5 (first_to hc4.out (by first | (left; simp [*]; done) | (right; simp [emB, *]; done))), by first | exact hkn.any.trans hk5 | exact hk5⟩
    case rest =>
      obtain ⟨hS4, hk4⟩ := hcut
      have hB4 := hB3.out.kp hk4.out hne.out
      clear e3 e4 e5
      have e4 := hB4.cell 4 (v := .string f) rfl
      have e5 := hB4.cell 5 (v := .slice q len cap) rfl
      obtain ⟨b4, hb4⟩ : ∃ b, (b3 || !c4) = b := ⟨_, rfl⟩
      rw [hb4] at hS4
      replace hb4 := Lib.hid hb4
      replace hB4 := Lib.hid hB4
      replace hk4 := Lib.hid (hk3.out.trans hk4.out)
      clear hS3 hk3
      obtain ⟨w4, hw4⟩ : ∃ x, wc = x := ⟨_, rfl⟩
      go_upto_region 21 with fail
      go_cut [1] (fun _ wx => Hid (Sz wx g (n + 1) dp1 (b4 || !c5)) ∧ Hid (Kp [g] w4 wx))
      case first =>
        subst hw4
        go_wp2_with (first | (go_at_call 33; refine (rname_c _ _ hf).mono ?_; rintro r w4 ⟨rfl, hkn⟩; rw [hc5.out]) | (go_at_call 32; refine (right_c g _ _ _ _ _ (by first | exact hS4.out | exact hS4.out.kp hkn)).mono ?_; rintro r w5 ⟨rfl, hS5, hk5⟩))
        all_goals
          go_meet
          case rel => exact ⟨sz_to hS5 (first_to hc5.out (by first | (left; simp [*]; done) | (right; simp [emB, *]; done))), by first | exact hkn.any.trans hk5 | exact hk5⟩
      case rest =>
        obtain ⟨hS5, hk5⟩ := hcut
        subst hw4
        have hB5 := hB4.out.kp hk5.out hne.out
        clear e4 e5
        have e5 := hB5.cell 5 (v := .slice q len cap) rfl
        have hk6 := Lib.hid (hk4.out.trans hk5.out)
        have hend := Lib.hid (sz_end hk2.out hk6.out)
        obtain ⟨b5, hb5⟩ : ∃ b, (b4 || !c5) = b := ⟨_, rfl⟩
        rw [hb5] at hS5
        have hres : Hid (b5 = (!(decide (n + 1 ≤ 500) && decide (d ≤ 14) && (c3 && c4 && c5)))) := by
          show _ = _
          rw [← hb5, ← hb4.out, ← hb3.out, ← hb1.out]
          by_cases h1 : n + 1 ≤ 500 <;> by_cases h2 : d ≤ 14 <;> simp [h1, h2, Int.not_lt.2, Int.not_le.1] <;> (try omega) <;> simp [Bool.or_assoc]
        clear hB5 hS4 hk4 hk5 hk6
        cases b5
        · have h3 : Hid ((decide (n + 1 ≤ 500) && decide (d ≤ 14) && (c3 && c4 && c5)) = true) := tr_of hres.out
          have h4 : n + 1 ≤ 500 ∧ d ≤ 14 := by have := h3.out; simp only [Bool.and_eq_true, decide_eq_true_eq] at this; exact this.1
          have hcall := Lib.hid (hexp.out wc dp1 hend.out hS5 h4.1 h4.2)
          clear h4
          go_wp2_with fail
          refine hcall.out.mono ?_
          rintro r w9 ⟨rfl, hk9, hR⟩
          go_wp2_with fail
          go_end0
          rw [hc3.out, hc4.out, hc5.out, h3.out, Bool.true_and]
          exact ⟨rfl, hend.out.trans hk9, hR⟩
        · have h3 : Hid ((decide (n + 1 ≤ 500) && decide (d ≤ 14) && (c3 && c4 && c5)) = false) := fl_of hres.out
          have hcall := Lib.hid (hwr.out wc _ _ hS5)
          go_wp2_with fail
          refine hcall.out.mono ?_
          rintro r w9 ⟨rfl, rfl⟩
          go_wp2_with fail
          go_end0
          rw [hc3.out, hc4.out, hc5.out, h3.out, Bool.false_and]
          exact ⟨rfl, hend.out, _, _, hS5, fun h => by cases h⟩
set_option maxRecDepth 100000 in
set_option maxHeartbeats 4000000 in
theorem sz_3 (kind m : Int) (s f : ByteArray) (q : Option Addr) (len cap : Nat) (g : Nat) (n dp d : Int) (w : World) (hs : s.size ≤ 140737488355328) (hf : f.size ≤ 140737488355328) (hS : Sz w g n dp false)
    (hn0 : 0 ≤ n) (hn5 : n ≤ 500) (hd0 : 0 ≤ d) (hd1 : d ≤ 15) (ok : Bool) (n' : Int)
    (hexp : Hid (∀ w2 dp2, Kp [g] w w2 → Sz w2 g (n + 1) dp2 false → n + 1 ≤ 500 → d ≤ 14 → Calls Tryz.prog 34 #[.pointer (some ⟨g, 0, none⟩), .slice q len cap, .int .i64 (d + 1)] w2 (SzRes g ok n' w2)))
    (hwr : Hid (∀ w2 n2 dp2, Sz w2 g n2 dp2 true → Calls Tryz.prog 34 #[.pointer (some ⟨g, 0, none⟩), .slice q len cap, .int .i64 (d + 1)] w2 (fun r w' => r = .returned (.tuple #[]) ∧ w' = w2))) :
    Calls Tryz.prog 16 #[.pointer (some ⟨g, 0, none⟩), .agg #[.int .i64 3, .int .i64 kind, .int .i64 m, .string s, .string f, .slice q len cap], .int .i64 d] w
      (SzRes g (decide (n + 1 ≤ 500) && decide (d ≤ 14) && (((len : Int) == 0 && (kind == 0 && m == 0)) && isNameS s && isNameS f) && ok) n' w) := by
  have hg := Blk.lt hS
  have hB := Blk.new w 24 #[.int .i64 3, .int .i64 kind, .int .i64 m, .string s, .string f, .slice q len cap]
  have hS1 := Lib.hid (hS.cells (.cells #[.int .i64 3, .int .i64 kind, .int .i64 m, .string s, .string f, .slice q len cap] 24))
  have hc2 := Blk.cell hS 2 (v := .bool false) rfl
  replace hS := Lib.hid hS
  replace hB := Lib.hid hB
  go_enter Tryz.func16, Tryz.ntmps16
  go_wp2_with fail
  refine (node_c g n dp d _ hS1.out hn0 (by omega)).mono ?_
  rintro r w2 ⟨rfl, hS2, hk2⟩
  have hne : w.heap.size ∉ [g] := by simp; omega
  have hB2 := hB.out.kp hk2 hne
  have e0 := hB2.cell 0 (v := .int .i64 3) rfl
  have e1 := hB2.cell 1 (v := .int .i64 kind) rfl
  have e2 := hB2.cell 2 (v := .int .i64 m) rfl
  have e3 := hB2.cell 3 (v := .string s) rfl
  have e4 := hB2.cell 4 (v := .string f) rfl
  have e5 := hB2.cell 5 (v := .slice q len cap) rfl
  obtain ⟨b1, hb1⟩ : ∃ b, (decide (500 < n + 1) || decide (14 < d)) = b := ⟨_, rfl⟩
  obtain ⟨dp1, hdp1⟩ : ∃ x, max dp d = x := ⟨_, rfl⟩
  rw [hb1, hdp1] at hS2
  replace hS2 := Lib.hid hS2
  replace hB2 := Lib.hid hB2
  replace hb1 := Lib.hid hb1
  replace hk2 := Lib.hid hk2
  replace hne := Lib.hid hne
  clear hdp1 hc2
  obtain ⟨c3, hc3⟩ : ∃ c : Bool, ((len : Int) == 0 && (kind == 0 && m == 0)) = c := ⟨_, rfl⟩
  obtain ⟨c4, hc4⟩ : ∃ c : Bool, isNameS s = c := ⟨_, rfl⟩
  obtain ⟨c5, hc5⟩ : ∃ c : Bool, isNameS f = c := ⟨_, rfl⟩
  replace hc3 := Lib.hid hc3
  replace hc4 := Lib.hid hc4
  replace hc5 := Lib.hid hc5
  go_upto_region 19 with fail
  go_cut [1] (fun _ wx => Hid (Sz wx g (n + 1) dp1 (b1 || !c3)) ∧ Hid (Kp [g] w2 wx))
  case first =>
    go_wp2_with (go_at_call 32; refine (right_c g _ _ _ _ _ hS2.out).mono ?_; rintro r w3 ⟨rfl, hS3, hk3⟩)
    all_goals
      go_meet
      case rel => exact ⟨sz_to hS3 (hc3.out.symm.trans (by first | (simp [*]; done) | (simp [*]; omega))), hk3⟩
  case rest =>
    obtain ⟨hS3, hk3⟩ := hcut
    have hB3 := hB2.out.kp hk3.out hne.out
    clear e0 e1 e2 e3 e4 e5
    have e3 := hB3.cell 3 (v := .string s) rfl
    have e4 := hB3.cell 4 (v := .string f) rfl
    have e5 := hB3.cell 5 (v := .slice q len cap) rfl
    obtain ⟨b3, hb3⟩ : ∃ b, (b1 || !c3) = b := ⟨_, rfl⟩
    rw [hb3] at hS3
    replace hb3 := Lib.hid hb3
    replace hB3 := Lib.hid hB3
    obtain ⟨w3, hw3⟩ : ∃ x, wc = x := ⟨_, rfl⟩
    subst hw3
    go_upto_region 20 with fail
    go_cut [1] (fun _ wx => Hid (Sz wx g (n + 1) dp1 (b3 || !c4)) ∧ Hid (Kp [g] wc wx))
    case first =>
      go_wp2_with (first | (go_at_call 33; refine (rname_c _ _ hs).mono ?_; rintro r w4 ⟨rfl, hkn⟩; rw [hc4.out]) | (go_at_call 32; refine (right_c g _ _ _ _ _ (by first | exact hS3.out | exact hS3.out.kp hkn)).mono ?_; rintro r w5 ⟨rfl, hS5, hk5⟩))
      all_goals
        go_meet
        case rel => exact ⟨sz_to hS5 (first_to hc4.out (by first | (left; simp [*]; done) | (right; simp [emB, *]; done))), by first | exact hkn.any.trans hk5 | exact hk5⟩
    case rest =>
      obtain ⟨hS4, hk4⟩ := hcut
      have hB4 := hB3.out.kp hk4.out hne.out
      clear e3 e4 e5
      have e4 := hB4.cell 4 (v := .string f) rfl
      have e5 := hB4.cell 5 (v := .slice q len cap) rfl
      obtain ⟨b4, hb4⟩ : ∃ b, (b3 || !c4) = b := ⟨_, rfl⟩
      rw [hb4] at hS4
      replace hb4 := Lib.hid hb4
      replace hB4 := Lib.hid hB4
      replace hk4 := Lib.hid (hk3.out.trans hk4.out)
      clear hS3 hk3
      obtain ⟨w4, hw4⟩ : ∃ x, wc = x := ⟨_, rfl⟩
      go_upto_region 21 with fail
      go_cut [1] (fun _ wx => Hid (Sz wx g (n + 1) dp1 (b4 || !c5)) ∧ Hid (Kp [g] w4 wx))
      case first =>
        subst hw4
        go_wp2_with (first | (go_at_call 33; refine (rname_c _ _ hf).mono ?_; rintro r w4 ⟨rfl, hkn⟩; rw [hc5.out]) | (go_at_call 32; refine (right_c g _ _ _ _ _ (by first | exact hS4.out | exact hS4.out.kp hkn)).mono ?_; rintro r w5 ⟨rfl, hS5, hk5⟩))
        all_goals
          go_meet
          case rel => exact ⟨sz_to hS5 (first_to hc5.out (by first | (left; simp [*]; done) | (right; simp [emB, *]; done))), by first | exact hkn.any.trans hk5 | exact hk5⟩
      case rest =>
        obtain ⟨hS5, hk5⟩ := hcut
        subst hw4
        have hB5 := hB4.out.kp hk5.out hne.out
        clear e4 e5
        have e5 := hB5.cell 5 (v := .slice q len cap) rfl
        have hk6 := Lib.hid (hk4.out.trans hk5.out)
        have hend := Lib.hid (sz_end hk2.out hk6.out)
        obtain ⟨b5, hb5⟩ : ∃ b, (b4 || !c5) = b := ⟨_, rfl⟩
        rw [hb5] at hS5
        have hres : Hid (b5 = (!(decide (n + 1 ≤ 500) && decide (d ≤ 14) && (c3 && c4 && c5)))) := by
          show _ = _
          rw [← hb5, ← hb4.out, ← hb3.out, ← hb1.out]
          by_cases h1 : n + 1 ≤ 500 <;> by_cases h2 : d ≤ 14 <;> simp [h1, h2, Int.not_lt.2, Int.not_le.1] <;> (try omega) <;> simp [Bool.or_assoc]
        clear hB5 hS4 hk4 hk5 hk6
        cases b5
        · have h3 : Hid ((decide (n + 1 ≤ 500) && decide (d ≤ 14) && (c3 && c4 && c5)) = true) := tr_of hres.out
          have h4 : n + 1 ≤ 500 ∧ d ≤ 14 := by have := h3.out; simp only [Bool.and_eq_true, decide_eq_true_eq] at this; exact this.1
          have hcall := Lib.hid (hexp.out wc dp1 hend.out hS5 h4.1 h4.2)
          clear h4
          go_wp2_with fail
          refine hcall.out.mono ?_
          rintro r w9 ⟨rfl, hk9, hR⟩
          go_wp2_with fail
          go_end0
          rw [hc3.out, hc4.out, hc5.out, h3.out, Bool.true_and]
          exact ⟨rfl, hend.out.trans hk9, hR⟩
        · have h3 : Hid ((decide (n + 1 ≤ 500) && decide (d ≤ 14) && (c3 && c4 && c5)) = false) := fl_of hres.out
          have hcall := Lib.hid (hwr.out wc _ _ hS5)
          go_wp2_with fail
          refine hcall.out.mono ?_
          rintro r w9 ⟨rfl, rfl⟩
          go_wp2_with fail
          go_end0
          rw [hc3.out, hc4.out, hc5.out, h3.out, Bool.false_and]
          exact ⟨rfl, hend.out, _, _, hS5, fun h => by cases h⟩
set_option maxRecDepth 100000 in
set_option maxHeartbeats 4000000 in
theorem sz_4 (kind m : Int) (s f : ByteArray) (q : Option Addr) (len cap : Nat) (g : Nat) (n dp d : Int) (w : World) (hs : s.size ≤ 140737488355328) (hf : f.size ≤ 140737488355328) (hS : Sz w g n dp false)
    (hn0 : 0 ≤ n) (hn5 : n ≤ 500) (hd0 : 0 ≤ d) (hd1 : d ≤ 15) (ok : Bool) (n' : Int)
    (hexp : Hid (∀ w2 dp2, Kp [g] w w2 → Sz w2 g (n + 1) dp2 false → n + 1 ≤ 500 → d ≤ 14 → Calls Tryz.prog 34 #[.pointer (some ⟨g, 0, none⟩), .slice q len cap, .int .i64 (d + 1)] w2 (SzRes g ok n' w2)))
    (hwr : Hid (∀ w2 n2 dp2, Sz w2 g n2 dp2 true → Calls Tryz.prog 34 #[.pointer (some ⟨g, 0, none⟩), .slice q len cap, .int .i64 (d + 1)] w2 (fun r w' => r = .returned (.tuple #[]) ∧ w' = w2))) :
    Calls Tryz.prog 16 #[.pointer (some ⟨g, 0, none⟩), .agg #[.int .i64 4, .int .i64 kind, .int .i64 m, .string s, .string f, .slice q len cap], .int .i64 d] w
      (SzRes g (decide (n + 1 ≤ 500) && decide (d ≤ 14) && (((len : Int) == 1 && (kind == 0 && m == 0)) && isNameS s && emB f) && ok) n' w) := by
  have hg := Blk.lt hS
  have hB := Blk.new w 24 #[.int .i64 4, .int .i64 kind, .int .i64 m, .string s, .string f, .slice q len cap]
  have hS1 := Lib.hid (hS.cells (.cells #[.int .i64 4, .int .i64 kind, .int .i64 m, .string s, .string f, .slice q len cap] 24))
  have hc2 := Blk.cell hS 2 (v := .bool false) rfl
  replace hS := Lib.hid hS
  replace hB := Lib.hid hB
  go_enter Tryz.func16, Tryz.ntmps16
  go_wp2_with fail
  refine (node_c g n dp d _ hS1.out hn0 (by omega)).mono ?_
  rintro r w2 ⟨rfl, hS2, hk2⟩
  have hne : w.heap.size ∉ [g] := by simp; omega
  have hB2 := hB.out.kp hk2 hne
  have e0 := hB2.cell 0 (v := .int .i64 4) rfl
  have e1 := hB2.cell 1 (v := .int .i64 kind) rfl
  have e2 := hB2.cell 2 (v := .int .i64 m) rfl
  have e3 := hB2.cell 3 (v := .string s) rfl
  have e4 := hB2.cell 4 (v := .string f) rfl
  have e5 := hB2.cell 5 (v := .slice q len cap) rfl
  obtain ⟨b1, hb1⟩ : ∃ b, (decide (500 < n + 1) || decide (14 < d)) = b := ⟨_, rfl⟩
  obtain ⟨dp1, hdp1⟩ : ∃ x, max dp d = x := ⟨_, rfl⟩
  rw [hb1, hdp1] at hS2
  replace hS2 := Lib.hid hS2
  replace hB2 := Lib.hid hB2
  replace hb1 := Lib.hid hb1
  replace hk2 := Lib.hid hk2
  replace hne := Lib.hid hne
  clear hdp1 hc2
  obtain ⟨c3, hc3⟩ : ∃ c : Bool, ((len : Int) == 1 && (kind == 0 && m == 0)) = c := ⟨_, rfl⟩
  obtain ⟨c4, hc4⟩ : ∃ c : Bool, isNameS s = c := ⟨_, rfl⟩
  obtain ⟨c5, hc5⟩ : ∃ c : Bool, emB f = c := ⟨_, rfl⟩
  replace hc3 := Lib.hid hc3
  replace hc4 := Lib.hid hc4
  replace hc5 := Lib.hid hc5
  go_upto_region 19 with fail
  go_cut [1] (fun _ wx => Hid (Sz wx g (n + 1) dp1 (b1 || !c3)) ∧ Hid (Kp [g] w2 wx))
  case first =>
    go_wp2_with (go_at_call 32; refine (right_c g _ _ _ _ _ hS2.out).mono ?_; rintro r w3 ⟨rfl, hS3, hk3⟩)
    all_goals
      go_meet
      case rel => exact ⟨sz_to hS3 (hc3.out.symm.trans (by first | (simp [*]; done) | (simp [*]; omega))), hk3⟩
  case rest =>
    obtain ⟨hS3, hk3⟩ := hcut
    have hB3 := hB2.out.kp hk3.out hne.out
    clear e0 e1 e2 e3 e4 e5
    have e3 := hB3.cell 3 (v := .string s) rfl
    have e4 := hB3.cell 4 (v := .string f) rfl
    have e5 := hB3.cell 5 (v := .slice q len cap) rfl
    obtain ⟨b3, hb3⟩ : ∃ b, (b1 || !c3) = b := ⟨_, rfl⟩
    rw [hb3] at hS3
    replace hb3 := Lib.hid hb3
    replace hB3 := Lib.hid hB3
    obtain ⟨w3, hw3⟩ : ∃ x, wc = x := ⟨_, rfl⟩
    subst hw3
    go_upto_region 20 with fail
    go_cut [1] (fun _ wx => Hid (Sz wx g (n + 1) dp1 (b3 || !c4)) ∧ Hid (Kp [g] wc wx))
    case first =>
      go_wp2_with (first | (go_at_call 33; refine (rname_c _ _ hs).mono ?_; rintro r w4 ⟨rfl, hkn⟩; rw [hc4.out]) | (go_at_call 32; refine (right_c g _ _ _ _ _ (by first | exact hS3.out | exact hS3.out.kp hkn)).mono ?_; rintro r w5 ⟨rfl, hS5, hk5⟩))
      all_goals
        go_meet
        case rel => exact ⟨sz_to hS5 (first_to hc4.out (by first | (left; simp [*]; done) | (right; simp [emB, *]; done))), by first | exact hkn.any.trans hk5 | exact hk5⟩
    case rest =>
      obtain ⟨hS4, hk4⟩ := hcut
      have hB4 := hB3.out.kp hk4.out hne.out
      clear e3 e4 e5
      have e4 := hB4.cell 4 (v := .string f) rfl
      have e5 := hB4.cell 5 (v := .slice q len cap) rfl
      obtain ⟨b4, hb4⟩ : ∃ b, (b3 || !c4) = b := ⟨_, rfl⟩
      rw [hb4] at hS4
      replace hb4 := Lib.hid hb4
      replace hB4 := Lib.hid hB4
      replace hk4 := Lib.hid (hk3.out.trans hk4.out)
      clear hS3 hk3
      obtain ⟨w4, hw4⟩ : ∃ x, wc = x := ⟨_, rfl⟩
      go_upto_region 21 with fail
      go_cut [1] (fun _ wx => Hid (Sz wx g (n + 1) dp1 (b4 || !c5)) ∧ Hid (Kp [g] w4 wx))
      case first =>
        subst hw4
        go_wp2_with (first | (go_at_call 33; refine (rname_c _ _ hf).mono ?_; rintro r w4 ⟨rfl, hkn⟩; rw [hc5.out]) | (go_at_call 32; refine (right_c g _ _ _ _ _ (by first | exact hS4.out | exact hS4.out.kp hkn)).mono ?_; rintro r w5 ⟨rfl, hS5, hk5⟩))
        all_goals
          go_meet
          case rel => exact ⟨sz_to hS5 (first_to hc5.out (by first | (left; simp [*]; done) | (right; simp [emB, *]; done))), by first | exact hkn.any.trans hk5 | exact hk5⟩
      case rest =>
        obtain ⟨hS5, hk5⟩ := hcut
        subst hw4
        have hB5 := hB4.out.kp hk5.out hne.out
        clear e4 e5
        have e5 := hB5.cell 5 (v := .slice q len cap) rfl
        have hk6 := Lib.hid (hk4.out.trans hk5.out)
        have hend := Lib.hid (sz_end hk2.out hk6.out)
        obtain ⟨b5, hb5⟩ : ∃ b, (b4 || !c5) = b := ⟨_, rfl⟩
        rw [hb5] at hS5
        have hres : Hid (b5 = (!(decide (n + 1 ≤ 500) && decide (d ≤ 14) && (c3 && c4 && c5)))) := by
          show _ = _
          rw [← hb5, ← hb4.out, ← hb3.out, ← hb1.out]
          by_cases h1 : n + 1 ≤ 500 <;> by_cases h2 : d ≤ 14 <;> simp [h1, h2, Int.not_lt.2, Int.not_le.1] <;> (try omega) <;> simp [Bool.or_assoc]
        clear hB5 hS4 hk4 hk5 hk6
        cases b5
        · have h3 : Hid ((decide (n + 1 ≤ 500) && decide (d ≤ 14) && (c3 && c4 && c5)) = true) := tr_of hres.out
          have h4 : n + 1 ≤ 500 ∧ d ≤ 14 := by have := h3.out; simp only [Bool.and_eq_true, decide_eq_true_eq] at this; exact this.1
          have hcall := Lib.hid (hexp.out wc dp1 hend.out hS5 h4.1 h4.2)
          clear h4
          go_wp2_with fail
          refine hcall.out.mono ?_
          rintro r w9 ⟨rfl, hk9, hR⟩
          go_wp2_with fail
          go_end0
          rw [hc3.out, hc4.out, hc5.out, h3.out, Bool.true_and]
          exact ⟨rfl, hend.out.trans hk9, hR⟩
        · have h3 : Hid ((decide (n + 1 ≤ 500) && decide (d ≤ 14) && (c3 && c4 && c5)) = false) := fl_of hres.out
          have hcall := Lib.hid (hwr.out wc _ _ hS5)
          go_wp2_with fail
          refine hcall.out.mono ?_
          rintro r w9 ⟨rfl, rfl⟩
          go_wp2_with fail
          go_end0
          rw [hc3.out, hc4.out, hc5.out, h3.out, Bool.false_and]
          exact ⟨rfl, hend.out, _, _, hS5, fun h => by cases h⟩
set_option maxRecDepth 100000 in
set_option maxHeartbeats 4000000 in
theorem sz_6 (kind m : Int) (s f : ByteArray) (q : Option Addr) (len cap : Nat) (g : Nat) (n dp d : Int) (w : World) (hs : s.size ≤ 140737488355328) (hf : f.size ≤ 140737488355328) (hS : Sz w g n dp false)
    (hn0 : 0 ≤ n) (hn5 : n ≤ 500) (hd0 : 0 ≤ d) (hd1 : d ≤ 15) (ok : Bool) (n' : Int)
    (hexp : Hid (∀ w2 dp2, Kp [g] w w2 → Sz w2 g (n + 1) dp2 false → n + 1 ≤ 500 → d ≤ 14 → Calls Tryz.prog 34 #[.pointer (some ⟨g, 0, none⟩), .slice q len cap, .int .i64 (d + 1)] w2 (SzRes g ok n' w2)))
    (hwr : Hid (∀ w2 n2 dp2, Sz w2 g n2 dp2 true → Calls Tryz.prog 34 #[.pointer (some ⟨g, 0, none⟩), .slice q len cap, .int .i64 (d + 1)] w2 (fun r w' => r = .returned (.tuple #[]) ∧ w' = w2))) :
    Calls Tryz.prog 16 #[.pointer (some ⟨g, 0, none⟩), .agg #[.int .i64 6, .int .i64 kind, .int .i64 m, .string s, .string f, .slice q len cap], .int .i64 d] w
      (SzRes g (decide (n + 1 ≤ 500) && decide (d ≤ 14) && (((len : Int) == 1 && (kind == 0 && m == 0)) && emB s && emB f) && ok) n' w) := by
  have hg := Blk.lt hS
  have hB := Blk.new w 24 #[.int .i64 6, .int .i64 kind, .int .i64 m, .string s, .string f, .slice q len cap]
  have hS1 := Lib.hid (hS.cells (.cells #[.int .i64 6, .int .i64 kind, .int .i64 m, .string s, .string f, .slice q len cap] 24))
  have hc2 := Blk.cell hS 2 (v := .bool false) rfl
  replace hS := Lib.hid hS
  replace hB := Lib.hid hB
  go_enter Tryz.func16, Tryz.ntmps16
  go_wp2_with fail
  refine (node_c g n dp d _ hS1.out hn0 (by omega)).mono ?_
  rintro r w2 ⟨rfl, hS2, hk2⟩
  have hne : w.heap.size ∉ [g] := by simp; omega
  have hB2 := hB.out.kp hk2 hne
  have e0 := hB2.cell 0 (v := .int .i64 6) rfl
  have e1 := hB2.cell 1 (v := .int .i64 kind) rfl
  have e2 := hB2.cell 2 (v := .int .i64 m) rfl
  have e3 := hB2.cell 3 (v := .string s) rfl
  have e4 := hB2.cell 4 (v := .string f) rfl
  have e5 := hB2.cell 5 (v := .slice q len cap) rfl
  obtain ⟨b1, hb1⟩ : ∃ b, (decide (500 < n + 1) || decide (14 < d)) = b := ⟨_, rfl⟩
  obtain ⟨dp1, hdp1⟩ : ∃ x, max dp d = x := ⟨_, rfl⟩
  rw [hb1, hdp1] at hS2
  replace hS2 := Lib.hid hS2
  replace hB2 := Lib.hid hB2
  replace hb1 := Lib.hid hb1
  replace hk2 := Lib.hid hk2
  replace hne := Lib.hid hne
  clear hdp1 hc2
  obtain ⟨c3, hc3⟩ : ∃ c : Bool, ((len : Int) == 1 && (kind == 0 && m == 0)) = c := ⟨_, rfl⟩
  obtain ⟨c4, hc4⟩ : ∃ c : Bool, emB s = c := ⟨_, rfl⟩
  obtain ⟨c5, hc5⟩ : ∃ c : Bool, emB f = c := ⟨_, rfl⟩
  replace hc3 := Lib.hid hc3
  replace hc4 := Lib.hid hc4
  replace hc5 := Lib.hid hc5
  go_upto_region 19 with fail
  go_cut [1] (fun _ wx => Hid (Sz wx g (n + 1) dp1 (b1 || !c3)) ∧ Hid (Kp [g] w2 wx))
  case first =>
    go_wp2_with (go_at_call 32; refine (right_c g _ _ _ _ _ hS2.out).mono ?_; rintro r w3 ⟨rfl, hS3, hk3⟩)
    all_goals
      go_meet
      case rel => exact ⟨sz_to hS3 (hc3.out.symm.trans (by first | (simp [*]; done) | (simp [*]; omega))), hk3⟩
  case rest =>
    obtain ⟨hS3, hk3⟩ := hcut
    have hB3 := hB2.out.kp hk3.out hne.out
    clear e0 e1 e2 e3 e4 e5
    have e3 := hB3.cell 3 (v := .string s) rfl
    have e4 := hB3.cell 4 (v := .string f) rfl
    have e5 := hB3.cell 5 (v := .slice q len cap) rfl
    obtain ⟨b3, hb3⟩ : ∃ b, (b1 || !c3) = b := ⟨_, rfl⟩
    rw [hb3] at hS3
    replace hb3 := Lib.hid hb3
    replace hB3 := Lib.hid hB3
    obtain ⟨w3, hw3⟩ : ∃ x, wc = x := ⟨_, rfl⟩
    subst hw3
    go_upto_region 20 with fail
    go_cut [1] (fun _ wx => Hid (Sz wx g (n + 1) dp1 (b3 || !c4)) ∧ Hid (Kp [g] wc wx))
    case first =>
      go_wp2_with (first | (go_at_call 33; refine (rname_c _ _ hs).mono ?_; rintro r w4 ⟨rfl, hkn⟩; rw [hc4.out]) | (go_at_call 32; refine (right_c g _ _ _ _ _ (by first | exact hS3.out | exact hS3.out.kp hkn)).mono ?_; rintro r w5 ⟨rfl, hS5, hk5⟩))
      all_goals
        go_meet
        case rel => exact ⟨sz_to hS5 (first_to hc4.out (by first | (left; simp [*]; done) | (right; simp [emB, *]; done))), by first | exact hkn.any.trans hk5 | exact hk5⟩
    case rest =>
      obtain ⟨hS4, hk4⟩ := hcut
      have hB4 := hB3.out.kp hk4.out hne.out
      clear e3 e4 e5
      have e4 := hB4.cell 4 (v := .string f) rfl
      have e5 := hB4.cell 5 (v := .slice q len cap) rfl
      obtain ⟨b4, hb4⟩ : ∃ b, (b3 || !c4) = b := ⟨_, rfl⟩
      rw [hb4] at hS4
      replace hb4 := Lib.hid hb4
      replace hB4 := Lib.hid hB4
      replace hk4 := Lib.hid (hk3.out.trans hk4.out)
      clear hS3 hk3
      obtain ⟨w4, hw4⟩ : ∃ x, wc = x := ⟨_, rfl⟩
      go_upto_region 21 with fail
      go_cut [1] (fun _ wx => Hid (Sz wx g (n + 1) dp1 (b4 || !c5)) ∧ Hid (Kp [g] w4 wx))
      case first =>
        subst hw4
        go_wp2_with (first | (go_at_call 33; refine (rname_c _ _ hf).mono ?_; rintro r w4 ⟨rfl, hkn⟩; rw [hc5.out]) | (go_at_call 32; refine (right_c g _ _ _ _ _ (by first | exact hS4.out | exact hS4.out.kp hkn)).mono ?_; rintro r w5 ⟨rfl, hS5, hk5⟩))
        all_goals
          go_meet
          case rel => exact ⟨sz_to hS5 (first_to hc5.out (by first | (left; simp [*]; done) | (right; simp [emB, *]; done))), by first | exact hkn.any.trans hk5 | exact hk5⟩
      case rest =>
        obtain ⟨hS5, hk5⟩ := hcut
        subst hw4
        have hB5 := hB4.out.kp hk5.out hne.out
        clear e4 e5
        have e5 := hB5.cell 5 (v := .slice q len cap) rfl
        have hk6 := Lib.hid (hk4.out.trans hk5.out)
        have hend := Lib.hid (sz_end hk2.out hk6.out)
        obtain ⟨b5, hb5⟩ : ∃ b, (b4 || !c5) = b := ⟨_, rfl⟩
        rw [hb5] at hS5
        have hres : Hid (b5 = (!(decide (n + 1 ≤ 500) && decide (d ≤ 14) && (c3 && c4 && c5)))) := by
          show _ = _
          rw [← hb5, ← hb4.out, ← hb3.out, ← hb1.out]
          by_cases h1 : n + 1 ≤ 500 <;> by_cases h2 : d ≤ 14 <;> simp [h1, h2, Int.not_lt.2, Int.not_le.1] <;> (try omega) <;> simp [Bool.or_assoc]
        clear hB5 hS4 hk4 hk5 hk6
        cases b5
        · have h3 : Hid ((decide (n + 1 ≤ 500) && decide (d ≤ 14) && (c3 && c4 && c5)) = true) := tr_of hres.out
          have h4 : n + 1 ≤ 500 ∧ d ≤ 14 := by have := h3.out; simp only [Bool.and_eq_true, decide_eq_true_eq] at this; exact this.1
          have hcall := Lib.hid (hexp.out wc dp1 hend.out hS5 h4.1 h4.2)
          clear h4
          go_wp2_with fail
          refine hcall.out.mono ?_
          rintro r w9 ⟨rfl, hk9, hR⟩
          go_wp2_with fail
          go_end0
          rw [hc3.out, hc4.out, hc5.out, h3.out, Bool.true_and]
          exact ⟨rfl, hend.out.trans hk9, hR⟩
        · have h3 : Hid ((decide (n + 1 ≤ 500) && decide (d ≤ 14) && (c3 && c4 && c5)) = false) := fl_of hres.out
          have hcall := Lib.hid (hwr.out wc _ _ hS5)
          go_wp2_with fail
          refine hcall.out.mono ?_
          rintro r w9 ⟨rfl, rfl⟩
          go_wp2_with fail
          go_end0
          rw [hc3.out, hc4.out, hc5.out, h3.out, Bool.false_and]
          exact ⟨rfl, hend.out, _, _, hS5, fun h => by cases h⟩
set_option maxRecDepth 100000 in
set_option maxHeartbeats 4000000 in
theorem sz_7 (kind m : Int) (s f : ByteArray) (q : Option Addr) (len cap : Nat) (g : Nat) (n dp d : Int) (w : World) (hs : s.size ≤ 140737488355328) (hf : f.size ≤ 140737488355328) (hS : Sz w g n dp false)
    (hn0 : 0 ≤ n) (hn5 : n ≤ 500) (hd0 : 0 ≤ d) (hd1 : d ≤ 15) (ok : Bool) (n' : Int)
    (hexp : Hid (∀ w2 dp2, Kp [g] w w2 → Sz w2 g (n + 1) dp2 false → n + 1 ≤ 500 → d ≤ 14 → Calls Tryz.prog 34 #[.pointer (some ⟨g, 0, none⟩), .slice q len cap, .int .i64 (d + 1)] w2 (SzRes g ok n' w2)))
    (hwr : Hid (∀ w2 n2 dp2, Sz w2 g n2 dp2 true → Calls Tryz.prog 34 #[.pointer (some ⟨g, 0, none⟩), .slice q len cap, .int .i64 (d + 1)] w2 (fun r w' => r = .returned (.tuple #[]) ∧ w' = w2))) :
    Calls Tryz.prog 16 #[.pointer (some ⟨g, 0, none⟩), .agg #[.int .i64 7, .int .i64 kind, .int .i64 m, .string s, .string f, .slice q len cap], .int .i64 d] w
      (SzRes g (decide (n + 1 ≤ 500) && decide (d ≤ 14) && (((len : Int) == 1 && (kind == 0 && m == 0)) && emB s && emB f) && ok) n' w) := by
  have hg := Blk.lt hS
  have hB := Blk.new w 24 #[.int .i64 7, .int .i64 kind, .int .i64 m, .string s, .string f, .slice q len cap]
  have hS1 := Lib.hid (hS.cells (.cells #[.int .i64 7, .int .i64 kind, .int .i64 m, .string s, .string f, .slice q len cap] 24))
  have hc2 := Blk.cell hS 2 (v := .bool false) rfl
  replace hS := Lib.hid hS
  replace hB := Lib.hid hB
  go_enter Tryz.func16, Tryz.ntmps16
  go_wp2_with fail
  refine (node_c g n dp d _ hS1.out hn0 (by omega)).mono ?_
  rintro r w2 ⟨rfl, hS2, hk2⟩
  have hne : w.heap.size ∉ [g] := by simp; omega
  have hB2 := hB.out.kp hk2 hne
  have e0 := hB2.cell 0 (v := .int .i64 7) rfl
  have e1 := hB2.cell 1 (v := .int .i64 kind) rfl
  have e2 := hB2.cell 2 (v := .int .i64 m) rfl
  have e3 := hB2.cell 3 (v := .string s) rfl
  have e4 := hB2.cell 4 (v := .string f) rfl
  have e5 := hB2.cell 5 (v := .slice q len cap) rfl
  obtain ⟨b1, hb1⟩ : ∃ b, (decide (500 < n + 1) || decide (14 < d)) = b := ⟨_, rfl⟩
  obtain ⟨dp1, hdp1⟩ : ∃ x, max dp d = x := ⟨_, rfl⟩
  rw [hb1, hdp1] at hS2
  replace hS2 := Lib.hid hS2
  replace hB2 := Lib.hid hB2
  replace hb1 := Lib.hid hb1
  replace hk2 := Lib.hid hk2
  replace hne := Lib.hid hne
  clear hdp1 hc2
  obtain ⟨c3, hc3⟩ : ∃ c : Bool, ((len : Int) == 1 && (kind == 0 && m == 0)) = c := ⟨_, rfl⟩
  obtain ⟨c4, hc4⟩ : ∃ c : Bool, emB s = c := ⟨_, rfl⟩
  obtain ⟨c5, hc5⟩ : ∃ c : Bool, emB f = c := ⟨_, rfl⟩
  replace hc3 := Lib.hid hc3
  replace hc4 := Lib.hid hc4
  replace hc5 := Lib.hid hc5
  go_upto_region 19 with fail
  go_cut [1] (fun _ wx => Hid (Sz wx g (n + 1) dp1 (b1 || !c3)) ∧ Hid (Kp [g] w2 wx))
  case first =>
    go_wp2_with (go_at_call 32; refine (right_c g _ _ _ _ _ hS2.out).mono ?_; rintro r w3 ⟨rfl, hS3, hk3⟩)
    all_goals
      go_meet
      case rel => exact ⟨sz_to hS3 (hc3.out.symm.trans (by first | (simp [*]; done) | (simp [*]; omega))), hk3⟩
  case rest =>
    obtain ⟨hS3, hk3⟩ := hcut
    have hB3 := hB2.out.kp hk3.out hne.out
    clear e0 e1 e2 e3 e4 e5
    have e3 := hB3.cell 3 (v := .string s) rfl
    have e4 := hB3.cell 4 (v := .string f) rfl
    have e5 := hB3.cell 5 (v := .slice q len cap) rfl
    obtain ⟨b3, hb3⟩ : ∃ b, (b1 || !c3) = b := ⟨_, rfl⟩
    rw [hb3] at hS3
    replace hb3 := Lib.hid hb3
    replace hB3 := Lib.hid hB3
    obtain ⟨w3, hw3⟩ : ∃ x, wc = x := ⟨_, rfl⟩
    subst hw3
    go_upto_region 20 with fail
    go_cut [1] (fun _ wx => Hid (Sz wx g (n + 1) dp1 (b3 || !c4)) ∧ Hid (Kp [g] wc wx))
    case first =>
      go_wp2_with (first | (go_at_call 33; refine (rname_c _ _ hs).mono ?_; rintro r w4 ⟨rfl, hkn⟩; rw [hc4.out]) | (go_at_call 32; refine (right_c g _ _ _ _ _ (by first | exact hS3.out | exact hS3.out.kp hkn)).mono ?_; rintro r w5 ⟨rfl, hS5, hk5⟩))
      all_goals
        go_meet
        case rel => exact ⟨sz_to hS5 (first_to hc4.out (by first | (left; simp [*]; done) | (right; simp [emB, *]; done))), by first | exact hkn.any.trans hk5 | exact hk5⟩
    case rest =>
      obtain ⟨hS4, hk4⟩ := hcut
      have hB4 := hB3.out.kp hk4.out hne.out
      clear e3 e4 e5
      have e4 := hB4.cell 4 (v := .string f) rfl
      have e5 := hB4.cell 5 (v := .slice q len cap) rfl
      obtain ⟨b4, hb4⟩ : ∃ b, (b3 || !c4) = b := ⟨_, rfl⟩
      rw [hb4] at hS4
      replace hb4 := Lib.hid hb4
      replace hB4 := Lib.hid hB4
      replace hk4 := Lib.hid (hk3.out.trans hk4.out)
      clear hS3 hk3
      obtain ⟨w4, hw4⟩ : ∃ x, wc = x := ⟨_, rfl⟩
      go_upto_region 21 with fail
      go_cut [1] (fun _ wx => Hid (Sz wx g (n + 1) dp1 (b4 || !c5)) ∧ Hid (Kp [g] w4 wx))
      case first =>
        subst hw4
        go_wp2_with (first | (go_at_call 33; refine (rname_c _ _ hf).mono ?_; rintro r w4 ⟨rfl, hkn⟩; rw [hc5.out]) | (go_at_call 32; refine (right_c g _ _ _ _ _ (by first | exact hS4.out | exact hS4.out.kp hkn)).mono ?_; rintro r w5 ⟨rfl, hS5, hk5⟩))
        all_goals
          go_meet
          case rel => exact ⟨sz_to hS5 (first_to hc5.out (by first | (left; simp [*]; done) | (right; simp [emB, *]; done))), by first | exact hkn.any.trans hk5 | exact hk5⟩
      case rest =>
        obtain ⟨hS5, hk5⟩ := hcut
        subst hw4
        have hB5 := hB4.out.kp hk5.out hne.out
        clear e4 e5
        have e5 := hB5.cell 5 (v := .slice q len cap) rfl
        have hk6 := Lib.hid (hk4.out.trans hk5.out)
        have hend := Lib.hid (sz_end hk2.out hk6.out)
        obtain ⟨b5, hb5⟩ : ∃ b, (b4 || !c5) = b := ⟨_, rfl⟩
        rw [hb5] at hS5
        have hres : Hid (b5 = (!(decide (n + 1 ≤ 500) && decide (d ≤ 14) && (c3 && c4 && c5)))) := by
          show _ = _
          rw [← hb5, ← hb4.out, ← hb3.out, ← hb1.out]
          by_cases h1 : n + 1 ≤ 500 <;> by_cases h2 : d ≤ 14 <;> simp [h1, h2, Int.not_lt.2, Int.not_le.1] <;> (try omega) <;> simp [Bool.or_assoc]
        clear hB5 hS4 hk4 hk5 hk6
        cases b5
        · have h3 : Hid ((decide (n + 1 ≤ 500) && decide (d ≤ 14) && (c3 && c4 && c5)) = true) := tr_of hres.out
          have h4 : n + 1 ≤ 500 ∧ d ≤ 14 := by have := h3.out; simp only [Bool.and_eq_true, decide_eq_true_eq] at this; exact this.1
          have hcall := Lib.hid (hexp.out wc dp1 hend.out hS5 h4.1 h4.2)
          clear h4
          go_wp2_with fail
          refine hcall.out.mono ?_
          rintro r w9 ⟨rfl, hk9, hR⟩
          go_wp2_with fail
          go_end0
          rw [hc3.out, hc4.out, hc5.out, h3.out, Bool.true_and]
          exact ⟨rfl, hend.out.trans hk9, hR⟩
        · have h3 : Hid ((decide (n + 1 ≤ 500) && decide (d ≤ 14) && (c3 && c4 && c5)) = false) := fl_of hres.out
          have hcall := Lib.hid (hwr.out wc _ _ hS5)
          go_wp2_with fail
          refine hcall.out.mono ?_
          rintro r w9 ⟨rfl, rfl⟩
          go_wp2_with fail
          go_end0
          rw [hc3.out, hc4.out, hc5.out, h3.out, Bool.false_and]
          exact ⟨rfl, hend.out, _, _, hS5, fun h => by cases h⟩
end Go.Proofs.YtgldbeacjacbcaaGreat

set_option linter.unusedSimpArgs false
set_option linter.unusedVariables false
namespace Go.Proofs.YtgldbeacjacbcaaGreat
open Go.RowKit

set_option maxRecDepth 100000 in
set_option maxHeartbeats 4000000 in
theorem sz_5 (kind m : Int) (s f : ByteArray) (q : Option Addr) (len cap : Nat) (g : Nat) (n dp d : Int) (w : World) (hs : s.size ≤ 140737488355328) (hf : f.size ≤ 140737488355328) (hS : Sz w g n dp false)
    (hn0 : 0 ≤ n) (hn5 : n ≤ 500) (hd0 : 0 ≤ d) (hd1 : d ≤ 15) (ok : Bool) (n' : Int)
    (hexp : Hid (∀ w2 dp2, Kp [g] w w2 → Sz w2 g (n + 1) dp2 false → n + 1 ≤ 500 → d ≤ 14 → Calls Tryz.prog 34 #[.pointer (some ⟨g, 0, none⟩), .slice q len cap, .int .i64 (d + 1)] w2 (SzRes g ok n' w2)))
    (hwr : Hid (∀ w2 n2 dp2, Sz w2 g n2 dp2 true → Calls Tryz.prog 34 #[.pointer (some ⟨g, 0, none⟩), .slice q len cap, .int .i64 (d + 1)] w2 (fun r w' => r = .returned (.tuple #[]) ∧ w' = w2))) :
    Calls Tryz.prog 16 #[.pointer (some ⟨g, 0, none⟩), .agg #[.int .i64 5, .int .i64 kind, .int .i64 m, .string s, .string f, .slice q len cap], .int .i64 d] w
      (SzRes g (decide (n + 1 ≤ 500) && decide (d ≤ 14) && (((len : Int) == (len : Int) && (kind == 0 && m == 0)) && isNameS s && emB f) && ok) n' w) := by
  have hg := Blk.lt hS
  have hB := Blk.new w 24 #[.int .i64 5, .int .i64 kind, .int .i64 m, .string s, .string f, .slice q len cap]
  have hS1 := Lib.hid (hS.cells (.cells #[.int .i64 5, .int .i64 kind, .int .i64 m, .string s, .string f, .slice q len cap] 24))
  have hc2 := Blk.cell hS 2 (v := .bool false) rfl
  replace hS := Lib.hid hS
  replace hB := Lib.hid hB
  go_enter Tryz.func16, Tryz.ntmps16
  go_wp2_with fail
  refine (node_c g n dp d _ hS1.out hn0 (by omega)).mono ?_
  rintro r w2 ⟨rfl, hS2, hk2⟩
  have hne : w.heap.size ∉ [g] := by simp; omega
  have hB2 := hB.out.kp hk2 hne
  have e0 := hB2.cell 0 (v := .int .i64 5) rfl
  have e1 := hB2.cell 1 (v := .int .i64 kind) rfl
  have e2 := hB2.cell 2 (v := .int .i64 m) rfl
  have e3 := hB2.cell 3 (v := .string s) rfl
  have e4 := hB2.cell 4 (v := .string f) rfl
  have e5 := hB2.cell 5 (v := .slice q len cap) rfl
  obtain ⟨b1, hb1⟩ : ∃ b, (decide (500 < n + 1) || decide (14 < d)) = b := ⟨_, rfl⟩
  obtain ⟨dp1, hdp1⟩ : ∃ x, max dp d = x := ⟨_, rfl⟩
  rw [hb1, hdp1] at hS2
  replace hS2 := Lib.hid hS2
  replace hB2 := Lib.hid hB2
  replace hb1 := Lib.hid hb1
  replace hk2 := Lib.hid hk2
  replace hne := Lib.hid hne
  clear hdp1 hc2
  obtain ⟨c3, hc3⟩ : ∃ c : Bool, ((len : Int) == (len : Int) && (kind == 0 && m == 0)) = c := ⟨_, rfl⟩
  obtain ⟨c4, hc4⟩ : ∃ c : Bool, isNameS s = c := ⟨_, rfl⟩
  obtain ⟨c5, hc5⟩ : ∃ c : Bool, emB f = c := ⟨_, rfl⟩
  replace hc3 := Lib.hid hc3
  replace hc4 := Lib.hid hc4
  replace hc5 := Lib.hid hc5
  go_upto_region 19 with fail
  go_cut [1] (fun _ wx => Hid (Sz wx g (n + 1) dp1 (b1 || !c3)) ∧ Hid (Kp [g] w2 wx))
  case first =>
    go_wp2_with (go_at_call 32; refine (right_c g _ _ _ _ _ hS2.out).mono ?_; rintro r w3 ⟨rfl, hS3, hk3⟩)
    all_goals
      go_meet
      case rel => exact ⟨sz_to hS3 (hc3.out.symm.trans (by first | (simp [*]; done) | (simp [*]; omega))), hk3⟩
  case rest =>
    obtain ⟨hS3, hk3⟩ := hcut
    have hB3 := hB2.out.kp hk3.out hne.out
    clear e0 e1 e2 e3 e4 e5
    have e3 := hB3.cell 3 (v := .string s) rfl
    have e4 := hB3.cell 4 (v := .string f) rfl
    have e5 := hB3.cell 5 (v := .slice q len cap) rfl
    obtain ⟨b3, hb3⟩ : ∃ b, (b1 || !c3) = b := ⟨_, rfl⟩
    rw [hb3] at hS3
    replace hb3 := Lib.hid hb3
    replace hB3 := Lib.hid hB3
    obtain ⟨w3, hw3⟩ : ∃ x, wc = x := ⟨_, rfl⟩
    subst hw3
    go_upto_region 20 with fail
    go_cut [1] (fun _ wx => Hid (Sz wx g (n + 1) dp1 (b3 || !c4)) ∧ Hid (Kp [g] wc wx))
    case first =>
      go_wp2_with (first | (go_at_call 33; refine (rname_c _ _ hs).mono ?_; rintro r w4 ⟨rfl, hkn⟩; rw [hc4.out]) | (go_at_call 32; refine (right_c g _ _ _ _ _ (by first | exact hS3.out | exact hS3.out.kp hkn)).mono ?_; rintro r w5 ⟨rfl, hS5, hk5⟩))
      all_goals
        go_meet
        case rel => exact ⟨sz_to hS5 (first_to hc4.out (by first | (left; simp [*]; done) | (right; simp [emB, *]; done))), by first | exact hkn.any.trans hk5 | exact hk5⟩
    case rest =>
      obtain ⟨hS4, hk4⟩ := hcut
      have hB4 := hB3.out.kp hk4.out hne.out
      clear e3 e4 e5
      have e4 := hB4.cell 4 (v := .string f) rfl
      have e5 := hB4.cell 5 (v := .slice q len cap) rfl
      obtain ⟨b4, hb4⟩ : ∃ b, (b3 || !c4) = b := ⟨_, rfl⟩
      rw [hb4] at hS4
      replace hb4 := Lib.hid hb4
      replace hB4 := Lib.hid hB4
      replace hk4 := Lib.hid (hk3.out.trans hk4.out)
      clear hS3 hk3
      obtain ⟨w4, hw4⟩ : ∃ x, wc = x := ⟨_, rfl⟩
      go_upto_region 21 with fail
      go_cut [1] (fun _ wx => Hid (Sz wx g (n + 1) dp1 (b4 || !c5)) ∧ Hid (Kp [g] w4 wx))
      case first =>
        subst hw4
        go_wp2_with (first | (go_at_call 33; refine (rname_c _ _ hf).mono ?_; rintro r w4 ⟨rfl, hkn⟩; rw [hc5.out]) | (go_at_call 32; refine (right_c g _ _ _ _ _ (by first | exact hS4.out | exact hS4.out.kp hkn)).mono ?_; rintro r w5 ⟨rfl, hS5, hk5⟩))
        all_goals
          go_meet
          case rel => exact ⟨sz_to hS5 (first_to hc5.out (by first | (left; simp [*]; done) | (right; simp [emB, *]; done))), by first | exact hkn.any.trans hk5 | exact hk5⟩
      case rest =>
        obtain ⟨hS5, hk5⟩ := hcut
        subst hw4
        have hB5 := hB4.out.kp hk5.out hne.out
        clear e4 e5
        have e5 := hB5.cell 5 (v := .slice q len cap) rfl
        have hk6 := Lib.hid (hk4.out.trans hk5.out)
        have hend := Lib.hid (sz_end hk2.out hk6.out)
        obtain ⟨b5, hb5⟩ : ∃ b, (b4 || !c5) = b := ⟨_, rfl⟩
        rw [hb5] at hS5
        have hres : Hid (b5 = (!(decide (n + 1 ≤ 500) && decide (d ≤ 14) && (c3 && c4 && c5)))) := by
          show _ = _
          rw [← hb5, ← hb4.out, ← hb3.out, ← hb1.out]
          by_cases h1 : n + 1 ≤ 500 <;> by_cases h2 : d ≤ 14 <;> simp [h1, h2, Int.not_lt.2, Int.not_le.1] <;> (try omega) <;> simp [Bool.or_assoc]
        clear hB5 hS4 hk4 hk5 hk6
        cases b5
        · have h3 : Hid ((decide (n + 1 ≤ 500) && decide (d ≤ 14) && (c3 && c4 && c5)) = true) := tr_of hres.out
          have h4 : n + 1 ≤ 500 ∧ d ≤ 14 := by have := h3.out; simp only [Bool.and_eq_true, decide_eq_true_eq] at this; exact this.1
          have hcall := Lib.hid (hexp.out wc dp1 hend.out hS5 h4.1 h4.2)
          clear h4
          go_wp2_with fail
          refine hcall.out.mono ?_
          rintro r w9 ⟨rfl, hk9, hR⟩
          go_wp2_with fail
          go_end0
          rw [hc3.out, hc4.out, hc5.out, h3.out, Bool.true_and]
          exact ⟨rfl, hend.out.trans hk9, hR⟩
        · have h3 : Hid ((decide (n + 1 ≤ 500) && decide (d ≤ 14) && (c3 && c4 && c5)) = false) := fl_of hres.out
          have hcall := Lib.hid (hwr.out wc _ _ hS5)
          go_wp2_with fail
          refine hcall.out.mono ?_
          rintro r w9 ⟨rfl, rfl⟩
          go_wp2_with fail
          go_end0
          rw [hc3.out, hc4.out, hc5.out, h3.out, Bool.false_and]
          exact ⟨rfl, hend.out, _, _, hS5, fun h => by cases h⟩
end Go.Proofs.YtgldbeacjacbcaaGreat

set_option linter.unusedSimpArgs false
set_option linter.unusedVariables false
namespace Go.Proofs.YtgldbeacjacbcaaGreat
open Go.RowKit

set_option maxRecDepth 100000 in
set_option maxHeartbeats 4000000 in
theorem sz_two (op kind m : Int) (h8 : 8 ≤ op) (h21 : op ≤ 21) (s f : ByteArray) (q : Option Addr) (len cap : Nat) (g : Nat) (n dp d : Int) (w : World) (hs : s.size ≤ 140737488355328) (hf : f.size ≤ 140737488355328) (hS : Sz w g n dp false)
    (hn0 : 0 ≤ n) (hn5 : n ≤ 500) (hd0 : 0 ≤ d) (hd1 : d ≤ 15) (ok : Bool) (n' : Int)
    (hexp : Hid (∀ w2 dp2, Kp [g] w w2 → Sz w2 g (n + 1) dp2 false → n + 1 ≤ 500 → d ≤ 14 → Calls Tryz.prog 34 #[.pointer (some ⟨g, 0, none⟩), .slice q len cap, .int .i64 (d + 1)] w2 (SzRes g ok n' w2)))
    (hwr : Hid (∀ w2 n2 dp2, Sz w2 g n2 dp2 true → Calls Tryz.prog 34 #[.pointer (some ⟨g, 0, none⟩), .slice q len cap, .int .i64 (d + 1)] w2 (fun r w' => r = .returned (.tuple #[]) ∧ w' = w2))) :
    Calls Tryz.prog 16 #[.pointer (some ⟨g, 0, none⟩), .agg #[.int .i64 op, .int .i64 kind, .int .i64 m, .string s, .string f, .slice q len cap], .int .i64 d] w
      (SzRes g (decide (n + 1 ≤ 500) && decide (d ≤ 14) && (true && (((len : Int) == 2 && (kind == 0 && m == 0)) && emB s && emB f)) && ok) n' w) := by
  have hg := Blk.lt hS
  have hB := Blk.new w 24 #[.int .i64 op, .int .i64 kind, .int .i64 m, .string s, .string f, .slice q len cap]
  have hS1 := Lib.hid (hS.cells (.cells #[.int .i64 op, .int .i64 kind, .int .i64 m, .string s, .string f, .slice q len cap] 24))
  have hc2 := Blk.cell hS 2 (v := .bool false) rfl
  replace hS := Lib.hid hS
  replace hB := Lib.hid hB
  have n1 : ¬ op = 1 := by omega
  have b1' : (op == 1) = false := by simpa using n1
  have n2 : ¬ op = 2 := by omega
  have b2' : (op == 2) = false := by simpa using n2
  have n3 : ¬ op = 3 := by omega
  have b3' : (op == 3) = false := by simpa using n3
  have n4 : ¬ op = 4 := by omega
  have b4' : (op == 4) = false := by simpa using n4
  have n5 : ¬ op = 5 := by omega
  have b5' : (op == 5) = false := by simpa using n5
  have n6 : ¬ op = 6 := by omega
  have b6' : (op == 6) = false := by simpa using n6
  have n7 : ¬ op = 7 := by omega
  have b7' : (op == 7) = false := by simpa using n7
  go_enter Tryz.func16, Tryz.ntmps16
  go_wp2_with fail
  refine (node_c g n dp d _ hS1.out hn0 (by omega)).mono ?_
  rintro r w2 ⟨rfl, hS2, hk2⟩
  have hne : w.heap.size ∉ [g] := by simp; omega
  have hB2 := hB.out.kp hk2 hne
  have e0 := hB2.cell 0 (v := .int .i64 op) rfl
  have e1 := hB2.cell 1 (v := .int .i64 kind) rfl
  have e2 := hB2.cell 2 (v := .int .i64 m) rfl
  have e3 := hB2.cell 3 (v := .string s) rfl
  have e4 := hB2.cell 4 (v := .string f) rfl
  have e5 := hB2.cell 5 (v := .slice q len cap) rfl
  obtain ⟨b1, hb1⟩ : ∃ b, (decide (500 < n + 1) || decide (14 < d)) = b := ⟨_, rfl⟩
  obtain ⟨dp1, hdp1⟩ : ∃ x, max dp d = x := ⟨_, rfl⟩
  rw [hb1, hdp1] at hS2
  replace hS2 := Lib.hid hS2
  replace hB2 := Lib.hid hB2
  replace hb1 := Lib.hid hb1
  replace hk2 := Lib.hid hk2
  replace hne := Lib.hid hne
  clear hdp1 hc2
  obtain ⟨c3, hc3⟩ : ∃ c : Bool, ((len : Int) == 2 && (kind == 0 && m == 0)) = c := ⟨_, rfl⟩
  obtain ⟨c4, hc4⟩ : ∃ c : Bool, emB s = c := ⟨_, rfl⟩
  obtain ⟨c5, hc5⟩ : ∃ c : Bool, emB f = c := ⟨_, rfl⟩
  replace hc3 := Lib.hid hc3
  replace hc4 := Lib.hid hc4
  replace hc5 := Lib.hid hc5
  go_upto_region 19 with (go_at_call 32; refine (right_c g _ _ _ _ _ hS2.out).mono ?_; rintro r w2b ⟨rfl, hS2b, hk2b⟩)
  have hk3a := Lib.hid (hk2.out.trans hk2b)
  have hB2b := hB2.out.kp hk2b hne.out
  clear e0 e1 e2 e3 e4 e5 hS2 hk2
  obtain ⟨w2, hw2⟩ : ∃ x, w2b = x := ⟨_, rfl⟩
  subst hw2
  have e0 := hB2b.cell 0 (v := .int .i64 op) rfl
  have e1 := hB2b.cell 1 (v := .int .i64 kind) rfl
  have e2 := hB2b.cell 2 (v := .int .i64 m) rfl
  have e3 := hB2b.cell 3 (v := .string s) rfl
  have e4 := hB2b.cell 4 (v := .string f) rfl
  have e5 := hB2b.cell 5 (v := .slice q len cap) rfl
  replace hS2b := sz_to (c := true) hS2b (by first | rfl | (simp; omega))
  obtain ⟨b2, hb2⟩ : ∃ b, (b1 || !true) = b := ⟨_, rfl⟩
  rw [hb2] at hS2b
  replace hb2 := Lib.hid hb2
  replace hS2b := Lib.hid hS2b
  replace hB2b := Lib.hid hB2b
  go_cut [1] (fun _ wx => Hid (Sz wx g (n + 1) dp1 (b2 || !c3)) ∧ Hid (Kp [g] w2b wx))
  case first =>
    go_wp2_with (go_at_call 32; refine (right_c g _ _ _ _ _ hS2b.out).mono ?_; rintro r w3 ⟨rfl, hS3, hk3⟩)
    all_goals
      go_meet
      case rel => exact ⟨sz_to hS3 (hc3.out.symm.trans (by first | (simp [*]; done) | (simp [*]; omega))), hk3⟩
  case rest =>
    obtain ⟨hS3, hk3⟩ := hcut
    have hB3 := hB2b.out.kp hk3.out hne.out
    clear e0 e1 e2 e3 e4 e5
    have e3 := hB3.cell 3 (v := .string s) rfl
    have e4 := hB3.cell 4 (v := .string f) rfl
    have e5 := hB3.cell 5 (v := .slice q len cap) rfl
    obtain ⟨b3, hb3⟩ : ∃ b, (b2 || !c3) = b := ⟨_, rfl⟩
    rw [hb3] at hS3
    replace hb3 := Lib.hid hb3
    replace hB3 := Lib.hid hB3
    obtain ⟨w3, hw3⟩ : ∃ x, wc = x := ⟨_, rfl⟩
    subst hw3
    go_upto_region 20 with fail
    go_cut [1] (fun _ wx => Hid (Sz wx g (n + 1) dp1 (b3 || !c4)) ∧ Hid (Kp [g] wc wx))
    case first =>
      go_wp2_with (first | (go_at_call 33; refine (rname_c _ _ hs).mono ?_; rintro r w4 ⟨rfl, hkn⟩; rw [hc4.out]) | (go_at_call 32; refine (right_c g _ _ _ _ _ (by first | exact hS3.out | exact hS3.out.kp hkn)).mono ?_; rintro r w5 ⟨rfl, hS5, hk5⟩))
      all_goals
        go_meet
        case rel => exact ⟨sz_to hS5 (first_to hc4.out (by first | (left; simp [*]; done) | (right; simp [emB, *]; done))), by first | exact hkn.any.trans hk5 | exact hk5⟩
    case rest =>
      obtain ⟨hS4, hk4⟩ := hcut
      have hB4 := hB3.out.kp hk4.out hne.out
      clear e3 e4 e5
      have e4 := hB4.cell 4 (v := .string f) rfl
      have e5 := hB4.cell 5 (v := .slice q len cap) rfl
      obtain ⟨b4, hb4⟩ : ∃ b, (b3 || !c4) = b := ⟨_, rfl⟩
      rw [hb4] at hS4
      replace hb4 := Lib.hid hb4
      replace hB4 := Lib.hid hB4
      replace hk4 := Lib.hid (hk3.out.trans hk4.out)
      clear hS3 hk3
      obtain ⟨w4, hw4⟩ : ∃ x, wc = x := ⟨_, rfl⟩
      go_upto_region 21 with fail
      go_cut [1] (fun _ wx => Hid (Sz wx g (n + 1) dp1 (b4 || !c5)) ∧ Hid (Kp [g] w4 wx))
      case first =>
        subst hw4
        go_wp2_with (first | (go_at_call 33; refine (rname_c _ _ hf).mono ?_; rintro r w4 ⟨rfl, hkn⟩; rw [hc5.out]) | (go_at_call 32; refine (right_c g _ _ _ _ _ (by first | exact hS4.out | exact hS4.out.kp hkn)).mono ?_; rintro r w5 ⟨rfl, hS5, hk5⟩))
        all_goals
          go_meet
          case rel => exact ⟨sz_to hS5 (first_to hc5.out (by first | (left; simp [*]; done) | (right; simp [emB, *]; done))), by first | exact hkn.any.trans hk5 | exact hk5⟩
      case rest =>
        obtain ⟨hS5, hk5⟩ := hcut
        subst hw4
        have hB5 := hB4.out.kp hk5.out hne.out
        clear e4 e5
        have e5 := hB5.cell 5 (v := .slice q len cap) rfl
        have hk6 := Lib.hid (hk4.out.trans hk5.out)
        have hend := Lib.hid (sz_end hk3a.out hk6.out)
        obtain ⟨b5, hb5⟩ : ∃ b, (b4 || !c5) = b := ⟨_, rfl⟩
        rw [hb5] at hS5
        have hres : Hid (b5 = (!(decide (n + 1 ≤ 500) && decide (d ≤ 14) && (true && (c3 && c4 && c5))))) := by
          show _ = _
          rw [← hb5, ← hb4.out, ← hb3.out, ← hb2.out, ← hb1.out]
          by_cases h1 : n + 1 ≤ 500 <;> by_cases h2 : d ≤ 14 <;> simp [h1, h2, Int.not_lt.2, Int.not_le.1] <;> (try omega) <;> simp [Bool.or_assoc]
        clear hB5 hS4 hk4 hk5 hk6
        cases b5
        · have h3 : Hid ((decide (n + 1 ≤ 500) && decide (d ≤ 14) && (true && (c3 && c4 && c5))) = true) := tr_of hres.out
          have h4 : n + 1 ≤ 500 ∧ d ≤ 14 := by have := h3.out; simp only [Bool.and_eq_true, decide_eq_true_eq] at this; exact this.1
          have hcall := Lib.hid (hexp.out wc dp1 hend.out hS5 h4.1 h4.2)
          clear h4
          go_wp2_with fail
          refine hcall.out.mono ?_
          rintro r w9 ⟨rfl, hk9, hR⟩
          go_wp2_with fail
          go_end0
          rw [hc3.out, hc4.out, hc5.out, h3.out, Bool.true_and]
          exact ⟨rfl, hend.out.trans hk9, hR⟩
        · have h3 : Hid ((decide (n + 1 ≤ 500) && decide (d ≤ 14) && (true && (c3 && c4 && c5))) = false) := fl_of hres.out
          have hcall := Lib.hid (hwr.out wc _ _ hS5)
          go_wp2_with fail
          refine hcall.out.mono ?_
          rintro r w9 ⟨rfl, rfl⟩
          go_wp2_with fail
          go_end0
          rw [hc3.out, hc4.out, hc5.out, h3.out, Bool.false_and]
          exact ⟨rfl, hend.out, _, _, hS5, fun h => by cases h⟩
end Go.Proofs.YtgldbeacjacbcaaGreat

set_option linter.unusedSimpArgs false
set_option linter.unusedVariables false
namespace Go.Proofs.YtgldbeacjacbcaaGreat
open Go.RowKit

set_option maxRecDepth 100000 in
set_option maxHeartbeats 4000000 in
theorem sz_lo (op kind m : Int) (h8 : op < 1) (s f : ByteArray) (q : Option Addr) (len cap : Nat) (g : Nat) (n dp d : Int) (w : World) (hs : s.size ≤ 140737488355328) (hf : f.size ≤ 140737488355328) (hS : Sz w g n dp false)
    (hn0 : 0 ≤ n) (hn5 : n ≤ 500) (hd0 : 0 ≤ d) (hd1 : d ≤ 15) (ok : Bool) (n' : Int)
    (hexp : Hid (∀ w2 dp2, Kp [g] w w2 → Sz w2 g (n + 1) dp2 false → n + 1 ≤ 500 → d ≤ 14 → Calls Tryz.prog 34 #[.pointer (some ⟨g, 0, none⟩), .slice q len cap, .int .i64 (d + 1)] w2 (SzRes g ok n' w2)))
    (hwr : Hid (∀ w2 n2 dp2, Sz w2 g n2 dp2 true → Calls Tryz.prog 34 #[.pointer (some ⟨g, 0, none⟩), .slice q len cap, .int .i64 (d + 1)] w2 (fun r w' => r = .returned (.tuple #[]) ∧ w' = w2))) :
    Calls Tryz.prog 16 #[.pointer (some ⟨g, 0, none⟩), .agg #[.int .i64 op, .int .i64 kind, .int .i64 m, .string s, .string f, .slice q len cap], .int .i64 d] w
      (SzRes g (decide (n + 1 ≤ 500) && decide (d ≤ 14) && (false && (((len : Int) == 2 && (kind == 0 && m == 0)) && emB s && emB f)) && ok) n' w) := by
  have hg := Blk.lt hS
  have hB := Blk.new w 24 #[.int .i64 op, .int .i64 kind, .int .i64 m, .string s, .string f, .slice q len cap]
  have hS1 := Lib.hid (hS.cells (.cells #[.int .i64 op, .int .i64 kind, .int .i64 m, .string s, .string f, .slice q len cap] 24))
  have hc2 := Blk.cell hS 2 (v := .bool false) rfl
  replace hS := Lib.hid hS
  replace hB := Lib.hid hB
  have n1 : ¬ op = 1 := by omega
  have b1' : (op == 1) = false := by simpa using n1
  have n2 : ¬ op = 2 := by omega
  have b2' : (op == 2) = false := by simpa using n2
  have n3 : ¬ op = 3 := by omega
  have b3' : (op == 3) = false := by simpa using n3
  have n4 : ¬ op = 4 := by omega
  have b4' : (op == 4) = false := by simpa using n4
  have n5 : ¬ op = 5 := by omega
  have b5' : (op == 5) = false := by simpa using n5
  have n6 : ¬ op = 6 := by omega
  have b6' : (op == 6) = false := by simpa using n6
  have n7 : ¬ op = 7 := by omega
  have b7' : (op == 7) = false := by simpa using n7
  have h8b : ¬ 8 ≤ op := by omega
  try obtain ⟨h8c, h8d⟩ := h8b
  go_enter Tryz.func16, Tryz.ntmps16
  go_wp2_with fail
  refine (node_c g n dp d _ hS1.out hn0 (by omega)).mono ?_
  rintro r w2 ⟨rfl, hS2, hk2⟩
  have hne : w.heap.size ∉ [g] := by simp; omega
  have hB2 := hB.out.kp hk2 hne
  have e0 := hB2.cell 0 (v := .int .i64 op) rfl
  have e1 := hB2.cell 1 (v := .int .i64 kind) rfl
  have e2 := hB2.cell 2 (v := .int .i64 m) rfl
  have e3 := hB2.cell 3 (v := .string s) rfl
  have e4 := hB2.cell 4 (v := .string f) rfl
  have e5 := hB2.cell 5 (v := .slice q len cap) rfl
  obtain ⟨b1, hb1⟩ : ∃ b, (decide (500 < n + 1) || decide (14 < d)) = b := ⟨_, rfl⟩
  obtain ⟨dp1, hdp1⟩ : ∃ x, max dp d = x := ⟨_, rfl⟩
  rw [hb1, hdp1] at hS2
  replace hS2 := Lib.hid hS2
  replace hB2 := Lib.hid hB2
  replace hb1 := Lib.hid hb1
  replace hk2 := Lib.hid hk2
  replace hne := Lib.hid hne
  clear hdp1 hc2
  obtain ⟨c3, hc3⟩ : ∃ c : Bool, ((len : Int) == 2 && (kind == 0 && m == 0)) = c := ⟨_, rfl⟩
  obtain ⟨c4, hc4⟩ : ∃ c : Bool, emB s = c := ⟨_, rfl⟩
  obtain ⟨c5, hc5⟩ : ∃ c : Bool, emB f = c := ⟨_, rfl⟩
  replace hc3 := Lib.hid hc3
  replace hc4 := Lib.hid hc4
  replace hc5 := Lib.hid hc5
  go_upto_region 19 with (go_at_call 32; refine (right_c g _ _ _ _ _ hS2.out).mono ?_; rintro r w2b ⟨rfl, hS2b, hk2b⟩)
  have hk3a := Lib.hid (hk2.out.trans hk2b)
  have hB2b := hB2.out.kp hk2b hne.out
  clear e0 e1 e2 e3 e4 e5 hS2 hk2
  obtain ⟨w2, hw2⟩ : ∃ x, w2b = x := ⟨_, rfl⟩
  subst hw2
  have e0 := hB2b.cell 0 (v := .int .i64 op) rfl
  have e1 := hB2b.cell 1 (v := .int .i64 kind) rfl
  have e2 := hB2b.cell 2 (v := .int .i64 m) rfl
  have e3 := hB2b.cell 3 (v := .string s) rfl
  have e4 := hB2b.cell 4 (v := .string f) rfl
  have e5 := hB2b.cell 5 (v := .slice q len cap) rfl
  replace hS2b := sz_to (c := false) hS2b (by first | rfl | (simp; omega))
  obtain ⟨b2, hb2⟩ : ∃ b, (b1 || !false) = b := ⟨_, rfl⟩
  rw [hb2] at hS2b
  replace hb2 := Lib.hid hb2
  replace hS2b := Lib.hid hS2b
  replace hB2b := Lib.hid hB2b
  go_cut [1] (fun _ wx => Hid (Sz wx g (n + 1) dp1 (b2 || !c3)) ∧ Hid (Kp [g] w2b wx))
  case first =>
    go_wp2_with (go_at_call 32; refine (right_c g _ _ _ _ _ hS2b.out).mono ?_; rintro r w3 ⟨rfl, hS3, hk3⟩)
    all_goals
      go_meet
      case rel => exact ⟨sz_to hS3 (hc3.out.symm.trans (by first | (simp [*]; done) | (simp [*]; omega))), hk3⟩
  case rest =>
    obtain ⟨hS3, hk3⟩ := hcut
    have hB3 := hB2b.out.kp hk3.out hne.out
    clear e0 e1 e2 e3 e4 e5
    have e3 := hB3.cell 3 (v := .string s) rfl
    have e4 := hB3.cell 4 (v := .string f) rfl
    have e5 := hB3.cell 5 (v := .slice q len cap) rfl
    obtain ⟨b3, hb3⟩ : ∃ b, (b2 || !c3) = b := ⟨_, rfl⟩
    rw [hb3] at hS3
    replace hb3 := Lib.hid hb3
    replace hB3 := Lib.hid hB3
    obtain ⟨w3, hw3⟩ : ∃ x, wc = x := ⟨_, rfl⟩
    subst hw3
    go_upto_region 20 with fail
    go_cut [1] (fun _ wx => Hid (Sz wx g (n + 1) dp1 (b3 || !c4)) ∧ Hid (Kp [g] wc wx))
    case first =>
      go_wp2_with (first | (go_at_call 33; refine (rname_c _ _ hs).mono ?_; rintro r w4 ⟨rfl, hkn⟩; rw [hc4.out]) | (go_at_call 32; refine (right_c g _ _ _ _ _ (by first | exact hS3.out | exact hS3.out.kp hkn)).mono ?_; rintro r w5 ⟨rfl, hS5, hk5⟩))
      all_goals
        go_meet
        case rel => exact ⟨sz_to hS5 (first_to hc4.out (by first | (left; simp [*]; done) | (right; simp [emB, *]; done))), by first | exact hkn.any.trans hk5 | exact hk5⟩
    case rest =>
      obtain ⟨hS4, hk4⟩ := hcut
      have hB4 := hB3.out.kp hk4.out hne.out
      clear e3 e4 e5
      have e4 := hB4.cell 4 (v := .string f) rfl
      have e5 := hB4.cell 5 (v := .slice q len cap) rfl
      obtain ⟨b4, hb4⟩ : ∃ b, (b3 || !c4) = b := ⟨_, rfl⟩
      rw [hb4] at hS4
      replace hb4 := Lib.hid hb4
      replace hB4 := Lib.hid hB4
      replace hk4 := Lib.hid (hk3.out.trans hk4.out)
      clear hS3 hk3
      obtain ⟨w4, hw4⟩ : ∃ x, wc = x := ⟨_, rfl⟩
      go_upto_region 21 with fail
      go_cut [1] (fun _ wx => Hid (Sz wx g (n + 1) dp1 (b4 || !c5)) ∧ Hid (Kp [g] w4 wx))
      case first =>
        subst hw4
        go_wp2_with (first | (go_at_call 33; refine (rname_c _ _ hf).mono ?_; rintro r w4 ⟨rfl, hkn⟩; rw [hc5.out]) | (go_at_call 32; refine (right_c g _ _ _ _ _ (by first | exact hS4.out | exact hS4.out.kp hkn)).mono ?_; rintro r w5 ⟨rfl, hS5, hk5⟩))
        all_goals
          go_meet
          case rel => exact ⟨sz_to hS5 (first_to hc5.out (by first | (left; simp [*]; done) | (right; simp [emB, *]; done))), by first | exact hkn.any.trans hk5 | exact hk5⟩
      case rest =>
        obtain ⟨hS5, hk5⟩ := hcut
        subst hw4
        have hB5 := hB4.out.kp hk5.out hne.out
        clear e4 e5
        have e5 := hB5.cell 5 (v := .slice q len cap) rfl
        have hk6 := Lib.hid (hk4.out.trans hk5.out)
        have hend := Lib.hid (sz_end hk3a.out hk6.out)
        obtain ⟨b5, hb5⟩ : ∃ b, (b4 || !c5) = b := ⟨_, rfl⟩
        rw [hb5] at hS5
        have hres : Hid (b5 = (!(decide (n + 1 ≤ 500) && decide (d ≤ 14) && (false && (c3 && c4 && c5))))) := by
          show _ = _
          rw [← hb5, ← hb4.out, ← hb3.out, ← hb2.out, ← hb1.out]
          by_cases h1 : n + 1 ≤ 500 <;> by_cases h2 : d ≤ 14 <;> simp [h1, h2, Int.not_lt.2, Int.not_le.1] <;> (try omega) <;> simp [Bool.or_assoc]
        clear hB5 hS4 hk4 hk5 hk6
        cases b5
        · have h3 : Hid ((decide (n + 1 ≤ 500) && decide (d ≤ 14) && (false && (c3 && c4 && c5))) = true) := tr_of hres.out
          have h4 : n + 1 ≤ 500 ∧ d ≤ 14 := by have := h3.out; simp only [Bool.and_eq_true, decide_eq_true_eq] at this; exact this.1
          have hcall := Lib.hid (hexp.out wc dp1 hend.out hS5 h4.1 h4.2)
          clear h4
          go_wp2_with fail
          refine hcall.out.mono ?_
          rintro r w9 ⟨rfl, hk9, hR⟩
          go_wp2_with fail
          go_end0
          rw [hc3.out, hc4.out, hc5.out, h3.out, Bool.true_and]
          exact ⟨rfl, hend.out.trans hk9, hR⟩
        · have h3 : Hid ((decide (n + 1 ≤ 500) && decide (d ≤ 14) && (false && (c3 && c4 && c5))) = false) := fl_of hres.out
          have hcall := Lib.hid (hwr.out wc _ _ hS5)
          go_wp2_with fail
          refine hcall.out.mono ?_
          rintro r w9 ⟨rfl, rfl⟩
          go_wp2_with fail
          go_end0
          rw [hc3.out, hc4.out, hc5.out, h3.out, Bool.false_and]
          exact ⟨rfl, hend.out, _, _, hS5, fun h => by cases h⟩
set_option maxRecDepth 100000 in
set_option maxHeartbeats 4000000 in
theorem sz_hi (op kind m : Int) (h21 : 21 < op) (s f : ByteArray) (q : Option Addr) (len cap : Nat) (g : Nat) (n dp d : Int) (w : World) (hs : s.size ≤ 140737488355328) (hf : f.size ≤ 140737488355328) (hS : Sz w g n dp false)
    (hn0 : 0 ≤ n) (hn5 : n ≤ 500) (hd0 : 0 ≤ d) (hd1 : d ≤ 15) (ok : Bool) (n' : Int)
    (hexp : Hid (∀ w2 dp2, Kp [g] w w2 → Sz w2 g (n + 1) dp2 false → n + 1 ≤ 500 → d ≤ 14 → Calls Tryz.prog 34 #[.pointer (some ⟨g, 0, none⟩), .slice q len cap, .int .i64 (d + 1)] w2 (SzRes g ok n' w2)))
    (hwr : Hid (∀ w2 n2 dp2, Sz w2 g n2 dp2 true → Calls Tryz.prog 34 #[.pointer (some ⟨g, 0, none⟩), .slice q len cap, .int .i64 (d + 1)] w2 (fun r w' => r = .returned (.tuple #[]) ∧ w' = w2))) :
    Calls Tryz.prog 16 #[.pointer (some ⟨g, 0, none⟩), .agg #[.int .i64 op, .int .i64 kind, .int .i64 m, .string s, .string f, .slice q len cap], .int .i64 d] w
      (SzRes g (decide (n + 1 ≤ 500) && decide (d ≤ 14) && (false && (((len : Int) == 2 && (kind == 0 && m == 0)) && emB s && emB f)) && ok) n' w) := by
  have hg := Blk.lt hS
  have hB := Blk.new w 24 #[.int .i64 op, .int .i64 kind, .int .i64 m, .string s, .string f, .slice q len cap]
  have hS1 := Lib.hid (hS.cells (.cells #[.int .i64 op, .int .i64 kind, .int .i64 m, .string s, .string f, .slice q len cap] 24))
  have hc2 := Blk.cell hS 2 (v := .bool false) rfl
  replace hS := Lib.hid hS
  replace hB := Lib.hid hB
  have n1 : ¬ op = 1 := by omega
  have b1' : (op == 1) = false := by simpa using n1
  have n2 : ¬ op = 2 := by omega
  have b2' : (op == 2) = false := by simpa using n2
  have n3 : ¬ op = 3 := by omega
  have b3' : (op == 3) = false := by simpa using n3
  have n4 : ¬ op = 4 := by omega
  have b4' : (op == 4) = false := by simpa using n4
  have n5 : ¬ op = 5 := by omega
  have b5' : (op == 5) = false := by simpa using n5
  have n6 : ¬ op = 6 := by omega
  have b6' : (op == 6) = false := by simpa using n6
  have n7 : ¬ op = 7 := by omega
  have b7' : (op == 7) = false := by simpa using n7
  have h8b : 8 ≤ op ∧ ¬ op ≤ 21 := by omega
  try obtain ⟨h8c, h8d⟩ := h8b
  go_enter Tryz.func16, Tryz.ntmps16
  go_wp2_with fail
  refine (node_c g n dp d _ hS1.out hn0 (by omega)).mono ?_
  rintro r w2 ⟨rfl, hS2, hk2⟩
  have hne : w.heap.size ∉ [g] := by simp; omega
  have hB2 := hB.out.kp hk2 hne
  have e0 := hB2.cell 0 (v := .int .i64 op) rfl
  have e1 := hB2.cell 1 (v := .int .i64 kind) rfl
  have e2 := hB2.cell 2 (v := .int .i64 m) rfl
  have e3 := hB2.cell 3 (v := .string s) rfl
  have e4 := hB2.cell 4 (v := .string f) rfl
  have e5 := hB2.cell 5 (v := .slice q len cap) rfl
  obtain ⟨b1, hb1⟩ : ∃ b, (decide (500 < n + 1) || decide (14 < d)) = b := ⟨_, rfl⟩
  obtain ⟨dp1, hdp1⟩ : ∃ x, max dp d = x := ⟨_, rfl⟩
  rw [hb1, hdp1] at hS2
  replace hS2 := Lib.hid hS2
  replace hB2 := Lib.hid hB2
  replace hb1 := Lib.hid hb1
  replace hk2 := Lib.hid hk2
  replace hne := Lib.hid hne
  clear hdp1 hc2
  obtain ⟨c3, hc3⟩ : ∃ c : Bool, ((len : Int) == 2 && (kind == 0 && m == 0)) = c := ⟨_, rfl⟩
  obtain ⟨c4, hc4⟩ : ∃ c : Bool, emB s = c := ⟨_, rfl⟩
  obtain ⟨c5, hc5⟩ : ∃ c : Bool, emB f = c := ⟨_, rfl⟩
  replace hc3 := Lib.hid hc3
  replace hc4 := Lib.hid hc4
  replace hc5 := Lib.hid hc5
  go_upto_region 19 with (go_at_call 32; refine (right_c g _ _ _ _ _ hS2.out).mono ?_; rintro r w2b ⟨rfl, hS2b, hk2b⟩)
  have hk3a := Lib.hid (hk2.out.trans hk2b)
  have hB2b := hB2.out.kp hk2b hne.out
  clear e0 e1 e2 e3 e4 e5 hS2 hk2
  obtain ⟨w2, hw2⟩ : ∃ x, w2b = x := ⟨_, rfl⟩
  subst hw2
  have e0 := hB2b.cell 0 (v := .int .i64 op) rfl
  have e1 := hB2b.cell 1 (v := .int .i64 kind) rfl
  have e2 := hB2b.cell 2 (v := .int .i64 m) rfl
  have e3 := hB2b.cell 3 (v := .string s) rfl
  have e4 := hB2b.cell 4 (v := .string f) rfl
  have e5 := hB2b.cell 5 (v := .slice q len cap) rfl
  replace hS2b := sz_to (c := false) hS2b (by first | rfl | (simp; omega))
  obtain ⟨b2, hb2⟩ : ∃ b, (b1 || !false) = b := ⟨_, rfl⟩
  rw [hb2] at hS2b
  replace hb2 := Lib.hid hb2
  replace hS2b := Lib.hid hS2b
  replace hB2b := Lib.hid hB2b
  go_cut [1] (fun _ wx => Hid (Sz wx g (n + 1) dp1 (b2 || !c3)) ∧ Hid (Kp [g] w2b wx))
  case first =>
    go_wp2_with (go_at_call 32; refine (right_c g _ _ _ _ _ hS2b.out).mono ?_; rintro r w3 ⟨rfl, hS3, hk3⟩)
    all_goals
      go_meet
      case rel => exact ⟨sz_to hS3 (hc3.out.symm.trans (by first | (simp [*]; done) | (simp [*]; omega))), hk3⟩
  case rest =>
    obtain ⟨hS3, hk3⟩ := hcut
    have hB3 := hB2b.out.kp hk3.out hne.out
    clear e0 e1 e2 e3 e4 e5
    have e3 := hB3.cell 3 (v := .string s) rfl
    have e4 := hB3.cell 4 (v := .string f) rfl
    have e5 := hB3.cell 5 (v := .slice q len cap) rfl
    obtain ⟨b3, hb3⟩ : ∃ b, (b2 || !c3) = b := ⟨_, rfl⟩
    rw [hb3] at hS3
    replace hb3 := Lib.hid hb3
    replace hB3 := Lib.hid hB3
    obtain ⟨w3, hw3⟩ : ∃ x, wc = x := ⟨_, rfl⟩
    subst hw3
    go_upto_region 20 with fail
    go_cut [1] (fun _ wx => Hid (Sz wx g (n + 1) dp1 (b3 || !c4)) ∧ Hid (Kp [g] wc wx))
    case first =>
      go_wp2_with (first | (go_at_call 33; refine (rname_c _ _ hs).mono ?_; rintro r w4 ⟨rfl, hkn⟩; rw [hc4.out]) | (go_at_call 32; refine (right_c g _ _ _ _ _ (by first | exact hS3.out | exact hS3.out.kp hkn)).mono ?_; rintro r w5 ⟨rfl, hS5, hk5⟩))
      all_goals
        go_meet
        case rel => exact ⟨sz_to hS5 (first_to hc4.out (by first | (left; simp [*]; done) | (right; simp [emB, *]; done))), by first | exact hkn.any.trans hk5 | exact hk5⟩
    case rest =>
      obtain ⟨hS4, hk4⟩ := hcut
      have hB4 := hB3.out.kp hk4.out hne.out
      clear e3 e4 e5
      have e4 := hB4.cell 4 (v := .string f) rfl
      have e5 := hB4.cell 5 (v := .slice q len cap) rfl
      obtain ⟨b4, hb4⟩ : ∃ b, (b3 || !c4) = b := ⟨_, rfl⟩
      rw [hb4] at hS4
      replace hb4 := Lib.hid hb4
      replace hB4 := Lib.hid hB4
      replace hk4 := Lib.hid (hk3.out.trans hk4.out)
      clear hS3 hk3
      obtain ⟨w4, hw4⟩ : ∃ x, wc = x := ⟨_, rfl⟩
      go_upto_region 21 with fail
      go_cut [1] (fun _ wx => Hid (Sz wx g (n + 1) dp1 (b4 || !c5)) ∧ Hid (Kp [g] w4 wx))
      case first =>
        subst hw4
        go_wp2_with (first | (go_at_call 33; refine (rname_c _ _ hf).mono ?_; rintro r w4 ⟨rfl, hkn⟩; rw [hc5.out]) | (go_at_call 32; refine (right_c g _ _ _ _ _ (by first | exact hS4.out | exact hS4.out.kp hkn)).mono ?_; rintro r w5 ⟨rfl, hS5, hk5⟩))
        all_goals
          go_meet
          case rel => exact ⟨sz_to hS5 (first_to hc5.out (by first | (left; simp [*]; done) | (right; simp [emB, *]; done))), by first | exact hkn.any.trans hk5 | exact hk5⟩
      case rest =>
        obtain ⟨hS5, hk5⟩ := hcut
        subst hw4
        have hB5 := hB4.out.kp hk5.out hne.out
        clear e4 e5
        have e5 := hB5.cell 5 (v := .slice q len cap) rfl
        have hk6 := Lib.hid (hk4.out.trans hk5.out)
        have hend := Lib.hid (sz_end hk3a.out hk6.out)
        obtain ⟨b5, hb5⟩ : ∃ b, (b4 || !c5) = b := ⟨_, rfl⟩
        rw [hb5] at hS5
        have hres : Hid (b5 = (!(decide (n + 1 ≤ 500) && decide (d ≤ 14) && (false && (c3 && c4 && c5))))) := by
          show _ = _
          rw [← hb5, ← hb4.out, ← hb3.out, ← hb2.out, ← hb1.out]
          by_cases h1 : n + 1 ≤ 500 <;> by_cases h2 : d ≤ 14 <;> simp [h1, h2, Int.not_lt.2, Int.not_le.1] <;> (try omega) <;> simp [Bool.or_assoc]
        clear hB5 hS4 hk4 hk5 hk6
        cases b5
        · have h3 : Hid ((decide (n + 1 ≤ 500) && decide (d ≤ 14) && (false && (c3 && c4 && c5))) = true) := tr_of hres.out
          have h4 : n + 1 ≤ 500 ∧ d ≤ 14 := by have := h3.out; simp only [Bool.and_eq_true, decide_eq_true_eq] at this; exact this.1
          have hcall := Lib.hid (hexp.out wc dp1 hend.out hS5 h4.1 h4.2)
          clear h4
          go_wp2_with fail
          refine hcall.out.mono ?_
          rintro r w9 ⟨rfl, hk9, hR⟩
          go_wp2_with fail
          go_end0
          rw [hc3.out, hc4.out, hc5.out, h3.out, Bool.true_and]
          exact ⟨rfl, hend.out.trans hk9, hR⟩
        · have h3 : Hid ((decide (n + 1 ≤ 500) && decide (d ≤ 14) && (false && (c3 && c4 && c5))) = false) := fl_of hres.out
          have hcall := Lib.hid (hwr.out wc _ _ hS5)
          go_wp2_with fail
          refine hcall.out.mono ?_
          rintro r w9 ⟨rfl, rfl⟩
          go_wp2_with fail
          go_end0
          rw [hc3.out, hc4.out, hc5.out, h3.out, Bool.false_and]
          exact ⟨rfl, hend.out, _, _, hS5, fun h => by cases h⟩
end Go.Proofs.YtgldbeacjacbcaaGreat

set_option linter.unusedSimpArgs false
set_option linter.unusedVariables false
namespace Go.Proofs.YtgldbeacjacbcaaGreat
open Go.RowKit

set_option maxRecDepth 100000 in
set_option maxHeartbeats 4000000 in
theorem sz_1_a (kind m : Int) (h0 : m < 0) (s f : ByteArray) (q : Option Addr) (len cap : Nat) (g : Nat) (n dp d : Int) (w : World) (hs : s.size ≤ 140737488355328) (hf : f.size ≤ 140737488355328) (hS : Sz w g n dp false)
    (hn0 : 0 ≤ n) (hn5 : n ≤ 500) (hd0 : 0 ≤ d) (hd1 : d ≤ 15) (ok : Bool) (n' : Int)
    (hexp : Hid (∀ w2 dp2, Kp [g] w w2 → Sz w2 g (n + 1) dp2 false → n + 1 ≤ 500 → d ≤ 14 → Calls Tryz.prog 34 #[.pointer (some ⟨g, 0, none⟩), .slice q len cap, .int .i64 (d + 1)] w2 (SzRes g ok n' w2)))
    (hwr : Hid (∀ w2 n2 dp2, Sz w2 g n2 dp2 true → Calls Tryz.prog 34 #[.pointer (some ⟨g, 0, none⟩), .slice q len cap, .int .i64 (d + 1)] w2 (fun r w' => r = .returned (.tuple #[]) ∧ w' = w2))) :
    Calls Tryz.prog 16 #[.pointer (some ⟨g, 0, none⟩), .agg #[.int .i64 1, .int .i64 kind, .int .i64 m, .string s, .string f, .slice q len cap], .int .i64 d] w
      (SzRes g (decide (n + 1 ≤ 500) && decide (d ≤ 14) && (false && (((len : Int) == 0) && emB s && emB f)) && ok) n' w) := by
  have h0b : ¬ 0 ≤ m := by omega
  try obtain ⟨g4a, g4b, g4c⟩ := g4
  have hg := Blk.lt hS
  have hB := Blk.new w 24 #[.int .i64 1, .int .i64 kind, .int .i64 m, .string s, .string f, .slice q len cap]
  have hS1 := Lib.hid (hS.cells (.cells #[.int .i64 1, .int .i64 kind, .int .i64 m, .string s, .string f, .slice q len cap] 24))
  have hc2 := Blk.cell hS 2 (v := .bool false) rfl
  replace hS := Lib.hid hS
  replace hB := Lib.hid hB
  go_enter Tryz.func16, Tryz.ntmps16
  go_wp2_with fail
  refine (node_c g n dp d _ hS1.out hn0 (by omega)).mono ?_
  rintro r w2 ⟨rfl, hS2, hk2⟩
  have hne : w.heap.size ∉ [g] := by simp; omega
  have hB2 := hB.out.kp hk2 hne
  have e0 := hB2.cell 0 (v := .int .i64 1) rfl
  have e1 := hB2.cell 1 (v := .int .i64 kind) rfl
  have e2 := hB2.cell 2 (v := .int .i64 m) rfl
  have e3 := hB2.cell 3 (v := .string s) rfl
  have e4 := hB2.cell 4 (v := .string f) rfl
  have e5 := hB2.cell 5 (v := .slice q len cap) rfl
  obtain ⟨b1, hb1⟩ : ∃ b, (decide (500 < n + 1) || decide (14 < d)) = b := ⟨_, rfl⟩
  obtain ⟨dp1, hdp1⟩ : ∃ x, max dp d = x := ⟨_, rfl⟩
  rw [hb1, hdp1] at hS2
  replace hS2 := Lib.hid hS2
  replace hB2 := Lib.hid hB2
  replace hb1 := Lib.hid hb1
  replace hk2 := Lib.hid hk2
  replace hne := Lib.hid hne
  clear hdp1 hc2
  obtain ⟨c3, hc3⟩ : ∃ c : Bool, ((len : Int) == 0) = c := ⟨_, rfl⟩
  obtain ⟨c4, hc4⟩ : ∃ c : Bool, emB s = c := ⟨_, rfl⟩
  obtain ⟨c5, hc5⟩ : ∃ c : Bool, emB f = c := ⟨_, rfl⟩
  replace hc3 := Lib.hid hc3
  replace hc4 := Lib.hid hc4
  replace hc5 := Lib.hid hc5
  go_upto_region 19 with (go_at_call 32; refine (right_c g _ _ _ _ _ hS2.out).mono ?_; rintro r w2b ⟨rfl, hS2b, hk2b⟩)
  have hk3a := Lib.hid (hk2.out.trans hk2b)
  have hB2b := hB2.out.kp hk2b hne.out
  clear e0 e1 e2 e3 e4 e5 hS2 hk2
  obtain ⟨w2, hw2⟩ : ∃ x, w2b = x := ⟨_, rfl⟩
  subst hw2
  have e0 := hB2b.cell 0 (v := .int .i64 1) rfl
  have e1 := hB2b.cell 1 (v := .int .i64 kind) rfl
  have e2 := hB2b.cell 2 (v := .int .i64 m) rfl
  have e3 := hB2b.cell 3 (v := .string s) rfl
  have e4 := hB2b.cell 4 (v := .string f) rfl
  have e5 := hB2b.cell 5 (v := .slice q len cap) rfl
  replace hS2b := sz_to (c := false) hS2b (by first | rfl | (simp; omega))
  obtain ⟨b2, hb2⟩ : ∃ b, (b1 || !false) = b := ⟨_, rfl⟩
  rw [hb2] at hS2b
  replace hb2 := Lib.hid hb2
  replace hS2b := Lib.hid hS2b
  replace hB2b := Lib.hid hB2b
  go_cut [1] (fun _ wx => Hid (Sz wx g (n + 1) dp1 (b2 || !c3)) ∧ Hid (Kp [g] w2b wx))
  case first =>
    go_wp2_with (go_at_call 32; refine (right_c g _ _ _ _ _ hS2b.out).mono ?_; rintro r w3 ⟨rfl, hS3, hk3⟩)
    all_goals
      go_meet
      case rel => exact ⟨sz_to hS3 (hc3.out.symm.trans (by first | (simp [*]; done) | (simp [*]; omega))), hk3⟩
  case rest =>
    obtain ⟨hS3, hk3⟩ := hcut
    have hB3 := hB2b.out.kp hk3.out hne.out
    clear e0 e1 e2 e3 e4 e5
    have e3 := hB3.cell 3 (v := .string s) rfl
    have e4 := hB3.cell 4 (v := .string f) rfl
    have e5 := hB3.cell 5 (v := .slice q len cap) rfl
    obtain ⟨b3, hb3⟩ : ∃ b, (b2 || !c3) = b := ⟨_, rfl⟩
    rw [hb3] at hS3
    replace hb3 := Lib.hid hb3
    replace hB3 := Lib.hid hB3
    obtain ⟨w3, hw3⟩ : ∃ x, wc = x := ⟨_, rfl⟩
    subst hw3
    go_upto_region 20 with fail
    go_cut [1] (fun _ wx => Hid (Sz wx g (n + 1) dp1 (b3 || !c4)) ∧ Hid (Kp [g] wc wx))
    case first =>
      go_wp2_with (first | (go_at_call 33; refine (rname_c _ _ hs).mono ?_; rintro r w4 ⟨rfl, hkn⟩; rw [hc4.out]) | (go_at_call 32; refine (right_c g _ _ _ _ _ (by first | exact hS3.out | exact hS3.out.kp hkn)).mono ?_; rintro r w5 ⟨rfl, hS5, hk5⟩))
      all_goals
        go_meet
        case rel => exact ⟨sz_to hS5 (first_to hc4.out (by first | (left; simp [*]; done) | (right; simp [emB, *]; done))), by first | exact hkn.any.trans hk5 | exact hk5⟩
    case rest =>
      obtain ⟨hS4, hk4⟩ := hcut
      have hB4 := hB3.out.kp hk4.out hne.out
      clear e3 e4 e5
      have e4 := hB4.cell 4 (v := .string f) rfl
      have e5 := hB4.cell 5 (v := .slice q len cap) rfl
      obtain ⟨b4, hb4⟩ : ∃ b, (b3 || !c4) = b := ⟨_, rfl⟩
      rw [hb4] at hS4
      replace hb4 := Lib.hid hb4
      replace hB4 := Lib.hid hB4
      replace hk4 := Lib.hid (hk3.out.trans hk4.out)
      clear hS3 hk3
      obtain ⟨w4, hw4⟩ : ∃ x, wc = x := ⟨_, rfl⟩
      go_upto_region 21 with fail
      go_cut [1] (fun _ wx => Hid (Sz wx g (n + 1) dp1 (b4 || !c5)) ∧ Hid (Kp [g] w4 wx))
      case first =>
        subst hw4
        go_wp2_with (first | (go_at_call 33; refine (rname_c _ _ hf).mono ?_; rintro r w4 ⟨rfl, hkn⟩; rw [hc5.out]) | (go_at_call 32; refine (right_c g _ _ _ _ _ (by first | exact hS4.out | exact hS4.out.kp hkn)).mono ?_; rintro r w5 ⟨rfl, hS5, hk5⟩))
        all_goals
          go_meet
          case rel => exact ⟨sz_to hS5 (first_to hc5.out (by first | (left; simp [*]; done) | (right; simp [emB, *]; done))), by first | exact hkn.any.trans hk5 | exact hk5⟩
      case rest =>
        obtain ⟨hS5, hk5⟩ := hcut
        subst hw4
        have hB5 := hB4.out.kp hk5.out hne.out
        clear e4 e5
        have e5 := hB5.cell 5 (v := .slice q len cap) rfl
        have hk6 := Lib.hid (hk4.out.trans hk5.out)
        have hend := Lib.hid (sz_end hk3a.out hk6.out)
        obtain ⟨b5, hb5⟩ : ∃ b, (b4 || !c5) = b := ⟨_, rfl⟩
        rw [hb5] at hS5
        have hres : Hid (b5 = (!(decide (n + 1 ≤ 500) && decide (d ≤ 14) && (false && (c3 && c4 && c5))))) := by
          show _ = _
          rw [← hb5, ← hb4.out, ← hb3.out, ← hb2.out, ← hb1.out]
          by_cases h1 : n + 1 ≤ 500 <;> by_cases h2 : d ≤ 14 <;> simp [h1, h2, Int.not_lt.2, Int.not_le.1] <;> (try omega) <;> simp [Bool.or_assoc]
        clear hB5 hS4 hk4 hk5 hk6
        cases b5
        · have h3 : Hid ((decide (n + 1 ≤ 500) && decide (d ≤ 14) && (false && (c3 && c4 && c5))) = true) := tr_of hres.out
          have h4 : n + 1 ≤ 500 ∧ d ≤ 14 := by have := h3.out; simp only [Bool.and_eq_true, decide_eq_true_eq] at this; exact this.1
          have hcall := Lib.hid (hexp.out wc dp1 hend.out hS5 h4.1 h4.2)
          clear h4
          go_wp2_with fail
          refine hcall.out.mono ?_
          rintro r w9 ⟨rfl, hk9, hR⟩
          go_wp2_with fail
          go_end0
          rw [hc3.out, hc4.out, hc5.out, h3.out, Bool.true_and]
          exact ⟨rfl, hend.out.trans hk9, hR⟩
        · have h3 : Hid ((decide (n + 1 ≤ 500) && decide (d ≤ 14) && (false && (c3 && c4 && c5))) = false) := fl_of hres.out
          have hcall := Lib.hid (hwr.out wc _ _ hS5)
          go_wp2_with fail
          refine hcall.out.mono ?_
          rintro r w9 ⟨rfl, rfl⟩
          go_wp2_with fail
          go_end0
          rw [hc3.out, hc4.out, hc5.out, h3.out, Bool.false_and]
          exact ⟨rfl, hend.out, _, _, hS5, fun h => by cases h⟩
set_option maxRecDepth 100000 in
set_option maxHeartbeats 4000000 in
theorem sz_1_b (kind m : Int) (h0 : 0 ≤ m) (h1 : 2147483647 < m) (s f : ByteArray) (q : Option Addr) (len cap : Nat) (g : Nat) (n dp d : Int) (w : World) (hs : s.size ≤ 140737488355328) (hf : f.size ≤ 140737488355328) (hS : Sz w g n dp false)
    (hn0 : 0 ≤ n) (hn5 : n ≤ 500) (hd0 : 0 ≤ d) (hd1 : d ≤ 15) (ok : Bool) (n' : Int)
    (hexp : Hid (∀ w2 dp2, Kp [g] w w2 → Sz w2 g (n + 1) dp2 false → n + 1 ≤ 500 → d ≤ 14 → Calls Tryz.prog 34 #[.pointer (some ⟨g, 0, none⟩), .slice q len cap, .int .i64 (d + 1)] w2 (SzRes g ok n' w2)))
    (hwr : Hid (∀ w2 n2 dp2, Sz w2 g n2 dp2 true → Calls Tryz.prog 34 #[.pointer (some ⟨g, 0, none⟩), .slice q len cap, .int .i64 (d + 1)] w2 (fun r w' => r = .returned (.tuple #[]) ∧ w' = w2))) :
    Calls Tryz.prog 16 #[.pointer (some ⟨g, 0, none⟩), .agg #[.int .i64 1, .int .i64 kind, .int .i64 m, .string s, .string f, .slice q len cap], .int .i64 d] w
      (SzRes g (decide (n + 1 ≤ 500) && decide (d ≤ 14) && (false && (((len : Int) == 0) && emB s && emB f)) && ok) n' w) := by
  have h1b : ¬ m ≤ 2147483647 := by omega
  try obtain ⟨g4a, g4b, g4c⟩ := g4
  have hg := Blk.lt hS
  have hB := Blk.new w 24 #[.int .i64 1, .int .i64 kind, .int .i64 m, .string s, .string f, .slice q len cap]
  have hS1 := Lib.hid (hS.cells (.cells #[.int .i64 1, .int .i64 kind, .int .i64 m, .string s, .string f, .slice q len cap] 24))
  have hc2 := Blk.cell hS 2 (v := .bool false) rfl
  replace hS := Lib.hid hS
  replace hB := Lib.hid hB
  go_enter Tryz.func16, Tryz.ntmps16
  go_wp2_with fail
  refine (node_c g n dp d _ hS1.out hn0 (by omega)).mono ?_
  rintro r w2 ⟨rfl, hS2, hk2⟩
  have hne : w.heap.size ∉ [g] := by simp; omega
  have hB2 := hB.out.kp hk2 hne
  have e0 := hB2.cell 0 (v := .int .i64 1) rfl
  have e1 := hB2.cell 1 (v := .int .i64 kind) rfl
  have e2 := hB2.cell 2 (v := .int .i64 m) rfl
  have e3 := hB2.cell 3 (v := .string s) rfl
  have e4 := hB2.cell 4 (v := .string f) rfl
  have e5 := hB2.cell 5 (v := .slice q len cap) rfl
  obtain ⟨b1, hb1⟩ : ∃ b, (decide (500 < n + 1) || decide (14 < d)) = b := ⟨_, rfl⟩
  obtain ⟨dp1, hdp1⟩ : ∃ x, max dp d = x := ⟨_, rfl⟩
  rw [hb1, hdp1] at hS2
  replace hS2 := Lib.hid hS2
  replace hB2 := Lib.hid hB2
  replace hb1 := Lib.hid hb1
  replace hk2 := Lib.hid hk2
  replace hne := Lib.hid hne
  clear hdp1 hc2
  obtain ⟨c3, hc3⟩ : ∃ c : Bool, ((len : Int) == 0) = c := ⟨_, rfl⟩
  obtain ⟨c4, hc4⟩ : ∃ c : Bool, emB s = c := ⟨_, rfl⟩
  obtain ⟨c5, hc5⟩ : ∃ c : Bool, emB f = c := ⟨_, rfl⟩
  replace hc3 := Lib.hid hc3
  replace hc4 := Lib.hid hc4
  replace hc5 := Lib.hid hc5
  go_upto_region 19 with (go_at_call 32; refine (right_c g _ _ _ _ _ hS2.out).mono ?_; rintro r w2b ⟨rfl, hS2b, hk2b⟩)
  have hk3a := Lib.hid (hk2.out.trans hk2b)
  have hB2b := hB2.out.kp hk2b hne.out
  clear e0 e1 e2 e3 e4 e5 hS2 hk2
  obtain ⟨w2, hw2⟩ : ∃ x, w2b = x := ⟨_, rfl⟩
  subst hw2
  have e0 := hB2b.cell 0 (v := .int .i64 1) rfl
  have e1 := hB2b.cell 1 (v := .int .i64 kind) rfl
  have e2 := hB2b.cell 2 (v := .int .i64 m) rfl
  have e3 := hB2b.cell 3 (v := .string s) rfl
  have e4 := hB2b.cell 4 (v := .string f) rfl
  have e5 := hB2b.cell 5 (v := .slice q len cap) rfl
  replace hS2b := sz_to (c := false) hS2b (by first | rfl | (simp; omega))
  obtain ⟨b2, hb2⟩ : ∃ b, (b1 || !false) = b := ⟨_, rfl⟩
  rw [hb2] at hS2b
  replace hb2 := Lib.hid hb2
  replace hS2b := Lib.hid hS2b
  replace hB2b := Lib.hid hB2b
  go_cut [1] (fun _ wx => Hid (Sz wx g (n + 1) dp1 (b2 || !c3)) ∧ Hid (Kp [g] w2b wx))
  case first =>
    go_wp2_with (go_at_call 32; refine (right_c g _ _ _ _ _ hS2b.out).mono ?_; rintro r w3 ⟨rfl, hS3, hk3⟩)
    all_goals
      go_meet
      case rel => exact ⟨sz_to hS3 (hc3.out.symm.trans (by first | (simp [*]; done) | (simp [*]; omega))), hk3⟩
  case rest =>
    obtain ⟨hS3, hk3⟩ := hcut
    have hB3 := hB2b.out.kp hk3.out hne.out
    clear e0 e1 e2 e3 e4 e5
    have e3 := hB3.cell 3 (v := .string s) rfl
    have e4 := hB3.cell 4 (v := .string f) rfl
    have e5 := hB3.cell 5 (v := .slice q len cap) rfl
    obtain ⟨b3, hb3⟩ : ∃ b, (b2 || !c3) = b := ⟨_, rfl⟩
    rw [hb3] at hS3
    replace hb3 := Lib.hid hb3
    replace hB3 := Lib.hid hB3
    obtain ⟨w3, hw3⟩ : ∃ x, wc = x := ⟨_, rfl⟩
    subst hw3
    go_upto_region 20 with fail
    go_cut [1] (fun _ wx => Hid (Sz wx g (n + 1) dp1 (b3 || !c4)) ∧ Hid (Kp [g] wc wx))
    case first =>
      go_wp2_with (first | (go_at_call 33; refine (rname_c _ _ hs).mono ?_; rintro r w4 ⟨rfl, hkn⟩; rw [hc4.out]) | (go_at_call 32; refine (right_c g _ _ _ _ _ (by first | exact hS3.out | exact hS3.out.kp hkn)).mono ?_; rintro r w5 ⟨rfl, hS5, hk5⟩))
      all_goals
        go_meet
        case rel => exact ⟨sz_to hS5 (first_to hc4.out (by first | (left; simp [*]; done) | (right; simp [emB, *]; done))), by first | exact hkn.any.trans hk5 | exact hk5⟩
    case rest =>
      obtain ⟨hS4, hk4⟩ := hcut
      have hB4 := hB3.out.kp hk4.out hne.out
      clear e3 e4 e5
      have e4 := hB4.cell 4 (v := .string f) rfl
      have e5 := hB4.cell 5 (v := .slice q len cap) rfl
      obtain ⟨b4, hb4⟩ : ∃ b, (b3 || !c4) = b := ⟨_, rfl⟩
      rw [hb4] at hS4
      replace hb4 := Lib.hid hb4
      replace hB4 := Lib.hid hB4
      replace hk4 := Lib.hid (hk3.out.trans hk4.out)
      clear hS3 hk3
      obtain ⟨w4, hw4⟩ : ∃ x, wc = x := ⟨_, rfl⟩
      go_upto_region 21 with fail
      go_cut [1] (fun _ wx => Hid (Sz wx g (n + 1) dp1 (b4 || !c5)) ∧ Hid (Kp [g] w4 wx))
      case first =>
        subst hw4
        go_wp2_with (first | (go_at_call 33; refine (rname_c _ _ hf).mono ?_; rintro r w4 ⟨rfl, hkn⟩; rw [hc5.out]) | (go_at_call 32; refine (right_c g _ _ _ _ _ (by first | exact hS4.out | exact hS4.out.kp hkn)).mono ?_; rintro r w5 ⟨rfl, hS5, hk5⟩))
        all_goals
          go_meet
          case rel => exact ⟨sz_to hS5 (first_to hc5.out (by first | (left; simp [*]; done) | (right; simp [emB, *]; done))), by first | exact hkn.any.trans hk5 | exact hk5⟩
      case rest =>
        obtain ⟨hS5, hk5⟩ := hcut
        subst hw4
        have hB5 := hB4.out.kp hk5.out hne.out
        clear e4 e5
        have e5 := hB5.cell 5 (v := .slice q len cap) rfl
        have hk6 := Lib.hid (hk4.out.trans hk5.out)
        have hend := Lib.hid (sz_end hk3a.out hk6.out)
        obtain ⟨b5, hb5⟩ : ∃ b, (b4 || !c5) = b := ⟨_, rfl⟩
        rw [hb5] at hS5
        have hres : Hid (b5 = (!(decide (n + 1 ≤ 500) && decide (d ≤ 14) && (false && (c3 && c4 && c5))))) := by
          show _ = _
          rw [← hb5, ← hb4.out, ← hb3.out, ← hb2.out, ← hb1.out]
          by_cases h1 : n + 1 ≤ 500 <;> by_cases h2 : d ≤ 14 <;> simp [h1, h2, Int.not_lt.2, Int.not_le.1] <;> (try omega) <;> simp [Bool.or_assoc]
        clear hB5 hS4 hk4 hk5 hk6
        cases b5
        · have h3 : Hid ((decide (n + 1 ≤ 500) && decide (d ≤ 14) && (false && (c3 && c4 && c5))) = true) := tr_of hres.out
          have h4 : n + 1 ≤ 500 ∧ d ≤ 14 := by have := h3.out; simp only [Bool.and_eq_true, decide_eq_true_eq] at this; exact this.1
          have hcall := Lib.hid (hexp.out wc dp1 hend.out hS5 h4.1 h4.2)
          clear h4
          go_wp2_with fail
          refine hcall.out.mono ?_
          rintro r w9 ⟨rfl, hk9, hR⟩
          go_wp2_with fail
          go_end0
          rw [hc3.out, hc4.out, hc5.out, h3.out, Bool.true_and]
          exact ⟨rfl, hend.out.trans hk9, hR⟩
        · have h3 : Hid ((decide (n + 1 ≤ 500) && decide (d ≤ 14) && (false && (c3 && c4 && c5))) = false) := fl_of hres.out
          have hcall := Lib.hid (hwr.out wc _ _ hS5)
          go_wp2_with fail
          refine hcall.out.mono ?_
          rintro r w9 ⟨rfl, rfl⟩
          go_wp2_with fail
          go_end0
          rw [hc3.out, hc4.out, hc5.out, h3.out, Bool.false_and]
          exact ⟨rfl, hend.out, _, _, hS5, fun h => by cases h⟩
set_option maxRecDepth 100000 in
set_option maxHeartbeats 4000000 in
theorem sz_1_c (m : Int) (h0 : 0 ≤ m) (h1 : m ≤ 2147483647) (s f : ByteArray) (q : Option Addr) (len cap : Nat) (g : Nat) (n dp d : Int) (w : World) (hs : s.size ≤ 140737488355328) (hf : f.size ≤ 140737488355328) (hS : Sz w g n dp false)
    (hn0 : 0 ≤ n) (hn5 : n ≤ 500) (hd0 : 0 ≤ d) (hd1 : d ≤ 15) (ok : Bool) (n' : Int)
    (hexp : Hid (∀ w2 dp2, Kp [g] w w2 → Sz w2 g (n + 1) dp2 false → n + 1 ≤ 500 → d ≤ 14 → Calls Tryz.prog 34 #[.pointer (some ⟨g, 0, none⟩), .slice q len cap, .int .i64 (d + 1)] w2 (SzRes g ok n' w2)))
    (hwr : Hid (∀ w2 n2 dp2, Sz w2 g n2 dp2 true → Calls Tryz.prog 34 #[.pointer (some ⟨g, 0, none⟩), .slice q len cap, .int .i64 (d + 1)] w2 (fun r w' => r = .returned (.tuple #[]) ∧ w' = w2))) :
    Calls Tryz.prog 16 #[.pointer (some ⟨g, 0, none⟩), .agg #[.int .i64 1, .int .i64 2, .int .i64 m, .string s, .string f, .slice q len cap], .int .i64 d] w
      (SzRes g (decide (n + 1 ≤ 500) && decide (d ≤ 14) && (true && (((len : Int) == 0) && emB s && emB f)) && ok) n' w) := by
  skip
  try obtain ⟨g4a, g4b, g4c⟩ := g4
  have hg := Blk.lt hS
  have hB := Blk.new w 24 #[.int .i64 1, .int .i64 2, .int .i64 m, .string s, .string f, .slice q len cap]
  have hS1 := Lib.hid (hS.cells (.cells #[.int .i64 1, .int .i64 2, .int .i64 m, .string s, .string f, .slice q len cap] 24))
  have hc2 := Blk.cell hS 2 (v := .bool false) rfl
  replace hS := Lib.hid hS
  replace hB := Lib.hid hB
  go_enter Tryz.func16, Tryz.ntmps16
  go_wp2_with fail
  refine (node_c g n dp d _ hS1.out hn0 (by omega)).mono ?_
  rintro r w2 ⟨rfl, hS2, hk2⟩
  have hne : w.heap.size ∉ [g] := by simp; omega
  have hB2 := hB.out.kp hk2 hne
  have e0 := hB2.cell 0 (v := .int .i64 1) rfl
  have e1 := hB2.cell 1 (v := .int .i64 2) rfl
  have e2 := hB2.cell 2 (v := .int .i64 m) rfl
  have e3 := hB2.cell 3 (v := .string s) rfl
  have e4 := hB2.cell 4 (v := .string f) rfl
  have e5 := hB2.cell 5 (v := .slice q len cap) rfl
  obtain ⟨b1, hb1⟩ : ∃ b, (decide (500 < n + 1) || decide (14 < d)) = b := ⟨_, rfl⟩
  obtain ⟨dp1, hdp1⟩ : ∃ x, max dp d = x := ⟨_, rfl⟩
  rw [hb1, hdp1] at hS2
  replace hS2 := Lib.hid hS2
  replace hB2 := Lib.hid hB2
  replace hb1 := Lib.hid hb1
  replace hk2 := Lib.hid hk2
  replace hne := Lib.hid hne
  clear hdp1 hc2
  obtain ⟨c3, hc3⟩ : ∃ c : Bool, ((len : Int) == 0) = c := ⟨_, rfl⟩
  obtain ⟨c4, hc4⟩ : ∃ c : Bool, emB s = c := ⟨_, rfl⟩
  obtain ⟨c5, hc5⟩ : ∃ c : Bool, emB f = c := ⟨_, rfl⟩
  replace hc3 := Lib.hid hc3
  replace hc4 := Lib.hid hc4
  replace hc5 := Lib.hid hc5
  go_upto_region 19 with (go_at_call 32; refine (right_c g _ _ _ _ _ hS2.out).mono ?_; rintro r w2b ⟨rfl, hS2b, hk2b⟩)
  have hk3a := Lib.hid (hk2.out.trans hk2b)
  have hB2b := hB2.out.kp hk2b hne.out
  clear e0 e1 e2 e3 e4 e5 hS2 hk2
  obtain ⟨w2, hw2⟩ : ∃ x, w2b = x := ⟨_, rfl⟩
  subst hw2
  have e0 := hB2b.cell 0 (v := .int .i64 1) rfl
  have e1 := hB2b.cell 1 (v := .int .i64 2) rfl
  have e2 := hB2b.cell 2 (v := .int .i64 m) rfl
  have e3 := hB2b.cell 3 (v := .string s) rfl
  have e4 := hB2b.cell 4 (v := .string f) rfl
  have e5 := hB2b.cell 5 (v := .slice q len cap) rfl
  replace hS2b := sz_to (c := true) hS2b (by first | rfl | (simp; omega))
  obtain ⟨b2, hb2⟩ : ∃ b, (b1 || !true) = b := ⟨_, rfl⟩
  rw [hb2] at hS2b
  replace hb2 := Lib.hid hb2
  replace hS2b := Lib.hid hS2b
  replace hB2b := Lib.hid hB2b
  go_cut [1] (fun _ wx => Hid (Sz wx g (n + 1) dp1 (b2 || !c3)) ∧ Hid (Kp [g] w2b wx))
  case first =>
    go_wp2_with (go_at_call 32; refine (right_c g _ _ _ _ _ hS2b.out).mono ?_; rintro r w3 ⟨rfl, hS3, hk3⟩)
    all_goals
      go_meet
      case rel => exact ⟨sz_to hS3 (hc3.out.symm.trans (by first | (simp [*]; done) | (simp [*]; omega))), hk3⟩
  case rest =>
    obtain ⟨hS3, hk3⟩ := hcut
    have hB3 := hB2b.out.kp hk3.out hne.out
    clear e0 e1 e2 e3 e4 e5
    have e3 := hB3.cell 3 (v := .string s) rfl
    have e4 := hB3.cell 4 (v := .string f) rfl
    have e5 := hB3.cell 5 (v := .slice q len cap) rfl
    obtain ⟨b3, hb3⟩ : ∃ b, (b2 || !c3) = b := ⟨_, rfl⟩
    rw [hb3] at hS3
    replace hb3 := Lib.hid hb3
    replace hB3 := Lib.hid hB3
    obtain ⟨w3, hw3⟩ : ∃ x, wc = x := ⟨_, rfl⟩
    subst hw3
    go_upto_region 20 with fail
    go_cut [1] (fun _ wx => Hid (Sz wx g (n + 1) dp1 (b3 || !c4)) ∧ Hid (Kp [g] wc wx))
    case first =>
      go_wp2_with (first | (go_at_call 33; refine (rname_c _ _ hs).mono ?_; rintro r w4 ⟨rfl, hkn⟩; rw [hc4.out]) | (go_at_call 32; refine (right_c g _ _ _ _ _ (by first | exact hS3.out | exact hS3.out.kp hkn)).mono ?_; rintro r w5 ⟨rfl, hS5, hk5⟩))
      all_goals
        go_meet
        case rel => exact ⟨sz_to hS5 (first_to hc4.out (by first | (left; simp [*]; done) | (right; simp [emB, *]; done))), by first | exact hkn.any.trans hk5 | exact hk5⟩
    case rest =>
      obtain ⟨hS4, hk4⟩ := hcut
      have hB4 := hB3.out.kp hk4.out hne.out
      clear e3 e4 e5
      have e4 := hB4.cell 4 (v := .string f) rfl
      have e5 := hB4.cell 5 (v := .slice q len cap) rfl
      obtain ⟨b4, hb4⟩ : ∃ b, (b3 || !c4) = b := ⟨_, rfl⟩
      rw [hb4] at hS4
      replace hb4 := Lib.hid hb4
      replace hB4 := Lib.hid hB4
      replace hk4 := Lib.hid (hk3.out.trans hk4.out)
      clear hS3 hk3
      obtain ⟨w4, hw4⟩ : ∃ x, wc = x := ⟨_, rfl⟩
      go_upto_region 21 with fail
      go_cut [1] (fun _ wx => Hid (Sz wx g (n + 1) dp1 (b4 || !c5)) ∧ Hid (Kp [g] w4 wx))
      case first =>
        subst hw4
        go_wp2_with (first | (go_at_call 33; refine (rname_c _ _ hf).mono ?_; rintro r w4 ⟨rfl, hkn⟩; rw [hc5.out]) | (go_at_call 32; refine (right_c g _ _ _ _ _ (by first | exact hS4.out | exact hS4.out.kp hkn)).mono ?_; rintro r w5 ⟨rfl, hS5, hk5⟩))
        all_goals
          go_meet
          case rel => exact ⟨sz_to hS5 (first_to hc5.out (by first | (left; simp [*]; done) | (right; simp [emB, *]; done))), by first | exact hkn.any.trans hk5 | exact hk5⟩
      case rest =>
        obtain ⟨hS5, hk5⟩ := hcut
        subst hw4
        have hB5 := hB4.out.kp hk5.out hne.out
        clear e4 e5
        have e5 := hB5.cell 5 (v := .slice q len cap) rfl
        have hk6 := Lib.hid (hk4.out.trans hk5.out)
        have hend := Lib.hid (sz_end hk3a.out hk6.out)
        obtain ⟨b5, hb5⟩ : ∃ b, (b4 || !c5) = b := ⟨_, rfl⟩
        rw [hb5] at hS5
        have hres : Hid (b5 = (!(decide (n + 1 ≤ 500) && decide (d ≤ 14) && (true && (c3 && c4 && c5))))) := by
          show _ = _
          rw [← hb5, ← hb4.out, ← hb3.out, ← hb2.out, ← hb1.out]
          by_cases h1 : n + 1 ≤ 500 <;> by_cases h2 : d ≤ 14 <;> simp [h1, h2, Int.not_lt.2, Int.not_le.1] <;> (try omega) <;> simp [Bool.or_assoc]
        clear hB5 hS4 hk4 hk5 hk6
        cases b5
        · have h3 : Hid ((decide (n + 1 ≤ 500) && decide (d ≤ 14) && (true && (c3 && c4 && c5))) = true) := tr_of hres.out
          have h4 : n + 1 ≤ 500 ∧ d ≤ 14 := by have := h3.out; simp only [Bool.and_eq_true, decide_eq_true_eq] at this; exact this.1
          have hcall := Lib.hid (hexp.out wc dp1 hend.out hS5 h4.1 h4.2)
          clear h4
          go_wp2_with fail
          refine hcall.out.mono ?_
          rintro r w9 ⟨rfl, hk9, hR⟩
          go_wp2_with fail
          go_end0
          rw [hc3.out, hc4.out, hc5.out, h3.out, Bool.true_and]
          exact ⟨rfl, hend.out.trans hk9, hR⟩
        · have h3 : Hid ((decide (n + 1 ≤ 500) && decide (d ≤ 14) && (true && (c3 && c4 && c5))) = false) := fl_of hres.out
          have hcall := Lib.hid (hwr.out wc _ _ hS5)
          go_wp2_with fail
          refine hcall.out.mono ?_
          rintro r w9 ⟨rfl, rfl⟩
          go_wp2_with fail
          go_end0
          rw [hc3.out, hc4.out, hc5.out, h3.out, Bool.false_and]
          exact ⟨rfl, hend.out, _, _, hS5, fun h => by cases h⟩
set_option maxRecDepth 100000 in
set_option maxHeartbeats 4000000 in
theorem sz_1_d (m : Int) (h0 : 0 ≤ m) (h1 : m ≤ 2147483647) (s f : ByteArray) (q : Option Addr) (len cap : Nat) (g : Nat) (n dp d : Int) (w : World) (hs : s.size ≤ 140737488355328) (hf : f.size ≤ 140737488355328) (hS : Sz w g n dp false)
    (hn0 : 0 ≤ n) (hn5 : n ≤ 500) (hd0 : 0 ≤ d) (hd1 : d ≤ 15) (ok : Bool) (n' : Int)
    (hexp : Hid (∀ w2 dp2, Kp [g] w w2 → Sz w2 g (n + 1) dp2 false → n + 1 ≤ 500 → d ≤ 14 → Calls Tryz.prog 34 #[.pointer (some ⟨g, 0, none⟩), .slice q len cap, .int .i64 (d + 1)] w2 (SzRes g ok n' w2)))
    (hwr : Hid (∀ w2 n2 dp2, Sz w2 g n2 dp2 true → Calls Tryz.prog 34 #[.pointer (some ⟨g, 0, none⟩), .slice q len cap, .int .i64 (d + 1)] w2 (fun r w' => r = .returned (.tuple #[]) ∧ w' = w2))) :
    Calls Tryz.prog 16 #[.pointer (some ⟨g, 0, none⟩), .agg #[.int .i64 1, .int .i64 3, .int .i64 m, .string s, .string f, .slice q len cap], .int .i64 d] w
      (SzRes g (decide (n + 1 ≤ 500) && decide (d ≤ 14) && (true && (((len : Int) == 0) && emB s && emB f)) && ok) n' w) := by
  skip
  try obtain ⟨g4a, g4b, g4c⟩ := g4
  have hg := Blk.lt hS
  have hB := Blk.new w 24 #[.int .i64 1, .int .i64 3, .int .i64 m, .string s, .string f, .slice q len cap]
  have hS1 := Lib.hid (hS.cells (.cells #[.int .i64 1, .int .i64 3, .int .i64 m, .string s, .string f, .slice q len cap] 24))
  have hc2 := Blk.cell hS 2 (v := .bool false) rfl
  replace hS := Lib.hid hS
  replace hB := Lib.hid hB
  go_enter Tryz.func16, Tryz.ntmps16
  go_wp2_with fail
  refine (node_c g n dp d _ hS1.out hn0 (by omega)).mono ?_
  rintro r w2 ⟨rfl, hS2, hk2⟩
  have hne : w.heap.size ∉ [g] := by simp; omega
  have hB2 := hB.out.kp hk2 hne
  have e0 := hB2.cell 0 (v := .int .i64 1) rfl
  have e1 := hB2.cell 1 (v := .int .i64 3) rfl
  have e2 := hB2.cell 2 (v := .int .i64 m) rfl
  have e3 := hB2.cell 3 (v := .string s) rfl
  have e4 := hB2.cell 4 (v := .string f) rfl
  have e5 := hB2.cell 5 (v := .slice q len cap) rfl
  obtain ⟨b1, hb1⟩ : ∃ b, (decide (500 < n + 1) || decide (14 < d)) = b := ⟨_, rfl⟩
  obtain ⟨dp1, hdp1⟩ : ∃ x, max dp d = x := ⟨_, rfl⟩
  rw [hb1, hdp1] at hS2
  replace hS2 := Lib.hid hS2
  replace hB2 := Lib.hid hB2
  replace hb1 := Lib.hid hb1
  replace hk2 := Lib.hid hk2
  replace hne := Lib.hid hne
  clear hdp1 hc2
  obtain ⟨c3, hc3⟩ : ∃ c : Bool, ((len : Int) == 0) = c := ⟨_, rfl⟩
  obtain ⟨c4, hc4⟩ : ∃ c : Bool, emB s = c := ⟨_, rfl⟩
  obtain ⟨c5, hc5⟩ : ∃ c : Bool, emB f = c := ⟨_, rfl⟩
  replace hc3 := Lib.hid hc3
  replace hc4 := Lib.hid hc4
  replace hc5 := Lib.hid hc5
  go_upto_region 19 with (go_at_call 32; refine (right_c g _ _ _ _ _ hS2.out).mono ?_; rintro r w2b ⟨rfl, hS2b, hk2b⟩)
  have hk3a := Lib.hid (hk2.out.trans hk2b)
  have hB2b := hB2.out.kp hk2b hne.out
  clear e0 e1 e2 e3 e4 e5 hS2 hk2
  obtain ⟨w2, hw2⟩ : ∃ x, w2b = x := ⟨_, rfl⟩
  subst hw2
  have e0 := hB2b.cell 0 (v := .int .i64 1) rfl
  have e1 := hB2b.cell 1 (v := .int .i64 3) rfl
  have e2 := hB2b.cell 2 (v := .int .i64 m) rfl
  have e3 := hB2b.cell 3 (v := .string s) rfl
  have e4 := hB2b.cell 4 (v := .string f) rfl
  have e5 := hB2b.cell 5 (v := .slice q len cap) rfl
  replace hS2b := sz_to (c := true) hS2b (by first | rfl | (simp; omega))
  obtain ⟨b2, hb2⟩ : ∃ b, (b1 || !true) = b := ⟨_, rfl⟩
  rw [hb2] at hS2b
  replace hb2 := Lib.hid hb2
  replace hS2b := Lib.hid hS2b
  replace hB2b := Lib.hid hB2b
  go_cut [1] (fun _ wx => Hid (Sz wx g (n + 1) dp1 (b2 || !c3)) ∧ Hid (Kp [g] w2b wx))
  case first =>
    go_wp2_with (go_at_call 32; refine (right_c g _ _ _ _ _ hS2b.out).mono ?_; rintro r w3 ⟨rfl, hS3, hk3⟩)
    all_goals
      go_meet
      case rel => exact ⟨sz_to hS3 (hc3.out.symm.trans (by first | (simp [*]; done) | (simp [*]; omega))), hk3⟩
  case rest =>
    obtain ⟨hS3, hk3⟩ := hcut
    have hB3 := hB2b.out.kp hk3.out hne.out
    clear e0 e1 e2 e3 e4 e5
    have e3 := hB3.cell 3 (v := .string s) rfl
    have e4 := hB3.cell 4 (v := .string f) rfl
    have e5 := hB3.cell 5 (v := .slice q len cap) rfl
    obtain ⟨b3, hb3⟩ : ∃ b, (b2 || !c3) = b := ⟨_, rfl⟩
    rw [hb3] at hS3
    replace hb3 := Lib.hid hb3
    replace hB3 := Lib.hid hB3
    obtain ⟨w3, hw3⟩ : ∃ x, wc = x := ⟨_, rfl⟩
    subst hw3
    go_upto_region 20 with fail
    go_cut [1] (fun _ wx => Hid (Sz wx g (n + 1) dp1 (b3 || !c4)) ∧ Hid (Kp [g] wc wx))
    case first =>
      go_wp2_with (first | (go_at_call 33; refine (rname_c _ _ hs).mono ?_; rintro r w4 ⟨rfl, hkn⟩; rw [hc4.out]) | (go_at_call 32; refine (right_c g _ _ _ _ _ (by first | exact hS3.out | exact hS3.out.kp hkn)).mono ?_; rintro r w5 ⟨rfl, hS5, hk5⟩))
      all_goals
        go_meet
        case rel => exact ⟨sz_to hS5 (first_to hc4.out (by first | (left; simp [*]; done) | (right; simp [emB, *]; done))), by first | exact hkn.any.trans hk5 | exact hk5⟩
    case rest =>
      obtain ⟨hS4, hk4⟩ := hcut
      have hB4 := hB3.out.kp hk4.out hne.out
      clear e3 e4 e5
      have e4 := hB4.cell 4 (v := .string f) rfl
      have e5 := hB4.cell 5 (v := .slice q len cap) rfl
      obtain ⟨b4, hb4⟩ : ∃ b, (b3 || !c4) = b := ⟨_, rfl⟩
      rw [hb4] at hS4
      replace hb4 := Lib.hid hb4
      replace hB4 := Lib.hid hB4
      replace hk4 := Lib.hid (hk3.out.trans hk4.out)
      clear hS3 hk3
      obtain ⟨w4, hw4⟩ : ∃ x, wc = x := ⟨_, rfl⟩
      go_upto_region 21 with fail
      go_cut [1] (fun _ wx => Hid (Sz wx g (n + 1) dp1 (b4 || !c5)) ∧ Hid (Kp [g] w4 wx))
      case first =>
        subst hw4
        go_wp2_with (first | (go_at_call 33; refine (rname_c _ _ hf).mono ?_; rintro r w4 ⟨rfl, hkn⟩; rw [hc5.out]) | (go_at_call 32; refine (right_c g _ _ _ _ _ (by first | exact hS4.out | exact hS4.out.kp hkn)).mono ?_; rintro r w5 ⟨rfl, hS5, hk5⟩))
        all_goals
          go_meet
          case rel => exact ⟨sz_to hS5 (first_to hc5.out (by first | (left; simp [*]; done) | (right; simp [emB, *]; done))), by first | exact hkn.any.trans hk5 | exact hk5⟩
      case rest =>
        obtain ⟨hS5, hk5⟩ := hcut
        subst hw4
        have hB5 := hB4.out.kp hk5.out hne.out
        clear e4 e5
        have e5 := hB5.cell 5 (v := .slice q len cap) rfl
        have hk6 := Lib.hid (hk4.out.trans hk5.out)
        have hend := Lib.hid (sz_end hk3a.out hk6.out)
        obtain ⟨b5, hb5⟩ : ∃ b, (b4 || !c5) = b := ⟨_, rfl⟩
        rw [hb5] at hS5
        have hres : Hid (b5 = (!(decide (n + 1 ≤ 500) && decide (d ≤ 14) && (true && (c3 && c4 && c5))))) := by
          show _ = _
          rw [← hb5, ← hb4.out, ← hb3.out, ← hb2.out, ← hb1.out]
          by_cases h1 : n + 1 ≤ 500 <;> by_cases h2 : d ≤ 14 <;> simp [h1, h2, Int.not_lt.2, Int.not_le.1] <;> (try omega) <;> simp [Bool.or_assoc]
        clear hB5 hS4 hk4 hk5 hk6
        cases b5
        · have h3 : Hid ((decide (n + 1 ≤ 500) && decide (d ≤ 14) && (true && (c3 && c4 && c5))) = true) := tr_of hres.out
          have h4 : n + 1 ≤ 500 ∧ d ≤ 14 := by have := h3.out; simp only [Bool.and_eq_true, decide_eq_true_eq] at this; exact this.1
          have hcall := Lib.hid (hexp.out wc dp1 hend.out hS5 h4.1 h4.2)
          clear h4
          go_wp2_with fail
          refine hcall.out.mono ?_
          rintro r w9 ⟨rfl, hk9, hR⟩
          go_wp2_with fail
          go_end0
          rw [hc3.out, hc4.out, hc5.out, h3.out, Bool.true_and]
          exact ⟨rfl, hend.out.trans hk9, hR⟩
        · have h3 : Hid ((decide (n + 1 ≤ 500) && decide (d ≤ 14) && (true && (c3 && c4 && c5))) = false) := fl_of hres.out
          have hcall := Lib.hid (hwr.out wc _ _ hS5)
          go_wp2_with fail
          refine hcall.out.mono ?_
          rintro r w9 ⟨rfl, rfl⟩
          go_wp2_with fail
          go_end0
          rw [hc3.out, hc4.out, hc5.out, h3.out, Bool.false_and]
          exact ⟨rfl, hend.out, _, _, hS5, fun h => by cases h⟩
set_option maxRecDepth 100000 in
set_option maxHeartbeats 4000000 in
theorem sz_1_e (m : Int) (h0 : 0 ≤ m) (h1 : m ≤ 1) (s f : ByteArray) (q : Option Addr) (len cap : Nat) (g : Nat) (n dp d : Int) (w : World) (hs : s.size ≤ 140737488355328) (hf : f.size ≤ 140737488355328) (hS : Sz w g n dp false)
    (hn0 : 0 ≤ n) (hn5 : n ≤ 500) (hd0 : 0 ≤ d) (hd1 : d ≤ 15) (ok : Bool) (n' : Int)
    (hexp : Hid (∀ w2 dp2, Kp [g] w w2 → Sz w2 g (n + 1) dp2 false → n + 1 ≤ 500 → d ≤ 14 → Calls Tryz.prog 34 #[.pointer (some ⟨g, 0, none⟩), .slice q len cap, .int .i64 (d + 1)] w2 (SzRes g ok n' w2)))
    (hwr : Hid (∀ w2 n2 dp2, Sz w2 g n2 dp2 true → Calls Tryz.prog 34 #[.pointer (some ⟨g, 0, none⟩), .slice q len cap, .int .i64 (d + 1)] w2 (fun r w' => r = .returned (.tuple #[]) ∧ w' = w2))) :
    Calls Tryz.prog 16 #[.pointer (some ⟨g, 0, none⟩), .agg #[.int .i64 1, .int .i64 1, .int .i64 m, .string s, .string f, .slice q len cap], .int .i64 d] w
      (SzRes g (decide (n + 1 ≤ 500) && decide (d ≤ 14) && (true && (((len : Int) == 0) && emB s && emB f)) && ok) n' w) := by
  have h1b : m ≤ 2147483647 := by omega
  try obtain ⟨g4a, g4b, g4c⟩ := g4
  have hg := Blk.lt hS
  have hB := Blk.new w 24 #[.int .i64 1, .int .i64 1, .int .i64 m, .string s, .string f, .slice q len cap]
  have hS1 := Lib.hid (hS.cells (.cells #[.int .i64 1, .int .i64 1, .int .i64 m, .string s, .string f, .slice q len cap] 24))
  have hc2 := Blk.cell hS 2 (v := .bool false) rfl
  replace hS := Lib.hid hS
  replace hB := Lib.hid hB
  go_enter Tryz.func16, Tryz.ntmps16
  go_wp2_with fail
  refine (node_c g n dp d _ hS1.out hn0 (by omega)).mono ?_
  rintro r w2 ⟨rfl, hS2, hk2⟩
  have hne : w.heap.size ∉ [g] := by simp; omega
  have hB2 := hB.out.kp hk2 hne
  have e0 := hB2.cell 0 (v := .int .i64 1) rfl
  have e1 := hB2.cell 1 (v := .int .i64 1) rfl
  have e2 := hB2.cell 2 (v := .int .i64 m) rfl
  have e3 := hB2.cell 3 (v := .string s) rfl
  have e4 := hB2.cell 4 (v := .string f) rfl
  have e5 := hB2.cell 5 (v := .slice q len cap) rfl
  obtain ⟨b1, hb1⟩ : ∃ b, (decide (500 < n + 1) || decide (14 < d)) = b := ⟨_, rfl⟩
  obtain ⟨dp1, hdp1⟩ : ∃ x, max dp d = x := ⟨_, rfl⟩
  rw [hb1, hdp1] at hS2
  replace hS2 := Lib.hid hS2
  replace hB2 := Lib.hid hB2
  replace hb1 := Lib.hid hb1
  replace hk2 := Lib.hid hk2
  replace hne := Lib.hid hne
  clear hdp1 hc2
  obtain ⟨c3, hc3⟩ : ∃ c : Bool, ((len : Int) == 0) = c := ⟨_, rfl⟩
  obtain ⟨c4, hc4⟩ : ∃ c : Bool, emB s = c := ⟨_, rfl⟩
  obtain ⟨c5, hc5⟩ : ∃ c : Bool, emB f = c := ⟨_, rfl⟩
  replace hc3 := Lib.hid hc3
  replace hc4 := Lib.hid hc4
  replace hc5 := Lib.hid hc5
  go_upto_region 19 with (go_at_call 32; refine (right_c g _ _ _ _ _ hS2.out).mono ?_; rintro r w2b ⟨rfl, hS2b, hk2b⟩)
  have hk3a := Lib.hid (hk2.out.trans hk2b)
  have hB2b := hB2.out.kp hk2b hne.out
  clear e0 e1 e2 e3 e4 e5 hS2 hk2
  obtain ⟨w2, hw2⟩ : ∃ x, w2b = x := ⟨_, rfl⟩
  subst hw2
  have e0 := hB2b.cell 0 (v := .int .i64 1) rfl
  have e1 := hB2b.cell 1 (v := .int .i64 1) rfl
  have e2 := hB2b.cell 2 (v := .int .i64 m) rfl
  have e3 := hB2b.cell 3 (v := .string s) rfl
  have e4 := hB2b.cell 4 (v := .string f) rfl
  have e5 := hB2b.cell 5 (v := .slice q len cap) rfl
  replace hS2b := sz_to (c := true) hS2b (by first | rfl | (simp; omega))
  obtain ⟨b2, hb2⟩ : ∃ b, (b1 || !true) = b := ⟨_, rfl⟩
  rw [hb2] at hS2b
  replace hb2 := Lib.hid hb2
  replace hS2b := Lib.hid hS2b
  replace hB2b := Lib.hid hB2b
  go_cut [1] (fun _ wx => Hid (Sz wx g (n + 1) dp1 (b2 || !c3)) ∧ Hid (Kp [g] w2b wx))
  case first =>
    go_wp2_with (go_at_call 32; refine (right_c g _ _ _ _ _ hS2b.out).mono ?_; rintro r w3 ⟨rfl, hS3, hk3⟩)
    all_goals
      go_meet
      case rel => exact ⟨sz_to hS3 (hc3.out.symm.trans (by first | (simp [*]; done) | (simp [*]; omega))), hk3⟩
  case rest =>
    obtain ⟨hS3, hk3⟩ := hcut
    have hB3 := hB2b.out.kp hk3.out hne.out
    clear e0 e1 e2 e3 e4 e5
    have e3 := hB3.cell 3 (v := .string s) rfl
    have e4 := hB3.cell 4 (v := .string f) rfl
    have e5 := hB3.cell 5 (v := .slice q len cap) rfl
    obtain ⟨b3, hb3⟩ : ∃ b, (b2 || !c3) = b := ⟨_, rfl⟩
    rw [hb3] at hS3
    replace hb3 := Lib.hid hb3
    replace hB3 := Lib.hid hB3
    obtain ⟨w3, hw3⟩ : ∃ x, wc = x := ⟨_, rfl⟩
    subst hw3
    go_upto_region 20 with fail
    go_cut [1] (fun _ wx => Hid (Sz wx g (n + 1) dp1 (b3 || !c4)) ∧ Hid (Kp [g] wc wx))
    case first =>
      go_wp2_with (first | (go_at_call 33; refine (rname_c _ _ hs).mono ?_; rintro r w4 ⟨rfl, hkn⟩; rw [hc4.out]) | (go_at_call 32; refine (right_c g _ _ _ _ _ (by first | exact hS3.out | exact hS3.out.kp hkn)).mono ?_; rintro r w5 ⟨rfl, hS5, hk5⟩))
      all_goals
        go_meet
        case rel => exact ⟨sz_to hS5 (first_to hc4.out (by first | (left; simp [*]; done) | (right; simp [emB, *]; done))), by first | exact hkn.any.trans hk5 | exact hk5⟩
    case rest =>
      obtain ⟨hS4, hk4⟩ := hcut
      have hB4 := hB3.out.kp hk4.out hne.out
      clear e3 e4 e5
      have e4 := hB4.cell 4 (v := .string f) rfl
      have e5 := hB4.cell 5 (v := .slice q len cap) rfl
      obtain ⟨b4, hb4⟩ : ∃ b, (b3 || !c4) = b := ⟨_, rfl⟩
      rw [hb4] at hS4
      replace hb4 := Lib.hid hb4
      replace hB4 := Lib.hid hB4
      replace hk4 := Lib.hid (hk3.out.trans hk4.out)
      clear hS3 hk3
      obtain ⟨w4, hw4⟩ : ∃ x, wc = x := ⟨_, rfl⟩
      go_upto_region 21 with fail
      go_cut [1] (fun _ wx => Hid (Sz wx g (n + 1) dp1 (b4 || !c5)) ∧ Hid (Kp [g] w4 wx))
      case first =>
        subst hw4
        go_wp2_with (first | (go_at_call 33; refine (rname_c _ _ hf).mono ?_; rintro r w4 ⟨rfl, hkn⟩; rw [hc5.out]) | (go_at_call 32; refine (right_c g _ _ _ _ _ (by first | exact hS4.out | exact hS4.out.kp hkn)).mono ?_; rintro r w5 ⟨rfl, hS5, hk5⟩))
        all_goals
          go_meet
          case rel => exact ⟨sz_to hS5 (first_to hc5.out (by first | (left; simp [*]; done) | (right; simp [emB, *]; done))), by first | exact hkn.any.trans hk5 | exact hk5⟩
      case rest =>
        obtain ⟨hS5, hk5⟩ := hcut
        subst hw4
        have hB5 := hB4.out.kp hk5.out hne.out
        clear e4 e5
        have e5 := hB5.cell 5 (v := .slice q len cap) rfl
        have hk6 := Lib.hid (hk4.out.trans hk5.out)
        have hend := Lib.hid (sz_end hk3a.out hk6.out)
        obtain ⟨b5, hb5⟩ : ∃ b, (b4 || !c5) = b := ⟨_, rfl⟩
        rw [hb5] at hS5
        have hres : Hid (b5 = (!(decide (n + 1 ≤ 500) && decide (d ≤ 14) && (true && (c3 && c4 && c5))))) := by
          show _ = _
          rw [← hb5, ← hb4.out, ← hb3.out, ← hb2.out, ← hb1.out]
          by_cases h1 : n + 1 ≤ 500 <;> by_cases h2 : d ≤ 14 <;> simp [h1, h2, Int.not_lt.2, Int.not_le.1] <;> (try omega) <;> simp [Bool.or_assoc]
        clear hB5 hS4 hk4 hk5 hk6
        cases b5
        · have h3 : Hid ((decide (n + 1 ≤ 500) && decide (d ≤ 14) && (true && (c3 && c4 && c5))) = true) := tr_of hres.out
          have h4 : n + 1 ≤ 500 ∧ d ≤ 14 := by have := h3.out; simp only [Bool.and_eq_true, decide_eq_true_eq] at this; exact this.1
          have hcall := Lib.hid (hexp.out wc dp1 hend.out hS5 h4.1 h4.2)
          clear h4
          go_wp2_with fail
          refine hcall.out.mono ?_
          rintro r w9 ⟨rfl, hk9, hR⟩
          go_wp2_with fail
          go_end0
          rw [hc3.out, hc4.out, hc5.out, h3.out, Bool.true_and]
          exact ⟨rfl, hend.out.trans hk9, hR⟩
        · have h3 : Hid ((decide (n + 1 ≤ 500) && decide (d ≤ 14) && (true && (c3 && c4 && c5))) = false) := fl_of hres.out
          have hcall := Lib.hid (hwr.out wc _ _ hS5)
          go_wp2_with fail
          refine hcall.out.mono ?_
          rintro r w9 ⟨rfl, rfl⟩
          go_wp2_with fail
          go_end0
          rw [hc3.out, hc4.out, hc5.out, h3.out, Bool.false_and]
          exact ⟨rfl, hend.out, _, _, hS5, fun h => by cases h⟩
set_option maxRecDepth 100000 in
set_option maxHeartbeats 4000000 in
theorem sz_1_f (m : Int) (h0 : 0 ≤ m) (h1 : 1 < m) (h2 : m ≤ 2147483647) (s f : ByteArray) (q : Option Addr) (len cap : Nat) (g : Nat) (n dp d : Int) (w : World) (hs : s.size ≤ 140737488355328) (hf : f.size ≤ 140737488355328) (hS : Sz w g n dp false)
    (hn0 : 0 ≤ n) (hn5 : n ≤ 500) (hd0 : 0 ≤ d) (hd1 : d ≤ 15) (ok : Bool) (n' : Int)
    (hexp : Hid (∀ w2 dp2, Kp [g] w w2 → Sz w2 g (n + 1) dp2 false → n + 1 ≤ 500 → d ≤ 14 → Calls Tryz.prog 34 #[.pointer (some ⟨g, 0, none⟩), .slice q len cap, .int .i64 (d + 1)] w2 (SzRes g ok n' w2)))
    (hwr : Hid (∀ w2 n2 dp2, Sz w2 g n2 dp2 true → Calls Tryz.prog 34 #[.pointer (some ⟨g, 0, none⟩), .slice q len cap, .int .i64 (d + 1)] w2 (fun r w' => r = .returned (.tuple #[]) ∧ w' = w2))) :
    Calls Tryz.prog 16 #[.pointer (some ⟨g, 0, none⟩), .agg #[.int .i64 1, .int .i64 1, .int .i64 m, .string s, .string f, .slice q len cap], .int .i64 d] w
      (SzRes g (decide (n + 1 ≤ 500) && decide (d ≤ 14) && (false && (((len : Int) == 0) && emB s && emB f)) && ok) n' w) := by
  have h1b : ¬ m ≤ 1 := by omega
  try obtain ⟨g4a, g4b, g4c⟩ := g4
  have hg := Blk.lt hS
  have hB := Blk.new w 24 #[.int .i64 1, .int .i64 1, .int .i64 m, .string s, .string f, .slice q len cap]
  have hS1 := Lib.hid (hS.cells (.cells #[.int .i64 1, .int .i64 1, .int .i64 m, .string s, .string f, .slice q len cap] 24))
  have hc2 := Blk.cell hS 2 (v := .bool false) rfl
  replace hS := Lib.hid hS
  replace hB := Lib.hid hB
  go_enter Tryz.func16, Tryz.ntmps16
  go_wp2_with fail
  refine (node_c g n dp d _ hS1.out hn0 (by omega)).mono ?_
  rintro r w2 ⟨rfl, hS2, hk2⟩
  have hne : w.heap.size ∉ [g] := by simp; omega
  have hB2 := hB.out.kp hk2 hne
  have e0 := hB2.cell 0 (v := .int .i64 1) rfl
  have e1 := hB2.cell 1 (v := .int .i64 1) rfl
  have e2 := hB2.cell 2 (v := .int .i64 m) rfl
  have e3 := hB2.cell 3 (v := .string s) rfl
  have e4 := hB2.cell 4 (v := .string f) rfl
  have e5 := hB2.cell 5 (v := .slice q len cap) rfl
  obtain ⟨b1, hb1⟩ : ∃ b, (decide (500 < n + 1) || decide (14 < d)) = b := ⟨_, rfl⟩
  obtain ⟨dp1, hdp1⟩ : ∃ x, max dp d = x := ⟨_, rfl⟩
  rw [hb1, hdp1] at hS2
  replace hS2 := Lib.hid hS2
  replace hB2 := Lib.hid hB2
  replace hb1 := Lib.hid hb1
  replace hk2 := Lib.hid hk2
  replace hne := Lib.hid hne
  clear hdp1 hc2
  obtain ⟨c3, hc3⟩ : ∃ c : Bool, ((len : Int) == 0) = c := ⟨_, rfl⟩
  obtain ⟨c4, hc4⟩ : ∃ c : Bool, emB s = c := ⟨_, rfl⟩
  obtain ⟨c5, hc5⟩ : ∃ c : Bool, emB f = c := ⟨_, rfl⟩
  replace hc3 := Lib.hid hc3
  replace hc4 := Lib.hid hc4
  replace hc5 := Lib.hid hc5
  go_upto_region 19 with (go_at_call 32; refine (right_c g _ _ _ _ _ hS2.out).mono ?_; rintro r w2b ⟨rfl, hS2b, hk2b⟩)
  have hk3a := Lib.hid (hk2.out.trans hk2b)
  have hB2b := hB2.out.kp hk2b hne.out
  clear e0 e1 e2 e3 e4 e5 hS2 hk2
  obtain ⟨w2, hw2⟩ : ∃ x, w2b = x := ⟨_, rfl⟩
  subst hw2
  have e0 := hB2b.cell 0 (v := .int .i64 1) rfl
  have e1 := hB2b.cell 1 (v := .int .i64 1) rfl
  have e2 := hB2b.cell 2 (v := .int .i64 m) rfl
  have e3 := hB2b.cell 3 (v := .string s) rfl
  have e4 := hB2b.cell 4 (v := .string f) rfl
  have e5 := hB2b.cell 5 (v := .slice q len cap) rfl
  replace hS2b := sz_to (c := false) hS2b (by first | rfl | (simp; omega))
  obtain ⟨b2, hb2⟩ : ∃ b, (b1 || !false) = b := ⟨_, rfl⟩
  rw [hb2] at hS2b
  replace hb2 := Lib.hid hb2
  replace hS2b := Lib.hid hS2b
  replace hB2b := Lib.hid hB2b
  go_cut [1] (fun _ wx => Hid (Sz wx g (n + 1) dp1 (b2 || !c3)) ∧ Hid (Kp [g] w2b wx))
  case first =>
    go_wp2_with (go_at_call 32; refine (right_c g _ _ _ _ _ hS2b.out).mono ?_; rintro r w3 ⟨rfl, hS3, hk3⟩)
    all_goals
      go_meet
      case rel => exact ⟨sz_to hS3 (hc3.out.symm.trans (by first | (simp [*]; done) | (simp [*]; omega))), hk3⟩
  case rest =>
    obtain ⟨hS3, hk3⟩ := hcut
    have hB3 := hB2b.out.kp hk3.out hne.out
    clear e0 e1 e2 e3 e4 e5
    have e3 := hB3.cell 3 (v := .string s) rfl
    have e4 := hB3.cell 4 (v := .string f) rfl
    have e5 := hB3.cell 5 (v := .slice q len cap) rfl
    obtain ⟨b3, hb3⟩ : ∃ b, (b2 || !c3) = b := ⟨_, rfl⟩
    rw [hb3] at hS3
    replace hb3 := Lib.hid hb3
    replace hB3 := Lib.hid hB3
    obtain ⟨w3, hw3⟩ : ∃ x, wc = x := ⟨_, rfl⟩
    subst hw3
    go_upto_region 20 with fail
    go_cut [1] (fun _ wx => Hid (Sz wx g (n + 1) dp1 (b3 || !c4)) ∧ Hid (Kp [g] wc wx))
    case first =>
      go_wp2_with (first | (go_at_call 33; refine (rname_c _ _ hs).mono ?_; rintro r w4 ⟨rfl, hkn⟩; rw [hc4.out]) | (go_at_call 32; refine (right_c g _ _ _ _ _ (by first | exact hS3.out | exact hS3.out.kp hkn)).mono ?_; rintro r w5 ⟨rfl, hS5, hk5⟩))
      all_goals
        go_meet
        case rel => exact ⟨sz_to hS5 (first_to hc4.out (by first | (left; simp [*]; done) | (right; simp [emB, *]; done))), by first | exact hkn.any.trans hk5 | exact hk5⟩
    case rest =>
      obtain ⟨hS4, hk4⟩ := hcut
      have hB4 := hB3.out.kp hk4.out hne.out
      clear e3 e4 e5
      have e4 := hB4.cell 4 (v := .string f) rfl
      have e5 := hB4.cell 5 (v := .slice q len cap) rfl
      obtain ⟨b4, hb4⟩ : ∃ b, (b3 || !c4) = b := ⟨_, rfl⟩
      rw [hb4] at hS4
      replace hb4 := Lib.hid hb4
      replace hB4 := Lib.hid hB4
      replace hk4 := Lib.hid (hk3.out.trans hk4.out)
      clear hS3 hk3
      obtain ⟨w4, hw4⟩ : ∃ x, wc = x := ⟨_, rfl⟩
      go_upto_region 21 with fail
      go_cut [1] (fun _ wx => Hid (Sz wx g (n + 1) dp1 (b4 || !c5)) ∧ Hid (Kp [g] w4 wx))
      case first =>
        subst hw4
        go_wp2_with (first | (go_at_call 33; refine (rname_c _ _ hf).mono ?_; rintro r w4 ⟨rfl, hkn⟩; rw [hc5.out]) | (go_at_call 32; refine (right_c g _ _ _ _ _ (by first | exact hS4.out | exact hS4.out.kp hkn)).mono ?_; rintro r w5 ⟨rfl, hS5, hk5⟩))
        all_goals
          go_meet
          case rel => exact ⟨sz_to hS5 (first_to hc5.out (by first | (left; simp [*]; done) | (right; simp [emB, *]; done))), by first | exact hkn.any.trans hk5 | exact hk5⟩
      case rest =>
        obtain ⟨hS5, hk5⟩ := hcut
        subst hw4
        have hB5 := hB4.out.kp hk5.out hne.out
        clear e4 e5
        have e5 := hB5.cell 5 (v := .slice q len cap) rfl
        have hk6 := Lib.hid (hk4.out.trans hk5.out)
        have hend := Lib.hid (sz_end hk3a.out hk6.out)
        obtain ⟨b5, hb5⟩ : ∃ b, (b4 || !c5) = b := ⟨_, rfl⟩
        rw [hb5] at hS5
        have hres : Hid (b5 = (!(decide (n + 1 ≤ 500) && decide (d ≤ 14) && (false && (c3 && c4 && c5))))) := by
          show _ = _
          rw [← hb5, ← hb4.out, ← hb3.out, ← hb2.out, ← hb1.out]
          by_cases h1 : n + 1 ≤ 500 <;> by_cases h2 : d ≤ 14 <;> simp [h1, h2, Int.not_lt.2, Int.not_le.1] <;> (try omega) <;> simp [Bool.or_assoc]
        clear hB5 hS4 hk4 hk5 hk6
        cases b5
        · have h3 : Hid ((decide (n + 1 ≤ 500) && decide (d ≤ 14) && (false && (c3 && c4 && c5))) = true) := tr_of hres.out
          have h4 : n + 1 ≤ 500 ∧ d ≤ 14 := by have := h3.out; simp only [Bool.and_eq_true, decide_eq_true_eq] at this; exact this.1
          have hcall := Lib.hid (hexp.out wc dp1 hend.out hS5 h4.1 h4.2)
          clear h4
          go_wp2_with fail
          refine hcall.out.mono ?_
          rintro r w9 ⟨rfl, hk9, hR⟩
          go_wp2_with fail
          go_end0
          rw [hc3.out, hc4.out, hc5.out, h3.out, Bool.true_and]
          exact ⟨rfl, hend.out.trans hk9, hR⟩
        · have h3 : Hid ((decide (n + 1 ≤ 500) && decide (d ≤ 14) && (false && (c3 && c4 && c5))) = false) := fl_of hres.out
          have hcall := Lib.hid (hwr.out wc _ _ hS5)
          go_wp2_with fail
          refine hcall.out.mono ?_
          rintro r w9 ⟨rfl, rfl⟩
          go_wp2_with fail
          go_end0
          rw [hc3.out, hc4.out, hc5.out, h3.out, Bool.false_and]
          exact ⟨rfl, hend.out, _, _, hS5, fun h => by cases h⟩
set_option maxRecDepth 100000 in
set_option maxHeartbeats 4000000 in
theorem sz_1_g (kind m : Int) (h4 : ¬ kind = 1) (h5 : ¬ kind = 2) (h6 : ¬ kind = 3) (h0 : 0 ≤ m) (h1 : m ≤ 2147483647) (s f : ByteArray) (q : Option Addr) (len cap : Nat) (g : Nat) (n dp d : Int) (w : World) (hs : s.size ≤ 140737488355328) (hf : f.size ≤ 140737488355328) (hS : Sz w g n dp false)
    (hn0 : 0 ≤ n) (hn5 : n ≤ 500) (hd0 : 0 ≤ d) (hd1 : d ≤ 15) (ok : Bool) (n' : Int)
    (hexp : Hid (∀ w2 dp2, Kp [g] w w2 → Sz w2 g (n + 1) dp2 false → n + 1 ≤ 500 → d ≤ 14 → Calls Tryz.prog 34 #[.pointer (some ⟨g, 0, none⟩), .slice q len cap, .int .i64 (d + 1)] w2 (SzRes g ok n' w2)))
    (hwr : Hid (∀ w2 n2 dp2, Sz w2 g n2 dp2 true → Calls Tryz.prog 34 #[.pointer (some ⟨g, 0, none⟩), .slice q len cap, .int .i64 (d + 1)] w2 (fun r w' => r = .returned (.tuple #[]) ∧ w' = w2))) :
    Calls Tryz.prog 16 #[.pointer (some ⟨g, 0, none⟩), .agg #[.int .i64 1, .int .i64 kind, .int .i64 m, .string s, .string f, .slice q len cap], .int .i64 d] w
      (SzRes g (decide (n + 1 ≤ 500) && decide (d ≤ 14) && (false && (((len : Int) == 0) && emB s && emB f)) && ok) n' w) := by
  have g4 : (kind == 1) = false ∧ (kind == 2) = false ∧ (kind == 3) = false := by simp [h4, h5, h6]
  try obtain ⟨g4a, g4b, g4c⟩ := g4
  have hg := Blk.lt hS
  have hB := Blk.new w 24 #[.int .i64 1, .int .i64 kind, .int .i64 m, .string s, .string f, .slice q len cap]
  have hS1 := Lib.hid (hS.cells (.cells #[.int .i64 1, .int .i64 kind, .int .i64 m, .string s, .string f, .slice q len cap] 24))
  have hc2 := Blk.cell hS 2 (v := .bool false) rfl
  replace hS := Lib.hid hS
  replace hB := Lib.hid hB
  go_enter Tryz.func16, Tryz.ntmps16
  go_wp2_with fail
  refine (node_c g n dp d _ hS1.out hn0 (by omega)).mono ?_
  rintro r w2 ⟨rfl, hS2, hk2⟩
  have hne : w.heap.size ∉ [g] := by simp; omega
  have hB2 := hB.out.kp hk2 hne
  have e0 := hB2.cell 0 (v := .int .i64 1) rfl
  have e1 := hB2.cell 1 (v := .int .i64 kind) rfl
  have e2 := hB2.cell 2 (v := .int .i64 m) rfl
  have e3 := hB2.cell 3 (v := .string s) rfl
  have e4 := hB2.cell 4 (v := .string f) rfl
  have e5 := hB2.cell 5 (v := .slice q len cap) rfl
  obtain ⟨b1, hb1⟩ : ∃ b, (decide (500 < n + 1) || decide (14 < d)) = b := ⟨_, rfl⟩
  obtain ⟨dp1, hdp1⟩ : ∃ x, max dp d = x := ⟨_, rfl⟩
  rw [hb1, hdp1] at hS2
  replace hS2 := Lib.hid hS2
  replace hB2 := Lib.hid hB2
  replace hb1 := Lib.hid hb1
  replace hk2 := Lib.hid hk2
  replace hne := Lib.hid hne
  clear hdp1 hc2
  obtain ⟨c3, hc3⟩ : ∃ c : Bool, ((len : Int) == 0) = c := ⟨_, rfl⟩
  obtain ⟨c4, hc4⟩ : ∃ c : Bool, emB s = c := ⟨_, rfl⟩
  obtain ⟨c5, hc5⟩ : ∃ c : Bool, emB f = c := ⟨_, rfl⟩
  replace hc3 := Lib.hid hc3
  replace hc4 := Lib.hid hc4
  replace hc5 := Lib.hid hc5
  go_upto_region 19 with (go_at_call 32; refine (right_c g _ _ _ _ _ hS2.out).mono ?_; rintro r w2b ⟨rfl, hS2b, hk2b⟩)
  have hk3a := Lib.hid (hk2.out.trans hk2b)
  have hB2b := hB2.out.kp hk2b hne.out
  clear e0 e1 e2 e3 e4 e5 hS2 hk2
  obtain ⟨w2, hw2⟩ : ∃ x, w2b = x := ⟨_, rfl⟩
  subst hw2
  have e0 := hB2b.cell 0 (v := .int .i64 1) rfl
  have e1 := hB2b.cell 1 (v := .int .i64 kind) rfl
  have e2 := hB2b.cell 2 (v := .int .i64 m) rfl
  have e3 := hB2b.cell 3 (v := .string s) rfl
  have e4 := hB2b.cell 4 (v := .string f) rfl
  have e5 := hB2b.cell 5 (v := .slice q len cap) rfl
  replace hS2b := sz_to (c := false) hS2b (by first | rfl | (simp; omega))
  obtain ⟨b2, hb2⟩ : ∃ b, (b1 || !false) = b := ⟨_, rfl⟩
  rw [hb2] at hS2b
  replace hb2 := Lib.hid hb2
  replace hS2b := Lib.hid hS2b
  replace hB2b := Lib.hid hB2b
  go_cut [1] (fun _ wx => Hid (Sz wx g (n + 1) dp1 (b2 || !c3)) ∧ Hid (Kp [g] w2b wx))
  case first =>
    go_wp2_with (go_at_call 32; refine (right_c g _ _ _ _ _ hS2b.out).mono ?_; rintro r w3 ⟨rfl, hS3, hk3⟩)
    all_goals
      go_meet
      case rel => exact ⟨sz_to hS3 (hc3.out.symm.trans (by first | (simp [*]; done) | (simp [*]; omega))), hk3⟩
  case rest =>
    obtain ⟨hS3, hk3⟩ := hcut
    have hB3 := hB2b.out.kp hk3.out hne.out
    clear e0 e1 e2 e3 e4 e5
    have e3 := hB3.cell 3 (v := .string s) rfl
    have e4 := hB3.cell 4 (v := .string f) rfl
    have e5 := hB3.cell 5 (v := .slice q len cap) rfl
    obtain ⟨b3, hb3⟩ : ∃ b, (b2 || !c3) = b := ⟨_, rfl⟩
    rw [hb3] at hS3
    replace hb3 := Lib.hid hb3
    replace hB3 := Lib.hid hB3
    obtain ⟨w3, hw3⟩ : ∃ x, wc = x := ⟨_, rfl⟩
    subst hw3
    go_upto_region 20 with fail
    go_cut [1] (fun _ wx => Hid (Sz wx g (n + 1) dp1 (b3 || !c4)) ∧ Hid (Kp [g] wc wx))
    case first =>
      go_wp2_with (first | (go_at_call 33; refine (rname_c _ _ hs).mono ?_; rintro r w4 ⟨rfl, hkn⟩; rw [hc4.out]) | (go_at_call 32; refine (right_c g _ _ _ _ _ (by first | exact hS3.out | exact hS3.out.kp hkn)).mono ?_; rintro r w5 ⟨rfl, hS5, hk5⟩))
      all_goals
        go_meet
        case rel => exact ⟨sz_to hS5 (first_to hc4.out (by first | (left; simp [*]; done) | (right; simp [emB, *]; done))), by first | exact hkn.any.trans hk5 | exact hk5⟩
    case rest =>
      obtain ⟨hS4, hk4⟩ := hcut
      have hB4 := hB3.out.kp hk4.out hne.out
      clear e3 e4 e5
      have e4 := hB4.cell 4 (v := .string f) rfl
      have e5 := hB4.cell 5 (v := .slice q len cap) rfl
      obtain ⟨b4, hb4⟩ : ∃ b, (b3 || !c4) = b := ⟨_, rfl⟩
      rw [hb4] at hS4
      replace hb4 := Lib.hid hb4
      replace hB4 := Lib.hid hB4
      replace hk4 := Lib.hid (hk3.out.trans hk4.out)
      clear hS3 hk3
      obtain ⟨w4, hw4⟩ : ∃ x, wc = x := ⟨_, rfl⟩
      go_upto_region 21 with fail
      go_cut [1] (fun _ wx => Hid (Sz wx g (n + 1) dp1 (b4 || !c5)) ∧ Hid (Kp [g] w4 wx))
      case first =>
        subst hw4
        go_wp2_with (first | (go_at_call 33; refine (rname_c _ _ hf).mono ?_; rintro r w4 ⟨rfl, hkn⟩; rw [hc5.out]) | (go_at_call 32; refine (right_c g _ _ _ _ _ (by first | exact hS4.out | exact hS4.out.kp hkn)).mono ?_; rintro r w5 ⟨rfl, hS5, hk5⟩))
        all_goals
          go_meet
          case rel => exact ⟨sz_to hS5 (first_to hc5.out (by first | (left; simp [*]; done) | (right; simp [emB, *]; done))), by first | exact hkn.any.trans hk5 | exact hk5⟩
      case rest =>
        obtain ⟨hS5, hk5⟩ := hcut
        subst hw4
        have hB5 := hB4.out.kp hk5.out hne.out
        clear e4 e5
        have e5 := hB5.cell 5 (v := .slice q len cap) rfl
        have hk6 := Lib.hid (hk4.out.trans hk5.out)
        have hend := Lib.hid (sz_end hk3a.out hk6.out)
        obtain ⟨b5, hb5⟩ : ∃ b, (b4 || !c5) = b := ⟨_, rfl⟩
        rw [hb5] at hS5
        have hres : Hid (b5 = (!(decide (n + 1 ≤ 500) && decide (d ≤ 14) && (false && (c3 && c4 && c5))))) := by
          show _ = _
          rw [← hb5, ← hb4.out, ← hb3.out, ← hb2.out, ← hb1.out]
          by_cases h1 : n + 1 ≤ 500 <;> by_cases h2 : d ≤ 14 <;> simp [h1, h2, Int.not_lt.2, Int.not_le.1] <;> (try omega) <;> simp [Bool.or_assoc]
        clear hB5 hS4 hk4 hk5 hk6
        cases b5
        · have h3 : Hid ((decide (n + 1 ≤ 500) && decide (d ≤ 14) && (false && (c3 && c4 && c5))) = true) := tr_of hres.out
          have h4 : n + 1 ≤ 500 ∧ d ≤ 14 := by have := h3.out; simp only [Bool.and_eq_true, decide_eq_true_eq] at this; exact this.1
          have hcall := Lib.hid (hexp.out wc dp1 hend.out hS5 h4.1 h4.2)
          clear h4
          go_wp2_with fail
          refine hcall.out.mono ?_
          rintro r w9 ⟨rfl, hk9, hR⟩
          go_wp2_with fail
          go_end0
          rw [hc3.out, hc4.out, hc5.out, h3.out, Bool.true_and]
          exact ⟨rfl, hend.out.trans hk9, hR⟩
        · have h3 : Hid ((decide (n + 1 ≤ 500) && decide (d ≤ 14) && (false && (c3 && c4 && c5))) = false) := fl_of hres.out
          have hcall := Lib.hid (hwr.out wc _ _ hS5)
          go_wp2_with fail
          refine hcall.out.mono ?_
          rintro r w9 ⟨rfl, rfl⟩
          go_wp2_with fail
          go_end0
          rw [hc3.out, hc4.out, hc5.out, h3.out, Bool.false_and]
          exact ⟨rfl, hend.out, _, _, hS5, fun h => by cases h⟩
end Go.Proofs.YtgldbeacjacbcaaGreat

set_option linter.unusedSimpArgs false
set_option linter.unusedVariables false
namespace Go.Proofs.YtgldbeacjacbcaaGreat
open Go.RowKit

/- The shape of an expression as the reference asks for it. -/
theorem shp_2 (kind m : Int) (s f : ByteArray) (args : List Ex) : shpB (.mk 2 kind m s f args) = (((args.length : Int) == 0 && (kind == 0 && m == 0)) && isNameS s && emB f) := by
  simp only [shpB, Ex.op, Ex.kind, Ex.num, Ex.s, Ex.field, Ex.args]
  rw [nat_eq0]
  generalize (kind == 0) = a
  generalize (m == 0) = b
  generalize isNameS s = c
  generalize isNameS f = c'
  generalize emB f = x
  generalize emB s = x'
  generalize (args.length == 0) = y
  cases a <;> cases b <;> cases c <;> cases c' <;> cases x <;> cases x' <;> cases y <;> simp
theorem shp_3 (kind m : Int) (s f : ByteArray) (args : List Ex) : shpB (.mk 3 kind m s f args) = (((args.length : Int) == 0 && (kind == 0 && m == 0)) && isNameS s && isNameS f) := by
  simp only [shpB, Ex.op, Ex.kind, Ex.num, Ex.s, Ex.field, Ex.args]
  rw [nat_eq0]
  generalize (kind == 0) = a
  generalize (m == 0) = b
  generalize isNameS s = c
  generalize isNameS f = c'
  generalize emB f = x
  generalize emB s = x'
  generalize (args.length == 0) = y
  cases a <;> cases b <;> cases c <;> cases c' <;> cases x <;> cases x' <;> cases y <;> simp
theorem shp_4 (kind m : Int) (s f : ByteArray) (args : List Ex) : shpB (.mk 4 kind m s f args) = (((args.length : Int) == 1 && (kind == 0 && m == 0)) && isNameS s && emB f) := by
  simp only [shpB, Ex.op, Ex.kind, Ex.num, Ex.s, Ex.field, Ex.args]
  rw [nat_eq1]
  generalize (kind == 0) = a
  generalize (m == 0) = b
  generalize isNameS s = c
  generalize isNameS f = c'
  generalize emB f = x
  generalize emB s = x'
  generalize (args.length == 1) = y
  cases a <;> cases b <;> cases c <;> cases c' <;> cases x <;> cases x' <;> cases y <;> simp
theorem shp_6 (kind m : Int) (s f : ByteArray) (args : List Ex) : shpB (.mk 6 kind m s f args) = (((args.length : Int) == 1 && (kind == 0 && m == 0)) && emB s && emB f) := by
  simp only [shpB, Ex.op, Ex.kind, Ex.num, Ex.s, Ex.field, Ex.args]
  rw [nat_eq1]
  generalize (kind == 0) = a
  generalize (m == 0) = b
  generalize isNameS s = c
  generalize isNameS f = c'
  generalize emB f = x
  generalize emB s = x'
  generalize (args.length == 1) = y
  cases a <;> cases b <;> cases c <;> cases c' <;> cases x <;> cases x' <;> cases y <;> simp
theorem shp_7 (kind m : Int) (s f : ByteArray) (args : List Ex) : shpB (.mk 7 kind m s f args) = (((args.length : Int) == 1 && (kind == 0 && m == 0)) && emB s && emB f) := by
  simp only [shpB, Ex.op, Ex.kind, Ex.num, Ex.s, Ex.field, Ex.args]
  rw [nat_eq1]
  generalize (kind == 0) = a
  generalize (m == 0) = b
  generalize isNameS s = c
  generalize isNameS f = c'
  generalize emB f = x
  generalize emB s = x'
  generalize (args.length == 1) = y
  cases a <;> cases b <;> cases c <;> cases c' <;> cases x <;> cases x' <;> cases y <;> simp
theorem shp_5 (kind m : Int) (s f : ByteArray) (args : List Ex) : shpB (.mk 5 kind m s f args) = (((args.length : Int) == (args.length : Int) && (kind == 0 && m == 0)) && isNameS s && emB f) := by
  simp only [shpB, Ex.op, Ex.kind, Ex.num, Ex.s, Ex.field, Ex.args]
  rw [beq_self_eq_true]
  generalize (kind == 0) = a
  generalize (m == 0) = b
  generalize isNameS s = c
  generalize emB f = x
  cases a <;> cases b <;> cases c <;> cases x <;> simp
theorem shp_two (op kind m : Int) (h8 : 8 ≤ op) (h21 : op ≤ 21) (s f : ByteArray) (args : List Ex) : shpB (.mk op kind m s f args) = (true && (((args.length : Int) == 2 && (kind == 0 && m == 0)) && emB s && emB f)) := by
  have h1 : ¬ op = 1 := by omega
  have h2 : ¬ op = 2 := by omega
  have h3 : ¬ op = 3 := by omega
  have h4 : ¬ op = 4 := by omega
  have h5 : ¬ op = 5 := by omega
  have h6a : ¬ op = 6 := by omega
  have h6b : ¬ op = 7 := by omega
  have h6 : ¬ (op = 6 ∨ op = 7) := by omega
  have h7 : 8 ≤ op ∧ op ≤ 21 := ⟨h8, h21⟩
  have b3 : (op == 3) = false := by simpa using h3
  simp only [shpB, Ex.op, Ex.kind, Ex.num, Ex.s, Ex.field, Ex.args, if_neg h1, if_neg h2, if_neg h3, if_neg h4, if_neg h5, if_neg h6, if_pos h7, b3]
  rw [nat_eq2]
  generalize (kind == 0) = a
  generalize (m == 0) = b
  generalize emB f = x
  generalize emB s = x'
  generalize (args.length == 2) = y
  cases a <;> cases b <;> cases x <;> cases x' <;> cases y <;> simp [h2, h3, h4, h5, h6a, h6b, h8, h21]
theorem shp_none (op kind m : Int) (h : op < 1 ∨ 21 < op) (s f : ByteArray) (args : List Ex) (c : Bool) : shpB (.mk op kind m s f args) = (false && c) := by
  have h1 : ¬ op = 1 := by omega
  have h2 : ¬ op = 2 := by omega
  have h3 : ¬ op = 3 := by omega
  have h4 : ¬ op = 4 := by omega
  have h5 : ¬ op = 5 := by omega
  have h6a : ¬ op = 6 := by omega
  have h6b : ¬ op = 7 := by omega
  have h7 : 8 ≤ op → ¬ op ≤ 21 := by omega
  simp [shpB, Ex.op, Ex.kind, Ex.num, Ex.s, Ex.field, Ex.args, h1, h2, h3, h4, h5, h6a, h6b]
  intros; exact if_neg (by omega)
theorem shp_1 (kind m : Int) (s f : ByteArray) (args : List Ex) (b : Bool) (hb : conB kind m = b) : shpB (.mk 1 kind m s f args) = (b && (((args.length : Int) == 0) && emB s && emB f)) := by
  rw [nat_eq0, ← hb]
  show (conB kind m && emB s && emB f && args.length == 0) = _
  generalize emB f = x
  generalize emB s = x'
  generalize (args.length == 0) = y
  generalize conB kind m = z
  cases z <;> cases x <;> cases x' <;> cases y <;> simp

def SzC (e : Ex) : Prop := ∀ (w0 w : World) (g : Nat) (n dp d : Int) (v : Value), exsSl w0 v e.args → Kp [] w0 w → w0.heap.size ≤ g → Sz w g n dp false → 0 ≤ n → n ≤ 500 → 0 ≤ d → d ≤ 15 → e.fits →
  Calls Tryz.prog 16 #[.pointer (some ⟨g, 0, none⟩), exVal e v, .int .i64 d] w (SzRes g (okE e d n) (n + e.cnt) w)
def SzLC (es : List Ex) : Prop := ∀ (w0 w : World) (g : Nat) (n dp d : Int) (v : Value), exsSl w0 v es → Kp [] w0 w → w0.heap.size ≤ g → Sz w g n dp false → 0 ≤ n → n ≤ 500 → 0 ≤ d → d ≤ 15 → fitsL es →
  Calls Tryz.prog 34 #[.pointer (some ⟨g, 0, none⟩), v, .int .i64 d] w (SzRes g (okL es d n) (n + cntL es) w)

set_option maxRecDepth 100000 in
theorem exprsWrong_c (g : Nat) (n dp d : Int) (q : Option Addr) (len cap : Nat) (w : World) (hS : Sz w g n dp true) :
    Calls Tryz.prog 34 #[.pointer (some ⟨g, 0, none⟩), .slice q len cap, .int .i64 d] w (fun r w' => r = .returned (.tuple #[]) ∧ w' = w) := by
  have c2 := Blk.cell hS 2 (v := .bool true) rfl
  replace hS := Lib.hid hS
  go_enter Tryz.func34, Tryz.ntmps34
  go_wp2
  go_loopw [6] (fun i wr => i = .int .i64 0 ∧ wr = w) (fun _ _ => 0)
  case atStart => exact ⟨rfl, rfl⟩
  case round =>
    obtain ⟨rfl, rfl⟩ := hrel
    by_cases h : 0 < len
    · go_wp2_with fail
      go_end0
      exact ⟨rfl, rfl⟩
    · go_wp2_with fail
      go_end0
      exact ⟨rfl, rfl⟩
end Go.Proofs.YtgldbeacjacbcaaGreat

set_option linter.unusedSimpArgs false
set_option linter.unusedVariables false
namespace Go.Proofs.YtgldbeacjacbcaaGreat
open Go.RowKit

theorem kp_old {g : Nat} {w0 a w : World} (h : Kp [g] a w) (k : Kp [] w0 a) (hg : w0.heap.size ≤ g) : Kp [] w0 w :=
  k.trans' h (fun i hi hl => by simp at hi; omega)

set_option maxRecDepth 100000 in
set_option maxHeartbeats 2000000 in
theorem szList_c (es : List Ex) (IH : ∀ i (hi : i < es.length), SzC es[i]) : SzLC es := by
  intro w0 w g n dp d v hv hk0 hg hM hn0 hn5 hd0 hd1 hfit
  obtain ⟨q, cap, rfl⟩ := hv.val
  obtain ⟨_, hnc, hcap⟩ := hv.len
  obtain ⟨len, hlen⟩ : ∃ len, es.length = len := ⟨_, rfl⟩
  have hM0 := Lib.hid hM
  rw [hlen] at hnc hv ⊢
  replace hv := Lib.hid hv
  replace hlen := Lib.hid hlen
  replace hfit := Lib.hid hfit
  replace IH := Lib.hid IH
  replace hk0 := Lib.hid hk0
  clear hM
  go_enter Tryz.func34, Tryz.ntmps34
  go_wp2
  go_loopw [6] (fun i wr => ∃ (k : Nat) (m dp : Int) (b : Bool), k ≤ len ∧ i = .int .i64 k ∧ Hid (Sz wr g m dp (!b)) ∧ Hid (Kp [g] w wr) ∧ Hid (b = true → 0 ≤ m ∧ m ≤ 500 ∧ okL es d n = okL (es.drop k) d m ∧ m + cntL (es.drop k) = n + cntL es) ∧ Hid (b = false → okL es d n = false)) (fun i _ => len - (intOf i).toNat)
  case atStart => exact ⟨0, n, dp, true, Nat.zero_le _, rfl, hM0, Kp.refl _ _, fun _ => ⟨hn0, hn5, rfl, rfl⟩, fun h => by cases h⟩
  case round =>
    obtain ⟨k, m, dp2, b, hk, rfl, hM, hG, hE, hF⟩ := hrel
    have z2 := Blk.cell hM.out 2 (v := .bool (!b)) rfl
    cases b
    · have hL : Hid (okL es d n = false) := hF.out rfl
      have hM2 : Hid (Sz wr g m dp2 true) := hM.out
      replace z2 : wr.cell? ⟨g, 2, none⟩ = some (.bool true) := z2
      by_cases hlt : k < len
      · go_wp2_with fail
        go_end0
        exact ⟨rfl, hG.out, m, dp2, by rw [hL.out]; exact hM2.out, fun h => by rw [hL.out] at h; cases h⟩
      · go_wp2_with fail
        go_end0
        exact ⟨rfl, hG.out, m, dp2, by rw [hL.out]; exact hM2.out, fun h => by rw [hL.out] at h; cases h⟩
    · have hM2 : Hid (Sz wr g m dp2 false) := hM.out
      replace z2 : wr.cell? ⟨g, 2, none⟩ = some (.bool false) := z2
      obtain ⟨hm0, hm5, hE1, hC1⟩ := hE.out rfl
      clear hE
      have hE := Lib.hid hE1
      have hC := Lib.hid hC1
      clear hE1 hC1
      by_cases hlt : k < len
      · have hlt2 : k < es.length := by rw [hlen.out]; exact hlt
        have hold := Lib.hid (kp_old hG.out hk0.out hg)
        obtain ⟨b, off, u, rfl, hu, c0, c1, c2, c3, c4, c5⟩ := hv.out.at_in hold.out k hlt2
        have hcall := Lib.hid (IH.out k hlt2)
        have hst := Lib.hid (okL_step hlt2 d m)
        have hct := Lib.hid (cnt_step hlt2)
        have hft := Lib.hid (fitsL_get hfit.out k hlt2)
        obtain ⟨e, he⟩ : ∃ e, es[k] = e := ⟨_, rfl⟩
        rw [he] at c0 c1 c2 c3 c4 hcall hst hct hft hu
        clear he
        obtain ⟨qu, cu, rfl⟩ := hu.val
        replace hu := Lib.hid hu
        obtain ⟨lu, hlu⟩ : ∃ lu, e.args.length = lu := ⟨_, rfl⟩
        rw [hlu] at hu c5
        clear hlu
        have hcall2 := Lib.hid (hcall.out w0 wr g m dp2 d _ hu.out hold.out hg hM2.out hm0 hm5 hd0 hd1 hft.out)
        unfold exVal at hcall2
        clear hcall hM
        go_wp2_with fail
        refine hcall2.out.mono ?_
        rintro r w2 ⟨rfl, hG2, n2, d2, hS2, hok⟩
        have hG3 := Lib.hid (hG.out.trans hG2)
        clear hG2 hcall2
        cases ho : okE e d m
        · have hL : Hid (okL es d n = false) := by show _ = _; rw [hE.out, hst.out, ho]; rfl
          rw [ho] at hS2
          replace hS2 : Hid (Sz w2 g n2 d2 (!false)) := hS2
          clear hok
          go_wp2_with fail
          go_roundw
          case rel => exact ⟨k + 1, n2, d2, false, by omega, by go_num, hS2, hG3, fun h => (by cases h), fun _ => hL.out⟩
          case measure => simp [intOf]; omega
        · have hn2 := hok ho
          subst hn2
          have hbd := okE_bd ho
          have hL : okL es d n = okL (es.drop (k + 1)) d (m + e.cnt) := by rw [hE.out, hst.out, ho]; rfl
          have hC2 : m + e.cnt + cntL (es.drop (k + 1)) = n + cntL es := by have := hC.out; rw [hct.out] at this; omega
          have hcp : (0 : Int) ≤ e.cnt := by omega
          replace hL := Lib.hid hL
          replace hC2 := Lib.hid hC2
          rw [ho] at hS2
          replace hS2 : Hid (Sz w2 g (m + e.cnt) d2 (!true)) := hS2
          clear hok
          go_wp2_with fail
          go_roundw
          case rel => exact ⟨k + 1, _, d2, true, by omega, by go_num, hS2, hG3, fun _ => ⟨by omega, hbd, hL.out, hC2.out⟩, fun h => by cases h⟩
          case measure => simp [intOf]; omega
      · have hdr : Hid (es.drop k = []) := by show _ = _; exact List.drop_of_length_le (by rw [hlen.out]; omega)
        have hL : Hid (okL es d n = true) := by show _ = _; rw [hE.out, hdr.out]; simp [okL, wellL, cntL, hgtL]; omega
        have hC2 : Hid (m = n + cntL es) := by show _ = _; have := hC.out; rw [hdr.out, cntL] at this; simpa using this
        go_wp2_with fail
        go_end0
        exact ⟨rfl, hG.out, m, dp2, by rw [hL.out]; exact hM2.out, fun _ => hC2.out⟩

theorem szres_to {g : Nat} {w : World} {r : Ending} {w' : World} {a b : Bool} {n m : Int} (h : SzRes g a n w r w') (e : b = a) (hn : m = n) : SzRes g b m w r w' := by subst e; subst hn; exact h
theorem con_no {kind n : Int} (h : n < 0 ∨ 2147483647 < n ∨ (kind = 1 ∧ 1 < n) ∨ (¬ kind = 1 ∧ ¬ kind = 2 ∧ ¬ kind = 3)) : conB kind n = false := by
  unfold conB
  rw [Bool.eq_false_iff]
  intro hc
  simp only [Bool.or_eq_true, Bool.and_eq_true, beq_iff_eq, decide_eq_true_eq] at hc
  omega
theorem con_yes {kind n : Int} (h : (kind = 1 ∧ (n = 0 ∨ n = 1)) ∨ ((kind = 2 ∨ kind = 3) ∧ 0 ≤ n ∧ n ≤ 2147483647)) : conB kind n = true := by
  unfold conB
  simp only [Bool.or_eq_true, Bool.and_eq_true, beq_iff_eq, decide_eq_true_eq]
  omega
theorem okS_eq {op kind m : Int} {s f : ByteArray} {args : List Ex} (h : okS (.mk op kind m s f args)) : s.size ≤ 140737488355328 ∧ f.size ≤ 140737488355328 := h

set_option maxHeartbeats 1000000 in
theorem sz_step (e : Ex) (IH : SzLC e.args) : SzC e := by
  intro w0 w g n dp d v hv hk0 hg hS hn0 hn5 hd0 hd1 hfit
  obtain ⟨q, cap, rfl⟩ := hv.val
  have hfe := (fits_eq e).1 hfit
  have hE := okE_eq e d n
  have hcnt : n + (e.cnt : Int) = n + 1 + cntL e.args := by rw [cnt_eq]; omega
  have hexp : Hid (∀ w2 dp2, Kp [g] w w2 → Sz w2 g (n + 1) dp2 false → n + 1 ≤ 500 → d ≤ 14 → Calls Tryz.prog 34 #[.pointer (some ⟨g, 0, none⟩), .slice q e.args.length cap, .int .i64 (d + 1)] w2 (SzRes g (okL e.args (d + 1) (n + 1)) (n + 1 + cntL e.args) w2)) :=
    fun w2 dp2 k hS2 h1 h2 => IH w0 w2 g (n + 1) dp2 (d + 1) _ hv (kp_old k hk0 hg) hg hS2 (by omega) h1 (by omega) (by omega) hfe.2
  have hwr : Hid (∀ w2 n2 dp2, Sz w2 g n2 dp2 true → Calls Tryz.prog 34 #[.pointer (some ⟨g, 0, none⟩), .slice q e.args.length cap, .int .i64 (d + 1)] w2 (fun r w' => r = .returned (.tuple #[]) ∧ w' = w2)) :=
    fun w2 n2 dp2 h => exprsWrong_c g n2 dp2 (d + 1) q _ cap w2 h
  cases e with
  | mk op kind m s f args =>
    obtain ⟨hs, hf⟩ := okS_eq hfe.1
    have go : ∀ {a : Bool} {r : Ending} {w' : World}, SzRes g a (n + 1 + cntL args) w r w' → a = (decide (n + 1 ≤ 500) && decide (d ≤ 14) && shpB (.mk op kind m s f args) && okL args (d + 1) (n + 1)) → SzRes g (okE (.mk op kind m s f args) d n) (n + (Ex.mk op kind m s f args).cnt) w r w' :=
      fun h e => szres_to h (hE.trans e.symm) hcnt
    show Calls Tryz.prog 16 #[.pointer (some ⟨g, 0, none⟩), .agg #[.int .i64 op, .int .i64 kind, .int .i64 m, .string s, .string f, .slice q args.length cap], .int .i64 d] w _
    rcases (show op < 1 ∨ op = 1 ∨ op = 2 ∨ op = 3 ∨ op = 4 ∨ op = 5 ∨ op = 6 ∨ op = 7 ∨ (8 ≤ op ∧ op ≤ 21) ∨ 21 < op by omega) with h | rfl | rfl | rfl | rfl | rfl | rfl | rfl | ⟨h8, h21⟩ | h
    · exact (sz_lo op kind m h s f q _ cap g n dp d w hs hf hS hn0 hn5 hd0 hd1 _ _ hexp hwr).mono fun r w' hr => go hr (by rw [shp_none op kind m (.inl h)]; try rfl)
    · by_cases h0 : m < 0
      · exact (sz_1_a kind m h0 s f q _ cap g n dp d w hs hf hS hn0 hn5 hd0 hd1 _ _ hexp hwr).mono fun r w' hr => go hr (by rw [shp_1 kind m s f args _ (con_no (.inl h0))]; try rfl)
      by_cases h1 : 2147483647 < m
      · exact (sz_1_b kind m (by omega) h1 s f q _ cap g n dp d w hs hf hS hn0 hn5 hd0 hd1 _ _ hexp hwr).mono fun r w' hr => go hr (by rw [shp_1 kind m s f args _ (con_no (.inr (.inl h1)))]; try rfl)
      by_cases h2 : kind = 2
      · subst h2
        exact (sz_1_c m (by omega) (by omega) s f q _ cap g n dp d w hs hf hS hn0 hn5 hd0 hd1 _ _ hexp hwr).mono fun r w' hr => go hr (by rw [shp_1 2 m s f args _ (con_yes (by omega))]; try rfl)
      by_cases h3 : kind = 3
      · subst h3
        exact (sz_1_d m (by omega) (by omega) s f q _ cap g n dp d w hs hf hS hn0 hn5 hd0 hd1 _ _ hexp hwr).mono fun r w' hr => go hr (by rw [shp_1 3 m s f args _ (con_yes (by omega))]; try rfl)
      by_cases h4 : kind = 1
      · subst h4
        by_cases h5 : m ≤ 1
        · exact (sz_1_e m (by omega) h5 s f q _ cap g n dp d w hs hf hS hn0 hn5 hd0 hd1 _ _ hexp hwr).mono fun r w' hr => go hr (by rw [shp_1 1 m s f args _ (con_yes (by omega))]; try rfl)
        · exact (sz_1_f m (by omega) (by omega) (by omega) s f q _ cap g n dp d w hs hf hS hn0 hn5 hd0 hd1 _ _ hexp hwr).mono fun r w' hr => go hr (by rw [shp_1 1 m s f args _ (con_no (by omega))]; try rfl)
      · exact (sz_1_g kind m h4 h2 h3 (by omega) (by omega) s f q _ cap g n dp d w hs hf hS hn0 hn5 hd0 hd1 _ _ hexp hwr).mono fun r w' hr => go hr (by rw [shp_1 kind m s f args _ (con_no (by omega))]; try rfl)
    · exact (sz_2 kind m s f q _ cap g n dp d w hs hf hS hn0 hn5 hd0 hd1 _ _ hexp hwr).mono fun r w' hr => go hr (by rw [shp_2]; try rfl)
    · exact (sz_3 kind m s f q _ cap g n dp d w hs hf hS hn0 hn5 hd0 hd1 _ _ hexp hwr).mono fun r w' hr => go hr (by rw [shp_3]; try rfl)
    · exact (sz_4 kind m s f q _ cap g n dp d w hs hf hS hn0 hn5 hd0 hd1 _ _ hexp hwr).mono fun r w' hr => go hr (by rw [shp_4]; try rfl)
    · exact (sz_5 kind m s f q _ cap g n dp d w hs hf hS hn0 hn5 hd0 hd1 _ _ hexp hwr).mono fun r w' hr => go hr (by rw [shp_5]; try rfl)
    · exact (sz_6 kind m s f q _ cap g n dp d w hs hf hS hn0 hn5 hd0 hd1 _ _ hexp hwr).mono fun r w' hr => go hr (by rw [shp_6]; try rfl)
    · exact (sz_7 kind m s f q _ cap g n dp d w hs hf hS hn0 hn5 hd0 hd1 _ _ hexp hwr).mono fun r w' hr => go hr (by rw [shp_7]; try rfl)
    · exact (sz_two op kind m h8 h21 s f q _ cap g n dp d w hs hf hS hn0 hn5 hd0 hd1 _ _ hexp hwr).mono fun r w' hr => go hr (by rw [shp_two op kind m h8 h21]; try rfl)
    · exact (sz_hi op kind m h s f q _ cap g n dp d w hs hf hS hn0 hn5 hd0 hd1 _ _ hexp hwr).mono fun r w' hr => go hr (by rw [shp_none op kind m (.inr h)]; try rfl)
mutual
theorem szE_c : ∀ e : Ex, SzC e
  | .mk op kind n s f args => sz_step _ (szList_c args (szs_all args))
theorem szs_all : ∀ (es : List Ex) (i : Nat) (hi : i < es.length), SzC es[i]
  | e :: es, 0, _ => szE_c e
  | e :: es, i + 1, hi => szs_all es i (by simpa using hi)
end

set_option maxRecDepth 100000 in
theorem rwell_c (e : Ex) (v : Value) (w : World) (hv : exsSl w v e.args) (hf : e.fits) :
    Calls Tryz.prog 7 #[exVal e v] w fun r w' => r = .returned (.bool (wellB e)) ∧ Kp [] w w' := by
  obtain ⟨q, cap, rfl⟩ := hv.val
  have hK : Kp [] w ((w.alloc (.cells #[.int .i64 e.op, .int .i64 e.kind, .int .i64 e.num, .string e.s, .string e.field, .slice q e.args.length cap] 24)).alloc (.cells #[.int .i64 0, .int .i64 0, .bool false] 43)) := ((Kp.refl [] w).alloc _).alloc _
  have hc := szE_c e w _ (w.heap.size + 1) 0 0 1 _ hv hK (by omega) (blk_new (by simp) _ _) (by omega) (by omega) (by omega) (by omega) hf
  obtain ⟨len, hlen⟩ : ∃ len, e.args.length = len := ⟨_, rfl⟩
  unfold exVal at hc ⊢
  rw [hlen] at hc hK ⊢
  replace hc := Lib.hid hc
  replace hK := Lib.hid hK
  clear hv hf hlen
  go_enter Tryz.func7, Tryz.ntmps7
  go_wp2_with fail
  refine hc.out.mono ?_
  rintro r w2 ⟨rfl, hk2, n2, d2, hS2, _⟩
  have z2 := Blk.cell hS2 2 (v := .bool (!okE e 1 0)) rfl
  have hK3 := Lib.hid (kp_old hk2 hK.out (by omega))
  have hW : Hid (wellB e = okE e 1 0) := rfl
  clear hk2 hS2
  cases ho : okE e 1 0
  all_goals
    rw [ho] at z2
    first | replace z2 : w2.cell? ⟨w.heap.size + 1, 2, none⟩ = some (.bool true) := z2 | replace z2 : w2.cell? ⟨w.heap.size + 1, 2, none⟩ = some (.bool false) := z2
    go_wp2_with fail
    go_ret
    exact ⟨ret_bool (by rw [hW.out, ho]), hK3.out⟩
end Go.Proofs.YtgldbeacjacbcaaGreat
