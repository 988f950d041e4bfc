import Derived.Test.YtebmaclopkocgaaGreatDoorNm2
import Derived.Great.Walk
set_option linter.unusedSimpArgs false
set_option linter.unusedVariables false
namespace Go.Proofs.YtebmaclopkocgaaGreatDoor
open Go.RowKit

/- The reference's functions. -/
theorem rletter_c (c : UInt8) (w : World) :
    Calls Tryz.prog 51 #[.int .u8 c.toNat] w fun e w' => e = .returned (.bool (isLet c)) ∧ w = w' := by
  go_enter Tryz.func51, Tryz.ntmps51
  go_wp2
  all_goals (go_ret; exact ⟨ret_bool (by simp [isLet]; try omega), rfl⟩)

theorem rdigit_c (c : UInt8) (w : World) :
    Calls Tryz.prog 52 #[.int .u8 c.toNat] w fun e w' => e = .returned (.bool (isDig c)) ∧ w = w' := by
  go_enter Tryz.func52, Tryz.ntmps52
  go_wp2
  all_goals (go_ret; exact ⟨ret_bool (by simp [isDig]; try omega), rfl⟩)

theorem drop_cons (s : ByteArray) (k : Nat) (h : k < s.size) : s.data.toList.drop k = s[k] :: s.data.toList.drop (k + 1) := by
  rw [List.drop_eq_getElem_cons (by simpa using h)]; rfl

def hasL (ws : List (List UInt8)) (l : List UInt8) : Bool := ws.contains l

theorem has_c (ws : List (List UInt8)) (s : ByteArray) (g cap : Nat) (w : World) (hn : ws.length ≤ 1000) (hc : ∀ i x, ws[i]? = some x → w.cell? ⟨g, i, none⟩ = some (.string ⟨x.toArray⟩)) :
    Calls Tryz.prog 70 #[.slice (some ⟨g, 0, none⟩) ws.length cap, .string s] w fun e w' => e = .returned (.bool (hasL ws s.data.toList)) ∧ w = w' := by
  replace hc := Lib.hid hc
  have hsl := Lib.hid (Lib.toList_data s)
  go_enter Tryz.func70, Tryz.ntmps70
  go_wp2
  go_loop [5] (fun i => ∃ k : Nat, k ≤ ws.length ∧ i = .int .i64 k ∧ Hid (hasL (ws.drop k) s.data.toList = hasL ws s.data.toList)) (fun i => ws.length - (intOf i).toNat)
  case atStart => exact ⟨0, by omega, rfl, rfl⟩
  case round =>
    obtain ⟨k, hk, rfl, hE⟩ := hrel
    by_cases hlt : k < ws.length
    · have hcell := hc.out k ws[k] (by simp)
      have hst : Hid (hasL (ws.drop k) s.data.toList = ((s.data.toList == ws[k]) || hasL (ws.drop (k + 1)) s.data.toList)) := by
        show _ = _
        rw [hasL, hasL, List.drop_eq_getElem_cons hlt, List.contains_cons]
      cases hx : (ws[k] == s.toList)
      · have hx2 : Hid ((s.data.toList == ws[k]) = false) := by
          show _ = _
          rw [← hsl.out, Bool.eq_false_iff]; intro e; rw [(beq_iff_eq.1 e)] at hx; simp at hx
        go_wp2
        go_round
        case rel => exact ⟨k + 1, by omega, by go_num, by (show _ = _; rw [← hE.out, hst.out, hx2.out]; rfl)⟩
        case measure => simp [intOf]; omega
      · have hx2 : Hid ((s.data.toList == ws[k]) = true) := by
          show _ = _
          rw [← hsl.out, ← beq_iff_eq.1 hx]; simp
        go_wp2
        go_ret
        exact ⟨ret_bool (by rw [← hE.out, hst.out, hx2.out]; rfl), rfl⟩
    · have hE2 : Hid (hasL ws s.data.toList = false) := by
        show _ = _
        rw [← hE.out, List.drop_of_length_le (by omega)]; rfl
      go_wp2
      go_ret
      exact ⟨ret_bool hE2.out.symm, rfl⟩

def wordsV : Array Value := (wordsL.map fun x => Value.string ⟨x.toArray⟩).toArray
def isWordL (l : List UInt8) : Bool := hasL wordsL l
section
open Go.Great
set_option maxRecDepth 100000 in
theorem rwords_c (w : World) :
    Calls Tryz.prog 71 #[] w fun e w' => e = .returned (.slice (some ⟨w.heap.size, 0, none⟩) 90 90) ∧ w' = w.alloc (.cells wordsV 9) := by
  go_enter Tryz.func71, Tryz.ntmps71
  iterate 11 go_step
  refine wpList_buildSliceTo rfl 37 9 90 _ rfl w.heap.size rfl (some 1) rfl Tryz.underlying37 wordsV ?_ ?_
  · as_aux_lemma => kernel_rfl
  go_wp2
  go_ret
  exact ⟨rfl, rfl⟩

end
theorem rrow_cells (ws : List (List UInt8)) (V : Array Value) (hV : V = (ws.map fun x => Value.string ⟨x.toArray⟩).toArray) (w : World) (T : TypeId) (i : Nat) (x : List UInt8) (h : ws[i]? = some x) :
    (w.alloc (.cells V T)).cell? ⟨w.heap.size, i, none⟩ = some (.string ⟨x.toArray⟩) := by
  refine Blk.cell (Blk.new w T V) i ?_
  rw [hV]
  simp [h]

theorem rword_c (s : ByteArray) (w : World) :
    Calls Tryz.prog 53 #[.string s] w fun e w' => e = .returned (.bool (isWordL s.data.toList)) ∧ Kp [] w w' := by
  have hl : wordsL.length = 90 := by decide
  have hh := has_c wordsL s w.heap.size 90 (w.alloc (.cells wordsV 9)) (by decide) (rrow_cells wordsL wordsV rfl w 9)
  rw [hl] at hh
  replace hh := Lib.hid hh
  clear hl
  go_enter Tryz.func53, Tryz.ntmps53
  go_wp2_with fail
  refine (rwords_c _).mono ?_
  rintro e w' ⟨rfl, rfl⟩
  go_wp2_with fail
  refine hh.out.mono ?_
  rintro e w' ⟨rfl, rfl⟩
  go_wp2_with fail
  go_ret
  exact ⟨rfl, (Kp.refl _ w).alloc _⟩

theorem isRunB_or (c : UInt8) : isRunB c = (isLet c || isDig c || ((c.toNat : Int) == 95)) := rfl

theorem run_step {s : ByteArray} {k : Nat} (h : k < s.size) (hE : isRunL s.data.toList = (s.data.toList.drop k).all isRunB) :
    isRunL s.data.toList = (isRunB s[k] && (s.data.toList.drop (k + 1)).all isRunB) := by
  rw [hE, drop_cons s k h, List.all_cons]
theorem run_first {s : ByteArray} (h : 0 < s.size) : isRunL s.data.toList = (isLet s[0] && (s.data.toList.drop 1).all isRunB) := by
  have e := drop_cons s 0 h
  rw [List.drop_zero] at e
  rw [e, isRunL, ← e]
  cases hl : isLet s[0]
  · simp
  · have : isRunB s[0] = true := by rw [isRunB_or, hl]; rfl
    rw [e]; simp [this]

theorem rname_c (s : ByteArray) (w : World) (hs : s.size ≤ 140737488355328) :
    Calls Tryz.prog 34 #[.string s] w fun e w' => e = .returned (.bool (isNameS s)) ∧ Kp [] w w' := by
  have hN : Hid (isNameS s = (decide (s.size ≤ 12) && isRunL s.data.toList && !isWordL s.data.toList)) := rfl
  go_enter Tryz.func34, Tryz.ntmps34
  go_wp2
  go_loop [3] (fun i => ∃ k : Nat, k ≤ s.size ∧ i = .int .i64 k ∧ Hid (0 < k → isRunL s.data.toList = (s.data.toList.drop k).all isRunB)) (fun i => s.size - (intOf i).toNat)
  case atStart => exact ⟨0, by omega, rfl, fun h => absurd h (by omega)⟩
  case round =>
    obtain ⟨k, hk, rfl, hE⟩ := hrel
    by_cases hlt : k < s.size
    · by_cases hk0 : k = 0
      · subst hk0
        have hst := Lib.hid (run_first hlt)
        cases hl : isLet s[0]
        · have hF : Hid (isNameS s = false) := by show _ = _; rw [hN.out, hst.out, hl]; simp
          go_wp2_with (first | (go_at_call 51; refine (rletter_c _ _).mono ?_; rintro e w' ⟨rfl, rfl⟩) | (go_at_call 52; refine (rdigit_c _ _).mono ?_; rintro e w' ⟨rfl, rfl⟩))
          go_ret
          exact ⟨ret_bool hF.out.symm, Kp.refl _ _⟩
        · have hl1 : Hid (isLet s[0] = true) := hl
          go_wp2_with (first | (go_at_call 51; refine (rletter_c _ _).mono ?_; rintro e w' ⟨rfl, rfl⟩) | (go_at_call 52; refine (rdigit_c _ _).mono ?_; rintro e w' ⟨rfl, rfl⟩))
          go_round
          case rel => exact ⟨1, by omega, rfl, fun _ => by rw [hst.out, hl1.out]; rfl⟩
          case measure => simp [intOf]; omega
      · have hkz : ((k : Int) == 0) = false := by simp; omega
        have hst := Lib.hid (run_step hlt (hE.out (by omega)))
        have hB := Lib.hid (isRunB_or s[k])
        cases hl : isLet s[k] <;> cases hd : isDig s[k] <;> cases hu : ((s[k].toNat : Int) == 95)
        all_goals
          have hu2 : ((s[k].toNat : Int) != 95) = !((s[k].toNat : Int) == 95) := rfl
          rw [hu] at hu2
          have h1 := hst.out
          rw [hB.out, hl, hd, hu] at h1
          simp only [Bool.or_true, Bool.or_false, Bool.true_and, Bool.false_and] at h1
          replace h1 := Lib.hid h1
          simp only [Bool.not_true, Bool.not_false] at hu2
          go_wp2_with (first | (go_at_call 51; refine (rletter_c _ _).mono ?_; rintro e w' ⟨rfl, rfl⟩) | (go_at_call 52; refine (rdigit_c _ _).mono ?_; rintro e w' ⟨rfl, rfl⟩))
          first
            | (go_round
               case rel => exact ⟨k + 1, by omega, by go_num, fun _ => h1.out⟩
               case measure => simp [intOf]; omega)
            | (go_ret
               exact ⟨ret_bool (by rw [hN.out, h1.out]; simp), Kp.refl _ _⟩)
    · obtain rfl : k = s.size := by omega
      have hR : Hid (isRunL s.data.toList = decide (0 < s.size)) := by
        show _ = _
        by_cases hz : 0 < s.size
        · rw [hE.out hz, List.drop_of_length_le (by simp)]; simp [hz]
        · have : s.data.toList = [] := List.eq_nil_of_length_eq_zero (by rw [Array.length_toList]; show s.size = 0; omega)
          rw [this]; simp [isRunL, hz]
      by_cases h1 : 1 ≤ s.size
      · by_cases h12 : s.size ≤ 12
        · have h0 : 0 < s.size := by omega
          have hF : Hid (isNameS s = !isWordL s.data.toList) := by show _ = _; rw [hN.out, hR.out]; simp [h12, h0]
          have g1 : decide ((1 : Int) ≤ (s.size : Int)) = true := by simp; omega
          have g2 : decide ((s.size : Int) ≤ 12) = true := by simp; omega
          go_wp2_with (go_at_call 53; refine (rword_c _ _).mono ?_; rintro e w' ⟨rfl, hk⟩)
          go_ret
          exact ⟨ret_bool hF.out.symm, hk⟩
        · have hF : Hid (isNameS s = false) := by show _ = _; rw [hN.out]; simp [h12]
          have g1 : decide ((1 : Int) ≤ (s.size : Int)) = true := by simp; omega
          have g2 : decide ((s.size : Int) ≤ 12) = false := by simp; omega
          go_wp2_with (go_at_call 53; refine (rword_c _ _).mono ?_; rintro e w' ⟨rfl, hk⟩)
          go_ret
          exact ⟨ret_bool hF.out.symm, Kp.refl _ _⟩
      · have h0 : ¬ 0 < s.size := by omega
        have hF : Hid (isNameS s = false) := by show _ = _; rw [hN.out, hR.out]; simp [h0]
        have g1 : decide ((1 : Int) ≤ (s.size : Int)) = false := by simp; omega
        go_wp2_with (go_at_call 53; refine (rword_c _ _).mono ?_; rintro e w' ⟨rfl, hk⟩)
        go_ret
        exact ⟨ret_bool hF.out.symm, Kp.refl _ _⟩

end Go.Proofs.YtebmaclopkocgaaGreatDoor
