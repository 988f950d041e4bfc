import Derived.Test.YtebmaclopkocgaaGreatDoorPt1
import Derived.Laws.IdiomStrings
import Derived.LoopTactic
import Derived.IntWalk
set_option linter.unusedSimpArgs false
set_option linter.unusedVariables false
namespace Go.Proofs.YtebmaclopkocgaaGreatDoor
open Go.RowKit

/-- The library's table of powers of ten. -/
def TabI (w : World) : Prop := Lib.TabIs Tryz.prog w "internal/strconv.uint64pow10" .u64 Lib.pow10Tab
theorem TabI.kp {w w' : World} (h : TabI w) (k : Kp [] w w') : TabI w' := by
  unfold TabI Lib.TabIs World.var? at *
  cases hg : Tryz.prog.globalNamed "internal/strconv.uint64pow10" with
  | none => rw [hg] at h; simp at h
  | some g =>
    rw [hg] at h
    simp only [Option.bind_some] at h ⊢
    cases ho : w.heap[g]? with
    | none => rw [ho] at h; cases h
    | some o => rw [ho] at h; rw [k.heap ho (by simp)]; exact h
theorem kp_grow (w : World) (os : Array Obj) : Kp [] w (Sort.grow w os) :=
  ⟨rfl, rfl, rfl, by simp [Sort.grow], fun k hk _ => by show (w.heap ++ os)[k]? = _; rw [Array.getElem?_append_left hk]⟩
theorem itoa_c (n : Int) (h0 : -9223372036854775808 ≤ n) (h1 : n ≤ 9223372036854775807) (w : World) (h : TabI w) :
    Calls Tryz.prog 36 #[.int .i64 n] w fun e w' => e = .returned (.string (st (Lib.itoa n))) ∧ Kp [] w w' := by
  refine (Tryz.strconv_Itoa n h0 h1 w h).mono ?_
  rintro e w' ⟨rfl, k, os, rfl⟩
  exact ⟨rfl, ((Kp.refl [] w).drewN k).trans (kp_grow _ _)⟩

theorem ret_str {a b : ByteArray} (h : a = b) : Ending.returned (.string a) = .returned (.string b) := by rw [h]
set_option maxRecDepth 100000 in
theorem constant_c (kind n : Int) (h0 : -9223372036854775808 ≤ n) (h1 : n ≤ 9223372036854775807) (w : World) (h : TabI w) :
    Calls Tryz.prog 22 #[.int .i64 kind, .int .i64 n] w fun e w' => e = .returned (.string (st (conT kind n))) ∧ Kp [] w w' := by
  have hl := Lib.itoa_length_le n h0 h1
  have hsz := st_size (Lib.itoa n)
  by_cases h3 : kind = 3
  · subst h3
    go_enter Tryz.func22, Tryz.ntmps22
    go_wp2_with (go_at_call 36; refine (itoa_c n h0 h1 _ h).mono ?_; rintro e w' ⟨rfl, hk⟩)
    go_ret
    exact ⟨ret_str (st_app [116, 35] _), hk⟩
  by_cases h2 : kind = 2
  · subst h2
    go_enter Tryz.func22, Tryz.ntmps22
    go_wp2_with (go_at_call 36; refine (itoa_c n h0 h1 _ h).mono ?_; rintro e w' ⟨rfl, hk⟩)
    go_ret
    exact ⟨ret_str (by simp [conT]), hk⟩
  by_cases h4 : n = 1
  · have he : Hid (conT kind n = [116, 114, 117, 101]) := by show _ = _; rw [conT, if_neg h3, if_neg h2, if_pos h4]
    go_enter Tryz.func22, Tryz.ntmps22
    go_wp2
    go_ret
    exact ⟨ret_str (by rw [he.out]; rfl), Kp.refl _ _⟩
  · have he : Hid (conT kind n = [102, 97, 108, 115, 101]) := by show _ = _; rw [conT, if_neg h3, if_neg h2, if_neg h4]
    go_enter Tryz.func22, Tryz.ntmps22
    go_wp2
    go_ret
    exact ⟨ret_str (by rw [he.out]; rfl), Kp.refl _ _⟩

/-- A kind and a number that have a text. -/
def isConB (kind n : Int) : Bool :=
  if kind = 1 then n == 0 || n == 1 else if kind = 2 then decide (-2147483647 ≤ n) && decide (n ≤ 2147483647) else if kind = 3 then decide (0 ≤ n) && decide (n ≤ 2147483647) else false
set_option maxRecDepth 100000 in
theorem isConst3_c (kind n : Int) (w : World) :
    Calls Tryz.prog 21 #[.int .i64 kind, .int .i64 n] w fun e w' => e = .returned (.bool (isConB kind n)) ∧ w' = w := by
  rcases (show kind = 1 ∨ kind = 2 ∨ kind = 3 ∨ (¬ kind = 1 ∧ ¬ kind = 2 ∧ ¬ kind = 3) by omega) with rfl | rfl | rfl | ⟨h1, h2, h3⟩
  · go_enter Tryz.func21, Tryz.ntmps21
    go_wp2
    all_goals (go_ret; refine ⟨ret_bool ?_, rfl⟩; simp [isConB, *])
  · by_cases h : -2147483647 ≤ n
    all_goals
      go_enter Tryz.func21, Tryz.ntmps21
      go_wp2
      all_goals (go_ret; refine ⟨ret_bool ?_, rfl⟩; simp [isConB, h] <;> omega)
  · by_cases h : 0 ≤ n
    all_goals
      go_enter Tryz.func21, Tryz.ntmps21
      go_wp2
      all_goals (go_ret; refine ⟨ret_bool ?_, rfl⟩; simp [isConB, h] <;> omega)
  · go_enter Tryz.func21, Tryz.ntmps21
    go_wp2
    go_ret
    exact ⟨ret_bool (by simp [isConB, h1, h2, h3]), rfl⟩
set_option maxRecDepth 100000 in
theorem const_c (kind n : Int) (h0 : -9223372036854775808 ≤ n) (h1 : n ≤ 9223372036854775807) (w : World) (h : TabI w) :
    Calls Tryz.prog 10 #[.int .i64 kind, .int .i64 n] w fun e w' => e = .returned (.tuple #[.string (if isConB kind n then st (conT kind n) else ⟨#[]⟩), .int .i64 (if isConB kind n then 0 else 2)]) ∧ Kp [] w w' := by
  cases hb : isConB kind n
  · go_enter Tryz.func10, Tryz.ntmps10
    go_wp2_with (go_at_call 21; refine (isConst3_c kind n _).mono ?_; rintro e w' ⟨rfl, rfl⟩; rw [hb])
    go_ret2
    exact ⟨rfl, Kp.refl _ _⟩
  · go_enter Tryz.func10, Tryz.ntmps10
    go_wp2_with (first | (go_at_call 21; refine (isConst3_c kind n _).mono ?_; rintro e w' ⟨rfl, rfl⟩; rw [hb]) | (go_at_call 22; refine (constant_c kind n h0 h1 _ h).mono ?_; rintro e w' ⟨rfl, hk⟩))
    go_ret2
    exact ⟨rfl, hk⟩
end Go.Proofs.YtebmaclopkocgaaGreatDoor
