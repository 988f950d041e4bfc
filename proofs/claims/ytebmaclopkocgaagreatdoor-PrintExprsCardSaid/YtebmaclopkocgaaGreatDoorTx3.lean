import Derived.Test.YtebmaclopkocgaaGreatDoorTx1
import Derived.Test.YtebmaclopkocgaaGreatDoorNm2
import Derived.Outline
import Derived.IntWalk
set_option linter.unusedSimpArgs false
set_option linter.unusedVariables false
namespace Go.Proofs.YtebmaclopkocgaaGreatDoor
open Go.RowKit

/-- A constant that the grammar has. -/
def conB (kind n : Int) : Bool := (kind == 1 && (n == 0 || n == 1)) || ((kind == 2 || kind == 3) && (decide (0 ≤ n) && decide (n ≤ 2147483647)))
def emB (s : ByteArray) : Bool := s.toList.isEmpty
/-- The fields of an expression are those that its operator needs. -/
def shpB (e : Ex) : Bool :=
  if e.op = 1 then conB e.kind e.num && emB e.s && emB e.field && e.args.length == 0
  else if !(e.kind == 0 && e.num == 0 && (e.op == 3 || emB e.field)) then false
  else if e.op = 2 then isNameS e.s && e.args.length == 0
  else if e.op = 3 then isNameS e.s && isNameS e.field && e.args.length == 0
  else if e.op = 4 then isNameS e.s && e.args.length == 1
  else if e.op = 5 then isNameS e.s
  else if e.op = 6 ∨ e.op = 7 then emB e.s && e.args.length == 1
  else if 8 ≤ e.op ∧ e.op ≤ 21 then emB e.s && e.args.length == 2
  else false

theorem nat_eq0 (n : Nat) : ((n : Int) == 0) = (n == 0) := by rw [Bool.eq_iff_iff]; simp
theorem nat_eq1 (n : Nat) : ((n : Int) == 1) = (n == 1) := by rw [Bool.eq_iff_iff]; simp; omega
theorem nat_eq2 (n : Nat) : ((n : Int) == 2) = (n == 2) := by rw [Bool.eq_iff_iff]; simp; omega
theorem isConst_c (kind n : Int) (w : World) :
    Calls Tryz.prog 67 #[.int .i64 kind, .int .i64 n] w fun e w' => e = .returned (.bool (conB kind n)) ∧ w' = w := by
  rcases (show kind = 1 ∨ kind = 2 ∨ kind = 3 ∨ (¬ kind = 1 ∧ ¬ kind = 2 ∧ ¬ kind = 3) by omega) with rfl | rfl | rfl | ⟨h1, h2, h3⟩
  · go_enter Tryz.func67, Tryz.ntmps67
    go_wp2
    all_goals (go_ret; refine ⟨ret_bool ?_, rfl⟩; simp [conB, *])
  · by_cases h : 0 ≤ n
    all_goals
      go_enter Tryz.func67, Tryz.ntmps67
      go_wp2
      all_goals (go_ret; refine ⟨ret_bool ?_, rfl⟩; simp [conB, h] <;> omega)
  · by_cases h : 0 ≤ n
    all_goals
      go_enter Tryz.func67, Tryz.ntmps67
      go_wp2
      all_goals (go_ret; refine ⟨ret_bool ?_, rfl⟩; simp [conB, h] <;> omega)
  · go_enter Tryz.func67, Tryz.ntmps67
    go_wp2
    go_ret
    exact ⟨ret_bool (by simp [conB, h1, h2, h3]), rfl⟩

set_option maxRecDepth 100000 in
theorem isExpr_1 (kind n : Int) (s f : ByteArray) (q : Option Addr) (len cap : Nat) (w : World) :
    Calls Tryz.prog 48 #[.agg #[.int .i64 1, .int .i64 kind, .int .i64 n, .string s, .string f, .slice q len cap]] w fun e w' => e = .returned (.bool (conB kind n && emB s && emB f && len == 0)) ∧ Gr w w' := by
  go_enter Tryz.func48, Tryz.ntmps48
  go_wp2_with fail
  refine (isConst_c kind n _).mono ?_
  rintro e w' ⟨rfl, rfl⟩
  go_wp2_with fail
  all_goals (go_ret; refine ⟨ret_bool ?_, (Gr.refl _).cells _ _⟩; simp [emB, nat_eq0, nat_eq1, nat_eq2, *])
set_option maxRecDepth 100000 in
theorem isExpr_bad (op kind n : Int) (s f : ByteArray) (q : Option Addr) (len cap : Nat) (w : World) (h1 : ¬ op = 1) (h : (kind == 0 && n == 0 && (op == 3 || emB f)) = false) :
    Calls Tryz.prog 48 #[.agg #[.int .i64 op, .int .i64 kind, .int .i64 n, .string s, .string f, .slice q len cap]] w fun e w' => e = .returned (.bool false) ∧ Gr w w' := by
  by_cases hk : kind = 0
  · subst hk
    by_cases hn : n = 0
    · subst hn
      have h3 : ¬ op = 3 := by intro e; subst e; simp at h
      have hf : f.toList.isEmpty = false := by simpa [h3, emB] using h
      clear h
      go_enter Tryz.func48, Tryz.ntmps48
      go_wp2_with fail
      go_ret
      exact ⟨rfl, (Gr.refl _).cells _ _⟩
    · clear h
      go_enter Tryz.func48, Tryz.ntmps48
      go_wp2_with fail
      go_ret
      exact ⟨rfl, (Gr.refl _).cells _ _⟩
  · clear h
    go_enter Tryz.func48, Tryz.ntmps48
    go_wp2_with fail
    go_ret
    exact ⟨rfl, (Gr.refl _).cells _ _⟩
set_option maxRecDepth 100000 in
theorem isExpr_2 (s f : ByteArray) (q : Option Addr) (len cap : Nat) (w : World) (hA : Amb w) (hs : s.size ≤ 140737488355328) (hf : f.toList.isEmpty = true) :
    Calls Tryz.prog 48 #[.agg #[.int .i64 2, .int .i64 0, .int .i64 0, .string s, .string f, .slice q len cap]] w fun e w' => e = .returned (.bool (isNameS s && len == 0)) ∧ Gr w w' := by
  obtain ⟨b, hb⟩ : ∃ b, isNameS s = b := ⟨_, rfl⟩
  have hA2 := Lib.hid (hA.kp0 ((Kp.refl [] w).alloc (.cells #[.int .i64 2, .int .i64 0, .int .i64 0, .string s, .string f, .slice q len cap] 24)))
  rw [hb]
  replace hb := Lib.hid hb
  go_enter Tryz.func48, Tryz.ntmps48
  go_wp2_with fail
  refine (name_c s _ hA2.out hs).mono ?_
  rintro e w' ⟨rfl, rfl⟩
  rw [hb.out]
  go_wp2_with fail
  all_goals (go_ret; refine ⟨ret_bool ?_, (Gr.refl _).cells _ _⟩; simp [nat_eq0, nat_eq1, *])
set_option maxRecDepth 100000 in
theorem isExpr_4 (s f : ByteArray) (q : Option Addr) (len cap : Nat) (w : World) (hA : Amb w) (hs : s.size ≤ 140737488355328) (hf : f.toList.isEmpty = true) :
    Calls Tryz.prog 48 #[.agg #[.int .i64 4, .int .i64 0, .int .i64 0, .string s, .string f, .slice q len cap]] w fun e w' => e = .returned (.bool (isNameS s && len == 1)) ∧ Gr w w' := by
  obtain ⟨b, hb⟩ : ∃ b, isNameS s = b := ⟨_, rfl⟩
  have hA2 := Lib.hid (hA.kp0 ((Kp.refl [] w).alloc (.cells #[.int .i64 4, .int .i64 0, .int .i64 0, .string s, .string f, .slice q len cap] 24)))
  rw [hb]
  replace hb := Lib.hid hb
  go_enter Tryz.func48, Tryz.ntmps48
  go_wp2_with fail
  refine (name_c s _ hA2.out hs).mono ?_
  rintro e w' ⟨rfl, rfl⟩
  rw [hb.out]
  go_wp2_with fail
  all_goals (go_ret; refine ⟨ret_bool ?_, (Gr.refl _).cells _ _⟩; simp [nat_eq0, nat_eq1, *])
set_option maxRecDepth 100000 in
theorem isExpr_5 (s f : ByteArray) (q : Option Addr) (len cap : Nat) (w : World) (hA : Amb w) (hs : s.size ≤ 140737488355328) (hf : f.toList.isEmpty = true) :
    Calls Tryz.prog 48 #[.agg #[.int .i64 5, .int .i64 0, .int .i64 0, .string s, .string f, .slice q len cap]] w fun e w' => e = .returned (.bool (isNameS s)) ∧ Gr w w' := by
  obtain ⟨b, hb⟩ : ∃ b, isNameS s = b := ⟨_, rfl⟩
  have hA2 := Lib.hid (hA.kp0 ((Kp.refl [] w).alloc (.cells #[.int .i64 5, .int .i64 0, .int .i64 0, .string s, .string f, .slice q len cap] 24)))
  rw [hb]
  replace hb := Lib.hid hb
  go_enter Tryz.func48, Tryz.ntmps48
  go_wp2_with fail
  refine (name_c s _ hA2.out hs).mono ?_
  rintro e w' ⟨rfl, rfl⟩
  rw [hb.out]
  go_wp2_with fail
  go_ret
  exact ⟨rfl, (Gr.refl _).cells _ _⟩
set_option maxRecDepth 100000 in
theorem isExpr_3 (s f : ByteArray) (q : Option Addr) (len cap : Nat) (w : World) (hA : Amb w) (hs : s.size ≤ 140737488355328) (hfs : f.size ≤ 140737488355328) :
    Calls Tryz.prog 48 #[.agg #[.int .i64 3, .int .i64 0, .int .i64 0, .string s, .string f, .slice q len cap]] w fun e w' => e = .returned (.bool (isNameS s && isNameS f && len == 0)) ∧ Gr w w' := by
  have hA2 := Lib.hid (hA.kp0 ((Kp.refl [] w).alloc (.cells #[.int .i64 3, .int .i64 0, .int .i64 0, .string s, .string f, .slice q len cap] 24)))
  cases hb : isNameS s
  · go_enter Tryz.func48, Tryz.ntmps48
    go_wp2_with fail
    refine (name_c s _ hA2.out hs).mono ?_
    rintro e w' ⟨rfl, rfl⟩
    rw [hb]
    go_wp2_with fail
    all_goals (go_ret; refine ⟨ret_bool ?_, (Gr.refl _).cells _ _⟩; simp [*])
  · obtain ⟨c, hc⟩ : ∃ c, isNameS f = c := ⟨_, rfl⟩
    rw [hc]
    replace hc := Lib.hid hc
    go_enter Tryz.func48, Tryz.ntmps48
    go_wp2_with fail
    refine (name_c s _ hA2.out hs).mono ?_
    rintro e w' ⟨rfl, rfl⟩
    rw [hb]
    go_wp2_with fail
    refine (name_c f _ hA2.out hfs).mono ?_
    rintro e w' ⟨rfl, rfl⟩
    rw [hc.out]
    go_wp2_with fail
    all_goals (go_ret; refine ⟨ret_bool ?_, (Gr.refl _).cells _ _⟩; simp [nat_eq0, nat_eq1, *])
set_option maxRecDepth 100000 in
theorem isExpr_6 (s f : ByteArray) (q : Option Addr) (len cap : Nat) (w : World) (hf : f.toList.isEmpty = true) :
    Calls Tryz.prog 48 #[.agg #[.int .i64 6, .int .i64 0, .int .i64 0, .string s, .string f, .slice q len cap]] w fun e w' => e = .returned (.bool (emB s && len == 1)) ∧ Gr w w' := by
  go_enter Tryz.func48, Tryz.ntmps48
  go_wp2_with fail
  all_goals (go_ret; refine ⟨ret_bool ?_, (Gr.refl _).cells _ _⟩; simp [emB, nat_eq0, nat_eq1, nat_eq2, *])
set_option maxRecDepth 100000 in
theorem isExpr_7 (s f : ByteArray) (q : Option Addr) (len cap : Nat) (w : World) (hf : f.toList.isEmpty = true) :
    Calls Tryz.prog 48 #[.agg #[.int .i64 7, .int .i64 0, .int .i64 0, .string s, .string f, .slice q len cap]] w fun e w' => e = .returned (.bool (emB s && len == 1)) ∧ Gr w w' := by
  go_enter Tryz.func48, Tryz.ntmps48
  go_wp2_with fail
  all_goals (go_ret; refine ⟨ret_bool ?_, (Gr.refl _).cells _ _⟩; simp [emB, nat_eq0, nat_eq1, nat_eq2, *])
set_option maxRecDepth 100000 in
theorem isExpr_two (op : Int) (s f : ByteArray) (q : Option Addr) (len cap : Nat) (w : World) (h8 : 8 ≤ op) (h21 : op ≤ 21) (hf : f.toList.isEmpty = true) :
    Calls Tryz.prog 48 #[.agg #[.int .i64 op, .int .i64 0, .int .i64 0, .string s, .string f, .slice q len cap]] w fun e w' => e = .returned (.bool (emB s && len == 2)) ∧ Gr w w' := by
  have n1 : ¬ op = 1 := by omega
  have b1 : (op == 1) = false := by simpa using n1
  have n2 : ¬ op = 2 := by omega
  have b2 : (op == 2) = false := by simpa using n2
  have n3 : ¬ op = 3 := by omega
  have b3 : (op == 3) = false := by simpa using n3
  have n4 : ¬ op = 4 := by omega
  have b4 : (op == 4) = false := by simpa using n4
  have n5 : ¬ op = 5 := by omega
  have b5 : (op == 5) = false := by simpa using n5
  have n6 : ¬ op = 6 := by omega
  have b6 : (op == 6) = false := by simpa using n6
  have n7 : ¬ op = 7 := by omega
  have b7 : (op == 7) = false := by simpa using n7
  go_enter Tryz.func48, Tryz.ntmps48
  go_wp2_with fail
  all_goals (go_ret; refine ⟨ret_bool ?_, (Gr.refl _).cells _ _⟩; simp [emB, nat_eq0, nat_eq1, nat_eq2, *])
set_option maxRecDepth 100000 in
theorem isExpr_none (op : Int) (s f : ByteArray) (q : Option Addr) (len cap : Nat) (w : World) (h : op < 1 ∨ 21 < op) (hf : f.toList.isEmpty = true) :
    Calls Tryz.prog 48 #[.agg #[.int .i64 op, .int .i64 0, .int .i64 0, .string s, .string f, .slice q len cap]] w fun e w' => e = .returned (.bool false) ∧ Gr w w' := by
  have n1 : ¬ op = 1 := by omega
  have b1 : (op == 1) = false := by simpa using n1
  have n2 : ¬ op = 2 := by omega
  have b2 : (op == 2) = false := by simpa using n2
  have n3 : ¬ op = 3 := by omega
  have b3 : (op == 3) = false := by simpa using n3
  have n4 : ¬ op = 4 := by omega
  have b4 : (op == 4) = false := by simpa using n4
  have n5 : ¬ op = 5 := by omega
  have b5 : (op == 5) = false := by simpa using n5
  have n6 : ¬ op = 6 := by omega
  have b6 : (op == 6) = false := by simpa using n6
  have n7 : ¬ op = 7 := by omega
  have b7 : (op == 7) = false := by simpa using n7
  rcases h with h | h
  · have h8 : ¬ 8 ≤ op := by omega
    clear h
    go_enter Tryz.func48, Tryz.ntmps48
    go_wp2_with fail
    go_ret
    exact ⟨rfl, (Gr.refl _).cells _ _⟩
  · have h8 : 8 ≤ op := by omega
    have h9 : ¬ op ≤ 21 := by omega
    clear h
    go_enter Tryz.func48, Tryz.ntmps48
    go_wp2_with fail
    go_ret
    exact ⟨rfl, (Gr.refl _).cells _ _⟩

/-- The expression as a value: its slice of operands is v. -/
def exVal (e : Ex) (v : Value) : Value := .agg #[.int .i64 e.op, .int .i64 e.kind, .int .i64 e.num, .string e.s, .string e.field, v]
def okS (e : Ex) : Prop := e.s.size ≤ 140737488355328 ∧ e.field.size ≤ 140737488355328
theorem isExpr_c (e : Ex) (q : Option Addr) (cap : Nat) (w : World) (hA : Amb w) (hs : okS e) :
    Calls Tryz.prog 48 #[exVal e (.slice q e.args.length cap)] w fun r w' => r = .returned (.bool (shpB e)) ∧ Gr w w' := by
  obtain ⟨hs1, hs2⟩ := hs
  cases e with
  | mk op kind n s f args =>
    by_cases h1 : op = 1
    · subst h1; exact (isExpr_1 kind n s f q args.length cap w).mono fun r w' h => ⟨h.1.trans (ret_bool (by simp [shpB, Ex.op, Ex.kind, Ex.num, Ex.s, Ex.field, Ex.args, -Bool.and_eq_true])), h.2⟩
    cases hg : (kind == 0 && n == 0 && (op == 3 || emB f))
    · exact (isExpr_bad op kind n s f q args.length cap w h1 hg).mono fun r w' h => ⟨h.1.trans (ret_bool (by simp [shpB, Ex.op, Ex.kind, Ex.num, Ex.s, Ex.field, Ex.args, h1, hg])), h.2⟩
    have hk : kind = 0 ∧ n = 0 := by simp at hg; exact hg.1
    obtain ⟨rfl, rfl⟩ := hk
    by_cases h3 : op = 3
    · subst h3; exact (isExpr_3 s f q args.length cap w hA hs1 hs2).mono fun r w' h => ⟨h.1.trans (ret_bool (by simp [shpB, Ex.op, Ex.kind, Ex.num, Ex.s, Ex.field, Ex.args, -Bool.and_eq_true])), h.2⟩
    have hf : f.toList.isEmpty = true := by simpa [h3, emB] using hg
    by_cases h2 : op = 2
    · subst h2; exact (isExpr_2 s f q args.length cap w hA hs1 hf).mono fun r w' h => ⟨h.1.trans (ret_bool (by simp [shpB, Ex.op, Ex.kind, Ex.num, Ex.s, Ex.field, Ex.args, emB, hf])), h.2⟩
    by_cases h4 : op = 4
    · subst h4; exact (isExpr_4 s f q args.length cap w hA hs1 hf).mono fun r w' h => ⟨h.1.trans (ret_bool (by simp [shpB, Ex.op, Ex.kind, Ex.num, Ex.s, Ex.field, Ex.args, emB, hf])), h.2⟩
    by_cases h5 : op = 5
    · subst h5; exact (isExpr_5 s f q args.length cap w hA hs1 hf).mono fun r w' h => ⟨h.1.trans (ret_bool (by simp [shpB, Ex.op, Ex.kind, Ex.num, Ex.s, Ex.field, Ex.args, emB, hf])), h.2⟩
    by_cases h6 : op = 6
    · subst h6; exact (isExpr_6 s f q args.length cap w hf).mono fun r w' h => ⟨h.1.trans (ret_bool (by simp [shpB, Ex.op, Ex.kind, Ex.num, Ex.s, Ex.field, Ex.args, emB, hf])), h.2⟩
    by_cases h7 : op = 7
    · subst h7; exact (isExpr_7 s f q args.length cap w hf).mono fun r w' h => ⟨h.1.trans (ret_bool (by simp [shpB, Ex.op, Ex.kind, Ex.num, Ex.s, Ex.field, Ex.args, emB, hf])), h.2⟩
    by_cases h8 : 8 ≤ op ∧ op ≤ 21
    · exact (isExpr_two op s f q args.length cap w h8.1 h8.2 hf).mono fun r w' h => ⟨h.1.trans (ret_bool (by simp [shpB, Ex.op, Ex.kind, Ex.num, Ex.s, Ex.field, Ex.args, emB, hf, h1, h2, h3, h4, h5, h6, h7, h8])), h.2⟩
    · exact (isExpr_none op s f q args.length cap w (by omega) hf).mono fun r w' h => ⟨h.1.trans (ret_bool (by simp [shpB, Ex.op, Ex.kind, Ex.num, Ex.s, Ex.field, Ex.args, emB, hf, h1, h2, h3, h4, h5, h6, h7, h8])), h.2⟩
end Go.Proofs.YtebmaclopkocgaaGreatDoor
