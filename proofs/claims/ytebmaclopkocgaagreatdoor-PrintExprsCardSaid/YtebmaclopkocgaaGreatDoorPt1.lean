import Derived.Test.YtebmaclopkocgaaGreatDoorTx4
import Derived.Lib.ItoaLen
set_option linter.unusedSimpArgs false
set_option linter.unusedVariables false
namespace Go.Proofs.YtebmaclopkocgaaGreatDoor
open Go.RowKit

/-! The text of an expression. -/
def bs (s : ByteArray) : List UInt8 := s.data.toList
def st (l : List UInt8) : ByteArray := ⟨l.toArray⟩
theorem st_bs (s : ByteArray) : st (bs s) = s := rfl
theorem bs_st (l : List UInt8) : bs (st l) = l := by simp [bs, st]
theorem st_app (a b : List UInt8) : st a ++ st b = st (a ++ b) := by
  apply ByteArray.ext
  simp [st, ByteArray.data_append]
theorem st_size (l : List UInt8) : (st l).size = l.length := by show l.toArray.size = _; simp
theorem bs_length (s : ByteArray) : (bs s).length = s.size := by show s.data.toList.length = s.data.size; simp

def conT (kind n : Int) : List UInt8 :=
  if kind = 3 then [116, 35] ++ Lib.itoa n else if kind = 2 then Lib.itoa n else if n = 1 then [116, 114, 117, 101] else [102, 97, 108, 115, 101]
/-- The operators of two operands, from the lowest level on: the number, the sign, the level. -/
def opL : List (Int × List UInt8 × Int) :=
  [(8, [111, 114], 1), (9, [120, 111, 114], 2), (10, [97, 110, 100], 3), (11, [61], 4), (12, [60, 62], 4), (13, [60], 5), (14, [60, 61], 5), (15, [62], 5), (16, [62, 61], 5),
   (17, [43], 6), (18, [45], 6), (19, [42], 7), (20, [47], 7), (21, [109, 111, 100], 7)]
def sgn (op : Int) : List UInt8 := ((opL.find? fun x => x.1 == op).map (·.2.1)).getD []
def lvl (op : Int) : Int := ((opL.find? fun x => x.1 == op).map (·.2.2)).getD 0
def isTwo (op : Int) : Bool := decide (8 ≤ op) && decide (op ≤ 21)
def par (op least : Int) (t : List UInt8) : List UInt8 := if isTwo op && decide (lvl op < least) then [40] ++ t ++ [41] else t
/-- Texts with commas between them. -/
def jl : Bool → List (List UInt8) → List UInt8
  | _, [] => []
  | first, x :: r => (if first then x else [44, 32] ++ x) ++ jl false r
mutual
def Ex.txt : Ex → List UInt8
  | .mk op kind n s f args =>
    let t := txtL args
    let o := args.map Ex.op
    if op = 1 then conT kind n
    else if op = 2 then bs s
    else if op = 3 then bs s ++ [46] ++ bs f
    else if op = 4 then bs s ++ [91] ++ jl true t ++ [93]
    else if op = 5 then bs s ++ [40] ++ jl true t ++ [41]
    else if op = 6 then [110, 111, 116, 32] ++ par (o.getD 0 0) 8 (t.getD 0 [])
    else if op = 7 then [45] ++ par (o.getD 0 0) 8 (t.getD 0 [])
    else par (o.getD 0 0) (lvl op) (t.getD 0 []) ++ [32] ++ sgn op ++ [32] ++ par (o.getD 1 0) (lvl op + 1) (t.getD 1 [])
def txtL : List Ex → List (List UInt8)
  | [] => []
  | e :: es => e.txt :: txtL es
end
theorem txtL_len : ∀ es : List Ex, (txtL es).length = es.length
  | [] => by rw [txtL]; rfl
  | e :: es => by rw [txtL, List.length_cons, txtL_len es, List.length_cons]
theorem txtL_get : ∀ (es : List Ex) (i : Nat) (hi : i < es.length), (txtL es).getD i [] = es[i].txt
  | e :: es, 0, _ => by rw [txtL]; rfl
  | e :: es, i + 1, hi => by rw [txtL]; simpa using txtL_get es i (by simpa using hi)
theorem op_get (es : List Ex) (i : Nat) (hi : i < es.length) : (es.map Ex.op).getD i 0 = es[i].op := by
  simp [List.getD_eq_getElem?_getD, hi]
theorem txtL_drop : ∀ (es : List Ex) (k : Nat), (txtL es).drop k = txtL (es.drop k)
  | _, 0 => by simp
  | [], k + 1 => by simp [txtL]
  | e :: es, k + 1 => by rw [txtL]; simpa using txtL_drop es k
theorem txtL_step {es : List Ex} {k : Nat} (hk : k < es.length) : txtL (es.drop k) = es[k].txt :: txtL (es.drop (k + 1)) := by
  rw [List.drop_eq_getElem_cons hk, txtL]

theorem con_len {kind n : Int} (h0 : 0 ≤ n) (h1 : n ≤ 2147483647) : (conT kind n).length ≤ 23 := by
  have := Lib.itoa_length_le n (by omega) (by omega)
  unfold conT
  split
  · simp; omega
  split
  · omega
  split <;> simp
theorem sgn_len (op : Int) : (sgn op).length ≤ 3 := by
  unfold sgn
  cases h : opL.find? fun x => x.1 == op with
  | none => simp
  | some x =>
    have hm := List.mem_of_find?_eq_some h
    have hall : (opL.all fun x => decide (x.2.1.length ≤ 3)) = true := by decide
    have := List.all_eq_true.1 hall x hm
    simpa using this
theorem par_len (op least : Int) (t : List UInt8) : (par op least t).length ≤ t.length + 2 := by
  unfold par
  split
  · simp
  · omega
theorem name_len {s : ByteArray} (h : isNameS s = true) : (bs s).length ≤ 12 := by
  rw [bs_length]
  simp only [isNameS, Bool.and_eq_true, decide_eq_true_eq] at h
  exact h.1.1
theorem con_bd {kind n : Int} (h : conB kind n = true) : 0 ≤ n ∧ n ≤ 2147483647 := by
  unfold conB at h
  simp only [Bool.or_eq_true, Bool.and_eq_true, beq_iff_eq, decide_eq_true_eq] at h
  omega
/-- A well formed expression has one of these forms. -/
theorem shp_forms {op kind n : Int} {s f : ByteArray} {args : List Ex} (h : shpB (.mk op kind n s f args) = true) :
    (op = 1 ∧ conB kind n = true ∧ args = []) ∨ (op = 2 ∧ isNameS s = true ∧ args = []) ∨ (op = 3 ∧ isNameS s = true ∧ isNameS f = true ∧ args = []) ∨ (op = 4 ∧ isNameS s = true ∧ args.length = 1) ∨ (op = 5 ∧ isNameS s = true) ∨
      ((op = 6 ∨ op = 7) ∧ args.length = 1) ∨ (8 ≤ op ∧ op ≤ 21 ∧ args.length = 2) := by
  replace h : (if op = 1 then conB kind n && emB s && emB f && args.length == 0 else if !(kind == 0 && n == 0 && (op == 3 || emB f)) then false else if op = 2 then isNameS s && args.length == 0
    else if op = 3 then isNameS s && isNameS f && args.length == 0 else if op = 4 then isNameS s && args.length == 1 else if op = 5 then isNameS s else if op = 6 ∨ op = 7 then emB s && args.length == 1
    else if 8 ≤ op ∧ op ≤ 21 then emB s && args.length == 2 else false) = true := h
  by_cases h1 : op = 1
  · rw [if_pos h1] at h
    simp only [Bool.and_eq_true, beq_iff_eq] at h; exact .inl ⟨h1, h.1.1.1, List.length_eq_zero_iff.1 h.2⟩
  rw [if_neg h1] at h
  by_cases h0 : (!(kind == 0 && n == 0 && (op == 3 || emB f))) = true
  · rw [if_pos h0] at h; cases h
  rw [if_neg h0] at h
  by_cases h2 : op = 2
  · rw [if_pos h2] at h
    simp only [Bool.and_eq_true, beq_iff_eq] at h; exact .inr (.inl ⟨h2, h.1, List.length_eq_zero_iff.1 h.2⟩)
  rw [if_neg h2] at h
  by_cases h3 : op = 3
  · rw [if_pos h3] at h
    simp only [Bool.and_eq_true, beq_iff_eq] at h; exact .inr (.inr (.inl ⟨h3, h.1.1, h.1.2, List.length_eq_zero_iff.1 h.2⟩))
  rw [if_neg h3] at h
  by_cases h4 : op = 4
  · rw [if_pos h4] at h
    simp only [Bool.and_eq_true, beq_iff_eq] at h; exact .inr (.inr (.inr (.inl ⟨h4, h.1, h.2⟩)))
  rw [if_neg h4] at h
  by_cases h5 : op = 5
  · rw [if_pos h5] at h
    exact .inr (.inr (.inr (.inr (.inl ⟨h5, h⟩))))
  rw [if_neg h5] at h
  by_cases h6 : op = 6 ∨ op = 7
  · rw [if_pos h6] at h
    simp only [Bool.and_eq_true, beq_iff_eq] at h; exact .inr (.inr (.inr (.inr (.inr (.inl ⟨h6, h.2⟩)))))
  rw [if_neg h6] at h
  by_cases h8 : 8 ≤ op ∧ op ≤ 21
  · rw [if_pos h8] at h
    simp only [Bool.and_eq_true, beq_iff_eq] at h; exact .inr (.inr (.inr (.inr (.inr (.inr ⟨h8.1, h8.2, h.2⟩)))))
  rw [if_neg h8] at h; cases h
mutual
theorem txt_len : ∀ (e : Ex), e.well = true → e.txt.length + 4 ≤ 36 * e.cnt
  | .mk op kind n s f args, h => by
    rw [Ex.well, Bool.and_eq_true] at h
    have hL := txtL_all args h.2
    have hJ := jl_len args h.2 true
    rw [Ex.cnt]
    have hp : ∀ i, i < args.length → ((txtL args).getD i []).length + 4 ≤ 36 * cntL args := fun i hi => by rw [txtL_get args i hi]; exact hL i hi
    rcases shp_forms h.1 with ⟨rfl, hc, rfl⟩ | ⟨rfl, hs, rfl⟩ | ⟨rfl, hs, hf, rfl⟩ | ⟨rfl, hs, hl⟩ | ⟨rfl, hs⟩ | ⟨hop, hl⟩ | ⟨h8, h21, hl⟩
    · have := con_len (kind := kind) (con_bd hc).1 (con_bd hc).2
      simp [Ex.txt]; omega
    · have := name_len hs
      simp [Ex.txt]; omega
    · have := name_len hs
      have := name_len hf
      simp [Ex.txt]; omega
    · have := name_len hs
      simp [Ex.txt]; omega
    · have := name_len hs
      simp [Ex.txt]; omega
    · have h0 := hp 0 (by omega)
      have h1 := par_len ((args.map Ex.op).getD 0 0) 8 ((txtL args).getD 0 [])
      rcases hop with rfl | rfl
      · rw [Ex.txt]; simp only [reduceIte, Int.reduceEq, List.length_append, List.length_cons, List.length_nil]; omega
      · rw [Ex.txt]; simp only [reduceIte, Int.reduceEq, List.length_append, List.length_cons, List.length_nil]; omega
    · have hs2 := two_len args hl h.2
      have h1 := par_len ((args.map Ex.op).getD 0 0) (lvl op) ((txtL args).getD 0 [])
      have h2 := par_len ((args.map Ex.op).getD 1 0) (lvl op + 1) ((txtL args).getD 1 [])
      have h3 := sgn_len op
      rw [Ex.txt]
      rw [if_neg (by omega), if_neg (by omega), if_neg (by omega), if_neg (by omega), if_neg (by omega), if_neg (by omega), if_neg (by omega)]
      simp only [List.length_append, List.length_cons, List.length_nil]; omega
theorem txtL_all : ∀ (es : List Ex), wellL es = true → ∀ i (hi : i < es.length), es[i].txt.length + 4 ≤ 36 * cntL es
  | e :: es, h, 0, _ => by
    rw [wellL, Bool.and_eq_true] at h
    have := txt_len e h.1
    rw [cntL]; simp only [List.getElem_cons_zero]; omega
  | e :: es, h, i + 1, hi => by
    rw [wellL, Bool.and_eq_true] at h
    have := txtL_all es h.2 i (by simpa using hi)
    rw [cntL]; simp only [List.getElem_cons_succ]; omega
theorem jl_len : ∀ (es : List Ex), wellL es = true → ∀ first, (jl first (txtL es)).length ≤ 36 * cntL es
  | [], _, _ => by rw [txtL]; simp [jl]
  | e :: es, h, first => by
    rw [wellL, Bool.and_eq_true] at h
    have h1 := txt_len e h.1
    have h2 := jl_len es h.2 false
    rw [txtL, jl, cntL]
    cases first <;> simp <;> omega
theorem two_len : ∀ (es : List Ex), es.length = 2 → wellL es = true → ((txtL es).getD 0 []).length + ((txtL es).getD 1 []).length + 8 ≤ 36 * cntL es
  | [a, b], _, h => by
    rw [wellL, wellL, Bool.and_eq_true, Bool.and_eq_true] at h
    have h1 := txt_len a h.1
    have h2 := txt_len b h.2.1
    simp only [txtL, cntL, List.getD_cons_zero, List.getD_cons_succ]; omega
end
end Go.Proofs.YtebmaclopkocgaaGreatDoor
