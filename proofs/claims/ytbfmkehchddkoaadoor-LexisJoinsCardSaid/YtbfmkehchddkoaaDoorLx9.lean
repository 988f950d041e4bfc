import Derived.Test.YtbfmkehchddkoaaDoorLx8
namespace Go.Proofs.YtbfmkehchddkoaaDoor
open Go.RowKit

theorem new_c (s : ByteArray) (w : World) :
    Calls Tryd.prog 32 #[.string s] w fun e w' => e = .returned (.pointer (some ⟨w.heap.size + 1, 0, none⟩)) ∧ w' = (w.alloc (.map signsE 22)).alloc (.cells #[.string s, .int .i64 0, .map (some w.heap.size)] 55) := by
  go_enter Tryd.func32, Tryd.ntmps32
  go_wp2_with (go_at_call 54; refine (signs_c _).mono ?_; rintro e w' ⟨rfl, rfl⟩)
  go_ret
  exact ⟨rfl, rfl⟩

/- The same of lists. -/
def isNumL (l : List UInt8) (lim : Nat) : Bool := isNumS ⟨l.toArray⟩ lim
def isWordL (l : List UInt8) : Bool := wordsL.contains l
def isNameL (l : List UInt8) : Bool := decide (l.length ≤ 12) && isRunL l && !isWordL l
def isAddrL : List UInt8 → Bool
  | c :: d :: l => ((c.toNat : Int) == 37) && (((d.toNat : Int) == 105) || ((d.toNat : Int) == 113) || ((d.toNat : Int) == 109)) && isNumL l 63
  | _ => false
def isSignL (l : List UInt8) : Bool := signsL.contains l

theorem isNumS_L (s : ByteArray) (lim : Nat) : isNumS s lim = isNumL s.data.toList lim := rfl
theorem isWordS_L (s : ByteArray) : isWordS s = isWordL s.data.toList := rfl
theorem isNameS_L (s : ByteArray) : isNameS s = isNameL s.data.toList := by simp [isNameS, isNameL, isRunS, isWordS_L]
theorem extract_L (s : ByteArray) (a b : Nat) : (s.extract a b).data.toList = (s.data.toList.take b).drop a := by
  simp [ByteArray.data_extract, List.drop_take]
theorem extract_to (s : ByteArray) (b : Nat) : (s.extract 0 b).data.toList = s.data.toList.take b := by rw [extract_L]; rfl
theorem extract_from (s : ByteArray) (a : Nat) : (s.extract a s.size).data.toList = s.data.toList.drop a := by
  rw [extract_L, List.take_of_length_le (by simp)]
theorem isAddrS_L (s : ByteArray) : isAddrS s = isAddrL s.data.toList := by
  rw [isAddrS]
  have h : isNumS (s.extract 2 s.size) 63 = isNumL (s.data.toList.drop 2) 63 := by rw [isNumS_L, extract_from]
  rw [h]
  generalize s.data.toList = l
  match l with
  | [] => rfl
  | [c] => rfl
  | c :: d :: l => rfl
theorem isSignS_L (s : ByteArray) : isSignS s = isSignL s.data.toList := rfl
theorem spanN_L (p : UInt8 → Bool) (s : ByteArray) : spanN p s = spanL p s.data.toList := rfl

def runL (l : List UInt8) : Nat × Nat := let k := spanL isRunB l; if isWordL (l.take k) then (5, k) else if isNameL (l.take k) then (1, k) else (0, 0)
def numL (l : List UInt8) : Nat × Nat := let k := spanL isDig l; if isNumL (l.take k) 2147483647 then (2, k) else (0, 0)
def timeL (l : List UInt8) : Nat × Nat := let k := spanL isDig (l.drop 2); if isNumL ((l.drop 2).take k) 2147483647 then (3, 2 + k) else (0, 0)
def adrL (l : List UInt8) : Nat × Nat := let k := 1 + spanL isAdr (l.drop 1); if isAddrL (l.take k) then (6, k) else (0, 0)
def sgnL (l : List UInt8) : Nat × Nat := if 2 ≤ l.length ∧ isSignL (l.take 2) = true then (4, 2) else if isSignL (l.take 1) = true then (4, 1) else (0, 0)

theorem ret_two {a b c d : Nat} (h : (a, b) = (c, d)) : Ending.returned (.tuple #[.int .i64 a, .int .i64 b]) = .returned (.tuple #[.int .i64 c, .int .i64 d]) := by cases h; rfl

section
variable (s : ByteArray) (b i : Nat) (mp : Value) (w : World)
theorem run_r (hs : s.size ≤ 140737488355328) (hi : i ≤ s.size) (h : Scn w b s i mp) (hA : Amb w) :
    Calls Tryd.prog 82 #[.pointer (some ⟨b, 0, none⟩)] w fun e w' => e = .returned (.tuple #[.int .i64 (runL (s.data.toList.drop i)).1, .int .i64 (runL (s.data.toList.drop i)).2]) ∧ Kp [] w w' := by
  have c0 := h.c0
  have c1 := h.c1
  go_enter Tryd.func82, Tryd.ntmps82
  go_wp2_with fail
  refine (rest_r s i b _ (by exact c0) (by exact c1) hi (by omega)).mono ?_
  rintro e w' ⟨r, n, rfl, hr, hz, rfl⟩
  have hz1 : r.size ≤ 140737488355328 := by rw [hz.out]; omega
  have hk := spanN_le isRunB r
  have hx : (r.extract 0 (spanN isRunB r)).size ≤ 140737488355328 := by simp; omega
  have hL : Hid (runL r.data.toList = if isWordS (r.extract 0 (spanN isRunB r)) then (5, spanN isRunB r) else if isNameS (r.extract 0 (spanN isRunB r)) then (1, spanN isRunB r) else (0, 0)) := by
    show _ = _
    rw [runL, isWordS_L, isNameS_L, extract_to]; rfl
  go_wp2_with (first | (go_at_call 63; refine (span_isRunB _ _ (by omega)).mono ?_; rintro e w' ⟨rfl, rfl⟩) | (go_at_call 22; refine (word_c _ _ (hA.drewN _) hx).mono ?_; rintro e w' ⟨rfl, rfl⟩) | (go_at_call 23; refine (name_c _ _ (hA.drewN _) hx).mono ?_; rintro e w' ⟨rfl, rfl⟩))
  all_goals go_ret2
  all_goals exact ⟨by rw [← hr.out, hL.out]; simp_all, Kp.drewN (Kp.refl _ _) _⟩

theorem numeral_r (hs : s.size ≤ 140737488355328) (hi : i ≤ s.size) (h : Scn w b s i mp) (hA : Amb w) :
    Calls Tryd.prog 84 #[.pointer (some ⟨b, 0, none⟩)] w fun e w' => e = .returned (.tuple #[.int .i64 (numL (s.data.toList.drop i)).1, .int .i64 (numL (s.data.toList.drop i)).2]) ∧ Kp [] w w' := by
  have c0 := h.c0
  have c1 := h.c1
  go_enter Tryd.func84, Tryd.ntmps84
  go_wp2_with fail
  refine (rest_r s i b _ (by exact c0) (by exact c1) hi (by omega)).mono ?_
  rintro e w' ⟨r, n, rfl, hr, hz, rfl⟩
  have hz1 : r.size ≤ 140737488355328 := by rw [hz.out]; omega
  have hk := spanN_le isDig r
  have hx : (r.extract 0 (spanN isDig r)).size ≤ 140737488355328 := by simp; omega
  have hL : Hid (numL r.data.toList = if isNumS (r.extract 0 (spanN isDig r)) 2147483647 then (2, spanN isDig r) else (0, 0)) := by
    show _ = _
    rw [numL, isNumS_L, extract_to]; rfl
  go_wp2_with (first | (go_at_call 63; refine (span_isDig _ _ (by omega)).mono ?_; rintro e w' ⟨rfl, rfl⟩) | (go_at_call 48; refine (numeral_c _ 2147483647 _ (hA.drewN _) hx).mono ?_; rintro e w' ⟨rfl, hk1⟩))
  all_goals go_ret2
  all_goals exact ⟨by rw [← hr.out, hL.out]; simp_all, (Kp.drewN (Kp.refl _ _) _).trans hk1⟩

set_option maxRecDepth 100000 in
theorem time_r (hs : s.size ≤ 140737488355328) (hi : i + 2 ≤ s.size) (h : Scn w b s i mp) (hA : Amb w) :
    Calls Tryd.prog 81 #[.pointer (some ⟨b, 0, none⟩)] w fun e w' => e = .returned (.tuple #[.int .i64 (timeL (s.data.toList.drop i)).1, .int .i64 (timeL (s.data.toList.drop i)).2]) ∧ Kp [] w w' := by
  have c0 := h.c0
  have c1 := h.c1
  go_enter Tryd.func81, Tryd.ntmps81
  go_wp2_with fail
  refine (rest_r s i b _ (by exact c0) (by exact c1) (by omega) (by omega)).mono ?_
  rintro e w' ⟨r, n, rfl, hr, hz, rfl⟩
  have hz1 : r.size ≤ 140737488355328 := by rw [hz.out]; omega
  have hz2 : 2 ≤ r.size := by rw [hz.out]; omega
  obtain ⟨k, hkd⟩ : ∃ k, spanN isDig (r.extract 2 r.size) = k := ⟨_, rfl⟩
  have hk : k ≤ r.size - 2 := by rw [← hkd]; exact Nat.le_trans (spanN_le _ _) (by simp)
  have hx : (r.extract 2 (2 + k)).size ≤ 140737488355328 := by simp; omega
  have hL : Hid (timeL r.data.toList = if isNumS (r.extract 2 (2 + k)) 2147483647 then (3, 2 + k) else (0, 0)) := by
    show _ = _
    have e1 : spanL isDig (r.data.toList.drop 2) = k := by rw [← hkd, spanN_L, extract_from]
    have e2 : (r.data.toList.drop 2).take k = (r.extract 2 (2 + k)).data.toList := by rw [extract_L, List.drop_take]; congr 1; omega
    rw [timeL, e1, isNumS_L, e2]
  have hkd := Lib.hid hkd
  go_wp2_with fail
  refine (span_isDig _ _ (by simp; omega)).mono ?_
  rintro e w' ⟨rfl, rfl⟩
  rw [hkd.out]
  have hi1 : (2 : Int) ≤ 2 + (k : Int) := by omega
  have hi2 : 2 + (k : Int) ≤ (r.size : Int) := by omega
  have hi3 : 2 + k ≤ r.size := by omega
  go_wp2_with fail
  go_wp2_with (go_at_call 48; refine (numeral_c _ 2147483647 _ (hA.drewN _) hx).mono ?_; rintro e w' ⟨rfl, hk1⟩)
  all_goals go_ret2
  all_goals exact ⟨by rw [← hr.out, hL.out]; simp_all, (Kp.drewN (Kp.refl _ _) _).trans hk1⟩

theorem address_r (hs : s.size ≤ 140737488355328) (hi : i + 1 ≤ s.size) (h : Scn w b s i mp) (hA : Amb w) :
    Calls Tryd.prog 85 #[.pointer (some ⟨b, 0, none⟩)] w fun e w' => e = .returned (.tuple #[.int .i64 (adrL (s.data.toList.drop i)).1, .int .i64 (adrL (s.data.toList.drop i)).2]) ∧ Kp [] w w' := by
  have c0 := h.c0
  have c1 := h.c1
  go_enter Tryd.func85, Tryd.ntmps85
  go_wp2_with fail
  refine (rest_r s i b _ (by exact c0) (by exact c1) (by omega) (by omega)).mono ?_
  rintro e w' ⟨r, n, rfl, hr, hz, rfl⟩
  have hz1 : r.size ≤ 140737488355328 := by rw [hz.out]; omega
  have hz2 : 1 ≤ r.size := by rw [hz.out]; omega
  obtain ⟨k, hkd⟩ : ∃ k, spanN isAdr (r.extract 1 r.size) = k := ⟨_, rfl⟩
  have hk : k ≤ r.size - 1 := by rw [← hkd]; exact Nat.le_trans (spanN_le _ _) (by simp)
  have hx : (r.extract 0 (1 + k)).size ≤ 140737488355328 := by simp; omega
  have hL : Hid (adrL r.data.toList = if isAddrS (r.extract 0 (1 + k)) then (6, 1 + k) else (0, 0)) := by
    show _ = _
    have e1 : spanL isAdr (r.data.toList.drop 1) = k := by rw [← hkd, spanN_L, extract_from]
    rw [adrL, e1, isAddrS_L, extract_to]
  have hkd := Lib.hid hkd
  go_wp2_with fail
  refine (span_isAdr _ _ (by simp; omega)).mono ?_
  rintro e w' ⟨rfl, rfl⟩
  rw [hkd.out]
  go_wp2_with (go_at_call 26; refine (addr_c _ _ (hA.drewN _) hx).mono ?_; rintro e w' ⟨rfl, hk1⟩)
  all_goals go_ret2
  all_goals exact ⟨by rw [← hr.out, hL.out]; simp_all, (Kp.drewN (Kp.refl _ _) _).trans hk1⟩
end
end Go.Proofs.YtbfmkehchddkoaaDoor
