import Derived.Test.YtbfmkehchddkoaaDoorJn2
import Derived.Test.YtbfmkehchddkoaaDoorJn1
namespace Go.Proofs.YtbfmkehchddkoaaDoor
open Go.RowKit

/-- A token that may be anything. -/
structure TI where
  kind : Int
  text : ByteArray
  at_ : Int

def tiV (t : TI) : Value := .agg #[.int .i64 t.kind, .string t.text, .int .i64 t.at_]
def isEndI (t : TI) : Bool := decide (t.kind = 7) && decide (t.text.size = 0)
def isTokI (t : TI) : Bool := decide (0 < t.text.size) && decide (((tokL t.text.data.toList).1 : Int) = t.kind) && decide ((tokL t.text.data.toList).2 = t.text.size)

theorem isEnd_c (x : TI) (w : World) :
    Calls Tryd.prog 36 #[.agg #[.int .i64 x.kind, .string x.text, .int .i64 x.at_]] w fun e w' => e = .returned (.bool (isEndI x)) ∧ Kp [] w w' := by
  obtain ⟨k, y, p⟩ := x
  by_cases h7 : k = 7
  · subst h7
    by_cases hz : y.size = 0
    · have he := str_nil hz
      have he2 : y.toList.isEmpty = true := by simp [he]
      have hF : Hid (isEndI ⟨7, y, p⟩ = true) := by show _ = _; simp [isEndI, hz]
      go_enter Tryd.func36, Tryd.ntmps36
      go_wp2_with fail
      go_ret
      exact ⟨ret_bool hF.out.symm, (Kp.refl _ w).alloc _⟩
    · have he1 := str_ne (s := y) (by omega)
      have he2 : y.toList.isEmpty = false := by simp [he1]
      have hF : Hid (isEndI ⟨7, y, p⟩ = false) := by show _ = _; simp [isEndI, hz]
      go_enter Tryd.func36, Tryd.ntmps36
      go_wp2_with fail
      go_ret
      exact ⟨ret_bool hF.out.symm, (Kp.refl _ w).alloc _⟩
  · have hk : (k == 7) = false := by simp [h7]
    have hF : Hid (isEndI ⟨k, y, p⟩ = false) := by show _ = _; simp [isEndI, h7]
    clear h7
    go_enter Tryd.func36, Tryd.ntmps36
    go_wp2_with fail
    go_ret
    exact ⟨ret_bool hF.out.symm, (Kp.refl _ w).alloc _⟩

theorem isToken_c (x : TI) (w : World) (hA : Amb w) (hs : x.text.size ≤ 140737488355328) :
    Calls Tryd.prog 37 #[.agg #[.int .i64 x.kind, .string x.text, .int .i64 x.at_]] w fun e w' => e = .returned (.bool (isTokI x)) ∧ Kp [] w w' := by
  obtain ⟨k, y, p⟩ := x
  simp only at hs
  by_cases hz : y.size = 0
  · have he := str_nil hz
    have he2 : y.toList.isEmpty = true := by simp [he]
    have hF : Hid (isTokI ⟨k, y, p⟩ = false) := by show _ = _; simp [isTokI, hz]
    go_enter Tryd.func37, Tryd.ntmps37
    go_wp2_with fail
    go_ret
    exact ⟨ret_bool hF.out.symm, (Kp.refl _ w).alloc _⟩
  · have hpos : 0 < y.size := by omega
    have he1 := str_ne hpos
    have he2 : y.toList.isEmpty = false := by simp [he1]
    obtain ⟨kk, ll, hT⟩ : ∃ kk ll, tokL y.data.toList = (kk, ll) := ⟨_, _, rfl⟩
    have hF : Hid (isTokI ⟨k, y, p⟩ = (((kk : Int) == k) && ((ll : Int) == (y.size : Int)))) := by
      show _ = _
      simp only [isTokI, hT, hpos, decide_true, Bool.true_and]
      rw [Bool.eq_iff_iff]
      simp only [Bool.and_eq_true, decide_eq_true_eq, beq_iff_eq]
      omega
    have hd0 : Hid (y.data.toList.drop 0 = y.data.toList) := rfl
    replace hT := Lib.hid hT
    obtain ⟨W, hW⟩ : ∃ W, w.alloc (.cells #[.int .i64 k, .string y, .int .i64 p] 46) = W := ⟨_, rfl⟩
    have hK : Kp [] w W := by rw [← hW]; exact (Kp.refl _ w).alloc _
    have hb : Blk W w.heap.size 46 #[.int .i64 k, .string y, .int .i64 p] := by rw [← hW]; exact Blk.new w _ _
    have hAW := hA.kp0 hK
    replace hW := Lib.hid hW
    go_enter Tryd.func37, Tryd.ntmps37
    go_wp2_with fail
    rw [hW.out]
    refine (new_c y W).mono ?_
    rintro e w1 ⟨rfl, hw1⟩
    have hK1 : Kp [] W w1 := by rw [hw1]; exact ((Kp.refl _ W).alloc _).alloc _
    have hS1 : Scn w1 (W.heap.size + 1) y 0 (.map (some W.heap.size)) := by
      rw [hw1]
      have := Blk.new (W.alloc (.map signsE 22)) 55 #[.string y, .int .i64 0, .map (some W.heap.size)]
      simp only [World.size_alloc] at this
      exact this
    have hM1 : w1.heap[W.heap.size]? = some (.map signsE 22) := by
      rw [hw1]
      exact (Below.heap_alloc _ _ _ (by simp)).trans (World.alloc_heap_new W (.map signsE 22))
    clear hw1
    have hA1 := hAW.kp0 hK1
    have hb1 := hb.kp hK1 (by simp)
    go_wp2_with fail
    refine (token_c y (W.heap.size + 1) 0 w1 W.heap.size hs (by omega) hS1 hM1 hA1).mono ?_
    rintro e w2 ⟨rfl, hK2⟩
    rw [hd0.out, hT.out]
    have hb2 := hb1.kp hK2 (by simp)
    have c0 := hb2.cell 0 rfl
    have c1 := hb2.cell 1 rfl
    cases q1 : ((kk : Int) == k)
    · go_wp2_with fail
      go_ret
      exact ⟨ret_bool (by rw [hF.out, q1]; rfl), hK.trans (hK1.trans hK2)⟩
    · cases q2 : ((ll : Int) == (y.size : Int))
      all_goals
        have q2' := Lib.hid q2
        go_wp2_with fail
        go_ret
        exact ⟨ret_bool (by rw [hF.out, q1, q2'.out]; rfl), hK.trans (hK1.trans hK2)⟩
end Go.Proofs.YtbfmkehchddkoaaDoor
