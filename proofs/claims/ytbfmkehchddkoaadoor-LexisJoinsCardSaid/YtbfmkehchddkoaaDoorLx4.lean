import Derived.Test.YtbfmkehchddkoaaDoorLx3
import Derived.StillTailTactics
namespace Go.Proofs.YtbfmkehchddkoaaDoor
open Go.RowKit

/-- The scanner's block: what it goes through, where it is, its signs. -/
def Scn (w : World) (b : Nat) (s : ByteArray) (i : Nat) (mp : Value) : Prop := Blk w b 55 #[.string s, .int .i64 i, mp]

/-- How far a scanner's position is from the end. -/
def leftOf (w : World) (b n : Nat) : Nat := match w.cell? ⟨b, 1, none⟩ with | some (.int _ i) => n - i.toNat | _ => 0

theorem Scn.c0 {w : World} {b i : Nat} {s : ByteArray} {mp : Value} (h : Scn w b s i mp) : w.cell? ⟨b, 0, none⟩ = some (.string s) := Blk.cell h 0 rfl
theorem Scn.c1 {w : World} {b i : Nat} {s : ByteArray} {mp : Value} (h : Scn w b s i mp) : w.cell? ⟨b, 1, none⟩ = some (.int .i64 i) := Blk.cell h 1 rfl
theorem Scn.c2 {w : World} {b i : Nat} {s : ByteArray} {mp : Value} (h : Scn w b s i mp) : w.cell? ⟨b, 2, none⟩ = some mp := Blk.cell h 2 rfl
theorem Scn.frozen {w : World} {b i : Nat} {s : ByteArray} {mp : Value} (h : Scn w b s i mp) (j : Nat) : w.frozen? ⟨b, j, none⟩ = false := Blk.frozen h j
theorem Scn.drewN {w : World} {b i : Nat} {s : ByteArray} {mp : Value} (h : Scn w b s i mp) (n : Nat) : Scn (w.drewN n) b s i mp := h
theorem Scn.cast {w : World} {b i j : Nat} {s : ByteArray} {mp : Value} (h : Scn w b s i mp) (e : i = j) : Scn w b s j mp := e ▸ h
theorem Scn.set {w : World} {b i : Nat} {s : ByteArray} {mp : Value} (h : Scn w b s i mp) (j : Nat) {v : Int} (e : v = j) : Scn (w.setCell ⟨b, 1, none⟩ (.int .i64 v)) b s j mp := by subst e; exact Blk.set h 1 _
theorem Scn.left {w : World} {b i : Nat} {s : ByteArray} {mp : Value} (h : Scn w b s i mp) (n : Nat) : leftOf w b n = n - i := by
  simp [leftOf, h.c1]

theorem rest_r (s : ByteArray) (i : Nat) (b : Nat) (w : World) (h0 : w.cell? ⟨b, 0, none⟩ = some (.string s)) (h1 : w.cell? ⟨b, 1, none⟩ = some (.int .i64 i)) (hl : i ≤ s.size) (hs : s.size ≤ 9223372036854775807) :
    Calls Tryd.prog 57 #[.pointer (some ⟨b, 0, none⟩)] w fun e w' => ∃ (r : ByteArray) (n : Nat), e = .returned (.string r) ∧ Hid (r.data.toList = s.data.toList.drop i) ∧ Hid (r.size = s.size - i) ∧ w' = w.drewN n :=
  (rest_c s i b w h0 h1 hl hs).mono fun e w' ⟨he, n, hw⟩ => ⟨_, n, he, (by unfold Hid; simp [ByteArray.data_extract]; try (apply List.take_of_length_le; simp)), (by unfold Hid; simp), hw⟩

theorem list_head' (l : List UInt8) (h : 0 < l.length) : l = l[0] :: l.tail := by cases l with
  | nil => simp at h
  | cons c l => simp
theorem list_head (r : ByteArray) (h : 0 < r.size) : r.data.toList = r[0] :: r.data.toList.tail := by
  have h1 : 0 < r.data.toList.length := by simpa using h
  have : r[0] = r.data.toList[0] := rfl
  rw [this]
  exact (list_head' _ h1)

set_option maxRecDepth 100000 in
theorem skip_c (s : ByteArray) (b i : Nat) (mp : Value) (w : World) (hs : s.size ≤ 8001) (hi : i ≤ s.size) (h : Scn w b s i mp) :
    Calls Tryd.prog 55 #[.pointer (some ⟨b, 0, none⟩)] w fun e w' => (∃ v, e = .returned v) ∧ Scn w' b s (i + skipL (s.data.toList.drop i)) mp ∧ Kp [b] w w' := by
  go_enter Tryd.func55, Tryd.ntmps55
  go_wp2
  go_loopw [2] (fun _ wr => ∃ k : Nat, k ≤ s.size ∧ Scn wr b s k mp ∧ Kp [b] w wr ∧ Hid (k + skipL (s.data.toList.drop k) = i + skipL (s.data.toList.drop i))) (fun _ wr => leftOf wr b s.size)
  case atStart => exact ⟨i, hi, h, Kp.refl _ _, rfl⟩
  case round =>
    obtain ⟨k, hk, hS, hK, hE⟩ := hrel
    have c0 := hS.c0
    have c1 := hS.c1
    by_cases hlt : k < s.size
    · have hlt' : decide ((k : Int) < (s.size : Int)) = true := by simp; omega
      go_wp2
      go_quiet (fail)
      go_wp2_with fail
      refine (rest_r s k b _ (by exact c0) (by exact c1) hk (by omega)).mono ?_
      rintro e w' ⟨r, n, rfl, hr, hz, rfl⟩
      have hz0 : 0 < r.size := by rw [hz.out]; omega
      have hz1 : r.size ≤ 8001 := by rw [hz.out]; omega
      have hl : Hid (s.data.toList.drop k = r[0] :: (s.data.toList.drop k).tail) := by
        show s.data.toList.drop k = r[0] :: (s.data.toList.drop k).tail
        rw [← hr.out]; exact (list_head r hz0)
      cases hB : isBlk r[0]
      · cases hP : Lib.hasPrefix r.data.toList [47, 47]
        · go_wp2_with (first | (go_at_call 70; refine (blank_c _ _).mono ?_; rintro e w' ⟨rfl, rfl⟩) | (go_at_call 71; refine (Tryd.strings_HasPrefix _ _ _).mono ?_; rintro e w' ⟨rfl, rfl⟩))
          refine bodyPost_ret (results_none rfl _ _ _) rfl ?_
          refine ⟨⟨_, rfl⟩, ?_, hK.drewN _⟩
          have hl := hl.out
          rw [hr.out, hl] at hP
          have := skipL_stop hB hP
          rw [← hl] at this
          have hE := hE.out
          rw [this] at hE
          rw [← hE]; exact hS.drewN _
        · go_wp2_with (first | (go_at_call 70; refine (blank_c _ _).mono ?_; rintro e w' ⟨rfl, rfl⟩) | (go_at_call 71; refine (Tryd.strings_HasPrefix _ _ _).mono ?_; rintro e w' ⟨rfl, rfl⟩))
          have f1 := hS.frozen 1
          refine wp_region_still_tail 9 (by kernel_rfl) (by kernel_rfl) ?_
          simp only [List.take_succ_cons, List.take_zero, List.drop_succ_cons, List.drop_zero]
          change wpStill _ _ (wr.drewN (nq + n + 1)) _ _ _
          iterate 5 still_step
          still_call ((span_notLf _ _ (by omega)).mono fun e w' h => ⟨h.1, h.2.symm⟩)
          iterate 3 still_step
          refine wpStill_nil ?_
          have hN := spanN_le notLf r
          have hN2 : Hid (spanN notLf r = spanL notLf (s.data.toList.drop k)) := by show _ = _; rw [spanN, hr.out]
          change wpList _ _ _ _ _ (wr.drewN (nq + n + 1))
          go_wp2
          go_roundw
          case rel =>
            have hl := hl.out
            have hP : List.isPrefixOf ([47, 47] : List UInt8) (r[0] :: (s.data.toList.drop k).tail) = true := by rw [← hl, ← hr.out]; exact hP
            have := skipL_comment hB hP
            rw [← hl] at this
            refine ⟨k + spanN notLf r, by rw [hz.out] at hN; omega, ?_, ?_, ?_⟩
            · exact (hS.drewN _).set _ (by omega)
            · exact (hK.drewN _).setCell (.inl (by simp)) _
            · show _ = _
              rw [← hE.out, this.1, hN2.out, List.drop_drop]
              omega
          case measure =>
            have hN0 : 0 < spanN notLf r := by
              have hl := hl.out
              rw [hr.out, hl] at hP
              have := (skipL_comment hB hP).2
              rw [← hl] at this
              rw [hN2.out]; exact this
            rw [Scn.left ((hS.set (k + spanN notLf r) (by omega)).drewN (nq + n + 1)), hS.left]
            omega
      · have f1 := hS.frozen 1
        go_wp2_with (first | (go_at_call 70; refine (blank_c _ _).mono ?_; rintro e w' ⟨rfl, rfl⟩) | (go_at_call 71; refine (Tryd.strings_HasPrefix _ _ _).mono ?_; rintro e w' ⟨rfl, rfl⟩))
        go_roundw
        case rel =>
          have hl := hl.out
          have := skipL_blank (l := (s.data.toList.drop k).tail) hB
          rw [← hl, List.tail_drop] at this
          refine ⟨k + 1, by omega, ?_, ?_, ?_⟩
          · exact (hS.drewN _).set _ (by omega)
          · exact (hK.drewN _).setCell (.inl (by simp)) _
          · show _ = _
            rw [← hE.out, this]
            omega
        case measure =>
          rw [Scn.left ((hS.set (k + 1) (by omega)).drewN (nq + n)), hS.left]
          omega
    · have hlt' : decide ((k : Int) < (s.size : Int)) = false := by simp; omega
      go_wp2
      go_quiet (fail)
      go_wp2
      go_end0
      refine ⟨⟨_, rfl⟩, ?_, hK.drewN _⟩
      have hE := hE.out
      rw [List.drop_of_length_le (i := k) (by simp; omega), skipL_nil] at hE
      exact ((hS.drewN _).cast (by omega))
end Go.Proofs.YtbfmkehchddkoaaDoor
