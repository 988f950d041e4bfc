import Derived.Test.YtbfmkehchddkoaaDoorR4
namespace Go.Proofs.YtbfmkehchddkoaaDoor
open Go.RowKit

theorem blk_or (c : UInt8) : isBlk c = (((c.toNat : Int) == 9) || ((c.toNat : Int) == 10) || ((c.toNat : Int) == 13) || ((c.toNat : Int) == 32)) := rfl

theorem comment_at {s : ByteArray} {k : Nat} (h : k < s.size) (h2 : k + 1 < s.size) :
    [47, 47].isPrefixOf (s.data.toList.drop k) = (((s[k].toNat : Int) == 47) && ((s[k + 1].toNat : Int) == 47)) := by
  rw [drop_cons s k h, drop_cons s (k + 1) h2]
  have e : ∀ c : UInt8, ((47 : UInt8) == c) = ((c.toNat : Int) == 47) := fun c => by
    rw [Bool.eq_iff_iff, beq_iff_eq, beq_iff_eq]
    constructor
    · rintro rfl; rfl
    · intro e; exact UInt8.toNat_inj.1 (by show 47 = c.toNat; omega)
  simp only [List.isPrefixOf, Bool.and_true, e]
theorem comment_last {s : ByteArray} {k : Nat} (h : k < s.size) (h2 : ¬ k + 1 < s.size) :
    [47, 47].isPrefixOf (s.data.toList.drop k) = false := by
  rw [drop_cons s k h, List.drop_of_length_le (by rw [Array.length_toList]; show s.size ≤ k + 1; omega)]
  simp [List.isPrefixOf]

theorem blank_cons {s : ByteArray} {k : Nat} (h : k < s.size) :
    (isBlk s[k] = true → skipL (s.data.toList.drop k) = 1 + skipL (s.data.toList.drop (k + 1))) ∧
    (isBlk s[k] = false → [47, 47].isPrefixOf (s.data.toList.drop k) = true → skipL (s.data.toList.drop k) = spanL notLf (s.data.toList.drop k) + skipL (s.data.toList.drop (k + spanL notLf (s.data.toList.drop k))) ∧ 0 < spanL notLf (s.data.toList.drop k)) ∧
    (isBlk s[k] = false → [47, 47].isPrefixOf (s.data.toList.drop k) = false → skipL (s.data.toList.drop k) = 0) := by
  have e := drop_cons s k h
  refine ⟨fun hb => ?_, fun hb hp => ?_, fun hb hp => ?_⟩
  · rw [e, skipL_blank hb]
  · rw [e] at hp
    have := skipL_comment hb hp
    rw [← e, List.drop_drop] at this
    exact this
  · rw [e] at hp ⊢
    exact skipL_stop hb hp

set_option maxHeartbeats 2000000 in
theorem rblank_c (s : ByteArray) (at_ : Nat) (w : World) (hs : s.size ≤ 140737488355328) (ha : at_ ≤ s.size) :
    Calls Tryd.prog 34 #[.string s, .int .i64 at_] w fun e w' => e = .returned (.int .i64 ((at_ + skipL (s.data.toList.drop at_) : Nat))) ∧ w = w' := by
  go_enter Tryd.func34, Tryd.ntmps34
  go_wp2
  go_loop [1] (fun i => ∃ k : Nat, k ≤ s.size ∧ i = .int .i64 k ∧ Hid (k + skipL (s.data.toList.drop k) = at_ + skipL (s.data.toList.drop at_))) (fun i => s.size - (intOf i).toNat)
  case atStart => exact ⟨at_, ha, rfl, rfl⟩
  case round =>
    obtain ⟨k, hk, rfl, hE⟩ := hrel
    by_cases hlt : k < s.size
    · obtain ⟨b1, b2, b3⟩ := blank_cons hlt
      replace b1 := Lib.hid b1
      replace b2 := Lib.hid b2
      replace b3 := Lib.hid b3
      have hB := Lib.hid (blk_or s[k])
      by_cases hc : [47, 47].isPrefixOf (s.data.toList.drop k) = true
      · have hl2 : k + 1 < s.size := by
          rcases Nat.lt_or_ge (k + 1) s.size with h | h
          · exact h
          · rw [comment_last hlt (by omega)] at hc; cases hc
        rw [comment_at hlt hl2, Bool.and_eq_true] at hc
        obtain ⟨c1, c2⟩ := hc
        have hnb : Hid (isBlk s[k] = false) := by
          show _ = _
          have : s[k] = 47 := UInt8.toNat_inj.1 (by simp at c1; show s[k].toNat = 47; omega)
          rw [this]; rfl
        have hcc : Hid ([47, 47].isPrefixOf (s.data.toList.drop k) = true) := by show _ = _; rw [comment_at hlt hl2, c1, c2]; rfl
        have g1 : decide ((k : Int) + 1 < (s.size : Int)) = true := by simp; omega
        go_wp2_with fail
        obtain ⟨d1, d2⟩ := b2.out hnb.out hcc.out
        replace d1 := Lib.hid d1
        replace d2 := Lib.hid d2
        clear b1 b2 b3 c1 c2 hcc hnb hB
        go_loop [1] (fun i => ∃ j : Nat, k ≤ j ∧ j ≤ s.size ∧ i = .int .i64 j ∧ Hid (j + spanL notLf (s.data.toList.drop j) = k + spanL notLf (s.data.toList.drop k))) (fun i => s.size - (intOf i).toNat)
        case atStart => exact ⟨k, by omega, by omega, rfl, rfl⟩
        case round =>
          obtain ⟨j, hj1, hj2, rfl, hE2⟩ := hrel
          by_cases hlj : j < s.size
          · have hst := Lib.hid (span_step (p := notLf) hlj)
            cases hlf : ((s[j].toNat : Int) != 10)
            · have h1 : Hid (spanL notLf (s.data.toList.drop j) = 0) := by
                show _ = _
                have : notLf s[j] = false := hlf
                rw [hst.out, this]; rfl
              have hjk : k < j := by have h2 := hE2.out; have h3 := h1.out; have h4 := d2.out; omega
              go_wp2_with fail
              go_round
              case rel => exact ⟨j, by omega, rfl, by (show _ = _; rw [← hE.out, d1.out]; have h2 := hE2.out; have h3 := h1.out; rw [show k + spanL notLf (s.data.toList.drop k) = j by omega]; omega)⟩
              case measure => simp [intOf]; omega
            · have h1 : Hid (spanL notLf (s.data.toList.drop j) = 1 + spanL notLf (s.data.toList.drop (j + 1))) := by
                show _ = _
                have : notLf s[j] = true := hlf
                rw [hst.out, this]; rfl
              go_wp2_with fail
              go_round
              case rel => exact ⟨j + 1, by omega, by omega, by go_num, by (show _ = _; have h2 := hE2.out; have h3 := h1.out; omega)⟩
              case measure => simp [intOf]; omega
          · have h1 := Lib.hid (span_end (p := notLf) (s := s) (k := j) (by omega))
            have hjk : k < j := by omega
            go_wp2_with fail
            go_round
            case rel => exact ⟨j, by omega, rfl, by (show _ = _; rw [← hE.out, d1.out]; have h2 := hE2.out; have h3 := h1.out; rw [show k + spanL notLf (s.data.toList.drop k) = j by omega]; omega)⟩
            case measure => simp [intOf]; omega
      · have hc' : Hid ([47, 47].isPrefixOf (s.data.toList.drop k) = false) := Bool.eq_false_iff.2 hc
        cases hb : isBlk s[k]
        · have h0 := Lib.hid (b3.out hb hc'.out)
          have hB2 := hB.out
          rw [hb] at hB2
          have hB3 := hB2.symm
          simp only [Bool.or_eq_false_iff] at hB3
          obtain ⟨⟨⟨e1, e2⟩, e3⟩, e4⟩ := hB3
          clear hB2 b1 b2 b3 hc
          by_cases h47 : ((s[k].toNat : Int) == 47) = true
          · by_cases hl2 : k + 1 < s.size
            · have hc2 : ((s[k + 1].toNat : Int) == 47) = false := by
                have := hc'.out
                rw [comment_at hlt hl2, h47] at this
                simpa using this
              have g1 : decide ((k : Int) + 1 < (s.size : Int)) = true := by simp; omega
              go_wp2_with fail
              go_ret
              exact ⟨ret_int (by have h1 := hE.out; have h2 := h0.out; omega), rfl⟩
            · have g1 : decide ((k : Int) + 1 < (s.size : Int)) = false := by simp; omega
              go_wp2_with fail
              go_ret
              exact ⟨ret_int (by have h1 := hE.out; have h2 := h0.out; omega), rfl⟩
          · replace h47 : ((s[k].toNat : Int) == 47) = false := by simpa using h47
            go_wp2_with fail
            go_ret
            exact ⟨ret_int (by have h1 := hE.out; have h2 := h0.out; omega), rfl⟩
        · have h0 := Lib.hid (b1.out hb)
          have h47 : ((s[k].toNat : Int) == 47) = false := by
            rw [Bool.eq_false_iff]; intro e
            have : s[k] = 47 := UInt8.toNat_inj.1 (by simp at e; show s[k].toNat = 47; omega)
            rw [this] at hb; cases hb
          have hB2 := hB.out
          rw [hb] at hB2
          replace hB2 := hB2.symm
          replace hb := Lib.hid hb
          clear b1 b2 b3 hc hB
          cases e1 : ((s[k].toNat : Int) == 9) <;> cases e2 : ((s[k].toNat : Int) == 10) <;> cases e3 : ((s[k].toNat : Int) == 13) <;> cases e4 : ((s[k].toNat : Int) == 32)
          all_goals
            first
              | (exfalso; rw [e1, e2, e3, e4] at hB2; cases hB2; done)
              | (clear hB2
                 go_wp2_with fail
                 go_round
                 case rel => exact ⟨k + 1, by omega, by go_num, by (show _ = _; have h1 := hE.out; have h2 := h0.out; omega)⟩
                 case measure => simp [intOf]; omega)
    · have he : skipL (s.data.toList.drop k) = 0 := by rw [List.drop_of_length_le (by rw [Array.length_toList]; show s.size ≤ k; omega)]; exact skipL_nil
      replace he := Lib.hid he
      go_wp2_with fail
      go_ret
      exact ⟨ret_int (by have h1 := hE.out; have h2 := he.out; omega), rfl⟩
end Go.Proofs.YtbfmkehchddkoaaDoor
