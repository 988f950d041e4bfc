import Derived.Test.YtbfmkehchddkoaaDoorLa13
namespace Go.Proofs.YtbfmkehchddkoaaDoor
open Go.RowKit

theorem bytes47 {c : UInt8} (h : isBlk c = true) : ((c.toNat : Int) == 9) = true ∨ ((c.toNat : Int) == 10) = true ∨ ((c.toNat : Int) == 13) = true ∨ ((c.toNat : Int) == 32) = true := by
  rw [blk_or] at h
  simp only [Bool.or_eq_true] at h
  rcases h with ((h | h) | h) | h
  · exact .inl h
  · exact .inr (.inl h)
  · exact .inr (.inr (.inl h))
  · exact .inr (.inr (.inr h))

set_option maxRecDepth 100000 in
set_option maxHeartbeats 4000000 in
theorem stands_ok (s0 : ByteArray) (w : World) (hA : Amb w) (hs8 : (briefS s0).size ≤ 8000) (h0 : Hid ((toksL (briefS s0).data.toList).2 = (briefS s0).size)) :
    Calls Tryd.prog 8 #[.string s0] w fun e w' => e = .returned (.bool true) ∧ Kp [] w w' := by
  obtain ⟨s, hs⟩ : ∃ s, briefS s0 = s := ⟨_, rfl⟩
  rw [hs] at hs8 h0
  replace hs := Lib.hid hs
  obtain ⟨TL, hTL⟩ : ∃ TL, (toksL s.data.toList).1 = TL := ⟨_, rfl⟩
  have hst0 := StA.first s h0.out
  rw [hTL] at hst0
  obtain ⟨B1, _⟩ := toks_bounds s.data.toList
  have hsl : s.data.toList.length = s.size := by simp
  rw [hsl, hTL] at B1
  obtain ⟨us, u1⟩ : ∃ us, TL = us ++ [⟨7, ⟨#[]⟩, s.size⟩] := by
    obtain ⟨_, _, P⟩ := toks_parts s.data.toList []
    rw [hsl] at P
    obtain ⟨us, u1, _⟩ := P h0.out
    exact ⟨us, by rw [← hTL, u1]⟩
  have hpos : 0 < TL.length := by rw [u1]; simp
  have hlast : TL[TL.length - 1]? = some ⟨7, ⟨#[]⟩, s.size⟩ := by rw [u1]; simp
  replace hTL := Lib.hid hTL
  clear u1 hsl
  go_enter Tryd.func8, Tryd.ntmps8
  go_wp2_with (go_at_call 12; refine (brief_c _ _).mono ?_; rintro e w' ⟨rfl, rfl⟩)
  rw [hs.out]
  refine (tokens_ok s _ hA hs8 h0.out).mono ?_
  rintro e w1 ⟨v1, rfl, hk1, S1⟩
  rw [hTL.out] at S1
  have hA1 := hA.kp0 hk1
  obtain ⟨g1, c1, rfl, C1⟩ := S1.at hpos
  have L1 := C1 _ _ hlast
  clear S1 hlast
  replace C1 := Lib.hid C1
  obtain ⟨n, hn⟩ : ∃ n, TL.length = n := ⟨_, rfl⟩
  rw [hn] at B1 hpos L1 ⊢
  replace hn := Lib.hid hn
  go_wp2_with fail
  go_loopw [7, 8] (fun a i wr => ∃ k p : Nat, k ≤ n ∧ p ≤ s.size ∧ a = .int .i64 p ∧ i = .int .i64 k ∧ Kp [] w1 wr ∧ Hid (k < n → StA s TL k p)) (fun _ i _ => n - (intOf i).toNat)
  case atStart => exact ⟨0, 0, by omega, by omega, rfl, rfl, Kp.refl _ _, fun _ => hst0⟩
  case round =>
    obtain ⟨k, a, hk, ha, rfl, rfl, hK, hS⟩ := hrel
    by_cases hlt : k < n
    · obtain ⟨x, hx, hxa, hxl, hxt, hcase⟩ := (hS.out hlt).next
      obtain ⟨kk, y, p⟩ := x
      simp only at hxa hxl hxt hcase
      obtain ⟨a0, a1, a2⟩ := (C1.out _ _ hx).kp hK
      rw [hn.out] at hcase
      have hap : a ≤ p := by omega
      replace hx := Lib.hid hx
      replace hxa := Lib.hid hxa
      rcases hcase with ⟨rfl, rfl, rfl, hkn⟩ | ⟨i1, i6, hps, hkn, hib, hnx⟩
      · subst hkn
        have f4 : ((k : Int) == (k : Int) + 1 - 1) = true := by simp
        have q1 : decide (s.size < a) = false := by simp; omega
        replace hxt := Lib.hid hxt
        go_wp2_with fail
        refine (rtok_7 s.size _).mono ?_
        rintro e w2 ⟨rfl, hk2⟩
        have hb := (Blk.new wr 46 #[.int .i64 7, .string ⟨#[]⟩, .int .i64 s.size]).kp hk2 (by simp)
        have c0 := hb.cell 0 rfl
        have c1 := hb.cell 1 rfl
        have c2 := hb.cell 2 rfl
        have hK2 : Kp [] w1 w2 := (hK.alloc _).trans hk2
        go_wp2_with fail
        go_loop [10, 11] (fun c i => ∃ (j : Nat) (cb : Bool), a ≤ j ∧ j ≤ s.size ∧ c = .bool cb ∧ i = .int .i64 j ∧ Hid (s.size = j + skipC cb (s.data.toList.drop j))) (fun _ i => s.size - (intOf i).toNat)
        case atStart => exact ⟨a, false, by omega, by omega, rfl, rfl, hxa.out⟩
        case round =>
          obtain ⟨j, cb, hj1, hj2, rfl, rfl, hE⟩ := hrel
          by_cases hjp : j < s.size
          · have hjs : j < s.size := by omega
            obtain ⟨c', e1, e2, e3⟩ := skipC_step (b := cb) hjs (by have := hE.out; omega)
            have hE2 : Hid (s.size = j + 1 + skipC c' (s.data.toList.drop (j + 1))) := by show _ = _; have := hE.out; omega
            clear e1
            cases c'
            · have hb := bytes47 (e3 rfl)
              have hcb : cb = false ∨ (cb = true ∧ ((s[j].toNat : Int) == 10) = true) := by
                cases cb
                · exact .inl rfl
                · refine .inr ⟨rfl, ?_⟩
                  cases h10 : ((s[j].toNat : Int) == 10)
                  · exact absurd (e2.2 (.inr ⟨rfl, by rw [bne, h10]; rfl⟩)) (by decide)
                  · rfl
              clear e2 e3
              have hv : (s[j] = 9 ∧ cb = false) ∨ (s[j] = 10 ∧ cb = false) ∨ (s[j] = 10 ∧ cb = true) ∨ (s[j] = 13 ∧ cb = false) ∨ (s[j] = 32 ∧ cb = false) := by
                have hu : ∀ m : Nat, (h : m < 256) → ((s[j].toNat : Int) == (m : Int)) = true → s[j] = UInt8.ofNat m := fun m hm h => by
                  apply UInt8.toNat_inj.1
                  have h2 : s[j].toNat = m := by simp at h; omega
                  rw [h2, UInt8.toNat_ofNat']; omega
                rcases hcb with rfl | ⟨rfl, h10⟩
                · rcases hb with h | h | h | h
                  · exact .inl ⟨hu 9 (by omega) h, rfl⟩
                  · exact .inr (.inl ⟨hu 10 (by omega) h, rfl⟩)
                  · exact .inr (.inr (.inr (.inl ⟨hu 13 (by omega) h, rfl⟩)))
                  · exact .inr (.inr (.inr (.inr ⟨hu 32 (by omega) h, rfl⟩)))
                · exact .inr (.inr (.inl ⟨hu 10 (by omega) h10, rfl⟩))
              clear hb hcb
              rcases hv with ⟨hv, rfl⟩ | ⟨hv, rfl⟩ | ⟨hv, rfl⟩ | ⟨hv, rfl⟩ | ⟨hv, rfl⟩
              · have n47 : ((s[j].toNat : Int) == 47) = false := by rw [hv]; rfl
                have n9 : ((s[j].toNat : Int) != 9) = false := by rw [hv]; rfl
                have n10 : ((s[j].toNat : Int) != 10) = true := by rw [hv]; rfl
                have n13 : ((s[j].toNat : Int) != 13) = true := by rw [hv]; rfl
                have n32 : ((s[j].toNat : Int) != 32) = true := by rw [hv]; rfl
                replace hv := Lib.hid hv
                go_wp2_with fail
                go_round
                case rel => exact ⟨j + 1, false, by omega, by omega, rfl, by go_num, hE2⟩
                case measure => simp [intOf]; omega
              · have n47 : ((s[j].toNat : Int) == 47) = false := by rw [hv]; rfl
                have n9 : ((s[j].toNat : Int) != 9) = true := by rw [hv]; rfl
                have n10 : ((s[j].toNat : Int) != 10) = false := by rw [hv]; rfl
                have n13 : ((s[j].toNat : Int) != 13) = true := by rw [hv]; rfl
                have n32 : ((s[j].toNat : Int) != 32) = true := by rw [hv]; rfl
                replace hv := Lib.hid hv
                go_wp2_with fail
                go_round
                case rel => exact ⟨j + 1, false, by omega, by omega, rfl, by go_num, hE2⟩
                case measure => simp [intOf]; omega
              · have n47 : ((s[j].toNat : Int) == 47) = false := by rw [hv]; rfl
                have n9 : ((s[j].toNat : Int) != 9) = true := by rw [hv]; rfl
                have n10 : ((s[j].toNat : Int) != 10) = false := by rw [hv]; rfl
                have n13 : ((s[j].toNat : Int) != 13) = true := by rw [hv]; rfl
                have n32 : ((s[j].toNat : Int) != 32) = true := by rw [hv]; rfl
                replace hv := Lib.hid hv
                go_wp2_with fail
                go_round
                case rel => exact ⟨j + 1, false, by omega, by omega, rfl, by go_num, hE2⟩
                case measure => simp [intOf]; omega
              · have n47 : ((s[j].toNat : Int) == 47) = false := by rw [hv]; rfl
                have n9 : ((s[j].toNat : Int) != 9) = true := by rw [hv]; rfl
                have n10 : ((s[j].toNat : Int) != 10) = true := by rw [hv]; rfl
                have n13 : ((s[j].toNat : Int) != 13) = false := by rw [hv]; rfl
                have n32 : ((s[j].toNat : Int) != 32) = true := by rw [hv]; rfl
                replace hv := Lib.hid hv
                go_wp2_with fail
                go_round
                case rel => exact ⟨j + 1, false, by omega, by omega, rfl, by go_num, hE2⟩
                case measure => simp [intOf]; omega
              · have n47 : ((s[j].toNat : Int) == 47) = false := by rw [hv]; rfl
                have n9 : ((s[j].toNat : Int) != 9) = true := by rw [hv]; rfl
                have n10 : ((s[j].toNat : Int) != 10) = true := by rw [hv]; rfl
                have n13 : ((s[j].toNat : Int) != 13) = true := by rw [hv]; rfl
                have n32 : ((s[j].toNat : Int) != 32) = false := by rw [hv]; rfl
                replace hv := Lib.hid hv
                go_wp2_with fail
                go_round
                case rel => exact ⟨j + 1, false, by omega, by omega, rfl, by go_num, hE2⟩
                case measure => simp [intOf]; omega
            · by_cases hpair : ((s[j].toNat : Int) == 47) = true ∧ ∃ h2 : j + 1 < s.size, ((s[j + 1].toNat : Int) == 47) = true
              · obtain ⟨q1', q2', q3'⟩ := hpair
                clear e2 e3
                have g9 : decide ((j : Int) + 1 < (s.size : Int)) = true := by simp; omega
                go_wp2_with fail
                go_round
                case rel => exact ⟨j + 1, true, by omega, by omega, rfl, by go_num, hE2⟩
                case measure => simp [intOf]; omega
              · obtain ⟨rfl, n10⟩ : cb = true ∧ ((s[j].toNat : Int) != 10) = true := by
                  rcases e2.1 rfl with h | h
                  · exact absurd h hpair
                  · exact h
                have h3 : ((s[j].toNat : Int) == 47) = false ∨ (((s[j].toNat : Int) == 47) = true ∧ ¬ j + 1 < s.size) ∨ ∃ h : j + 1 < s.size, ((s[j].toNat : Int) == 47) = true ∧ ((s[j + 1].toNat : Int) == 47) = false := by
                  cases hc : ((s[j].toNat : Int) == 47)
                  · exact .inl rfl
                  · by_cases h2 : j + 1 < s.size
                    · exact .inr (.inr ⟨h2, rfl, by rw [Bool.eq_false_iff]; intro hh; exact hpair ⟨hc, h2, hh⟩⟩)
                    · exact .inr (.inl ⟨rfl, h2⟩)
                clear e2 e3 hpair
                rcases h3 with h3 | ⟨h3, h4⟩ | ⟨h4, h3, h5⟩
                case' inr.inl => have g9 : decide ((j : Int) + 1 < (s.size : Int)) = false := by simp; omega
                case' inr.inr => have g9 : decide ((j : Int) + 1 < (s.size : Int)) = true := by simp; omega
                all_goals
                  first
                    | (exfalso; omega)
                    | (go_wp2_with fail
                       go_round
                       case rel => exact ⟨j + 1, true, by omega, by omega, rfl, by go_num, hE2⟩
                       case measure => simp [intOf]; omega)
          · obtain rfl : j = s.size := by omega
            have hxt' : s.extract s.size s.size = ⟨#[]⟩ := hxt.out
            have f5 : decide ((k : Int) < (k : Int) + 1 - 1) = false := by simp
            cases cb
            all_goals
              go_wp2_with fail
              go_quiet (fail)
              go_wp2_with fail
              go_roundw
              case rel => exact ⟨k + 1, s.size, by omega, by omega, rfl, by go_num, hK2.drewN _, fun h => absurd h (by omega)⟩
              case measure => simp [intOf]
      · have f3 : ((kk : Int) == 7) = false := by simp; omega
        have f4 : ((k : Int) == (n : Int) - 1) = false := by simp; omega
        replace hnx := Lib.hid hnx
        have hib' := Lib.hid hib
        clear hib
        have q1 : decide (p < a) = false := by simp; omega
        have q2 : decide (s.size < p) = false := by simp; omega
        replace hxt := Lib.hid hxt
        go_wp2_with fail
        refine (rtok_c kk y p _ (by omega) i1 i6 hib'.out).mono ?_
        rintro e w2 ⟨rfl, hk2⟩
        have hb := (Blk.new wr 46 #[.int .i64 kk, .string y, .int .i64 p]).kp hk2 (by simp)
        have c0 := hb.cell 0 rfl
        have c1 := hb.cell 1 rfl
        have c2 := hb.cell 2 rfl
        have hK2 : Kp [] w1 w2 := (hK.alloc _).trans hk2
        go_wp2_with fail
        go_loop [10, 11] (fun c i => ∃ (j : Nat) (cb : Bool), a ≤ j ∧ j ≤ p ∧ c = .bool cb ∧ i = .int .i64 j ∧ Hid (p = j + skipC cb (s.data.toList.drop j))) (fun _ i => p - (intOf i).toNat)
        case atStart => exact ⟨a, false, by omega, by omega, rfl, rfl, hxa.out⟩
        case round =>
          obtain ⟨j, cb, hj1, hj2, rfl, rfl, hE⟩ := hrel
          by_cases hjp : j < p
          · have hjs : j < s.size := by omega
            obtain ⟨c', e1, e2, e3⟩ := skipC_step (b := cb) hjs (by have := hE.out; omega)
            have hE2 : Hid (p = j + 1 + skipC c' (s.data.toList.drop (j + 1))) := by show _ = _; have := hE.out; omega
            clear e1
            cases c'
            · have hb := bytes47 (e3 rfl)
              have hcb : cb = false ∨ (cb = true ∧ ((s[j].toNat : Int) == 10) = true) := by
                cases cb
                · exact .inl rfl
                · refine .inr ⟨rfl, ?_⟩
                  cases h10 : ((s[j].toNat : Int) == 10)
                  · exact absurd (e2.2 (.inr ⟨rfl, by rw [bne, h10]; rfl⟩)) (by decide)
                  · rfl
              clear e2 e3
              have hv : (s[j] = 9 ∧ cb = false) ∨ (s[j] = 10 ∧ cb = false) ∨ (s[j] = 10 ∧ cb = true) ∨ (s[j] = 13 ∧ cb = false) ∨ (s[j] = 32 ∧ cb = false) := by
                have hu : ∀ m : Nat, (h : m < 256) → ((s[j].toNat : Int) == (m : Int)) = true → s[j] = UInt8.ofNat m := fun m hm h => by
                  apply UInt8.toNat_inj.1
                  have h2 : s[j].toNat = m := by simp at h; omega
                  rw [h2, UInt8.toNat_ofNat']; omega
                rcases hcb with rfl | ⟨rfl, h10⟩
                · rcases hb with h | h | h | h
                  · exact .inl ⟨hu 9 (by omega) h, rfl⟩
                  · exact .inr (.inl ⟨hu 10 (by omega) h, rfl⟩)
                  · exact .inr (.inr (.inr (.inl ⟨hu 13 (by omega) h, rfl⟩)))
                  · exact .inr (.inr (.inr (.inr ⟨hu 32 (by omega) h, rfl⟩)))
                · exact .inr (.inr (.inl ⟨hu 10 (by omega) h10, rfl⟩))
              clear hb hcb
              rcases hv with ⟨hv, rfl⟩ | ⟨hv, rfl⟩ | ⟨hv, rfl⟩ | ⟨hv, rfl⟩ | ⟨hv, rfl⟩
              · have n47 : ((s[j].toNat : Int) == 47) = false := by rw [hv]; rfl
                have n9 : ((s[j].toNat : Int) != 9) = false := by rw [hv]; rfl
                have n10 : ((s[j].toNat : Int) != 10) = true := by rw [hv]; rfl
                have n13 : ((s[j].toNat : Int) != 13) = true := by rw [hv]; rfl
                have n32 : ((s[j].toNat : Int) != 32) = true := by rw [hv]; rfl
                replace hv := Lib.hid hv
                go_wp2_with fail
                go_round
                case rel => exact ⟨j + 1, false, by omega, by omega, rfl, by go_num, hE2⟩
                case measure => simp [intOf]; omega
              · have n47 : ((s[j].toNat : Int) == 47) = false := by rw [hv]; rfl
                have n9 : ((s[j].toNat : Int) != 9) = true := by rw [hv]; rfl
                have n10 : ((s[j].toNat : Int) != 10) = false := by rw [hv]; rfl
                have n13 : ((s[j].toNat : Int) != 13) = true := by rw [hv]; rfl
                have n32 : ((s[j].toNat : Int) != 32) = true := by rw [hv]; rfl
                replace hv := Lib.hid hv
                go_wp2_with fail
                go_round
                case rel => exact ⟨j + 1, false, by omega, by omega, rfl, by go_num, hE2⟩
                case measure => simp [intOf]; omega
              · have n47 : ((s[j].toNat : Int) == 47) = false := by rw [hv]; rfl
                have n9 : ((s[j].toNat : Int) != 9) = true := by rw [hv]; rfl
                have n10 : ((s[j].toNat : Int) != 10) = false := by rw [hv]; rfl
                have n13 : ((s[j].toNat : Int) != 13) = true := by rw [hv]; rfl
                have n32 : ((s[j].toNat : Int) != 32) = true := by rw [hv]; rfl
                replace hv := Lib.hid hv
                go_wp2_with fail
                go_round
                case rel => exact ⟨j + 1, false, by omega, by omega, rfl, by go_num, hE2⟩
                case measure => simp [intOf]; omega
              · have n47 : ((s[j].toNat : Int) == 47) = false := by rw [hv]; rfl
                have n9 : ((s[j].toNat : Int) != 9) = true := by rw [hv]; rfl
                have n10 : ((s[j].toNat : Int) != 10) = true := by rw [hv]; rfl
                have n13 : ((s[j].toNat : Int) != 13) = false := by rw [hv]; rfl
                have n32 : ((s[j].toNat : Int) != 32) = true := by rw [hv]; rfl
                replace hv := Lib.hid hv
                go_wp2_with fail
                go_round
                case rel => exact ⟨j + 1, false, by omega, by omega, rfl, by go_num, hE2⟩
                case measure => simp [intOf]; omega
              · have n47 : ((s[j].toNat : Int) == 47) = false := by rw [hv]; rfl
                have n9 : ((s[j].toNat : Int) != 9) = true := by rw [hv]; rfl
                have n10 : ((s[j].toNat : Int) != 10) = true := by rw [hv]; rfl
                have n13 : ((s[j].toNat : Int) != 13) = true := by rw [hv]; rfl
                have n32 : ((s[j].toNat : Int) != 32) = false := by rw [hv]; rfl
                replace hv := Lib.hid hv
                go_wp2_with fail
                go_round
                case rel => exact ⟨j + 1, false, by omega, by omega, rfl, by go_num, hE2⟩
                case measure => simp [intOf]; omega
            · by_cases hpair : ((s[j].toNat : Int) == 47) = true ∧ ∃ h2 : j + 1 < s.size, ((s[j + 1].toNat : Int) == 47) = true
              · obtain ⟨q1', q2', q3'⟩ := hpair
                clear e2 e3
                have g9 : decide ((j : Int) + 1 < (s.size : Int)) = true := by simp; omega
                go_wp2_with fail
                go_round
                case rel => exact ⟨j + 1, true, by omega, by omega, rfl, by go_num, hE2⟩
                case measure => simp [intOf]; omega
              · obtain ⟨rfl, n10⟩ : cb = true ∧ ((s[j].toNat : Int) != 10) = true := by
                  rcases e2.1 rfl with h | h
                  · exact absurd h hpair
                  · exact h
                have h3 : ((s[j].toNat : Int) == 47) = false ∨ (((s[j].toNat : Int) == 47) = true ∧ ¬ j + 1 < s.size) ∨ ∃ h : j + 1 < s.size, ((s[j].toNat : Int) == 47) = true ∧ ((s[j + 1].toNat : Int) == 47) = false := by
                  cases hc : ((s[j].toNat : Int) == 47)
                  · exact .inl rfl
                  · by_cases h2 : j + 1 < s.size
                    · exact .inr (.inr ⟨h2, rfl, by rw [Bool.eq_false_iff]; intro hh; exact hpair ⟨hc, h2, hh⟩⟩)
                    · exact .inr (.inl ⟨rfl, h2⟩)
                clear e2 e3 hpair
                rcases h3 with h3 | ⟨h3, h4⟩ | ⟨h4, h3, h5⟩
                case' inr.inl => have g9 : decide ((j : Int) + 1 < (s.size : Int)) = false := by simp; omega
                case' inr.inr => have g9 : decide ((j : Int) + 1 < (s.size : Int)) = true := by simp; omega
                all_goals
                  first
                    | (exfalso; omega)
                    | (go_wp2_with fail
                       go_round
                       case rel => exact ⟨j + 1, true, by omega, by omega, rfl, by go_num, hE2⟩
                       case measure => simp [intOf]; omega)
          · obtain rfl : j = p := by omega
            have hcb : cb = false := skipC_end hps (by have := hE.out; omega)
            subst hcb
            have q3 : decide ((s.size : Int) < (j : Int) + (y.size : Int)) = false := by simp; omega
            have hi1 : (0 : Int) ≤ (j : Int) := by omega
            have hi2 : (j : Int) ≤ (j : Int) + (y.size : Int) := by omega
            have hi3 : (j : Int) + (y.size : Int) ≤ (s.size : Int) := by omega
            have hi4 : ((j : Int) + (y.size : Int)).toNat = j + y.size := by omega
            have hxt' := hxt.out
            go_wp2_with fail
            go_quiet (fail)
            go_wp2_with fail
            go_roundw
            case rel => exact ⟨k + 1, j + y.size, by omega, by omega, by go_num, by go_num, hK2.drewN _, fun _ => hnx.out⟩
            case measure => simp [intOf]; omega
    · obtain rfl : k = n := by omega
      have hAr := hA1.kp0 hK
      obtain ⟨b0, b1, b2⟩ := L1.kp hK
      have t1 : (1 : Int) ≤ (k : Int) := by omega
      have t2 : decide ((0 : Int) < (k : Int)) = true := by simp; omega
      have t3 : ((k : Int) - 1).toNat = k - 1 := by omega
      have t4 : (0 : Int) ≤ (k : Int) - 1 := by omega
      go_wp2_with (go_at_call 16; refine (awake_c _ hAr).mono ?_; rintro e w' ⟨rfl, hk⟩)
      go_ret
      exact ⟨rfl, hk1.trans (hK.trans hk)⟩

set_option maxRecDepth 100000 in
theorem standsLaw_c (s0 : ByteArray) (w : World) (hA : Amb w) :
    Calls Tryd.prog 8 #[.string s0] w fun e w' => e = .returned (.bool true) ∧ Kp [] w w' := by
  have hbl := briefS_le s0
  by_cases h : 8000 < (briefS s0).size
  · go_enter Tryd.func8, Tryd.ntmps8
    go_wp2_with (go_at_call 12; refine (brief_c _ _).mono ?_; rintro e w' ⟨rfl, rfl⟩)
    refine (tokens_full _ _ h).mono ?_
    rintro e w1 ⟨rfl, hk1⟩
    have hA1 := hA.kp0 hk1
    go_wp2_with (go_at_call 16; refine (awake_c _ hA1).mono ?_; rintro e w' ⟨rfl, hk⟩)
    go_ret
    exact ⟨rfl, hk1.trans hk⟩
  · have hs8 : (briefS s0).size ≤ 8000 := by omega
    obtain ⟨P1, _, _⟩ := toks_parts (briefS s0).data.toList []
    have hsl : (briefS s0).data.toList.length = (briefS s0).size := by simp
    rw [hsl] at P1
    obtain ⟨n, hn⟩ : ∃ n, (toksL (briefS s0).data.toList).2 = n := ⟨_, rfl⟩
    rw [hn] at P1
    rcases Nat.lt_or_ge n (briefS s0).size with h1 | h1
    · replace hn := Lib.hid hn
      replace hsl := Lib.hid hsl
      go_enter Tryd.func8, Tryd.ntmps8
      go_wp2_with (go_at_call 12; refine (brief_c _ _).mono ?_; rintro e w' ⟨rfl, rfl⟩)
      refine (tokens_bad _ _ hA hs8 n hn.out h1).mono ?_
      rintro e w1 ⟨rfl, hk1⟩
      have hA1 := hA.kp0 hk1
      go_wp2_with (go_at_call 16; refine (awake_c _ hA1).mono ?_; rintro e w' ⟨rfl, hk⟩)
      go_ret
      exact ⟨rfl, hk1.trans hk⟩
    · exact stands_ok s0 w hA hs8 (by show _ = _; rw [hn]; omega)
end Go.Proofs.YtbfmkehchddkoaaDoor
