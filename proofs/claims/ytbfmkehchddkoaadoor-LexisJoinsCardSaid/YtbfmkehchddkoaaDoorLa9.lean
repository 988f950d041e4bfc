import Derived.Test.YtbfmkehchddkoaaDoorR9
import Derived.Test.YtbfmkehchddkoaaDoorLa6
namespace Go.Proofs.YtbfmkehchddkoaaDoor
open Go.RowKit

/-- Two lists of the same tokens are the same, by the law's own function. -/
theorem same_c (v1 v2 : Value) (ts : List Tok) (w : World) (h1 : TokSl w v1 ts) (h2 : TokSl w v2 ts) (hn : 0 < ts.length) (hm : ts.length ≤ 10000) :
    Calls Tryd.prog 15 #[v1, v2] w fun e w' => e = .returned (.bool true) ∧ Kp [] w w' := by
  obtain ⟨g1, c1, rfl, C1⟩ := h1.at hn
  obtain ⟨g2, c2, rfl, C2⟩ := h2.at hn
  have D : ∀ j, j < ts.length → ∃ x, TokAt w g1 j x ∧ TokAt w g2 j x := fun j hj => ⟨ts[j], C1 j _ (by simp), C2 j _ (by simp)⟩
  replace D := Lib.hid D
  clear C1 C2 h1 h2
  generalize ts.length = n at *
  go_enter Tryd.func15, Tryd.ntmps15
  go_wp2_with fail
  go_loopw [5] (fun i wr => ∃ j : Nat, j ≤ n ∧ i = .int .i64 j ∧ Kp [] w wr) (fun i _ => n - (intOf i).toNat)
  case atStart => exact ⟨0, by omega, rfl, Kp.refl _ _⟩
  case round =>
    obtain ⟨j, hj, rfl, hK⟩ := hrel
    by_cases hl1 : j < n
    · obtain ⟨x, X1, X2⟩ := D.out j hl1
      obtain ⟨a0, a1, a2⟩ := X1.kp hK
      obtain ⟨b0, b1, b2⟩ := X2.kp hK
      go_wp2_with fail
      go_quiet (fail)
      go_wp2_with fail
      go_roundw
      case rel => exact ⟨j + 1, by omega, by go_num, hK.drewN _⟩
      case measure => simp [intOf]; omega
    · go_wp2_with fail
      go_ret
      exact ⟨rfl, hK⟩

theorem same_nil (w : World) :
    Calls Tryd.prog 15 #[.slice none 0 0, .slice none 0 0] w fun e w' => e = .returned (.bool true) ∧ w = w' := by
  go_enter Tryd.func15, Tryd.ntmps15
  go_wp2_with fail
  go_loop [5] (fun i => i = .int .i64 0) (fun _ => 0)
  case atStart => exact rfl
  case round =>
    subst hrel
    go_wp2_with fail
    go_ret
    exact ⟨rfl, rfl⟩


theorem tk_ok (s : ByteArray) (w : World) (hA : Amb w) (hs : s.size ≤ 8000) (h : (toksL s.data.toList).2 = s.size) :
    Calls Tryd.prog 13 #[.string s] w fun e w' => ∃ v, e = .returned (.tuple #[v, .int .i64 0, .int .i64 0]) ∧ Kp [] w w' ∧ TokSl w' v (toksL s.data.toList).1 := by
  have _ := hA
  refine (tokens_main s w hA hs).mono ?_
  rintro e w' ⟨hk, (⟨h1, rfl⟩ | ⟨h1, v, base, rfl, hb, hr⟩)⟩
  · omega
  · exact ⟨v, rfl, hk, base, hr⟩
theorem tk_bad (s : ByteArray) (w : World) (hA : Amb w) (hs : s.size ≤ 8000) (n : Nat) (hn : (toksL s.data.toList).2 = n) (h : n < s.size) :
    Calls Tryd.prog 13 #[.string s] w fun e w' => e = .returned (.tuple #[.slice none 0 0, .int .i64 n, .int .i64 4]) ∧ Kp [] w w' := by
  have _ := hA
  refine (tokens_main s w hA hs).mono ?_
  rintro e w' ⟨hk, (⟨h1, rfl⟩ | ⟨h1, v, base, rfl, hb, hr⟩)⟩
  · rw [hn]; exact ⟨rfl, hk⟩
  · omega
theorem rtk_ok (s : ByteArray) (w : World) (hA : Amb w) (hs : s.size ≤ 8000) (h : (toksL s.data.toList).2 = s.size) :
    Calls Tryd.prog 14 #[.string s] w fun e w' => ∃ v, e = .returned (.tuple #[v, .int .i64 0, .int .i64 0]) ∧ Kp [] w w' ∧ TokSl w' v (toksL s.data.toList).1 := by
  have _ := hA
  refine (rtokens_c s w hs).mono ?_
  rintro e w' ⟨hk, (⟨h1, rfl⟩ | ⟨h1, v, base, rfl, hb, hr⟩)⟩
  · omega
  · exact ⟨v, rfl, hk, base, hr⟩
theorem rtk_bad (s : ByteArray) (w : World) (hA : Amb w) (hs : s.size ≤ 8000) (n : Nat) (hn : (toksL s.data.toList).2 = n) (h : n < s.size) :
    Calls Tryd.prog 14 #[.string s] w fun e w' => e = .returned (.tuple #[.slice none 0 0, .int .i64 n, .int .i64 4]) ∧ Kp [] w w' := by
  have _ := hA
  refine (rtokens_c s w hs).mono ?_
  rintro e w' ⟨hk, (⟨h1, rfl⟩ | ⟨h1, v, base, rfl, hb, hr⟩)⟩
  · rw [hn]; exact ⟨rfl, hk⟩
  · omega

theorem tokensLaw_c (s : ByteArray) (w : World) (hA : Amb w) :
    Calls Tryd.prog 3 #[.string s] w fun e w' => e = .returned (.bool true) ∧ Kp [] w w' := by
  have hbl := briefS_le s
  by_cases h : 8000 < (briefS s).size
  · go_enter Tryd.func3, Tryd.ntmps3
    go_wp2_with (go_at_call 12; refine (brief_c _ _).mono ?_; rintro e w' ⟨rfl, rfl⟩)
    refine (tokens_full _ _ h).mono ?_
    rintro e w1 ⟨rfl, hk1⟩
    go_wp2_with fail
    refine (rtokens_full _ _ h).mono ?_
    rintro e w2 ⟨rfl, hk2⟩
    have hA2 := (hA.kp0 hk1).kp0 hk2
    go_wp2_with (first | (go_at_call 15; refine (same_nil _).mono ?_; rintro e w' ⟨rfl, rfl⟩) | (go_at_call 16; refine (awake_c _ hA2).mono ?_; rintro e w' ⟨rfl, hk⟩))
    go_ret
    exact ⟨rfl, hk1.trans (hk2.trans hk)⟩
  · have hs8 : (briefS s).size ≤ 8000 := by omega
    obtain ⟨P1, _, _⟩ := toks_parts (briefS s).data.toList []
    have hsl : (briefS s).data.toList.length = (briefS s).size := by simp
    rw [hsl] at P1
    obtain ⟨n, hn⟩ : ∃ n, (toksL (briefS s).data.toList).2 = n := ⟨_, rfl⟩
    rw [hn] at P1
    rcases Nat.lt_or_ge n (briefS s).size with h1 | h1
    · replace hn := Lib.hid hn
      replace hsl := Lib.hid hsl
      go_enter Tryd.func3, Tryd.ntmps3
      go_wp2_with (go_at_call 12; refine (brief_c _ _).mono ?_; rintro e w' ⟨rfl, rfl⟩)
      refine (tk_bad _ _ hA hs8 n hn.out h1).mono ?_
      rintro e w1 ⟨rfl, hk1⟩
      have hA1 := hA.kp0 hk1
      go_wp2_with fail
      refine (rtk_bad _ _ hA1 hs8 n hn.out h1).mono ?_
      rintro e w2 ⟨rfl, hk2⟩
      have hA2 := hA1.kp0 hk2
      go_wp2_with (first | (go_at_call 15; refine (same_nil _).mono ?_; rintro e w' ⟨rfl, rfl⟩) | (go_at_call 16; refine (awake_c _ hA2).mono ?_; rintro e w' ⟨rfl, hk⟩))
      go_ret
      exact ⟨rfl, hk1.trans (hk2.trans hk)⟩
    · obtain rfl : n = (briefS s).size := by omega
      obtain ⟨B1, _⟩ := toks_bounds (briefS s).data.toList
      obtain ⟨ts, t1⟩ : ∃ us, (toksL (briefS s).data.toList).1 = us ++ [⟨7, ⟨#[]⟩, (briefS s).size⟩] := by
        obtain ⟨_, _, P⟩ := toks_parts (briefS s).data.toList []
        rw [hsl] at P
        obtain ⟨us, u1, _⟩ := P hn
        exact ⟨us, u1⟩
      have hpos : 0 < (toksL (briefS s).data.toList).1.length := by rw [t1]; simp
      have hlen : (toksL (briefS s).data.toList).1.length ≤ 10000 := by omega
      clear t1 B1
      replace hn := Lib.hid hn
      replace hsl := Lib.hid hsl
      go_enter Tryd.func3, Tryd.ntmps3
      go_wp2_with (go_at_call 12; refine (brief_c _ _).mono ?_; rintro e w' ⟨rfl, rfl⟩)
      refine (tk_ok _ _ hA hs8 hn.out).mono ?_
      rintro e w1 ⟨v1, rfl, hk1, S1⟩
      have hA1 := hA.kp0 hk1
      go_wp2_with fail
      refine (rtk_ok _ _ hA1 hs8 hn.out).mono ?_
      rintro e w2 ⟨v2, rfl, hk2, S2⟩
      have hA2 := hA1.kp0 hk2
      go_wp2_with fail
      refine (same_c v1 v2 _ _ (S1.kp hk2) S2 hpos hlen).mono ?_
      rintro e w3 ⟨rfl, hk3⟩
      have hA3 := hA2.kp0 hk3
      go_wp2_with (go_at_call 16; refine (awake_c _ hA3).mono ?_; rintro e w' ⟨rfl, hk⟩)
      go_ret
      exact ⟨rfl, hk1.trans (hk2.trans (hk3.trans hk))⟩
end Go.Proofs.YtbfmkehchddkoaaDoor
