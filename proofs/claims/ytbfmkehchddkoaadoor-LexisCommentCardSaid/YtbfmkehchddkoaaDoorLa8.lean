import Derived.Test.YtbfmkehchddkoaaDoorLa6
import Derived.Test.YtbfmkehchddkoaaDoorLa5
namespace Go.Proofs.YtbfmkehchddkoaaDoor
open Go.RowKit

theorem com_list (s d : ByteArray) : (s ++ (⟨#[10, 47, 47]⟩ ++ d) ++ ⟨#[10]⟩).data.toList = s.data.toList ++ 10 :: (47 :: 47 :: d.data.toList ++ [10]) := by simp

/-- What is known of the two sources of LexisComment. -/
theorem comment_facts (s d : ByteArray) (hd : ∀ x ∈ d.data.toList, x ≠ 10) :
    ((toksL s.data.toList).2 < s.size ∧ (toksL (s ++ (⟨#[10, 47, 47]⟩ ++ d) ++ ⟨#[10]⟩).data.toList).2 = (toksL s.data.toList).2) ∨
    ((toksL s.data.toList).2 = s.size ∧ ∃ ts, (toksL s.data.toList).1 = ts ++ [⟨7, ⟨#[]⟩, s.size⟩] ∧
      toksL (s ++ (⟨#[10, 47, 47]⟩ ++ d) ++ ⟨#[10]⟩).data.toList = (ts ++ [⟨7, ⟨#[]⟩, s.size + d.size + 4⟩], s.size + d.size + 4)) := by
  rw [com_list]
  obtain ⟨P1, P2, P3⟩ := toks_comment s.data.toList d.data.toList hd
  have hsl : s.data.toList.length = s.size := by simp
  have hdl : d.data.toList.length = d.size := by simp
  rw [hsl] at P1 P2 P3
  rw [hdl] at P3
  rcases Nat.lt_or_ge (toksL s.data.toList).2 s.size with h | h
  · exact .inl ⟨h, P2 h⟩
  · exact .inr ⟨by omega, P3 (by omega)⟩

theorem com_size (s d : ByteArray) : (s ++ (⟨#[10, 47, 47]⟩ ++ d) ++ ⟨#[10]⟩).size = s.size + d.size + 4 := by
  have := congrArg List.length (com_list s d)
  simp only [List.length_append, List.length_cons, List.length_nil, Array.length_toList] at this
  show (s ++ (⟨#[10, 47, 47]⟩ ++ d) ++ ⟨#[10]⟩).data.size = _
  rw [this]
  show s.size + (d.size + 1 + 1 + 1 + 1) = _
  omega

set_option maxRecDepth 100000 in
theorem comment_c (a b : ByteArray) (w : World) (hA : Amb w) :
    Calls Tryd.prog 9 #[.string a, .string b] w fun e w' => e = .returned (.bool true) ∧ Kp [] w w' := by
  obtain ⟨s, hs, _, hs1⟩ := cut_c a 7900 7900 rfl
  go_enter Tryd.func9, Tryd.ntmps9
  go_wp2_with fail
  go_loop [6, 7] (fun c i => ∃ (k : Nat) (d : ByteArray), k ≤ b.size ∧ k ≤ 50 ∧ d.size ≤ k ∧ c = .string (⟨#[10, 47, 47]⟩ ++ d) ∧ i = .int .i64 k ∧ Hid (∀ x ∈ d.data.toList, x ≠ 10)) (fun _ i => 50 - (intOf i).toNat)
  case atStart => exact ⟨0, ⟨#[]⟩, by omega, by omega, by simp; rfl, rfl, rfl, fun x hx => by simp at hx⟩
  case round =>
    obtain ⟨k, d, hk, hk5, hds, rfl, rfl, hd⟩ := hrel
    by_cases hlt : k < b.size ∧ k < 50
    · obtain ⟨h1, h2⟩ := hlt
      cases hc : ((b[k].toNat : Int) != 10)
      · go_wp2_with fail
        go_round
        case rel => exact ⟨k + 1, d, by omega, by omega, by omega, rfl, by go_num, hd⟩
        case measure => simp [intOf]; omega
      · have hi1 : (0 : Int) ≤ (k : Int) := by omega
        have hi2 : (k : Int) + 1 ≤ (b.size : Int) := by omega
        have hi3 : k + 1 ≤ b.size := by omega
        have hi4 : (k : Int) ≤ (k : Int) + 1 := by omega
        go_wp2_with fail
        go_round
        case rel =>
          refine ⟨k + 1, d ++ b.extract k (k + 1), by omega, by omega, ?_, by rw [ByteArray.append_assoc], by go_num, ?_⟩
          · rw [ByteArray.size_append, ByteArray.size_extract]; omega
          · intro x hx
            rw [ByteArray.data_append, Array.toList_append, List.mem_append] at hx
            rcases hx with hx | hx
            · exact hd.out x hx
            · rw [extract_L, take_snoc b k h1, List.drop_append_of_le_length (by simp; omega)] at hx
              rw [List.drop_of_length_le (by simp; omega)] at hx
              simp only [List.nil_append, List.mem_singleton] at hx
              rw [hx]
              intro e
              rw [e] at hc
              simp at hc
        case measure => simp [intOf]; omega
    · have hfacts := comment_facts s d hd.out
      have hcase : ¬ k < b.size ∨ (k < b.size ∧ ¬ k < 50) := by omega
      have hq8 : (s ++ (⟨#[10, 47, 47]⟩ ++ d) ++ ⟨#[10]⟩).size ≤ 8000 := by rw [com_size]; omega
      have hqs := Lib.hid (com_size s d)
      clear hlt
      rcases hfacts with ⟨f1, f2⟩ | ⟨f1, ts, f2, f3⟩
      · obtain ⟨n, hn⟩ : ∃ n, (toksL s.data.toList).2 = n := ⟨_, rfl⟩
        rw [hn] at f1
        replace f2 := Lib.hid f2
        replace hn := Lib.hid hn
        rcases hcase with hb | ⟨hb, hb5⟩
        all_goals
          go_wp2_with fail
          rw [hs.out]
          refine (tokens_bad s _ hA (by omega) n hn.out f1).mono ?_
          rintro e w1 ⟨rfl, hk1⟩
          have hA1 := hA.kp0 hk1
          go_wp2_with fail
          refine (tokens_bad _ _ hA1 hq8 n (by rw [f2.out, hn.out]) (by rw [hqs.out]; omega)).mono ?_
          rintro e w2 ⟨rfl, hk2⟩
          have hA2 := hA1.kp0 hk2
          go_wp2_with fail
          go_loop [14] (fun i => i = .int .i64 0) (fun _ => 0)
          case atStart => exact rfl
          case round =>
            subst hrel
            go_wp2_with (go_at_call 16; refine (awake_c _ hA2).mono ?_; rintro e w' ⟨rfl, hk⟩)
            go_ret
            exact ⟨rfl, hk1.trans (hk2.trans hk)⟩
      · have hn1 := (toks_bounds s.data.toList).1
        rw [f2, List.length_append, List.length_singleton] at hn1
        have hsl : s.data.toList.length = s.size := by simp
        rw [hsl] at hn1
        clear hsl
        have f3a : Hid ((toksL (s ++ (⟨#[10, 47, 47]⟩ ++ d) ++ ⟨#[10]⟩).data.toList).2 = s.size + d.size + 4) := by show _ = _; rw [f3]
        have f3b : Hid ((toksL (s ++ (⟨#[10, 47, 47]⟩ ++ d) ++ ⟨#[10]⟩).data.toList).1 = ts ++ [⟨7, ⟨#[]⟩, s.size + d.size + 4⟩]) := by show _ = _; rw [f3]
        clear f3
        replace f1 := Lib.hid f1
        replace f2 := Lib.hid f2
        rcases hcase with hb | ⟨hb, hb5⟩
        all_goals
          go_wp2_with fail
          rw [hs.out]
          refine (tokens_ok s _ hA (by omega) f1.out).mono ?_
          rintro e w1 ⟨v1, rfl, hk1, S1⟩
          have hA1 := hA.kp0 hk1
          rw [f2.out] at S1
          obtain ⟨g1, c1, rfl, _⟩ := S1.at (by simp)
          go_wp2_with fail
          refine (tokens_ok _ _ hA1 hq8 (by rw [f3a.out, hqs.out])).mono ?_
          rintro e w2 ⟨v2, rfl, hk2, S2⟩
          have hA2 := hA1.kp0 hk2
          rw [f3b.out] at S2
          obtain ⟨g2, c2, rfl, C2⟩ := S2.at (by simp)
          obtain ⟨_, _, e1, C1⟩ := (S1.kp hk2).at (by simp)
          cases e1
          have D : ∀ j, j < ts.length → ∃ x, TokAt w2 g1 j x ∧ TokAt w2 g2 j x := fun j hj =>
            ⟨ts[j], C1 j _ (by rw [List.getElem?_append_left hj]; simp), C2 j _ (by rw [List.getElem?_append_left hj]; simp)⟩
          have hlast : TokAt w2 g2 ts.length ⟨7, ⟨#[]⟩, s.size + d.size + 4⟩ := C2 _ _ (by simp)
          replace D := Lib.hid D
          clear C1 C2 S1 S2 f1 f2 f3a f3b
          simp only [List.length_append, List.length_cons, List.length_nil]
          obtain ⟨n1, hn1'⟩ : ∃ n, ts.length = n := ⟨_, rfl⟩
          simp only [hn1'] at *
          clear hn1'
          go_wp2_with fail
          go_loopw [14] (fun i wr => ∃ j : Nat, j ≤ n1 ∧ i = .int .i64 j ∧ Kp [] w2 wr) (fun i _ => n1 - (intOf i).toNat)
          case atStart => exact ⟨0, by omega, rfl, Kp.refl _ _⟩
          case round =>
            obtain ⟨j, hj, rfl, hK⟩ := hrel
            by_cases hl1 : j < n1
            · obtain ⟨x, X1, X2⟩ := D.out j hl1
              obtain ⟨a0, a1, a2⟩ := X1.kp hK
              obtain ⟨b0, b1, b2⟩ := X2.kp hK
              have t1 : decide ((j : Int) + 1 < (n1 : Int) + 1) = true := by simp; omega
              go_wp2_with fail
              go_quiet (fail)
              go_wp2_with fail
              go_roundw
              case rel => exact ⟨j + 1, by omega, by go_num, hK.drewN _⟩
              case measure => simp [intOf]; omega
            · obtain rfl : j = n1 := by omega
              obtain ⟨b0, b1, b2⟩ := hlast.kp hK
              replace b2 : wr.cell? ⟨g2, j * 3 + 2, none⟩ = some (.int .i64 ((s.size : Int) + (3 + (d.size : Int)) + 1)) := by rw [b2]; congr 2; simp; omega
              have t1 : decide ((j : Int) + 1 < (j : Int) + 1) = false := by simp
              have hAr := hA2.kp0 hK
              go_wp2_with (go_at_call 16; refine (awake_c _ hAr).mono ?_; rintro e w' ⟨rfl, hk⟩)
              go_ret
              exact ⟨rfl, hk1.trans (hk2.trans (hK.trans hk))⟩
end Go.Proofs.YtbfmkehchddkoaaDoor
