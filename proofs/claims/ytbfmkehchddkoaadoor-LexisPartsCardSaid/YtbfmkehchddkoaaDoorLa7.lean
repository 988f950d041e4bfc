import Derived.Test.YtbfmkehchddkoaaDoorLa6
import Derived.Test.YtbfmkehchddkoaaDoorLa5
namespace Go.Proofs.YtbfmkehchddkoaaDoor
open Go.RowKit

theorem cat3 (s t : ByteArray) : (s ++ ⟨#[10]⟩ ++ t).data.toList = s.data.toList ++ 10 :: t.data.toList := by simp

/-- What is known of the sources of LexisParts. -/
theorem parts_facts (s t : ByteArray) : ((toksL s.data.toList).2 < s.size ∧ (toksL (s ++ ⟨#[10]⟩ ++ t).data.toList).2 = (toksL s.data.toList).2) ∨
    ((toksL s.data.toList).2 = s.size ∧ (toksL t.data.toList).2 ≤ t.size ∧ ∃ ts, (toksL s.data.toList).1 = ts ++ [⟨7, ⟨#[]⟩, s.size⟩] ∧
      toksL (s ++ ⟨#[10]⟩ ++ t).data.toList = (ts ++ (toksL t.data.toList).1.map (shiftT (s.size + 1)), (toksL t.data.toList).2 + (s.size + 1))) := by
  have hcat := cat3 s t
  obtain ⟨P1, P2, P3⟩ := toks_parts s.data.toList t.data.toList
  obtain ⟨T1, _, _⟩ := toks_parts t.data.toList []
  have hsl : s.data.toList.length = s.size := by simp
  have htl : t.data.toList.length = t.size := by simp
  rw [hsl] at P1 P2 P3
  rw [htl] at T1
  rw [← hcat] at P2 P3
  rcases Nat.lt_or_ge (toksL s.data.toList).2 s.size with h | h
  · exact .inl ⟨h, P2 h⟩
  · exact .inr ⟨by omega, T1, P3 (by omega)⟩

theorem cat_size (s t : ByteArray) : (s ++ ⟨#[10]⟩ ++ t).size = s.size + 1 + t.size := by simp; rfl

theorem parts_1 (a b : ByteArray) (s t : ByteArray) (w : World) (hA : Amb w) (hs : Hid (a.extract 0 (min (a.size : Int) 3900).toNat = s)) (hs1 : s.size ≤ 3900)
    (ht : Hid (b.extract 0 (min (b.size : Int) 3900).toNat = t)) (ht1 : t.size ≤ 3900)
    (h1 : (toksL s.data.toList).2 < s.size) (h2 : Hid ((toksL (s ++ ⟨#[10]⟩ ++ t).data.toList).2 = (toksL s.data.toList).2)) :
    Calls Tryd.prog 10 #[.string a, .string b] w fun e w' => e = .returned (.bool true) ∧ Kp [] w w' := by
  have hcs := cat_size s t
  have hc8 : (s ++ ⟨#[10]⟩ ++ t).size ≤ 8000 := by omega
  replace hcs := Lib.hid hcs
  obtain ⟨n, hn⟩ : ∃ n, (toksL s.data.toList).2 = n := ⟨_, rfl⟩
  rw [hn] at h1
  replace hn := Lib.hid hn
  go_enter Tryd.func10, Tryd.ntmps10
  go_wp2_with fail
  go_quiet (fail)
  rw [hs.out, ht.out]
  go_wp2_with fail
  refine (tokens_bad s _ (hA.drewN _) (by omega) n hn.out h1).mono ?_
  rintro e w1 ⟨rfl, hk1⟩
  have hA1 := (hA.drewN nq).kp0 hk1
  go_wp2_with fail
  refine (tokens_any t _ hA1 (by omega)).mono ?_
  rintro e w2 ⟨v, x, y, rfl, hk2⟩
  have hA2 := hA1.kp0 hk2
  go_wp2_with fail
  refine (tokens_bad _ _ hA2 hc8 n (h2.out.trans hn.out) (by rw [hcs.out]; omega)).mono ?_
  rintro e w3 ⟨rfl, hk3⟩
  have hA3 := hA2.kp0 hk3
  go_wp2_with (go_at_call 16; refine (awake_c _ hA3).mono ?_; rintro e w' ⟨rfl, hk⟩)
  go_ret
  exact ⟨rfl, (((Kp.refl [] w).drewN nq).trans hk1).trans (hk2.trans (hk3.trans hk))⟩

theorem parts_2 (a b : ByteArray) (s t : ByteArray) (w : World) (hA : Amb w) (hs : Hid (a.extract 0 (min (a.size : Int) 3900).toNat = s)) (hs1 : s.size ≤ 3900)
    (ht : Hid (b.extract 0 (min (b.size : Int) 3900).toNat = t)) (ht1 : t.size ≤ 3900)
    (h0 : Hid ((toksL s.data.toList).2 = s.size)) (h1 : (toksL t.data.toList).2 < t.size) (h2 : Hid ((toksL (s ++ ⟨#[10]⟩ ++ t).data.toList).2 = (toksL t.data.toList).2 + (s.size + 1))) :
    Calls Tryd.prog 10 #[.string a, .string b] w fun e w' => e = .returned (.bool true) ∧ Kp [] w w' := by
  have hcs := cat_size s t
  have hc8 : (s ++ ⟨#[10]⟩ ++ t).size ≤ 8000 := by omega
  replace hcs := Lib.hid hcs
  obtain ⟨n, hn⟩ : ∃ n, (toksL t.data.toList).2 = n := ⟨_, rfl⟩
  rw [hn] at h1
  replace hn := Lib.hid hn
  go_enter Tryd.func10, Tryd.ntmps10
  go_wp2_with fail
  go_quiet (fail)
  rw [hs.out, ht.out]
  go_wp2_with fail
  refine (tokens_ok s _ (hA.drewN _) (by omega) h0.out).mono ?_
  rintro e w1 ⟨v, rfl, hk1, _⟩
  have hA1 := (hA.drewN nq).kp0 hk1
  go_wp2_with fail
  refine (tokens_bad t _ hA1 (by omega) n hn.out h1).mono ?_
  rintro e w2 ⟨rfl, hk2⟩
  have hA2 := hA1.kp0 hk2
  go_wp2_with fail
  refine (tokens_bad _ _ hA2 hc8 (s.size + 1 + n) (by rw [h2.out, hn.out]; omega) (by rw [hcs.out]; omega)).mono ?_
  rintro e w3 ⟨rfl, hk3⟩
  have hA3 := hA2.kp0 hk3
  go_wp2_with (go_at_call 16; refine (awake_c _ hA3).mono ?_; rintro e w' ⟨rfl, hk⟩)
  go_ret
  exact ⟨rfl, (((Kp.refl [] w).drewN nq).trans hk1).trans (hk2.trans (hk3.trans hk))⟩

theorem parts_3 (a b : ByteArray) (s t : ByteArray) (ts : List Tok) (w : World) (hA : Amb w) (hs : Hid (a.extract 0 (min (a.size : Int) 3900).toNat = s)) (hs1 : s.size ≤ 3900)
    (ht : Hid (b.extract 0 (min (b.size : Int) 3900).toNat = t)) (ht1 : t.size ≤ 3900)
    (h0 : Hid ((toksL s.data.toList).2 = s.size)) (h1 : Hid ((toksL t.data.toList).2 = t.size)) (h2 : Hid ((toksL (s ++ ⟨#[10]⟩ ++ t).data.toList).2 = t.size + (s.size + 1)))
    (l1 : Hid ((toksL s.data.toList).1 = ts ++ [⟨7, ⟨#[]⟩, s.size⟩])) (l2 : Hid ((toksL (s ++ ⟨#[10]⟩ ++ t).data.toList).1 = ts ++ (toksL t.data.toList).1.map (shiftT (s.size + 1)))) 
    (hn1 : ts.length ≤ s.size) (hn2 : (toksL t.data.toList).1.length ≤ t.size + 1) (hn3 : 0 < (toksL t.data.toList).1.length) (hat : Hid (∀ x ∈ (toksL t.data.toList).1, x.at_ ≤ t.size)) :
    Calls Tryd.prog 10 #[.string a, .string b] w fun e w' => e = .returned (.bool true) ∧ Kp [] w w' := by
  have hcs := cat_size s t
  have hc8 : (s ++ ⟨#[10]⟩ ++ t).size ≤ 8000 := by omega
  replace hcs := Lib.hid hcs
  obtain ⟨TL, hTL⟩ : ∃ TL, (toksL t.data.toList).1 = TL := ⟨_, rfl⟩
  rw [hTL] at hn2 hn3 hat
  have l2 : Hid ((toksL (s ++ ⟨#[10]⟩ ++ t).data.toList).1 = ts ++ TL.map (shiftT (s.size + 1))) := by show _ = _; rw [l2.out, hTL]
  replace hTL := Lib.hid hTL
  go_enter Tryd.func10, Tryd.ntmps10
  go_wp2_with fail
  go_quiet (fail)
  rw [hs.out, ht.out]
  go_wp2_with fail
  refine (tokens_ok s _ (hA.drewN _) (by omega) h0.out).mono ?_
  rintro e w1 ⟨v1, rfl, hk1, S1⟩
  have hA1 := (hA.drewN nq).kp0 hk1
  rw [l1.out] at S1
  obtain ⟨g1, c1, rfl, _⟩ := S1.at (by simp)
  go_wp2_with fail
  refine (tokens_ok t _ hA1 (by omega) h1.out).mono ?_
  rintro e w2 ⟨v2, rfl, hk2, S2⟩
  have hA2 := hA1.kp0 hk2
  rw [hTL.out] at S2
  obtain ⟨g2, c2, rfl, _⟩ := S2.at (by omega)
  go_wp2_with fail
  refine (tokens_ok _ _ hA2 hc8 (by rw [h2.out, hcs.out]; omega)).mono ?_
  rintro e w3 ⟨v3, rfl, hk3, S3⟩
  rw [l2.out] at S3
  have hA3 := hA2.kp0 hk3
  obtain ⟨g3, c3, rfl, C3⟩ := S3.at (by simp; omega)
  obtain ⟨_, _, e2, C2⟩ := (S2.kp hk3).at (by omega)
  obtain ⟨_, _, e1, C1⟩ := (S1.kp (hk2.trans hk3)).at (by simp)
  cases e1; cases e2
  have D1 : ∀ k, k < ts.length → ∃ x, TokAt w3 g1 k x ∧ TokAt w3 g3 k x := fun k hk =>
    ⟨ts[k], C1 k _ (by rw [List.getElem?_append_left hk]; simp), C3 k _ (by rw [List.getElem?_append_left hk]; simp [hk])⟩
  have D2 : ∀ j, j < TL.length → ∃ x : Tok, x.at_ ≤ t.size ∧ TokAt w3 g2 j x ∧ TokAt w3 g3 (ts.length + j) (shiftT (s.size + 1) x) := fun j hj =>
    ⟨TL[j], hat.out _ (List.getElem_mem hj), C2 j _ (by simp), C3 _ _ (by rw [List.getElem?_append_right (by omega)]; simp [hj])⟩
  replace D1 := Lib.hid D1
  replace D2 := Lib.hid D2
  clear C1 C2 C3 S1 S2 S3 l1 l2 hTL hat h0 h1 h2 hcs hc8
  simp only [List.length_append, List.length_map]
  have hK3 : Kp [] w w3 := (((Kp.refl [] w).drewN nq).trans hk1).trans (hk2.trans hk3)
  clear hk1 hk2 hk3
  obtain ⟨n1, hn1'⟩ : ∃ n, ts.length = n := ⟨_, rfl⟩
  obtain ⟨n2, hn2'⟩ : ∃ n, TL.length = n := ⟨_, rfl⟩
  simp only [hn1', hn2'] at *
  clear hn1' hn2'
  have hlen : ((n1 : Int) + n2 != (n1 : Int) + 1 + n2 - 1) = false := by simp; omega
  go_wp2_with fail
  go_loopw [16] (fun i wr => ∃ k : Nat, k ≤ n1 + n2 ∧ i = .int .i64 k ∧ Kp [] w3 wr) (fun i _ => n1 + n2 - (intOf i).toNat)
  case atStart => exact ⟨0, by omega, rfl, Kp.refl _ _⟩
  case round =>
    obtain ⟨k, hk, rfl, hK⟩ := hrel
    by_cases hlt : k < n1 + n2
    · by_cases hl1 : k < n1
      · obtain ⟨x, X1, X2⟩ := D1.out k hl1
        obtain ⟨a0, a1, a2⟩ := X1.al hK
        obtain ⟨b0, b1, b2⟩ := X2.al hK
        have hlt2 : decide ((k : Int) < (n1 : Int) + 1 - 1) = true := by simp; omega
        go_wp2_with fail
        go_quiet (fail)
        go_wp2_with fail
        go_roundw
        case rel => exact ⟨k + 1, by omega, by go_num, (hK.alloc _).drewN _⟩
        case measure => simp [intOf]; omega
      · obtain ⟨j, rfl⟩ : ∃ j, k = n1 + j := ⟨k - n1, by omega⟩
        obtain ⟨x, hxat, X1, X2⟩ := D2.out j (by omega)
        obtain ⟨a0, a1, a2⟩ := X1.al hK
        have hj : (n1 : Int) + j - ((n1 : Int) + 1) + 1 = j := by omega
        obtain ⟨b0, b1, B2⟩ := X2.al hK
        replace b0 : ∀ O, (wr.alloc O).cell? ⟨g3, (n1 + j) * 3, none⟩ = some (.int .i64 x.kind) := b0
        replace b1 : ∀ O, (wr.alloc O).cell? ⟨g3, (n1 + j) * 3 + 1, none⟩ = some (.string x.text) := b1
        have b2 : ∀ O, (wr.alloc O).cell? ⟨g3, (n1 + j) * 3 + 2, none⟩ = some (.int .i64 ((x.at_ : Int) + s.size + 1)) := fun O => by
          rw [B2 O]; simp [shiftT]; omega
        clear B2
        have hlt2 : decide ((n1 : Int) + j < (n1 : Int) + 1 - 1) = false := by simp; omega
        go_wp2_with fail
        go_quiet (fail)
        go_wp2_with fail
        go_roundw
        case rel => exact ⟨n1 + j + 1, by omega, by go_num, (hK.alloc _).drewN _⟩
        case measure => simp [intOf]; omega
    · obtain rfl : k = n1 + n2 := by omega
      have hAr := hA3.kp0 hK
      go_wp2_with (go_at_call 16; refine (awake_c _ hAr).mono ?_; rintro e w' ⟨rfl, hk⟩)
      go_ret
      exact ⟨rfl, hK3.trans (hK.trans hk)⟩

theorem parts_c (a b : ByteArray) (w : World) (hA : Amb w) :
    Calls Tryd.prog 10 #[.string a, .string b] w fun e w' => e = .returned (.bool true) ∧ Kp [] w w' := by
  obtain ⟨s, hs, _, hs1⟩ := cut_c a 3900 3900 rfl
  obtain ⟨t, ht, _, ht1⟩ := cut_c b 3900 3900 rfl
  rcases parts_facts s t with ⟨h1, h2⟩ | ⟨h0, h1, ts, l1, l2⟩
  · exact parts_1 a b s t w hA hs hs1 ht ht1 h1 h2
  · rcases Nat.lt_or_ge (toksL t.data.toList).2 t.size with h | h
    · exact parts_2 a b s t w hA hs hs1 ht ht1 h0 h (by show _ = _; rw [l2])
    · have h1' : (toksL t.data.toList).2 = t.size := by omega
      obtain ⟨B1, _⟩ := toks_bounds s.data.toList
      obtain ⟨B2, B3⟩ := toks_bounds t.data.toList
      have hsl : s.data.toList.length = s.size := by simp
      have htl : t.data.toList.length = t.size := by simp
      rw [hsl, l1, List.length_append, List.length_singleton] at B1
      rw [htl] at B2 B3
      obtain ⟨us, u1⟩ : ∃ us, (toksL t.data.toList).1 = us ++ [⟨7, ⟨#[]⟩, t.size⟩] := by
        obtain ⟨_, _, P⟩ := toks_parts t.data.toList []
        rw [htl] at P
        obtain ⟨us, u1, _⟩ := P h1'
        exact ⟨us, u1⟩
      exact parts_3 a b s t ts w hA hs hs1 ht ht1 h0 h1' (by show _ = _; rw [l2, h1']) l1 (by show _ = _; rw [l2]) (by omega) B2 (by rw [u1]; simp) B3
end Go.Proofs.YtbfmkehchddkoaaDoor
