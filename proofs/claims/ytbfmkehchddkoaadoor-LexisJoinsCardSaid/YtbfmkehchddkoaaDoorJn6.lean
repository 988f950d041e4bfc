import Derived.Test.YtbfmkehchddkoaaDoorJn5
namespace Go.Proofs.YtbfmkehchddkoaaDoor
open Go.RowKit

def RJRes (o : Option (List UInt8)) (w : World) (e : Ending) (w' : World) : Prop :=
  Kp [] w w' ∧ (o = none → e = .returned (.tuple #[.string ⟨#[]⟩, .bool false])) ∧ (∀ a, o = some a → e = .returned (.tuple #[.string ⟨a.toArray⟩, .bool true]))

theorem RJRes.no {o : Option (List UInt8)} {w w' : World} (h : o = none) (k : Kp [] w w') : RJRes o w (.returned (.tuple #[.string ⟨#[]⟩, .bool false])) w' := by
  subst h
  exact ⟨k, fun _ => rfl, fun a h => by cases h⟩
theorem RJRes.yes {o : Option (List UInt8)} {a : ByteArray} {w w' : World} (h : o = some a.data.toList) (k : Kp [] w w') : RJRes o w (.returned (.tuple #[.string a, .bool true])) w' := by
  subst h
  exact ⟨k, (fun h => by cases h), fun b h => by cases h; rfl⟩

set_option maxRecDepth 100000 in
set_option maxHeartbeats 4000000 in
theorem rjoin_c (g cap : Nat) (ts : List TI) (w : World) (hc : ∀ i x, ts[i]? = some x → TiAt w g i x) (hn : ts.length ≤ 10000)
    (hs : ∀ x ∈ ts, x.text.size ≤ 140737488355328 ∧ (isTokI x = true → x.text.size ≤ 4294967296)) :
    Calls Tryd.prog 19 #[.slice (some ⟨g, 0, none⟩) ts.length cap] w (RJRes (jn true [] ts) w) := by
  replace hc := Lib.hid hc
  replace hs := Lib.hid hs
  obtain ⟨n, hnn⟩ : ∃ n, ts.length = n := ⟨_, rfl⟩
  rw [hnn] at hn ⊢
  replace hnn := Lib.hid hnn
  go_enter Tryd.func19, Tryd.ntmps19
  go_wp2_with fail
  go_loopw [4, 5] (fun v i wr => ∃ (k : Nat) (S : ByteArray), k ≤ n ∧ v = .string S ∧ i = .int .i64 k ∧ Kp [] w wr ∧ S.size ≤ 8000 ∧ Hid (jn true [] ts = jn (decide (k = 0)) S.data.toList (ts.drop k))) (fun _ i _ => n - (intOf i).toNat)
  case atStart => exact ⟨0, ⟨#[]⟩, by omega, rfl, rfl, Kp.refl _ _, Nat.zero_le _, rfl⟩
  case round =>
    obtain ⟨k, S, hk, rfl, rfl, hK, hS, hE⟩ := hrel
    by_cases hlt : k < n
    · obtain ⟨x, hx⟩ : ∃ x, ts[k]? = some x := ⟨_, List.getElem?_eq_getElem (by have := hnn.out; omega)⟩
      have hx' : ts.drop k = x :: ts.drop (k + 1) := by
        obtain ⟨h1, h2⟩ := List.getElem?_eq_some_iff.1 hx
        rw [List.drop_eq_getElem_cons h1, h2]
      obtain ⟨z1, z2⟩ := hs.out x (List.mem_of_getElem? hx)
      have hX := (hc.out k x hx).kp hK
      obtain ⟨a0, a1, a2⟩ := id hX
      have hemp : (ts.drop (k + 1)).isEmpty = decide (k + 1 = n) := by
        rw [Bool.eq_iff_iff, List.isEmpty_iff, decide_eq_true_eq, List.drop_eq_nil_iff]
        have := hnn.out
        omega
      replace hemp := Lib.hid hemp
      replace hx := Lib.hid hx
      replace hx' := Lib.hid hx'
      replace z2 := Lib.hid z2
      go_wp2_with fail
      refine (rtokI_c x _ z1).mono ?_
      rintro e w2 ⟨rfl, hk2⟩
      obtain ⟨b0, b1, b2⟩ := hX.kp hk2
      have hK2 := hK.trans hk2
      clear a0 a1 a2
      cases hr : isTokR x
      · have hr' := hr
        rw [isTokR, Bool.or_eq_false_iff] at hr'
        have hR : Hid (jn true [] ts = none) := by show _ = _; rw [hE.out, hx'.out, jn_no (by rw [hr'.2]; rfl) hr'.1]
        clear hr'
        go_wp2_with fail
        go_ret2
        exact RJRes.no hR.out hK2
      · cases ht : isTokI x
        · have hen : isEndI x = true := by rw [isTokR, ht, Bool.false_or] at hr; exact hr
          have hen' := hen
          rw [isEndI, Bool.and_eq_true, decide_eq_true_eq, decide_eq_true_eq] at hen'
          have k7 : (x.kind == 7) = true := by simp [hen'.1]
          clear hen'
          replace hen := Lib.hid hen
          replace ht := Lib.hid ht
          by_cases hl : k + 1 = n
          · have hR : Hid (jn true [] ts = some S.data.toList) := by show _ = _; rw [hE.out, hx'.out]; exact jn_end (by rw [hen.out, hemp.out]; simp [hl])
            have g1 : decide ((k : Int) < (n : Int) - 1) = false := by simp; omega
            clear hl
            go_wp2_with fail
            go_ret2
            exact RJRes.yes hR.out hK2
          · have hR : Hid (jn true [] ts = none) := by show _ = _; rw [hE.out, hx'.out, jn_no (by rw [hemp.out]; simp [hl]) ht.out]
            have g1 : decide ((k : Int) < (n : Int) - 1) = true := by simp; omega
            clear hl
            go_wp2_with fail
            go_ret2
            exact RJRes.no hR.out hK2
        · have z3 := z2.out ht
          have hne : Hid ((isEndI x && (ts.drop (k + 1)).isEmpty) = false) := by
            show _ = _
            have := tokI_kinds ht
            have : isEndI x = false := by simp [isEndI]; omega
            rw [this]; rfl
          have k7 : (x.kind == 7) = false := by
            have := tokI_kinds ht
            simp; omega
          replace ht := Lib.hid ht
          clear hr
          by_cases hk0 : k = 0
          · subst hk0
            have hE3 : Hid (jn true [] ts = if 8000 < S.size + x.text.size then none else jn false (S ++ x.text).data.toList (ts.drop 1)) := by
              show _ = _
              rw [hE.out, hx'.out]
              have e : (if decide (0 = 0) = true then S.data.toList else S.data.toList ++ [32]) ++ x.text.data.toList = (S ++ x.text).data.toList := by simp
              rw [jn_step hne.out ht.out e]
              simp
            by_cases h8 : 8000 < S.size + x.text.size
            · have g8 : decide ((8000 : Int) < (S.size : Int) + (x.text.size : Int)) = true := by simp; omega
              have hR : Hid (jn true [] ts = none) := by show _ = _; rw [hE3.out, if_pos h8]
              go_wp2_with fail
              go_ret2
              exact RJRes.no hR.out hK2
            · have g8 : decide ((8000 : Int) < (S.size : Int) + (x.text.size : Int)) = false := by simp; omega
              have hR : Hid (jn true [] ts = jn (decide (0 + 1 = 0)) (S ++ x.text).data.toList (ts.drop (0 + 1))) := by show _ = _; rw [hE3.out, if_neg h8]; simp
              go_wp2_with fail
              go_roundw
              case rel => exact ⟨0 + 1, S ++ x.text, by omega, rfl, rfl, hK2, by rw [ByteArray.size_append]; omega, hR⟩
              case measure => simp [intOf]; omega
          · have g0 : decide (0 < (k : Int)) = true := by simp; omega
            have hE3 : Hid (jn true [] ts = if 8000 < S.size + 1 + x.text.size then none else jn false (S ++ ⟨#[32]⟩ ++ x.text).data.toList (ts.drop (k + 1))) := by
              show _ = _
              rw [hE.out, hx'.out]
              have e : (if decide (k = 0) = true then S.data.toList else S.data.toList ++ [32]) ++ x.text.data.toList = (S ++ ⟨#[32]⟩ ++ x.text).data.toList := by simp [hk0]
              rw [jn_step hne.out ht.out e]
              have e2 : (S ++ ⟨#[32]⟩ ++ x.text).data.toList.length = S.size + 1 + x.text.size := by
                rw [Array.length_toList]
                show (S ++ ⟨#[32]⟩ ++ x.text).size = _
                rw [ByteArray.size_append, ByteArray.size_append]; rfl
              rw [e2]
            by_cases h8 : 8000 < S.size + 1 + x.text.size
            · have g8 : decide ((8000 : Int) < (S.size : Int) + 1 + (x.text.size : Int)) = true := by simp; omega
              have hR : Hid (jn true [] ts = none) := by show _ = _; rw [hE3.out, if_pos h8]
              go_wp2_with fail
              go_ret2
              exact RJRes.no hR.out hK2
            · have g8 : decide ((8000 : Int) < (S.size : Int) + 1 + (x.text.size : Int)) = false := by simp; omega
              have hR : Hid (jn true [] ts = jn (decide (k + 1 = 0)) (S ++ ⟨#[32]⟩ ++ x.text).data.toList (ts.drop (k + 1))) := by show _ = _; rw [hE3.out, if_neg h8]; simp
              go_wp2_with fail
              go_roundw
              case rel => exact ⟨k + 1, S ++ ⟨#[32]⟩ ++ x.text, by omega, rfl, by go_num, hK2, by rw [ByteArray.size_append, ByteArray.size_append]; show S.size + 1 + x.text.size ≤ 8000; omega, hR⟩
              case measure => simp [intOf]; omega
    · obtain rfl : k = n := by omega
      have hR : Hid (jn true [] ts = some S.data.toList) := by
        show _ = _
        rw [hE.out, List.drop_of_length_le (by have := hnn.out; omega)]; rfl
      go_wp2_with fail
      go_ret2
      exact RJRes.yes hR.out hK
end Go.Proofs.YtbfmkehchddkoaaDoor
