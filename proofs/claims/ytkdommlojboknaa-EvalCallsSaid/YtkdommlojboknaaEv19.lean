import Derived.Test.YtkdommlojboknaaEv18
namespace Go.Proofs.Ytkdommlojboknaa
open Go.RowKit

theorem len1 {zs : List Int} (h : zs.length = 1) : ∃ x, zs = [x] := by
  match zs, h with
  | [x], _ => exact ⟨x, rfl⟩
theorem len2 {zs : List Int} (h : zs.length = 2) : ∃ x y, zs = [x, y] := by
  match zs, h with
  | [x, y], _ => exact ⟨x, y, rfl⟩
theorem len3 {zs : List Int} (h : zs.length = 3) : ∃ x y z, zs = [x, y, z] := by
  match zs, h with
  | [x, y, z], _ => exact ⟨x, y, z, rfl⟩
def AllC (b off : Nat) (zs : List Int) (w : World) : Prop := ∀ w', Gr w w' → ∀ j, j < zs.length → w'.cell? ⟨b, off + j, none⟩ = some (.int .i64 (zs.getD j 0))
theorem both_0 (b off c : Nat) (zs : List Int) (w : World) (hz : zs.length = 1) (hc : AllC b off zs w) :
    (∃ R, CallsYes ⟨#[97, 98, 115]⟩ 1 2 R (kindsL.getD 0 []) (some ⟨b, off, none⟩) 1 c w) ∨ CallsNo ⟨#[97, 98, 115]⟩ 1 2 (kindsL.getD 0 []) (some ⟨b, off, none⟩) 1 c w := by
  cases ha : allB (kindsL.getD 0 []) zs
  · exact .inr (no_all_0 b off c zs w hz hc ha)
  · obtain ⟨x, rfl⟩ := len1 hz
    have hv : valB x = true := by simpa [allB, kindsL] using ha
    obtain ⟨v1, v2⟩ := val_bd hv
    by_cases hx : x < 0
    · have e : wrap32 (max x (-x)) = wrap32 (-x) := by rw [show max x (-x) = -x by omega]
      exact .inl ⟨_, yes_0 b off c _ (max x (-x)) w rfl hc ha (fun w' hw => fnabs_c b off 1 c x w' rfl hv (hc w' hw 0 (by simp))) (fun w' hw => (rcall_abs_neg b off 1 c x w' rfl (hc w' hw 0 (by simp)) hx v1).mono fun e2 w2 k => ⟨by rw [k.1, e], k.2⟩)⟩
    · have e : wrap32 (max x (-x)) = x := by rw [show max x (-x) = x by omega]; exact wrap32_val x hv
      exact .inl ⟨_, yes_0 b off c _ (max x (-x)) w rfl hc ha (fun w' hw => fnabs_c b off 1 c x w' rfl hv (hc w' hw 0 (by simp))) (fun w' hw => (rcall_abs_pos b off 1 c x w' rfl (hc w' hw 0 (by simp)) hx).mono fun e2 w2 k => ⟨by rw [k.1, e], k.2⟩)⟩
theorem both_1 (b off c : Nat) (zs : List Int) (w : World) (hz : zs.length = 2) (hc : AllC b off zs w) :
    (∃ R, CallsYes ⟨#[109, 105, 110]⟩ 2 2 R (kindsL.getD 1 []) (some ⟨b, off, none⟩) 2 c w) ∨ CallsNo ⟨#[109, 105, 110]⟩ 2 2 (kindsL.getD 1 []) (some ⟨b, off, none⟩) 2 c w := by
  cases ha : allB (kindsL.getD 1 []) zs
  · exact .inr (no_all_1 b off c zs w hz hc ha)
  · obtain ⟨x, y, rfl⟩ := len2 hz
    have hv : valB x = true ∧ valB y = true := by simpa [allB, kindsL] using ha
    obtain ⟨v1, v2⟩ := val_bd hv.1
    obtain ⟨v3, v4⟩ := val_bd hv.2
    have e : wrap32 (min x y) = min x y := wrap32_val _ (val_mk (by omega))
    exact .inl ⟨_, yes_1 b off c _ (min x y) w rfl hc ha (fun w' hw => fnmin_c b off 2 c x y w' rfl (hc w' hw 0 (by simp)) (hc w' hw 1 (by simp))) (fun w' hw => (rcall_min b off 2 c x y w' rfl (hc w' hw 0 (by simp)) (hc w' hw 1 (by simp))).mono fun e2 w2 k => ⟨by rw [k.1, e], k.2⟩)⟩
theorem both_2 (b off c : Nat) (zs : List Int) (w : World) (hz : zs.length = 2) (hc : AllC b off zs w) :
    (∃ R, CallsYes ⟨#[109, 97, 120]⟩ 2 2 R (kindsL.getD 2 []) (some ⟨b, off, none⟩) 2 c w) ∨ CallsNo ⟨#[109, 97, 120]⟩ 2 2 (kindsL.getD 2 []) (some ⟨b, off, none⟩) 2 c w := by
  cases ha : allB (kindsL.getD 2 []) zs
  · exact .inr (no_all_2 b off c zs w hz hc ha)
  · obtain ⟨x, y, rfl⟩ := len2 hz
    have hv : valB x = true ∧ valB y = true := by simpa [allB, kindsL] using ha
    obtain ⟨v1, v2⟩ := val_bd hv.1
    obtain ⟨v3, v4⟩ := val_bd hv.2
    have e : wrap32 (max x y) = max x y := wrap32_val _ (val_mk (by omega))
    exact .inl ⟨_, yes_2 b off c _ (max x y) w rfl hc ha (fun w' hw => fnmax_c b off 2 c x y w' rfl (hc w' hw 0 (by simp)) (hc w' hw 1 (by simp))) (fun w' hw => (rcall_max b off 2 c x y w' rfl (hc w' hw 0 (by simp)) (hc w' hw 1 (by simp))).mono fun e2 w2 k => ⟨by rw [k.1, e], k.2⟩)⟩
theorem both_3 (b off c : Nat) (zs : List Int) (w : World) (hz : zs.length = 3) (hc : AllC b off zs w) :
    (∃ R, CallsYes ⟨#[108, 105, 109, 105, 116]⟩ 3 2 R (kindsL.getD 3 []) (some ⟨b, off, none⟩) 3 c w) ∨ CallsNo ⟨#[108, 105, 109, 105, 116]⟩ 3 2 (kindsL.getD 3 []) (some ⟨b, off, none⟩) 3 c w := by
  cases ha : allB (kindsL.getD 3 []) zs
  · exact .inr (no_all_3 b off c zs w hz hc ha)
  · obtain ⟨x, y, z, rfl⟩ := len3 hz
    have hv : valB x = true ∧ valB y = true ∧ valB z = true := by simpa [allB, kindsL] using ha
    obtain ⟨v1, v2⟩ := val_bd hv.1
    obtain ⟨v3, v4⟩ := val_bd hv.2.1
    obtain ⟨v5, v6⟩ := val_bd hv.2.2
    have e : wrap32 (min (max x y) z) = min (max x y) z := wrap32_val _ (val_mk (by omega))
    exact .inl ⟨_, yes_3 b off c _ (min (max x y) z) w rfl hc ha (fun w' hw => fnlimit_c b off 3 c x y z w' rfl (hc w' hw 0 (by simp)) (hc w' hw 1 (by simp)) (hc w' hw 2 (by simp))) (fun w' hw => (rcall_limit b off 3 c x y z w' rfl (hc w' hw 0 (by simp)) (hc w' hw 1 (by simp)) (hc w' hw 2 (by simp))).mono fun e2 w2 k => ⟨by rw [k.1, e], k.2⟩)⟩
theorem both_4 (b off c : Nat) (zs : List Int) (w : World) (hz : zs.length = 3) (hc : AllC b off zs w) :
    (∃ R, CallsYes ⟨#[115, 101, 108]⟩ 3 2 R (kindsL.getD 4 []) (some ⟨b, off, none⟩) 3 c w) ∨ CallsNo ⟨#[115, 101, 108]⟩ 3 2 (kindsL.getD 4 []) (some ⟨b, off, none⟩) 3 c w := by
  cases ha : allB (kindsL.getD 4 []) zs
  · exact .inr (no_all_4 b off c zs w hz hc ha)
  · obtain ⟨x, y, z, rfl⟩ := len3 hz
    have hv : (valB x = true ∧ bitB x = true) ∧ valB y = true ∧ valB z = true := by simpa [allB, kindsL] using ha
    rcases bit_cases hv.1.2 with rfl | rfl
    · have e : wrap32 y = y := wrap32_val y hv.2.1
      exact .inl ⟨_, yes_4 b off c _ y w rfl hc ha (fun w' hw => fnsel_t0 b off 3 c y w' rfl (hc w' hw 0 (by simp)) (hc w' hw 1 (by simp))) (fun w' hw => (rcall_sel_0 b off 3 c y w' rfl (hc w' hw 0 (by simp)) (hc w' hw 1 (by simp))).mono fun e2 w2 k => ⟨by rw [k.1, e], k.2⟩)⟩
    · have e : wrap32 z = z := wrap32_val z hv.2.2
      exact .inl ⟨_, yes_4 b off c _ z w rfl hc ha (fun w' hw => fnsel_t1 b off 3 c z w' rfl (hc w' hw 0 (by simp)) (hc w' hw 2 (by simp))) (fun w' hw => (rcall_sel_1 b off 3 c z w' rfl (hc w' hw 0 (by simp)) (hc w' hw 2 (by simp))).mono fun e2 w2 k => ⟨by rw [k.1, e], k.2⟩)⟩
theorem both_5 (b off c : Nat) (zs : List Int) (w : World) (hz : zs.length = 1) (hc : AllC b off zs w) :
    (∃ R, CallsYes ⟨#[116, 111, 98, 111, 111, 108]⟩ 1 1 R (kindsL.getD 5 []) (some ⟨b, off, none⟩) 1 c w) ∨ CallsNo ⟨#[116, 111, 98, 111, 111, 108]⟩ 1 1 (kindsL.getD 5 []) (some ⟨b, off, none⟩) 1 c w := by
  cases ha : allB (kindsL.getD 5 []) zs
  · exact .inr (no_all_5 b off c zs w hz hc ha)
  · obtain ⟨x, rfl⟩ := len1 hz
    have e : wrap32 (oneOf (x != 0)) = oneOf (x != 0) := wrap32_oneOf _
    exact .inl ⟨_, yes_5 b off c _ (oneOf (x != 0)) w rfl hc ha (fun w' hw => fntobool_c b off 1 c x w' rfl (hc w' hw 0 (by simp))) (fun w' hw => (rcall_tobool b off 1 c x w' rfl (hc w' hw 0 (by simp))).mono fun e2 w2 k => ⟨by rw [k.1, e], k.2⟩)⟩
theorem both_6 (b off c : Nat) (zs : List Int) (w : World) (hz : zs.length = 1) (hc : AllC b off zs w) :
    (∃ R, CallsYes ⟨#[116, 111, 105, 110, 116]⟩ 1 2 R (kindsL.getD 6 []) (some ⟨b, off, none⟩) 1 c w) ∨ CallsNo ⟨#[116, 111, 105, 110, 116]⟩ 1 2 (kindsL.getD 6 []) (some ⟨b, off, none⟩) 1 c w := by
  cases ha : allB (kindsL.getD 6 []) zs
  · exact .inr (no_all_6 b off c zs w hz hc ha)
  · obtain ⟨x, rfl⟩ := len1 hz
    have hv : valB x = true := by simpa [allB, kindsL] using ha
    have e : wrap32 (x) = x := wrap32_val x hv
    exact .inl ⟨_, yes_6 b off c _ (x) w rfl hc ha (fun w' hw => fntoint_c b off 1 c x w' rfl (hc w' hw 0 (by simp))) (fun w' hw => (rcall_toint b off 1 c x w' rfl (hc w' hw 0 (by simp))).mono fun e2 w2 k => ⟨by rw [k.1, e], k.2⟩)⟩
theorem both_7 (b off c : Nat) (zs : List Int) (w : World) (hz : zs.length = 1) (hc : AllC b off zs w) :
    (∃ R, CallsYes ⟨#[116, 111, 116, 105, 109, 101]⟩ 1 3 R (kindsL.getD 7 []) (some ⟨b, off, none⟩) 1 c w) ∨ CallsNo ⟨#[116, 111, 116, 105, 109, 101]⟩ 1 3 (kindsL.getD 7 []) (some ⟨b, off, none⟩) 1 c w := by
  cases ha : allB (kindsL.getD 7 []) zs
  · exact .inr (no_all_7 b off c zs w hz hc ha)
  · obtain ⟨x, rfl⟩ := len1 hz
    have hv : valB x = true := by simpa [allB, kindsL] using ha
    obtain ⟨v1, v2⟩ := val_bd hv
    have e : wrap32 (max x 0) = max x 0 := wrap32_val _ (val_mk (by omega))
    exact .inl ⟨_, yes_7 b off c _ (max x 0) w rfl hc ha (fun w' hw => fntotime_c b off 1 c x w' rfl (hc w' hw 0 (by simp))) (fun w' hw => (rcall_totime b off 1 c x w' rfl (hc w' hw 0 (by simp))).mono fun e2 w2 k => ⟨by rw [k.1, e], k.2⟩)⟩
def keysL : List ByteArray := [⟨#[97, 98, 115]⟩, ⟨#[109, 105, 110]⟩, ⟨#[109, 97, 120]⟩, ⟨#[108, 105, 109, 105, 116]⟩, ⟨#[115, 101, 108]⟩, ⟨#[116, 111, 98, 111, 111, 108]⟩, ⟨#[116, 111, 105, 110, 116]⟩, ⟨#[116, 111, 116, 105, 109, 101]⟩]
theorem find_none (x : ByteArray) : ∀ (es : List MapEntry) (i : Nat), (∀ e ∈ es, ∃ k, e.key = .string k ∧ k ≠ x) → Instr.findNow .string (.string x) es i = some none
  | [], i, _ => rfl
  | e :: es, i, h => by
    obtain ⟨k, hk, hne⟩ := h e (by simp)
    rw [Instr.findNow, hk]
    have hx : (x == k) = false := by
      cases hb : (x == k)
      · rfl
      · exact absurd ((MapKept.bytes_beq _ _).1 hb).symm hne
    simp only [Instr.sameNow, hx]
    exact find_none x es (i + 1) (fun e he => h e (by simp [he]))
theorem fnE_none (x : ByteArray) (hx : ∀ k ∈ keysL, k ≠ x) : Hid (∀ g, Instr.findNow .string (.string x) (fnE g).toList 0 = some none) := by
  intro g
  refine find_none x _ 0 ?_
  intro e he
  simp [fnE] at he
  rcases he with h | h | h | h | h | h | h | h <;> (subst h; exact ⟨_, rfl, hx _ (by simp [keysL])⟩)
end Go.Proofs.Ytkdommlojboknaa
