import Derived.Test.YtbfmkehchddkoaaDoorR4
import Derived.Test.YtbfmkehchddkoaaDoorLa5
import Derived.Deep.QuietTactic
import Derived.BigQuiet
import Derived.Lib.ItoaMem
namespace Go.Proofs.YtbfmkehchddkoaaDoor
open Go.RowKit

theorem fields_words : Lib.fields (wordsT wordsL) = wordsL := by decide +kernel
theorem words_ascii : ∀ b ∈ wordsT wordsL, b.toNat < 128 := by decide +kernel

def TabOk (w : World) : Prop := Lib.TabIs Tryd.prog w "strings.asciiSpace" .u8 Lib.asciiSpaceTab

/-- strings.Fields of any string whose bytes are those of the words. -/
theorem fields_c (s : ByteArray) (w : World) (hs : s.data.toList = wordsT wordsL) (htab : TabOk w) :
    Calls Tryd.prog 42 #[.string s] w fun e w' => e = .returned (.slice (some ⟨w.heap.size, 0, none⟩) 90 90) ∧ w' = w.alloc (.cells wordsV 9) := by
  have hz : s.size = 464 := by
    have h1 := congrArg List.length hs
    rw [Array.length_toList] at h1
    have h2 : (wordsT wordsL).length = 464 := by decide +kernel
    exact h1.trans h2
  have e2 : wordsL.length = 90 := by decide
  have hf := Tryd.strings_Fields s w (by omega) (by intro j b hb; rw [hs] at hb; exact words_ascii b (List.mem_of_getElem? hb)) htab
  rw [hs, fields_words, e2] at hf
  exact hf

set_option maxRecDepth 100000 in
theorem words_c (w : World) (htab : TabOk w) :
    Calls Tryd.prog 20 #[] w fun e w' => e = .returned (.slice (some ⟨w.heap.size, 0, none⟩) 90 90) ∧ w' = w.alloc (.cells wordsV 9) := by
  have hl : Hid (wordsT wordsL = [32, 97, 100, 100, 32, 97, 110, 100, 32, 97, 110, 100, 110, 32, 97, 116, 32, 98, 108, 111, 99, 107, 32, 98, 111, 111, 108, 32, 98, 111, 120, 32, 98, 121, 32, 99, 97, 108, 32, 99, 97, 108, 99, 32, 99, 97, 108, 99, 110, 32, 99, 97, 115, 101, 32, 100, 101, 108, 97, 121, 32, 100, 105, 118, 32, 100, 111, 32, 101, 108, 115, 101, 32, 101, 108, 115, 105, 102, 32, 101, 110, 100, 32, 101, 110, 100, 95, 99, 97, 115, 101, 32, 101, 110, 100, 95, 102, 111, 114, 32, 101, 110, 100, 95, 105, 102, 32, 101, 110, 100, 95, 114, 101, 112, 101, 97, 116, 32, 101, 110, 100, 95, 119, 104, 105, 108, 101, 32, 101, 110, 116, 101, 114, 32, 101, 113, 32, 101, 118, 101, 114, 121, 32, 101, 120, 105, 116, 32, 102, 97, 108, 108, 32, 102, 97, 108, 115, 101, 32, 102, 98, 100, 32, 102, 111, 114, 32, 102, 114, 111, 109, 32, 102, 117, 110, 99, 116, 105, 111, 110, 32, 103, 101, 32, 103, 116, 32, 105, 102, 32, 105, 108, 32, 105, 110, 105, 116, 105, 97, 108, 32, 105, 110, 112, 117, 116, 32, 105, 110, 116, 32, 106, 109, 112, 32, 106, 109, 112, 99, 32, 106, 109, 112, 99, 110, 32, 106, 117, 109, 112, 32, 108, 100, 32, 108, 100, 110, 32, 108, 101, 32, 108, 101, 97, 118, 101, 32, 108, 105, 109, 105, 116, 95, 32, 108, 111, 99, 97, 108, 32, 108, 116, 32, 109, 97, 99, 114, 111, 32, 109, 111, 100, 32, 109, 117, 108, 32, 110, 101, 32, 110, 111, 116, 32, 111, 102, 32, 111, 114, 32, 111, 114, 110, 32, 111, 117, 116, 112, 117, 116, 32, 112, 104, 97, 115, 101, 32, 112, 114, 105, 111, 114, 105, 116, 121, 32, 112, 114, 111, 103, 114, 97, 109, 32, 114, 101, 112, 101, 97, 116, 32, 114, 101, 115, 101, 116, 32, 114, 101, 116, 32, 114, 101, 116, 97, 105, 110, 32, 114, 101, 116, 99, 32, 114, 101, 116, 99, 110, 32, 114, 101, 116, 117, 114, 110, 32, 114, 105, 115, 101, 32, 114, 117, 110, 32, 114, 117, 110, 103, 32, 115, 101, 116, 32, 115, 102, 99, 32, 115, 116, 32, 115, 116, 101, 112, 32, 115, 116, 110, 32, 115, 117, 98, 32, 116, 97, 115, 107, 32, 116, 104, 101, 110, 32, 116, 105, 109, 101, 32, 116, 111, 32, 116, 114, 97, 110, 115, 105, 116, 105, 111, 110, 32, 116, 114, 117, 101, 32, 117, 110, 116, 105, 108, 32, 119, 104, 101, 110, 32, 119, 104, 105, 108, 101, 32, 120, 111, 114, 32, 120, 111, 114, 110, 32]) := wordsT_lit
  go_enter Tryd.func20, Tryd.ntmps20
  go_wp2_with fail
  refine (fields_c ⟨#[32, 97, 100, 100, 32, 97, 110, 100, 32, 97, 110, 100, 110, 32, 97, 116, 32, 98, 108, 111, 99, 107, 32, 98, 111, 111, 108, 32, 98, 111, 120, 32, 98, 121, 32, 99, 97, 108, 32, 99, 97, 108, 99, 32, 99, 97, 108, 99, 110, 32, 99, 97, 115, 101, 32, 100, 101, 108, 97, 121, 32, 100, 105, 118, 32, 100, 111, 32, 101, 108, 115, 101, 32, 101, 108, 115, 105, 102, 32, 101, 110, 100, 32, 101, 110, 100, 95, 99, 97, 115, 101, 32, 101, 110, 100, 95, 102, 111, 114, 32, 101, 110, 100, 95, 105, 102, 32, 101, 110, 100, 95, 114, 101, 112, 101, 97, 116, 32, 101, 110, 100, 95, 119, 104, 105, 108, 101, 32, 101, 110, 116, 101, 114, 32, 101, 113, 32, 101, 118, 101, 114, 121, 32, 101, 120, 105, 116, 32, 102, 97, 108, 108, 32, 102, 97, 108, 115, 101, 32, 102, 98, 100, 32, 102, 111, 114, 32, 102, 114, 111, 109, 32, 102, 117, 110, 99, 116, 105, 111, 110, 32, 103, 101, 32, 103, 116, 32, 105, 102, 32, 105, 108, 32, 105, 110, 105, 116, 105, 97, 108, 32, 105, 110, 112, 117, 116, 32, 105, 110, 116, 32, 106, 109, 112, 32, 106, 109, 112, 99, 32, 106, 109, 112, 99, 110, 32, 106, 117, 109, 112, 32, 108, 100, 32, 108, 100, 110, 32, 108, 101, 32, 108, 101, 97, 118, 101, 32, 108, 105, 109, 105, 116, 95, 32, 108, 111, 99, 97, 108, 32, 108, 116, 32, 109, 97, 99, 114, 111, 32, 109, 111, 100, 32, 109, 117, 108, 32, 110, 101, 32, 110, 111, 116, 32, 111, 102, 32, 111, 114, 32, 111, 114, 110, 32, 111, 117, 116, 112, 117, 116, 32, 112, 104, 97, 115, 101, 32, 112, 114, 105, 111, 114, 105, 116, 121, 32, 112, 114, 111, 103, 114, 97, 109, 32, 114, 101, 112, 101, 97, 116, 32, 114, 101, 115, 101, 116, 32, 114, 101, 116, 32, 114, 101, 116, 97, 105, 110, 32, 114, 101, 116, 99, 32, 114, 101, 116, 99, 110, 32, 114, 101, 116, 117, 114, 110, 32, 114, 105, 115, 101, 32, 114, 117, 110, 32, 114, 117, 110, 103, 32, 115, 101, 116, 32, 115, 102, 99, 32, 115, 116, 32, 115, 116, 101, 112, 32, 115, 116, 110, 32, 115, 117, 98, 32, 116, 97, 115, 107, 32, 116, 104, 101, 110, 32, 116, 105, 109, 101, 32, 116, 111, 32, 116, 114, 97, 110, 115, 105, 116, 105, 111, 110, 32, 116, 114, 117, 101, 32, 117, 110, 116, 105, 108, 32, 119, 104, 101, 110, 32, 119, 104, 105, 108, 101, 32, 120, 111, 114, 32, 120, 111, 114, 110, 32]⟩ _ hl.out.symm htab).mono ?_
  rintro e w' ⟨rfl, rfl⟩
  go_wp2_with fail
  go_ret
  exact ⟨rfl, rfl⟩

theorem TabOk.alloc {w : World} (h : TabOk w) (o : Obj) : TabOk (w.alloc o) := Go.Lib.tabIs_alloc h o

theorem word_all : ∀ x ∈ wordsL, isWordL x = true ∧ isNameL x = false ∧ x.length ≤ 100 := by decide +kernel

theorem namesLaw_c (s0 : ByteArray) (w : World) (hA : Amb w) (htab : TabOk w) :
    Calls Tryd.prog 5 #[.string s0] w fun e w' => e = .returned (.bool true) ∧ Kp [] w w' := by
  obtain ⟨s, hs, _, hs1⟩ := cut_c s0 100 100 rfl
  obtain ⟨W, hW⟩ : ∃ W, (w.alloc (.cells wordsV 9)).alloc (.cells wordsV 9) = W := ⟨_, rfl⟩
  have hK : Kp [] w W := by rw [← hW]; exact ((Kp.refl _ w).alloc _).alloc _
  have hAW := hA.kp0 hK
  have D : ∀ k, k < 90 → ∃ x : ByteArray, isWordS x = true ∧ isNameS x = false ∧ x.size ≤ 100 ∧ W.cell? ⟨w.heap.size, k, none⟩ = some (.string x) ∧ W.cell? ⟨w.heap.size + 1, k, none⟩ = some (.string x) := by
    intro k hk
    have hk' : k < wordsL.length := hk
    obtain ⟨y, hg⟩ : ∃ y, wordsL[k]? = some y := ⟨_, List.getElem?_eq_getElem hk'⟩
    obtain ⟨f1, f2, f3⟩ := word_all _ (List.mem_of_getElem? hg)
    have c1 := row_cells wordsL wordsV rfl w 9 k _ hg
    have c2 := row_cells wordsL wordsV rfl (w.alloc (.cells wordsV 9)) 9 k _ hg
    refine ⟨⟨y.toArray⟩, ?_, ?_, ?_, ?_, ?_⟩
    · rw [isWordS_L]; simpa using f1
    · rw [isNameS_L]; simpa using f2
    · show y.toArray.size ≤ 100; simpa using f3
    · rw [← hW]; exact ((Kp.refl [] _).alloc _).cell c1 (by simp)
    · rw [← hW]; rw [World.size_alloc] at c2; exact c2
  replace D := Lib.hid D
  replace hW := Lib.hid hW
  go_enter Tryd.func5, Tryd.ntmps5
  go_wp2_with fail
  refine (words_c _ htab).mono ?_
  rintro e w' ⟨rfl, rfl⟩
  go_wp2_with fail
  refine (rwords_c _).mono ?_
  rintro e w' ⟨rfl, rfl⟩
  simp only [World.size_alloc]
  rw [hW.out]
  go_wp2_with fail
  go_loopw [5] (fun i wr => ∃ j : Nat, j ≤ 90 ∧ i = .int .i64 j ∧ Kp [] W wr) (fun i _ => 90 - (intOf i).toNat)
  case atStart => exact ⟨0, by omega, rfl, Kp.refl _ _⟩
  case round =>
    obtain ⟨j, hj, rfl, hKr⟩ := hrel
    by_cases hl1 : j < 90
    · obtain ⟨x, f1, f2, f3, X1, X2⟩ := D.out j hl1
      have a1 := hKr.cell X1 (by simp)
      have b1 := hKr.cell X2 (by simp)
      have hAr := hAW.kp0 hKr
      go_wp2_with fail
      go_quiet ((first | (go_at_call 22; exact Calls.quiet_of_same ((word_c x _ (hAr.drewN _) (by omega)).mono fun e w' h => ⟨by rw [h.1, f1], h.2.symm⟩)) | (go_at_call 23; exact Calls.quiet_of_same ((name_c x _ (hAr.drewN _) (by omega)).mono fun e w' h => ⟨by rw [h.1, f2], h.2.symm⟩))))
      go_wp2_with fail
      go_roundw
      case rel => exact ⟨j + 1, by omega, by go_num, hKr.drewN _⟩
      case measure => simp [intOf]; omega
    · obtain rfl : j = 90 := by omega
      have hAr := hAW.kp0 hKr
      go_wp2_with fail
      rw [hs.out]
      refine (name_c s _ hAr (by omega)).mono ?_
      rintro e w1 ⟨rfl, rfl⟩
      rw [isNameS_L]
      go_wp2_with fail
      refine (rname_c s _ (by omega)).mono ?_
      rintro e w1 ⟨rfl, hk1⟩
      have hA1 := hAr.kp0 hk1
      go_wp2_with fail
      refine (word_c s _ hA1 (by omega)).mono ?_
      rintro e w2 ⟨rfl, rfl⟩
      rw [isWordS_L]
      go_wp2_with fail
      refine (rword_c s _).mono ?_
      rintro e w2 ⟨rfl, hk2⟩
      have hA2 := hA1.kp0 hk2
      go_wp2_with fail
      refine (addr_c s _ hA2 (by omega)).mono ?_
      rintro e w3 ⟨rfl, hk3⟩
      rw [isAddrS_L]
      go_wp2_with fail
      refine (raddr_c s _ (by omega)).mono ?_
      rintro e w3' ⟨rfl, rfl⟩
      have hA3 := hA2.kp0 hk3
      go_wp2_with (go_at_call 16; refine (awake_c _ hA3).mono ?_; rintro e w' ⟨rfl, hk⟩)
      go_ret
      exact ⟨rfl, hK.trans (hKr.trans (hk1.trans (hk2.trans (hk3.trans hk))))⟩
end Go.Proofs.YtbfmkehchddkoaaDoor
