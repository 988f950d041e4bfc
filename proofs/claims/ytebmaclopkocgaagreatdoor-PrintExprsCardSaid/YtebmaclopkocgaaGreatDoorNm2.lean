import Derived.Test.YtebmaclopkocgaaGreatDoorNm1
namespace Go.Proofs.YtebmaclopkocgaaGreatDoor
open Go.RowKit

/-- The words, as bytes, in ascending order. -/
def wordsL : List (List UInt8) := [
  [97, 100, 100],
  [97, 110, 100],
  [97, 110, 100, 110],
  [97, 116],
  [98, 108, 111, 99, 107],
  [98, 111, 111, 108],
  [98, 111, 120],
  [98, 121],
  [99, 97, 108],
  [99, 97, 108, 99],
  [99, 97, 108, 99, 110],
  [99, 97, 115, 101],
  [100, 101, 108, 97, 121],
  [100, 105, 118],
  [100, 111],
  [101, 108, 115, 101],
  [101, 108, 115, 105, 102],
  [101, 110, 100],
  [101, 110, 100, 95, 99, 97, 115, 101],
  [101, 110, 100, 95, 102, 111, 114],
  [101, 110, 100, 95, 105, 102],
  [101, 110, 100, 95, 114, 101, 112, 101, 97, 116],
  [101, 110, 100, 95, 119, 104, 105, 108, 101],
  [101, 110, 116, 101, 114],
  [101, 113],
  [101, 118, 101, 114, 121],
  [101, 120, 105, 116],
  [102, 97, 108, 108],
  [102, 97, 108, 115, 101],
  [102, 98, 100],
  [102, 111, 114],
  [102, 114, 111, 109],
  [102, 117, 110, 99, 116, 105, 111, 110],
  [103, 101],
  [103, 116],
  [105, 102],
  [105, 108],
  [105, 110, 105, 116, 105, 97, 108],
  [105, 110, 112, 117, 116],
  [105, 110, 116],
  [106, 109, 112],
  [106, 109, 112, 99],
  [106, 109, 112, 99, 110],
  [106, 117, 109, 112],
  [108, 100],
  [108, 100, 110],
  [108, 101],
  [108, 101, 97, 118, 101],
  [108, 105, 109, 105, 116, 95],
  [108, 111, 99, 97, 108],
  [108, 116],
  [109, 97, 99, 114, 111],
  [109, 111, 100],
  [109, 117, 108],
  [110, 101],
  [110, 111, 116],
  [111, 102],
  [111, 114],
  [111, 114, 110],
  [111, 117, 116, 112, 117, 116],
  [112, 104, 97, 115, 101],
  [112, 114, 105, 111, 114, 105, 116, 121],
  [112, 114, 111, 103, 114, 97, 109],
  [114, 101, 112, 101, 97, 116],
  [114, 101, 115, 101, 116],
  [114, 101, 116],
  [114, 101, 116, 97, 105, 110],
  [114, 101, 116, 99],
  [114, 101, 116, 99, 110],
  [114, 101, 116, 117, 114, 110],
  [114, 105, 115, 101],
  [114, 117, 110],
  [114, 117, 110, 103],
  [115, 101, 116],
  [115, 102, 99],
  [115, 116],
  [115, 116, 101, 112],
  [115, 116, 110],
  [115, 117, 98],
  [116, 97, 115, 107],
  [116, 104, 101, 110],
  [116, 105, 109, 101],
  [116, 111],
  [116, 114, 97, 110, 115, 105, 116, 105, 111, 110],
  [116, 114, 117, 101],
  [117, 110, 116, 105, 108],
  [119, 104, 101, 110],
  [119, 104, 105, 108, 101],
  [120, 111, 114],
  [120, 111, 114, 110]]

/-- The words, each between two blanks. -/
def wordsT (ws : List (List UInt8)) : List UInt8 := ws.flatMap (fun x => 32 :: x) ++ [32]

theorem index_has (b : UInt8) (l sub : List UInt8) : 0 ≤ Lib.index (b :: l) sub ↔ sub.isPrefixOf (b :: l) = true ∨ 0 ≤ Lib.index l sub := by
  have := Lib.index_ge l sub
  rw [Lib.index]
  by_cases h : sub.isPrefixOf (b :: l) = true
  · simp [h]
  · by_cases h2 : Lib.index l sub = -1
    · simp [h, h2]
    · simp [h, h2]; omega
theorem index_skip (x : List UInt8) (r : List UInt8) : ∀ v : List UInt8, (∀ c ∈ v, c ≠ 32) → (0 ≤ Lib.index (v ++ r) (32 :: x) ↔ 0 ≤ Lib.index r (32 :: x))
  | [], _ => by simp
  | c :: v, h => by
    rw [List.cons_append, index_has, index_skip x r v (fun d hd => h d (by simp [hd]))]
    have := h c (by simp)
    simp [List.isPrefixOf, Ne.symm this]
theorem prefix_word (r : List UInt8) : ∀ s v : List UInt8, (∀ c ∈ s, c ≠ 32) → (∀ c ∈ v, c ≠ 32) → ((s ++ [32]).isPrefixOf (v ++ 32 :: r) = true ↔ s = v)
  | [], [], _, _ => by simp [List.isPrefixOf]
  | [], d :: v, _, h => by have := h d (by simp); simp [List.isPrefixOf, Ne.symm this]
  | c :: s, [], h, _ => by have := h c (by simp); simp [List.isPrefixOf, this]
  | c :: s, d :: v, h, g => by
    have := prefix_word r s v (fun a ha => h a (by simp [ha])) (fun a ha => g a (by simp [ha]))
    simp only [List.cons_append, List.isPrefixOf, Bool.and_eq_true, this, beq_iff_eq, List.cons.injEq]
theorem wordsT_cons (v : List UInt8) (ws : List (List UInt8)) : wordsT (v :: ws) = 32 :: (v ++ wordsT ws) := by simp [wordsT]
theorem wordsT_head (ws : List (List UInt8)) : ∃ r, wordsT ws = 32 :: r := by
  cases ws with
  | nil => exact ⟨[], rfl⟩
  | cons v ws => exact ⟨_, wordsT_cons v ws⟩
theorem contains_iff (s : List UInt8) (hs : ∀ c ∈ s, c ≠ 32) (hn : s ≠ []) : ∀ ws : List (List UInt8), (∀ v ∈ ws, ∀ c ∈ v, c ≠ 32) → (0 ≤ Lib.index (wordsT ws) (32 :: (s ++ [32])) ↔ s ∈ ws)
  | [], _ => by
    show 0 ≤ Lib.index [32] _ ↔ _
    rw [index_has]
    cases s with
    | nil => exact absurd rfl hn
    | cons c s => simp [List.isPrefixOf, Lib.index]
  | v :: ws, h => by
    have hv := h v (by simp)
    rw [wordsT_cons, index_has, index_skip _ _ v hv, contains_iff s hs hn ws (fun v hv => h v (by simp [hv]))]
    obtain ⟨r, hr⟩ := wordsT_head ws
    rw [hr]
    have := prefix_word r s v hs hv
    simp only [List.isPrefixOf, beq_self_eq_true, Bool.true_and, this, List.mem_cons]

def isWordS (s : ByteArray) : Bool := wordsL.contains s.data.toList

theorem words_runs : ∀ v ∈ wordsL, isRunL v = true := by decide +kernel
theorem run_no32 {s : List UInt8} (h : isRunL s = true) : s ≠ [] ∧ ∀ c ∈ s, c ≠ 32 := by
  cases s with
  | nil => simp [isRunL] at h
  | cons c l =>
    refine ⟨by simp, fun d hd e => ?_⟩
    simp only [isRunL, Bool.and_eq_true, List.all_eq_true] at h
    have := h.2 d hd
    subst e
    exact absurd this (by decide)
theorem word_spec {l : List UInt8} (h : isRunL l = true) : Lib.contains (wordsT wordsL) (32 :: (l ++ [32])) = wordsL.contains l := by
  obtain ⟨h1, h2⟩ := run_no32 h
  have := contains_iff l h2 h1 wordsL (fun v hv => (run_no32 (words_runs v hv)).2)
  rw [Lib.contains, Bool.eq_iff_iff, decide_eq_true_iff, this, List.contains_iff_mem]
theorem word_not {s : ByteArray} (h : isRunS s = false) : isWordS s = false := by
  rw [isWordS, Bool.eq_false_iff]
  intro e
  rw [List.contains_iff_mem] at e
  have := words_runs _ e
  rw [isRunS, this] at h; cases h

theorem wordsT_lit : wordsT wordsL = [32, 97, 100, 100, 32, 97, 110, 100, 32, 97, 110, 100, 110, 32, 97, 116, 32, 98, 108, 111, 99, 107, 32, 98, 111, 111, 108, 32, 98, 111, 120, 32, 98, 121, 32, 99, 97, 108, 32, 99, 97, 108, 99, 32, 99, 97, 108, 99, 110, 32, 99, 97, 115, 101, 32, 100, 101, 108, 97, 121, 32, 100, 105, 118, 32, 100, 111, 32, 101, 108, 115, 101, 32, 101, 108, 115, 105, 102, 32, 101, 110, 100, 32, 101, 110, 100, 95, 99, 97, 115, 101, 32, 101, 110, 100, 95, 102, 111, 114, 32, 101, 110, 100, 95, 105, 102, 32, 101, 110, 100, 95, 114, 101, 112, 101, 97, 116, 32, 101, 110, 100, 95, 119, 104, 105, 108, 101, 32, 101, 110, 116, 101, 114, 32, 101, 113, 32, 101, 118, 101, 114, 121, 32, 101, 120, 105, 116, 32, 102, 97, 108, 108, 32, 102, 97, 108, 115, 101, 32, 102, 98, 100, 32, 102, 111, 114, 32, 102, 114, 111, 109, 32, 102, 117, 110, 99, 116, 105, 111, 110, 32, 103, 101, 32, 103, 116, 32, 105, 102, 32, 105, 108, 32, 105, 110, 105, 116, 105, 97, 108, 32, 105, 110, 112, 117, 116, 32, 105, 110, 116, 32, 106, 109, 112, 32, 106, 109, 112, 99, 32, 106, 109, 112, 99, 110, 32, 106, 117, 109, 112, 32, 108, 100, 32, 108, 100, 110, 32, 108, 101, 32, 108, 101, 97, 118, 101, 32, 108, 105, 109, 105, 116, 95, 32, 108, 111, 99, 97, 108, 32, 108, 116, 32, 109, 97, 99, 114, 111, 32, 109, 111, 100, 32, 109, 117, 108, 32, 110, 101, 32, 110, 111, 116, 32, 111, 102, 32, 111, 114, 32, 111, 114, 110, 32, 111, 117, 116, 112, 117, 116, 32, 112, 104, 97, 115, 101, 32, 112, 114, 105, 111, 114, 105, 116, 121, 32, 112, 114, 111, 103, 114, 97, 109, 32, 114, 101, 112, 101, 97, 116, 32, 114, 101, 115, 101, 116, 32, 114, 101, 116, 32, 114, 101, 116, 97, 105, 110, 32, 114, 101, 116, 99, 32, 114, 101, 116, 99, 110, 32, 114, 101, 116, 117, 114, 110, 32, 114, 105, 115, 101, 32, 114, 117, 110, 32, 114, 117, 110, 103, 32, 115, 101, 116, 32, 115, 102, 99, 32, 115, 116, 32, 115, 116, 101, 112, 32, 115, 116, 110, 32, 115, 117, 98, 32, 116, 97, 115, 107, 32, 116, 104, 101, 110, 32, 116, 105, 109, 101, 32, 116, 111, 32, 116, 114, 97, 110, 115, 105, 116, 105, 111, 110, 32, 116, 114, 117, 101, 32, 117, 110, 116, 105, 108, 32, 119, 104, 101, 110, 32, 119, 104, 105, 108, 101, 32, 120, 111, 114, 32, 120, 111, 114, 110, 32] := by decide +kernel

set_option maxRecDepth 100000 in
theorem contains_words (s : ByteArray) (w : World) (hA : Amb w) (hr : isRunS s = true) :
    Calls Tryz.prog 110 #[.string ⟨#[32, 97, 100, 100, 32, 97, 110, 100, 32, 97, 110, 100, 110, 32, 97, 116, 32, 98, 108, 111, 99, 107, 32, 98, 111, 111, 108, 32, 98, 111, 120, 32, 98, 121, 32, 99, 97, 108, 32, 99, 97, 108, 99, 32, 99, 97, 108, 99, 110, 32, 99, 97, 115, 101, 32, 100, 101, 108, 97, 121, 32, 100, 105, 118, 32, 100, 111, 32, 101, 108, 115, 101, 32, 101, 108, 115, 105, 102, 32, 101, 110, 100, 32, 101, 110, 100, 95, 99, 97, 115, 101, 32, 101, 110, 100, 95, 102, 111, 114, 32, 101, 110, 100, 95, 105, 102, 32, 101, 110, 100, 95, 114, 101, 112, 101, 97, 116, 32, 101, 110, 100, 95, 119, 104, 105, 108, 101, 32, 101, 110, 116, 101, 114, 32, 101, 113, 32, 101, 118, 101, 114, 121, 32, 101, 120, 105, 116, 32, 102, 97, 108, 108, 32, 102, 97, 108, 115, 101, 32, 102, 98, 100, 32, 102, 111, 114, 32, 102, 114, 111, 109, 32, 102, 117, 110, 99, 116, 105, 111, 110, 32, 103, 101, 32, 103, 116, 32, 105, 102, 32, 105, 108, 32, 105, 110, 105, 116, 105, 97, 108, 32, 105, 110, 112, 117, 116, 32, 105, 110, 116, 32, 106, 109, 112, 32, 106, 109, 112, 99, 32, 106, 109, 112, 99, 110, 32, 106, 117, 109, 112, 32, 108, 100, 32, 108, 100, 110, 32, 108, 101, 32, 108, 101, 97, 118, 101, 32, 108, 105, 109, 105, 116, 95, 32, 108, 111, 99, 97, 108, 32, 108, 116, 32, 109, 97, 99, 114, 111, 32, 109, 111, 100, 32, 109, 117, 108, 32, 110, 101, 32, 110, 111, 116, 32, 111, 102, 32, 111, 114, 32, 111, 114, 110, 32, 111, 117, 116, 112, 117, 116, 32, 112, 104, 97, 115, 101, 32, 112, 114, 105, 111, 114, 105, 116, 121, 32, 112, 114, 111, 103, 114, 97, 109, 32, 114, 101, 112, 101, 97, 116, 32, 114, 101, 115, 101, 116, 32, 114, 101, 116, 32, 114, 101, 116, 97, 105, 110, 32, 114, 101, 116, 99, 32, 114, 101, 116, 99, 110, 32, 114, 101, 116, 117, 114, 110, 32, 114, 105, 115, 101, 32, 114, 117, 110, 32, 114, 117, 110, 103, 32, 115, 101, 116, 32, 115, 102, 99, 32, 115, 116, 32, 115, 116, 101, 112, 32, 115, 116, 110, 32, 115, 117, 98, 32, 116, 97, 115, 107, 32, 116, 104, 101, 110, 32, 116, 105, 109, 101, 32, 116, 111, 32, 116, 114, 97, 110, 115, 105, 116, 105, 111, 110, 32, 116, 114, 117, 101, 32, 117, 110, 116, 105, 108, 32, 119, 104, 101, 110, 32, 119, 104, 105, 108, 101, 32, 120, 111, 114, 32, 120, 111, 114, 110, 32]⟩, .string (⟨#[32]⟩ ++ s ++ ⟨#[32]⟩)] w fun e w' => e = .returned (.bool (isWordS s)) ∧ w = w' := by
  obtain ⟨m, hm⟩ := hA.m
  refine (Tryz.strings_Contains _ _ m w (by decide +kernel) hm).mono fun e w' ⟨he, hw⟩ => ⟨?_, hw.symm⟩
  have e1 : (⟨#[32]⟩ ++ s ++ ⟨#[32]⟩ : ByteArray).data.toList = 32 :: (s.data.toList ++ [32]) := by simp
  rw [he, e1, isWordS, ← word_spec hr, wordsT_lit]

set_option maxRecDepth 100000 in
theorem word_c (s : ByteArray) (w : World) (hA : Amb w) (hs : s.size ≤ 140737488355328) :
    Calls Tryz.prog 89 #[.string s] w fun e w' => e = .returned (.bool (isWordS s)) ∧ w = w' := by
  cases hr : isRunS s
  · have hw := word_not hr
    go_enter Tryz.func89, Tryz.ntmps89
    go_wp2_with (first | (go_at_call 88; refine (run_c _ _ (by omega)).mono ?_; rintro e w' ⟨rfl, rfl⟩))
    go_ret
    exact ⟨ret_bool hw.symm, rfl⟩
  · go_enter Tryz.func89, Tryz.ntmps89
    go_wp2_with (first | (go_at_call 88; refine (run_c _ _ (by omega)).mono ?_; rintro e w' ⟨rfl, rfl⟩) | (go_at_call 110; refine (contains_words s _ hA hr).mono ?_; rintro e w' ⟨rfl, rfl⟩))
    go_ret
    exact ⟨rfl, rfl⟩

def isNameS (s : ByteArray) : Bool := decide (s.size ≤ 12) && isRunS s && !isWordS s

theorem name_c (s : ByteArray) (w : World) (hA : Amb w) (hs : s.size ≤ 140737488355328) :
    Calls Tryz.prog 68 #[.string s] w fun e w' => e = .returned (.bool (isNameS s)) ∧ w = w' := by
  by_cases hz : s.size ≤ 12
  · have hz1 : decide ((s.size : Int) ≤ 12) = true := by simp; omega
    cases hr : isRunS s
    all_goals
      have hN : Hid (isNameS s = (isRunS s && !isWordS s)) := by show _ = _; simp [isNameS, hz]
      go_enter Tryz.func68, Tryz.ntmps68
      go_wp2_with (first | (go_at_call 88; refine (run_c _ _ (by omega)).mono ?_; rintro e w' ⟨rfl, rfl⟩) | (go_at_call 89; refine (word_c s _ hA (by omega)).mono ?_; rintro e w' ⟨rfl, rfl⟩))
      go_ret
      exact ⟨ret_bool (by rw [hN.out, hr]; rfl), rfl⟩
  · have hz1 : decide ((s.size : Int) ≤ 12) = false := by simp; omega
    have hN : Hid (isNameS s = false) := by show _ = _; simp [isNameS, hz]
    go_enter Tryz.func68, Tryz.ntmps68
    go_wp2_with (first | (go_at_call 88; refine (run_c _ _ (by omega)).mono ?_; rintro e w' ⟨rfl, rfl⟩))
    go_ret
    exact ⟨ret_bool hN.out.symm, rfl⟩
end Go.Proofs.YtebmaclopkocgaaGreatDoor
