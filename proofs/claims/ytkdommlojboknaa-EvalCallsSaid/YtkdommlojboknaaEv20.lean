import Derived.Test.YtkdommlojboknaaEv19
namespace Go.Proofs.Ytkdommlojboknaa
open Go.RowKit

theorem text_ne {x : ByteArray} {L : List UInt8} (h : (⟨L.toArray⟩ : ByteArray) ≠ x) : (x.toList == L) = false := by
  cases hb : (x.toList == L)
  · rfl
  · rw [beq_iff_eq, Lib.toList_data] at hb
    refine absurd ?_ h
    cases x with
    | mk d => simp at hb; subst hb; simp
set_option maxRecDepth 100000 in
theorem rkinds_none (x : ByteArray) (hx : ∀ k ∈ keysL, k ≠ x) (w : World) :
    Calls Try.prog 19 #[.string x] w fun e w' => e = .returned (.tuple #[.slice none 0 0, .int .i64 0, .bool false]) ∧ w' = w := by
  have n0 : (x.toList == [97, 98, 115]) = false := text_ne (hx _ (by simp [keysL]))
  have n1 : (x.toList == [109, 105, 110]) = false := text_ne (hx _ (by simp [keysL]))
  have n2 : (x.toList == [109, 97, 120]) = false := text_ne (hx _ (by simp [keysL]))
  have n3 : (x.toList == [108, 105, 109, 105, 116]) = false := text_ne (hx _ (by simp [keysL]))
  have n4 : (x.toList == [115, 101, 108]) = false := text_ne (hx _ (by simp [keysL]))
  have n5 : (x.toList == [116, 111, 98, 111, 111, 108]) = false := text_ne (hx _ (by simp [keysL]))
  have n6 : (x.toList == [116, 111, 105, 110, 116]) = false := text_ne (hx _ (by simp [keysL]))
  have n7 : (x.toList == [116, 111, 116, 105, 109, 101]) = false := text_ne (hx _ (by simp [keysL]))
  clear hx
  go_enter Try.func19, Try.ntmps19
  go_wp2
  go_ret3
  exact ⟨rfl, rfl⟩

/-- The ints of an argument lie where the slice says. -/
def IntsAt (q : Option Addr) (N C : Nat) (zs : List Int) (W : World) : Prop :=
  (q = none ∧ N = 0 ∧ C = 0) ∨ ∃ a, q = some a ∧ N ≤ C ∧ C ≤ 9223372036854775807 ∧ zs.length = C ∧ ∀ i, i < zs.length → W.cell? (a.add i) = some (.int .i64 (zs.getD i 0))
theorem at_spot {W : World} {a : Addr} {v : Value} (h : W.cell? a = some v) : a.spot = none := by
  unfold World.cell? at h
  split at h
  · cases hs : a.spot
    · rfl
    · rw [hs] at h; simp at h
  · exact absurd h (by simp)
theorem args_at {q : Option Addr} {N C : Nat} {zs : List Int} {W : World} (h : IntsAt q N C zs W) (h0 : N ≠ 0) :
    ∃ b off, q = some ⟨b, off, none⟩ ∧ (zs.take N).length = N ∧ AllC b off (zs.take N) W := by
  rcases h with ⟨_, h1, _⟩ | ⟨a, rfl, hl, _, hz, hc⟩
  · exact absurd h1 h0
  · obtain ⟨b, off, sp⟩ := a
    have hs := at_spot (hc 0 (by omega))
    have hs2 : sp = none := hs
    subst hs2
    have hlen : (zs.take N).length = N := by rw [List.length_take]; omega
    refine ⟨b, off, rfl, hlen, fun w' hw j hj => ?_⟩
    rw [hlen] at hj
    have hcj := hc j (by omega)
    have ea : (⟨b, off, none⟩ : Addr).add j = ⟨b, off + j, none⟩ := by
      unfold Addr.add
      split
      · rename_i e; subst e; rfl
      · rfl
    rw [ea] at hcj
    rw [List.getD_eq_getElem?_getD, List.getElem?_take_of_lt hj, ← List.getD_eq_getElem?_getD]
    exact hw.kp.cell hcj (by simp)
theorem calls_c (x : ByteArray) (q : Option Addr) (N C : Nat) (zs : List Int) (W : World) (h : IntsAt q N C zs W) :
    Calls Try.prog 4 #[.string x, .slice q N C] W fun e w' => e = .returned (.bool true) ∧ Gr W w' := by
  have hN : N ≤ C := by rcases h with ⟨_, h1, h2⟩ | ⟨a, _, h1, _⟩ <;> omega
  have hC : C ≤ 9223372036854775807 := by rcases h with ⟨_, h1, h2⟩ | ⟨a, _, _, h1, _⟩ <;> omega
  obtain ⟨n, hn⟩ : ∃ n, n = min N 10 := ⟨_, rfl⟩
  have hmin : min (N : Int) 10 = (n : Int) := by omega
  have hnc : n ≤ C := by omega
  by_cases hx : x ∈ keysL
  · simp only [keysL, List.mem_cons, List.not_mem_nil, or_false] at hx
    rcases hx with rfl | rfl | rfl | rfl | rfl | rfl | rfl | rfl
    · by_cases hm : n = 1
      · obtain rfl : N = 1 := by omega
        obtain rfl : n = 1 := hm
        obtain ⟨b, off, rfl, hl, ha⟩ := args_at h (by decide)
        rcases both_0 b off C _ W hl ha with ⟨R, H⟩ | H
        · exact calls_yes _ 1 2 R _ _ 1 1 C W hN hC hmin hnc H
        · exact calls_no _ 1 2 _ _ 1 1 C W hN hC hmin hnc H
      · exact calls_no _ 1 2 _ q N n C W hN hC hmin hnc (no_len_0 q n C W (by omega) hm)
    · by_cases hm : n = 2
      · obtain rfl : N = 2 := by omega
        obtain rfl : n = 2 := hm
        obtain ⟨b, off, rfl, hl, ha⟩ := args_at h (by decide)
        rcases both_1 b off C _ W hl ha with ⟨R, H⟩ | H
        · exact calls_yes _ 2 2 R _ _ 2 2 C W hN hC hmin hnc H
        · exact calls_no _ 2 2 _ _ 2 2 C W hN hC hmin hnc H
      · exact calls_no _ 2 2 _ q N n C W hN hC hmin hnc (no_len_1 q n C W (by omega) hm)
    · by_cases hm : n = 2
      · obtain rfl : N = 2 := by omega
        obtain rfl : n = 2 := hm
        obtain ⟨b, off, rfl, hl, ha⟩ := args_at h (by decide)
        rcases both_2 b off C _ W hl ha with ⟨R, H⟩ | H
        · exact calls_yes _ 2 2 R _ _ 2 2 C W hN hC hmin hnc H
        · exact calls_no _ 2 2 _ _ 2 2 C W hN hC hmin hnc H
      · exact calls_no _ 2 2 _ q N n C W hN hC hmin hnc (no_len_2 q n C W (by omega) hm)
    · by_cases hm : n = 3
      · obtain rfl : N = 3 := by omega
        obtain rfl : n = 3 := hm
        obtain ⟨b, off, rfl, hl, ha⟩ := args_at h (by decide)
        rcases both_3 b off C _ W hl ha with ⟨R, H⟩ | H
        · exact calls_yes _ 3 2 R _ _ 3 3 C W hN hC hmin hnc H
        · exact calls_no _ 3 2 _ _ 3 3 C W hN hC hmin hnc H
      · exact calls_no _ 3 2 _ q N n C W hN hC hmin hnc (no_len_3 q n C W (by omega) hm)
    · by_cases hm : n = 3
      · obtain rfl : N = 3 := by omega
        obtain rfl : n = 3 := hm
        obtain ⟨b, off, rfl, hl, ha⟩ := args_at h (by decide)
        rcases both_4 b off C _ W hl ha with ⟨R, H⟩ | H
        · exact calls_yes _ 3 2 R _ _ 3 3 C W hN hC hmin hnc H
        · exact calls_no _ 3 2 _ _ 3 3 C W hN hC hmin hnc H
      · exact calls_no _ 3 2 _ q N n C W hN hC hmin hnc (no_len_4 q n C W (by omega) hm)
    · by_cases hm : n = 1
      · obtain rfl : N = 1 := by omega
        obtain rfl : n = 1 := hm
        obtain ⟨b, off, rfl, hl, ha⟩ := args_at h (by decide)
        rcases both_5 b off C _ W hl ha with ⟨R, H⟩ | H
        · exact calls_yes _ 1 1 R _ _ 1 1 C W hN hC hmin hnc H
        · exact calls_no _ 1 1 _ _ 1 1 C W hN hC hmin hnc H
      · exact calls_no _ 1 1 _ q N n C W hN hC hmin hnc (no_len_5 q n C W (by omega) hm)
    · by_cases hm : n = 1
      · obtain rfl : N = 1 := by omega
        obtain rfl : n = 1 := hm
        obtain ⟨b, off, rfl, hl, ha⟩ := args_at h (by decide)
        rcases both_6 b off C _ W hl ha with ⟨R, H⟩ | H
        · exact calls_yes _ 1 2 R _ _ 1 1 C W hN hC hmin hnc H
        · exact calls_no _ 1 2 _ _ 1 1 C W hN hC hmin hnc H
      · exact calls_no _ 1 2 _ q N n C W hN hC hmin hnc (no_len_6 q n C W (by omega) hm)
    · by_cases hm : n = 1
      · obtain rfl : N = 1 := by omega
        obtain rfl : n = 1 := hm
        obtain ⟨b, off, rfl, hl, ha⟩ := args_at h (by decide)
        rcases both_7 b off C _ W hl ha with ⟨R, H⟩ | H
        · exact calls_yes _ 1 3 R _ _ 1 1 C W hN hC hmin hnc H
        · exact calls_no _ 1 3 _ _ 1 1 C W hN hC hmin hnc H
      · exact calls_no _ 1 3 _ q N n C W hN hC hmin hnc (no_len_7 q n C W (by omega) hm)
  · have hk : ∀ k ∈ keysL, k ≠ x := fun k hk e => hx (e ▸ hk)
    exact calls_none x q N n C W hN hC hmin hnc (fun w => kinds_none x w (fnE_none x hk)) (fun w => call_none x _ w (fnE_none x hk)) (fun w => rkinds_none x hk w)
end Go.Proofs.Ytkdommlojboknaa
