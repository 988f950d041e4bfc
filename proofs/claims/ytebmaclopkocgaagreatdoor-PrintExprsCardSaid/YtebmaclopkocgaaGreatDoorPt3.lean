import Derived.Test.YtebmaclopkocgaaGreatDoorPt2
set_option linter.unusedSimpArgs false
set_option linter.unusedVariables false
namespace Go.Proofs.YtebmaclopkocgaaGreatDoor
open Go.RowKit

def pre (u : Nat) : List UInt8 := if u = 0 then [] else Lib.decDigits u
def digit (u : Nat) : UInt8 := UInt8.ofNat (48 + u % 10)
theorem dec_step (u : Nat) : Lib.decDigits u = pre (u / 10) ++ [digit u] := by
  rw [Lib.decDigits]
  by_cases h : u < 10
  · have h1 : u / 10 = 0 := by omega
    have h2 : u % 10 = u := by omega
    rw [dif_pos h, h1, digit, h2]; rfl
  · have h1 : ¬ u / 10 = 0 := by omega
    rw [dif_neg h, pre, if_neg h1]; rfl
theorem pre_step (u : Nat) (h : 0 < u) : pre u = pre (u / 10) ++ [digit u] := by
  rw [pre, if_neg (by omega), dec_step]

theorem wrap_u64 (x : Int) : IntKind.u64.wrap x = x % 18446744073709551616 := by
  simp [IntKind.wrap, IntKind.bits, IntKind.signed]
theorem wrap_dig (u : Nat) : IntKind.u64.wrap (48 + (u : Int).tmod 10) % 256 = ((digit u).toNat : Int) := by
  rw [wrap_u64, digit, Int.tmod_eq_emod_of_nonneg (by omega)]
  have : (UInt8.ofNat (48 + u % 10)).toNat = 48 + u % 10 := by
    rw [UInt8.toNat_ofNat']
    omega
  rw [this]; omega
theorem wrap_div (u : Nat) : (u : Int).tdiv 10 = ((u / 10 : Nat) : Int) := by
  rw [Int.tdiv_eq_ediv_of_nonneg (by omega)]; omega

set_option maxRecDepth 100000 in
theorem conv1 (w : World) (c : UInt8) : (Go.convert 78 9 (.slice (some ⟨w.heap.size, 0, none⟩) 1 1)).run Tryz.prog (w.alloc (.cells #[.int .u8 c.toNat] 5)) = .ok (.string ⟨#[c]⟩) (w.alloc (.cells #[.int .u8 c.toNat] 5)) :=
  Go.run_convert_bytes_back _ _ _ _ _ 1 [c] Tryz.underlying78 Tryz.underlying5 Tryz.underlying9 (fun j hj => by
    obtain rfl : j = 0 := by simp at hj; exact hj
    exact (Blk.new w _ _).cell 0 rfl)

set_option maxRecDepth 100000 in
set_option maxHeartbeats 1000000 in
theorem digits_neg (n : Int) (h0 : -9223372036854775808 ≤ n) (h1 : n ≤ 9223372036854775807) (hn : n < 0) (w : World) :
    Calls Tryz.prog 23 #[.int .i64 n] w fun e w' => e = .returned (.string (st (Lib.itoa n))) ∧ Kp [] w w' := by
  obtain ⟨u, hu⟩ : ∃ u : Nat, n.natAbs = u := ⟨_, rfl⟩
  obtain ⟨a, ha⟩ : ∃ a : Int, a = (u : Int) := ⟨_, rfl⟩
  have hd1 : IntKind.u64.wrap (48 + a.tmod 10) % 256 = ((digit u).toNat : Int) := by rw [ha]; exact wrap_dig u
  obtain ⟨b, hb⟩ : ∃ b : Int, b = ((u / 10 : Nat) : Int) := ⟨_, rfl⟩
  have hd2 : a.tdiv 10 = b := by rw [ha, hb]; exact wrap_div u
  have hw : IntKind.u64.wrap (-IntKind.u64.wrap n) = a := by simp only [wrap_u64]; omega
  have hL : Hid (Lib.itoa n = 45 :: (pre (u / 10) ++ [digit u])) := by show _ = _; rw [Lib.itoa, if_pos hn, hu, dec_step]
  have hb0 : 0 ≤ b := by omega
  have hb1 : b ≤ 9223372036854775808 := by omega
  obtain ⟨U, hU⟩ : ∃ U, pre (u / 10) ++ [digit u] = U := ⟨_, rfl⟩
  rw [hU] at hL
  have hU2 : U.length ≤ 21 := by have := Lib.itoa_length_le n h0 h1; rw [hL.out] at this; first | exact this | (simp at this; omega)
  replace hU := Lib.hid hU
  replace ha := Lib.hid ha
  replace hb := Lib.hid hb
  clear hu
  have hcv := conv1 w (digit u)
  go_enter Tryz.func23, Tryz.ntmps23
  go_wp2_with fail
  go_loopw [3, 4] (fun v s wr => ∃ (x : Nat) (c : Int) (l : List UInt8), v = .int .u64 c ∧ Hid (c = (x : Int)) ∧ s = .string (st l) ∧ Hid (pre x ++ l = U) ∧ 0 ≤ c ∧ c ≤ 9223372036854775808 ∧ Hid (Kp [] w wr)) (fun v _ _ => (intOf v).toNat)
  case atStart => exact ⟨u / 10, b, [digit u], rfl, hb, rfl, hU, hb0, hb1, (Kp.refl [] w).alloc _⟩
  case round =>
    obtain ⟨x, c, l, rfl, hc, rfl, hE, hc0, hc1, hk⟩ := hrel
    clear hd1 hd2 hcv
    have hl2 : l.length ≤ 21 := by have := congrArg List.length hE.out; simp at this; omega
    have hsz := st_size l
    by_cases hp : 0 < c
    · have hd1 : 48 + c % 10 = ((digit x).toNat : Int) := by have := wrap_dig x; rw [wrap_u64, Int.tmod_eq_emod_of_nonneg (by omega)] at this; rw [hc.out]; omega
      obtain ⟨d, hd⟩ : ∃ d : Int, d = ((x / 10 : Nat) : Int) := ⟨_, rfl⟩
      have hd2 : c / 10 = d := by rw [hc.out, hd]; omega
      have hcv := conv1 wr (digit x)
      have hE2 : Hid (pre (x / 10) ++ (digit x :: l) = U) := by
        show _ = _
        have hx : 0 < x := by have := hc.out; omega
        rw [← hE.out, pre_step x hx]; simp
      have hm : d.toNat < c.toNat := by have := hc.out; omega
      have hd0 : 0 ≤ d := by omega
      have hd9 : d ≤ 9223372036854775808 := by have := hc.out; omega
      replace hd := Lib.hid hd
      have hcat : Hid ((⟨#[digit x]⟩ : ByteArray) ++ st l = st (digit x :: l)) := st_app [digit x] l
      go_wp2_with fail
      go_roundw
      case rel => exact ⟨x / 10, d, digit x :: l, by rw [hd2], hd, by rw [hcat.out], hE2, hd0, hd9, hk.out.alloc _⟩
      case measure => simp only [intOf]; rw [hd2]; exact hm
    · have hx : Hid (l = U) := by
        show _ = _
        have h5 : x = 0 := by have := hc.out; omega
        rw [← hE.out, h5]; rfl
      go_wp2_with fail
      go_ret
      exact ⟨ret_str (by rw [hL.out, ← hx.out]; exact st_app [45] l), hk.out⟩
set_option maxRecDepth 100000 in
set_option maxHeartbeats 1000000 in
theorem digits_pos (n : Int) (h0 : -9223372036854775808 ≤ n) (h1 : n ≤ 9223372036854775807) (hn : ¬ n < 0) (w : World) :
    Calls Tryz.prog 23 #[.int .i64 n] w fun e w' => e = .returned (.string (st (Lib.itoa n))) ∧ Kp [] w w' := by
  obtain ⟨u, hu⟩ : ∃ u : Nat, n.natAbs = u := ⟨_, rfl⟩
  obtain ⟨a, ha⟩ : ∃ a : Int, a = (u : Int) := ⟨_, rfl⟩
  have hd1 : IntKind.u64.wrap (48 + a.tmod 10) % 256 = ((digit u).toNat : Int) := by rw [ha]; exact wrap_dig u
  obtain ⟨b, hb⟩ : ∃ b : Int, b = ((u / 10 : Nat) : Int) := ⟨_, rfl⟩
  have hd2 : a.tdiv 10 = b := by rw [ha, hb]; exact wrap_div u
  have hw : IntKind.u64.wrap n = a := by simp only [wrap_u64]; omega
  have hL : Hid (Lib.itoa n = (pre (u / 10) ++ [digit u])) := by show _ = _; rw [Lib.itoa, if_neg hn, show n.toNat = u by omega, dec_step]
  have hb0 : 0 ≤ b := by omega
  have hb1 : b ≤ 9223372036854775808 := by omega
  obtain ⟨U, hU⟩ : ∃ U, pre (u / 10) ++ [digit u] = U := ⟨_, rfl⟩
  rw [hU] at hL
  have hU2 : U.length ≤ 21 := by have := Lib.itoa_length_le n h0 h1; rw [hL.out] at this; first | exact this | (simp at this; omega)
  replace hU := Lib.hid hU
  replace ha := Lib.hid ha
  replace hb := Lib.hid hb
  clear hu
  have hcv := conv1 w (digit u)
  go_enter Tryz.func23, Tryz.ntmps23
  go_wp2_with fail
  go_loopw [3, 4] (fun v s wr => ∃ (x : Nat) (c : Int) (l : List UInt8), v = .int .u64 c ∧ Hid (c = (x : Int)) ∧ s = .string (st l) ∧ Hid (pre x ++ l = U) ∧ 0 ≤ c ∧ c ≤ 9223372036854775808 ∧ Hid (Kp [] w wr)) (fun v _ _ => (intOf v).toNat)
  case atStart => exact ⟨u / 10, b, [digit u], rfl, hb, rfl, hU, hb0, hb1, (Kp.refl [] w).alloc _⟩
  case round =>
    obtain ⟨x, c, l, rfl, hc, rfl, hE, hc0, hc1, hk⟩ := hrel
    clear hd1 hd2 hcv
    have hl2 : l.length ≤ 21 := by have := congrArg List.length hE.out; simp at this; omega
    have hsz := st_size l
    by_cases hp : 0 < c
    · have hd1 : 48 + c % 10 = ((digit x).toNat : Int) := by have := wrap_dig x; rw [wrap_u64, Int.tmod_eq_emod_of_nonneg (by omega)] at this; rw [hc.out]; omega
      obtain ⟨d, hd⟩ : ∃ d : Int, d = ((x / 10 : Nat) : Int) := ⟨_, rfl⟩
      have hd2 : c / 10 = d := by rw [hc.out, hd]; omega
      have hcv := conv1 wr (digit x)
      have hE2 : Hid (pre (x / 10) ++ (digit x :: l) = U) := by
        show _ = _
        have hx : 0 < x := by have := hc.out; omega
        rw [← hE.out, pre_step x hx]; simp
      have hm : d.toNat < c.toNat := by have := hc.out; omega
      have hd0 : 0 ≤ d := by omega
      have hd9 : d ≤ 9223372036854775808 := by have := hc.out; omega
      replace hd := Lib.hid hd
      have hcat : Hid ((⟨#[digit x]⟩ : ByteArray) ++ st l = st (digit x :: l)) := st_app [digit x] l
      go_wp2_with fail
      go_roundw
      case rel => exact ⟨x / 10, d, digit x :: l, by rw [hd2], hd, by rw [hcat.out], hE2, hd0, hd9, hk.out.alloc _⟩
      case measure => simp only [intOf]; rw [hd2]; exact hm
    · have hx : Hid (l = U) := by
        show _ = _
        have h5 : x = 0 := by have := hc.out; omega
        rw [← hE.out, h5]; rfl
      go_wp2_with fail
      go_ret
      exact ⟨ret_str (by rw [hL.out, ← hx.out]), hk.out⟩
theorem digits_c (n : Int) (h0 : -9223372036854775808 ≤ n) (h1 : n ≤ 9223372036854775807) (w : World) :
    Calls Tryz.prog 23 #[.int .i64 n] w fun e w' => e = .returned (.string (st (Lib.itoa n))) ∧ Kp [] w w' := by
  by_cases hn : n < 0
  · exact digits_neg n h0 h1 hn w
  · exact digits_pos n h0 h1 hn w
end Go.Proofs.YtebmaclopkocgaaGreatDoor
