import Derived.Test.YtebmaclopkocgaaGreatDoorPa7
import Derived.Test.YtebmaclopkocgaaGreatDoorPt9
import Derived.Test.YtebmaclopkocgaaGreatDoorPr8
set_option linter.unusedSimpArgs false
set_option linter.unusedVariables false
namespace Go.Proofs.YtebmaclopkocgaaGreatDoor
open Go.RowKit

set_option maxRecDepth 100000 in
theorem short_c (b : Nat) (w : World) (hb : Blk w b 41 zcs) :
    Calls Tryz.prog 12 #[.slice (some ⟨b, 0, none⟩) 2 2] w fun r w' => r = .returned (.tuple #[.string (st (([101, 120, 105, 116, 59] : List UInt8) ++ [32] ++ [114, 101, 116, 117, 114, 110, 59])), .int .i64 0]) ∧ Kp [] w w' := by
  have hn := Lib.hid (nodes_c b w hb)
  replace hb := Lib.hid hb
  go_enter Tryz.func12, Tryz.ntmps12
  go_wp2_with fail
  refine hn.out.mono ?_
  rintro r w2 ⟨rfl, hk2⟩
  have hl := Lib.hid (lines_c b w2 (hb.out.kp hk2 (by simp)))
  replace hk2 := Lib.hid hk2
  go_wp2_with fail
  refine hl.out.mono ?_
  rintro r w3 ⟨q, c, rfl, hk3, h0, h1⟩
  have hj := Lib.hid (joined2_c q c w3 h0 h1)
  have hK3 := Lib.hid (hk2.out.trans hk3)
  clear hk3 h0 h1
  go_wp2_with fail
  refine hj.out.mono ?_
  rintro r w4 ⟨rfl, hk4⟩
  go_wp2_with fail
  go_ret2
  exact ⟨rfl, hK3.out.trans hk4⟩

theorem itoa_500 : Lib.itoa 500 = [53, 48, 48] := by
  unfold Lib.itoa
  rw [if_neg (by decide)]
  show Lib.decDigits 500 = _
  rw [dec_step]
  show pre 50 ++ [digit 500] = _
  rw [pre, if_neg (by decide), dec_step]
  show pre 5 ++ [digit 50] ++ [digit 500] = _
  rw [pre, if_neg (by decide), Lib.decDigits_one (by decide)]
  decide
theorem itoa_m5 : Lib.itoa (-5) = [45, 53] := by
  unfold Lib.itoa
  rw [if_pos (by decide)]
  show 45 :: Lib.decDigits 5 = _
  rw [Lib.decDigits_one (by decide)]
  decide
def eC : Ex := .mk 1 3 500 ⟨#[]⟩ ⟨#[]⟩ []
def eX : Ex := .mk 2 0 0 ⟨#[120]⟩ ⟨#[]⟩ []
def eA : Ex := .mk 17 0 0 ⟨#[]⟩ ⟨#[]⟩ [eC, eX]
def eW : Ex := .mk 6 0 0 ⟨#[]⟩ ⟨#[]⟩ [eA]
theorem eW_well : wellB eW = true := by decide +kernel
theorem eW_txt : st eW.txt = ⟨#[110, 111, 116, 32, 40, 116, 35, 53, 48, 48, 32, 43, 32, 120, 41]⟩ := by
  have h : eW.txt = [110, 111, 116, 32] ++ par 17 8 (par 1 6 ([116, 35] ++ Lib.itoa 500) ++ [32] ++ [43] ++ [32] ++ par 2 7 [120]) := rfl
  rw [h, itoa_500]
  decide +kernel
theorem eW_fits : eW.fits := by
  have h0 : (⟨#[]⟩ : ByteArray).size ≤ 140737488355328 := by decide
  have h1 : (⟨#[120]⟩ : ByteArray).size ≤ 140737488355328 := by decide
  unfold eW eA eC eX
  simp only [Ex.fits, fitsL]
  exact ⟨⟨h0, h0⟩, ⟨⟨h0, h0⟩, ⟨⟨h0, h0⟩, trivial⟩, ⟨⟨h1, h0⟩, trivial⟩, trivial⟩, trivial⟩
theorem exsSl_of {W : World} {b : Nat} {T : TypeId} {es : List Ex} {L : List (List Value)} {cs : Array Value} {n : Nat} (h : Blk W b T cs) (hL : exsAt W es L) (hf : L.flatten = cs.toList) (hn : es.length = n) (hb : n ≤ 100) : exsSl W (.slice (some ⟨b, 0, none⟩) n n) es := by
  subst hn
  refine ⟨L, ⟨_, _, rfl, Nat.le_refl _, by omega, .inr ⟨b, 0, rfl, fun j u hj => ?_⟩⟩, hL⟩
  rw [Nat.zero_add]
  refine h.cell j ?_
  rw [hf] at hj
  simpa using hj

set_option maxRecDepth 100000 in
set_option maxHeartbeats 4000000 in
theorem awake_c (w : World) (hA : Amb w) (hT : TabI w) :
    Calls Tryz.prog 6 #[] w fun r w' => r = .returned (.bool true) ∧ Kp [] w w' := by
  obtain ⟨W1, hW1⟩ : ∃ W1, w.alloc (.cells #[.int .i64 1, .int .i64 3, .int .i64 500, .string ⟨#[]⟩, .string ⟨#[]⟩, .slice none 0 0] 24) = W1 := ⟨_, rfl⟩
  have hk1 : Kp [] w W1 := hW1 ▸ (Kp.refl [] w).alloc _
  have hz1 : W1.heap.size = w.heap.size + 1 := by rw [← hW1]; simp
  obtain ⟨W2, hW2⟩ : ∃ W2, W1.alloc (.cells #[.int .i64 1, .int .i64 3, .int .i64 500, .string ⟨#[]⟩, .string ⟨#[]⟩, .slice none 0 0, .int .i64 2, .int .i64 0, .int .i64 0, .string ⟨#[120]⟩, .string ⟨#[]⟩, .slice none 0 0] 24) = W2 := ⟨_, rfl⟩
  have hk2 : Kp [] W1 W2 := hW2 ▸ (Kp.refl [] W1).alloc _
  have hz2 : W2.heap.size = w.heap.size + 1 + 1 := by rw [← hW2]; simp [hz1]
  have hB2 : Blk W2 (w.heap.size + 1) 24 #[.int .i64 1, .int .i64 3, .int .i64 500, .string ⟨#[]⟩, .string ⟨#[]⟩, .slice none 0 0, .int .i64 2, .int .i64 0, .int .i64 0, .string ⟨#[120]⟩, .string ⟨#[]⟩, .slice none 0 0] := hW2 ▸ blk_new hz1.symm _ _
  obtain ⟨W3, hW3⟩ : ∃ W3, W2.alloc (.cells #[.int .i64 17, .int .i64 0, .int .i64 0, .string ⟨#[]⟩, .string ⟨#[]⟩, .slice (some ⟨w.heap.size + 1, 0, none⟩) 2 2] 24) = W3 := ⟨_, rfl⟩
  have hk3 : Kp [] W2 W3 := hW3 ▸ (Kp.refl [] W2).alloc _
  have hB3 : Blk W3 (w.heap.size + 1 + 1) 24 #[.int .i64 17, .int .i64 0, .int .i64 0, .string ⟨#[]⟩, .string ⟨#[]⟩, .slice (some ⟨w.heap.size + 1, 0, none⟩) 2 2] := hW3 ▸ blk_new hz2.symm _ _
  have hKW : Kp [] w W3 := (hk1.trans hk2).trans hk3
  have hv1 : exsSl W3 (.slice (some ⟨w.heap.size + 1, 0, none⟩) 2 2) [eC, eX] := exsSl_of (L := [exV eC (.slice none 0 0), exV eX (.slice none 0 0)]) (hB2.kp hk3 (by simp))
    (by rw [exsAt]; exact ⟨_, _, rfl, exAt_iff.2 ⟨_, rfl, exsSl.nil _⟩, by rw [exsAt]; exact ⟨_, _, rfl, exAt_iff.2 ⟨_, rfl, exsSl.nil _⟩, by rw [exsAt]⟩⟩) rfl rfl (by decide)
  have hv2 : exsSl W3 (.slice (some ⟨w.heap.size + 1 + 1, 0, none⟩) 1 1) [eA] := exsSl_of (L := [exV eA (.slice (some ⟨w.heap.size + 1, 0, none⟩) 2 2)]) hB3
    (by rw [exsAt]; exact ⟨_, _, rfl, exAt_iff.2 ⟨_, rfl, hv1⟩, by rw [exsAt]⟩) rfl rfl (by decide)
  have hp := pexpr_yes eW _ W3 hv2 (hA.kp0 hKW) (hT.kp hKW) eW_fits eW_well
  rw [eW_txt] at hp
  replace hp : Calls Tryz.prog 7 #[.agg #[.int .i64 6, .int .i64 0, .int .i64 0, .string ⟨#[]⟩, .string ⟨#[]⟩, .slice (some ⟨w.heap.size + 1 + 1, 0, none⟩) 1 1]] W3 _ := hp
  have hcn : Hid (∀ W, Kp [] w W → Calls Tryz.prog 10 #[.int .i64 2, .int .i64 (-5)] W fun e w' => e = .returned (.tuple #[.string ⟨#[45, 53]⟩, .int .i64 0]) ∧ Kp [] W w') := by
    intro W k
    refine (const_c 2 (-5) (by decide) (by decide) W (hT.kp k)).mono ?_
    rintro e w' ⟨rfl, hk⟩
    refine ⟨?_, hk⟩
    have h1 : isConB 2 (-5) = true := by decide
    have h2 : conT 2 (-5) = [45, 53] := by rw [conT, if_neg (by decide), if_pos rfl, itoa_m5]
    rw [h1, h2]; rfl
  replace hp := Lib.hid hp
  replace hKW := Lib.hid hKW
  replace hW1 := Lib.hid hW1
  replace hW2 := Lib.hid hW2
  replace hW3 := Lib.hid hW3
  clear hv1 hv2 hB2 hB3 hk1 hk2 hk3 hz1 hz2 hA hT
  go_enter Tryz.func6, Tryz.ntmps6
  go_wp2_with fail
  rw [hW1.out, hW2.out, hW3.out]
  refine hp.out.mono ?_
  rintro r w4 ⟨rfl, hk4⟩
  have hK4 := Lib.hid (hKW.out.trans hk4)
  clear hk4 hp
  go_wp2_with fail
  refine (hcn.out _ hK4.out).mono ?_
  rintro r w5 ⟨rfl, hk5⟩
  have hK5 := Lib.hid (hK4.out.trans hk5)
  clear hk5 hcn
  have hsh := Lib.hid (short_c w5.heap.size (w5.alloc (.cells zcs 41)) (Blk.new w5 _ _))
  unfold zcs at hsh
  have hK6 : Hid (Kp [] w (w5.alloc (.cells zcs 41))) := hK5.out.alloc _
  unfold zcs at hK6
  go_wp2_with fail
  refine hsh.out.mono ?_
  rintro r w7 ⟨rfl, hk7⟩
  have hK7 := Lib.hid (hK6.out.trans hk7)
  clear hk7 hsh hK6
  have hst : st (([101, 120, 105, 116, 59] : List UInt8) ++ [32] ++ [114, 101, 116, 117, 114, 110, 59]) = ⟨#[101, 120, 105, 116, 59, 32, 114, 101, 116, 117, 114, 110, 59]⟩ := by decide +kernel
  rw [hst]
  go_wp2_with fail
  go_ret
  exact ⟨rfl, hK7.out⟩
end Go.Proofs.YtebmaclopkocgaaGreatDoor
