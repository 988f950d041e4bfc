import Derived.Test.YtebmaclopkocgaaGreatDoorPa6
import Derived.Laws.OwnMore
import Derived.OwnWalk
set_option linter.unusedSimpArgs false
set_option linter.unusedVariables false
namespace Go.Proofs.YtebmaclopkocgaaGreatDoor
open Go.RowKit

set_option maxRecDepth 100000 in
set_option maxHeartbeats 4000000 in
theorem lines_c (b : Nat) (w : World) (hb : Blk w b 41 zcs) :
    Calls Tryz.prog 28 #[.slice (some ⟨b, 0, none⟩) 2 2] w fun r w' => ∃ q c, r = .returned (.slice (some ⟨q, 0, none⟩) 2 c) ∧ Kp [] w w' ∧ w'.cell? ⟨q, 0, none⟩ = some (.string ⟨#[101, 120, 105, 116, 59]⟩) ∧ w'.cell? ⟨q, 1, none⟩ = some (.string ⟨#[114, 101, 116, 117, 114, 110, 59]⟩) := by
  have hmf : ∀ (fn : Fn) (first cap : Array Value) (w : World), (Instr.makeFunc fn first cap).run Tryz.prog w = .ok (.func fn first cap) w := fun _ _ _ _ => rfl
  have hk0 : Kp [] w (w.alloc (.cells #[.slice none 0 0] 37)) := (Kp.refl [] w).alloc _
  have hL0 : Hid (Lns w.heap.size w.heap.size (.slice none 0 0) 0 [] (w.alloc (.cells #[.slice none 0 0] 37))) := ⟨Blk.new w _ _, World.ownsRow_nil _ _ _ _, by simp [Value.ownBlock], Nat.le_refl _⟩
  replace hb := Lib.hid hb
  replace hk0 := Lib.hid hk0
  go_enter Tryz.func28, Tryz.ntmps28
  go_wp2_with fail
  refine (newExprs_c _).mono ?_
  rintro r w2 ⟨g, rfl, _, hk2⟩
  have hK2 := Lib.hid (hk0.out.trans hk2)
  have hL2 := Lib.hid (hL0.out.kp hk2)
  clear hk2
  have hKb : Hid (Kp [] w (w2.alloc (.cells #[.map (some g), .func (.func 44) #[] #[.pointer (some ⟨w.heap.size, 0, none⟩)]] 99))) := hK2.out.alloc _
  have hc := Lib.hid (psts_c w.heap.size w.heap.size g b (.slice none 0 0) (w2.alloc (.cells #[.map (some g), .func (.func 44) #[] #[.pointer (some ⟨w.heap.size, 0, none⟩)]] 99)) (hL2.out.kp ((Kp.refl [] w2).alloc _)) (hb.out.kp hKb.out (by simp)))
  unfold prV at hc
  go_wp2_with fail
  refine hc.out.mono ?_
  rintro r w3 ⟨rfl, ⟨v3, hL3⟩, hb3, _⟩
  have hK3 := Lib.hid (hKb.out.below_trans hb3)
  obtain ⟨q, c, rfl⟩ := ownsRow_succ hL3.row
  have c0 := hL3.blk.cell 0 (v := .slice (some ⟨q, 0, none⟩) (1 + 1) c) rfl
  have e0 := hL3.row.cellAt 0 (by decide)
  have e1 := hL3.row.cellAt 1 (by decide)
  have hT : Hid (w3.cell? ⟨q, 0, none⟩ = some (.string ⟨#[101, 120, 105, 116, 59]⟩) ∧ w3.cell? ⟨q, 1, none⟩ = some (.string ⟨#[114, 101, 116, 117, 114, 110, 59]⟩)) := ⟨e0, e1⟩
  clear e0 e1 hL3 hb3
  go_wp2_with fail
  go_ret
  exact ⟨q, c, rfl, hK3.out, hT.out⟩

set_option maxRecDepth 100000 in
set_option maxHeartbeats 4000000 in
theorem joined2_c (q c : Nat) (w : World) (h0 : w.cell? ⟨q, 0, none⟩ = some (.string ⟨#[101, 120, 105, 116, 59]⟩)) (h1 : w.cell? ⟨q, 1, none⟩ = some (.string ⟨#[114, 101, 116, 117, 114, 110, 59]⟩)) :
    Calls Tryz.prog 27 #[.slice (some ⟨q, 0, none⟩) 2 c, .string ⟨#[32]⟩, .func (.func 25) #[] #[]] w (StrRes (([101, 120, 105, 116, 59] : List UInt8) ++ [32] ++ ([114, 101, 116, 117, 114, 110, 59] : List UInt8)) w) := by
  have hb0 := Lib.hid (bld_new w)
  have hs0 := Lib.hid (fun W => short1_c ⟨#[101, 120, 105, 116, 59]⟩ (by decide +kernel) W)
  have hs1 := Lib.hid (fun W => short1_c ⟨#[114, 101, 116, 117, 114, 110, 59]⟩ (by decide +kernel) W)
  have hall : Hid (∀ W, Kp [] w W → W.cell? ⟨q, 0, none⟩ = some (.string ⟨#[101, 120, 105, 116, 59]⟩) ∧ W.cell? ⟨q, 1, none⟩ = some (.string ⟨#[114, 101, 116, 117, 114, 110, 59]⟩)) := fun W k => ⟨k.cell h0 (by simp), k.cell h1 (by simp)⟩
  clear h0 h1
  go_enter Tryz.func27, Tryz.ntmps27
  go_wp2
  go_loopw [12] (fun i wr => ∃ (k : Nat) (acc : List UInt8), k ≤ 2 ∧ i = .int .i64 k ∧ Hid (Bld w.heap.size w.heap.size acc wr) ∧ Hid (Kp [] w wr) ∧ Hid (acc = if k = 0 then [] else if k = 1 then ([101, 120, 105, 116, 59] : List UInt8) else ([101, 120, 105, 116, 59] : List UInt8) ++ [32] ++ ([114, 101, 116, 117, 114, 110, 59] : List UInt8))) (fun i _ => 2 - (intOf i).toNat)
  case atStart => exact ⟨0, [], by omega, rfl, hb0, (Kp.refl [] w).alloc _, rfl⟩
  case round =>
    obtain ⟨k, acc, hk, rfl, hB, hK, hE⟩ := hrel
    obtain ⟨c0, c1⟩ := hall.out _ hK.out
    rcases (show k = 0 ∨ k = 1 ∨ k = 2 by omega) with rfl | rfl | rfl
    · obtain rfl : acc = [] := hE.out
      clear hE
      go_wp2_with fail
      refine (hs0.out _).mono ?_
      rintro r w2 ⟨rfl, hk2⟩
      have hB2 := hB.out.kp hk2
      have hK2 := hK.out.trans hk2
      clear c0 c1
      go_wp2_with fail
      refine (wstr_c w.heap.size w.heap.size [] ⟨#[101, 120, 105, 116, 59]⟩ _ hB2 (by decide) hK2.size).mono ?_
      rintro r w3 ⟨rfl, hB3, hb3, ho3⟩
      have hK3 := Lib.hid (hK2.below_trans hb3)
      replace hB3 : Hid (Bld w.heap.size w.heap.size ([101, 120, 105, 116, 59] : List UInt8) w3) := hB3
      clear hb3 ho3 hK2 hB2
      go_wp2_with fail
      go_roundw
      case rel => exact ⟨1, ([101, 120, 105, 116, 59] : List UInt8), by omega, by go_num, hB3, hK3, rfl⟩
      case measure => simp [intOf]
    · obtain rfl : acc = ([101, 120, 105, 116, 59] : List UInt8) := hE.out
      clear hE
      go_wp2_with fail
      refine (wstr_c w.heap.size w.heap.size ([101, 120, 105, 116, 59] : List UInt8) ⟨#[32]⟩ _ hB.out (by decide) hK.out.size).mono ?_
      rintro r w2 ⟨rfl, hB2, hb2, ho2⟩
      have hK2 := Lib.hid (hK.out.below_trans hb2)
      replace hB2 : Hid (Bld w.heap.size w.heap.size (([101, 120, 105, 116, 59] : List UInt8) ++ [32]) w2) := hB2
      clear hb2 ho2 c0 c1
      go_wp2_with fail
      refine (hs1.out _).mono ?_
      rintro r w3 ⟨rfl, hk3⟩
      have hB3 := hB2.out.kp hk3
      have hK3 := hK2.out.trans hk3
      go_wp2_with fail
      refine (wstr_c w.heap.size w.heap.size (([101, 120, 105, 116, 59] : List UInt8) ++ [32]) ⟨#[114, 101, 116, 117, 114, 110, 59]⟩ _ hB3 (by decide) hK3.size).mono ?_
      rintro r w4 ⟨rfl, hB4, hb4, ho4⟩
      have hK4 := Lib.hid (hK3.below_trans hb4)
      replace hB4 : Hid (Bld w.heap.size w.heap.size (([101, 120, 105, 116, 59] : List UInt8) ++ [32] ++ ([114, 101, 116, 117, 114, 110, 59] : List UInt8)) w4) := hB4
      clear hb4 ho4 hK3 hB3
      go_wp2_with fail
      go_roundw
      case rel => exact ⟨2, ([101, 120, 105, 116, 59] : List UInt8) ++ [32] ++ ([114, 101, 116, 117, 114, 110, 59] : List UInt8), by omega, by go_num, hB4, hK4, rfl⟩
      case measure => simp [intOf]
    · obtain rfl : acc = ([101, 120, 105, 116, 59] : List UInt8) ++ [32] ++ ([114, 101, 116, 117, 114, 110, 59] : List UInt8) := hE.out
      clear hE c0 c1
      go_wp2_with fail
      refine (bstr_c w.heap.size w.heap.size _ _ hB.out hK.out.size).mono ?_
      rintro r w3 ⟨rfl, hb3⟩
      have hK3 := Lib.hid (hK.out.below_trans hb3)
      go_wp2_with fail
      go_ret
      exact ⟨rfl, hK3.out⟩

set_option maxRecDepth 100000 in
theorem nodes_c (b : Nat) (w : World) (hb : Blk w b 41 zcs) :
    Calls Tryz.prog 24 #[.slice (some ⟨b, 0, none⟩) 2 2] w fun r w' => r = .returned (.int .i64 0) ∧ Kp [] w w' := by
  have hmf : ∀ (fn : Fn) (first cap : Array Value) (w : World), (Instr.makeFunc fn first cap).run Tryz.prog w = .ok (.func fn first cap) w := fun _ _ _ _ => rfl
  have hst : Hid (∀ (g : Nat) (W : World), Blk W b 41 zcs → Mt2 W g 0 0 → b ≠ g → Calls Tryz.prog 55 #[.pointer (some ⟨g, 0, none⟩), .slice (some ⟨b, 0, none⟩) 2 2, .int .i64 1] W fun r w' => r = .returned (.bool true) ∧ Kp [g] W w' ∧ ∃ dp, Mt2 w' g 2 dp) := by
    intro g W h1 h2 h3
    have hc := Lib.hid (all2_c W g b h1 h2 h3)
    clear h1 h2 h3 hb
    go_enter Tryz.func55, Tryz.ntmps55
    go_wp2_with fail
    refine hc.out.mono ?_
    rintro r w2 ⟨rfl, h4⟩
    replace h4 := Lib.hid h4
    go_wp2_with fail
    go_ret
    exact ⟨rfl, h4.out⟩
  have hM : Hid (∀ (W : World) (n d : Int) (g : Nat), Mt2 W g n d → Calls Tryz.prog 56 #[.pointer (some ⟨g, 0, none⟩)] W fun r w' => r = .returned (.int .i64 n) ∧ W = w') := by
    intro W n d g h
    have c0 := Blk.cell h 0 (v := .int .i64 n) rfl
    clear h hb
    go_enter Tryz.func56, Tryz.ntmps56
    go_wp2_with fail
    go_ret
    exact ⟨rfl, rfl⟩
  have hD : Hid (∀ (W : World) (n d : Int) (g : Nat), Mt2 W g n d → Calls Tryz.prog 57 #[.pointer (some ⟨g, 0, none⟩)] W fun r w' => r = .returned (.int .i64 d) ∧ W = w') := by
    intro W n d g h
    have c0 := Blk.cell h 1 (v := .int .i64 d) rfl
    clear h hb
    go_enter Tryz.func57, Tryz.ntmps57
    go_wp2_with fail
    go_ret
    exact ⟨rfl, rfl⟩
  have hN : Hid (∀ W, Blk W b 41 zcs → Calls Tryz.prog 37 #[.slice (some ⟨b, 0, none⟩) 2 2] W fun r w' => ∃ n d : Int, r = .returned (.tuple #[.int .i64 n, .int .i64 d, .int .i64 0]) ∧ Kp [] W w') := by
    intro W h
    have hlt := h.lt
    have hk : Kp [] W (W.alloc (.cells #[.int .i64 0, .int .i64 0] 108)) := (Kp.refl [] W).alloc _
    have hMt : Hid (Mt2 (W.alloc (.cells #[.int .i64 0, .int .i64 0] 108)) W.heap.size 0 0) := Blk.new W _ _
    have hs := Lib.hid (hst.out W.heap.size _ (h.kp hk (by simp)) hMt.out (by omega))
    replace hk := Lib.hid hk
    clear h hst hb
    go_enter Tryz.func37, Tryz.ntmps37
    go_wp2_with fail
    refine hs.out.mono ?_
    rintro r w2 ⟨rfl, hk2, dp, hM2⟩
    have hK2 : Hid (Kp [] W w2) := hk.out.trans' hk2 (fun i hi hl => by simp at hi; omega)
    have hn := Lib.hid (hM.out w2 2 dp _ hM2)
    have hd := Lib.hid (hD.out w2 2 dp _ hM2)
    clear hk2 hM2
    go_wp2_with (first | (go_at_call 56; refine hn.out.mono ?_; rintro r w3 ⟨rfl, rfl⟩) | (go_at_call 57; refine hd.out.mono ?_; rintro r w3 ⟨rfl, rfl⟩))
    refine bodyPost_ret (results_tmp3 rfl _ _ _) rfl ?_
    exact ⟨2, dp, rfl, hK2.out⟩
  have hNw := Lib.hid (hN.out w hb)
  clear hb hst hM hD hN
  go_enter Tryz.func24, Tryz.ntmps24
  go_wp2_with fail
  refine hNw.out.mono ?_
  rintro r w2 ⟨n, d, rfl, hk⟩
  go_wp2_with fail
  go_ret
  exact ⟨rfl, hk⟩
end Go.Proofs.YtebmaclopkocgaaGreatDoor
