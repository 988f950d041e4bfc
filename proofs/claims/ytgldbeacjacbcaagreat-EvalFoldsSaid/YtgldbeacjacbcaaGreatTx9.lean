import Derived.Test.YtgldbeacjacbcaaGreatTx8
import Derived.LoopN
set_option linter.unusedSimpArgs false
set_option linter.unusedVariables false
namespace Go.Proofs.YtgldbeacjacbcaaGreat
open Go.RowKit

theorem blk_cells {W : World} {b : Nat} {zs : List Int} (h : Blk W b 3 (zs.map (Value.int .i64)).toArray) (j : Nat) (hj : j < zs.length) : W.cell? ⟨b, 0 + j, none⟩ = some (.int .i64 (zs.getD j 0)) := by
  refine h.cell (0 + j) ?_
  simp [List.getD_eq_getElem?_getD, hj]
theorem oneOf_c (W : World) (b n c : Nat) (x : Int) (zs : List Int) (h : Blk W b 3 (zs.map (Value.int .i64)).toArray) (hn : zs.length = n) (hbig : n ≤ 100) :
    Calls Tryz.prog 83 #[.int .i64 x, .slice (some ⟨b, 0, none⟩) n c] W fun e w' => e = .returned (.bool (zs.contains x)) ∧ w' = W := by
  have hc := Tryz.slices_Contains_int b 0 n c zs x W (by omega) (by omega) (fun j hj => blk_cells h j hj)
  rw [show zs.take n = zs by rw [← hn, List.take_length]] at hc
  replace hc := Lib.hid hc
  obtain ⟨t, ht⟩ : ∃ t, zs.contains x = t := ⟨_, rfl⟩
  rw [ht] at hc ⊢
  clear ht h
  go_enter Tryz.func83, Tryz.ntmps83
  go_wp2_with fail
  refine hc.out.mono ?_
  rintro e w' ⟨rfl, rfl⟩
  go_wp2_with fail
  go_ret
  exact ⟨rfl, rfl⟩

theorem oneOf_g (W : World) (b n c : Nat) (x : Int) (zs : List Int) (h : Blk W b 3 (zs.map (Value.int .i64)).toArray) (hn : zs.length = n) (hbig : n ≤ 100) :
    Calls Tryz.prog 83 #[.int .i64 x, .slice (some ⟨b, 0, none⟩) n c] W fun e w' => e = .returned (.bool (zs.contains x)) ∧ Gr W w' :=
  (oneOf_c W b n c x zs h hn hbig).mono fun _ _ h => ⟨h.1, h.2 ▸ Gr.refl _⟩
end Go.Proofs.YtgldbeacjacbcaaGreat
