import Derived.Test.YtgldbeacjacbcaaGreatEv8
import Derived.RegionTactic
namespace Go.Proofs.YtgldbeacjacbcaaGreat
open Go.RowKit

set_option maxRecDepth 100000 in
theorem fnmin_c (b off n c : Nat) (x y : Int) (w : World) (hn : Hid (n = 2)) (h0 : w.cell? ⟨b, off, none⟩ = some (.int .i64 x)) (h1 : w.cell? ⟨b, off + 1, none⟩ = some (.int .i64 y)) :
    Calls Tryz.prog 45 #[.slice (some ⟨b, off, none⟩) n c] w fun e w' => e = .returned (.int .i64 (min x y)) ∧ Gr w w' := by
  obtain rfl := hn.out
  go_enter Tryz.func45, Tryz.ntmps45
  go_wp2
  go_region
  all_goals (go_wp2; go_ret; exact ⟨rfl, by repeat (first | exact Gr.refl _ | apply Gr.drew | apply Gr.drewN)⟩)
set_option maxRecDepth 100000 in
theorem fnmax_c (b off n c : Nat) (x y : Int) (w : World) (hn : Hid (n = 2)) (h0 : w.cell? ⟨b, off, none⟩ = some (.int .i64 x)) (h1 : w.cell? ⟨b, off + 1, none⟩ = some (.int .i64 y)) :
    Calls Tryz.prog 46 #[.slice (some ⟨b, off, none⟩) n c] w fun e w' => e = .returned (.int .i64 (max x y)) ∧ Gr w w' := by
  obtain rfl := hn.out
  go_enter Tryz.func46, Tryz.ntmps46
  go_wp2
  go_region
  all_goals (go_wp2; go_ret; exact ⟨rfl, by repeat (first | exact Gr.refl _ | apply Gr.drew | apply Gr.drewN)⟩)
set_option maxRecDepth 100000 in
theorem fnabs_c (b off n c : Nat) (x : Int) (w : World) (hn : Hid (n = 1)) (hx : valB x = true) (h0 : w.cell? ⟨b, off, none⟩ = some (.int .i64 x)) :
    Calls Tryz.prog 44 #[.slice (some ⟨b, off, none⟩) n c] w fun e w' => e = .returned (.int .i64 (max x (-x))) ∧ Gr w w' := by
  obtain rfl := hn.out
  obtain ⟨hx1, hx2⟩ := val_bd hx
  clear hx
  have hw : wrap64 (-x) = -x := IntWalk.wrap64_in _ (by omega)
  go_enter Tryz.func44, Tryz.ntmps44
  go_wp2
  go_region
  all_goals (go_wp2; go_ret; exact ⟨rfl, by repeat (first | exact Gr.refl _ | apply Gr.drew | apply Gr.drewN)⟩)
set_option maxRecDepth 100000 in
theorem fnlimit_c (b off n c : Nat) (x y z : Int) (w : World) (hn : Hid (n = 3)) (h0 : w.cell? ⟨b, off, none⟩ = some (.int .i64 x)) (h1 : w.cell? ⟨b, off + 1, none⟩ = some (.int .i64 y)) (h2 : w.cell? ⟨b, off + 2, none⟩ = some (.int .i64 z)) :
    Calls Tryz.prog 47 #[.slice (some ⟨b, off, none⟩) n c] w fun e w' => e = .returned (.int .i64 (min (max x y) z)) ∧ Gr w w' := by
  obtain rfl := hn.out
  go_enter Tryz.func47, Tryz.ntmps47
  go_wp2
  go_region
  all_goals (go_wp2; go_ret; exact ⟨rfl, by repeat (first | exact Gr.refl _ | apply Gr.drew | apply Gr.drewN)⟩)
set_option maxRecDepth 100000 in
theorem fnsel_t0 (b off n c : Nat) (y : Int) (w : World) (hn : Hid (n = 3)) (h0 : w.cell? ⟨b, off, none⟩ = some (.int .i64 0)) (h1 : w.cell? ⟨b, off + (1 + 0), none⟩ = some (.int .i64 y)) :
    Calls Tryz.prog 48 #[.slice (some ⟨b, off, none⟩) n c] w fun e w' => e = .returned (.int .i64 y) ∧ Gr w w' := by
  obtain rfl := hn.out
  go_enter Tryz.func48, Tryz.ntmps48
  go_wp2
  go_ret
  exact ⟨rfl, Gr.refl _⟩
set_option maxRecDepth 100000 in
theorem fnsel_t1 (b off n c : Nat) (y : Int) (w : World) (hn : Hid (n = 3)) (h0 : w.cell? ⟨b, off, none⟩ = some (.int .i64 1)) (h1 : w.cell? ⟨b, off + (1 + 1), none⟩ = some (.int .i64 y)) :
    Calls Tryz.prog 48 #[.slice (some ⟨b, off, none⟩) n c] w fun e w' => e = .returned (.int .i64 y) ∧ Gr w w' := by
  obtain rfl := hn.out
  go_enter Tryz.func48, Tryz.ntmps48
  go_wp2
  go_ret
  exact ⟨rfl, Gr.refl _⟩
set_option maxRecDepth 100000 in
theorem fntobool_c (b off n c : Nat) (x : Int) (w : World) (hn : Hid (n = 1)) (h0 : w.cell? ⟨b, off, none⟩ = some (.int .i64 x)) :
    Calls Tryz.prog 49 #[.slice (some ⟨b, off, none⟩) n c] w fun e w' => e = .returned (.int .i64 (oneOf (x != 0))) ∧ Gr w w' := by
  obtain rfl := hn.out
  go_enter Tryz.func49, Tryz.ntmps49
  go_wp2_with fail
  refine (truth_c _ _).mono ?_
  rintro e w' ⟨rfl, rfl⟩
  go_wp2_with fail
  go_ret
  exact ⟨rfl, Gr.refl _⟩
set_option maxRecDepth 100000 in
theorem fntoint_c (b off n c : Nat) (x : Int) (w : World) (hn : Hid (n = 1)) (h0 : w.cell? ⟨b, off, none⟩ = some (.int .i64 x)) :
    Calls Tryz.prog 51 #[.slice (some ⟨b, off, none⟩) n c] w fun e w' => e = .returned (.int .i64 x) ∧ Gr w w' := by
  obtain rfl := hn.out
  go_enter Tryz.func51, Tryz.ntmps51
  go_wp2
  go_ret
  exact ⟨rfl, Gr.refl _⟩
set_option maxRecDepth 100000 in
theorem fntotime_c (b off n c : Nat) (x : Int) (w : World) (hn : Hid (n = 1)) (h0 : w.cell? ⟨b, off, none⟩ = some (.int .i64 x)) :
    Calls Tryz.prog 52 #[.slice (some ⟨b, off, none⟩) n c] w fun e w' => e = .returned (.int .i64 (max x 0)) ∧ Gr w w' := by
  obtain rfl := hn.out
  go_enter Tryz.func52, Tryz.ntmps52
  go_wp2
  go_ret
  exact ⟨rfl, Gr.refl _⟩
end Go.Proofs.YtgldbeacjacbcaaGreat
