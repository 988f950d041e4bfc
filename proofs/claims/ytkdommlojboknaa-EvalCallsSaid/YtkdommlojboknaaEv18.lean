import Derived.Test.YtkdommlojboknaaEv17
namespace Go.Proofs.Ytkdommlojboknaa
open Go.RowKit

set_option maxRecDepth 100000 in
theorem rcall_abs_neg (b off n c : Nat) (x : Int) (w : World) (hn : Hid (n = 1)) (h0 : w.cell? ⟨b, off, none⟩ = some (.int .i64 x)) (hx : x < 0) (hx2 : -2147483648 ≤ x) :
    Calls Try.prog 22 #[.string ⟨#[97, 98, 115]⟩, .slice (some ⟨b, off, none⟩) n c] w fun e w' => e = .returned (.int .i64 (wrap32 (-x))) ∧ Gr w w' := by
  have hw : wrap64 (-x) = -x := IntWalk.wrap64_in _ (by omega)
  obtain rfl := hn.out
  go_enter Try.func22, Try.ntmps22
  go_wp2_with fail
  refine (rwrap_c _ _).mono ?_
  rintro e w' ⟨rfl, rfl⟩
  go_wp2_with fail
  go_ret
  exact ⟨rfl, Gr.refl _⟩
set_option maxRecDepth 100000 in
theorem rcall_abs_pos (b off n c : Nat) (x : Int) (w : World) (hn : Hid (n = 1)) (h0 : w.cell? ⟨b, off, none⟩ = some (.int .i64 x)) (hx : ¬ x < 0) :
    Calls Try.prog 22 #[.string ⟨#[97, 98, 115]⟩, .slice (some ⟨b, off, none⟩) n c] w fun e w' => e = .returned (.int .i64 (x)) ∧ Gr w w' := by
  obtain rfl := hn.out
  go_enter Try.func22, Try.ntmps22
  go_wp2
  go_ret
  exact ⟨rfl, Gr.refl _⟩
set_option maxRecDepth 100000 in
theorem rcall_min (b off n c : Nat) (x y : Int) (w : World) (hn : Hid (n = 2)) (h0 : w.cell? ⟨b, off, none⟩ = some (.int .i64 x)) (h1 : w.cell? ⟨b, off + 1, none⟩ = some (.int .i64 y))  :
    Calls Try.prog 22 #[.string ⟨#[109, 105, 110]⟩, .slice (some ⟨b, off, none⟩) n c] w fun e w' => e = .returned (.int .i64 (min x y)) ∧ Gr w w' := by
  obtain rfl := hn.out
  go_enter Try.func22, Try.ntmps22
  go_wp2
  go_region
  all_goals (go_wp2; go_ret; exact ⟨rfl, by repeat (first | exact Gr.refl _ | apply Gr.drew | apply Gr.drewN)⟩)
set_option maxRecDepth 100000 in
theorem rcall_max (b off n c : Nat) (x y : Int) (w : World) (hn : Hid (n = 2)) (h0 : w.cell? ⟨b, off, none⟩ = some (.int .i64 x)) (h1 : w.cell? ⟨b, off + 1, none⟩ = some (.int .i64 y))  :
    Calls Try.prog 22 #[.string ⟨#[109, 97, 120]⟩, .slice (some ⟨b, off, none⟩) n c] w fun e w' => e = .returned (.int .i64 (max x y)) ∧ Gr w w' := by
  obtain rfl := hn.out
  go_enter Try.func22, Try.ntmps22
  go_wp2
  go_region
  all_goals (go_wp2; go_ret; exact ⟨rfl, by repeat (first | exact Gr.refl _ | apply Gr.drew | apply Gr.drewN)⟩)
set_option maxRecDepth 100000 in
theorem rcall_limit (b off n c : Nat) (x y z : Int) (w : World) (hn : Hid (n = 3)) (h0 : w.cell? ⟨b, off, none⟩ = some (.int .i64 x)) (h1 : w.cell? ⟨b, off + 1, none⟩ = some (.int .i64 y)) (h2 : w.cell? ⟨b, off + 2, none⟩ = some (.int .i64 z))  :
    Calls Try.prog 22 #[.string ⟨#[108, 105, 109, 105, 116]⟩, .slice (some ⟨b, off, none⟩) n c] w fun e w' => e = .returned (.int .i64 (min (max x y) z)) ∧ Gr w w' := by
  obtain rfl := hn.out
  go_enter Try.func22, Try.ntmps22
  go_wp2
  go_region
  all_goals (go_wp2; go_ret; exact ⟨rfl, by repeat (first | exact Gr.refl _ | apply Gr.drew | apply Gr.drewN)⟩)
set_option maxRecDepth 100000 in
theorem rcall_sel_0 (b off n c : Nat) (y : Int) (w : World) (hn : Hid (n = 3)) (h0 : w.cell? ⟨b, off, none⟩ = some (.int .i64 0)) (h1 : w.cell? ⟨b, off + (1 + 0), none⟩ = some (.int .i64 y))  :
    Calls Try.prog 22 #[.string ⟨#[115, 101, 108]⟩, .slice (some ⟨b, off, none⟩) n c] w fun e w' => e = .returned (.int .i64 (y)) ∧ Gr w w' := by
  obtain rfl := hn.out
  go_enter Try.func22, Try.ntmps22
  go_wp2
  go_ret
  exact ⟨rfl, Gr.refl _⟩
set_option maxRecDepth 100000 in
theorem rcall_sel_1 (b off n c : Nat) (y : Int) (w : World) (hn : Hid (n = 3)) (h0 : w.cell? ⟨b, off, none⟩ = some (.int .i64 1)) (h1 : w.cell? ⟨b, off + (1 + 1), none⟩ = some (.int .i64 y))  :
    Calls Try.prog 22 #[.string ⟨#[115, 101, 108]⟩, .slice (some ⟨b, off, none⟩) n c] w fun e w' => e = .returned (.int .i64 (y)) ∧ Gr w w' := by
  obtain rfl := hn.out
  go_enter Try.func22, Try.ntmps22
  go_wp2
  go_ret
  exact ⟨rfl, Gr.refl _⟩
set_option maxRecDepth 100000 in
theorem rcall_tobool (b off n c : Nat) (x : Int) (w : World) (hn : Hid (n = 1)) (h0 : w.cell? ⟨b, off, none⟩ = some (.int .i64 x))  :
    Calls Try.prog 22 #[.string ⟨#[116, 111, 98, 111, 111, 108]⟩, .slice (some ⟨b, off, none⟩) n c] w fun e w' => e = .returned (.int .i64 (oneOf (x != 0))) ∧ Gr w w' := by
  obtain rfl := hn.out
  go_enter Try.func22, Try.ntmps22
  go_wp2_with fail
  refine (rtruth_c _ _).mono ?_
  rintro e w' ⟨rfl, rfl⟩
  go_wp2_with fail
  go_ret
  exact ⟨rfl, Gr.refl _⟩
set_option maxRecDepth 100000 in
theorem rcall_toint (b off n c : Nat) (x : Int) (w : World) (hn : Hid (n = 1)) (h0 : w.cell? ⟨b, off, none⟩ = some (.int .i64 x))  :
    Calls Try.prog 22 #[.string ⟨#[116, 111, 105, 110, 116]⟩, .slice (some ⟨b, off, none⟩) n c] w fun e w' => e = .returned (.int .i64 (x)) ∧ Gr w w' := by
  obtain rfl := hn.out
  go_enter Try.func22, Try.ntmps22
  go_wp2
  go_ret
  exact ⟨rfl, Gr.refl _⟩
set_option maxRecDepth 100000 in
theorem rcall_totime (b off n c : Nat) (x : Int) (w : World) (hn : Hid (n = 1)) (h0 : w.cell? ⟨b, off, none⟩ = some (.int .i64 x))  :
    Calls Try.prog 22 #[.string ⟨#[116, 111, 116, 105, 109, 101]⟩, .slice (some ⟨b, off, none⟩) n c] w fun e w' => e = .returned (.int .i64 (max x 0)) ∧ Gr w w' := by
  obtain rfl := hn.out
  go_enter Try.func22, Try.ntmps22
  go_wp2
  go_ret
  exact ⟨rfl, Gr.refl _⟩
theorem find_0 : Hid (∀ g, Instr.findNow .string (.string ⟨#[97, 98, 115]⟩) (fnE g).toList 0 = some (some (0, .agg #[.slice (some ⟨g + (0 + 1), 0, none⟩) 1 1, .int .i64 2, .func (.func 37) #[] #[]]))) := fun g => by kernel_rfl
theorem kinds_0 (w : World) : Calls Try.prog 17 #[.string ⟨#[97, 98, 115]⟩] w fun e w' => ∃ g, e = .returned (.tuple #[.slice (some ⟨g, 0, none⟩) 1 1, .int .i64 2, .int .i64 0]) ∧ Blk w' g 3 ((kindsL.getD 0 []).map (Value.int .i64)).toArray ∧ Gr w w' :=
  kinds_ok ⟨#[97, 98, 115]⟩ 0 1 37 2 w (by decide) find_0
theorem rkinds_blk_0 (w : World) : Calls Try.prog 19 #[.string ⟨#[97, 98, 115]⟩] w fun e w' => ∃ h, e = .returned (.tuple #[.slice (some ⟨h, 0, none⟩) 1 1, .int .i64 2, .bool true]) ∧ Blk w' h 3 ((kindsL.getD 0 []).map (Value.int .i64)).toArray ∧ Gr w w' :=
  (rkinds_0 w).mono fun _ _ h => ⟨w.heap.size, h.1, h.2 ▸ Blk.new w _ _, h.2 ▸ (Gr.refl w).cells _ _⟩
theorem no_len_0 (q : Option Addr) (n c : Nat) (w : World) (hn : n ≤ 10) (h : n ≠ 1) : CallsNo ⟨#[97, 98, 115]⟩ 1 2 (kindsL.getD 0 []) q n c w :=
  ⟨rfl, by decide, kinds_0, fun w' _ => call_len ⟨#[97, 98, 115]⟩ 0 1 37 2 q n c w' find_0 (by show ¬ _; omega) (by omega) (by decide), rkinds_blk_0,
    fun w' h' _ _ => right_len _ q n c 1 1 w' (by omega) (by omega) (by decide)⟩
theorem no_all_0 (b off c : Nat) (zs : List Int) (w : World) (hz : zs.length = 1) (hc : ∀ w', Gr w w' → ∀ j, j < zs.length → w'.cell? ⟨b, off + j, none⟩ = some (.int .i64 (zs.getD j 0))) (ha : allB (kindsL.getD 0 []) zs = false) : CallsNo ⟨#[97, 98, 115]⟩ 1 2 (kindsL.getD 0 []) (some ⟨b, off, none⟩) 1 c w :=
  ⟨rfl, by decide, kinds_0, fun w' hw => call_bad ⟨#[97, 98, 115]⟩ 0 1 37 2 b off 1 c zs w' (by decide) find_0 rfl (by show _ = _; rw [hz]; rfl) hz (by decide) (fun w2 h2 => hc w2 (hw.trans h2)) ha, rkinds_blk_0,
    fun w' g hw hB => (right_c g b off 1 c 1 (kindsL.getD 0 []) zs w' hz (by show _ = _; rw [hz]; rfl) (by decide) (fun j hj => blk_ints hB rfl w' (Gr.refl _) j hj) (hc w' hw)).mono fun e w2 k => ⟨by rw [k.1, ha], k.2⟩⟩
theorem yes_0 (b off c : Nat) (zs : List Int) (rv : Int) (w : World) (hz : zs.length = 1) (hc : ∀ w', Gr w w' → ∀ j, j < zs.length → w'.cell? ⟨b, off + j, none⟩ = some (.int .i64 (zs.getD j 0))) (ha : allB (kindsL.getD 0 []) zs = true)
    (hf : ∀ w', Gr w w' → Calls Try.prog 37 #[.slice (some ⟨b, off, none⟩) 1 c] w' fun e w'' => e = .returned (.int .i64 rv) ∧ Gr w' w'')
    (hr : ∀ w', Gr w w' → Calls Try.prog 22 #[.string ⟨#[97, 98, 115]⟩, .slice (some ⟨b, off, none⟩) 1 c] w' fun e w'' => e = .returned (.int .i64 (wrap32 rv)) ∧ Gr w' w'') :
    CallsYes ⟨#[97, 98, 115]⟩ 1 2 (wrap32 rv) (kindsL.getD 0 []) (some ⟨b, off, none⟩) 1 c w :=
  ⟨rfl, by decide, kinds_0, fun w' hw => call_ok ⟨#[97, 98, 115]⟩ 0 1 37 2 rv b off 1 c zs w' (by decide) enter_37 find_0 rfl (by show _ = _; rw [hz]; rfl) hz (by decide) (fun w2 h2 => hc w2 (hw.trans h2)) ha (fun w2 h2 => hf w2 (hw.trans h2)), rkinds_blk_0,
    fun w' g hw hB => (right_c g b off 1 c 1 (kindsL.getD 0 []) zs w' hz (by show _ = _; rw [hz]; rfl) (by decide) (fun j hj => blk_ints hB rfl w' (Gr.refl _) j hj) (hc w' hw)).mono fun e w2 k => ⟨by rw [k.1, ha], k.2⟩, hr⟩
theorem find_1 : Hid (∀ g, Instr.findNow .string (.string ⟨#[109, 105, 110]⟩) (fnE g).toList 0 = some (some (1, .agg #[.slice (some ⟨g + (1 + 1), 0, none⟩) 2 2, .int .i64 2, .func (.func 38) #[] #[]]))) := fun g => by kernel_rfl
theorem kinds_1 (w : World) : Calls Try.prog 17 #[.string ⟨#[109, 105, 110]⟩] w fun e w' => ∃ g, e = .returned (.tuple #[.slice (some ⟨g, 0, none⟩) 2 2, .int .i64 2, .int .i64 0]) ∧ Blk w' g 3 ((kindsL.getD 1 []).map (Value.int .i64)).toArray ∧ Gr w w' :=
  kinds_ok ⟨#[109, 105, 110]⟩ 1 2 38 2 w (by decide) find_1
theorem rkinds_blk_1 (w : World) : Calls Try.prog 19 #[.string ⟨#[109, 105, 110]⟩] w fun e w' => ∃ h, e = .returned (.tuple #[.slice (some ⟨h, 0, none⟩) 2 2, .int .i64 2, .bool true]) ∧ Blk w' h 3 ((kindsL.getD 1 []).map (Value.int .i64)).toArray ∧ Gr w w' :=
  (rkinds_1 w).mono fun _ _ h => ⟨w.heap.size, h.1, h.2 ▸ Blk.new w _ _, h.2 ▸ (Gr.refl w).cells _ _⟩
theorem no_len_1 (q : Option Addr) (n c : Nat) (w : World) (hn : n ≤ 10) (h : n ≠ 2) : CallsNo ⟨#[109, 105, 110]⟩ 2 2 (kindsL.getD 1 []) q n c w :=
  ⟨rfl, by decide, kinds_1, fun w' _ => call_len ⟨#[109, 105, 110]⟩ 1 2 38 2 q n c w' find_1 (by show ¬ _; omega) (by omega) (by decide), rkinds_blk_1,
    fun w' h' _ _ => right_len _ q n c 2 2 w' (by omega) (by omega) (by decide)⟩
theorem no_all_1 (b off c : Nat) (zs : List Int) (w : World) (hz : zs.length = 2) (hc : ∀ w', Gr w w' → ∀ j, j < zs.length → w'.cell? ⟨b, off + j, none⟩ = some (.int .i64 (zs.getD j 0))) (ha : allB (kindsL.getD 1 []) zs = false) : CallsNo ⟨#[109, 105, 110]⟩ 2 2 (kindsL.getD 1 []) (some ⟨b, off, none⟩) 2 c w :=
  ⟨rfl, by decide, kinds_1, fun w' hw => call_bad ⟨#[109, 105, 110]⟩ 1 2 38 2 b off 2 c zs w' (by decide) find_1 rfl (by show _ = _; rw [hz]; rfl) hz (by decide) (fun w2 h2 => hc w2 (hw.trans h2)) ha, rkinds_blk_1,
    fun w' g hw hB => (right_c g b off 2 c 2 (kindsL.getD 1 []) zs w' hz (by show _ = _; rw [hz]; rfl) (by decide) (fun j hj => blk_ints hB rfl w' (Gr.refl _) j hj) (hc w' hw)).mono fun e w2 k => ⟨by rw [k.1, ha], k.2⟩⟩
theorem yes_1 (b off c : Nat) (zs : List Int) (rv : Int) (w : World) (hz : zs.length = 2) (hc : ∀ w', Gr w w' → ∀ j, j < zs.length → w'.cell? ⟨b, off + j, none⟩ = some (.int .i64 (zs.getD j 0))) (ha : allB (kindsL.getD 1 []) zs = true)
    (hf : ∀ w', Gr w w' → Calls Try.prog 38 #[.slice (some ⟨b, off, none⟩) 2 c] w' fun e w'' => e = .returned (.int .i64 rv) ∧ Gr w' w'')
    (hr : ∀ w', Gr w w' → Calls Try.prog 22 #[.string ⟨#[109, 105, 110]⟩, .slice (some ⟨b, off, none⟩) 2 c] w' fun e w'' => e = .returned (.int .i64 (wrap32 rv)) ∧ Gr w' w'') :
    CallsYes ⟨#[109, 105, 110]⟩ 2 2 (wrap32 rv) (kindsL.getD 1 []) (some ⟨b, off, none⟩) 2 c w :=
  ⟨rfl, by decide, kinds_1, fun w' hw => call_ok ⟨#[109, 105, 110]⟩ 1 2 38 2 rv b off 2 c zs w' (by decide) enter_38 find_1 rfl (by show _ = _; rw [hz]; rfl) hz (by decide) (fun w2 h2 => hc w2 (hw.trans h2)) ha (fun w2 h2 => hf w2 (hw.trans h2)), rkinds_blk_1,
    fun w' g hw hB => (right_c g b off 2 c 2 (kindsL.getD 1 []) zs w' hz (by show _ = _; rw [hz]; rfl) (by decide) (fun j hj => blk_ints hB rfl w' (Gr.refl _) j hj) (hc w' hw)).mono fun e w2 k => ⟨by rw [k.1, ha], k.2⟩, hr⟩
theorem find_2 : Hid (∀ g, Instr.findNow .string (.string ⟨#[109, 97, 120]⟩) (fnE g).toList 0 = some (some (2, .agg #[.slice (some ⟨g + (2 + 1), 0, none⟩) 2 2, .int .i64 2, .func (.func 39) #[] #[]]))) := fun g => by kernel_rfl
theorem kinds_2 (w : World) : Calls Try.prog 17 #[.string ⟨#[109, 97, 120]⟩] w fun e w' => ∃ g, e = .returned (.tuple #[.slice (some ⟨g, 0, none⟩) 2 2, .int .i64 2, .int .i64 0]) ∧ Blk w' g 3 ((kindsL.getD 2 []).map (Value.int .i64)).toArray ∧ Gr w w' :=
  kinds_ok ⟨#[109, 97, 120]⟩ 2 2 39 2 w (by decide) find_2
theorem rkinds_blk_2 (w : World) : Calls Try.prog 19 #[.string ⟨#[109, 97, 120]⟩] w fun e w' => ∃ h, e = .returned (.tuple #[.slice (some ⟨h, 0, none⟩) 2 2, .int .i64 2, .bool true]) ∧ Blk w' h 3 ((kindsL.getD 2 []).map (Value.int .i64)).toArray ∧ Gr w w' :=
  (rkinds_2 w).mono fun _ _ h => ⟨w.heap.size, h.1, h.2 ▸ Blk.new w _ _, h.2 ▸ (Gr.refl w).cells _ _⟩
theorem no_len_2 (q : Option Addr) (n c : Nat) (w : World) (hn : n ≤ 10) (h : n ≠ 2) : CallsNo ⟨#[109, 97, 120]⟩ 2 2 (kindsL.getD 2 []) q n c w :=
  ⟨rfl, by decide, kinds_2, fun w' _ => call_len ⟨#[109, 97, 120]⟩ 2 2 39 2 q n c w' find_2 (by show ¬ _; omega) (by omega) (by decide), rkinds_blk_2,
    fun w' h' _ _ => right_len _ q n c 2 2 w' (by omega) (by omega) (by decide)⟩
theorem no_all_2 (b off c : Nat) (zs : List Int) (w : World) (hz : zs.length = 2) (hc : ∀ w', Gr w w' → ∀ j, j < zs.length → w'.cell? ⟨b, off + j, none⟩ = some (.int .i64 (zs.getD j 0))) (ha : allB (kindsL.getD 2 []) zs = false) : CallsNo ⟨#[109, 97, 120]⟩ 2 2 (kindsL.getD 2 []) (some ⟨b, off, none⟩) 2 c w :=
  ⟨rfl, by decide, kinds_2, fun w' hw => call_bad ⟨#[109, 97, 120]⟩ 2 2 39 2 b off 2 c zs w' (by decide) find_2 rfl (by show _ = _; rw [hz]; rfl) hz (by decide) (fun w2 h2 => hc w2 (hw.trans h2)) ha, rkinds_blk_2,
    fun w' g hw hB => (right_c g b off 2 c 2 (kindsL.getD 2 []) zs w' hz (by show _ = _; rw [hz]; rfl) (by decide) (fun j hj => blk_ints hB rfl w' (Gr.refl _) j hj) (hc w' hw)).mono fun e w2 k => ⟨by rw [k.1, ha], k.2⟩⟩
theorem yes_2 (b off c : Nat) (zs : List Int) (rv : Int) (w : World) (hz : zs.length = 2) (hc : ∀ w', Gr w w' → ∀ j, j < zs.length → w'.cell? ⟨b, off + j, none⟩ = some (.int .i64 (zs.getD j 0))) (ha : allB (kindsL.getD 2 []) zs = true)
    (hf : ∀ w', Gr w w' → Calls Try.prog 39 #[.slice (some ⟨b, off, none⟩) 2 c] w' fun e w'' => e = .returned (.int .i64 rv) ∧ Gr w' w'')
    (hr : ∀ w', Gr w w' → Calls Try.prog 22 #[.string ⟨#[109, 97, 120]⟩, .slice (some ⟨b, off, none⟩) 2 c] w' fun e w'' => e = .returned (.int .i64 (wrap32 rv)) ∧ Gr w' w'') :
    CallsYes ⟨#[109, 97, 120]⟩ 2 2 (wrap32 rv) (kindsL.getD 2 []) (some ⟨b, off, none⟩) 2 c w :=
  ⟨rfl, by decide, kinds_2, fun w' hw => call_ok ⟨#[109, 97, 120]⟩ 2 2 39 2 rv b off 2 c zs w' (by decide) enter_39 find_2 rfl (by show _ = _; rw [hz]; rfl) hz (by decide) (fun w2 h2 => hc w2 (hw.trans h2)) ha (fun w2 h2 => hf w2 (hw.trans h2)), rkinds_blk_2,
    fun w' g hw hB => (right_c g b off 2 c 2 (kindsL.getD 2 []) zs w' hz (by show _ = _; rw [hz]; rfl) (by decide) (fun j hj => blk_ints hB rfl w' (Gr.refl _) j hj) (hc w' hw)).mono fun e w2 k => ⟨by rw [k.1, ha], k.2⟩, hr⟩
theorem find_3 : Hid (∀ g, Instr.findNow .string (.string ⟨#[108, 105, 109, 105, 116]⟩) (fnE g).toList 0 = some (some (3, .agg #[.slice (some ⟨g + (3 + 1), 0, none⟩) 3 3, .int .i64 2, .func (.func 40) #[] #[]]))) := fun g => by kernel_rfl
theorem kinds_3 (w : World) : Calls Try.prog 17 #[.string ⟨#[108, 105, 109, 105, 116]⟩] w fun e w' => ∃ g, e = .returned (.tuple #[.slice (some ⟨g, 0, none⟩) 3 3, .int .i64 2, .int .i64 0]) ∧ Blk w' g 3 ((kindsL.getD 3 []).map (Value.int .i64)).toArray ∧ Gr w w' :=
  kinds_ok ⟨#[108, 105, 109, 105, 116]⟩ 3 3 40 2 w (by decide) find_3
theorem rkinds_blk_3 (w : World) : Calls Try.prog 19 #[.string ⟨#[108, 105, 109, 105, 116]⟩] w fun e w' => ∃ h, e = .returned (.tuple #[.slice (some ⟨h, 0, none⟩) 3 3, .int .i64 2, .bool true]) ∧ Blk w' h 3 ((kindsL.getD 3 []).map (Value.int .i64)).toArray ∧ Gr w w' :=
  (rkinds_3 w).mono fun _ _ h => ⟨w.heap.size, h.1, h.2 ▸ Blk.new w _ _, h.2 ▸ (Gr.refl w).cells _ _⟩
theorem no_len_3 (q : Option Addr) (n c : Nat) (w : World) (hn : n ≤ 10) (h : n ≠ 3) : CallsNo ⟨#[108, 105, 109, 105, 116]⟩ 3 2 (kindsL.getD 3 []) q n c w :=
  ⟨rfl, by decide, kinds_3, fun w' _ => call_len ⟨#[108, 105, 109, 105, 116]⟩ 3 3 40 2 q n c w' find_3 (by show ¬ _; omega) (by omega) (by decide), rkinds_blk_3,
    fun w' h' _ _ => right_len _ q n c 3 3 w' (by omega) (by omega) (by decide)⟩
theorem no_all_3 (b off c : Nat) (zs : List Int) (w : World) (hz : zs.length = 3) (hc : ∀ w', Gr w w' → ∀ j, j < zs.length → w'.cell? ⟨b, off + j, none⟩ = some (.int .i64 (zs.getD j 0))) (ha : allB (kindsL.getD 3 []) zs = false) : CallsNo ⟨#[108, 105, 109, 105, 116]⟩ 3 2 (kindsL.getD 3 []) (some ⟨b, off, none⟩) 3 c w :=
  ⟨rfl, by decide, kinds_3, fun w' hw => call_bad ⟨#[108, 105, 109, 105, 116]⟩ 3 3 40 2 b off 3 c zs w' (by decide) find_3 rfl (by show _ = _; rw [hz]; rfl) hz (by decide) (fun w2 h2 => hc w2 (hw.trans h2)) ha, rkinds_blk_3,
    fun w' g hw hB => (right_c g b off 3 c 3 (kindsL.getD 3 []) zs w' hz (by show _ = _; rw [hz]; rfl) (by decide) (fun j hj => blk_ints hB rfl w' (Gr.refl _) j hj) (hc w' hw)).mono fun e w2 k => ⟨by rw [k.1, ha], k.2⟩⟩
theorem yes_3 (b off c : Nat) (zs : List Int) (rv : Int) (w : World) (hz : zs.length = 3) (hc : ∀ w', Gr w w' → ∀ j, j < zs.length → w'.cell? ⟨b, off + j, none⟩ = some (.int .i64 (zs.getD j 0))) (ha : allB (kindsL.getD 3 []) zs = true)
    (hf : ∀ w', Gr w w' → Calls Try.prog 40 #[.slice (some ⟨b, off, none⟩) 3 c] w' fun e w'' => e = .returned (.int .i64 rv) ∧ Gr w' w'')
    (hr : ∀ w', Gr w w' → Calls Try.prog 22 #[.string ⟨#[108, 105, 109, 105, 116]⟩, .slice (some ⟨b, off, none⟩) 3 c] w' fun e w'' => e = .returned (.int .i64 (wrap32 rv)) ∧ Gr w' w'') :
    CallsYes ⟨#[108, 105, 109, 105, 116]⟩ 3 2 (wrap32 rv) (kindsL.getD 3 []) (some ⟨b, off, none⟩) 3 c w :=
  ⟨rfl, by decide, kinds_3, fun w' hw => call_ok ⟨#[108, 105, 109, 105, 116]⟩ 3 3 40 2 rv b off 3 c zs w' (by decide) enter_40 find_3 rfl (by show _ = _; rw [hz]; rfl) hz (by decide) (fun w2 h2 => hc w2 (hw.trans h2)) ha (fun w2 h2 => hf w2 (hw.trans h2)), rkinds_blk_3,
    fun w' g hw hB => (right_c g b off 3 c 3 (kindsL.getD 3 []) zs w' hz (by show _ = _; rw [hz]; rfl) (by decide) (fun j hj => blk_ints hB rfl w' (Gr.refl _) j hj) (hc w' hw)).mono fun e w2 k => ⟨by rw [k.1, ha], k.2⟩, hr⟩
theorem find_4 : Hid (∀ g, Instr.findNow .string (.string ⟨#[115, 101, 108]⟩) (fnE g).toList 0 = some (some (4, .agg #[.slice (some ⟨g + (4 + 1), 0, none⟩) 3 3, .int .i64 2, .func (.func 41) #[] #[]]))) := fun g => by kernel_rfl
theorem kinds_4 (w : World) : Calls Try.prog 17 #[.string ⟨#[115, 101, 108]⟩] w fun e w' => ∃ g, e = .returned (.tuple #[.slice (some ⟨g, 0, none⟩) 3 3, .int .i64 2, .int .i64 0]) ∧ Blk w' g 3 ((kindsL.getD 4 []).map (Value.int .i64)).toArray ∧ Gr w w' :=
  kinds_ok ⟨#[115, 101, 108]⟩ 4 3 41 2 w (by decide) find_4
theorem rkinds_blk_4 (w : World) : Calls Try.prog 19 #[.string ⟨#[115, 101, 108]⟩] w fun e w' => ∃ h, e = .returned (.tuple #[.slice (some ⟨h, 0, none⟩) 3 3, .int .i64 2, .bool true]) ∧ Blk w' h 3 ((kindsL.getD 4 []).map (Value.int .i64)).toArray ∧ Gr w w' :=
  (rkinds_4 w).mono fun _ _ h => ⟨w.heap.size, h.1, h.2 ▸ Blk.new w _ _, h.2 ▸ (Gr.refl w).cells _ _⟩
theorem no_len_4 (q : Option Addr) (n c : Nat) (w : World) (hn : n ≤ 10) (h : n ≠ 3) : CallsNo ⟨#[115, 101, 108]⟩ 3 2 (kindsL.getD 4 []) q n c w :=
  ⟨rfl, by decide, kinds_4, fun w' _ => call_len ⟨#[115, 101, 108]⟩ 4 3 41 2 q n c w' find_4 (by show ¬ _; omega) (by omega) (by decide), rkinds_blk_4,
    fun w' h' _ _ => right_len _ q n c 3 3 w' (by omega) (by omega) (by decide)⟩
theorem no_all_4 (b off c : Nat) (zs : List Int) (w : World) (hz : zs.length = 3) (hc : ∀ w', Gr w w' → ∀ j, j < zs.length → w'.cell? ⟨b, off + j, none⟩ = some (.int .i64 (zs.getD j 0))) (ha : allB (kindsL.getD 4 []) zs = false) : CallsNo ⟨#[115, 101, 108]⟩ 3 2 (kindsL.getD 4 []) (some ⟨b, off, none⟩) 3 c w :=
  ⟨rfl, by decide, kinds_4, fun w' hw => call_bad ⟨#[115, 101, 108]⟩ 4 3 41 2 b off 3 c zs w' (by decide) find_4 rfl (by show _ = _; rw [hz]; rfl) hz (by decide) (fun w2 h2 => hc w2 (hw.trans h2)) ha, rkinds_blk_4,
    fun w' g hw hB => (right_c g b off 3 c 3 (kindsL.getD 4 []) zs w' hz (by show _ = _; rw [hz]; rfl) (by decide) (fun j hj => blk_ints hB rfl w' (Gr.refl _) j hj) (hc w' hw)).mono fun e w2 k => ⟨by rw [k.1, ha], k.2⟩⟩
theorem yes_4 (b off c : Nat) (zs : List Int) (rv : Int) (w : World) (hz : zs.length = 3) (hc : ∀ w', Gr w w' → ∀ j, j < zs.length → w'.cell? ⟨b, off + j, none⟩ = some (.int .i64 (zs.getD j 0))) (ha : allB (kindsL.getD 4 []) zs = true)
    (hf : ∀ w', Gr w w' → Calls Try.prog 41 #[.slice (some ⟨b, off, none⟩) 3 c] w' fun e w'' => e = .returned (.int .i64 rv) ∧ Gr w' w'')
    (hr : ∀ w', Gr w w' → Calls Try.prog 22 #[.string ⟨#[115, 101, 108]⟩, .slice (some ⟨b, off, none⟩) 3 c] w' fun e w'' => e = .returned (.int .i64 (wrap32 rv)) ∧ Gr w' w'') :
    CallsYes ⟨#[115, 101, 108]⟩ 3 2 (wrap32 rv) (kindsL.getD 4 []) (some ⟨b, off, none⟩) 3 c w :=
  ⟨rfl, by decide, kinds_4, fun w' hw => call_ok ⟨#[115, 101, 108]⟩ 4 3 41 2 rv b off 3 c zs w' (by decide) enter_41 find_4 rfl (by show _ = _; rw [hz]; rfl) hz (by decide) (fun w2 h2 => hc w2 (hw.trans h2)) ha (fun w2 h2 => hf w2 (hw.trans h2)), rkinds_blk_4,
    fun w' g hw hB => (right_c g b off 3 c 3 (kindsL.getD 4 []) zs w' hz (by show _ = _; rw [hz]; rfl) (by decide) (fun j hj => blk_ints hB rfl w' (Gr.refl _) j hj) (hc w' hw)).mono fun e w2 k => ⟨by rw [k.1, ha], k.2⟩, hr⟩
theorem find_5 : Hid (∀ g, Instr.findNow .string (.string ⟨#[116, 111, 98, 111, 111, 108]⟩) (fnE g).toList 0 = some (some (5, .agg #[.slice (some ⟨g + (5 + 1), 0, none⟩) 1 1, .int .i64 1, .func (.func 42) #[] #[]]))) := fun g => by kernel_rfl
theorem kinds_5 (w : World) : Calls Try.prog 17 #[.string ⟨#[116, 111, 98, 111, 111, 108]⟩] w fun e w' => ∃ g, e = .returned (.tuple #[.slice (some ⟨g, 0, none⟩) 1 1, .int .i64 1, .int .i64 0]) ∧ Blk w' g 3 ((kindsL.getD 5 []).map (Value.int .i64)).toArray ∧ Gr w w' :=
  kinds_ok ⟨#[116, 111, 98, 111, 111, 108]⟩ 5 1 42 1 w (by decide) find_5
theorem rkinds_blk_5 (w : World) : Calls Try.prog 19 #[.string ⟨#[116, 111, 98, 111, 111, 108]⟩] w fun e w' => ∃ h, e = .returned (.tuple #[.slice (some ⟨h, 0, none⟩) 1 1, .int .i64 1, .bool true]) ∧ Blk w' h 3 ((kindsL.getD 5 []).map (Value.int .i64)).toArray ∧ Gr w w' :=
  (rkinds_5 w).mono fun _ _ h => ⟨w.heap.size, h.1, h.2 ▸ Blk.new w _ _, h.2 ▸ (Gr.refl w).cells _ _⟩
theorem no_len_5 (q : Option Addr) (n c : Nat) (w : World) (hn : n ≤ 10) (h : n ≠ 1) : CallsNo ⟨#[116, 111, 98, 111, 111, 108]⟩ 1 1 (kindsL.getD 5 []) q n c w :=
  ⟨rfl, by decide, kinds_5, fun w' _ => call_len ⟨#[116, 111, 98, 111, 111, 108]⟩ 5 1 42 1 q n c w' find_5 (by show ¬ _; omega) (by omega) (by decide), rkinds_blk_5,
    fun w' h' _ _ => right_len _ q n c 1 1 w' (by omega) (by omega) (by decide)⟩
theorem no_all_5 (b off c : Nat) (zs : List Int) (w : World) (hz : zs.length = 1) (hc : ∀ w', Gr w w' → ∀ j, j < zs.length → w'.cell? ⟨b, off + j, none⟩ = some (.int .i64 (zs.getD j 0))) (ha : allB (kindsL.getD 5 []) zs = false) : CallsNo ⟨#[116, 111, 98, 111, 111, 108]⟩ 1 1 (kindsL.getD 5 []) (some ⟨b, off, none⟩) 1 c w :=
  ⟨rfl, by decide, kinds_5, fun w' hw => call_bad ⟨#[116, 111, 98, 111, 111, 108]⟩ 5 1 42 1 b off 1 c zs w' (by decide) find_5 rfl (by show _ = _; rw [hz]; rfl) hz (by decide) (fun w2 h2 => hc w2 (hw.trans h2)) ha, rkinds_blk_5,
    fun w' g hw hB => (right_c g b off 1 c 1 (kindsL.getD 5 []) zs w' hz (by show _ = _; rw [hz]; rfl) (by decide) (fun j hj => blk_ints hB rfl w' (Gr.refl _) j hj) (hc w' hw)).mono fun e w2 k => ⟨by rw [k.1, ha], k.2⟩⟩
theorem yes_5 (b off c : Nat) (zs : List Int) (rv : Int) (w : World) (hz : zs.length = 1) (hc : ∀ w', Gr w w' → ∀ j, j < zs.length → w'.cell? ⟨b, off + j, none⟩ = some (.int .i64 (zs.getD j 0))) (ha : allB (kindsL.getD 5 []) zs = true)
    (hf : ∀ w', Gr w w' → Calls Try.prog 42 #[.slice (some ⟨b, off, none⟩) 1 c] w' fun e w'' => e = .returned (.int .i64 rv) ∧ Gr w' w'')
    (hr : ∀ w', Gr w w' → Calls Try.prog 22 #[.string ⟨#[116, 111, 98, 111, 111, 108]⟩, .slice (some ⟨b, off, none⟩) 1 c] w' fun e w'' => e = .returned (.int .i64 (wrap32 rv)) ∧ Gr w' w'') :
    CallsYes ⟨#[116, 111, 98, 111, 111, 108]⟩ 1 1 (wrap32 rv) (kindsL.getD 5 []) (some ⟨b, off, none⟩) 1 c w :=
  ⟨rfl, by decide, kinds_5, fun w' hw => call_ok ⟨#[116, 111, 98, 111, 111, 108]⟩ 5 1 42 1 rv b off 1 c zs w' (by decide) enter_42 find_5 rfl (by show _ = _; rw [hz]; rfl) hz (by decide) (fun w2 h2 => hc w2 (hw.trans h2)) ha (fun w2 h2 => hf w2 (hw.trans h2)), rkinds_blk_5,
    fun w' g hw hB => (right_c g b off 1 c 1 (kindsL.getD 5 []) zs w' hz (by show _ = _; rw [hz]; rfl) (by decide) (fun j hj => blk_ints hB rfl w' (Gr.refl _) j hj) (hc w' hw)).mono fun e w2 k => ⟨by rw [k.1, ha], k.2⟩, hr⟩
theorem find_6 : Hid (∀ g, Instr.findNow .string (.string ⟨#[116, 111, 105, 110, 116]⟩) (fnE g).toList 0 = some (some (6, .agg #[.slice (some ⟨g + (6 + 1), 0, none⟩) 1 1, .int .i64 2, .func (.func 44) #[] #[]]))) := fun g => by kernel_rfl
theorem kinds_6 (w : World) : Calls Try.prog 17 #[.string ⟨#[116, 111, 105, 110, 116]⟩] w fun e w' => ∃ g, e = .returned (.tuple #[.slice (some ⟨g, 0, none⟩) 1 1, .int .i64 2, .int .i64 0]) ∧ Blk w' g 3 ((kindsL.getD 6 []).map (Value.int .i64)).toArray ∧ Gr w w' :=
  kinds_ok ⟨#[116, 111, 105, 110, 116]⟩ 6 1 44 2 w (by decide) find_6
theorem rkinds_blk_6 (w : World) : Calls Try.prog 19 #[.string ⟨#[116, 111, 105, 110, 116]⟩] w fun e w' => ∃ h, e = .returned (.tuple #[.slice (some ⟨h, 0, none⟩) 1 1, .int .i64 2, .bool true]) ∧ Blk w' h 3 ((kindsL.getD 6 []).map (Value.int .i64)).toArray ∧ Gr w w' :=
  (rkinds_6 w).mono fun _ _ h => ⟨w.heap.size, h.1, h.2 ▸ Blk.new w _ _, h.2 ▸ (Gr.refl w).cells _ _⟩
theorem no_len_6 (q : Option Addr) (n c : Nat) (w : World) (hn : n ≤ 10) (h : n ≠ 1) : CallsNo ⟨#[116, 111, 105, 110, 116]⟩ 1 2 (kindsL.getD 6 []) q n c w :=
  ⟨rfl, by decide, kinds_6, fun w' _ => call_len ⟨#[116, 111, 105, 110, 116]⟩ 6 1 44 2 q n c w' find_6 (by show ¬ _; omega) (by omega) (by decide), rkinds_blk_6,
    fun w' h' _ _ => right_len _ q n c 1 1 w' (by omega) (by omega) (by decide)⟩
theorem no_all_6 (b off c : Nat) (zs : List Int) (w : World) (hz : zs.length = 1) (hc : ∀ w', Gr w w' → ∀ j, j < zs.length → w'.cell? ⟨b, off + j, none⟩ = some (.int .i64 (zs.getD j 0))) (ha : allB (kindsL.getD 6 []) zs = false) : CallsNo ⟨#[116, 111, 105, 110, 116]⟩ 1 2 (kindsL.getD 6 []) (some ⟨b, off, none⟩) 1 c w :=
  ⟨rfl, by decide, kinds_6, fun w' hw => call_bad ⟨#[116, 111, 105, 110, 116]⟩ 6 1 44 2 b off 1 c zs w' (by decide) find_6 rfl (by show _ = _; rw [hz]; rfl) hz (by decide) (fun w2 h2 => hc w2 (hw.trans h2)) ha, rkinds_blk_6,
    fun w' g hw hB => (right_c g b off 1 c 1 (kindsL.getD 6 []) zs w' hz (by show _ = _; rw [hz]; rfl) (by decide) (fun j hj => blk_ints hB rfl w' (Gr.refl _) j hj) (hc w' hw)).mono fun e w2 k => ⟨by rw [k.1, ha], k.2⟩⟩
theorem yes_6 (b off c : Nat) (zs : List Int) (rv : Int) (w : World) (hz : zs.length = 1) (hc : ∀ w', Gr w w' → ∀ j, j < zs.length → w'.cell? ⟨b, off + j, none⟩ = some (.int .i64 (zs.getD j 0))) (ha : allB (kindsL.getD 6 []) zs = true)
    (hf : ∀ w', Gr w w' → Calls Try.prog 44 #[.slice (some ⟨b, off, none⟩) 1 c] w' fun e w'' => e = .returned (.int .i64 rv) ∧ Gr w' w'')
    (hr : ∀ w', Gr w w' → Calls Try.prog 22 #[.string ⟨#[116, 111, 105, 110, 116]⟩, .slice (some ⟨b, off, none⟩) 1 c] w' fun e w'' => e = .returned (.int .i64 (wrap32 rv)) ∧ Gr w' w'') :
    CallsYes ⟨#[116, 111, 105, 110, 116]⟩ 1 2 (wrap32 rv) (kindsL.getD 6 []) (some ⟨b, off, none⟩) 1 c w :=
  ⟨rfl, by decide, kinds_6, fun w' hw => call_ok ⟨#[116, 111, 105, 110, 116]⟩ 6 1 44 2 rv b off 1 c zs w' (by decide) enter_44 find_6 rfl (by show _ = _; rw [hz]; rfl) hz (by decide) (fun w2 h2 => hc w2 (hw.trans h2)) ha (fun w2 h2 => hf w2 (hw.trans h2)), rkinds_blk_6,
    fun w' g hw hB => (right_c g b off 1 c 1 (kindsL.getD 6 []) zs w' hz (by show _ = _; rw [hz]; rfl) (by decide) (fun j hj => blk_ints hB rfl w' (Gr.refl _) j hj) (hc w' hw)).mono fun e w2 k => ⟨by rw [k.1, ha], k.2⟩, hr⟩
theorem find_7 : Hid (∀ g, Instr.findNow .string (.string ⟨#[116, 111, 116, 105, 109, 101]⟩) (fnE g).toList 0 = some (some (7, .agg #[.slice (some ⟨g + (7 + 1), 0, none⟩) 1 1, .int .i64 3, .func (.func 45) #[] #[]]))) := fun g => by kernel_rfl
theorem kinds_7 (w : World) : Calls Try.prog 17 #[.string ⟨#[116, 111, 116, 105, 109, 101]⟩] w fun e w' => ∃ g, e = .returned (.tuple #[.slice (some ⟨g, 0, none⟩) 1 1, .int .i64 3, .int .i64 0]) ∧ Blk w' g 3 ((kindsL.getD 7 []).map (Value.int .i64)).toArray ∧ Gr w w' :=
  kinds_ok ⟨#[116, 111, 116, 105, 109, 101]⟩ 7 1 45 3 w (by decide) find_7
theorem rkinds_blk_7 (w : World) : Calls Try.prog 19 #[.string ⟨#[116, 111, 116, 105, 109, 101]⟩] w fun e w' => ∃ h, e = .returned (.tuple #[.slice (some ⟨h, 0, none⟩) 1 1, .int .i64 3, .bool true]) ∧ Blk w' h 3 ((kindsL.getD 7 []).map (Value.int .i64)).toArray ∧ Gr w w' :=
  (rkinds_7 w).mono fun _ _ h => ⟨w.heap.size, h.1, h.2 ▸ Blk.new w _ _, h.2 ▸ (Gr.refl w).cells _ _⟩
theorem no_len_7 (q : Option Addr) (n c : Nat) (w : World) (hn : n ≤ 10) (h : n ≠ 1) : CallsNo ⟨#[116, 111, 116, 105, 109, 101]⟩ 1 3 (kindsL.getD 7 []) q n c w :=
  ⟨rfl, by decide, kinds_7, fun w' _ => call_len ⟨#[116, 111, 116, 105, 109, 101]⟩ 7 1 45 3 q n c w' find_7 (by show ¬ _; omega) (by omega) (by decide), rkinds_blk_7,
    fun w' h' _ _ => right_len _ q n c 1 1 w' (by omega) (by omega) (by decide)⟩
theorem no_all_7 (b off c : Nat) (zs : List Int) (w : World) (hz : zs.length = 1) (hc : ∀ w', Gr w w' → ∀ j, j < zs.length → w'.cell? ⟨b, off + j, none⟩ = some (.int .i64 (zs.getD j 0))) (ha : allB (kindsL.getD 7 []) zs = false) : CallsNo ⟨#[116, 111, 116, 105, 109, 101]⟩ 1 3 (kindsL.getD 7 []) (some ⟨b, off, none⟩) 1 c w :=
  ⟨rfl, by decide, kinds_7, fun w' hw => call_bad ⟨#[116, 111, 116, 105, 109, 101]⟩ 7 1 45 3 b off 1 c zs w' (by decide) find_7 rfl (by show _ = _; rw [hz]; rfl) hz (by decide) (fun w2 h2 => hc w2 (hw.trans h2)) ha, rkinds_blk_7,
    fun w' g hw hB => (right_c g b off 1 c 1 (kindsL.getD 7 []) zs w' hz (by show _ = _; rw [hz]; rfl) (by decide) (fun j hj => blk_ints hB rfl w' (Gr.refl _) j hj) (hc w' hw)).mono fun e w2 k => ⟨by rw [k.1, ha], k.2⟩⟩
theorem yes_7 (b off c : Nat) (zs : List Int) (rv : Int) (w : World) (hz : zs.length = 1) (hc : ∀ w', Gr w w' → ∀ j, j < zs.length → w'.cell? ⟨b, off + j, none⟩ = some (.int .i64 (zs.getD j 0))) (ha : allB (kindsL.getD 7 []) zs = true)
    (hf : ∀ w', Gr w w' → Calls Try.prog 45 #[.slice (some ⟨b, off, none⟩) 1 c] w' fun e w'' => e = .returned (.int .i64 rv) ∧ Gr w' w'')
    (hr : ∀ w', Gr w w' → Calls Try.prog 22 #[.string ⟨#[116, 111, 116, 105, 109, 101]⟩, .slice (some ⟨b, off, none⟩) 1 c] w' fun e w'' => e = .returned (.int .i64 (wrap32 rv)) ∧ Gr w' w'') :
    CallsYes ⟨#[116, 111, 116, 105, 109, 101]⟩ 1 3 (wrap32 rv) (kindsL.getD 7 []) (some ⟨b, off, none⟩) 1 c w :=
  ⟨rfl, by decide, kinds_7, fun w' hw => call_ok ⟨#[116, 111, 116, 105, 109, 101]⟩ 7 1 45 3 rv b off 1 c zs w' (by decide) enter_45 find_7 rfl (by show _ = _; rw [hz]; rfl) hz (by decide) (fun w2 h2 => hc w2 (hw.trans h2)) ha (fun w2 h2 => hf w2 (hw.trans h2)), rkinds_blk_7,
    fun w' g hw hB => (right_c g b off 1 c 1 (kindsL.getD 7 []) zs w' hz (by show _ = _; rw [hz]; rfl) (by decide) (fun j hj => blk_ints hB rfl w' (Gr.refl _) j hj) (hc w' hw)).mono fun e w2 k => ⟨by rw [k.1, ha], k.2⟩, hr⟩
end Go.Proofs.Ytkdommlojboknaa
