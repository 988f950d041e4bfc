import Derived.Test.YtgldbeacjacbcaaGreatEv5
namespace Go.Proofs.YtgldbeacjacbcaaGreat
open Go.RowKit

theorem bit_cases {n : Int} (h : bitB n = true) : n = 0 ∨ n = 1 := by simpa [bitB] using h
set_option maxRecDepth 100000 in
theorem or_c (v x : Int) (w : World) (hv : bitB v = true) (hx : bitB x = true) :
    Calls Tryz.prog 62 #[.int .i64 v, .int .i64 x] w fun e w' => e = .returned (.tuple #[.int .i64 (max v x), .int .i64 0]) ∧ w' = w := by
  rcases bit_cases hv with rfl | rfl <;> rcases bit_cases hx with rfl | rfl
  all_goals
    clear hv hx
    go_enter Tryz.func62, Tryz.ntmps62
    go_wp2_with fail
    go_ret2
    exact ⟨by kernel_rfl, rfl⟩
set_option maxRecDepth 100000 in
theorem xor_c (v x : Int) (w : World) (hv : bitB v = true) (hx : bitB x = true) :
    Calls Tryz.prog 63 #[.int .i64 v, .int .i64 x] w fun e w' => e = .returned (.tuple #[.int .i64 ((v + x) % 2), .int .i64 0]) ∧ w' = w := by
  rcases bit_cases hv with rfl | rfl <;> rcases bit_cases hx with rfl | rfl
  all_goals
    clear hv hx
    go_enter Tryz.func63, Tryz.ntmps63
    go_wp2_with fail
    go_ret2
    exact ⟨by kernel_rfl, rfl⟩
set_option maxRecDepth 100000 in
theorem and_c (v x : Int) (w : World) (hv : bitB v = true) (hx : bitB x = true) :
    Calls Tryz.prog 64 #[.int .i64 v, .int .i64 x] w fun e w' => e = .returned (.tuple #[.int .i64 (min v x), .int .i64 0]) ∧ w' = w := by
  rcases bit_cases hv with rfl | rfl <;> rcases bit_cases hx with rfl | rfl
  all_goals
    clear hv hx
    go_enter Tryz.func64, Tryz.ntmps64
    go_wp2_with fail
    go_ret2
    exact ⟨by kernel_rfl, rfl⟩
set_option maxRecDepth 100000 in
theorem quo1_c (v x : Int) (w : World) (p q : Addr) (hp : w.cell? p = some (.int .i64 v)) (hq : w.cell? q = some (.int .i64 x)) (hx : ¬ x = 0) :
    Calls Tryz.prog 77 #[.pointer (some p), .pointer (some q)] w fun e w' => e = .returned (.int .i64 (wrap64 (v.tdiv x))) ∧ w' = w := by
  go_enter Tryz.func77, Tryz.ntmps77
  go_wp2_with fail
  go_ret
  exact ⟨rfl, rfl⟩
set_option maxRecDepth 100000 in
theorem quo2_c (v x : Int) (w : World) (p q : Addr) (hp : w.cell? p = some (.int .i64 v)) (hq : w.cell? q = some (.int .i64 x)) (hx : ¬ x = 0) :
    Calls Tryz.prog 76 #[.int .i64 x, .func (.func 77) #[] #[.pointer (some p), .pointer (some q)]] w fun e w' => e = .returned (.tuple #[.int .i64 (wrap64 (v.tdiv x)), .int .i64 0]) ∧ w' = w := by
  go_enter Tryz.func76, Tryz.ntmps76
  go_wp2_with fail
  refine (quo1_c v x _ p q hp hq hx).mono ?_
  rintro e w' ⟨rfl, rfl⟩
  go_wp2_with fail
  go_ret2
  exact ⟨rfl, rfl⟩
set_option maxRecDepth 100000 in
theorem quo_c (v x : Int) (w : World) (hx : ¬ x = 0) :
    Calls Tryz.prog 75 #[.int .i64 v, .int .i64 x] w fun e w' => e = .returned (.tuple #[.int .i64 (wrap64 (v.tdiv x)), .int .i64 0]) ∧ Gr w w' := by
  have hmf : ∀ (fn : Fn) (first cap : Array Value) (w : World), (Instr.makeFunc fn first cap).run Tryz.prog w = .ok (.func fn first cap) w := fun _ _ _ _ => rfl
  have hp := Blk.cell (Blk.new w 3 #[.int .i64 v]) 0 (v := .int .i64 v) rfl
  have hp2 := Blk.cell ((Blk.new w 3 #[.int .i64 v]).alloc (.cells #[.int .i64 x] 3)) 0 (v := .int .i64 v) rfl
  have hq2 := Blk.cell (Blk.new (w.alloc (.cells #[.int .i64 v] 3)) 3 #[.int .i64 x]) 0 (v := .int .i64 x) rfl
  rw [World.size_alloc] at hq2
  go_enter Tryz.func75, Tryz.ntmps75
  go_wp2_with fail
  refine (quo2_c v x _ ⟨w.heap.size, 0, none⟩ ⟨w.heap.size + 1, 0, none⟩ hp2 hq2 hx).mono ?_
  rintro e w' ⟨rfl, rfl⟩
  go_wp2_with fail
  go_ret2
  exact ⟨rfl, ((Gr.refl _).cells _ _).cells _ _⟩
set_option maxRecDepth 100000 in
theorem quo0_c (v : Int) (w : World) :
    Calls Tryz.prog 75 #[.int .i64 v, .int .i64 0] w fun e w' => e = .returned (.tuple #[.int .i64 0, .int .i64 1]) ∧ Gr w w' := by
  have hmf : ∀ (fn : Fn) (first cap : Array Value) (w : World), (Instr.makeFunc fn first cap).run Tryz.prog w = .ok (.func fn first cap) w := fun _ _ _ _ => rfl
  have hq2 := Blk.cell (Blk.new (w.alloc (.cells #[.int .i64 v] 3)) 3 #[.int .i64 0]) 0 (v := .int .i64 0) rfl
  rw [World.size_alloc] at hq2
  have hd : ∀ (w : World) (f : Value), Calls Tryz.prog 76 #[.int .i64 0, f] w fun e w' => e = .returned (.tuple #[.int .i64 0, .int .i64 1]) ∧ w' = w := by
    intro w f
    go_enter Tryz.func76, Tryz.ntmps76
    go_wp2_with fail
    go_ret2
    exact ⟨rfl, rfl⟩
  go_enter Tryz.func75, Tryz.ntmps75
  go_wp2_with fail
  refine (hd _ _).mono ?_
  rintro e w' ⟨rfl, rfl⟩
  go_wp2_with fail
  go_ret2
  exact ⟨rfl, ((Gr.refl _).cells _ _).cells _ _⟩
set_option maxRecDepth 100000 in
theorem rem1_c (v x : Int) (w : World) (p q : Addr) (hp : w.cell? p = some (.int .i64 v)) (hq : w.cell? q = some (.int .i64 x)) (hx : ¬ x = 0) :
    Calls Tryz.prog 79 #[.pointer (some p), .pointer (some q)] w fun e w' => e = .returned (.int .i64 (v.tmod x)) ∧ w' = w := by
  go_enter Tryz.func79, Tryz.ntmps79
  go_wp2_with fail
  go_ret
  exact ⟨rfl, rfl⟩
set_option maxRecDepth 100000 in
theorem rem2_c (v x : Int) (w : World) (p q : Addr) (hp : w.cell? p = some (.int .i64 v)) (hq : w.cell? q = some (.int .i64 x)) (hx : ¬ x = 0) :
    Calls Tryz.prog 76 #[.int .i64 x, .func (.func 79) #[] #[.pointer (some p), .pointer (some q)]] w fun e w' => e = .returned (.tuple #[.int .i64 (v.tmod x), .int .i64 0]) ∧ w' = w := by
  go_enter Tryz.func76, Tryz.ntmps76
  go_wp2_with fail
  refine (rem1_c v x _ p q hp hq hx).mono ?_
  rintro e w' ⟨rfl, rfl⟩
  go_wp2_with fail
  go_ret2
  exact ⟨rfl, rfl⟩
set_option maxRecDepth 100000 in
theorem rem_c (v x : Int) (w : World) (hx : ¬ x = 0) :
    Calls Tryz.prog 78 #[.int .i64 v, .int .i64 x] w fun e w' => e = .returned (.tuple #[.int .i64 (v.tmod x), .int .i64 0]) ∧ Gr w w' := by
  have hmf : ∀ (fn : Fn) (first cap : Array Value) (w : World), (Instr.makeFunc fn first cap).run Tryz.prog w = .ok (.func fn first cap) w := fun _ _ _ _ => rfl
  have hp := Blk.cell (Blk.new w 3 #[.int .i64 v]) 0 (v := .int .i64 v) rfl
  have hp2 := Blk.cell ((Blk.new w 3 #[.int .i64 v]).alloc (.cells #[.int .i64 x] 3)) 0 (v := .int .i64 v) rfl
  have hq2 := Blk.cell (Blk.new (w.alloc (.cells #[.int .i64 v] 3)) 3 #[.int .i64 x]) 0 (v := .int .i64 x) rfl
  rw [World.size_alloc] at hq2
  go_enter Tryz.func78, Tryz.ntmps78
  go_wp2_with fail
  refine (rem2_c v x _ ⟨w.heap.size, 0, none⟩ ⟨w.heap.size + 1, 0, none⟩ hp2 hq2 hx).mono ?_
  rintro e w' ⟨rfl, rfl⟩
  go_wp2_with fail
  go_ret2
  exact ⟨rfl, ((Gr.refl _).cells _ _).cells _ _⟩
set_option maxRecDepth 100000 in
theorem rem0_c (v : Int) (w : World) :
    Calls Tryz.prog 78 #[.int .i64 v, .int .i64 0] w fun e w' => e = .returned (.tuple #[.int .i64 0, .int .i64 1]) ∧ Gr w w' := by
  have hmf : ∀ (fn : Fn) (first cap : Array Value) (w : World), (Instr.makeFunc fn first cap).run Tryz.prog w = .ok (.func fn first cap) w := fun _ _ _ _ => rfl
  have hq2 := Blk.cell (Blk.new (w.alloc (.cells #[.int .i64 v] 3)) 3 #[.int .i64 0]) 0 (v := .int .i64 0) rfl
  rw [World.size_alloc] at hq2
  have hd : ∀ (w : World) (f : Value), Calls Tryz.prog 76 #[.int .i64 0, f] w fun e w' => e = .returned (.tuple #[.int .i64 0, .int .i64 1]) ∧ w' = w := by
    intro w f
    go_enter Tryz.func76, Tryz.ntmps76
    go_wp2_with fail
    go_ret2
    exact ⟨rfl, rfl⟩
  go_enter Tryz.func78, Tryz.ntmps78
  go_wp2_with fail
  refine (hd _ _).mono ?_
  rintro e w' ⟨rfl, rfl⟩
  go_wp2_with fail
  go_ret2
  exact ⟨rfl, ((Gr.refl _).cells _ _).cells _ _⟩
end Go.Proofs.YtgldbeacjacbcaaGreat
