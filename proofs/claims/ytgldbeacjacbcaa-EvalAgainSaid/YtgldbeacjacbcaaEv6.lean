import Derived.Test.YtgldbeacjacbcaaEv5
namespace Go.Proofs.Ytgldbeacjacbcaa
open Go.RowKit

theorem bit_cases {n : Int} (h : bitB n = true) : n = 0 ∨ n = 1 := by simpa [bitB] using h
set_option maxRecDepth 100000 in
theorem or_c (v x : Int) (w : World) (hv : bitB v = true) (hx : bitB x = true) :
    Calls Try.prog 42 #[.int .i64 v, .int .i64 x] w fun e w' => e = .returned (.tuple #[.int .i64 (max v x), .int .i64 0]) ∧ w' = w := by
  rcases bit_cases hv with rfl | rfl <;> rcases bit_cases hx with rfl | rfl
  all_goals
    clear hv hx
    go_enter Try.func42, Try.ntmps42
    go_wp2_with fail
    go_ret2
    exact ⟨by kernel_rfl, rfl⟩
set_option maxRecDepth 100000 in
theorem xor_c (v x : Int) (w : World) (hv : bitB v = true) (hx : bitB x = true) :
    Calls Try.prog 43 #[.int .i64 v, .int .i64 x] w fun e w' => e = .returned (.tuple #[.int .i64 ((v + x) % 2), .int .i64 0]) ∧ w' = w := by
  rcases bit_cases hv with rfl | rfl <;> rcases bit_cases hx with rfl | rfl
  all_goals
    clear hv hx
    go_enter Try.func43, Try.ntmps43
    go_wp2_with fail
    go_ret2
    exact ⟨by kernel_rfl, rfl⟩
set_option maxRecDepth 100000 in
theorem and_c (v x : Int) (w : World) (hv : bitB v = true) (hx : bitB x = true) :
    Calls Try.prog 44 #[.int .i64 v, .int .i64 x] w fun e w' => e = .returned (.tuple #[.int .i64 (min v x), .int .i64 0]) ∧ w' = w := by
  rcases bit_cases hv with rfl | rfl <;> rcases bit_cases hx with rfl | rfl
  all_goals
    clear hv hx
    go_enter Try.func44, Try.ntmps44
    go_wp2_with fail
    go_ret2
    exact ⟨by kernel_rfl, rfl⟩
set_option maxRecDepth 100000 in
theorem quo1_c (v x : Int) (w : World) (p q : Addr) (hp : w.cell? p = some (.int .i64 v)) (hq : w.cell? q = some (.int .i64 x)) (hx : ¬ x = 0) :
    Calls Try.prog 57 #[.pointer (some p), .pointer (some q)] w fun e w' => e = .returned (.int .i64 (wrap64 (v.tdiv x))) ∧ w' = w := by
  go_enter Try.func57, Try.ntmps57
  go_wp2_with fail
  go_ret
  exact ⟨rfl, rfl⟩
set_option maxRecDepth 100000 in
theorem quo2_c (v x : Int) (w : World) (p q : Addr) (hp : w.cell? p = some (.int .i64 v)) (hq : w.cell? q = some (.int .i64 x)) (hx : ¬ x = 0) :
    Calls Try.prog 56 #[.int .i64 x, .func (.func 57) #[] #[.pointer (some p), .pointer (some q)]] w fun e w' => e = .returned (.tuple #[.int .i64 (wrap64 (v.tdiv x)), .int .i64 0]) ∧ w' = w := by
  go_enter Try.func56, Try.ntmps56
  go_wp2_with fail
  refine (quo1_c v x _ p q hp hq hx).mono ?_
  rintro e w' ⟨rfl, rfl⟩
  go_wp2_with fail
  go_ret2
  exact ⟨rfl, rfl⟩
set_option maxRecDepth 100000 in
theorem quo_c (v x : Int) (w : World) (hx : ¬ x = 0) :
    Calls Try.prog 55 #[.int .i64 v, .int .i64 x] w fun e w' => e = .returned (.tuple #[.int .i64 (wrap64 (v.tdiv x)), .int .i64 0]) ∧ Gr w w' := by
  have hmf : ∀ (fn : Fn) (first cap : Array Value) (w : World), (Instr.makeFunc fn first cap).run Try.prog w = .ok (.func fn first cap) w := fun _ _ _ _ => rfl
  have hp := Blk.cell (Blk.new w 3 #[.int .i64 v]) 0 (v := .int .i64 v) rfl
  have hp2 := Blk.cell ((Blk.new w 3 #[.int .i64 v]).alloc (.cells #[.int .i64 x] 3)) 0 (v := .int .i64 v) rfl
  have hq2 := Blk.cell (Blk.new (w.alloc (.cells #[.int .i64 v] 3)) 3 #[.int .i64 x]) 0 (v := .int .i64 x) rfl
  rw [World.size_alloc] at hq2
  go_enter Try.func55, Try.ntmps55
  go_wp2_with fail
  refine (quo2_c v x _ ⟨w.heap.size, 0, none⟩ ⟨w.heap.size + 1, 0, none⟩ hp2 hq2 hx).mono ?_
  rintro e w' ⟨rfl, rfl⟩
  go_wp2_with fail
  go_ret2
  exact ⟨rfl, ((Gr.refl _).cells _ _).cells _ _⟩
set_option maxRecDepth 100000 in
theorem quo0_c (v : Int) (w : World) :
    Calls Try.prog 55 #[.int .i64 v, .int .i64 0] w fun e w' => e = .returned (.tuple #[.int .i64 0, .int .i64 1]) ∧ Gr w w' := by
  have hmf : ∀ (fn : Fn) (first cap : Array Value) (w : World), (Instr.makeFunc fn first cap).run Try.prog w = .ok (.func fn first cap) w := fun _ _ _ _ => rfl
  have hq2 := Blk.cell (Blk.new (w.alloc (.cells #[.int .i64 v] 3)) 3 #[.int .i64 0]) 0 (v := .int .i64 0) rfl
  rw [World.size_alloc] at hq2
  have hd : ∀ (w : World) (f : Value), Calls Try.prog 56 #[.int .i64 0, f] w fun e w' => e = .returned (.tuple #[.int .i64 0, .int .i64 1]) ∧ w' = w := by
    intro w f
    go_enter Try.func56, Try.ntmps56
    go_wp2_with fail
    go_ret2
    exact ⟨rfl, rfl⟩
  go_enter Try.func55, Try.ntmps55
  go_wp2_with fail
  refine (hd _ _).mono ?_
  rintro e w' ⟨rfl, rfl⟩
  go_wp2_with fail
  go_ret2
  exact ⟨rfl, ((Gr.refl _).cells _ _).cells _ _⟩
set_option maxRecDepth 100000 in
theorem rem1_c (v x : Int) (w : World) (p q : Addr) (hp : w.cell? p = some (.int .i64 v)) (hq : w.cell? q = some (.int .i64 x)) (hx : ¬ x = 0) :
    Calls Try.prog 59 #[.pointer (some p), .pointer (some q)] w fun e w' => e = .returned (.int .i64 (v.tmod x)) ∧ w' = w := by
  go_enter Try.func59, Try.ntmps59
  go_wp2_with fail
  go_ret
  exact ⟨rfl, rfl⟩
set_option maxRecDepth 100000 in
theorem rem2_c (v x : Int) (w : World) (p q : Addr) (hp : w.cell? p = some (.int .i64 v)) (hq : w.cell? q = some (.int .i64 x)) (hx : ¬ x = 0) :
    Calls Try.prog 56 #[.int .i64 x, .func (.func 59) #[] #[.pointer (some p), .pointer (some q)]] w fun e w' => e = .returned (.tuple #[.int .i64 (v.tmod x), .int .i64 0]) ∧ w' = w := by
  go_enter Try.func56, Try.ntmps56
  go_wp2_with fail
  refine (rem1_c v x _ p q hp hq hx).mono ?_
  rintro e w' ⟨rfl, rfl⟩
  go_wp2_with fail
  go_ret2
  exact ⟨rfl, rfl⟩
set_option maxRecDepth 100000 in
theorem rem_c (v x : Int) (w : World) (hx : ¬ x = 0) :
    Calls Try.prog 58 #[.int .i64 v, .int .i64 x] w fun e w' => e = .returned (.tuple #[.int .i64 (v.tmod x), .int .i64 0]) ∧ Gr w w' := by
  have hmf : ∀ (fn : Fn) (first cap : Array Value) (w : World), (Instr.makeFunc fn first cap).run Try.prog w = .ok (.func fn first cap) w := fun _ _ _ _ => rfl
  have hp := Blk.cell (Blk.new w 3 #[.int .i64 v]) 0 (v := .int .i64 v) rfl
  have hp2 := Blk.cell ((Blk.new w 3 #[.int .i64 v]).alloc (.cells #[.int .i64 x] 3)) 0 (v := .int .i64 v) rfl
  have hq2 := Blk.cell (Blk.new (w.alloc (.cells #[.int .i64 v] 3)) 3 #[.int .i64 x]) 0 (v := .int .i64 x) rfl
  rw [World.size_alloc] at hq2
  go_enter Try.func58, Try.ntmps58
  go_wp2_with fail
  refine (rem2_c v x _ ⟨w.heap.size, 0, none⟩ ⟨w.heap.size + 1, 0, none⟩ hp2 hq2 hx).mono ?_
  rintro e w' ⟨rfl, rfl⟩
  go_wp2_with fail
  go_ret2
  exact ⟨rfl, ((Gr.refl _).cells _ _).cells _ _⟩
set_option maxRecDepth 100000 in
theorem rem0_c (v : Int) (w : World) :
    Calls Try.prog 58 #[.int .i64 v, .int .i64 0] w fun e w' => e = .returned (.tuple #[.int .i64 0, .int .i64 1]) ∧ Gr w w' := by
  have hmf : ∀ (fn : Fn) (first cap : Array Value) (w : World), (Instr.makeFunc fn first cap).run Try.prog w = .ok (.func fn first cap) w := fun _ _ _ _ => rfl
  have hq2 := Blk.cell (Blk.new (w.alloc (.cells #[.int .i64 v] 3)) 3 #[.int .i64 0]) 0 (v := .int .i64 0) rfl
  rw [World.size_alloc] at hq2
  have hd : ∀ (w : World) (f : Value), Calls Try.prog 56 #[.int .i64 0, f] w fun e w' => e = .returned (.tuple #[.int .i64 0, .int .i64 1]) ∧ w' = w := by
    intro w f
    go_enter Try.func56, Try.ntmps56
    go_wp2_with fail
    go_ret2
    exact ⟨rfl, rfl⟩
  go_enter Try.func58, Try.ntmps58
  go_wp2_with fail
  refine (hd _ _).mono ?_
  rintro e w' ⟨rfl, rfl⟩
  go_wp2_with fail
  go_ret2
  exact ⟨rfl, ((Gr.refl _).cells _ _).cells _ _⟩
end Go.Proofs.Ytgldbeacjacbcaa
