import Derived.Test.YtebmaclopkocgaaGreatDoorPa1
import Derived.Laws.EntriesVeiled
set_option linter.unusedSimpArgs false
set_option linter.unusedVariables false
namespace Go.Proofs.YtebmaclopkocgaaGreatDoor
open Go.RowKit

theorem Kp.g {g : Nat} {a b c : World} (h : Kp [g] a b) (k : Kp [] b c) : Kp [g] a c := h.trans k.any
set_option maxRecDepth 100000 in
set_option maxHeartbeats 4000000 in
theorem stmt_8 (w : World) (g : Nat) (n dp : Int) (hM : Mt2 w g n dp) (hn : 0 ≤ n) (hn2 : n ≤ 100) (hdp : dp ≤ 14) :
    Calls Tryz.prog 74 #[.pointer (some ⟨g, 0, none⟩), .agg #[.int .i64 8, .string ⟨#[]⟩, .slice none 0 0, .slice none 0 0, .slice none 0 0, .int .i64 0, .slice none 0 0, .slice none 0 0, .slice none 0 0, .bool false], .int .i64 1] w fun r w' => r = .returned (.bool true) ∧ Kp [g] w w' ∧ ∃ dp', dp' ≤ 14 ∧ Mt2 w' g (n + 1) dp' := by
  have hmf : ∀ (fn : Fn) (first cap : Array Value) (w : World), (Instr.makeFunc fn first cap).run Tryz.prog w = .ok (.func fn first cap) w := fun _ _ _ _ => rfl
  have hlt : w.heap.size ≠ g := by have := Blk.lt hM; omega
  have hlt1 : w.heap.size + 1 ≠ g := by have := Blk.lt hM; omega
  obtain ⟨W1, hW1⟩ : ∃ W1, ((w.alloc (.cells #[.pointer (some ⟨g, 0, none⟩)] 123)).alloc (.cells #[.int .i64 8, .string ⟨#[]⟩, .slice none 0 0, .slice none 0 0, .slice none 0 0, .int .i64 0, .slice none 0 0, .slice none 0 0, .slice none 0 0, .bool false] 41)).alloc (.cells #[.func (.func 94) #[] #[]] 143) = W1 := ⟨_, rfl⟩
  have hk1 : Kp [] w W1 := hW1 ▸ (((Kp.refl [] w).alloc _).alloc _).alloc _
  have hB1 := ((Blk.new w 123 #[.pointer (some ⟨g, 0, none⟩)]).alloc (.cells #[.int .i64 8, .string ⟨#[]⟩, .slice none 0 0, .slice none 0 0, .slice none 0 0, .int .i64 0, .slice none 0 0, .slice none 0 0, .slice none 0 0, .bool false] 41)).alloc (.cells #[.func (.func 94) #[] #[]] 143)
  have hB2 := (blk_new (w := w.alloc (.cells #[.pointer (some ⟨g, 0, none⟩)] 123)) (by simp : w.heap.size + 1 = _) 41 #[.int .i64 8, .string ⟨#[]⟩, .slice none 0 0, .slice none 0 0, .slice none 0 0, .int .i64 0, .slice none 0 0, .slice none 0 0, .slice none 0 0, .bool false]).alloc (.cells #[.func (.func 94) #[] #[]] 143)
  rw [hW1] at hB1 hB2
  have hM1 : Mt2 W1 g n dp := hM.kp hk1
  have hall : Hid (∀ W', Kp [g] W1 W' → W'.cell? ⟨w.heap.size, 0, none⟩ = some (.pointer (some ⟨g, 0, none⟩)) ∧ W'.cell? ⟨w.heap.size + 1, 0, none⟩ = some (.int .i64 8) ∧ W'.cell? ⟨w.heap.size + 1, 1, none⟩ = some (.string ⟨#[]⟩) ∧ W'.cell? ⟨w.heap.size + 1, 2, none⟩ = some (.slice none 0 0) ∧ W'.cell? ⟨w.heap.size + 1, 3, none⟩ = some (.slice none 0 0) ∧ W'.cell? ⟨w.heap.size + 1, 4, none⟩ = some (.slice none 0 0) ∧ W'.cell? ⟨w.heap.size + 1, 5, none⟩ = some (.int .i64 0) ∧ W'.cell? ⟨w.heap.size + 1, 6, none⟩ = some (.slice none 0 0) ∧ W'.cell? ⟨w.heap.size + 1, 7, none⟩ = some (.slice none 0 0) ∧ W'.cell? ⟨w.heap.size + 1, 8, none⟩ = some (.slice none 0 0) ∧ W'.cell? ⟨w.heap.size + 1, 9, none⟩ = some (.bool false)) := fun W' k => by
    have b1 := hB1.kp k (by simpa using hlt)
    have b2 := hB2.kp k (by simpa using hlt1)
    exact ⟨b1.cell 0 rfl, b2.cell 0 rfl, b2.cell 1 rfl, b2.cell 2 rfl, b2.cell 3 rfl, b2.cell 4 rfl, b2.cell 5 rfl, b2.cell 6 rfl, b2.cell 7 rfl, b2.cell 8 rfl, b2.cell 9 rfl⟩
  have hbb : Hid ((decide (n + 1 ≤ 500) && decide (max dp 1 ≤ 14)) = true) := by show _ = _; simp; omega
  have hdp2 : max dp 1 ≤ 14 := by omega
  replace hW1 := Lib.hid hW1
  replace hk1 := Lib.hid hk1
  replace hM1 := Lib.hid hM1
  clear hB1 hB2 hM
  go_enter Tryz.func74, Tryz.ntmps74
  go_wp2_with fail
  rw [hW1.out]
  obtain ⟨gx, hgx⟩ : ∃ x, w.heap.size = x := ⟨_, rfl⟩
  rw [hgx] at hall ⊢
  clear hgx hlt hlt1
  go_region_held3 (fun W' => W'.cell? ⟨gx, 0, none⟩ = some (.pointer (some ⟨g, 0, none⟩)) ∧ W'.cell? ⟨gx + 1, 0, none⟩ = some (.int .i64 8) ∧ W'.cell? ⟨gx + 1, 1, none⟩ = some (.string ⟨#[]⟩) ∧ W'.cell? ⟨gx + 1, 2, none⟩ = some (.slice none 0 0) ∧ W'.cell? ⟨gx + 1, 3, none⟩ = some (.slice none 0 0) ∧ W'.cell? ⟨gx + 1, 4, none⟩ = some (.slice none 0 0) ∧ W'.cell? ⟨gx + 1, 5, none⟩ = some (.int .i64 0) ∧ W'.cell? ⟨gx + 1, 6, none⟩ = some (.slice none 0 0) ∧ W'.cell? ⟨gx + 1, 7, none⟩ = some (.slice none 0 0) ∧ W'.cell? ⟨gx + 1, 8, none⟩ = some (.slice none 0 0) ∧ W'.cell? ⟨gx + 1, 9, none⟩ = some (.bool false))
    (first | exact hall.out _ (Kp.refl _ _) | exact hall.out _ (Kp.refl _ _).drew | exact hall.out _ hk2.out | exact hall.out _ hk3.out | exact hall.out _ hk4.out | exact hall.out _ hk5.out | exact hall.out _ hk6.out | exact hall.out _ hk7.out | exact hall.out _ hk8.out)
    (first
    | (go_at_call 47; refine (enter2_c g n dp 1 _ (hM1.out.kp (Kp.refl [] W1).drew) hn (by omega)).mono ?_; rintro r w2 ⟨rfl, hM2, hG2⟩; rw [hbb.out]; have hk2 := Lib.hid ((Kp.refl [g] W1).drew.trans hG2.kp); replace hM2 := Lib.hid hM2)
    | (go_at_call 97; refine (isStmt_8 _).mono ?_; rintro r w3 ⟨rfl, hj3⟩; have hM3 := Lib.hid (hM2.out.kp hj3); have hk3 := Lib.hid (hk2.out.g hj3))
    | (go_at_call 98; refine (armsNil_c _ _ _).mono ?_; rintro r w7 ⟨rfl, rfl⟩; have hk7 := hk6; have hM7 := hM6)
    | (go_at_call 49; refine (expsNil_c _ g _).mono ?_; rintro r w5 ⟨rfl, hj5⟩; have hM5 := Lib.hid (hM4.out.kp hj5); have hk5 := Lib.hid (hk4.out.g hj5))
    | (go_at_call 49; refine (expsNil_c _ g _).mono ?_; rintro r w4 ⟨rfl, hj4⟩; have hM4 := Lib.hid (hM3.out.kp hj4); have hk4 := Lib.hid (hk3.out.g hj4))
    | (go_at_call 55; refine (stmtsNil_c _ _ _ ⟨_, rfl⟩).mono ?_; rintro r w8 ⟨rfl, hj8⟩; have hM8 := Lib.hid (hM7.out.kp hj8); have hk8 := Lib.hid (hk7.out.g hj8))
    | (go_at_call 55; refine (stmtsNil_c _ _ _ ⟨_, rfl⟩).mono ?_; rintro r w6 ⟨rfl, hj6⟩; have hM6 := Lib.hid (hM5.out.kp hj6); have hk6 := Lib.hid (hk5.out.g hj6)))
  all_goals
    go_wp2_with fail
    go_ret
    exact ⟨rfl, hk1.out.any.trans hk8.out, _, hdp2, hM8.out⟩
set_option maxRecDepth 100000 in
set_option maxHeartbeats 4000000 in
theorem stmt_9 (w : World) (g : Nat) (n dp : Int) (hM : Mt2 w g n dp) (hn : 0 ≤ n) (hn2 : n ≤ 100) (hdp : dp ≤ 14) :
    Calls Tryz.prog 74 #[.pointer (some ⟨g, 0, none⟩), .agg #[.int .i64 9, .string ⟨#[]⟩, .slice none 0 0, .slice none 0 0, .slice none 0 0, .int .i64 0, .slice none 0 0, .slice none 0 0, .slice none 0 0, .bool false], .int .i64 1] w fun r w' => r = .returned (.bool true) ∧ Kp [g] w w' ∧ ∃ dp', dp' ≤ 14 ∧ Mt2 w' g (n + 1) dp' := by
  have hmf : ∀ (fn : Fn) (first cap : Array Value) (w : World), (Instr.makeFunc fn first cap).run Tryz.prog w = .ok (.func fn first cap) w := fun _ _ _ _ => rfl
  have hlt : w.heap.size ≠ g := by have := Blk.lt hM; omega
  have hlt1 : w.heap.size + 1 ≠ g := by have := Blk.lt hM; omega
  obtain ⟨W1, hW1⟩ : ∃ W1, ((w.alloc (.cells #[.pointer (some ⟨g, 0, none⟩)] 123)).alloc (.cells #[.int .i64 9, .string ⟨#[]⟩, .slice none 0 0, .slice none 0 0, .slice none 0 0, .int .i64 0, .slice none 0 0, .slice none 0 0, .slice none 0 0, .bool false] 41)).alloc (.cells #[.func (.func 94) #[] #[]] 143) = W1 := ⟨_, rfl⟩
  have hk1 : Kp [] w W1 := hW1 ▸ (((Kp.refl [] w).alloc _).alloc _).alloc _
  have hB1 := ((Blk.new w 123 #[.pointer (some ⟨g, 0, none⟩)]).alloc (.cells #[.int .i64 9, .string ⟨#[]⟩, .slice none 0 0, .slice none 0 0, .slice none 0 0, .int .i64 0, .slice none 0 0, .slice none 0 0, .slice none 0 0, .bool false] 41)).alloc (.cells #[.func (.func 94) #[] #[]] 143)
  have hB2 := (blk_new (w := w.alloc (.cells #[.pointer (some ⟨g, 0, none⟩)] 123)) (by simp : w.heap.size + 1 = _) 41 #[.int .i64 9, .string ⟨#[]⟩, .slice none 0 0, .slice none 0 0, .slice none 0 0, .int .i64 0, .slice none 0 0, .slice none 0 0, .slice none 0 0, .bool false]).alloc (.cells #[.func (.func 94) #[] #[]] 143)
  rw [hW1] at hB1 hB2
  have hM1 : Mt2 W1 g n dp := hM.kp hk1
  have hall : Hid (∀ W', Kp [g] W1 W' → W'.cell? ⟨w.heap.size, 0, none⟩ = some (.pointer (some ⟨g, 0, none⟩)) ∧ W'.cell? ⟨w.heap.size + 1, 0, none⟩ = some (.int .i64 9) ∧ W'.cell? ⟨w.heap.size + 1, 1, none⟩ = some (.string ⟨#[]⟩) ∧ W'.cell? ⟨w.heap.size + 1, 2, none⟩ = some (.slice none 0 0) ∧ W'.cell? ⟨w.heap.size + 1, 3, none⟩ = some (.slice none 0 0) ∧ W'.cell? ⟨w.heap.size + 1, 4, none⟩ = some (.slice none 0 0) ∧ W'.cell? ⟨w.heap.size + 1, 5, none⟩ = some (.int .i64 0) ∧ W'.cell? ⟨w.heap.size + 1, 6, none⟩ = some (.slice none 0 0) ∧ W'.cell? ⟨w.heap.size + 1, 7, none⟩ = some (.slice none 0 0) ∧ W'.cell? ⟨w.heap.size + 1, 8, none⟩ = some (.slice none 0 0) ∧ W'.cell? ⟨w.heap.size + 1, 9, none⟩ = some (.bool false)) := fun W' k => by
    have b1 := hB1.kp k (by simpa using hlt)
    have b2 := hB2.kp k (by simpa using hlt1)
    exact ⟨b1.cell 0 rfl, b2.cell 0 rfl, b2.cell 1 rfl, b2.cell 2 rfl, b2.cell 3 rfl, b2.cell 4 rfl, b2.cell 5 rfl, b2.cell 6 rfl, b2.cell 7 rfl, b2.cell 8 rfl, b2.cell 9 rfl⟩
  have hbb : Hid ((decide (n + 1 ≤ 500) && decide (max dp 1 ≤ 14)) = true) := by show _ = _; simp; omega
  have hdp2 : max dp 1 ≤ 14 := by omega
  replace hW1 := Lib.hid hW1
  replace hk1 := Lib.hid hk1
  replace hM1 := Lib.hid hM1
  clear hB1 hB2 hM
  go_enter Tryz.func74, Tryz.ntmps74
  go_wp2_with fail
  rw [hW1.out]
  obtain ⟨gx, hgx⟩ : ∃ x, w.heap.size = x := ⟨_, rfl⟩
  rw [hgx] at hall ⊢
  clear hgx hlt hlt1
  go_region_held3 (fun W' => W'.cell? ⟨gx, 0, none⟩ = some (.pointer (some ⟨g, 0, none⟩)) ∧ W'.cell? ⟨gx + 1, 0, none⟩ = some (.int .i64 9) ∧ W'.cell? ⟨gx + 1, 1, none⟩ = some (.string ⟨#[]⟩) ∧ W'.cell? ⟨gx + 1, 2, none⟩ = some (.slice none 0 0) ∧ W'.cell? ⟨gx + 1, 3, none⟩ = some (.slice none 0 0) ∧ W'.cell? ⟨gx + 1, 4, none⟩ = some (.slice none 0 0) ∧ W'.cell? ⟨gx + 1, 5, none⟩ = some (.int .i64 0) ∧ W'.cell? ⟨gx + 1, 6, none⟩ = some (.slice none 0 0) ∧ W'.cell? ⟨gx + 1, 7, none⟩ = some (.slice none 0 0) ∧ W'.cell? ⟨gx + 1, 8, none⟩ = some (.slice none 0 0) ∧ W'.cell? ⟨gx + 1, 9, none⟩ = some (.bool false))
    (first | exact hall.out _ (Kp.refl _ _) | exact hall.out _ (Kp.refl _ _).drew | exact hall.out _ hk2.out | exact hall.out _ hk3.out | exact hall.out _ hk4.out | exact hall.out _ hk5.out | exact hall.out _ hk6.out | exact hall.out _ hk7.out | exact hall.out _ hk8.out)
    (first
    | (go_at_call 47; refine (enter2_c g n dp 1 _ (hM1.out.kp (Kp.refl [] W1).drew) hn (by omega)).mono ?_; rintro r w2 ⟨rfl, hM2, hG2⟩; rw [hbb.out]; have hk2 := Lib.hid ((Kp.refl [g] W1).drew.trans hG2.kp); replace hM2 := Lib.hid hM2)
    | (go_at_call 97; refine (isStmt_9 _).mono ?_; rintro r w3 ⟨rfl, hj3⟩; have hM3 := Lib.hid (hM2.out.kp hj3); have hk3 := Lib.hid (hk2.out.g hj3))
    | (go_at_call 98; refine (armsNil_c _ _ _).mono ?_; rintro r w7 ⟨rfl, rfl⟩; have hk7 := hk6; have hM7 := hM6)
    | (go_at_call 49; refine (expsNil_c _ g _).mono ?_; rintro r w5 ⟨rfl, hj5⟩; have hM5 := Lib.hid (hM4.out.kp hj5); have hk5 := Lib.hid (hk4.out.g hj5))
    | (go_at_call 49; refine (expsNil_c _ g _).mono ?_; rintro r w4 ⟨rfl, hj4⟩; have hM4 := Lib.hid (hM3.out.kp hj4); have hk4 := Lib.hid (hk3.out.g hj4))
    | (go_at_call 55; refine (stmtsNil_c _ _ _ ⟨_, rfl⟩).mono ?_; rintro r w8 ⟨rfl, hj8⟩; have hM8 := Lib.hid (hM7.out.kp hj8); have hk8 := Lib.hid (hk7.out.g hj8))
    | (go_at_call 55; refine (stmtsNil_c _ _ _ ⟨_, rfl⟩).mono ?_; rintro r w6 ⟨rfl, hj6⟩; have hM6 := Lib.hid (hM5.out.kp hj6); have hk6 := Lib.hid (hk5.out.g hj6)))
  all_goals
    go_wp2_with fail
    go_ret
    exact ⟨rfl, hk1.out.any.trans hk8.out, _, hdp2, hM8.out⟩
end Go.Proofs.YtebmaclopkocgaaGreatDoor
