import Derived.Test.YtebmaclopkocgaaGreatDoorPt6
import Derived.Test.YtebmaclopkocgaaGreatDoorTx6
set_option linter.unusedSimpArgs false
set_option linter.unusedVariables false
namespace Go.Proofs.YtebmaclopkocgaaGreatDoor
open Go.RowKit

set_option maxRecDepth 100000 in
set_option maxHeartbeats 2000000 in
theorem text_6 (kind n : Int) (s f : ByteArray) (b off cap : Nat) (g : Nat) (w : World) (e : Ex) (v : Value) (t : List UInt8) (ht : t.length ≤ 100000) (hcap : 1 ≤ cap) (hcap2 : cap ≤ 9223372036854775807)
    (hc : ∀ j u, (exV e v)[j]? = some u → w.cell? ⟨b, off + j, none⟩ = some u)
    (hcall : Hid (∀ W, Kp [] w W → Calls Tryz.prog 31 #[.agg #[.map (some g)], .agg #[.int .i64 e.op, .int .i64 e.kind, .int .i64 e.num, .string e.s, .string e.field, v], .int .i64 8] W (StrRes t W))) :
    Calls Tryz.prog 15 #[.agg #[.map (some g)], .agg #[.int .i64 6, .int .i64 kind, .int .i64 n, .string s, .string f, .slice (some ⟨b, off, none⟩) 1 cap]] w (StrRes ([110, 111, 116, 32] ++ t) w) := by
  have hsz := st_size t
  have hB1 := Blk.new w 45 #[.map (some g)]
  have hB2 := Blk.new (w.alloc (.cells #[.map (some g)] 45)) 24 #[.int .i64 6, .int .i64 kind, .int .i64 n, .string s, .string f, .slice (some ⟨b, off, none⟩) 1 cap]
  obtain ⟨W1, hW1⟩ : ∃ W1, (w.alloc (.cells #[.map (some g)] 45)).alloc (.cells #[.int .i64 6, .int .i64 kind, .int .i64 n, .string s, .string f, .slice (some ⟨b, off, none⟩) 1 cap] 24) = W1 := ⟨_, rfl⟩
  have hk1 : Kp [] w W1 := hW1 ▸ ((Kp.refl [] w).alloc _).alloc _
  replace hB1 := hB1.alloc (.cells #[.int .i64 6, .int .i64 kind, .int .i64 n, .string s, .string f, .slice (some ⟨b, off, none⟩) 1 cap] 24)
  simp only [World.size_alloc] at hB2
  rw [hW1] at hB1 hB2
  have c0 := hB1.cell 0 (v := .map (some g)) rfl
  have d5 := hB2.cell 5 (v := .slice (some ⟨b, off, none⟩) 1 cap) rfl
  have e0 := hk1.cell (hc 0 _ rfl) (by simp)
  have e1 := hk1.cell (hc 1 _ rfl) (by simp)
  have e2 := hk1.cell (hc 2 _ rfl) (by simp)
  have e3 := hk1.cell (hc 3 _ rfl) (by simp)
  have e4 := hk1.cell (hc 4 _ rfl) (by simp)
  have e5 := hk1.cell (hc 5 _ rfl) (by simp)
  rw [Nat.add_zero] at e0
  have hall : Hid (∀ W', Kp [] W1 W' → W'.cell? ⟨w.heap.size, 0, none⟩ = some (.map (some g)) ∧ W'.cell? ⟨w.heap.size + 1, 5, none⟩ = some (.slice (some ⟨b, off, none⟩) 1 cap) ∧
      W'.cell? ⟨b, off, none⟩ = some (.int .i64 e.op) ∧ W'.cell? ⟨b, off + 1, none⟩ = some (.int .i64 e.kind) ∧ W'.cell? ⟨b, off + 2, none⟩ = some (.int .i64 e.num) ∧ W'.cell? ⟨b, off + 3, none⟩ = some (.string e.s) ∧ W'.cell? ⟨b, off + 4, none⟩ = some (.string e.field) ∧ W'.cell? ⟨b, off + 5, none⟩ = some v) :=
    fun W' k => ⟨k.cell c0 (by simp), k.cell d5 (by simp), k.cell e0 (by simp), k.cell e1 (by simp), k.cell e2 (by simp), k.cell e3 (by simp), k.cell e4 (by simp), k.cell e5 (by simp)⟩
  have hcall3 := Lib.hid (hcall.out _ (hk1.trans (Kp.refl [] W1).drew))
  replace hB1 := Lib.hid hB1
  replace hB2 := Lib.hid hB2
  replace hW1 := Lib.hid hW1
  replace hk1 := Lib.hid hk1
  clear c0 d5 e0 e1 e2 e3 e4 e5 hc hcall
  go_enter Tryz.func15, Tryz.ntmps15
  go_wp2_with fail
  rw [hW1.out]
  obtain ⟨gx, hgx⟩ : ∃ x, w.heap.size = x := ⟨_, rfl⟩
  rw [hgx] at hall ⊢
  have hq1 : ¬ 9223372036854775807 < 4 + t.length := by omega
  go_region_held3 (fun W' => W'.cell? ⟨gx, 0, none⟩ = some (.map (some g)) ∧ W'.cell? ⟨gx + 1, 5, none⟩ = some (.slice (some ⟨b, off, none⟩) 1 cap) ∧
      W'.cell? ⟨b, off, none⟩ = some (.int .i64 e.op) ∧ W'.cell? ⟨b, off + 1, none⟩ = some (.int .i64 e.kind) ∧ W'.cell? ⟨b, off + 2, none⟩ = some (.int .i64 e.num) ∧ W'.cell? ⟨b, off + 3, none⟩ = some (.string e.s) ∧ W'.cell? ⟨b, off + 4, none⟩ = some (.string e.field) ∧ W'.cell? ⟨b, off + 5, none⟩ = some v)
    (first | exact hall.out _ (Kp.refl _ _) | exact hall.out _ (Kp.refl _ _).drew | exact hall.out _ hk5.out)
    (first | (go_at_call 31; refine hcall3.out.mono ?_; rintro r w5 ⟨rfl, hk5⟩; replace hk5 := Lib.hid ((Kp.refl [] W1).drew.trans hk5)))
  all_goals
    go_wp2_with fail
    go_ret
    exact ⟨ret_str (st_app [110, 111, 116, 32] t), hk1.out.trans hk5.out⟩
set_option maxRecDepth 100000 in
set_option maxHeartbeats 2000000 in
theorem text_7 (kind n : Int) (s f : ByteArray) (b off cap : Nat) (g : Nat) (w : World) (e : Ex) (v : Value) (t : List UInt8) (ht : t.length ≤ 100000) (hcap : 1 ≤ cap) (hcap2 : cap ≤ 9223372036854775807)
    (hc : ∀ j u, (exV e v)[j]? = some u → w.cell? ⟨b, off + j, none⟩ = some u)
    (hcall : Hid (∀ W, Kp [] w W → Calls Tryz.prog 31 #[.agg #[.map (some g)], .agg #[.int .i64 e.op, .int .i64 e.kind, .int .i64 e.num, .string e.s, .string e.field, v], .int .i64 8] W (StrRes t W))) :
    Calls Tryz.prog 15 #[.agg #[.map (some g)], .agg #[.int .i64 7, .int .i64 kind, .int .i64 n, .string s, .string f, .slice (some ⟨b, off, none⟩) 1 cap]] w (StrRes ([45] ++ t) w) := by
  have hsz := st_size t
  have hB1 := Blk.new w 45 #[.map (some g)]
  have hB2 := Blk.new (w.alloc (.cells #[.map (some g)] 45)) 24 #[.int .i64 7, .int .i64 kind, .int .i64 n, .string s, .string f, .slice (some ⟨b, off, none⟩) 1 cap]
  obtain ⟨W1, hW1⟩ : ∃ W1, (w.alloc (.cells #[.map (some g)] 45)).alloc (.cells #[.int .i64 7, .int .i64 kind, .int .i64 n, .string s, .string f, .slice (some ⟨b, off, none⟩) 1 cap] 24) = W1 := ⟨_, rfl⟩
  have hk1 : Kp [] w W1 := hW1 ▸ ((Kp.refl [] w).alloc _).alloc _
  replace hB1 := hB1.alloc (.cells #[.int .i64 7, .int .i64 kind, .int .i64 n, .string s, .string f, .slice (some ⟨b, off, none⟩) 1 cap] 24)
  simp only [World.size_alloc] at hB2
  rw [hW1] at hB1 hB2
  have c0 := hB1.cell 0 (v := .map (some g)) rfl
  have d5 := hB2.cell 5 (v := .slice (some ⟨b, off, none⟩) 1 cap) rfl
  have e0 := hk1.cell (hc 0 _ rfl) (by simp)
  have e1 := hk1.cell (hc 1 _ rfl) (by simp)
  have e2 := hk1.cell (hc 2 _ rfl) (by simp)
  have e3 := hk1.cell (hc 3 _ rfl) (by simp)
  have e4 := hk1.cell (hc 4 _ rfl) (by simp)
  have e5 := hk1.cell (hc 5 _ rfl) (by simp)
  rw [Nat.add_zero] at e0
  have hall : Hid (∀ W', Kp [] W1 W' → W'.cell? ⟨w.heap.size, 0, none⟩ = some (.map (some g)) ∧ W'.cell? ⟨w.heap.size + 1, 5, none⟩ = some (.slice (some ⟨b, off, none⟩) 1 cap) ∧
      W'.cell? ⟨b, off, none⟩ = some (.int .i64 e.op) ∧ W'.cell? ⟨b, off + 1, none⟩ = some (.int .i64 e.kind) ∧ W'.cell? ⟨b, off + 2, none⟩ = some (.int .i64 e.num) ∧ W'.cell? ⟨b, off + 3, none⟩ = some (.string e.s) ∧ W'.cell? ⟨b, off + 4, none⟩ = some (.string e.field) ∧ W'.cell? ⟨b, off + 5, none⟩ = some v) :=
    fun W' k => ⟨k.cell c0 (by simp), k.cell d5 (by simp), k.cell e0 (by simp), k.cell e1 (by simp), k.cell e2 (by simp), k.cell e3 (by simp), k.cell e4 (by simp), k.cell e5 (by simp)⟩
  have hcall3 := Lib.hid (hcall.out _ (hk1.trans (Kp.refl [] W1).drew))
  replace hB1 := Lib.hid hB1
  replace hB2 := Lib.hid hB2
  replace hW1 := Lib.hid hW1
  replace hk1 := Lib.hid hk1
  clear c0 d5 e0 e1 e2 e3 e4 e5 hc hcall
  go_enter Tryz.func15, Tryz.ntmps15
  go_wp2_with fail
  rw [hW1.out]
  obtain ⟨gx, hgx⟩ : ∃ x, w.heap.size = x := ⟨_, rfl⟩
  rw [hgx] at hall ⊢
  have hq1 : ¬ 9223372036854775807 < 1 + t.length := by omega
  go_region_held3 (fun W' => W'.cell? ⟨gx, 0, none⟩ = some (.map (some g)) ∧ W'.cell? ⟨gx + 1, 5, none⟩ = some (.slice (some ⟨b, off, none⟩) 1 cap) ∧
      W'.cell? ⟨b, off, none⟩ = some (.int .i64 e.op) ∧ W'.cell? ⟨b, off + 1, none⟩ = some (.int .i64 e.kind) ∧ W'.cell? ⟨b, off + 2, none⟩ = some (.int .i64 e.num) ∧ W'.cell? ⟨b, off + 3, none⟩ = some (.string e.s) ∧ W'.cell? ⟨b, off + 4, none⟩ = some (.string e.field) ∧ W'.cell? ⟨b, off + 5, none⟩ = some v)
    (first | exact hall.out _ (Kp.refl _ _) | exact hall.out _ (Kp.refl _ _).drew | exact hall.out _ hk5.out)
    (first | (go_at_call 31; refine hcall3.out.mono ?_; rintro r w5 ⟨rfl, hk5⟩; replace hk5 := Lib.hid ((Kp.refl [] W1).drew.trans hk5)))
  all_goals
    go_wp2_with fail
    go_ret
    exact ⟨ret_str (st_app [45] t), hk1.out.trans hk5.out⟩

set_option maxRecDepth 100000 in
set_option maxHeartbeats 4000000 in
theorem text_two (op kind n : Int) (h8 : 8 ≤ op) (h21 : op ≤ 21) (s f : ByteArray) (b off cap : Nat) (g : Nat) (w : World) (hA : Ar g w) (e e' : Ex) (v v' : Value) (t t' : List UInt8) (ht : t.length ≤ 100000) (ht' : t'.length ≤ 100000) (hcap : 2 ≤ cap) (hcap2 : cap ≤ 9223372036854775807)
    (hc : ∀ j u, (exV e v)[j]? = some u → w.cell? ⟨b, off + j, none⟩ = some u) (hc' : ∀ j u, (exV e' v')[j]? = some u → w.cell? ⟨b, off + 6 + j, none⟩ = some u)
    (hcall : Hid (∀ W, Kp [] w W → Calls Tryz.prog 31 #[.agg #[.map (some g)], .agg #[.int .i64 e.op, .int .i64 e.kind, .int .i64 e.num, .string e.s, .string e.field, v], .int .i64 (lvl op)] W (StrRes t W)))
    (hcall' : Hid (∀ W, Kp [] w W → Calls Tryz.prog 31 #[.agg #[.map (some g)], .agg #[.int .i64 e'.op, .int .i64 e'.kind, .int .i64 e'.num, .string e'.s, .string e'.field, v'], .int .i64 (lvl op + 1)] W (StrRes t' W))) :
    Calls Tryz.prog 15 #[.agg #[.map (some g)], .agg #[.int .i64 op, .int .i64 kind, .int .i64 n, .string s, .string f, .slice (some ⟨b, off, none⟩) 2 cap]] w (StrRes (t ++ [32] ++ sgn op ++ [32] ++ t') w) := by
  have hsz := st_size t
  have hsz' := st_size t'
  have hlv : 1 ≤ lvl op ∧ lvl op ≤ 7 := by
    rcases (show op = 8 ∨ op = 9 ∨ op = 10 ∨ op = 11 ∨ op = 12 ∨ op = 13 ∨ op = 14 ∨ op = 15 ∨ op = 16 ∨ op = 17 ∨ op = 18 ∨ op = 19 ∨ op = 20 ∨ op = 21 by omega) with rfl | rfl | rfl | rfl | rfl | rfl | rfl | rfl | rfl | rfl | rfl | rfl | rfl | rfl
    all_goals decide
  have hsg := sgn_len op
  have hB1 := Blk.new w 45 #[.map (some g)]
  have hB2 := Blk.new (w.alloc (.cells #[.map (some g)] 45)) 24 #[.int .i64 op, .int .i64 kind, .int .i64 n, .string s, .string f, .slice (some ⟨b, off, none⟩) 2 cap]
  obtain ⟨W1, hW1⟩ : ∃ W1, (w.alloc (.cells #[.map (some g)] 45)).alloc (.cells #[.int .i64 op, .int .i64 kind, .int .i64 n, .string s, .string f, .slice (some ⟨b, off, none⟩) 2 cap] 24) = W1 := ⟨_, rfl⟩
  have hk1 : Kp [] w W1 := hW1 ▸ ((Kp.refl [] w).alloc _).alloc _
  replace hB1 := hB1.alloc (.cells #[.int .i64 op, .int .i64 kind, .int .i64 n, .string s, .string f, .slice (some ⟨b, off, none⟩) 2 cap] 24)
  simp only [World.size_alloc] at hB2
  have hz1 : W1.heap.size = w.heap.size + 2 := by rw [← hW1]; simp
  rw [hW1] at hB1 hB2
  have hl := (look_two _ g (hA.ops.kp hk1) op h8 h21).2
  have hkO : Kp [] W1 (W1.alloc (.cells #[.string (st (sgn op)), .int .i64 (lvl op)] 68)) := (Kp.refl [] W1).alloc _
  have hB3 := blk_new hz1.symm 68 #[.string (st (sgn op)), .int .i64 (lvl op)]
  obtain ⟨W2, hW2⟩ : ∃ W2, W1.alloc (.cells #[.string (st (sgn op)), .int .i64 (lvl op)] 68) = W2 := ⟨_, rfl⟩
  rw [hW2] at hB3 hkO
  have hk2 := hk1.trans hkO
  have c0 := (hB1.kp hkO (by simp)).cell 0 (v := .map (some g)) rfl
  have d5 := (hB2.kp hkO (by simp)).cell 5 (v := .slice (some ⟨b, off, none⟩) 2 cap) rfl
  have o0 := hB3.cell 0 (v := .string (st (sgn op))) rfl
  have o1 := hB3.cell 1 (v := .int .i64 (lvl op)) rfl
  have e0 := hk2.cell (hc 0 _ rfl) (by simp)
  have e1 := hk2.cell (hc 1 _ rfl) (by simp)
  have e2 := hk2.cell (hc 2 _ rfl) (by simp)
  have e3 := hk2.cell (hc 3 _ rfl) (by simp)
  have e4 := hk2.cell (hc 4 _ rfl) (by simp)
  have e5 := hk2.cell (hc 5 _ rfl) (by simp)
  have f0 := hk2.cell (hc' 0 _ rfl) (by simp)
  have f1 := hk2.cell (hc' 1 _ rfl) (by simp)
  have f2 := hk2.cell (hc' 2 _ rfl) (by simp)
  have f3 := hk2.cell (hc' 3 _ rfl) (by simp)
  have f4 := hk2.cell (hc' 4 _ rfl) (by simp)
  have f5 := hk2.cell (hc' 5 _ rfl) (by simp)
  rw [Nat.add_zero] at e0 f0
  obtain ⟨lv, hlv2⟩ : ∃ x, lvl op = x := ⟨_, rfl⟩
  obtain ⟨sg, hsg2⟩ : ∃ x, sgn op = x := ⟨_, rfl⟩
  rw [hlv2] at hlv hl o1 hcall hcall' hW2
  rw [hsg2] at hsg hl o0 hW2 ⊢
  have hszs := st_size sg
  obtain ⟨hlv1, hlv7⟩ := hlv
  have hwr : IntKind.i64.wrap (lv + 1) = lv + 1 := by simp [IntKind.wrap, IntKind.bits, IntKind.signed]; omega
  have hwr2 : wrap64 (lv + 1) = lv + 1 := IntWalk.wrap64_in _ (by omega)
  have hall : Hid (∀ W', Kp [] W2 W' → W'.cell? ⟨w.heap.size, 0, none⟩ = some (.map (some g)) ∧ W'.cell? ⟨w.heap.size + 1, 5, none⟩ = some (.slice (some ⟨b, off, none⟩) 2 cap) ∧ W'.cell? ⟨w.heap.size + 2, 0, none⟩ = some (.string (st sg)) ∧ W'.cell? ⟨w.heap.size + 2, 1, none⟩ = some (.int .i64 lv) ∧
      W'.cell? ⟨b, off, none⟩ = some (.int .i64 e.op) ∧ W'.cell? ⟨b, off + 1, none⟩ = some (.int .i64 e.kind) ∧ W'.cell? ⟨b, off + 2, none⟩ = some (.int .i64 e.num) ∧ W'.cell? ⟨b, off + 3, none⟩ = some (.string e.s) ∧ W'.cell? ⟨b, off + 4, none⟩ = some (.string e.field) ∧ W'.cell? ⟨b, off + 5, none⟩ = some v ∧
      W'.cell? ⟨b, off + 6, none⟩ = some (.int .i64 e'.op) ∧ W'.cell? ⟨b, off + 6 + 1, none⟩ = some (.int .i64 e'.kind) ∧ W'.cell? ⟨b, off + 6 + 2, none⟩ = some (.int .i64 e'.num) ∧ W'.cell? ⟨b, off + 6 + 3, none⟩ = some (.string e'.s) ∧ W'.cell? ⟨b, off + 6 + 4, none⟩ = some (.string e'.field) ∧ W'.cell? ⟨b, off + 6 + 5, none⟩ = some v') :=
    fun W' k => ⟨k.cell c0 (by simp), k.cell d5 (by simp), k.cell o0 (by simp), k.cell o1 (by simp), k.cell e0 (by simp), k.cell e1 (by simp), k.cell e2 (by simp), k.cell e3 (by simp), k.cell e4 (by simp), k.cell e5 (by simp), k.cell f0 (by simp), k.cell f1 (by simp), k.cell f2 (by simp), k.cell f3 (by simp), k.cell f4 (by simp), k.cell f5 (by simp)⟩
  have hcall3 : Hid (∀ W, Kp [] W2 W → Calls Tryz.prog 31 #[.agg #[.map (some g)], .agg #[.int .i64 e.op, .int .i64 e.kind, .int .i64 e.num, .string e.s, .string e.field, v], .int .i64 lv] W (StrRes t W)) := fun W k => hcall.out W (hk2.trans k)
  have hcall4 : Hid (∀ W, Kp [] W2 W → Calls Tryz.prog 31 #[.agg #[.map (some g)], .agg #[.int .i64 e'.op, .int .i64 e'.kind, .int .i64 e'.num, .string e'.s, .string e'.field, v'], .int .i64 (lv + 1)] W (StrRes t' W)) := fun W k => hcall'.out W (hk2.trans k)
  unfold opV at hl
  have hl2 := hl
  rw [← hW1] at hl2
  replace hl := Lib.hid hl
  replace hB1 := Lib.hid hB1
  replace hB2 := Lib.hid hB2
  replace hB3 := Lib.hid hB3
  replace hW1 := Lib.hid hW1
  replace hW2 := Lib.hid hW2
  replace hk2 := Lib.hid hk2
  replace hz1 := Lib.hid hz1
  have n1 : ¬ op = 1 := by omega
  have n2 : ¬ op = 2 := by omega
  have n3 : ¬ op = 3 := by omega
  have n4 : ¬ op = 4 := by omega
  have n5 : ¬ op = 5 := by omega
  have n6 : ¬ op = 6 := by omega
  have n7 : ¬ op = 7 := by omega
  clear c0 d5 o0 o1 e0 e1 e2 e3 e4 e5 f0 f1 f2 f3 f4 f5 hc hc' hcall hcall' hlv2 hsg2 hA hk1 hkO
  go_enter Tryz.func15, Tryz.ntmps15
  go_wp2_with fail
  have hW12 : Hid ((((w.alloc (.cells #[.map (some g)] 45)).alloc (.cells #[.int .i64 op, .int .i64 kind, .int .i64 n, .string s, .string f, .slice (some ⟨b, off, none⟩) 2 cap] 24)).alloc (.cells #[.string (st sg), .int .i64 lv] 68)) = W2) := by show _ = _; rw [hW1.out, hW2.out]
  rw [show (st sg) = ({ data := sg.toArray } : ByteArray) from rfl] at hW12
  rw [hW12.out]
  obtain ⟨gx, hgx⟩ : ∃ x, w.heap.size = x := ⟨_, rfl⟩
  rw [hgx] at hall ⊢
  have hq1 : ¬ 9223372036854775807 < t.length + 1 := by omega
  have hq2 : ¬ 9223372036854775807 < t.length + 1 + sg.length := by omega
  have hq3 : ¬ 9223372036854775807 < t.length + 1 + sg.length + 1 := by omega
  have hq4 : ¬ 9223372036854775807 < t.length + 1 + sg.length + 1 + t'.length := by omega
  go_region_held3 (fun W' => W'.cell? ⟨gx, 0, none⟩ = some (.map (some g)) ∧ W'.cell? ⟨gx + 1, 5, none⟩ = some (.slice (some ⟨b, off, none⟩) 2 cap) ∧ W'.cell? ⟨gx + 2, 0, none⟩ = some (.string (st sg)) ∧ W'.cell? ⟨gx + 2, 1, none⟩ = some (.int .i64 lv) ∧
      W'.cell? ⟨b, off, none⟩ = some (.int .i64 e.op) ∧ W'.cell? ⟨b, off + 1, none⟩ = some (.int .i64 e.kind) ∧ W'.cell? ⟨b, off + 2, none⟩ = some (.int .i64 e.num) ∧ W'.cell? ⟨b, off + 3, none⟩ = some (.string e.s) ∧ W'.cell? ⟨b, off + 4, none⟩ = some (.string e.field) ∧ W'.cell? ⟨b, off + 5, none⟩ = some v ∧
      W'.cell? ⟨b, off + 6, none⟩ = some (.int .i64 e'.op) ∧ W'.cell? ⟨b, off + 6 + 1, none⟩ = some (.int .i64 e'.kind) ∧ W'.cell? ⟨b, off + 6 + 2, none⟩ = some (.int .i64 e'.num) ∧ W'.cell? ⟨b, off + 6 + 3, none⟩ = some (.string e'.s) ∧ W'.cell? ⟨b, off + 6 + 4, none⟩ = some (.string e'.field) ∧ W'.cell? ⟨b, off + 6 + 5, none⟩ = some v')
    (first | exact hall.out _ (Kp.refl _ _) | exact hall.out _ (Kp.refl _ _).drew | exact hall.out _ hk5.out | exact hall.out _ hk6.out)
    (first
    | (go_at_call 31; refine (hcall4.out _ hk5.out).mono ?_; rintro r w6 ⟨rfl, hk6⟩; replace hk6 := Lib.hid (hk5.out.trans hk6))
    | (go_at_call 31; refine (hcall3.out _ (Kp.refl [] W2).drew).mono ?_; rintro r w5 ⟨rfl, hk5⟩; replace hk5 := Lib.hid ((Kp.refl [] W2).drew.trans hk5)))
  all_goals
    go_wp2_with fail
    go_ret
    exact ⟨ret_str (by rw [← st_app, ← st_app, ← st_app, ← st_app]; rfl), hk2.out.trans hk6.out⟩
end Go.Proofs.YtebmaclopkocgaaGreatDoor
