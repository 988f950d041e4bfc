import Derived.Test.YtebmaclopkocgaaGreatDoorPr2
import Derived.Test.YtebmaclopkocgaaGreatDoorPt9
set_option linter.unusedSimpArgs false
set_option linter.unusedVariables false
namespace Go.Proofs.YtebmaclopkocgaaGreatDoor
open Go.RowKit

theorem con_is {kind n : Int} (h : conB kind n = true) : isConB kind n = true := by
  unfold conB at h
  simp only [Bool.or_eq_true, Bool.and_eq_true, beq_iff_eq, decide_eq_true_eq] at h
  unfold isConB
  rcases h with ⟨h1, h2⟩ | ⟨h1, h2⟩
  · subst h1; simp; omega
  · rcases h1 with rfl | rfl
    · simp; omega
    · simp; omega

set_option maxRecDepth 100000 in
theorem rtext_1 (kind n : Int) (s f : ByteArray) (q : Option Addr) (len cap : Nat) (w : World) (h0 : 0 ≤ n) (h1 : n ≤ 2147483647) :
    Calls Tryz.prog 9 #[.agg #[.int .i64 1, .int .i64 kind, .int .i64 n, .string s, .string f, .slice q len cap]] w (StrRes (rconT kind n) w) := by
  have hk1 : Kp [] w (w.alloc (.cells #[.int .i64 1, .int .i64 kind, .int .i64 n, .string s, .string f, .slice q len cap] 24)) := (Kp.refl [] w).alloc _
  replace hk1 := Lib.hid hk1
  go_enter Tryz.func9, Tryz.ntmps9
  go_wp2_with (go_at_call 11; refine (rconst_c kind n (by omega) (by omega) _).mono ?_; rintro r w2 ⟨rfl, hk2⟩)
  go_ret
  exact ⟨rfl, hk1.out.trans hk2⟩
set_option maxRecDepth 100000 in
theorem rtext_2 (kind n : Int) (s f : ByteArray) (q : Option Addr) (len cap : Nat) (w : World) :
    Calls Tryz.prog 9 #[.agg #[.int .i64 2, .int .i64 kind, .int .i64 n, .string s, .string f, .slice q len cap]] w (StrRes (bs s) w) := by
  go_enter Tryz.func9, Tryz.ntmps9
  go_wp2_with fail
  go_ret
  exact ⟨rfl, (Kp.refl [] w).alloc _⟩
set_option maxRecDepth 100000 in
theorem rtext_3 (kind n : Int) (s f : ByteArray) (q : Option Addr) (len cap : Nat) (w : World) (hs : s.size ≤ 12) (hf : f.size ≤ 12) :
    Calls Tryz.prog 9 #[.agg #[.int .i64 3, .int .i64 kind, .int .i64 n, .string s, .string f, .slice q len cap]] w (StrRes (bs s ++ [46] ++ bs f) w) := by
  go_enter Tryz.func9, Tryz.ntmps9
  go_wp2_with fail
  go_ret
  exact ⟨ret_str (by rw [← st_app, ← st_app]; rfl), (Kp.refl [] w).alloc _⟩
set_option maxRecDepth 100000 in
set_option maxHeartbeats 2000000 in
theorem rtext_4 (kind n : Int) (s f : ByteArray) (q : Option Addr) (len cap : Nat) (w : World) (hs : s.size ≤ 12) (t : List UInt8) (ht : t.length ≤ 100000)
    (hcall : Hid (∀ W, Kp [] w W → Calls Tryz.prog 17 #[.slice q len cap] W (StrRes t W))) :
    Calls Tryz.prog 9 #[.agg #[.int .i64 4, .int .i64 kind, .int .i64 n, .string s, .string f, .slice q len cap]] w (StrRes (bs s ++ [91] ++ t ++ [93]) w) := by
  have hsz := st_size t
  have hB2 := Blk.new w 24 #[.int .i64 4, .int .i64 kind, .int .i64 n, .string s, .string f, .slice q len cap]
  obtain ⟨W1, hW1⟩ : ∃ W1, w.alloc (.cells #[.int .i64 4, .int .i64 kind, .int .i64 n, .string s, .string f, .slice q len cap] 24) = W1 := ⟨_, rfl⟩
  have hk1 : Kp [] w W1 := hW1 ▸ (Kp.refl [] w).alloc _
  rw [hW1] at hB2
  have d3 := hB2.cell 3 (v := .string s) rfl
  have d5 := hB2.cell 5 (v := .slice q len cap) rfl
  have hall : Hid (∀ W', Kp [] W1 W' → W'.cell? ⟨w.heap.size, 3, none⟩ = some (.string s) ∧ W'.cell? ⟨w.heap.size, 5, none⟩ = some (.slice q len cap)) :=
    fun W' k => ⟨k.cell d3 (by simp), k.cell d5 (by simp)⟩
  have hcall2 : Hid (∀ W, Kp [] W1 W → Calls Tryz.prog 17 #[.slice q len cap] W (StrRes t W)) := fun W k => hcall.out W (hk1.trans k)
  replace hB2 := Lib.hid hB2
  replace hW1 := Lib.hid hW1
  replace hk1 := Lib.hid hk1
  clear d3 d5 hcall
  go_enter Tryz.func9, Tryz.ntmps9
  go_wp2_with fail
  rw [hW1.out]
  obtain ⟨gx, hgx⟩ : ∃ x, w.heap.size = x := ⟨_, rfl⟩
  rw [hgx] at hall ⊢
  have hcall3 := Lib.hid (hcall2.out _ (Kp.refl [] W1).drew)
  have hq1 : ¬ 9223372036854775807 < s.size + 1 := by omega
  have hq2 : ¬ 9223372036854775807 < s.size + 1 + t.length := by omega
  have hq3 : ¬ 9223372036854775807 < s.size + 1 + t.length + 1 := by omega
  go_region_held3 (fun W' => W'.cell? ⟨gx, 3, none⟩ = some (.string s) ∧ W'.cell? ⟨gx, 5, none⟩ = some (.slice q len cap))
    (first | exact hall.out _ (Kp.refl _ _) | exact hall.out _ (Kp.refl _ _).drew | exact hall.out _ hk5.out)
    (first | (go_at_call 17; refine hcall3.out.mono ?_; rintro r w5 ⟨rfl, hk5⟩; replace hk5 := Lib.hid ((Kp.refl [] W1).drew.trans hk5)))
  all_goals
    go_wp2_with fail
    go_ret
    exact ⟨ret_str (by rw [← st_app, ← st_app, ← st_app]; rfl), hk1.out.trans hk5.out⟩
set_option maxRecDepth 100000 in
set_option maxHeartbeats 2000000 in
theorem rtext_5 (kind n : Int) (s f : ByteArray) (q : Option Addr) (len cap : Nat) (w : World) (hs : s.size ≤ 12) (t : List UInt8) (ht : t.length ≤ 100000)
    (hcall : Hid (∀ W, Kp [] w W → Calls Tryz.prog 17 #[.slice q len cap] W (StrRes t W))) :
    Calls Tryz.prog 9 #[.agg #[.int .i64 5, .int .i64 kind, .int .i64 n, .string s, .string f, .slice q len cap]] w (StrRes (bs s ++ [40] ++ t ++ [41]) w) := by
  have hsz := st_size t
  have hB2 := Blk.new w 24 #[.int .i64 5, .int .i64 kind, .int .i64 n, .string s, .string f, .slice q len cap]
  obtain ⟨W1, hW1⟩ : ∃ W1, w.alloc (.cells #[.int .i64 5, .int .i64 kind, .int .i64 n, .string s, .string f, .slice q len cap] 24) = W1 := ⟨_, rfl⟩
  have hk1 : Kp [] w W1 := hW1 ▸ (Kp.refl [] w).alloc _
  rw [hW1] at hB2
  have d3 := hB2.cell 3 (v := .string s) rfl
  have d5 := hB2.cell 5 (v := .slice q len cap) rfl
  have hall : Hid (∀ W', Kp [] W1 W' → W'.cell? ⟨w.heap.size, 3, none⟩ = some (.string s) ∧ W'.cell? ⟨w.heap.size, 5, none⟩ = some (.slice q len cap)) :=
    fun W' k => ⟨k.cell d3 (by simp), k.cell d5 (by simp)⟩
  have hcall2 : Hid (∀ W, Kp [] W1 W → Calls Tryz.prog 17 #[.slice q len cap] W (StrRes t W)) := fun W k => hcall.out W (hk1.trans k)
  replace hB2 := Lib.hid hB2
  replace hW1 := Lib.hid hW1
  replace hk1 := Lib.hid hk1
  clear d3 d5 hcall
  go_enter Tryz.func9, Tryz.ntmps9
  go_wp2_with fail
  rw [hW1.out]
  obtain ⟨gx, hgx⟩ : ∃ x, w.heap.size = x := ⟨_, rfl⟩
  rw [hgx] at hall ⊢
  have hcall3 := Lib.hid (hcall2.out _ (Kp.refl [] W1).drew)
  have hq1 : ¬ 9223372036854775807 < s.size + 1 := by omega
  have hq2 : ¬ 9223372036854775807 < s.size + 1 + t.length := by omega
  have hq3 : ¬ 9223372036854775807 < s.size + 1 + t.length + 1 := by omega
  go_region_held3 (fun W' => W'.cell? ⟨gx, 3, none⟩ = some (.string s) ∧ W'.cell? ⟨gx, 5, none⟩ = some (.slice q len cap))
    (first | exact hall.out _ (Kp.refl _ _) | exact hall.out _ (Kp.refl _ _).drew | exact hall.out _ hk5.out)
    (first | (go_at_call 17; refine hcall3.out.mono ?_; rintro r w5 ⟨rfl, hk5⟩; replace hk5 := Lib.hid ((Kp.refl [] W1).drew.trans hk5)))
  all_goals
    go_wp2_with fail
    go_ret
    exact ⟨ret_str (by rw [← st_app, ← st_app, ← st_app]; rfl), hk1.out.trans hk5.out⟩
set_option maxRecDepth 100000 in
set_option maxHeartbeats 2000000 in
theorem rtext_6 (kind n : Int) (s f : ByteArray) (b off cap : Nat) (w : World) (e : Ex) (v : Value) (lv : Int) (B : Bool) (t : List UInt8) (ht : t.length ≤ 100000) (hcap : 1 ≤ cap) (hcap2 : cap ≤ 9223372036854775807)
    (hc : ∀ j u, (exV e v)[j]? = some u → w.cell? ⟨b, off + j, none⟩ = some u)
    (htwo : Hid (∀ W, Kp [] w W → Calls Tryz.prog 18 #[.agg #[.int .i64 e.op, .int .i64 e.kind, .int .i64 e.num, .string e.s, .string e.field, v]] W (fun r w' => r = .returned (.tuple #[.int .i64 lv, .bool B]) ∧ Kp [] W w')))
    (hcall : Hid (∀ W, Kp [] w W → Calls Tryz.prog 19 #[.agg #[.int .i64 e.op, .int .i64 e.kind, .int .i64 e.num, .string e.s, .string e.field, v], .bool B] W (StrRes t W))) :
    Calls Tryz.prog 9 #[.agg #[.int .i64 6, .int .i64 kind, .int .i64 n, .string s, .string f, .slice (some ⟨b, off, none⟩) 1 cap]] w (StrRes ([110, 111, 116, 32] ++ t) w) := by
  have hsz := st_size t
  have hB2 := Blk.new w 24 #[.int .i64 6, .int .i64 kind, .int .i64 n, .string s, .string f, .slice (some ⟨b, off, none⟩) 1 cap]
  obtain ⟨W1, hW1⟩ : ∃ W1, w.alloc (.cells #[.int .i64 6, .int .i64 kind, .int .i64 n, .string s, .string f, .slice (some ⟨b, off, none⟩) 1 cap] 24) = W1 := ⟨_, rfl⟩
  have hk1 : Kp [] w W1 := hW1 ▸ (Kp.refl [] w).alloc _
  rw [hW1] at hB2
  have d5 := hB2.cell 5 (v := .slice (some ⟨b, off, none⟩) 1 cap) rfl
  have hall : Hid (∀ W', Kp [] w W' → W'.cell? ⟨b, off, none⟩ = some (.int .i64 e.op) ∧ W'.cell? ⟨b, off + 1, none⟩ = some (.int .i64 e.kind) ∧ W'.cell? ⟨b, off + 2, none⟩ = some (.int .i64 e.num) ∧ W'.cell? ⟨b, off + 3, none⟩ = some (.string e.s) ∧ W'.cell? ⟨b, off + 4, none⟩ = some (.string e.field) ∧ W'.cell? ⟨b, off + 5, none⟩ = some v) :=
    fun W' k => ⟨k.cell (hc 0 _ rfl) (by simp), k.cell (hc 1 _ rfl) (by simp), k.cell (hc 2 _ rfl) (by simp), k.cell (hc 3 _ rfl) (by simp), k.cell (hc 4 _ rfl) (by simp), k.cell (hc 5 _ rfl) (by simp)⟩
  have hd : Hid (∀ W', Kp [] W1 W' → W'.cell? ⟨w.heap.size, 5, none⟩ = some (.slice (some ⟨b, off, none⟩) 1 cap)) := fun W' k => k.cell d5 (by simp)
  obtain ⟨e0, e1, e2, e3, e4, e5⟩ := hall.out _ hk1
  rw [← hW1] at e0 e1 e2 e3 e4 e5
  replace hB2 := Lib.hid hB2
  replace hW1 := Lib.hid hW1
  replace hk1 := Lib.hid hk1
  clear d5 hc
  go_enter Tryz.func9, Tryz.ntmps9
  go_wp2_with fail
  rw [hW1.out]
  refine (htwo.out _ hk1.out).mono ?_
  rintro r w2 ⟨rfl, hk2⟩
  have hk3 := Lib.hid (hk1.out.trans hk2)
  clear e0 e1 e2 e3 e4 e5
  obtain ⟨e0, e1, e2, e3, e4, e5⟩ := hall.out _ hk3.out
  have d5 := hd.out _ hk2
  clear hk2
  go_wp2_with fail
  refine (hcall.out _ hk3.out).mono ?_
  rintro r w4 ⟨rfl, hk4⟩
  have hk5 := Lib.hid (hk3.out.trans hk4)
  clear e0 e1 e2 e3 e4 e5 d5 hk4
  go_wp2_with fail
  go_ret
  exact ⟨ret_str (st_app [110, 111, 116, 32] t), hk5.out⟩
set_option maxRecDepth 100000 in
set_option maxHeartbeats 2000000 in
theorem rtext_7 (kind n : Int) (s f : ByteArray) (b off cap : Nat) (w : World) (e : Ex) (v : Value) (lv : Int) (B : Bool) (t : List UInt8) (ht : t.length ≤ 100000) (hcap : 1 ≤ cap) (hcap2 : cap ≤ 9223372036854775807)
    (hc : ∀ j u, (exV e v)[j]? = some u → w.cell? ⟨b, off + j, none⟩ = some u)
    (htwo : Hid (∀ W, Kp [] w W → Calls Tryz.prog 18 #[.agg #[.int .i64 e.op, .int .i64 e.kind, .int .i64 e.num, .string e.s, .string e.field, v]] W (fun r w' => r = .returned (.tuple #[.int .i64 lv, .bool B]) ∧ Kp [] W w')))
    (hcall : Hid (∀ W, Kp [] w W → Calls Tryz.prog 19 #[.agg #[.int .i64 e.op, .int .i64 e.kind, .int .i64 e.num, .string e.s, .string e.field, v], .bool B] W (StrRes t W))) :
    Calls Tryz.prog 9 #[.agg #[.int .i64 7, .int .i64 kind, .int .i64 n, .string s, .string f, .slice (some ⟨b, off, none⟩) 1 cap]] w (StrRes ([45] ++ t) w) := by
  have hsz := st_size t
  have hB2 := Blk.new w 24 #[.int .i64 7, .int .i64 kind, .int .i64 n, .string s, .string f, .slice (some ⟨b, off, none⟩) 1 cap]
  obtain ⟨W1, hW1⟩ : ∃ W1, w.alloc (.cells #[.int .i64 7, .int .i64 kind, .int .i64 n, .string s, .string f, .slice (some ⟨b, off, none⟩) 1 cap] 24) = W1 := ⟨_, rfl⟩
  have hk1 : Kp [] w W1 := hW1 ▸ (Kp.refl [] w).alloc _
  rw [hW1] at hB2
  have d5 := hB2.cell 5 (v := .slice (some ⟨b, off, none⟩) 1 cap) rfl
  have hall : Hid (∀ W', Kp [] w W' → W'.cell? ⟨b, off, none⟩ = some (.int .i64 e.op) ∧ W'.cell? ⟨b, off + 1, none⟩ = some (.int .i64 e.kind) ∧ W'.cell? ⟨b, off + 2, none⟩ = some (.int .i64 e.num) ∧ W'.cell? ⟨b, off + 3, none⟩ = some (.string e.s) ∧ W'.cell? ⟨b, off + 4, none⟩ = some (.string e.field) ∧ W'.cell? ⟨b, off + 5, none⟩ = some v) :=
    fun W' k => ⟨k.cell (hc 0 _ rfl) (by simp), k.cell (hc 1 _ rfl) (by simp), k.cell (hc 2 _ rfl) (by simp), k.cell (hc 3 _ rfl) (by simp), k.cell (hc 4 _ rfl) (by simp), k.cell (hc 5 _ rfl) (by simp)⟩
  have hd : Hid (∀ W', Kp [] W1 W' → W'.cell? ⟨w.heap.size, 5, none⟩ = some (.slice (some ⟨b, off, none⟩) 1 cap)) := fun W' k => k.cell d5 (by simp)
  obtain ⟨e0, e1, e2, e3, e4, e5⟩ := hall.out _ hk1
  rw [← hW1] at e0 e1 e2 e3 e4 e5
  replace hB2 := Lib.hid hB2
  replace hW1 := Lib.hid hW1
  replace hk1 := Lib.hid hk1
  clear d5 hc
  go_enter Tryz.func9, Tryz.ntmps9
  go_wp2_with fail
  rw [hW1.out]
  refine (htwo.out _ hk1.out).mono ?_
  rintro r w2 ⟨rfl, hk2⟩
  have hk3 := Lib.hid (hk1.out.trans hk2)
  clear e0 e1 e2 e3 e4 e5
  obtain ⟨e0, e1, e2, e3, e4, e5⟩ := hall.out _ hk3.out
  have d5 := hd.out _ hk2
  clear hk2
  go_wp2_with fail
  refine (hcall.out _ hk3.out).mono ?_
  rintro r w4 ⟨rfl, hk4⟩
  have hk5 := Lib.hid (hk3.out.trans hk4)
  clear e0 e1 e2 e3 e4 e5 d5 hk4
  go_wp2_with fail
  go_ret
  exact ⟨ret_str (st_app [45] t), hk5.out⟩
end Go.Proofs.YtebmaclopkocgaaGreatDoor
