import Derived.Test.YtebmaclopkocgaaGreatDoorPt5
import Derived.Test.YtebmaclopkocgaaGreatDoorTx5
import Derived.Deep.RegionHeld3
set_option linter.unusedSimpArgs false
set_option linter.unusedVariables false
namespace Go.Proofs.YtebmaclopkocgaaGreatDoor
open Go.RowKit

def ops (g : Nat) : Value := .agg #[.map (some g)]
/-- What is around: the operators and the library's table, in an older world. -/
structure Ar (g : Nat) (w : World) : Prop where
  ops : OpsAt g w
  tab : TabI w
theorem Ar.kp {g : Nat} {w w' : World} (h : Ar g w) (k : Kp [] w w') : Ar g w' := ⟨h.ops.kp k, h.tab.kp k⟩
def StrRes (l : List UInt8) (w : World) (r : Ending) (w' : World) : Prop := r = .returned (.string (st l)) ∧ Kp [] w w'
def TxtC (e : Ex) : Prop := ∀ (w0 w : World) (g : Nat) (v : Value), exsSl w0 v e.args → Kp [] w0 w → Ar g w0 → e.well = true → e.cnt ≤ 500 →
  Calls Tryz.prog 15 #[ops g, exVal e v] w (StrRes e.txt w)
theorem two_no {op : Int} (h : ¬ (8 ≤ op ∧ op ≤ 21)) : isTwo op = false := by
  unfold isTwo; simp; omega
theorem two_yes {op : Int} (h : 8 ≤ op ∧ op ≤ 21) : isTwo op = true := by
  unfold isTwo; simp; omega

set_option maxRecDepth 100000 in
set_option maxHeartbeats 1000000 in
theorem operand_c (e : Ex) (IH : TxtC e) (least : Int) (w0 w : World) (g : Nat) (v : Value) (hv : exsSl w0 v e.args) (hk0 : Kp [] w0 w) (hA : Ar g w0) (hw : e.well = true) (hc : e.cnt ≤ 500) :
    Calls Tryz.prog 31 #[ops g, exVal e v, .int .i64 least] w (StrRes (par e.op least e.txt) w) := by
  obtain ⟨q, cap, rfl⟩ := hv.val
  have hln := txt_len e hw
  have hk1 : Kp [] w ((w.alloc (.cells #[.map (some g)] 45)).alloc (.cells #[.int .i64 e.op, .int .i64 e.kind, .int .i64 e.num, .string e.s, .string e.field, .slice q e.args.length cap] 24)) := ((Kp.refl [] w).alloc _).alloc _
  have hcall : Hid (∀ W, Kp [] w W → Calls Tryz.prog 15 #[ops g, exVal e (.slice q e.args.length cap)] W (StrRes e.txt W)) := fun W k => IH w0 W g _ hv (hk0.trans k) hA hw hc
  have hO := hA.ops.kp (hk0.trans hk1)
  have hsz := st_size e.txt
  have hbd : e.txt.length ≤ 100000 := by omega
  obtain ⟨t, ht⟩ : ∃ t, e.txt = t := ⟨_, rfl⟩
  unfold exVal ops at hcall ⊢
  obtain ⟨len, hlen⟩ : ∃ len, e.args.length = len := ⟨_, rfl⟩
  rw [hlen] at hcall hk1 hO ⊢
  rw [ht] at hcall hsz hbd ⊢
  replace hk1 := Lib.hid hk1
  clear hlen hln hv hA hk0 IH ht hw hc
  by_cases h2 : 8 ≤ e.op ∧ e.op ≤ 21
  · have hl := (look_two _ g hO e.op h2.1 h2.2).1
    have hp : Hid (par e.op least t = if lvl e.op < least then [40] ++ t ++ [41] else t) := by show _ = _; simp [par, two_yes h2]
    clear hO h2
    obtain ⟨lv, hlv⟩ : ∃ x, lvl e.op = x := ⟨_, rfl⟩
    obtain ⟨sg, hsg⟩ : ∃ x, sgn e.op = x := ⟨_, rfl⟩
    rw [hlv, hsg] at hl
    rw [hlv] at hp
    clear hlv hsg
    unfold opV at hl
    by_cases hlt : lv < least
    · have hp2 : Hid (par e.op least t = [40] ++ t ++ [41]) := by show _ = _; rw [hp.out, if_pos hlt]
      go_enter Tryz.func31, Tryz.ntmps31
      go_wp2_with (go_at_call 15; refine (hcall.out _ (hk1.out.alloc _)).mono ?_; rintro r w2 ⟨rfl, hk2⟩)
      go_ret
      exact ⟨ret_str (by rw [hp2.out, ← st_app, ← st_app]; rfl), (hk1.out.alloc _).trans hk2⟩
    · have hp2 : Hid (par e.op least t = t) := by show _ = _; rw [hp.out, if_neg hlt]
      go_enter Tryz.func31, Tryz.ntmps31
      go_wp2_with (go_at_call 15; refine (hcall.out _ (hk1.out.alloc _)).mono ?_; rintro r w2 ⟨rfl, hk2⟩)
      go_ret
      exact ⟨ret_str (by rw [hp2.out]), (hk1.out.alloc _).trans hk2⟩
  · have hl := look_one _ g hO e.op h2
    have hp2 : Hid (par e.op least t = t) := by show _ = _; simp [par, two_no h2]
    clear hO h2
    unfold zeroOp at hl
    go_enter Tryz.func31, Tryz.ntmps31
    go_wp2_with (go_at_call 15; refine (hcall.out _ (hk1.out.alloc _)).mono ?_; rintro r w2 ⟨rfl, hk2⟩)
    go_ret
    exact ⟨ret_str (by rw [hp2.out]), (hk1.out.alloc _).trans hk2⟩

set_option maxRecDepth 100000 in
theorem text_1 (kind n : Int) (s f : ByteArray) (q : Option Addr) (len cap : Nat) (g : Nat) (w : World) (hT : TabI w) (h0 : 0 ≤ n) (h1 : n ≤ 2147483647) :
    Calls Tryz.prog 15 #[.agg #[.map (some g)], .agg #[.int .i64 1, .int .i64 kind, .int .i64 n, .string s, .string f, .slice q len cap]] w (StrRes (conT kind n) w) := by
  have hk1 : Kp [] w ((w.alloc (.cells #[.map (some g)] 45)).alloc (.cells #[.int .i64 1, .int .i64 kind, .int .i64 n, .string s, .string f, .slice q len cap] 24)) := ((Kp.refl [] w).alloc _).alloc _
  replace hk1 := Lib.hid hk1
  go_enter Tryz.func15, Tryz.ntmps15
  go_wp2_with (go_at_call 22; refine (constant_c kind n (by omega) (by omega) _ (hT.kp hk1.out)).mono ?_; rintro r w2 ⟨rfl, hk2⟩)
  go_ret
  exact ⟨rfl, hk1.out.trans hk2⟩
set_option maxRecDepth 100000 in
theorem text_2 (kind n : Int) (s f : ByteArray) (q : Option Addr) (len cap : Nat) (g : Nat) (w : World) :
    Calls Tryz.prog 15 #[.agg #[.map (some g)], .agg #[.int .i64 2, .int .i64 kind, .int .i64 n, .string s, .string f, .slice q len cap]] w (StrRes (bs s) w) := by
  go_enter Tryz.func15, Tryz.ntmps15
  go_wp2_with fail
  go_ret
  exact ⟨rfl, ((Kp.refl [] w).alloc _).alloc _⟩
set_option maxRecDepth 100000 in
theorem text_3 (kind n : Int) (s f : ByteArray) (q : Option Addr) (len cap : Nat) (g : Nat) (w : World) (hs : s.size ≤ 12) (hf : f.size ≤ 12) :
    Calls Tryz.prog 15 #[.agg #[.map (some g)], .agg #[.int .i64 3, .int .i64 kind, .int .i64 n, .string s, .string f, .slice q len cap]] w (StrRes (bs s ++ [46] ++ bs f) w) := by
  go_enter Tryz.func15, Tryz.ntmps15
  go_wp2_with fail
  go_ret
  exact ⟨ret_str (by rw [← st_app, ← st_app]; rfl), ((Kp.refl [] w).alloc _).alloc _⟩
set_option maxRecDepth 100000 in
set_option maxHeartbeats 2000000 in
theorem text_4 (kind n : Int) (s f : ByteArray) (q : Option Addr) (len cap : Nat) (g : Nat) (w : World) (hs : s.size ≤ 12) (t : List UInt8) (ht : t.length ≤ 100000)
    (hcall : Hid (∀ W, Kp [] w W → Calls Tryz.prog 30 #[.agg #[.map (some g)], .slice q len cap] W (StrRes t W))) :
    Calls Tryz.prog 15 #[.agg #[.map (some g)], .agg #[.int .i64 4, .int .i64 kind, .int .i64 n, .string s, .string f, .slice q len cap]] w (StrRes (bs s ++ [91] ++ t ++ [93]) w) := by
  have hsz := st_size t
  have hB1 := Blk.new w 45 #[.map (some g)]
  have hB2 := Blk.new (w.alloc (.cells #[.map (some g)] 45)) 24 #[.int .i64 4, .int .i64 kind, .int .i64 n, .string s, .string f, .slice q len cap]
  obtain ⟨W1, hW1⟩ : ∃ W1, (w.alloc (.cells #[.map (some g)] 45)).alloc (.cells #[.int .i64 4, .int .i64 kind, .int .i64 n, .string s, .string f, .slice q len cap] 24) = W1 := ⟨_, rfl⟩
  have hk1 : Kp [] w W1 := hW1 ▸ ((Kp.refl [] w).alloc _).alloc _
  replace hB1 := hB1.alloc (.cells #[.int .i64 4, .int .i64 kind, .int .i64 n, .string s, .string f, .slice q len cap] 24)
  simp only [World.size_alloc] at hB2
  rw [hW1] at hB1 hB2
  have c0 := hB1.cell 0 (v := .map (some g)) rfl
  have d3 := hB2.cell 3 (v := .string s) rfl
  have d5 := hB2.cell 5 (v := .slice q len cap) rfl
  have hall : Hid (∀ W', Kp [] W1 W' → W'.cell? ⟨w.heap.size, 0, none⟩ = some (.map (some g)) ∧ W'.cell? ⟨w.heap.size + 1, 3, none⟩ = some (.string s) ∧ W'.cell? ⟨w.heap.size + 1, 5, none⟩ = some (.slice q len cap)) :=
    fun W' k => ⟨k.cell c0 (by simp), k.cell d3 (by simp), k.cell d5 (by simp)⟩
  have hcall2 : Hid (∀ W, Kp [] W1 W → Calls Tryz.prog 30 #[.agg #[.map (some g)], .slice q len cap] W (StrRes t W)) := fun W k => hcall.out W (hk1.trans k)
  replace hB1 := Lib.hid hB1
  replace hB2 := Lib.hid hB2
  replace hW1 := Lib.hid hW1
  replace hk1 := Lib.hid hk1
  clear c0 d3 d5 hcall
  go_enter Tryz.func15, Tryz.ntmps15
  go_wp2_with fail
  rw [hW1.out]
  obtain ⟨gx, hgx⟩ : ∃ x, w.heap.size = x := ⟨_, rfl⟩
  rw [hgx] at hall ⊢
  have hcall3 := Lib.hid (hcall2.out _ (Kp.refl [] W1).drew)
  have hq1 : ¬ 9223372036854775807 < s.size + 1 := by omega
  have hq2 : ¬ 9223372036854775807 < s.size + 1 + t.length := by omega
  have hq3 : ¬ 9223372036854775807 < s.size + 1 + t.length + 1 := by omega
  go_region_held3 (fun W' => W'.cell? ⟨gx, 0, none⟩ = some (.map (some g)) ∧ W'.cell? ⟨gx + 1, 3, none⟩ = some (.string s) ∧ W'.cell? ⟨gx + 1, 5, none⟩ = some (.slice q len cap))
    (first | exact hall.out _ (Kp.refl _ _) | exact hall.out _ (Kp.refl _ _).drew | exact hall.out _ hk5.out)
    (first | (go_at_call 30; refine hcall3.out.mono ?_; rintro r w5 ⟨rfl, hk5⟩; replace hk5 := Lib.hid ((Kp.refl [] W1).drew.trans hk5)))
  all_goals
    go_wp2_with fail
    go_ret
    exact ⟨ret_str (by rw [← st_app, ← st_app, ← st_app]; rfl), hk1.out.trans hk5.out⟩
set_option maxRecDepth 100000 in
set_option maxHeartbeats 2000000 in
theorem text_5 (kind n : Int) (s f : ByteArray) (q : Option Addr) (len cap : Nat) (g : Nat) (w : World) (hs : s.size ≤ 12) (t : List UInt8) (ht : t.length ≤ 100000)
    (hcall : Hid (∀ W, Kp [] w W → Calls Tryz.prog 30 #[.agg #[.map (some g)], .slice q len cap] W (StrRes t W))) :
    Calls Tryz.prog 15 #[.agg #[.map (some g)], .agg #[.int .i64 5, .int .i64 kind, .int .i64 n, .string s, .string f, .slice q len cap]] w (StrRes (bs s ++ [40] ++ t ++ [41]) w) := by
  have hsz := st_size t
  have hB1 := Blk.new w 45 #[.map (some g)]
  have hB2 := Blk.new (w.alloc (.cells #[.map (some g)] 45)) 24 #[.int .i64 5, .int .i64 kind, .int .i64 n, .string s, .string f, .slice q len cap]
  obtain ⟨W1, hW1⟩ : ∃ W1, (w.alloc (.cells #[.map (some g)] 45)).alloc (.cells #[.int .i64 5, .int .i64 kind, .int .i64 n, .string s, .string f, .slice q len cap] 24) = W1 := ⟨_, rfl⟩
  have hk1 : Kp [] w W1 := hW1 ▸ ((Kp.refl [] w).alloc _).alloc _
  replace hB1 := hB1.alloc (.cells #[.int .i64 5, .int .i64 kind, .int .i64 n, .string s, .string f, .slice q len cap] 24)
  simp only [World.size_alloc] at hB2
  rw [hW1] at hB1 hB2
  have c0 := hB1.cell 0 (v := .map (some g)) rfl
  have d3 := hB2.cell 3 (v := .string s) rfl
  have d5 := hB2.cell 5 (v := .slice q len cap) rfl
  have hall : Hid (∀ W', Kp [] W1 W' → W'.cell? ⟨w.heap.size, 0, none⟩ = some (.map (some g)) ∧ W'.cell? ⟨w.heap.size + 1, 3, none⟩ = some (.string s) ∧ W'.cell? ⟨w.heap.size + 1, 5, none⟩ = some (.slice q len cap)) :=
    fun W' k => ⟨k.cell c0 (by simp), k.cell d3 (by simp), k.cell d5 (by simp)⟩
  have hcall2 : Hid (∀ W, Kp [] W1 W → Calls Tryz.prog 30 #[.agg #[.map (some g)], .slice q len cap] W (StrRes t W)) := fun W k => hcall.out W (hk1.trans k)
  replace hB1 := Lib.hid hB1
  replace hB2 := Lib.hid hB2
  replace hW1 := Lib.hid hW1
  replace hk1 := Lib.hid hk1
  clear c0 d3 d5 hcall
  go_enter Tryz.func15, Tryz.ntmps15
  go_wp2_with fail
  rw [hW1.out]
  obtain ⟨gx, hgx⟩ : ∃ x, w.heap.size = x := ⟨_, rfl⟩
  rw [hgx] at hall ⊢
  have hcall3 := Lib.hid (hcall2.out _ (Kp.refl [] W1).drew)
  have hq1 : ¬ 9223372036854775807 < s.size + 1 := by omega
  have hq2 : ¬ 9223372036854775807 < s.size + 1 + t.length := by omega
  have hq3 : ¬ 9223372036854775807 < s.size + 1 + t.length + 1 := by omega
  go_region_held3 (fun W' => W'.cell? ⟨gx, 0, none⟩ = some (.map (some g)) ∧ W'.cell? ⟨gx + 1, 3, none⟩ = some (.string s) ∧ W'.cell? ⟨gx + 1, 5, none⟩ = some (.slice q len cap))
    (first | exact hall.out _ (Kp.refl _ _) | exact hall.out _ (Kp.refl _ _).drew | exact hall.out _ hk5.out)
    (first | (go_at_call 30; refine hcall3.out.mono ?_; rintro r w5 ⟨rfl, hk5⟩; replace hk5 := Lib.hid ((Kp.refl [] W1).drew.trans hk5)))
  all_goals
    go_wp2_with fail
    go_ret
    exact ⟨ret_str (by rw [← st_app, ← st_app, ← st_app]; rfl), hk1.out.trans hk5.out⟩
end Go.Proofs.YtebmaclopkocgaaGreatDoor
