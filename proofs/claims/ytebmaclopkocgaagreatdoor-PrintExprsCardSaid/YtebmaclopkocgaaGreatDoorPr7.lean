import Derived.Test.YtebmaclopkocgaaGreatDoorPr4
set_option linter.unusedSimpArgs false
set_option linter.unusedVariables false
namespace Go.Proofs.YtebmaclopkocgaaGreatDoor
open Go.RowKit

set_option maxRecDepth 100000 in
set_option maxHeartbeats 4000000 in
theorem rtwo_TT (op kind n : Int) (h8 : 8 ≤ op) (h21 : op ≤ 21) (s f : ByteArray) (b off cap : Nat) (w : World) (e e' : Ex) (v v' : Value) (lv la lb : Int) (sg t t' : List UInt8) (ht : t.length ≤ 100000) (ht' : t'.length ≤ 100000) (hsl : sg.length ≤ 3) (hcap : 2 ≤ cap) (hcap2 : cap ≤ 9223372036854775807)
    (hc : TwoAt w b off e e' v v') (hla : la < lv) (hlb : lb ≤ lv) 
    (hsg : Hid (∀ W, Kp [] w W → Calls Tryz.prog 20 #[.int .i64 op] W (fun r w' => r = .returned (.tuple #[.int .i64 lv, .string (st sg)]) ∧ Kp [] W w')))
    (h0 : Hid (∀ W, Kp [] w W → Calls Tryz.prog 18 #[.agg #[.int .i64 e.op, .int .i64 e.kind, .int .i64 e.num, .string e.s, .string e.field, v]] W (fun r w' => r = .returned (.tuple #[.int .i64 la, .bool true]) ∧ Kp [] W w')))
    (h1 : Hid (∀ W, Kp [] w W → Calls Tryz.prog 18 #[.agg #[.int .i64 e'.op, .int .i64 e'.kind, .int .i64 e'.num, .string e'.s, .string e'.field, v']] W (fun r w' => r = .returned (.tuple #[.int .i64 lb, .bool true]) ∧ Kp [] W w')))
    (ho : Hid (∀ W, Kp [] w W → Calls Tryz.prog 19 #[.agg #[.int .i64 e.op, .int .i64 e.kind, .int .i64 e.num, .string e.s, .string e.field, v], .bool true] W (StrRes t W)))
    (ho' : Hid (∀ W, Kp [] w W → Calls Tryz.prog 19 #[.agg #[.int .i64 e'.op, .int .i64 e'.kind, .int .i64 e'.num, .string e'.s, .string e'.field, v'], .bool true] W (StrRes t' W))) :
    Calls Tryz.prog 9 #[.agg #[.int .i64 op, .int .i64 kind, .int .i64 n, .string s, .string f, .slice (some ⟨b, off, none⟩) 2 cap]] w (StrRes (t ++ [32] ++ sg ++ [32] ++ t') w) := by
  have hsz := st_size t
  have hsz' := st_size t'
  have hszs := st_size sg
  have hB2 := Blk.new w 24 #[.int .i64 op, .int .i64 kind, .int .i64 n, .string s, .string f, .slice (some ⟨b, off, none⟩) 2 cap]
  obtain ⟨W1, hW1⟩ : ∃ W1, w.alloc (.cells #[.int .i64 op, .int .i64 kind, .int .i64 n, .string s, .string f, .slice (some ⟨b, off, none⟩) 2 cap] 24) = W1 := ⟨_, rfl⟩
  have hk1 : Kp [] w W1 := hW1 ▸ (Kp.refl [] w).alloc _
  rw [hW1] at hB2
  have d5 := hB2.cell 5 (v := .slice (some ⟨b, off, none⟩) 2 cap) rfl
  have hd : Hid (∀ W', Kp [] W1 W' → W'.cell? ⟨w.heap.size, 5, none⟩ = some (.slice (some ⟨b, off, none⟩) 2 cap)) := fun W' k => k.cell d5 (by simp)
  have hall : Hid (∀ W', Kp [] w W' → TwoAt W' b off e e' v v') := fun W' k => hc.kp k
  have n1 : ¬ op = 1 := by omega
  have n2 : ¬ op = 2 := by omega
  have n3 : ¬ op = 3 := by omega
  have n4 : ¬ op = 4 := by omega
  have n5 : ¬ op = 5 := by omega
  have n6 : ¬ op = 6 := by omega
  have n7 : ¬ op = 7 := by omega
  replace hB2 := Lib.hid hB2
  replace hW1 := Lib.hid hW1
  replace hk1 := Lib.hid hk1
  clear d5 hc
  go_enter Tryz.func9, Tryz.ntmps9
  go_wp2_with fail
  rw [hW1.out]
  refine (hsg.out _ hk1.out).mono ?_
  rintro r w2 ⟨rfl, hk2⟩
  have hk1b := hk2
  have hk3 := Lib.hid (hk1.out.trans hk2)
  obtain ⟨e0, e1, e2, e3, e4, e5, f0, f1, f2, f3, f4, f5⟩ := hall.out _ hk3.out
  have d5 := hd.out _ hk2
  replace hk1b := Lib.hid hk1b
  clear hk2
  go_wp2_with fail
  refine (h0.out _ hk3.out).mono ?_
  rintro r w4 ⟨rfl, hk4⟩
  have hk5 := Lib.hid (hk3.out.trans hk4)
  have hk1c := Lib.hid (hk1b.out.trans hk4)
  clear e0 e1 e2 e3 e4 e5 f0 f1 f2 f3 f4 f5 d5 hk4
  obtain ⟨e0, e1, e2, e3, e4, e5, f0, f1, f2, f3, f4, f5⟩ := hall.out _ hk5.out
  have d5 := hd.out _ hk1c.out
  go_wp2_with fail
  refine (h1.out _ hk5.out).mono ?_
  rintro r w6 ⟨rfl, hk6⟩
  have hk7 := Lib.hid (hk5.out.trans hk6)
  have hk1d := Lib.hid (hk1c.out.trans hk6)
  clear e0 e1 e2 e3 e4 e5 f0 f1 f2 f3 f4 f5 d5 hk6
  obtain ⟨gx, hgx⟩ : ∃ x, w.heap.size = x := ⟨_, rfl⟩
  rw [hgx] at hd ⊢
  clear hk1b hk1c hk3 hk5 h0 h1 hsg hB2 hW1
  have hall2 : Hid (∀ W', Kp [] w6 W' → W'.cell? ⟨gx, 5, none⟩ = some (.slice (some ⟨b, off, none⟩) 2 cap) ∧ TwoAt W' b off e e' v v') := fun W' k => ⟨hd.out _ (hk1d.out.trans k), hall.out _ (hk7.out.trans k)⟩
  clear hd hall
  unfold TwoAt at hall2
  have hq1 : ¬ 9223372036854775807 < t.length + 1 := by omega
  have hq2 : ¬ 9223372036854775807 < t.length + 1 + sg.length := by omega
  have hq3 : ¬ 9223372036854775807 < t.length + 1 + sg.length + 1 := by omega
  have hq4 : ¬ 9223372036854775807 < t.length + 1 + sg.length + 1 + t'.length := by omega
  go_wp2_with fail
  refine wp_region_held_drew (S := fun W' => W'.cell? ⟨gx, 5, none⟩ = some (.slice (some ⟨b, off, none⟩) 2 cap) ∧ W'.cell? ⟨b, off, none⟩ = some (.int .i64 e.op) ∧ W'.cell? ⟨b, off + 1, none⟩ = some (.int .i64 e.kind) ∧ W'.cell? ⟨b, off + 2, none⟩ = some (.int .i64 e.num) ∧ W'.cell? ⟨b, off + 3, none⟩ = some (.string e.s) ∧ W'.cell? ⟨b, off + 4, none⟩ = some (.string e.field) ∧ W'.cell? ⟨b, off + 5, none⟩ = some v ∧
      W'.cell? ⟨b, off + 6, none⟩ = some (.int .i64 e'.op) ∧ W'.cell? ⟨b, off + 6 + 1, none⟩ = some (.int .i64 e'.kind) ∧ W'.cell? ⟨b, off + 6 + 2, none⟩ = some (.int .i64 e'.num) ∧ W'.cell? ⟨b, off + 6 + 3, none⟩ = some (.string e'.s) ∧ W'.cell? ⟨b, off + 6 + 4, none⟩ = some (.string e'.field) ∧ W'.cell? ⟨b, off + 6 + 5, none⟩ = some v') (by kernel_rfl) ?_ (fun hHeld => ?_)
  · exact hall2.out _ (Kp.refl _ _).drew
  refine wpAnyH_take (i := 0) (v := ?vv1) rfl (by kernel_rfl) (by kernel_rfl) (by kernel_rfl) (fun _ _ _ h => h) (Or.inl ⟨by kernel_rfl, ?hy1⟩) (by assumption) ?rest1
  case hy1 => (intro w hSw; (try dsimp only at hSw); go_simp; try with_reducible rfl)
  try simp only [Act.put, List.setIfInBounds_toArray, List.set_cons_zero, List.set_cons_succ]
  refine wpAnyH_take (i := 1) (v := ?vv2) rfl (by kernel_rfl) (by kernel_rfl) (by kernel_rfl) (fun _ _ _ h => h) (Or.inl ⟨by kernel_rfl, ?hy2⟩) (by assumption) ?rest2
  case hy2 => (intro w hSw; (try dsimp only at hSw); go_simp; try with_reducible rfl)
  try simp only [Act.put, List.setIfInBounds_toArray, List.set_cons_zero, List.set_cons_succ]
  refine wpAnyH_take (i := 2) (v := ?vv3) rfl (by kernel_rfl) (by kernel_rfl) (by kernel_rfl) (fun _ _ _ h => h) (Or.inl ⟨by kernel_rfl, ?hy3⟩) (by assumption) ?rest3
  case hy3 => (intro w hSw; (try dsimp only at hSw); go_simp; try with_reducible rfl)
  try simp only [Act.put, List.setIfInBounds_toArray, List.set_cons_zero, List.set_cons_succ]
  refine wpAnyH_take (i := 3) (v := ?vv4) rfl (by kernel_rfl) (by kernel_rfl) (by kernel_rfl) (fun _ _ _ h => h) (Or.inl ⟨by kernel_rfl, ?hy4⟩) (by assumption) ?rest4
  case hy4 => (intro w hSw; (try dsimp only at hSw); go_simp; try with_reducible rfl)
  try simp only [Act.put, List.setIfInBounds_toArray, List.set_cons_zero, List.set_cons_succ]
  refine wpAnyH_take (i := 4) (v := ?vv5) rfl (by kernel_rfl) (by kernel_rfl) (by kernel_rfl) (fun _ _ _ h => h) (Or.inl ⟨by kernel_rfl, ?hy5⟩) (by assumption) ?rest5
  case hy5 => (intro w hSw; (try dsimp only at hSw); go_simp; try with_reducible rfl)
  try simp only [Act.put, List.setIfInBounds_toArray, List.set_cons_zero, List.set_cons_succ]
  refine wpAnyH_take (i := 5) (v := ?vv6) rfl (by kernel_rfl) (by kernel_rfl) (by kernel_rfl) (fun _ _ _ h => h) (Or.inl ⟨by kernel_rfl, ?hy6⟩) (by assumption) ?rest6
  case hy6 => (intro w hSw; (try dsimp only at hSw); go_simp; try with_reducible rfl)
  try simp only [Act.put, List.setIfInBounds_toArray, List.set_cons_zero, List.set_cons_succ]
  refine wpAnyH_take (i := 6) (v := ?vv7) rfl (by kernel_rfl) (by kernel_rfl) (by kernel_rfl) (fun _ _ _ h => h) (Or.inl ⟨by kernel_rfl, ?hy7⟩) (by assumption) ?rest7
  case hy7 => (intro w hSw; (try dsimp only at hSw); go_simp; try with_reducible rfl)
  try simp only [Act.put, List.setIfInBounds_toArray, List.set_cons_zero, List.set_cons_succ]
  refine wpAnyH_take (i := 7) (v := ?vv8) rfl (by kernel_rfl) (by kernel_rfl) (by kernel_rfl) (fun _ _ _ h => h) (Or.inl ⟨by kernel_rfl, ?hy8⟩) (by assumption) ?rest8
  case hy8 => (intro w hSw; (try dsimp only at hSw); go_simp; try with_reducible rfl)
  try simp only [Act.put, List.setIfInBounds_toArray, List.set_cons_zero, List.set_cons_succ]
  refine wpAnyH_take (i := 8) (v := ?vv9) rfl (by kernel_rfl) (by kernel_rfl) (by kernel_rfl) (fun _ _ _ h => h) (Or.inl ⟨by kernel_rfl, ?hy9⟩) (by assumption) ?rest9
  case hy9 => (intro w hSw; (try dsimp only at hSw); go_simp; try with_reducible rfl)
  try simp only [Act.put, List.setIfInBounds_toArray, List.set_cons_zero, List.set_cons_succ]
  refine wpAnyH_take (i := 9) (v := ?vv10) rfl (by kernel_rfl) (by kernel_rfl) (by kernel_rfl) (fun _ _ _ h => h) (Or.inl ⟨by kernel_rfl, ?hy10⟩) (by assumption) ?rest10
  case hy10 => (intro w hSw; (try dsimp only at hSw); go_simp; try with_reducible rfl)
  try simp only [Act.put, List.setIfInBounds_toArray, List.set_cons_zero, List.set_cons_succ]
  refine wpAnyH_take (i := 12) (v := ?vv11) rfl (by kernel_rfl) (by kernel_rfl) (by kernel_rfl) (fun _ _ _ h => h) (Or.inl ⟨by kernel_rfl, ?hy11⟩) (by assumption) ?rest11
  case hy11 => (intro w hSw; (try dsimp only at hSw); go_simp; try with_reducible rfl)
  try simp only [Act.put, List.setIfInBounds_toArray, List.set_cons_zero, List.set_cons_succ]
  refine wpAnyH_take (i := 15) (v := ?vv12) rfl (by kernel_rfl) (by kernel_rfl) (by kernel_rfl) (fun _ _ _ h => h) (Or.inl ⟨by kernel_rfl, ?hy12⟩) (by assumption) ?rest12
  case hy12 => (intro w hSw; (try dsimp only at hSw); go_simp; try with_reducible rfl)
  try simp only [Act.put, List.setIfInBounds_toArray, List.set_cons_zero, List.set_cons_succ]
  refine wpAnyH_take (i := 16) (v := ?vv13) rfl (by kernel_rfl) (by kernel_rfl) (by kernel_rfl) (fun _ _ _ h => h) (Or.inl ⟨by kernel_rfl, ?hy13⟩) (by assumption) ?rest13
  case hy13 => (intro w hSw; (try dsimp only at hSw); go_simp; try with_reducible rfl)
  try simp only [Act.put, List.setIfInBounds_toArray, List.set_cons_zero, List.set_cons_succ]
  refine wpAnyH_take (i := 17) (v := ?vv14) rfl (by kernel_rfl) (by kernel_rfl) (by kernel_rfl) (fun _ _ _ h => h) (Or.inl ⟨by kernel_rfl, ?hy14⟩) (by assumption) ?rest14
  case hy14 => (intro w hSw; (try dsimp only at hSw); go_simp; try with_reducible rfl)
  try simp only [Act.put, List.setIfInBounds_toArray, List.set_cons_zero, List.set_cons_succ]
  refine wpAnyH_take (i := 18) (v := ?vv15) rfl (by kernel_rfl) (by kernel_rfl) (by kernel_rfl) (fun _ _ _ h => h) (Or.inl ⟨by kernel_rfl, ?hy15⟩) (by assumption) ?rest15
  case hy15 => (intro w hSw; (try dsimp only at hSw); go_simp; try with_reducible rfl)
  try simp only [Act.put, List.setIfInBounds_toArray, List.set_cons_zero, List.set_cons_succ]
  refine wpAnyH_take (i := 19) (v := ?vv16) rfl (by kernel_rfl) (by kernel_rfl) (by kernel_rfl) (fun _ _ _ h => h) (Or.inl ⟨by kernel_rfl, ?hy16⟩) (by assumption) ?rest16
  case hy16 => (intro w hSw; (try dsimp only at hSw); go_simp; try with_reducible rfl)
  try simp only [Act.put, List.setIfInBounds_toArray, List.set_cons_zero, List.set_cons_succ]
  refine wpAnyH_ready (rs := [10]) (by kernel_rfl) (by simp) ?_
  refine AllReadyH.cons rfl (fun K hK => ?_) AllReadyH.nil
  go_simp
  refine (ho.out _ (hk7.out.trans (Kp.refl [] w6).drew)).mono ?_; rintro r w8 ⟨rfl, hk8⟩; replace hk8 := Lib.hid ((Kp.refl [] w6).drew.trans hk8)
  go_wp2_with fail
  refine hK.out _ _ ?_ (fun hHeld => ?_)
  · exact hall2.out _ hk8.out
  clear hK K
  try simp only [Act.put, List.setIfInBounds_toArray, List.set_cons_zero, List.set_cons_succ]
  refine wpAnyH_take (i := 11) (v := ?vv17) rfl (by kernel_rfl) (by kernel_rfl) (by kernel_rfl) (fun _ _ _ h => h) (Or.inl ⟨by kernel_rfl, ?hy17⟩) (by assumption) ?rest17
  case hy17 => (intro w hSw; (try dsimp only at hSw); go_simp; try with_reducible rfl)
  try simp only [Act.put, List.setIfInBounds_toArray, List.set_cons_zero, List.set_cons_succ]
  refine wpAnyH_take (i := 13) (v := ?vv18) rfl (by kernel_rfl) (by kernel_rfl) (by kernel_rfl) (fun _ _ _ h => h) (Or.inl ⟨by kernel_rfl, ?hy18⟩) (by assumption) ?rest18
  case hy18 => (intro w hSw; (try dsimp only at hSw); go_simp; try with_reducible rfl)
  try simp only [Act.put, List.setIfInBounds_toArray, List.set_cons_zero, List.set_cons_succ]
  refine wpAnyH_take (i := 14) (v := ?vv19) rfl (by kernel_rfl) (by kernel_rfl) (by kernel_rfl) (fun _ _ _ h => h) (Or.inl ⟨by kernel_rfl, ?hy19⟩) (by assumption) ?rest19
  case hy19 => (intro w hSw; (try dsimp only at hSw); go_simp; try with_reducible rfl)
  try simp only [Act.put, List.setIfInBounds_toArray, List.set_cons_zero, List.set_cons_succ]
  refine wpAnyH_take (i := 20) (v := ?vv20) rfl (by kernel_rfl) (by kernel_rfl) (by kernel_rfl) (fun _ _ _ h => h) (Or.inl ⟨by kernel_rfl, ?hy20⟩) (by assumption) ?rest20
  case hy20 => (intro w hSw; (try dsimp only at hSw); go_simp; try with_reducible rfl)
  try simp only [Act.put, List.setIfInBounds_toArray, List.set_cons_zero, List.set_cons_succ]
  refine wpAnyH_take (i := 21) (v := ?vv21) rfl (by kernel_rfl) (by kernel_rfl) (by kernel_rfl) (fun _ _ _ h => h) (Or.inl ⟨by kernel_rfl, ?hy21⟩) (by assumption) ?rest21
  case hy21 => (intro w hSw; (try dsimp only at hSw); go_simp; try with_reducible rfl)
  try simp only [Act.put, List.setIfInBounds_toArray, List.set_cons_zero, List.set_cons_succ]
  refine wpAnyH_take (i := 22) (v := ?vv22) rfl (by kernel_rfl) (by kernel_rfl) (by kernel_rfl) (fun _ _ _ h => h) (Or.inl ⟨by kernel_rfl, ?hy22⟩) (by assumption) ?rest22
  case hy22 => (intro w hSw; (try dsimp only at hSw); go_simp; try with_reducible rfl)
  try simp only [Act.put, List.setIfInBounds_toArray, List.set_cons_zero, List.set_cons_succ]
  refine wpAnyH_take (i := 23) (v := ?vv23) rfl (by kernel_rfl) (by kernel_rfl) (by kernel_rfl) (fun _ _ _ h => h) (Or.inl ⟨by kernel_rfl, ?hy23⟩) (by assumption) ?rest23
  case hy23 => (intro w hSw; (try dsimp only at hSw); go_simp; try with_reducible rfl)
  try simp only [Act.put, List.setIfInBounds_toArray, List.set_cons_zero, List.set_cons_succ]
  refine wpAnyH_take (i := 24) (v := ?vv24) rfl (by kernel_rfl) (by kernel_rfl) (by kernel_rfl) (fun _ _ _ h => h) (Or.inl ⟨by kernel_rfl, ?hy24⟩) (by assumption) ?rest24
  case hy24 => (intro w hSw; (try dsimp only at hSw); go_simp; try with_reducible rfl)
  try simp only [Act.put, List.setIfInBounds_toArray, List.set_cons_zero, List.set_cons_succ]
  refine wpAnyH_ready (rs := [25]) (by kernel_rfl) (by simp) ?_
  refine AllReadyH.cons rfl (fun K hK => ?_) AllReadyH.nil
  go_simp
  refine (ho'.out _ (hk7.out.trans hk8.out)).mono ?_; rintro r w9 ⟨rfl, hk9⟩; replace hk9 := Lib.hid (hk8.out.trans hk9)
  go_wp2_with fail
  refine hK.out _ _ ?_ (fun hHeld => ?_)
  · exact hall2.out _ hk9.out
  clear hK K
  try simp only [Act.put, List.setIfInBounds_toArray, List.set_cons_zero, List.set_cons_succ]
  refine wpAnyH_take (i := 26) (v := ?vv25) rfl (by kernel_rfl) (by kernel_rfl) (by kernel_rfl) (fun _ _ _ h => h) (Or.inl ⟨by kernel_rfl, ?hy25⟩) (by assumption) ?rest25
  case hy25 => (intro w hSw; (try dsimp only at hSw); go_simp; try with_reducible rfl)
  try simp only [Act.put, List.setIfInBounds_toArray, List.set_cons_zero, List.set_cons_succ]
  refine wpAnyH_take (i := 27) (v := ?vv26) rfl (by kernel_rfl) (by kernel_rfl) (by kernel_rfl) (fun _ _ _ h => h) (Or.inl ⟨by kernel_rfl, ?hy26⟩) (by assumption) ?rest26
  case hy26 => (intro w hSw; (try dsimp only at hSw); go_simp; try with_reducible rfl)
  try simp only [Act.put, List.setIfInBounds_toArray, List.set_cons_zero, List.set_cons_succ]
  refine wpAnyH_done (by kernel_rfl) ?_ _
  go_simp
  go_wp2_with fail
  go_ret
  exact ⟨ret_str (by rw [← st_app, ← st_app, ← st_app, ← st_app]; rfl), hk7.out.trans hk9.out⟩
set_option maxRecDepth 100000 in
set_option maxHeartbeats 4000000 in
theorem rtwo_NN (op kind n : Int) (h8 : 8 ≤ op) (h21 : op ≤ 21) (s f : ByteArray) (b off cap : Nat) (w : World) (e e' : Ex) (v v' : Value) (lv la lb : Int) (sg t t' : List UInt8) (ht : t.length ≤ 100000) (ht' : t'.length ≤ 100000) (hsl : sg.length ≤ 3) (hcap : 2 ≤ cap) (hcap2 : cap ≤ 9223372036854775807)
    (hc : TwoAt w b off e e' v v') (hla : decide (la < lv) = false) (hlb : decide (lb ≤ lv) = false) 
    (hsg : Hid (∀ W, Kp [] w W → Calls Tryz.prog 20 #[.int .i64 op] W (fun r w' => r = .returned (.tuple #[.int .i64 lv, .string (st sg)]) ∧ Kp [] W w')))
    (h0 : Hid (∀ W, Kp [] w W → Calls Tryz.prog 18 #[.agg #[.int .i64 e.op, .int .i64 e.kind, .int .i64 e.num, .string e.s, .string e.field, v]] W (fun r w' => r = .returned (.tuple #[.int .i64 la, .bool true]) ∧ Kp [] W w')))
    (h1 : Hid (∀ W, Kp [] w W → Calls Tryz.prog 18 #[.agg #[.int .i64 e'.op, .int .i64 e'.kind, .int .i64 e'.num, .string e'.s, .string e'.field, v']] W (fun r w' => r = .returned (.tuple #[.int .i64 lb, .bool true]) ∧ Kp [] W w')))
    (ho : Hid (∀ W, Kp [] w W → Calls Tryz.prog 19 #[.agg #[.int .i64 e.op, .int .i64 e.kind, .int .i64 e.num, .string e.s, .string e.field, v], .bool false] W (StrRes t W)))
    (ho' : Hid (∀ W, Kp [] w W → Calls Tryz.prog 19 #[.agg #[.int .i64 e'.op, .int .i64 e'.kind, .int .i64 e'.num, .string e'.s, .string e'.field, v'], .bool false] W (StrRes t' W))) :
    Calls Tryz.prog 9 #[.agg #[.int .i64 op, .int .i64 kind, .int .i64 n, .string s, .string f, .slice (some ⟨b, off, none⟩) 2 cap]] w (StrRes (t ++ [32] ++ sg ++ [32] ++ t') w) := by
  have hsz := st_size t
  have hsz' := st_size t'
  have hszs := st_size sg
  have hB2 := Blk.new w 24 #[.int .i64 op, .int .i64 kind, .int .i64 n, .string s, .string f, .slice (some ⟨b, off, none⟩) 2 cap]
  obtain ⟨W1, hW1⟩ : ∃ W1, w.alloc (.cells #[.int .i64 op, .int .i64 kind, .int .i64 n, .string s, .string f, .slice (some ⟨b, off, none⟩) 2 cap] 24) = W1 := ⟨_, rfl⟩
  have hk1 : Kp [] w W1 := hW1 ▸ (Kp.refl [] w).alloc _
  rw [hW1] at hB2
  have d5 := hB2.cell 5 (v := .slice (some ⟨b, off, none⟩) 2 cap) rfl
  have hd : Hid (∀ W', Kp [] W1 W' → W'.cell? ⟨w.heap.size, 5, none⟩ = some (.slice (some ⟨b, off, none⟩) 2 cap)) := fun W' k => k.cell d5 (by simp)
  have hall : Hid (∀ W', Kp [] w W' → TwoAt W' b off e e' v v') := fun W' k => hc.kp k
  have n1 : ¬ op = 1 := by omega
  have n2 : ¬ op = 2 := by omega
  have n3 : ¬ op = 3 := by omega
  have n4 : ¬ op = 4 := by omega
  have n5 : ¬ op = 5 := by omega
  have n6 : ¬ op = 6 := by omega
  have n7 : ¬ op = 7 := by omega
  replace hB2 := Lib.hid hB2
  replace hW1 := Lib.hid hW1
  replace hk1 := Lib.hid hk1
  clear d5 hc
  go_enter Tryz.func9, Tryz.ntmps9
  go_wp2_with fail
  rw [hW1.out]
  refine (hsg.out _ hk1.out).mono ?_
  rintro r w2 ⟨rfl, hk2⟩
  have hk1b := hk2
  have hk3 := Lib.hid (hk1.out.trans hk2)
  obtain ⟨e0, e1, e2, e3, e4, e5, f0, f1, f2, f3, f4, f5⟩ := hall.out _ hk3.out
  have d5 := hd.out _ hk2
  replace hk1b := Lib.hid hk1b
  clear hk2
  go_wp2_with fail
  refine (h0.out _ hk3.out).mono ?_
  rintro r w4 ⟨rfl, hk4⟩
  have hk5 := Lib.hid (hk3.out.trans hk4)
  have hk1c := Lib.hid (hk1b.out.trans hk4)
  clear e0 e1 e2 e3 e4 e5 f0 f1 f2 f3 f4 f5 d5 hk4
  obtain ⟨e0, e1, e2, e3, e4, e5, f0, f1, f2, f3, f4, f5⟩ := hall.out _ hk5.out
  have d5 := hd.out _ hk1c.out
  go_wp2_with fail
  refine (h1.out _ hk5.out).mono ?_
  rintro r w6 ⟨rfl, hk6⟩
  have hk7 := Lib.hid (hk5.out.trans hk6)
  have hk1d := Lib.hid (hk1c.out.trans hk6)
  clear e0 e1 e2 e3 e4 e5 f0 f1 f2 f3 f4 f5 d5 hk6
  obtain ⟨gx, hgx⟩ : ∃ x, w.heap.size = x := ⟨_, rfl⟩
  rw [hgx] at hd ⊢
  clear hk1b hk1c hk3 hk5 h0 h1 hsg hB2 hW1
  have hall2 : Hid (∀ W', Kp [] w6 W' → W'.cell? ⟨gx, 5, none⟩ = some (.slice (some ⟨b, off, none⟩) 2 cap) ∧ TwoAt W' b off e e' v v') := fun W' k => ⟨hd.out _ (hk1d.out.trans k), hall.out _ (hk7.out.trans k)⟩
  clear hd hall
  unfold TwoAt at hall2
  have hq1 : ¬ 9223372036854775807 < t.length + 1 := by omega
  have hq2 : ¬ 9223372036854775807 < t.length + 1 + sg.length := by omega
  have hq3 : ¬ 9223372036854775807 < t.length + 1 + sg.length + 1 := by omega
  have hq4 : ¬ 9223372036854775807 < t.length + 1 + sg.length + 1 + t'.length := by omega
  go_wp2_with fail
  refine wp_region_held_drew (S := fun W' => W'.cell? ⟨gx, 5, none⟩ = some (.slice (some ⟨b, off, none⟩) 2 cap) ∧ W'.cell? ⟨b, off, none⟩ = some (.int .i64 e.op) ∧ W'.cell? ⟨b, off + 1, none⟩ = some (.int .i64 e.kind) ∧ W'.cell? ⟨b, off + 2, none⟩ = some (.int .i64 e.num) ∧ W'.cell? ⟨b, off + 3, none⟩ = some (.string e.s) ∧ W'.cell? ⟨b, off + 4, none⟩ = some (.string e.field) ∧ W'.cell? ⟨b, off + 5, none⟩ = some v ∧
      W'.cell? ⟨b, off + 6, none⟩ = some (.int .i64 e'.op) ∧ W'.cell? ⟨b, off + 6 + 1, none⟩ = some (.int .i64 e'.kind) ∧ W'.cell? ⟨b, off + 6 + 2, none⟩ = some (.int .i64 e'.num) ∧ W'.cell? ⟨b, off + 6 + 3, none⟩ = some (.string e'.s) ∧ W'.cell? ⟨b, off + 6 + 4, none⟩ = some (.string e'.field) ∧ W'.cell? ⟨b, off + 6 + 5, none⟩ = some v') (by kernel_rfl) ?_ (fun hHeld => ?_)
  · exact hall2.out _ (Kp.refl _ _).drew
  refine wpAnyH_take (i := 0) (v := ?vv1) rfl (by kernel_rfl) (by kernel_rfl) (by kernel_rfl) (fun _ _ _ h => h) (Or.inl ⟨by kernel_rfl, ?hy1⟩) (by assumption) ?rest1
  case hy1 => (intro w hSw; (try dsimp only at hSw); go_simp; try with_reducible rfl)
  try simp only [Act.put, List.setIfInBounds_toArray, List.set_cons_zero, List.set_cons_succ]
  refine wpAnyH_take (i := 1) (v := ?vv2) rfl (by kernel_rfl) (by kernel_rfl) (by kernel_rfl) (fun _ _ _ h => h) (Or.inl ⟨by kernel_rfl, ?hy2⟩) (by assumption) ?rest2
  case hy2 => (intro w hSw; (try dsimp only at hSw); go_simp; try with_reducible rfl)
  try simp only [Act.put, List.setIfInBounds_toArray, List.set_cons_zero, List.set_cons_succ]
  refine wpAnyH_take (i := 2) (v := ?vv3) rfl (by kernel_rfl) (by kernel_rfl) (by kernel_rfl) (fun _ _ _ h => h) (Or.inl ⟨by kernel_rfl, ?hy3⟩) (by assumption) ?rest3
  case hy3 => (intro w hSw; (try dsimp only at hSw); go_simp; try with_reducible rfl)
  try simp only [Act.put, List.setIfInBounds_toArray, List.set_cons_zero, List.set_cons_succ]
  refine wpAnyH_take (i := 3) (v := ?vv4) rfl (by kernel_rfl) (by kernel_rfl) (by kernel_rfl) (fun _ _ _ h => h) (Or.inl ⟨by kernel_rfl, ?hy4⟩) (by assumption) ?rest4
  case hy4 => (intro w hSw; (try dsimp only at hSw); go_simp; try with_reducible rfl)
  try simp only [Act.put, List.setIfInBounds_toArray, List.set_cons_zero, List.set_cons_succ]
  refine wpAnyH_take (i := 4) (v := ?vv5) rfl (by kernel_rfl) (by kernel_rfl) (by kernel_rfl) (fun _ _ _ h => h) (Or.inl ⟨by kernel_rfl, ?hy5⟩) (by assumption) ?rest5
  case hy5 => (intro w hSw; (try dsimp only at hSw); go_simp; try with_reducible rfl)
  try simp only [Act.put, List.setIfInBounds_toArray, List.set_cons_zero, List.set_cons_succ]
  refine wpAnyH_take (i := 5) (v := ?vv6) rfl (by kernel_rfl) (by kernel_rfl) (by kernel_rfl) (fun _ _ _ h => h) (Or.inl ⟨by kernel_rfl, ?hy6⟩) (by assumption) ?rest6
  case hy6 => (intro w hSw; (try dsimp only at hSw); go_simp; try with_reducible rfl)
  try simp only [Act.put, List.setIfInBounds_toArray, List.set_cons_zero, List.set_cons_succ]
  refine wpAnyH_take (i := 6) (v := ?vv7) rfl (by kernel_rfl) (by kernel_rfl) (by kernel_rfl) (fun _ _ _ h => h) (Or.inl ⟨by kernel_rfl, ?hy7⟩) (by assumption) ?rest7
  case hy7 => (intro w hSw; (try dsimp only at hSw); go_simp; try with_reducible rfl)
  try simp only [Act.put, List.setIfInBounds_toArray, List.set_cons_zero, List.set_cons_succ]
  refine wpAnyH_take (i := 7) (v := ?vv8) rfl (by kernel_rfl) (by kernel_rfl) (by kernel_rfl) (fun _ _ _ h => h) (Or.inl ⟨by kernel_rfl, ?hy8⟩) (by assumption) ?rest8
  case hy8 => (intro w hSw; (try dsimp only at hSw); go_simp; try with_reducible rfl)
  try simp only [Act.put, List.setIfInBounds_toArray, List.set_cons_zero, List.set_cons_succ]
  refine wpAnyH_take (i := 8) (v := ?vv9) rfl (by kernel_rfl) (by kernel_rfl) (by kernel_rfl) (fun _ _ _ h => h) (Or.inl ⟨by kernel_rfl, ?hy9⟩) (by assumption) ?rest9
  case hy9 => (intro w hSw; (try dsimp only at hSw); go_simp; try with_reducible rfl)
  try simp only [Act.put, List.setIfInBounds_toArray, List.set_cons_zero, List.set_cons_succ]
  refine wpAnyH_take (i := 9) (v := ?vv10) rfl (by kernel_rfl) (by kernel_rfl) (by kernel_rfl) (fun _ _ _ h => h) (Or.inl ⟨by kernel_rfl, ?hy10⟩) (by assumption) ?rest10
  case hy10 => (intro w hSw; (try dsimp only at hSw); go_simp; try with_reducible rfl)
  try simp only [Act.put, List.setIfInBounds_toArray, List.set_cons_zero, List.set_cons_succ]
  refine wpAnyH_take (i := 12) (v := ?vv11) rfl (by kernel_rfl) (by kernel_rfl) (by kernel_rfl) (fun _ _ _ h => h) (Or.inl ⟨by kernel_rfl, ?hy11⟩) (by assumption) ?rest11
  case hy11 => (intro w hSw; (try dsimp only at hSw); go_simp; try with_reducible rfl)
  try simp only [Act.put, List.setIfInBounds_toArray, List.set_cons_zero, List.set_cons_succ]
  refine wpAnyH_take (i := 15) (v := ?vv12) rfl (by kernel_rfl) (by kernel_rfl) (by kernel_rfl) (fun _ _ _ h => h) (Or.inl ⟨by kernel_rfl, ?hy12⟩) (by assumption) ?rest12
  case hy12 => (intro w hSw; (try dsimp only at hSw); go_simp; try with_reducible rfl)
  try simp only [Act.put, List.setIfInBounds_toArray, List.set_cons_zero, List.set_cons_succ]
  refine wpAnyH_take (i := 16) (v := ?vv13) rfl (by kernel_rfl) (by kernel_rfl) (by kernel_rfl) (fun _ _ _ h => h) (Or.inl ⟨by kernel_rfl, ?hy13⟩) (by assumption) ?rest13
  case hy13 => (intro w hSw; (try dsimp only at hSw); go_simp; try with_reducible rfl)
  try simp only [Act.put, List.setIfInBounds_toArray, List.set_cons_zero, List.set_cons_succ]
  refine wpAnyH_take (i := 17) (v := ?vv14) rfl (by kernel_rfl) (by kernel_rfl) (by kernel_rfl) (fun _ _ _ h => h) (Or.inl ⟨by kernel_rfl, ?hy14⟩) (by assumption) ?rest14
  case hy14 => (intro w hSw; (try dsimp only at hSw); go_simp; try with_reducible rfl)
  try simp only [Act.put, List.setIfInBounds_toArray, List.set_cons_zero, List.set_cons_succ]
  refine wpAnyH_take (i := 18) (v := ?vv15) rfl (by kernel_rfl) (by kernel_rfl) (by kernel_rfl) (fun _ _ _ h => h) (Or.inl ⟨by kernel_rfl, ?hy15⟩) (by assumption) ?rest15
  case hy15 => (intro w hSw; (try dsimp only at hSw); go_simp; try with_reducible rfl)
  try simp only [Act.put, List.setIfInBounds_toArray, List.set_cons_zero, List.set_cons_succ]
  refine wpAnyH_take (i := 19) (v := ?vv16) rfl (by kernel_rfl) (by kernel_rfl) (by kernel_rfl) (fun _ _ _ h => h) (Or.inl ⟨by kernel_rfl, ?hy16⟩) (by assumption) ?rest16
  case hy16 => (intro w hSw; (try dsimp only at hSw); go_simp; try with_reducible rfl)
  try simp only [Act.put, List.setIfInBounds_toArray, List.set_cons_zero, List.set_cons_succ]
  refine wpAnyH_ready (rs := [10]) (by kernel_rfl) (by simp) ?_
  refine AllReadyH.cons rfl (fun K hK => ?_) AllReadyH.nil
  go_simp
  refine (ho.out _ (hk7.out.trans (Kp.refl [] w6).drew)).mono ?_; rintro r w8 ⟨rfl, hk8⟩; replace hk8 := Lib.hid ((Kp.refl [] w6).drew.trans hk8)
  go_wp2_with fail
  refine hK.out _ _ ?_ (fun hHeld => ?_)
  · exact hall2.out _ hk8.out
  clear hK K
  try simp only [Act.put, List.setIfInBounds_toArray, List.set_cons_zero, List.set_cons_succ]
  refine wpAnyH_take (i := 11) (v := ?vv17) rfl (by kernel_rfl) (by kernel_rfl) (by kernel_rfl) (fun _ _ _ h => h) (Or.inl ⟨by kernel_rfl, ?hy17⟩) (by assumption) ?rest17
  case hy17 => (intro w hSw; (try dsimp only at hSw); go_simp; try with_reducible rfl)
  try simp only [Act.put, List.setIfInBounds_toArray, List.set_cons_zero, List.set_cons_succ]
  refine wpAnyH_take (i := 13) (v := ?vv18) rfl (by kernel_rfl) (by kernel_rfl) (by kernel_rfl) (fun _ _ _ h => h) (Or.inl ⟨by kernel_rfl, ?hy18⟩) (by assumption) ?rest18
  case hy18 => (intro w hSw; (try dsimp only at hSw); go_simp; try with_reducible rfl)
  try simp only [Act.put, List.setIfInBounds_toArray, List.set_cons_zero, List.set_cons_succ]
  refine wpAnyH_take (i := 14) (v := ?vv19) rfl (by kernel_rfl) (by kernel_rfl) (by kernel_rfl) (fun _ _ _ h => h) (Or.inl ⟨by kernel_rfl, ?hy19⟩) (by assumption) ?rest19
  case hy19 => (intro w hSw; (try dsimp only at hSw); go_simp; try with_reducible rfl)
  try simp only [Act.put, List.setIfInBounds_toArray, List.set_cons_zero, List.set_cons_succ]
  refine wpAnyH_take (i := 20) (v := ?vv20) rfl (by kernel_rfl) (by kernel_rfl) (by kernel_rfl) (fun _ _ _ h => h) (Or.inl ⟨by kernel_rfl, ?hy20⟩) (by assumption) ?rest20
  case hy20 => (intro w hSw; (try dsimp only at hSw); go_simp; try with_reducible rfl)
  try simp only [Act.put, List.setIfInBounds_toArray, List.set_cons_zero, List.set_cons_succ]
  refine wpAnyH_take (i := 21) (v := ?vv21) rfl (by kernel_rfl) (by kernel_rfl) (by kernel_rfl) (fun _ _ _ h => h) (Or.inl ⟨by kernel_rfl, ?hy21⟩) (by assumption) ?rest21
  case hy21 => (intro w hSw; (try dsimp only at hSw); go_simp; try with_reducible rfl)
  try simp only [Act.put, List.setIfInBounds_toArray, List.set_cons_zero, List.set_cons_succ]
  refine wpAnyH_take (i := 22) (v := ?vv22) rfl (by kernel_rfl) (by kernel_rfl) (by kernel_rfl) (fun _ _ _ h => h) (Or.inl ⟨by kernel_rfl, ?hy22⟩) (by assumption) ?rest22
  case hy22 => (intro w hSw; (try dsimp only at hSw); go_simp; try with_reducible rfl)
  try simp only [Act.put, List.setIfInBounds_toArray, List.set_cons_zero, List.set_cons_succ]
  refine wpAnyH_take (i := 23) (v := ?vv23) rfl (by kernel_rfl) (by kernel_rfl) (by kernel_rfl) (fun _ _ _ h => h) (Or.inl ⟨by kernel_rfl, ?hy23⟩) (by assumption) ?rest23
  case hy23 => (intro w hSw; (try dsimp only at hSw); go_simp; try with_reducible rfl)
  try simp only [Act.put, List.setIfInBounds_toArray, List.set_cons_zero, List.set_cons_succ]
  refine wpAnyH_take (i := 24) (v := ?vv24) rfl (by kernel_rfl) (by kernel_rfl) (by kernel_rfl) (fun _ _ _ h => h) (Or.inl ⟨by kernel_rfl, ?hy24⟩) (by assumption) ?rest24
  case hy24 => (intro w hSw; (try dsimp only at hSw); go_simp; try with_reducible rfl)
  try simp only [Act.put, List.setIfInBounds_toArray, List.set_cons_zero, List.set_cons_succ]
  refine wpAnyH_ready (rs := [25]) (by kernel_rfl) (by simp) ?_
  refine AllReadyH.cons rfl (fun K hK => ?_) AllReadyH.nil
  go_simp
  refine (ho'.out _ (hk7.out.trans hk8.out)).mono ?_; rintro r w9 ⟨rfl, hk9⟩; replace hk9 := Lib.hid (hk8.out.trans hk9)
  go_wp2_with fail
  refine hK.out _ _ ?_ (fun hHeld => ?_)
  · exact hall2.out _ hk9.out
  clear hK K
  try simp only [Act.put, List.setIfInBounds_toArray, List.set_cons_zero, List.set_cons_succ]
  refine wpAnyH_take (i := 26) (v := ?vv25) rfl (by kernel_rfl) (by kernel_rfl) (by kernel_rfl) (fun _ _ _ h => h) (Or.inl ⟨by kernel_rfl, ?hy25⟩) (by assumption) ?rest25
  case hy25 => (intro w hSw; (try dsimp only at hSw); go_simp; try with_reducible rfl)
  try simp only [Act.put, List.setIfInBounds_toArray, List.set_cons_zero, List.set_cons_succ]
  refine wpAnyH_take (i := 27) (v := ?vv26) rfl (by kernel_rfl) (by kernel_rfl) (by kernel_rfl) (fun _ _ _ h => h) (Or.inl ⟨by kernel_rfl, ?hy26⟩) (by assumption) ?rest26
  case hy26 => (intro w hSw; (try dsimp only at hSw); go_simp; try with_reducible rfl)
  try simp only [Act.put, List.setIfInBounds_toArray, List.set_cons_zero, List.set_cons_succ]
  refine wpAnyH_done (by kernel_rfl) ?_ _
  go_simp
  go_wp2_with fail
  go_ret
  exact ⟨ret_str (by rw [← st_app, ← st_app, ← st_app, ← st_app]; rfl), hk7.out.trans hk9.out⟩
end Go.Proofs.YtebmaclopkocgaaGreatDoor
