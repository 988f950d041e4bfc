import Derived.Test.YtgldbeacjacbcaaGreatTy2
set_option linter.unusedSimpArgs false
set_option linter.unusedVariables false
namespace Go.Proofs.YtgldbeacjacbcaaGreat
open Go.RowKit

theorem row_cells {w : World} {base g n cap : Nat} {ks : List Int} (h : w.ownsRow base 3 1 (.slice (some ⟨g, 0, none⟩) n cap) n (ks.map (Value.int .i64))) (j : Nat) (hj : j < ks.length) : w.cell? ⟨g, j, none⟩ = some (.int .i64 (ks.getD j 0)) := by
  have hc := h.cells (g := g) rfl j (.int .i64 (ks.getD j 0)) (by simp [List.getD_eq_getElem?_getD, hj])
  have ea : (⟨g, 0, none⟩ : Addr).add j = ⟨g, j, none⟩ := by unfold Addr.add; split <;> simp_all
  rw [ea] at hc
  exact hc
theorem row_pos {w : World} {base n : Nat} {v : Value} {xs : List Value} (h : w.ownsRow base 3 1 v n xs) (hn : 0 < n) : ∃ g cap, v = .slice (some ⟨g, 0, none⟩) n cap := by
  rcases h.2 with ⟨_, h0⟩ | ⟨g, cap, _, hv, _⟩
  · omega
  · exact ⟨g, cap, hv⟩
theorem map_kind (l : List Ex) : (l.map fun e => Value.int .i64 e.kind) = (l.map Ex.kind).map (Value.int .i64) := by simp
theorem map_num (l : List Ex) : (l.map fun e => Value.int .i64 e.num) = (l.map Ex.num).map (Value.int .i64) := by simp

set_option maxRecDepth 100000 in
set_option maxHeartbeats 4000000 in
theorem comp_no (op kind n kd : Int) (s f : ByteArray) (l : List Ex) (v : Value) (w : World) (h6 : ¬ op < 6) (hv : exsSl w v l) (hl : l.length ≤ 2) (hp : 0 < l.length) (hn : allC l = true) (hkd : Hid (KindsC op (l.map Ex.kind) kd false)) :
    Calls Tryz.prog 30 #[.agg #[.int .i64 op, .int .i64 kind, .int .i64 n, .string s, .string f, v]] w fun r w' => r = .returned (.tuple #[zeroX, .bool false]) ∧ Kp [] w w' := by
  obtain ⟨q, cap, rfl⟩ := hv.val
  obtain ⟨len, hlen⟩ : ∃ len, l.length = len := ⟨_, rfl⟩
  rw [hlen] at hv hl hp ⊢
  have hfin : Hid (∀ k, k < l.length → l[k]?.map Ex.op = some 1) := by
    intro k hk
    have h1 := hn
    unfold allC at h1
    rw [List.all_eq_true] at h1
    have := h1 l[k] (List.getElem_mem hk)
    simp at this
    simp [hk, this]
  unfold KindsC at hkd
  rw [List.length_map, hlen] at hkd
  have hKW : Kp [] w ((w.alloc (.cells #[.int .i64 op, .int .i64 kind, .int .i64 n, .string s, .string f, .slice q len cap] 24)).alloc (.cells #[.int .i64 0, .int .i64 0, .int .i64 0, .string ⟨#[]⟩, .string ⟨#[]⟩, .slice none 0 0] 24)) := ((Kp.refl [] w).alloc _).alloc _
  obtain ⟨W1, hW1⟩ : ∃ W1, ((w.alloc (.cells #[.int .i64 op, .int .i64 kind, .int .i64 n, .string s, .string f, .slice q len cap] 24)).alloc (.cells #[.int .i64 0, .int .i64 0, .int .i64 0, .string ⟨#[]⟩, .string ⟨#[]⟩, .slice none 0 0] 24)) = W1 := ⟨_, rfl⟩
  have hB1 : Blk W1 w.heap.size 24 #[.int .i64 op, .int .i64 kind, .int .i64 n, .string s, .string f, .slice q len cap] := by rw [← hW1]; exact (Blk.new w _ _).alloc _
  have hB2 : Blk W1 (w.heap.size + 1) 24 #[.int .i64 0, .int .i64 0, .int .i64 0, .string ⟨#[]⟩, .string ⟨#[]⟩, .slice none 0 0] := by rw [← hW1]; exact blk_new (by simp) _ _
  have hsz : W1.heap.size = w.heap.size + 2 := by rw [← hW1]; simp
  rw [hW1] at hKW
  obtain ⟨i0, hi, hz0, hz1, hz2⟩ := info_parts infoInt
  replace hW1 := Lib.hid hW1
  replace hKW := Lib.hid hKW
  replace hB1 := Lib.hid hB1
  replace hB2 := Lib.hid hB2
  replace hsz := Lib.hid hsz
  replace hv := Lib.hid hv
  replace hlen := Lib.hid hlen
  replace hn := Lib.hid hn
  go_enter Tryz.func30, Tryz.ntmps30
  go_wp2_with fail
  rw [hW1.out]
  go_loopw [4, 5, 19] (fun u v i wr => ∃ (k : Nat), k ≤ len ∧ i = .int .i64 k ∧ Hid (allC (l.take k) = true) ∧
      Hid (wr.ownsRow (w.heap.size + 2) 3 1 u k ((l.take k).map fun e => .int .i64 e.kind)) ∧ Hid (wr.ownsRow (w.heap.size + 2) 3 1 v k ((l.take k).map fun e => .int .i64 e.num)) ∧ Hid (Dj u v) ∧ Hid (Kp [] W1 wr)) (fun _ _ i _ => len - (intOf i).toNat)
  case atStart => exact ⟨0, Nat.zero_le _, rfl, rfl, World.ownsRow_nil _ _ _ _, World.ownsRow_nil _ _ _ _, fun g hg => by simp [Value.ownBlock] at hg, Kp.refl _ _⟩
  case round =>
    obtain ⟨k, hk, rfl, hE, hu, hv2, hD, hK⟩ := hrel
    by_cases hlt : k < len
    · have hlt2 : k < l.length := by rw [hlen.out]; exact hlt
      have hK0 := Lib.hid (hKW.out.trans hK.out)
      obtain ⟨b, off, ux, rfl, hux, c0, c1, c2, c3, c4, c5⟩ := hv.out.at_in hK0.out k hlt2
      have hst := Lib.hid (allC_take hlt2 hE.out)
      have hop : Hid (l[k].op = 1) := by show _ = _; have := hfin.out k hlt2; rw [List.getElem?_eq_getElem hlt2] at this; simpa using this
      have hmk := Lib.hid (map_take_succ (fun e => .int .i64 e.kind) hlt2)
      have hmn := Lib.hid (map_take_succ (fun e => .int .i64 e.num) hlt2)
      obtain ⟨e, he⟩ : ∃ e, l[k] = e := ⟨_, rfl⟩
      rw [he] at c0 c1 c2 c3 c4 hst hmk hmn hux hop
      clear he
      obtain ⟨qu, cu, rfl⟩ := hux.val
      obtain ⟨lu, hlu⟩ : ∃ lu, e.args.length = lu := ⟨_, rfl⟩
      rw [hlu] at c5
      clear hlu hux
      by_cases h1 : e.op = 1
      · have hst2 : Hid (allC (l.take (k + 1)) = true) := by show _ = _; rw [hst.out, h1]; rfl
        rw [h1] at c0
        have hU2 := Lib.hid ((hu.out.alloc (.cells #[.int .i64 1, .int .i64 e.kind, .int .i64 e.num, .string e.s, .string e.field, .slice qu lu cu] 24)).alloc (.cells #[.int .i64 e.kind] 3))
        have hV2 := Lib.hid ((hv2.out.alloc (.cells #[.int .i64 1, .int .i64 e.kind, .int .i64 e.num, .string e.s, .string e.field, .slice qu lu cu] 24)).alloc (.cells #[.int .i64 e.kind] 3))
        have hK2 := Lib.hid ((hK.out.alloc (.cells #[.int .i64 1, .int .i64 e.kind, .int .i64 e.num, .string e.s, .string e.field, .slice qu lu cu] 24)).alloc (.cells #[.int .i64 e.kind] 3))
        have hwr : Hid (w.heap.size + 2 ≤ wr.heap.size) := by show _ ≤ _; have := hK.out.size; rw [hsz.out] at this; exact this
        have hBx := Lib.hid ((Blk.new wr 24 #[.int .i64 1, .int .i64 e.kind, .int .i64 e.num, .string e.s, .string e.field, .slice qu lu cu]).alloc (.cells #[.int .i64 e.kind] 3))
        have hone1 := Lib.hid (int_one e.kind)
        have hone2 := Lib.hid (int_one e.num)
        have hnew1 := cell_one_new (wr.alloc (.cells #[.int .i64 1, .int .i64 e.kind, .int .i64 e.num, .string e.s, .string e.field, .slice qu lu cu] 24)) (.int .i64 e.kind) 3
        simp only [World.size_alloc] at hnew1
        replace hnew1 := Lib.hid hnew1
        have hbs1 : Hid (w.heap.size + 2 ≤ ((wr.alloc (.cells #[.int .i64 1, .int .i64 e.kind, .int .i64 e.num, .string e.s, .string e.field, .slice qu lu cu] 24)).alloc (.cells #[.int .i64 e.kind] 3)).heap.size) := by show _ ≤ _; rw [World.size_alloc, World.size_alloc]; have := hwr.out; omega
        have hul : Hid (∀ g, u4.ownBlock = some g → w.heap.size + 2 ≤ g ∧ g < wr.heap.size) := fun g hg => hu.out.lt g hg
        have hvl : Hid (∀ g, u5.ownBlock = some g → w.heap.size + 2 ≤ g ∧ g < wr.heap.size) := fun g hg => hv2.out.lt g hg
        go_wp2_with (first
          | (at_builtin; refine wpList_append_own_at _ rfl (.tmp 27) (.tmp 30) 37 rfl (w.heap.size + 2) 3 i0 _ 1 8 Tryz.underlying37 hi hz0 hz1 hz2 rfl (by decide) _ k _ rfl hU2.out ⟨wr.heap.size + 1, 0, none⟩ 1 1 [.int .i64 e.kind] rfl rfl hnew1.out hone1.out (by unfold maxLen; omega) (by omega) hbs1.out ?_; intro u' w3 hown' hgrow _ hat; have hBx3 := Blk.grown hBx.out hgrow (fun e => by have := (hul.out _ e).2; omega); have x2 := hBx3.cell 2 (v := .int .i64 e.num) rfl; have hV3 := Lib.hid ((hV2.out.kept hgrow hD.out.kept).alloc (.cells #[.int .i64 e.num] 3)); have hU3 := Lib.hid (hown'.alloc (.cells #[.int .i64 e.num] 3)); have hnew2 := Lib.hid (cell_one_new w3 (.int .i64 e.num) 3); have hbs2 : Hid (w.heap.size + 2 ≤ (w3.alloc (.cells #[.int .i64 e.num] 3)).heap.size) := (by show _ ≤ _; have h1 := hgrow.size; have h2 := hbs1.out; rw [World.size_alloc]; omega); have hsz3 : Hid (wr.heap.size + 2 ≤ w3.heap.size) := (by show _ ≤ _; have h1 := hgrow.size; rw [World.size_alloc, World.size_alloc] at h1; omega); have hK3 := Lib.hid ((hK2.out.grown hgrow (fun j hj => .inr (by rw [hsz.out]; exact (hul.out j hj).1))).alloc (.cells #[.int .i64 e.num] 3)); have hD3 := Lib.hid (hD.out.left hat (fun g hg => by rw [World.size_alloc, World.size_alloc]; have := (hvl.out g hg).2; omega)); have hul3 : Hid (∀ g, u'.ownBlock = some g → g < w3.heap.size) := fun g hg => (hown'.lt g hg).2; clear hgrow hat hown' hBx3)
          | (at_builtin; refine wpList_append_own_at _ rfl (.tmp 32) (.tmp 35) 37 rfl (w.heap.size + 2) 3 i0 _ 1 8 Tryz.underlying37 hi hz0 hz1 hz2 rfl (by decide) _ k _ rfl hV3.out ⟨w3.heap.size, 0, none⟩ 1 1 [.int .i64 e.num] rfl rfl hnew2.out hone2.out (by unfold maxLen; omega) (by omega) hbs2.out ?_; intro v' w4 hown2 hgrow2 _ hat2))
        have hU4 := Lib.hid (hU3.out.kept hgrow2 hD3.out.kept')
        have hK4 := Lib.hid (hK3.out.grown hgrow2 (fun j hj => .inr (by rw [hsz.out]; exact (hvl.out j hj).1)))
        have hD4 := Lib.hid (hD3.out.right hat2 (fun g hg => by rw [World.size_alloc]; have := hul3.out g hg; omega))
        replace hown2 := Lib.hid hown2
        clear hgrow2 hat2
        go_roundw
        case rel => exact ⟨k + 1, by omega, by go_num, hst2, by rw [hmk.out]; exact hU4.out, by rw [hmn.out]; exact hown2.out, hD4, hK4⟩
        case measure => simp [intOf]; omega
      · exact absurd hop.out h1
    · obtain rfl : k = len := by omega
      have hbl := Lib.hid hlen.out
      have hBr := hB1.out.kp hK.out (by simp)
      have b0 := hBr.cell 0 (v := .int .i64 op) rfl
      have hU := hu.out
      have hV := hv2.out
      rw [List.take_of_length_le (by rw [hlen.out]; exact Nat.le_refl _), map_kind] at hU
      rw [List.take_of_length_le (by rw [hlen.out]; exact Nat.le_refl _), map_num] at hV
      obtain ⟨g1, cap1, rfl⟩ := row_pos hU hp
      obtain ⟨g2, cap2, rfl⟩ := row_pos hV hp
      have hcU : Hid (∀ j, j < k → wr.cell? ⟨g1, j, none⟩ = some (.int .i64 ((l.map Ex.kind).getD j 0))) := fun j hj => row_cells hU j (by rw [List.length_map, hlen.out]; exact hj)
      have hcV : Hid (∀ j, j < k → wr.cell? ⟨g2, j, none⟩ = some (.int .i64 ((l.map Ex.num).getD j 0))) := fun j hj => row_cells hV j (by rw [List.length_map, hlen.out]; exact hj)
      have hK0 := Lib.hid (hKW.out.trans hK.out)
      have hB2r := Lib.hid (hB2.out.kp hK.out (by simp))
      have hB1r := Lib.hid hBr
      clear hU hV
      go_wp2_with fail
      refine (hkd.out _ g1 cap1 hcU.out).mono ?_
      rintro r w5 ⟨rfl, hg5⟩
      have hK5 := Lib.hid (hK0.out.trans hg5.kp)
      have hB5 := hB2r.out.kp hg5.kp (by simp)
      have hC5 := hB1r.out.kp hg5.kp (by simp)
      have hKf := Lib.hid (fun (a : World) (h : Kp [] w a) (i : Nat) (u : Value) => h.setCell (p := ⟨w.heap.size + 1, i, none⟩) (.inr (by simp)) u)
      have f0 := hB5.frozen 0
      have f1 := hB5.frozen 1
      have f2 := hB5.frozen 2
      have f3 := hB5.frozen 3
      have f4 := hB5.frozen 4
      have f5 := hB5.frozen 5
      have g0 := hB5.cell 0 (v := .int .i64 0) rfl
      have g1' := hB5.cell 1 (v := .int .i64 0) rfl
      have g2' := hB5.cell 2 (v := .int .i64 0) rfl
      have g3 := hB5.cell 3 (v := .string ⟨#[]⟩) rfl
      have g4 := hB5.cell 4 (v := .string ⟨#[]⟩) rfl
      have g5 := hB5.cell 5 (v := .slice none 0 0) rfl
      have hlt3 : w.heap.size + 1 < w5.heap.size := hB5.lt
      have hZ : Blk ((((((w5.setCell ⟨w.heap.size + 1, 0, none⟩ (.int .i64 0)).setCell ⟨w.heap.size + 1, 1, none⟩ (.int .i64 0)).setCell ⟨w.heap.size + 1, 2, none⟩ (.int .i64 0)).setCell ⟨w.heap.size + 1, 3, none⟩ (.string ⟨#[]⟩)).setCell ⟨w.heap.size + 1, 4, none⟩ (.string ⟨#[]⟩)).setCell ⟨w.heap.size + 1, 5, none⟩ (.slice none 0 0)) (w.heap.size + 1) 24 #[.int .i64 0, .int .i64 0, .int .i64 0, .string ⟨#[]⟩, .string ⟨#[]⟩, .slice none 0 0] := (((((hB5.set 0 (.int .i64 0)).set 1 (.int .i64 0)).set 2 (.int .i64 0)).set 3 (.string ⟨#[]⟩)).set 4 (.string ⟨#[]⟩)).set 5 (.slice none 0 0)
      have hKz : Hid (Kp [] w ((((((w5.setCell ⟨w.heap.size + 1, 0, none⟩ (.int .i64 0)).setCell ⟨w.heap.size + 1, 1, none⟩ (.int .i64 0)).setCell ⟨w.heap.size + 1, 2, none⟩ (.int .i64 0)).setCell ⟨w.heap.size + 1, 3, none⟩ (.string ⟨#[]⟩)).setCell ⟨w.heap.size + 1, 4, none⟩ (.string ⟨#[]⟩)).setCell ⟨w.heap.size + 1, 5, none⟩ (.slice none 0 0))) := (hKf.out _ (hKf.out _ (hKf.out _ (hKf.out _ (hKf.out _ (hKf.out _ hK5.out 0 _) 1 _) 2 _) 3 _) 4 _) 5 _)
      have z0 := hZ.cell 0 (v := .int .i64 0) rfl
      have z1 := hZ.cell 1 (v := .int .i64 0) rfl
      have z2 := hZ.cell 2 (v := .int .i64 0) rfl
      have z3 := hZ.cell 3 (v := .string ⟨#[]⟩) rfl
      have z4 := hZ.cell 4 (v := .string ⟨#[]⟩) rfl
      have z5 := hZ.cell 5 (v := .slice none 0 0) rfl
      replace hZ := Lib.hid hZ
      go_wp2_with fail
      refine bodyPost_ret (v := .tuple #[.agg #[.int .i64 0, .int .i64 0, .int .i64 0, .string ⟨#[]⟩, .string ⟨#[]⟩, .slice none 0 0], .bool false]) (by simp [results, Tryz.results30, go_sem, z0, z1, z2, z3, z4, z5]) rfl ⟨rfl, hKz.out⟩
end Go.Proofs.YtgldbeacjacbcaaGreat
