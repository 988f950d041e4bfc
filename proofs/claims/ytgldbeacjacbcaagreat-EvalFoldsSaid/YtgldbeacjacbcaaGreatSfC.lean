import Derived.Test.YtgldbeacjacbcaaGreatSf2
set_option linter.unusedSimpArgs false
set_option linter.unusedVariables false
namespace Go.Proofs.YtgldbeacjacbcaaGreat
open Go.RowKit

set_option maxRecDepth 100000 in
set_option maxHeartbeats 4000000 in
theorem rf_b_nc (op kind num : Int) (s f : ByteArray) (es : List Ex) (a b : Ex) (h8 : 8 ≤ op) (h21 : op ≤ 21) (hl0 : foldL es = [a, b]) (ha1 : ¬ a.op = 1) (IH : ∀ i (hi : i < es.length), RFoldC es[i]) : RFoldC (.mk op kind num s f es) := by
  intro w v hv hw hcnt
  obtain ⟨q, cap, rfl⟩ := hv.val
  rw [well_eq, Bool.and_eq_true] at hw
  have hc1 : cntL es < (Ex.mk op kind num s f es).cnt := cnt_args (.mk op kind num s f es)
  have hl5 : es.length ≤ 500 := by have := len_cntL es; omega
  have hel : Hid (∀ i (hi : i < es.length), es[i].well = true ∧ es[i].cnt ≤ 500) := fun i hi => ⟨wellL_in hw.2 (List.getElem_mem hi), by have := cnt_mem hi; omega⟩
  have hshp : shpB (.mk op kind num s f (foldL es)) = true := by rw [shp_len _ _ _ _ _ (foldL_len es)]; exact hw.1
  have hLw : Hid (wellL (foldL es) = true) := foldL_well es hw.2
  have hlf : (foldL es).length = es.length := foldL_len es
  have hfe : foldE (.mk op kind num s f es) = stepE (.mk op kind num s f (foldL es)) := foldE_eq _
  replace IH := Lib.hid IH
  obtain ⟨i0, hi, hz0, hz1, hz2⟩ := info_parts infoEx
  replace hv : exsSl w (.slice q es.length cap) es := hv
  show Calls Tryz.prog 9 #[.agg #[.int .i64 op, .int .i64 kind, .int .i64 num, .string s, .string f, .slice q es.length cap]] w _
  obtain ⟨y, hy⟩ : ∃ y, foldE (.mk op kind num s f es) = y := ⟨_, rfl⟩
  rw [hy] at hfe ⊢
  obtain ⟨len, hlen⟩ : ∃ len, es.length = len := ⟨_, rfl⟩
  rw [hlen] at hv hl5 hlf ⊢
  replace hlen := Lib.hid hlen
  replace hfe := Lib.hid hfe
  replace hshp := Lib.hid hshp
  replace hlf := Lib.hid hlf
  replace hv := Lib.hid hv
  clear hw
  clear hc1 hcnt hy
  go_enter Tryz.func9, Tryz.ntmps9
  go_wp2_with fail
  go_loopw [4] (fun i wr => ∃ (k : Nat) (L : List (List Value)) (u : Value), k ≤ len ∧ i = .int .i64 k ∧
      Hid (Blk wr w.heap.size 24 #[.int .i64 op, .int .i64 kind, .int .i64 num, .string s, .string f, .slice q len cap]) ∧
      Hid (Blk wr (w.heap.size + 1) 24 #[.int .i64 0, .int .i64 0, .int .i64 0, .string ⟨#[]⟩, .string ⟨#[]⟩, .slice none 0 0]) ∧
      Hid (Blk wr (w.heap.size + 1 + 1) 24 #[.int .i64 op, .int .i64 kind, .int .i64 num, .string s, .string f, u]) ∧
      Hid (wr.ownsRow (w.heap.size + 3) 24 6 u k L.flatten) ∧
      Hid (exsAtB (fun b => w.heap.size + 3 ≤ b ∧ b < wr.heap.size ∧ u.ownBlock ≠ some b) wr (foldL (es.take k)) L) ∧ Hid (Kp [] w wr) ∧ Hid (w.heap.size + 3 ≤ wr.heap.size)) (fun i _ => len - (intOf i).toNat)
  case atStart => exact ⟨0, [], .slice none 0 0, Nat.zero_le _, rfl, ((Blk.new _ _ _).alloc _).alloc _, (blk_new (by simp) _ _).alloc _, blk_new (by simp) _ _, World.ownsRow_nil _ _ _ _, (by show exsAtB _ _ (foldL []) []; rw [foldL, exsAtB]), (((Kp.refl [] w).alloc _).alloc _).alloc _, (by show _ ≤ _; simp)⟩
  case round =>
    obtain ⟨k, L, u, hk, rfl, hBe, hBr, hBo, hu, hE, hK, hsz⟩ := hrel
    have b5 := hBe.out.cell 5 (v := .slice q len cap) rfl
    have o5 := hBo.out.cell 5 (v := u) rfl
    by_cases hlt : k < len
    · have hlt2 : k < es.length := by rw [hlen.out]; exact hlt
      obtain ⟨b, off, ux, rfl, hux, c0, c1, c2, c3, c4, c5⟩ := hv.out.at_in hK.out k hlt2
      have hcall := IH.out k hlt2
      have hts := Lib.hid (foldL_take_succ hlt2)
      have hwe := Lib.hid (hel.out k hlt2)
      obtain ⟨x, hx⟩ : ∃ x, es[k] = x := ⟨_, rfl⟩
      rw [hx] at c0 c1 c2 c3 c4 hcall hts hwe hux
      clear hx
      obtain ⟨qu, cu, rfl⟩ := hux.val
      have hfold := Lib.hid (hcall wr _ (hux.kp hK.out) hwe.out.1 hwe.out.2)
      clear hcall
      obtain ⟨lu, hlu⟩ : ∃ lu, x.args.length = lu := ⟨_, rfl⟩
      unfold exVal at hfold
      rw [hlu] at c5 hfold
      clear hlu hux
      obtain ⟨y, hy⟩ : ∃ y, foldE x = y := ⟨_, rfl⟩
      rw [hy] at hfold hts
      clear hy hwe
      have hul : Hid (∀ g, u.ownBlock = some g → w.heap.size + 3 ≤ g ∧ g < wr.heap.size) := fun g hg => hu.out.lt g hg
      go_wp2_with fail
      refine hfold.out.mono ?_
      rintro r w2 ⟨u1, rfl, hk2, hy⟩
      obtain ⟨qy, cy, rfl⟩ := hy.drop.val
      unfold exVal
      obtain ⟨ly, hly⟩ : ∃ ly, y.args.length = ly := ⟨_, rfl⟩
      rw [hly] at hy ⊢
      clear hly
      have hsz1 : wr.heap.size ≤ w2.heap.size := hk2.size
      have hU2 := Lib.hid ((row_kp hu.out hk2).alloc (.cells #[.int .i64 y.op, .int .i64 y.kind, .int .i64 y.num, .string y.s, .string y.field, .slice qy ly cy] 24))
      have hK2 := Lib.hid ((hK.out.trans hk2).alloc (.cells #[.int .i64 y.op, .int .i64 y.kind, .int .i64 y.num, .string y.s, .string y.field, .slice qy ly cy] 24))
      have hbs : Hid (w.heap.size + 3 ≤ (w2.alloc (.cells #[.int .i64 y.op, .int .i64 y.kind, .int .i64 y.num, .string y.s, .string y.field, .slice qy ly cy] 24)).heap.size) := by show _ ≤ _; rw [World.size_alloc]; have := hsz.out; omega
      have hnew := Lib.hid (ex_cells w2 y.op y.kind y.num y.s y.field (.slice qy ly cy))
      have hone := Lib.hid (ex_one y.op y.kind y.num y.s y.field qy ly cy)
      have hkeep : Hid (∀ b, b < wr.heap.size → (w2.alloc (.cells #[.int .i64 y.op, .int .i64 y.kind, .int .i64 y.num, .string y.s, .string y.field, .slice qy ly cy] 24)).heap[b]? = wr.heap[b]?) := fun b hb => by
        have h1 := hk2.alloc (.cells #[.int .i64 y.op, .int .i64 y.kind, .int .i64 y.num, .string y.s, .string y.field, .slice qy ly cy] 24)
        exact h1.block b hb (by simp)
      have hy2 := Lib.hid hy
      have hsz2 := Lib.hid hsz1
      replace hk2 := Lib.hid hk2
      clear hy hsz1
      go_wp2_with (at_builtin; refine wpList_append_own_at _ rfl (.tmp 25) (.tmp 32) 22 rfl (w.heap.size + 3) 24 i0 _ 6 80 Tryz.underlying22 hi hz0 hz1 hz2 rfl (by decide) _ k _ rfl hU2.out ⟨w2.heap.size, 0, none⟩ 1 1 [.int .i64 y.op, .int .i64 y.kind, .int .i64 y.num, .string y.s, .string y.field, .slice qy ly cy] rfl rfl hnew.out hone.out (by unfold maxLen; omega) (by omega) hbs.out ?_; intro v' w3 hown' hgrow _ hat; obtain ⟨vq, vc, rfl⟩ := own_slice hown'; have hlow : ∀ b, b < wr.heap.size → u.ownBlock ≠ some b → w3.heap[b]? = wr.heap[b]? := (fun b hb h => (hgrow.block b (by rw [World.size_alloc]; have := hsz2.out; omega) (fun h4 => h h4.symm)).trans (hkeep.out b hb)); have hlow3 : ∀ b, b < w.heap.size + 3 → w3.heap[b]? = wr.heap[b]? := (fun b hb => hlow b (by have := hsz.out; omega) (fun h4 => by have := (hul.out b h4).1; omega)); have hBo3 : Blk w3 (w.heap.size + 1 + 1) 24 #[.int .i64 op, .int .i64 kind, .int .i64 num, .string s, .string f, u] := (hlow3 _ (by omega)).trans hBo.out; have f5 := hBo3.frozen 5; have d5 := hBo3.cell 5 (v := u) rfl; replace hlow := Lib.hid hlow; replace hlow3 := Lib.hid hlow3; replace hBo3 := Lib.hid hBo3; replace hgrow := Lib.hid hgrow; replace hown' := Lib.hid hown'; replace hat := Lib.hid hat)
      have hg3 : (w2.alloc (.cells #[.int .i64 y.op, .int .i64 y.kind, .int .i64 y.num, .string y.s, .string y.field, .slice qy ly cy] 24)).heap.size ≤ w3.heap.size := hgrow.out.size
      rw [World.size_alloc] at hg3
      have hat2 : (Value.slice vq (k + 1) vc).ownBlock = u.ownBlock ∨ (Value.slice vq (k + 1) vc).ownBlock = some (w2.heap.size + 1) := by
        have := hat.out
        rw [World.size_alloc] at this
        exact this
      have hgb : ∀ b, b < w2.heap.size + 1 → u.ownBlock ≠ some b → w3.heap[b]? = (w2.alloc (.cells #[.int .i64 y.op, .int .i64 y.kind, .int .i64 y.num, .string y.s, .string y.field, .slice qy ly cy] 24)).heap[b]? := fun b hb h => hgrow.out.block b (by rw [World.size_alloc]; exact hb) (fun h4 => h h4.symm)
      have hE3 : exsAtB (fun b => w.heap.size + 3 ≤ b ∧ b < w3.heap.size ∧ (Value.slice vq (k + 1) vc).ownBlock ≠ some b) w3 (foldL (es.take (k + 1))) (L ++ [exV y (.slice qy ly cy)]) := by
        rw [hts.out]
        have hsz1 := hsz2.out
        have hsz0 := hsz.out
        refine exsAtB.snoc (exsAtB.move ?_ ?_ _ L hE.out) (exAtB_mk (hy2.out.move ?_ ?_))
        · rintro b ⟨h1, h2, h3⟩
          refine ⟨h1, by omega, fun h4 => ?_⟩
          rcases hat2 with h5 | h5
          · exact h3 (h5 ▸ h4)
          · rw [h5] at h4; simp at h4; omega
        · rintro b ⟨h1, h2, h3⟩ hb
          exact hlow.out b h2 h3
        · rintro b ⟨h1, h2⟩
          refine ⟨by omega, by omega, fun h4 => ?_⟩
          rcases hat2 with h5 | h5
          · rw [h5] at h4; have := (hul.out b h4).2; omega
          · rw [h5] at h4; simp at h4; omega
        · rintro b ⟨h1, h2⟩ hb
          rw [hgb b (by omega) (fun h => by have := (hul.out b h).2; omega)]
          exact ((Kp.refl [] w2).alloc _).block b hb (by simp)
      have hE4 : Hid (exsAtB (fun b => w.heap.size + 3 ≤ b ∧ b < (w3.setCell ⟨w.heap.size + 1 + 1, 5, none⟩ (.slice vq (k + 1) vc)).heap.size ∧ (Value.slice vq (k + 1) vc).ownBlock ≠ some b) (w3.setCell ⟨w.heap.size + 1 + 1, 5, none⟩ (.slice vq (k + 1) vc)) (foldL (es.take (k + 1))) (L ++ [exV y (.slice qy ly cy)])) :=
        exsAtB.move (fun b h => ⟨h.1, by simpa [World.setCell] using h.2.1, h.2.2⟩) (fun b h _ => Below.heap_setCell w3 _ _ b (by have := h.1; show ¬ b = w.heap.size + 1 + 1; omega)) _ _ hE3
      have hO4 : Hid ((w3.setCell ⟨w.heap.size + 1 + 1, 5, none⟩ (.slice vq (k + 1) vc)).ownsRow (w.heap.size + 3) 24 6 (.slice vq (k + 1) vc) (k + 1) (L ++ [exV y (.slice qy ly cy)]).flatten) := by
        show World.ownsRow _ _ _ _ _ _ _
        rw [flatten_snoc]
        exact row_set hown'.out _ (by omega) _ _
      have hB1 : Hid (Blk (w3.setCell ⟨w.heap.size + 1 + 1, 5, none⟩ (.slice vq (k + 1) vc)) w.heap.size 24 #[.int .i64 op, .int .i64 kind, .int .i64 num, .string s, .string f, .slice (some ⟨b, off, none⟩) len cap]) := Blk.other (show Blk w3 _ _ _ from (hlow3.out _ (by omega)).trans hBe.out) (by simp; omega) _
      have hB2 : Hid (Blk (w3.setCell ⟨w.heap.size + 1 + 1, 5, none⟩ (.slice vq (k + 1) vc)) (w.heap.size + 1) 24 #[.int .i64 0, .int .i64 0, .int .i64 0, .string ⟨#[]⟩, .string ⟨#[]⟩, .slice none 0 0]) := Blk.other (show Blk w3 _ _ _ from (hlow3.out _ (by omega)).trans hBr.out) (by simp) _
      have hB3 : Hid (Blk (w3.setCell ⟨w.heap.size + 1 + 1, 5, none⟩ (.slice vq (k + 1) vc)) (w.heap.size + 1 + 1) 24 #[.int .i64 op, .int .i64 kind, .int .i64 num, .string s, .string f, .slice vq (k + 1) vc]) := hBo3.out.set 5 _
      have hK3 : Hid (Kp [] w (w3.setCell ⟨w.heap.size + 1 + 1, 5, none⟩ (.slice vq (k + 1) vc))) := (hK2.out.grown hgrow.out (fun j hj => .inr (by have := (hul.out j hj).1; omega))).setCell (.inr (by show w.heap.size ≤ w.heap.size + 1 + 1; omega)) _
      have hs3 : Hid (w.heap.size + 3 ≤ (w3.setCell ⟨w.heap.size + 1 + 1, 5, none⟩ (.slice vq (k + 1) vc)).heap.size) := by show _ ≤ _; have h1 := hsz.out; have h2 := hsz2.out; simp [World.setCell]; omega
      clear hgrow hown' hat hg3 hat2 hE3
      go_roundw
      case rel => exact ⟨k + 1, L ++ [exV y (.slice qy ly cy)], _, by omega, by go_num, hB1, hB2, hB3, hO4, hE4, hK3, hs3⟩
      case measure => simp [intOf]; omega
    · obtain rfl : len = k := by omega
      have hfull := tk_all hlen.out
      have hE2 := hE.out
      rw [hfull] at hE2
      have hus := row_at (by rw [hlf.out]) hu.out hE2
      obtain ⟨qu, cu, rfl⟩ := own_slice hu.out
      clear hE2 hfull hE hu hel IH hv hlt b5 o5 hk
      rw [hl0] at hus hshp hLw hlf hfe
      have hout : Hid (∀ X, Kp [] wr X → Kp [] w X ∧ Blk X w.heap.size 24 #[.int .i64 op, .int .i64 kind, .int .i64 num, .string s, .string f, .slice q len cap] ∧ Blk X (w.heap.size + 1) 24 #[.int .i64 0, .int .i64 0, .int .i64 0, .string ⟨#[]⟩, .string ⟨#[]⟩, .slice none 0 0] ∧ Blk X (w.heap.size + 1 + 1) 24 #[.int .i64 op, .int .i64 kind, .int .i64 num, .string s, .string f, .slice qu len cu] ∧ exsSlB (fun b => w.heap.size + 3 ≤ b ∧ b < wr.heap.size) X (.slice qu len cu) [a, b] ∧ wr.heap.size ≤ X.heap.size) := fun X hX => ⟨hK.out.trans hX, hBe.out.kp hX (by simp), hBr.out.kp hX (by simp), hBo.out.kp hX (by simp), hus.move (fun b h => h) (fun b _ hb => hX.block b hb (by simp)), hX.size⟩
      have hend : Hid (∀ (X F : World) (u : Value) (es : List Ex), Kp [] w X → Kp [w.heap.size + 1] X F → wr.heap.size ≤ X.heap.size → exsSlB (fun b => w.heap.size + 3 ≤ b ∧ b < wr.heap.size) X u es → Kp [] w F ∧ exsSlB (Rg w F) F u es) := by
        intro X F u es h1 h2 h3 h4
        refine ⟨h1.trans' h2 (fun i hi hl => by simp at hi; omega), h4.move (fun b h => ⟨by omega, by have := h2.size; omega⟩) (fun b h hb => h2.block b hb (by simp; omega))⟩
      replace hus := Lib.hid hus
      clear hBe hBr hBo hsz hi hz0 hz1 hz2
      obtain ⟨b0, off, rfl, hget⟩ := hus.out.at_ (by simp)
      obtain ⟨qa, la, ca, hla, hua, hca⟩ := hget 0 (by simp)
      replace hca : ∀ j x, (exV a (.slice qa la ca))[j]? = some x → wr.cell? ⟨b0, off + (0 * 6 + j), none⟩ = some x := hca
      have av0 := hca 0 _ rfl
      have av1 := hca 1 _ rfl
      have av2 := hca 2 _ rfl
      have av3 := hca 3 _ rfl
      have av4 := hca 4 _ rfl
      have av5 := hca 5 _ rfl
      simp only [Nat.zero_mul, Nat.zero_add, Nat.add_zero, Nat.one_mul, Nat.reduceAdd] at av0 av1 av2 av3 av4 av5
      replace hua : exsSlB _ wr (.slice qa la ca) a.args := hua
      clear hget
      have hln : Hid (2 = len) := hlf.out
      have hp0 : 0 < len := by have := hln.out; omega
      have hp1 : 1 < len := by have := hln.out; omega
      have n6 : ¬ op = 6 := by omega
      have m6 : (op == 6) = false := by simpa using n6
      have n7 : ¬ op = 7 := by omega
      have m7 : (op == 7) = false := by simpa using n7
      have n5 : ¬ op < 6 := by omega
      have n22 : ¬ 21 < op := by omega
      have hab : (a.op != 1) = true := by simpa using ha1
      have hY := hout.out wr (Kp.refl [] wr)
      have e0x := hY.2.1.cell 0 (v := .int .i64 op) rfl
      have e5x := hY.2.1.cell 5 (v := .slice q len cap) rfl
      have o5x := hY.2.2.2.1.cell 5 (v := .slice (some ⟨b0, off, none⟩) len cu) rfl
      clear hY
      have hX := hout.out (wr.alloc (.cells #[.int .i64 a.op, .int .i64 a.kind, .int .i64 a.num, .string a.s, .string a.field, .slice qa la ca] 24)) ((Kp.refl [] wr).alloc (.cells #[.int .i64 a.op, .int .i64 a.kind, .int .i64 a.num, .string a.s, .string a.field, .slice qa la ca] 24))
      obtain ⟨hXw, hXe, hXr, hXo, hXu, hXs⟩ := hX
      have f0 := hXr.frozen 0
      have f1 := hXr.frozen 1
      have f2 := hXr.frozen 2
      have f3 := hXr.frozen 3
      have f4 := hXr.frozen 4
      have f6 := hXr.frozen 5
      have g0 := hXr.cell 0 (v := .int .i64 0) rfl
      have g1 := hXr.cell 1 (v := .int .i64 0) rfl
      have g2 := hXr.cell 2 (v := .int .i64 0) rfl
      have g3 := hXr.cell 3 (v := .string ⟨#[]⟩) rfl
      have g4 := hXr.cell 4 (v := .string ⟨#[]⟩) rfl
      have g5 := hXr.cell 5 (v := .slice none 0 0) rfl
      have o0 := hXo.cell 0 (v := .int .i64 op) rfl
      have o1 := hXo.cell 1 (v := .int .i64 kind) rfl
      have o2 := hXo.cell 2 (v := .int .i64 num) rfl
      have o3 := hXo.cell 3 (v := .string s) rfl
      have o4 := hXo.cell 4 (v := .string f) rfl
      have o5 := hXo.cell 5 (v := .slice (some ⟨b0, off, none⟩) len cu) rfl
      have e0 := hXe.cell 0 (v := .int .i64 op) rfl
      have e1 := hXe.cell 1 (v := .int .i64 kind) rfl
      have e2 := hXe.cell 2 (v := .int .i64 num) rfl
      have e3 := hXe.cell 3 (v := .string s) rfl
      have e4 := hXe.cell 4 (v := .string f) rfl
      have e5 := hXe.cell 5 (v := .slice q len cap) rfl
      have hlt3 : w.heap.size + 1 < (wr.alloc (.cells #[.int .i64 a.op, .int .i64 a.kind, .int .i64 a.num, .string a.s, .string a.field, .slice qa la ca] 24)).heap.size := hXr.lt
      obtain ⟨hZ, hKz⟩ := set6 hXr (.int .i64 op) (.int .i64 kind) (.int .i64 num) (.string s) (.string f) (.slice (some ⟨b0, off, none⟩) len cu)
      have z0 := hZ.cell 0 (v := .int .i64 op) rfl
      have z1 := hZ.cell 1 (v := .int .i64 kind) rfl
      have z2 := hZ.cell 2 (v := .int .i64 num) rfl
      have z3 := hZ.cell 3 (v := .string s) rfl
      have z4 := hZ.cell 4 (v := .string f) rfl
      have z5 := hZ.cell 5 (v := .slice (some ⟨b0, off, none⟩) len cu) rfl
      replace hZ := Lib.hid hZ
      replace hKz := Lib.hid hKz
      replace hXw := Lib.hid hXw
      replace hXe := Lib.hid hXe
      replace hXr := Lib.hid hXr
      replace hXo := Lib.hid hXo
      replace hXu := Lib.hid hXu
      replace hXs := Lib.hid hXs
      go_wp2_with fail
      refine bodyPost_ret (v := .agg #[.int .i64 op, .int .i64 kind, .int .i64 num, .string s, .string f, .slice (some ⟨b0, off, none⟩) len cu]) (by simp [results, Tryz.results9, go_sem, z0, z1, z2, z3, z4, z5]) rfl ?_
      have hF := hend.out _ _ _ [a, b] hXw.out hKz.out hXs.out hXu.out
      rw [show y = _ from hfe.out.trans (step_bi_no h8 (dec_two_no ha1) (.inl ha1))]
      exact ⟨_, rfl, hF.1, hF.2⟩

set_option maxRecDepth 100000 in
set_option maxHeartbeats 4000000 in
theorem rf_b_dec (op kind num : Int) (s f : ByteArray) (es : List Ex) (a b : Ex) (h8 : 8 ≤ op) (h21 : op ≤ 21) (hl0 : foldL es = [a, b]) (ha1 : a.op = 1) (hd : (((op == 10 && a.num == 0) || (op == 8 && a.num == 1)) && a.kind == 1) = true) (IH : ∀ i (hi : i < es.length), RFoldC es[i]) : RFoldC (.mk op kind num s f es) := by
  intro w v hv hw hcnt
  obtain ⟨q, cap, rfl⟩ := hv.val
  rw [well_eq, Bool.and_eq_true] at hw
  have hc1 : cntL es < (Ex.mk op kind num s f es).cnt := cnt_args (.mk op kind num s f es)
  have hl5 : es.length ≤ 500 := by have := len_cntL es; omega
  have hel : Hid (∀ i (hi : i < es.length), es[i].well = true ∧ es[i].cnt ≤ 500) := fun i hi => ⟨wellL_in hw.2 (List.getElem_mem hi), by have := cnt_mem hi; omega⟩
  have hshp : shpB (.mk op kind num s f (foldL es)) = true := by rw [shp_len _ _ _ _ _ (foldL_len es)]; exact hw.1
  have hLw : Hid (wellL (foldL es) = true) := foldL_well es hw.2
  have hlf : (foldL es).length = es.length := foldL_len es
  have hfe : foldE (.mk op kind num s f es) = stepE (.mk op kind num s f (foldL es)) := foldE_eq _
  replace IH := Lib.hid IH
  obtain ⟨i0, hi, hz0, hz1, hz2⟩ := info_parts infoEx
  replace hv : exsSl w (.slice q es.length cap) es := hv
  show Calls Tryz.prog 9 #[.agg #[.int .i64 op, .int .i64 kind, .int .i64 num, .string s, .string f, .slice q es.length cap]] w _
  obtain ⟨y, hy⟩ : ∃ y, foldE (.mk op kind num s f es) = y := ⟨_, rfl⟩
  rw [hy] at hfe ⊢
  obtain ⟨len, hlen⟩ : ∃ len, es.length = len := ⟨_, rfl⟩
  rw [hlen] at hv hl5 hlf ⊢
  replace hlen := Lib.hid hlen
  replace hfe := Lib.hid hfe
  replace hshp := Lib.hid hshp
  replace hlf := Lib.hid hlf
  replace hv := Lib.hid hv
  clear hw
  clear hc1 hcnt hy
  go_enter Tryz.func9, Tryz.ntmps9
  go_wp2_with fail
  go_loopw [4] (fun i wr => ∃ (k : Nat) (L : List (List Value)) (u : Value), k ≤ len ∧ i = .int .i64 k ∧
      Hid (Blk wr w.heap.size 24 #[.int .i64 op, .int .i64 kind, .int .i64 num, .string s, .string f, .slice q len cap]) ∧
      Hid (Blk wr (w.heap.size + 1) 24 #[.int .i64 0, .int .i64 0, .int .i64 0, .string ⟨#[]⟩, .string ⟨#[]⟩, .slice none 0 0]) ∧
      Hid (Blk wr (w.heap.size + 1 + 1) 24 #[.int .i64 op, .int .i64 kind, .int .i64 num, .string s, .string f, u]) ∧
      Hid (wr.ownsRow (w.heap.size + 3) 24 6 u k L.flatten) ∧
      Hid (exsAtB (fun b => w.heap.size + 3 ≤ b ∧ b < wr.heap.size ∧ u.ownBlock ≠ some b) wr (foldL (es.take k)) L) ∧ Hid (Kp [] w wr) ∧ Hid (w.heap.size + 3 ≤ wr.heap.size)) (fun i _ => len - (intOf i).toNat)
  case atStart => exact ⟨0, [], .slice none 0 0, Nat.zero_le _, rfl, ((Blk.new _ _ _).alloc _).alloc _, (blk_new (by simp) _ _).alloc _, blk_new (by simp) _ _, World.ownsRow_nil _ _ _ _, (by show exsAtB _ _ (foldL []) []; rw [foldL, exsAtB]), (((Kp.refl [] w).alloc _).alloc _).alloc _, (by show _ ≤ _; simp)⟩
  case round =>
    obtain ⟨k, L, u, hk, rfl, hBe, hBr, hBo, hu, hE, hK, hsz⟩ := hrel
    have b5 := hBe.out.cell 5 (v := .slice q len cap) rfl
    have o5 := hBo.out.cell 5 (v := u) rfl
    by_cases hlt : k < len
    · have hlt2 : k < es.length := by rw [hlen.out]; exact hlt
      obtain ⟨b, off, ux, rfl, hux, c0, c1, c2, c3, c4, c5⟩ := hv.out.at_in hK.out k hlt2
      have hcall := IH.out k hlt2
      have hts := Lib.hid (foldL_take_succ hlt2)
      have hwe := Lib.hid (hel.out k hlt2)
      obtain ⟨x, hx⟩ : ∃ x, es[k] = x := ⟨_, rfl⟩
      rw [hx] at c0 c1 c2 c3 c4 hcall hts hwe hux
      clear hx
      obtain ⟨qu, cu, rfl⟩ := hux.val
      have hfold := Lib.hid (hcall wr _ (hux.kp hK.out) hwe.out.1 hwe.out.2)
      clear hcall
      obtain ⟨lu, hlu⟩ : ∃ lu, x.args.length = lu := ⟨_, rfl⟩
      unfold exVal at hfold
      rw [hlu] at c5 hfold
      clear hlu hux
      obtain ⟨y, hy⟩ : ∃ y, foldE x = y := ⟨_, rfl⟩
      rw [hy] at hfold hts
      clear hy hwe
      have hul : Hid (∀ g, u.ownBlock = some g → w.heap.size + 3 ≤ g ∧ g < wr.heap.size) := fun g hg => hu.out.lt g hg
      go_wp2_with fail
      refine hfold.out.mono ?_
      rintro r w2 ⟨u1, rfl, hk2, hy⟩
      obtain ⟨qy, cy, rfl⟩ := hy.drop.val
      unfold exVal
      obtain ⟨ly, hly⟩ : ∃ ly, y.args.length = ly := ⟨_, rfl⟩
      rw [hly] at hy ⊢
      clear hly
      have hsz1 : wr.heap.size ≤ w2.heap.size := hk2.size
      have hU2 := Lib.hid ((row_kp hu.out hk2).alloc (.cells #[.int .i64 y.op, .int .i64 y.kind, .int .i64 y.num, .string y.s, .string y.field, .slice qy ly cy] 24))
      have hK2 := Lib.hid ((hK.out.trans hk2).alloc (.cells #[.int .i64 y.op, .int .i64 y.kind, .int .i64 y.num, .string y.s, .string y.field, .slice qy ly cy] 24))
      have hbs : Hid (w.heap.size + 3 ≤ (w2.alloc (.cells #[.int .i64 y.op, .int .i64 y.kind, .int .i64 y.num, .string y.s, .string y.field, .slice qy ly cy] 24)).heap.size) := by show _ ≤ _; rw [World.size_alloc]; have := hsz.out; omega
      have hnew := Lib.hid (ex_cells w2 y.op y.kind y.num y.s y.field (.slice qy ly cy))
      have hone := Lib.hid (ex_one y.op y.kind y.num y.s y.field qy ly cy)
      have hkeep : Hid (∀ b, b < wr.heap.size → (w2.alloc (.cells #[.int .i64 y.op, .int .i64 y.kind, .int .i64 y.num, .string y.s, .string y.field, .slice qy ly cy] 24)).heap[b]? = wr.heap[b]?) := fun b hb => by
        have h1 := hk2.alloc (.cells #[.int .i64 y.op, .int .i64 y.kind, .int .i64 y.num, .string y.s, .string y.field, .slice qy ly cy] 24)
        exact h1.block b hb (by simp)
      have hy2 := Lib.hid hy
      have hsz2 := Lib.hid hsz1
      replace hk2 := Lib.hid hk2
      clear hy hsz1
      go_wp2_with (at_builtin; refine wpList_append_own_at _ rfl (.tmp 25) (.tmp 32) 22 rfl (w.heap.size + 3) 24 i0 _ 6 80 Tryz.underlying22 hi hz0 hz1 hz2 rfl (by decide) _ k _ rfl hU2.out ⟨w2.heap.size, 0, none⟩ 1 1 [.int .i64 y.op, .int .i64 y.kind, .int .i64 y.num, .string y.s, .string y.field, .slice qy ly cy] rfl rfl hnew.out hone.out (by unfold maxLen; omega) (by omega) hbs.out ?_; intro v' w3 hown' hgrow _ hat; obtain ⟨vq, vc, rfl⟩ := own_slice hown'; have hlow : ∀ b, b < wr.heap.size → u.ownBlock ≠ some b → w3.heap[b]? = wr.heap[b]? := (fun b hb h => (hgrow.block b (by rw [World.size_alloc]; have := hsz2.out; omega) (fun h4 => h h4.symm)).trans (hkeep.out b hb)); have hlow3 : ∀ b, b < w.heap.size + 3 → w3.heap[b]? = wr.heap[b]? := (fun b hb => hlow b (by have := hsz.out; omega) (fun h4 => by have := (hul.out b h4).1; omega)); have hBo3 : Blk w3 (w.heap.size + 1 + 1) 24 #[.int .i64 op, .int .i64 kind, .int .i64 num, .string s, .string f, u] := (hlow3 _ (by omega)).trans hBo.out; have f5 := hBo3.frozen 5; have d5 := hBo3.cell 5 (v := u) rfl; replace hlow := Lib.hid hlow; replace hlow3 := Lib.hid hlow3; replace hBo3 := Lib.hid hBo3; replace hgrow := Lib.hid hgrow; replace hown' := Lib.hid hown'; replace hat := Lib.hid hat)
      have hg3 : (w2.alloc (.cells #[.int .i64 y.op, .int .i64 y.kind, .int .i64 y.num, .string y.s, .string y.field, .slice qy ly cy] 24)).heap.size ≤ w3.heap.size := hgrow.out.size
      rw [World.size_alloc] at hg3
      have hat2 : (Value.slice vq (k + 1) vc).ownBlock = u.ownBlock ∨ (Value.slice vq (k + 1) vc).ownBlock = some (w2.heap.size + 1) := by
        have := hat.out
        rw [World.size_alloc] at this
        exact this
      have hgb : ∀ b, b < w2.heap.size + 1 → u.ownBlock ≠ some b → w3.heap[b]? = (w2.alloc (.cells #[.int .i64 y.op, .int .i64 y.kind, .int .i64 y.num, .string y.s, .string y.field, .slice qy ly cy] 24)).heap[b]? := fun b hb h => hgrow.out.block b (by rw [World.size_alloc]; exact hb) (fun h4 => h h4.symm)
      have hE3 : exsAtB (fun b => w.heap.size + 3 ≤ b ∧ b < w3.heap.size ∧ (Value.slice vq (k + 1) vc).ownBlock ≠ some b) w3 (foldL (es.take (k + 1))) (L ++ [exV y (.slice qy ly cy)]) := by
        rw [hts.out]
        have hsz1 := hsz2.out
        have hsz0 := hsz.out
        refine exsAtB.snoc (exsAtB.move ?_ ?_ _ L hE.out) (exAtB_mk (hy2.out.move ?_ ?_))
        · rintro b ⟨h1, h2, h3⟩
          refine ⟨h1, by omega, fun h4 => ?_⟩
          rcases hat2 with h5 | h5
          · exact h3 (h5 ▸ h4)
          · rw [h5] at h4; simp at h4; omega
        · rintro b ⟨h1, h2, h3⟩ hb
          exact hlow.out b h2 h3
        · rintro b ⟨h1, h2⟩
          refine ⟨by omega, by omega, fun h4 => ?_⟩
          rcases hat2 with h5 | h5
          · rw [h5] at h4; have := (hul.out b h4).2; omega
          · rw [h5] at h4; simp at h4; omega
        · rintro b ⟨h1, h2⟩ hb
          rw [hgb b (by omega) (fun h => by have := (hul.out b h).2; omega)]
          exact ((Kp.refl [] w2).alloc _).block b hb (by simp)
      have hE4 : Hid (exsAtB (fun b => w.heap.size + 3 ≤ b ∧ b < (w3.setCell ⟨w.heap.size + 1 + 1, 5, none⟩ (.slice vq (k + 1) vc)).heap.size ∧ (Value.slice vq (k + 1) vc).ownBlock ≠ some b) (w3.setCell ⟨w.heap.size + 1 + 1, 5, none⟩ (.slice vq (k + 1) vc)) (foldL (es.take (k + 1))) (L ++ [exV y (.slice qy ly cy)])) :=
        exsAtB.move (fun b h => ⟨h.1, by simpa [World.setCell] using h.2.1, h.2.2⟩) (fun b h _ => Below.heap_setCell w3 _ _ b (by have := h.1; show ¬ b = w.heap.size + 1 + 1; omega)) _ _ hE3
      have hO4 : Hid ((w3.setCell ⟨w.heap.size + 1 + 1, 5, none⟩ (.slice vq (k + 1) vc)).ownsRow (w.heap.size + 3) 24 6 (.slice vq (k + 1) vc) (k + 1) (L ++ [exV y (.slice qy ly cy)]).flatten) := by
        show World.ownsRow _ _ _ _ _ _ _
        rw [flatten_snoc]
        exact row_set hown'.out _ (by omega) _ _
      have hB1 : Hid (Blk (w3.setCell ⟨w.heap.size + 1 + 1, 5, none⟩ (.slice vq (k + 1) vc)) w.heap.size 24 #[.int .i64 op, .int .i64 kind, .int .i64 num, .string s, .string f, .slice (some ⟨b, off, none⟩) len cap]) := Blk.other (show Blk w3 _ _ _ from (hlow3.out _ (by omega)).trans hBe.out) (by simp; omega) _
      have hB2 : Hid (Blk (w3.setCell ⟨w.heap.size + 1 + 1, 5, none⟩ (.slice vq (k + 1) vc)) (w.heap.size + 1) 24 #[.int .i64 0, .int .i64 0, .int .i64 0, .string ⟨#[]⟩, .string ⟨#[]⟩, .slice none 0 0]) := Blk.other (show Blk w3 _ _ _ from (hlow3.out _ (by omega)).trans hBr.out) (by simp) _
      have hB3 : Hid (Blk (w3.setCell ⟨w.heap.size + 1 + 1, 5, none⟩ (.slice vq (k + 1) vc)) (w.heap.size + 1 + 1) 24 #[.int .i64 op, .int .i64 kind, .int .i64 num, .string s, .string f, .slice vq (k + 1) vc]) := hBo3.out.set 5 _
      have hK3 : Hid (Kp [] w (w3.setCell ⟨w.heap.size + 1 + 1, 5, none⟩ (.slice vq (k + 1) vc))) := (hK2.out.grown hgrow.out (fun j hj => .inr (by have := (hul.out j hj).1; omega))).setCell (.inr (by show w.heap.size ≤ w.heap.size + 1 + 1; omega)) _
      have hs3 : Hid (w.heap.size + 3 ≤ (w3.setCell ⟨w.heap.size + 1 + 1, 5, none⟩ (.slice vq (k + 1) vc)).heap.size) := by show _ ≤ _; have h1 := hsz.out; have h2 := hsz2.out; simp [World.setCell]; omega
      clear hgrow hown' hat hg3 hat2 hE3
      go_roundw
      case rel => exact ⟨k + 1, L ++ [exV y (.slice qy ly cy)], _, by omega, by go_num, hB1, hB2, hB3, hO4, hE4, hK3, hs3⟩
      case measure => simp [intOf]; omega
    · obtain rfl : len = k := by omega
      have hfull := tk_all hlen.out
      have hE2 := hE.out
      rw [hfull] at hE2
      have hus := row_at (by rw [hlf.out]) hu.out hE2
      obtain ⟨qu, cu, rfl⟩ := own_slice hu.out
      clear hE2 hfull hE hu hel IH hv hlt b5 o5 hk
      rw [hl0] at hus hshp hLw hlf hfe
      have hout : Hid (∀ X, Kp [] wr X → Kp [] w X ∧ Blk X w.heap.size 24 #[.int .i64 op, .int .i64 kind, .int .i64 num, .string s, .string f, .slice q len cap] ∧ Blk X (w.heap.size + 1) 24 #[.int .i64 0, .int .i64 0, .int .i64 0, .string ⟨#[]⟩, .string ⟨#[]⟩, .slice none 0 0] ∧ Blk X (w.heap.size + 1 + 1) 24 #[.int .i64 op, .int .i64 kind, .int .i64 num, .string s, .string f, .slice qu len cu] ∧ exsSlB (fun b => w.heap.size + 3 ≤ b ∧ b < wr.heap.size) X (.slice qu len cu) [a, b] ∧ wr.heap.size ≤ X.heap.size) := fun X hX => ⟨hK.out.trans hX, hBe.out.kp hX (by simp), hBr.out.kp hX (by simp), hBo.out.kp hX (by simp), hus.move (fun b h => h) (fun b _ hb => hX.block b hb (by simp)), hX.size⟩
      have hend : Hid (∀ (X F : World) (u : Value) (es : List Ex), Kp [] w X → Kp [w.heap.size + 1] X F → wr.heap.size ≤ X.heap.size → exsSlB (fun b => w.heap.size + 3 ≤ b ∧ b < wr.heap.size) X u es → Kp [] w F ∧ exsSlB (Rg w F) F u es) := by
        intro X F u es h1 h2 h3 h4
        refine ⟨h1.trans' h2 (fun i hi hl => by simp at hi; omega), h4.move (fun b h => ⟨by omega, by have := h2.size; omega⟩) (fun b h hb => h2.block b hb (by simp; omega))⟩
      replace hus := Lib.hid hus
      clear hBe hBr hBo hsz hi hz0 hz1 hz2
      obtain ⟨b0, off, rfl, hget⟩ := hus.out.at_ (by simp)
      obtain ⟨qa, la, ca, hla, hua, hca⟩ := hget 0 (by simp)
      replace hca : ∀ j x, (exV a (.slice qa la ca))[j]? = some x → wr.cell? ⟨b0, off + (0 * 6 + j), none⟩ = some x := hca
      have av0 := hca 0 _ rfl
      have av1 := hca 1 _ rfl
      have av2 := hca 2 _ rfl
      have av3 := hca 3 _ rfl
      have av4 := hca 4 _ rfl
      have av5 := hca 5 _ rfl
      simp only [Nat.zero_mul, Nat.zero_add, Nat.add_zero, Nat.one_mul, Nat.reduceAdd] at av0 av1 av2 av3 av4 av5
      replace hua : exsSlB _ wr (.slice qa la ca) a.args := hua
      clear hget
      have hln : Hid (2 = len) := hlf.out
      have hp0 : 0 < len := by have := hln.out; omega
      have hp1 : 1 < len := by have := hln.out; omega
      have n6 : ¬ op = 6 := by omega
      have m6 : (op == 6) = false := by simpa using n6
      have n7 : ¬ op = 7 := by omega
      have m7 : (op == 7) = false := by simpa using n7
      have n5 : ¬ op < 6 := by omega
      have n22 : ¬ 21 < op := by omega
      rw [ha1] at av0
      have hdd := Lib.hid hd
      clear hd
      have hde := Lib.hid ((dec_two (op := op) (b := b) ha1).trans hdd.out)
      replace ha1 := Lib.hid ha1
      have hua1 := Lib.hid (hua.move (w' := (wr.alloc (.cells #[.int .i64 1, .int .i64 a.kind, .int .i64 a.num, .string a.s, .string a.field, .slice qa la ca] 24))) (fun b h => h) (fun b _ hb => ((Kp.refl [] wr).alloc (.cells #[.int .i64 1, .int .i64 a.kind, .int .i64 a.num, .string a.s, .string a.field, .slice qa la ca] 24)).block b hb (by simp)))
      have hY := hout.out wr (Kp.refl [] wr)
      have e0x := hY.2.1.cell 0 (v := .int .i64 op) rfl
      have e5x := hY.2.1.cell 5 (v := .slice q len cap) rfl
      have o5x := hY.2.2.2.1.cell 5 (v := .slice (some ⟨b0, off, none⟩) len cu) rfl
      clear hY
      have hX := hout.out (wr.alloc (.cells #[.int .i64 1, .int .i64 a.kind, .int .i64 a.num, .string a.s, .string a.field, .slice qa la ca] 24)) ((Kp.refl [] wr).alloc (.cells #[.int .i64 1, .int .i64 a.kind, .int .i64 a.num, .string a.s, .string a.field, .slice qa la ca] 24))
      obtain ⟨hXw, hXe, hXr, hXo, hXu, hXs⟩ := hX
      have f0 := hXr.frozen 0
      have f1 := hXr.frozen 1
      have f2 := hXr.frozen 2
      have f3 := hXr.frozen 3
      have f4 := hXr.frozen 4
      have f6 := hXr.frozen 5
      have g0 := hXr.cell 0 (v := .int .i64 0) rfl
      have g1 := hXr.cell 1 (v := .int .i64 0) rfl
      have g2 := hXr.cell 2 (v := .int .i64 0) rfl
      have g3 := hXr.cell 3 (v := .string ⟨#[]⟩) rfl
      have g4 := hXr.cell 4 (v := .string ⟨#[]⟩) rfl
      have g5 := hXr.cell 5 (v := .slice none 0 0) rfl
      have o0 := hXo.cell 0 (v := .int .i64 op) rfl
      have o1 := hXo.cell 1 (v := .int .i64 kind) rfl
      have o2 := hXo.cell 2 (v := .int .i64 num) rfl
      have o3 := hXo.cell 3 (v := .string s) rfl
      have o4 := hXo.cell 4 (v := .string f) rfl
      have o5 := hXo.cell 5 (v := .slice (some ⟨b0, off, none⟩) len cu) rfl
      have e0 := hXe.cell 0 (v := .int .i64 op) rfl
      have e1 := hXe.cell 1 (v := .int .i64 kind) rfl
      have e2 := hXe.cell 2 (v := .int .i64 num) rfl
      have e3 := hXe.cell 3 (v := .string s) rfl
      have e4 := hXe.cell 4 (v := .string f) rfl
      have e5 := hXe.cell 5 (v := .slice q len cap) rfl
      have hlt3 : w.heap.size + 1 < (wr.alloc (.cells #[.int .i64 1, .int .i64 a.kind, .int .i64 a.num, .string a.s, .string a.field, .slice qa la ca] 24)).heap.size := hXr.lt
      obtain ⟨hZ, hKz⟩ := set6 hXr (.int .i64 1) (.int .i64 a.kind) (.int .i64 a.num) (.string a.s) (.string a.field) (.slice qa la ca)
      have z0 := hZ.cell 0 (v := .int .i64 1) rfl
      have z1 := hZ.cell 1 (v := .int .i64 a.kind) rfl
      have z2 := hZ.cell 2 (v := .int .i64 a.num) rfl
      have z3 := hZ.cell 3 (v := .string a.s) rfl
      have z4 := hZ.cell 4 (v := .string a.field) rfl
      have z5 := hZ.cell 5 (v := .slice qa la ca) rfl
      replace hZ := Lib.hid hZ
      replace hKz := Lib.hid hKz
      replace hXw := Lib.hid hXw
      replace hXe := Lib.hid hXe
      replace hXr := Lib.hid hXr
      replace hXo := Lib.hid hXo
      replace hXu := Lib.hid hXu
      replace hXs := Lib.hid hXs
      go_upto_region 18 with fail
      go_cut [102] (fun c wx => c = .bool true ∧ wx = (wr.alloc (.cells #[.int .i64 1, .int .i64 a.kind, .int .i64 a.num, .string a.s, .string a.field, .slice qa la ca] 24)))
      case first =>
        cases x10 : (op == 10)
        · have p10 : ¬ op = 10 := by simpa using x10
          cases x8 : (op == 8)
          · have p8 : ¬ op = 8 := by simpa using x8
            go_wp2_with fail
            go_meet
            case rel => exact ⟨congrArg Value.bool (Eq.trans (by simp [x10, x8]) hdd.out), rfl⟩
          · have pp : True := trivial
            cases y1 : (a.num == 1)
            · have p1 : ¬ a.num = 1 := by simpa using y1
              go_wp2_with fail
              go_meet
              case rel => exact ⟨congrArg Value.bool (Eq.trans (by simp [x10, x8, y1]) hdd.out), rfl⟩
            · have pp : True := trivial
              cases k1 : (a.kind == 1)
              · have pk : ¬ a.kind = 1 := by simpa using k1
                go_wp2_with fail
                go_meet
                case rel => exact ⟨congrArg Value.bool (Eq.trans (by simp [x10, x8, y1, k1]) hdd.out), rfl⟩
              · have pp : True := trivial
                go_wp2_with fail
                go_meet
                case rel => exact ⟨congrArg Value.bool (Eq.trans (by simp [x10, x8, y1, k1]) hdd.out), rfl⟩
        · have p10 : op = 10 := by simpa using x10
          have x8 : (op == 8) = false := by rw [p10]; rfl
          have p8 : ¬ op = 8 := by omega
          replace p10 := Lib.hid p10
          cases y0 : (a.num == 0)
          · have p0 : ¬ a.num = 0 := by simpa using y0
            go_wp2_with fail
            go_meet
            case rel => exact ⟨congrArg Value.bool (Eq.trans (by simp [x10, x8, y0]) hdd.out), rfl⟩
          · have pp : True := trivial
            cases k1 : (a.kind == 1)
            · have pk : ¬ a.kind = 1 := by simpa using k1
              go_wp2_with fail
              go_meet
              case rel => exact ⟨congrArg Value.bool (Eq.trans (by simp [x10, x8, y0, k1]) hdd.out), rfl⟩
            · have pp : True := trivial
              go_wp2_with fail
              go_meet
              case rel => exact ⟨congrArg Value.bool (Eq.trans (by simp [x10, x8, y0, k1]) hdd.out), rfl⟩
      case rest =>
        obtain ⟨rfl, rfl⟩ := hcut
        go_wp2_with fail
        refine bodyPost_ret (v := .agg #[.int .i64 1, .int .i64 a.kind, .int .i64 a.num, .string a.s, .string a.field, .slice qa la ca]) (by simp [results, Tryz.results9, go_sem, z0, z1, z2, z3, z4, z5]) rfl ?_
        have hF := hend.out _ _ _ a.args hXw.out hKz.out hXs.out hua1.out
        rw [show y = a from hfe.out.trans (step_dec hde.out)]
        exact ⟨.slice qa la ca, by unfold exVal; rw [ha1.out], hF.1, hF.2⟩

set_option maxRecDepth 100000 in
set_option maxHeartbeats 4000000 in
theorem rf_b_bnc (op kind num : Int) (s f : ByteArray) (es : List Ex) (a b : Ex) (h8 : 8 ≤ op) (h21 : op ≤ 21) (hl0 : foldL es = [a, b]) (ha1 : a.op = 1) (hd : (((op == 10 && a.num == 0) || (op == 8 && a.num == 1)) && a.kind == 1) = false) (hb1 : ¬ b.op = 1) (IH : ∀ i (hi : i < es.length), RFoldC es[i]) : RFoldC (.mk op kind num s f es) := by
  intro w v hv hw hcnt
  obtain ⟨q, cap, rfl⟩ := hv.val
  rw [well_eq, Bool.and_eq_true] at hw
  have hc1 : cntL es < (Ex.mk op kind num s f es).cnt := cnt_args (.mk op kind num s f es)
  have hl5 : es.length ≤ 500 := by have := len_cntL es; omega
  have hel : Hid (∀ i (hi : i < es.length), es[i].well = true ∧ es[i].cnt ≤ 500) := fun i hi => ⟨wellL_in hw.2 (List.getElem_mem hi), by have := cnt_mem hi; omega⟩
  have hshp : shpB (.mk op kind num s f (foldL es)) = true := by rw [shp_len _ _ _ _ _ (foldL_len es)]; exact hw.1
  have hLw : Hid (wellL (foldL es) = true) := foldL_well es hw.2
  have hlf : (foldL es).length = es.length := foldL_len es
  have hfe : foldE (.mk op kind num s f es) = stepE (.mk op kind num s f (foldL es)) := foldE_eq _
  replace IH := Lib.hid IH
  obtain ⟨i0, hi, hz0, hz1, hz2⟩ := info_parts infoEx
  replace hv : exsSl w (.slice q es.length cap) es := hv
  show Calls Tryz.prog 9 #[.agg #[.int .i64 op, .int .i64 kind, .int .i64 num, .string s, .string f, .slice q es.length cap]] w _
  obtain ⟨y, hy⟩ : ∃ y, foldE (.mk op kind num s f es) = y := ⟨_, rfl⟩
  rw [hy] at hfe ⊢
  obtain ⟨len, hlen⟩ : ∃ len, es.length = len := ⟨_, rfl⟩
  rw [hlen] at hv hl5 hlf ⊢
  replace hlen := Lib.hid hlen
  replace hfe := Lib.hid hfe
  replace hshp := Lib.hid hshp
  replace hlf := Lib.hid hlf
  replace hv := Lib.hid hv
  clear hw
  clear hc1 hcnt hy
  go_enter Tryz.func9, Tryz.ntmps9
  go_wp2_with fail
  go_loopw [4] (fun i wr => ∃ (k : Nat) (L : List (List Value)) (u : Value), k ≤ len ∧ i = .int .i64 k ∧
      Hid (Blk wr w.heap.size 24 #[.int .i64 op, .int .i64 kind, .int .i64 num, .string s, .string f, .slice q len cap]) ∧
      Hid (Blk wr (w.heap.size + 1) 24 #[.int .i64 0, .int .i64 0, .int .i64 0, .string ⟨#[]⟩, .string ⟨#[]⟩, .slice none 0 0]) ∧
      Hid (Blk wr (w.heap.size + 1 + 1) 24 #[.int .i64 op, .int .i64 kind, .int .i64 num, .string s, .string f, u]) ∧
      Hid (wr.ownsRow (w.heap.size + 3) 24 6 u k L.flatten) ∧
      Hid (exsAtB (fun b => w.heap.size + 3 ≤ b ∧ b < wr.heap.size ∧ u.ownBlock ≠ some b) wr (foldL (es.take k)) L) ∧ Hid (Kp [] w wr) ∧ Hid (w.heap.size + 3 ≤ wr.heap.size)) (fun i _ => len - (intOf i).toNat)
  case atStart => exact ⟨0, [], .slice none 0 0, Nat.zero_le _, rfl, ((Blk.new _ _ _).alloc _).alloc _, (blk_new (by simp) _ _).alloc _, blk_new (by simp) _ _, World.ownsRow_nil _ _ _ _, (by show exsAtB _ _ (foldL []) []; rw [foldL, exsAtB]), (((Kp.refl [] w).alloc _).alloc _).alloc _, (by show _ ≤ _; simp)⟩
  case round =>
    obtain ⟨k, L, u, hk, rfl, hBe, hBr, hBo, hu, hE, hK, hsz⟩ := hrel
    have b5 := hBe.out.cell 5 (v := .slice q len cap) rfl
    have o5 := hBo.out.cell 5 (v := u) rfl
    by_cases hlt : k < len
    · have hlt2 : k < es.length := by rw [hlen.out]; exact hlt
      obtain ⟨b, off, ux, rfl, hux, c0, c1, c2, c3, c4, c5⟩ := hv.out.at_in hK.out k hlt2
      have hcall := IH.out k hlt2
      have hts := Lib.hid (foldL_take_succ hlt2)
      have hwe := Lib.hid (hel.out k hlt2)
      obtain ⟨x, hx⟩ : ∃ x, es[k] = x := ⟨_, rfl⟩
      rw [hx] at c0 c1 c2 c3 c4 hcall hts hwe hux
      clear hx
      obtain ⟨qu, cu, rfl⟩ := hux.val
      have hfold := Lib.hid (hcall wr _ (hux.kp hK.out) hwe.out.1 hwe.out.2)
      clear hcall
      obtain ⟨lu, hlu⟩ : ∃ lu, x.args.length = lu := ⟨_, rfl⟩
      unfold exVal at hfold
      rw [hlu] at c5 hfold
      clear hlu hux
      obtain ⟨y, hy⟩ : ∃ y, foldE x = y := ⟨_, rfl⟩
      rw [hy] at hfold hts
      clear hy hwe
      have hul : Hid (∀ g, u.ownBlock = some g → w.heap.size + 3 ≤ g ∧ g < wr.heap.size) := fun g hg => hu.out.lt g hg
      go_wp2_with fail
      refine hfold.out.mono ?_
      rintro r w2 ⟨u1, rfl, hk2, hy⟩
      obtain ⟨qy, cy, rfl⟩ := hy.drop.val
      unfold exVal
      obtain ⟨ly, hly⟩ : ∃ ly, y.args.length = ly := ⟨_, rfl⟩
      rw [hly] at hy ⊢
      clear hly
      have hsz1 : wr.heap.size ≤ w2.heap.size := hk2.size
      have hU2 := Lib.hid ((row_kp hu.out hk2).alloc (.cells #[.int .i64 y.op, .int .i64 y.kind, .int .i64 y.num, .string y.s, .string y.field, .slice qy ly cy] 24))
      have hK2 := Lib.hid ((hK.out.trans hk2).alloc (.cells #[.int .i64 y.op, .int .i64 y.kind, .int .i64 y.num, .string y.s, .string y.field, .slice qy ly cy] 24))
      have hbs : Hid (w.heap.size + 3 ≤ (w2.alloc (.cells #[.int .i64 y.op, .int .i64 y.kind, .int .i64 y.num, .string y.s, .string y.field, .slice qy ly cy] 24)).heap.size) := by show _ ≤ _; rw [World.size_alloc]; have := hsz.out; omega
      have hnew := Lib.hid (ex_cells w2 y.op y.kind y.num y.s y.field (.slice qy ly cy))
      have hone := Lib.hid (ex_one y.op y.kind y.num y.s y.field qy ly cy)
      have hkeep : Hid (∀ b, b < wr.heap.size → (w2.alloc (.cells #[.int .i64 y.op, .int .i64 y.kind, .int .i64 y.num, .string y.s, .string y.field, .slice qy ly cy] 24)).heap[b]? = wr.heap[b]?) := fun b hb => by
        have h1 := hk2.alloc (.cells #[.int .i64 y.op, .int .i64 y.kind, .int .i64 y.num, .string y.s, .string y.field, .slice qy ly cy] 24)
        exact h1.block b hb (by simp)
      have hy2 := Lib.hid hy
      have hsz2 := Lib.hid hsz1
      replace hk2 := Lib.hid hk2
      clear hy hsz1
      go_wp2_with (at_builtin; refine wpList_append_own_at _ rfl (.tmp 25) (.tmp 32) 22 rfl (w.heap.size + 3) 24 i0 _ 6 80 Tryz.underlying22 hi hz0 hz1 hz2 rfl (by decide) _ k _ rfl hU2.out ⟨w2.heap.size, 0, none⟩ 1 1 [.int .i64 y.op, .int .i64 y.kind, .int .i64 y.num, .string y.s, .string y.field, .slice qy ly cy] rfl rfl hnew.out hone.out (by unfold maxLen; omega) (by omega) hbs.out ?_; intro v' w3 hown' hgrow _ hat; obtain ⟨vq, vc, rfl⟩ := own_slice hown'; have hlow : ∀ b, b < wr.heap.size → u.ownBlock ≠ some b → w3.heap[b]? = wr.heap[b]? := (fun b hb h => (hgrow.block b (by rw [World.size_alloc]; have := hsz2.out; omega) (fun h4 => h h4.symm)).trans (hkeep.out b hb)); have hlow3 : ∀ b, b < w.heap.size + 3 → w3.heap[b]? = wr.heap[b]? := (fun b hb => hlow b (by have := hsz.out; omega) (fun h4 => by have := (hul.out b h4).1; omega)); have hBo3 : Blk w3 (w.heap.size + 1 + 1) 24 #[.int .i64 op, .int .i64 kind, .int .i64 num, .string s, .string f, u] := (hlow3 _ (by omega)).trans hBo.out; have f5 := hBo3.frozen 5; have d5 := hBo3.cell 5 (v := u) rfl; replace hlow := Lib.hid hlow; replace hlow3 := Lib.hid hlow3; replace hBo3 := Lib.hid hBo3; replace hgrow := Lib.hid hgrow; replace hown' := Lib.hid hown'; replace hat := Lib.hid hat)
      have hg3 : (w2.alloc (.cells #[.int .i64 y.op, .int .i64 y.kind, .int .i64 y.num, .string y.s, .string y.field, .slice qy ly cy] 24)).heap.size ≤ w3.heap.size := hgrow.out.size
      rw [World.size_alloc] at hg3
      have hat2 : (Value.slice vq (k + 1) vc).ownBlock = u.ownBlock ∨ (Value.slice vq (k + 1) vc).ownBlock = some (w2.heap.size + 1) := by
        have := hat.out
        rw [World.size_alloc] at this
        exact this
      have hgb : ∀ b, b < w2.heap.size + 1 → u.ownBlock ≠ some b → w3.heap[b]? = (w2.alloc (.cells #[.int .i64 y.op, .int .i64 y.kind, .int .i64 y.num, .string y.s, .string y.field, .slice qy ly cy] 24)).heap[b]? := fun b hb h => hgrow.out.block b (by rw [World.size_alloc]; exact hb) (fun h4 => h h4.symm)
      have hE3 : exsAtB (fun b => w.heap.size + 3 ≤ b ∧ b < w3.heap.size ∧ (Value.slice vq (k + 1) vc).ownBlock ≠ some b) w3 (foldL (es.take (k + 1))) (L ++ [exV y (.slice qy ly cy)]) := by
        rw [hts.out]
        have hsz1 := hsz2.out
        have hsz0 := hsz.out
        refine exsAtB.snoc (exsAtB.move ?_ ?_ _ L hE.out) (exAtB_mk (hy2.out.move ?_ ?_))
        · rintro b ⟨h1, h2, h3⟩
          refine ⟨h1, by omega, fun h4 => ?_⟩
          rcases hat2 with h5 | h5
          · exact h3 (h5 ▸ h4)
          · rw [h5] at h4; simp at h4; omega
        · rintro b ⟨h1, h2, h3⟩ hb
          exact hlow.out b h2 h3
        · rintro b ⟨h1, h2⟩
          refine ⟨by omega, by omega, fun h4 => ?_⟩
          rcases hat2 with h5 | h5
          · rw [h5] at h4; have := (hul.out b h4).2; omega
          · rw [h5] at h4; simp at h4; omega
        · rintro b ⟨h1, h2⟩ hb
          rw [hgb b (by omega) (fun h => by have := (hul.out b h).2; omega)]
          exact ((Kp.refl [] w2).alloc _).block b hb (by simp)
      have hE4 : Hid (exsAtB (fun b => w.heap.size + 3 ≤ b ∧ b < (w3.setCell ⟨w.heap.size + 1 + 1, 5, none⟩ (.slice vq (k + 1) vc)).heap.size ∧ (Value.slice vq (k + 1) vc).ownBlock ≠ some b) (w3.setCell ⟨w.heap.size + 1 + 1, 5, none⟩ (.slice vq (k + 1) vc)) (foldL (es.take (k + 1))) (L ++ [exV y (.slice qy ly cy)])) :=
        exsAtB.move (fun b h => ⟨h.1, by simpa [World.setCell] using h.2.1, h.2.2⟩) (fun b h _ => Below.heap_setCell w3 _ _ b (by have := h.1; show ¬ b = w.heap.size + 1 + 1; omega)) _ _ hE3
      have hO4 : Hid ((w3.setCell ⟨w.heap.size + 1 + 1, 5, none⟩ (.slice vq (k + 1) vc)).ownsRow (w.heap.size + 3) 24 6 (.slice vq (k + 1) vc) (k + 1) (L ++ [exV y (.slice qy ly cy)]).flatten) := by
        show World.ownsRow _ _ _ _ _ _ _
        rw [flatten_snoc]
        exact row_set hown'.out _ (by omega) _ _
      have hB1 : Hid (Blk (w3.setCell ⟨w.heap.size + 1 + 1, 5, none⟩ (.slice vq (k + 1) vc)) w.heap.size 24 #[.int .i64 op, .int .i64 kind, .int .i64 num, .string s, .string f, .slice (some ⟨b, off, none⟩) len cap]) := Blk.other (show Blk w3 _ _ _ from (hlow3.out _ (by omega)).trans hBe.out) (by simp; omega) _
      have hB2 : Hid (Blk (w3.setCell ⟨w.heap.size + 1 + 1, 5, none⟩ (.slice vq (k + 1) vc)) (w.heap.size + 1) 24 #[.int .i64 0, .int .i64 0, .int .i64 0, .string ⟨#[]⟩, .string ⟨#[]⟩, .slice none 0 0]) := Blk.other (show Blk w3 _ _ _ from (hlow3.out _ (by omega)).trans hBr.out) (by simp) _
      have hB3 : Hid (Blk (w3.setCell ⟨w.heap.size + 1 + 1, 5, none⟩ (.slice vq (k + 1) vc)) (w.heap.size + 1 + 1) 24 #[.int .i64 op, .int .i64 kind, .int .i64 num, .string s, .string f, .slice vq (k + 1) vc]) := hBo3.out.set 5 _
      have hK3 : Hid (Kp [] w (w3.setCell ⟨w.heap.size + 1 + 1, 5, none⟩ (.slice vq (k + 1) vc))) := (hK2.out.grown hgrow.out (fun j hj => .inr (by have := (hul.out j hj).1; omega))).setCell (.inr (by show w.heap.size ≤ w.heap.size + 1 + 1; omega)) _
      have hs3 : Hid (w.heap.size + 3 ≤ (w3.setCell ⟨w.heap.size + 1 + 1, 5, none⟩ (.slice vq (k + 1) vc)).heap.size) := by show _ ≤ _; have h1 := hsz.out; have h2 := hsz2.out; simp [World.setCell]; omega
      clear hgrow hown' hat hg3 hat2 hE3
      go_roundw
      case rel => exact ⟨k + 1, L ++ [exV y (.slice qy ly cy)], _, by omega, by go_num, hB1, hB2, hB3, hO4, hE4, hK3, hs3⟩
      case measure => simp [intOf]; omega
    · obtain rfl : len = k := by omega
      have hfull := tk_all hlen.out
      have hE2 := hE.out
      rw [hfull] at hE2
      have hus := row_at (by rw [hlf.out]) hu.out hE2
      obtain ⟨qu, cu, rfl⟩ := own_slice hu.out
      clear hE2 hfull hE hu hel IH hv hlt b5 o5 hk
      rw [hl0] at hus hshp hLw hlf hfe
      have hout : Hid (∀ X, Kp [] wr X → Kp [] w X ∧ Blk X w.heap.size 24 #[.int .i64 op, .int .i64 kind, .int .i64 num, .string s, .string f, .slice q len cap] ∧ Blk X (w.heap.size + 1) 24 #[.int .i64 0, .int .i64 0, .int .i64 0, .string ⟨#[]⟩, .string ⟨#[]⟩, .slice none 0 0] ∧ Blk X (w.heap.size + 1 + 1) 24 #[.int .i64 op, .int .i64 kind, .int .i64 num, .string s, .string f, .slice qu len cu] ∧ exsSlB (fun b => w.heap.size + 3 ≤ b ∧ b < wr.heap.size) X (.slice qu len cu) [a, b] ∧ wr.heap.size ≤ X.heap.size) := fun X hX => ⟨hK.out.trans hX, hBe.out.kp hX (by simp), hBr.out.kp hX (by simp), hBo.out.kp hX (by simp), hus.move (fun b h => h) (fun b _ hb => hX.block b hb (by simp)), hX.size⟩
      have hend : Hid (∀ (X F : World) (u : Value) (es : List Ex), Kp [] w X → Kp [w.heap.size + 1] X F → wr.heap.size ≤ X.heap.size → exsSlB (fun b => w.heap.size + 3 ≤ b ∧ b < wr.heap.size) X u es → Kp [] w F ∧ exsSlB (Rg w F) F u es) := by
        intro X F u es h1 h2 h3 h4
        refine ⟨h1.trans' h2 (fun i hi hl => by simp at hi; omega), h4.move (fun b h => ⟨by omega, by have := h2.size; omega⟩) (fun b h hb => h2.block b hb (by simp; omega))⟩
      replace hus := Lib.hid hus
      clear hBe hBr hBo hsz hi hz0 hz1 hz2
      obtain ⟨b0, off, rfl, hget⟩ := hus.out.at_ (by simp)
      obtain ⟨qa, la, ca, hla, hua, hca⟩ := hget 0 (by simp)
      replace hca : ∀ j x, (exV a (.slice qa la ca))[j]? = some x → wr.cell? ⟨b0, off + (0 * 6 + j), none⟩ = some x := hca
      have av0 := hca 0 _ rfl
      have av1 := hca 1 _ rfl
      have av2 := hca 2 _ rfl
      have av3 := hca 3 _ rfl
      have av4 := hca 4 _ rfl
      have av5 := hca 5 _ rfl
      simp only [Nat.zero_mul, Nat.zero_add, Nat.add_zero, Nat.one_mul, Nat.reduceAdd] at av0 av1 av2 av3 av4 av5
      replace hua : exsSlB _ wr (.slice qa la ca) a.args := hua
      obtain ⟨qb, lb, cb, hlb, hub, hcb⟩ := hget 1 (by simp)
      replace hcb : ∀ j x, (exV b (.slice qb lb cb))[j]? = some x → wr.cell? ⟨b0, off + (1 * 6 + j), none⟩ = some x := hcb
      have bv0 := hcb 0 _ rfl
      have bv1 := hcb 1 _ rfl
      have bv2 := hcb 2 _ rfl
      have bv3 := hcb 3 _ rfl
      have bv4 := hcb 4 _ rfl
      have bv5 := hcb 5 _ rfl
      simp only [Nat.zero_mul, Nat.zero_add, Nat.add_zero, Nat.one_mul, Nat.reduceAdd] at bv0 bv1 bv2 bv3 bv4 bv5
      replace hub : exsSlB _ wr (.slice qb lb cb) b.args := hub
      clear hget
      have hln : Hid (2 = len) := hlf.out
      have hp0 : 0 < len := by have := hln.out; omega
      have hp1 : 1 < len := by have := hln.out; omega
      have n6 : ¬ op = 6 := by omega
      have m6 : (op == 6) = false := by simpa using n6
      have n7 : ¬ op = 7 := by omega
      have m7 : (op == 7) = false := by simpa using n7
      have n5 : ¬ op < 6 := by omega
      have n22 : ¬ 21 < op := by omega
      rw [ha1] at av0
      have hdd := Lib.hid hd
      clear hd
      have hde := Lib.hid ((dec_two (op := op) (b := b) ha1).trans hdd.out)
      have hbb : (b.op == 1) = false := by simpa using hb1
      replace ha1 := Lib.hid ha1
      have bw0 := ((Kp.refl [] wr).alloc (.cells #[.int .i64 1, .int .i64 a.kind, .int .i64 a.num, .string a.s, .string a.field, .slice qa la ca] 24)).cell bv0 (by simp)
      have bw1 := ((Kp.refl [] wr).alloc (.cells #[.int .i64 1, .int .i64 a.kind, .int .i64 a.num, .string a.s, .string a.field, .slice qa la ca] 24)).cell bv1 (by simp)
      have bw2 := ((Kp.refl [] wr).alloc (.cells #[.int .i64 1, .int .i64 a.kind, .int .i64 a.num, .string a.s, .string a.field, .slice qa la ca] 24)).cell bv2 (by simp)
      have bw3 := ((Kp.refl [] wr).alloc (.cells #[.int .i64 1, .int .i64 a.kind, .int .i64 a.num, .string a.s, .string a.field, .slice qa la ca] 24)).cell bv3 (by simp)
      have bw4 := ((Kp.refl [] wr).alloc (.cells #[.int .i64 1, .int .i64 a.kind, .int .i64 a.num, .string a.s, .string a.field, .slice qa la ca] 24)).cell bv4 (by simp)
      have bw5 := ((Kp.refl [] wr).alloc (.cells #[.int .i64 1, .int .i64 a.kind, .int .i64 a.num, .string a.s, .string a.field, .slice qa la ca] 24)).cell bv5 (by simp)
      have hA2 : Blk ((wr.alloc (.cells #[.int .i64 1, .int .i64 a.kind, .int .i64 a.num, .string a.s, .string a.field, .slice qa la ca] 24)).alloc (.cells #[.int .i64 b.op, .int .i64 b.kind, .int .i64 b.num, .string b.s, .string b.field, .slice qb lb cb] 24)) wr.heap.size 24 #[.int .i64 1, .int .i64 a.kind, .int .i64 a.num, .string a.s, .string a.field, .slice qa la ca] := (Blk.new wr _ _).alloc _
      have s0 := hA2.cell 0 (v := .int .i64 1) rfl
      have s1 := hA2.cell 1 (v := .int .i64 a.kind) rfl
      have s2 := hA2.cell 2 (v := .int .i64 a.num) rfl
      have s3 := hA2.cell 3 (v := .string a.s) rfl
      have s4 := hA2.cell 4 (v := .string a.field) rfl
      have s5 := hA2.cell 5 (v := .slice qa la ca) rfl
      replace hA2 := Lib.hid hA2
      clear bv0 bv1 bv2 bv3 bv4 bv5
      have hY := hout.out wr (Kp.refl [] wr)
      have e0x := hY.2.1.cell 0 (v := .int .i64 op) rfl
      have e5x := hY.2.1.cell 5 (v := .slice q len cap) rfl
      have o5x := hY.2.2.2.1.cell 5 (v := .slice (some ⟨b0, off, none⟩) len cu) rfl
      clear hY
      have hY := hout.out (wr.alloc (.cells #[.int .i64 1, .int .i64 a.kind, .int .i64 a.num, .string a.s, .string a.field, .slice qa la ca] 24)) ((Kp.refl [] wr).alloc (.cells #[.int .i64 1, .int .i64 a.kind, .int .i64 a.num, .string a.s, .string a.field, .slice qa la ca] 24))
      have e0y := hY.2.1.cell 0 (v := .int .i64 op) rfl
      have e5y := hY.2.1.cell 5 (v := .slice q len cap) rfl
      have o5y := hY.2.2.2.1.cell 5 (v := .slice (some ⟨b0, off, none⟩) len cu) rfl
      clear hY
      have hX := hout.out ((wr.alloc (.cells #[.int .i64 1, .int .i64 a.kind, .int .i64 a.num, .string a.s, .string a.field, .slice qa la ca] 24)).alloc (.cells #[.int .i64 b.op, .int .i64 b.kind, .int .i64 b.num, .string b.s, .string b.field, .slice qb lb cb] 24)) (((Kp.refl [] wr).alloc (.cells #[.int .i64 1, .int .i64 a.kind, .int .i64 a.num, .string a.s, .string a.field, .slice qa la ca] 24)).alloc (.cells #[.int .i64 b.op, .int .i64 b.kind, .int .i64 b.num, .string b.s, .string b.field, .slice qb lb cb] 24))
      obtain ⟨hXw, hXe, hXr, hXo, hXu, hXs⟩ := hX
      have f0 := hXr.frozen 0
      have f1 := hXr.frozen 1
      have f2 := hXr.frozen 2
      have f3 := hXr.frozen 3
      have f4 := hXr.frozen 4
      have f6 := hXr.frozen 5
      have g0 := hXr.cell 0 (v := .int .i64 0) rfl
      have g1 := hXr.cell 1 (v := .int .i64 0) rfl
      have g2 := hXr.cell 2 (v := .int .i64 0) rfl
      have g3 := hXr.cell 3 (v := .string ⟨#[]⟩) rfl
      have g4 := hXr.cell 4 (v := .string ⟨#[]⟩) rfl
      have g5 := hXr.cell 5 (v := .slice none 0 0) rfl
      have o0 := hXo.cell 0 (v := .int .i64 op) rfl
      have o1 := hXo.cell 1 (v := .int .i64 kind) rfl
      have o2 := hXo.cell 2 (v := .int .i64 num) rfl
      have o3 := hXo.cell 3 (v := .string s) rfl
      have o4 := hXo.cell 4 (v := .string f) rfl
      have o5 := hXo.cell 5 (v := .slice (some ⟨b0, off, none⟩) len cu) rfl
      have e0 := hXe.cell 0 (v := .int .i64 op) rfl
      have e1 := hXe.cell 1 (v := .int .i64 kind) rfl
      have e2 := hXe.cell 2 (v := .int .i64 num) rfl
      have e3 := hXe.cell 3 (v := .string s) rfl
      have e4 := hXe.cell 4 (v := .string f) rfl
      have e5 := hXe.cell 5 (v := .slice q len cap) rfl
      have hlt3 : w.heap.size + 1 < ((wr.alloc (.cells #[.int .i64 1, .int .i64 a.kind, .int .i64 a.num, .string a.s, .string a.field, .slice qa la ca] 24)).alloc (.cells #[.int .i64 b.op, .int .i64 b.kind, .int .i64 b.num, .string b.s, .string b.field, .slice qb lb cb] 24)).heap.size := hXr.lt
      obtain ⟨hZ, hKz⟩ := set6 hXr (.int .i64 op) (.int .i64 kind) (.int .i64 num) (.string s) (.string f) (.slice (some ⟨b0, off, none⟩) len cu)
      have z0 := hZ.cell 0 (v := .int .i64 op) rfl
      have z1 := hZ.cell 1 (v := .int .i64 kind) rfl
      have z2 := hZ.cell 2 (v := .int .i64 num) rfl
      have z3 := hZ.cell 3 (v := .string s) rfl
      have z4 := hZ.cell 4 (v := .string f) rfl
      have z5 := hZ.cell 5 (v := .slice (some ⟨b0, off, none⟩) len cu) rfl
      replace hZ := Lib.hid hZ
      replace hKz := Lib.hid hKz
      replace hXw := Lib.hid hXw
      replace hXe := Lib.hid hXe
      replace hXr := Lib.hid hXr
      replace hXo := Lib.hid hXo
      replace hXu := Lib.hid hXu
      replace hXs := Lib.hid hXs
      go_upto_region 18 with fail
      go_cut [102] (fun c wx => c = .bool false ∧ wx = (wr.alloc (.cells #[.int .i64 1, .int .i64 a.kind, .int .i64 a.num, .string a.s, .string a.field, .slice qa la ca] 24)))
      case first =>
        cases x10 : (op == 10)
        · have p10 : ¬ op = 10 := by simpa using x10
          cases x8 : (op == 8)
          · have p8 : ¬ op = 8 := by simpa using x8
            go_wp2_with fail
            go_meet
            case rel => exact ⟨congrArg Value.bool (Eq.trans (by simp [x10, x8]) hdd.out), rfl⟩
          · have pp : True := trivial
            cases y1 : (a.num == 1)
            · have p1 : ¬ a.num = 1 := by simpa using y1
              go_wp2_with fail
              go_meet
              case rel => exact ⟨congrArg Value.bool (Eq.trans (by simp [x10, x8, y1]) hdd.out), rfl⟩
            · have pp : True := trivial
              cases k1 : (a.kind == 1)
              · have pk : ¬ a.kind = 1 := by simpa using k1
                go_wp2_with fail
                go_meet
                case rel => exact ⟨congrArg Value.bool (Eq.trans (by simp [x10, x8, y1, k1]) hdd.out), rfl⟩
              · have pp : True := trivial
                go_wp2_with fail
                go_meet
                case rel => exact ⟨congrArg Value.bool (Eq.trans (by simp [x10, x8, y1, k1]) hdd.out), rfl⟩
        · have p10 : op = 10 := by simpa using x10
          have x8 : (op == 8) = false := by rw [p10]; rfl
          have p8 : ¬ op = 8 := by omega
          replace p10 := Lib.hid p10
          cases y0 : (a.num == 0)
          · have p0 : ¬ a.num = 0 := by simpa using y0
            go_wp2_with fail
            go_meet
            case rel => exact ⟨congrArg Value.bool (Eq.trans (by simp [x10, x8, y0]) hdd.out), rfl⟩
          · have pp : True := trivial
            cases k1 : (a.kind == 1)
            · have pk : ¬ a.kind = 1 := by simpa using k1
              go_wp2_with fail
              go_meet
              case rel => exact ⟨congrArg Value.bool (Eq.trans (by simp [x10, x8, y0, k1]) hdd.out), rfl⟩
            · have pp : True := trivial
              go_wp2_with fail
              go_meet
              case rel => exact ⟨congrArg Value.bool (Eq.trans (by simp [x10, x8, y0, k1]) hdd.out), rfl⟩
      case rest =>
        obtain ⟨rfl, rfl⟩ := hcut
        go_wp2_with fail
        refine bodyPost_ret (v := .agg #[.int .i64 op, .int .i64 kind, .int .i64 num, .string s, .string f, .slice (some ⟨b0, off, none⟩) len cu]) (by simp [results, Tryz.results9, go_sem, z0, z1, z2, z3, z4, z5]) rfl ?_
        have hF := hend.out _ _ _ [a, b] hXw.out hKz.out hXs.out hXu.out
        rw [show y = _ from hfe.out.trans (step_bi_no h8 hde.out (.inr (.inl hb1)))]
        exact ⟨_, rfl, hF.1, hF.2⟩

set_option maxRecDepth 100000 in
set_option maxHeartbeats 4000000 in
theorem rf_b_kk (op kind num : Int) (s f : ByteArray) (es : List Ex) (a b : Ex) (h8 : 8 ≤ op) (h21 : op ≤ 21) (hl0 : foldL es = [a, b]) (ha1 : a.op = 1) (hd : (((op == 10 && a.num == 0) || (op == 8 && a.num == 1)) && a.kind == 1) = false) (hb1 : b.op = 1) (hkk : ¬ b.kind = a.kind) (IH : ∀ i (hi : i < es.length), RFoldC es[i]) : RFoldC (.mk op kind num s f es) := by
  intro w v hv hw hcnt
  obtain ⟨q, cap, rfl⟩ := hv.val
  rw [well_eq, Bool.and_eq_true] at hw
  have hc1 : cntL es < (Ex.mk op kind num s f es).cnt := cnt_args (.mk op kind num s f es)
  have hl5 : es.length ≤ 500 := by have := len_cntL es; omega
  have hel : Hid (∀ i (hi : i < es.length), es[i].well = true ∧ es[i].cnt ≤ 500) := fun i hi => ⟨wellL_in hw.2 (List.getElem_mem hi), by have := cnt_mem hi; omega⟩
  have hshp : shpB (.mk op kind num s f (foldL es)) = true := by rw [shp_len _ _ _ _ _ (foldL_len es)]; exact hw.1
  have hLw : Hid (wellL (foldL es) = true) := foldL_well es hw.2
  have hlf : (foldL es).length = es.length := foldL_len es
  have hfe : foldE (.mk op kind num s f es) = stepE (.mk op kind num s f (foldL es)) := foldE_eq _
  replace IH := Lib.hid IH
  obtain ⟨i0, hi, hz0, hz1, hz2⟩ := info_parts infoEx
  replace hv : exsSl w (.slice q es.length cap) es := hv
  show Calls Tryz.prog 9 #[.agg #[.int .i64 op, .int .i64 kind, .int .i64 num, .string s, .string f, .slice q es.length cap]] w _
  obtain ⟨y, hy⟩ : ∃ y, foldE (.mk op kind num s f es) = y := ⟨_, rfl⟩
  rw [hy] at hfe ⊢
  obtain ⟨len, hlen⟩ : ∃ len, es.length = len := ⟨_, rfl⟩
  rw [hlen] at hv hl5 hlf ⊢
  replace hlen := Lib.hid hlen
  replace hfe := Lib.hid hfe
  replace hshp := Lib.hid hshp
  replace hlf := Lib.hid hlf
  replace hv := Lib.hid hv
  clear hw
  clear hc1 hcnt hy
  go_enter Tryz.func9, Tryz.ntmps9
  go_wp2_with fail
  go_loopw [4] (fun i wr => ∃ (k : Nat) (L : List (List Value)) (u : Value), k ≤ len ∧ i = .int .i64 k ∧
      Hid (Blk wr w.heap.size 24 #[.int .i64 op, .int .i64 kind, .int .i64 num, .string s, .string f, .slice q len cap]) ∧
      Hid (Blk wr (w.heap.size + 1) 24 #[.int .i64 0, .int .i64 0, .int .i64 0, .string ⟨#[]⟩, .string ⟨#[]⟩, .slice none 0 0]) ∧
      Hid (Blk wr (w.heap.size + 1 + 1) 24 #[.int .i64 op, .int .i64 kind, .int .i64 num, .string s, .string f, u]) ∧
      Hid (wr.ownsRow (w.heap.size + 3) 24 6 u k L.flatten) ∧
      Hid (exsAtB (fun b => w.heap.size + 3 ≤ b ∧ b < wr.heap.size ∧ u.ownBlock ≠ some b) wr (foldL (es.take k)) L) ∧ Hid (Kp [] w wr) ∧ Hid (w.heap.size + 3 ≤ wr.heap.size)) (fun i _ => len - (intOf i).toNat)
  case atStart => exact ⟨0, [], .slice none 0 0, Nat.zero_le _, rfl, ((Blk.new _ _ _).alloc _).alloc _, (blk_new (by simp) _ _).alloc _, blk_new (by simp) _ _, World.ownsRow_nil _ _ _ _, (by show exsAtB _ _ (foldL []) []; rw [foldL, exsAtB]), (((Kp.refl [] w).alloc _).alloc _).alloc _, (by show _ ≤ _; simp)⟩
  case round =>
    obtain ⟨k, L, u, hk, rfl, hBe, hBr, hBo, hu, hE, hK, hsz⟩ := hrel
    have b5 := hBe.out.cell 5 (v := .slice q len cap) rfl
    have o5 := hBo.out.cell 5 (v := u) rfl
    by_cases hlt : k < len
    · have hlt2 : k < es.length := by rw [hlen.out]; exact hlt
      obtain ⟨b, off, ux, rfl, hux, c0, c1, c2, c3, c4, c5⟩ := hv.out.at_in hK.out k hlt2
      have hcall := IH.out k hlt2
      have hts := Lib.hid (foldL_take_succ hlt2)
      have hwe := Lib.hid (hel.out k hlt2)
      obtain ⟨x, hx⟩ : ∃ x, es[k] = x := ⟨_, rfl⟩
      rw [hx] at c0 c1 c2 c3 c4 hcall hts hwe hux
      clear hx
      obtain ⟨qu, cu, rfl⟩ := hux.val
      have hfold := Lib.hid (hcall wr _ (hux.kp hK.out) hwe.out.1 hwe.out.2)
      clear hcall
      obtain ⟨lu, hlu⟩ : ∃ lu, x.args.length = lu := ⟨_, rfl⟩
      unfold exVal at hfold
      rw [hlu] at c5 hfold
      clear hlu hux
      obtain ⟨y, hy⟩ : ∃ y, foldE x = y := ⟨_, rfl⟩
      rw [hy] at hfold hts
      clear hy hwe
      have hul : Hid (∀ g, u.ownBlock = some g → w.heap.size + 3 ≤ g ∧ g < wr.heap.size) := fun g hg => hu.out.lt g hg
      go_wp2_with fail
      refine hfold.out.mono ?_
      rintro r w2 ⟨u1, rfl, hk2, hy⟩
      obtain ⟨qy, cy, rfl⟩ := hy.drop.val
      unfold exVal
      obtain ⟨ly, hly⟩ : ∃ ly, y.args.length = ly := ⟨_, rfl⟩
      rw [hly] at hy ⊢
      clear hly
      have hsz1 : wr.heap.size ≤ w2.heap.size := hk2.size
      have hU2 := Lib.hid ((row_kp hu.out hk2).alloc (.cells #[.int .i64 y.op, .int .i64 y.kind, .int .i64 y.num, .string y.s, .string y.field, .slice qy ly cy] 24))
      have hK2 := Lib.hid ((hK.out.trans hk2).alloc (.cells #[.int .i64 y.op, .int .i64 y.kind, .int .i64 y.num, .string y.s, .string y.field, .slice qy ly cy] 24))
      have hbs : Hid (w.heap.size + 3 ≤ (w2.alloc (.cells #[.int .i64 y.op, .int .i64 y.kind, .int .i64 y.num, .string y.s, .string y.field, .slice qy ly cy] 24)).heap.size) := by show _ ≤ _; rw [World.size_alloc]; have := hsz.out; omega
      have hnew := Lib.hid (ex_cells w2 y.op y.kind y.num y.s y.field (.slice qy ly cy))
      have hone := Lib.hid (ex_one y.op y.kind y.num y.s y.field qy ly cy)
      have hkeep : Hid (∀ b, b < wr.heap.size → (w2.alloc (.cells #[.int .i64 y.op, .int .i64 y.kind, .int .i64 y.num, .string y.s, .string y.field, .slice qy ly cy] 24)).heap[b]? = wr.heap[b]?) := fun b hb => by
        have h1 := hk2.alloc (.cells #[.int .i64 y.op, .int .i64 y.kind, .int .i64 y.num, .string y.s, .string y.field, .slice qy ly cy] 24)
        exact h1.block b hb (by simp)
      have hy2 := Lib.hid hy
      have hsz2 := Lib.hid hsz1
      replace hk2 := Lib.hid hk2
      clear hy hsz1
      go_wp2_with (at_builtin; refine wpList_append_own_at _ rfl (.tmp 25) (.tmp 32) 22 rfl (w.heap.size + 3) 24 i0 _ 6 80 Tryz.underlying22 hi hz0 hz1 hz2 rfl (by decide) _ k _ rfl hU2.out ⟨w2.heap.size, 0, none⟩ 1 1 [.int .i64 y.op, .int .i64 y.kind, .int .i64 y.num, .string y.s, .string y.field, .slice qy ly cy] rfl rfl hnew.out hone.out (by unfold maxLen; omega) (by omega) hbs.out ?_; intro v' w3 hown' hgrow _ hat; obtain ⟨vq, vc, rfl⟩ := own_slice hown'; have hlow : ∀ b, b < wr.heap.size → u.ownBlock ≠ some b → w3.heap[b]? = wr.heap[b]? := (fun b hb h => (hgrow.block b (by rw [World.size_alloc]; have := hsz2.out; omega) (fun h4 => h h4.symm)).trans (hkeep.out b hb)); have hlow3 : ∀ b, b < w.heap.size + 3 → w3.heap[b]? = wr.heap[b]? := (fun b hb => hlow b (by have := hsz.out; omega) (fun h4 => by have := (hul.out b h4).1; omega)); have hBo3 : Blk w3 (w.heap.size + 1 + 1) 24 #[.int .i64 op, .int .i64 kind, .int .i64 num, .string s, .string f, u] := (hlow3 _ (by omega)).trans hBo.out; have f5 := hBo3.frozen 5; have d5 := hBo3.cell 5 (v := u) rfl; replace hlow := Lib.hid hlow; replace hlow3 := Lib.hid hlow3; replace hBo3 := Lib.hid hBo3; replace hgrow := Lib.hid hgrow; replace hown' := Lib.hid hown'; replace hat := Lib.hid hat)
      have hg3 : (w2.alloc (.cells #[.int .i64 y.op, .int .i64 y.kind, .int .i64 y.num, .string y.s, .string y.field, .slice qy ly cy] 24)).heap.size ≤ w3.heap.size := hgrow.out.size
      rw [World.size_alloc] at hg3
      have hat2 : (Value.slice vq (k + 1) vc).ownBlock = u.ownBlock ∨ (Value.slice vq (k + 1) vc).ownBlock = some (w2.heap.size + 1) := by
        have := hat.out
        rw [World.size_alloc] at this
        exact this
      have hgb : ∀ b, b < w2.heap.size + 1 → u.ownBlock ≠ some b → w3.heap[b]? = (w2.alloc (.cells #[.int .i64 y.op, .int .i64 y.kind, .int .i64 y.num, .string y.s, .string y.field, .slice qy ly cy] 24)).heap[b]? := fun b hb h => hgrow.out.block b (by rw [World.size_alloc]; exact hb) (fun h4 => h h4.symm)
      have hE3 : exsAtB (fun b => w.heap.size + 3 ≤ b ∧ b < w3.heap.size ∧ (Value.slice vq (k + 1) vc).ownBlock ≠ some b) w3 (foldL (es.take (k + 1))) (L ++ [exV y (.slice qy ly cy)]) := by
        rw [hts.out]
        have hsz1 := hsz2.out
        have hsz0 := hsz.out
        refine exsAtB.snoc (exsAtB.move ?_ ?_ _ L hE.out) (exAtB_mk (hy2.out.move ?_ ?_))
        · rintro b ⟨h1, h2, h3⟩
          refine ⟨h1, by omega, fun h4 => ?_⟩
          rcases hat2 with h5 | h5
          · exact h3 (h5 ▸ h4)
          · rw [h5] at h4; simp at h4; omega
        · rintro b ⟨h1, h2, h3⟩ hb
          exact hlow.out b h2 h3
        · rintro b ⟨h1, h2⟩
          refine ⟨by omega, by omega, fun h4 => ?_⟩
          rcases hat2 with h5 | h5
          · rw [h5] at h4; have := (hul.out b h4).2; omega
          · rw [h5] at h4; simp at h4; omega
        · rintro b ⟨h1, h2⟩ hb
          rw [hgb b (by omega) (fun h => by have := (hul.out b h).2; omega)]
          exact ((Kp.refl [] w2).alloc _).block b hb (by simp)
      have hE4 : Hid (exsAtB (fun b => w.heap.size + 3 ≤ b ∧ b < (w3.setCell ⟨w.heap.size + 1 + 1, 5, none⟩ (.slice vq (k + 1) vc)).heap.size ∧ (Value.slice vq (k + 1) vc).ownBlock ≠ some b) (w3.setCell ⟨w.heap.size + 1 + 1, 5, none⟩ (.slice vq (k + 1) vc)) (foldL (es.take (k + 1))) (L ++ [exV y (.slice qy ly cy)])) :=
        exsAtB.move (fun b h => ⟨h.1, by simpa [World.setCell] using h.2.1, h.2.2⟩) (fun b h _ => Below.heap_setCell w3 _ _ b (by have := h.1; show ¬ b = w.heap.size + 1 + 1; omega)) _ _ hE3
      have hO4 : Hid ((w3.setCell ⟨w.heap.size + 1 + 1, 5, none⟩ (.slice vq (k + 1) vc)).ownsRow (w.heap.size + 3) 24 6 (.slice vq (k + 1) vc) (k + 1) (L ++ [exV y (.slice qy ly cy)]).flatten) := by
        show World.ownsRow _ _ _ _ _ _ _
        rw [flatten_snoc]
        exact row_set hown'.out _ (by omega) _ _
      have hB1 : Hid (Blk (w3.setCell ⟨w.heap.size + 1 + 1, 5, none⟩ (.slice vq (k + 1) vc)) w.heap.size 24 #[.int .i64 op, .int .i64 kind, .int .i64 num, .string s, .string f, .slice (some ⟨b, off, none⟩) len cap]) := Blk.other (show Blk w3 _ _ _ from (hlow3.out _ (by omega)).trans hBe.out) (by simp; omega) _
      have hB2 : Hid (Blk (w3.setCell ⟨w.heap.size + 1 + 1, 5, none⟩ (.slice vq (k + 1) vc)) (w.heap.size + 1) 24 #[.int .i64 0, .int .i64 0, .int .i64 0, .string ⟨#[]⟩, .string ⟨#[]⟩, .slice none 0 0]) := Blk.other (show Blk w3 _ _ _ from (hlow3.out _ (by omega)).trans hBr.out) (by simp) _
      have hB3 : Hid (Blk (w3.setCell ⟨w.heap.size + 1 + 1, 5, none⟩ (.slice vq (k + 1) vc)) (w.heap.size + 1 + 1) 24 #[.int .i64 op, .int .i64 kind, .int .i64 num, .string s, .string f, .slice vq (k + 1) vc]) := hBo3.out.set 5 _
      have hK3 : Hid (Kp [] w (w3.setCell ⟨w.heap.size + 1 + 1, 5, none⟩ (.slice vq (k + 1) vc))) := (hK2.out.grown hgrow.out (fun j hj => .inr (by have := (hul.out j hj).1; omega))).setCell (.inr (by show w.heap.size ≤ w.heap.size + 1 + 1; omega)) _
      have hs3 : Hid (w.heap.size + 3 ≤ (w3.setCell ⟨w.heap.size + 1 + 1, 5, none⟩ (.slice vq (k + 1) vc)).heap.size) := by show _ ≤ _; have h1 := hsz.out; have h2 := hsz2.out; simp [World.setCell]; omega
      clear hgrow hown' hat hg3 hat2 hE3
      go_roundw
      case rel => exact ⟨k + 1, L ++ [exV y (.slice qy ly cy)], _, by omega, by go_num, hB1, hB2, hB3, hO4, hE4, hK3, hs3⟩
      case measure => simp [intOf]; omega
    · obtain rfl : len = k := by omega
      have hfull := tk_all hlen.out
      have hE2 := hE.out
      rw [hfull] at hE2
      have hus := row_at (by rw [hlf.out]) hu.out hE2
      obtain ⟨qu, cu, rfl⟩ := own_slice hu.out
      clear hE2 hfull hE hu hel IH hv hlt b5 o5 hk
      rw [hl0] at hus hshp hLw hlf hfe
      have hout : Hid (∀ X, Kp [] wr X → Kp [] w X ∧ Blk X w.heap.size 24 #[.int .i64 op, .int .i64 kind, .int .i64 num, .string s, .string f, .slice q len cap] ∧ Blk X (w.heap.size + 1) 24 #[.int .i64 0, .int .i64 0, .int .i64 0, .string ⟨#[]⟩, .string ⟨#[]⟩, .slice none 0 0] ∧ Blk X (w.heap.size + 1 + 1) 24 #[.int .i64 op, .int .i64 kind, .int .i64 num, .string s, .string f, .slice qu len cu] ∧ exsSlB (fun b => w.heap.size + 3 ≤ b ∧ b < wr.heap.size) X (.slice qu len cu) [a, b] ∧ wr.heap.size ≤ X.heap.size) := fun X hX => ⟨hK.out.trans hX, hBe.out.kp hX (by simp), hBr.out.kp hX (by simp), hBo.out.kp hX (by simp), hus.move (fun b h => h) (fun b _ hb => hX.block b hb (by simp)), hX.size⟩
      have hend : Hid (∀ (X F : World) (u : Value) (es : List Ex), Kp [] w X → Kp [w.heap.size + 1] X F → wr.heap.size ≤ X.heap.size → exsSlB (fun b => w.heap.size + 3 ≤ b ∧ b < wr.heap.size) X u es → Kp [] w F ∧ exsSlB (Rg w F) F u es) := by
        intro X F u es h1 h2 h3 h4
        refine ⟨h1.trans' h2 (fun i hi hl => by simp at hi; omega), h4.move (fun b h => ⟨by omega, by have := h2.size; omega⟩) (fun b h hb => h2.block b hb (by simp; omega))⟩
      replace hus := Lib.hid hus
      clear hBe hBr hBo hsz hi hz0 hz1 hz2
      obtain ⟨b0, off, rfl, hget⟩ := hus.out.at_ (by simp)
      obtain ⟨qa, la, ca, hla, hua, hca⟩ := hget 0 (by simp)
      replace hca : ∀ j x, (exV a (.slice qa la ca))[j]? = some x → wr.cell? ⟨b0, off + (0 * 6 + j), none⟩ = some x := hca
      have av0 := hca 0 _ rfl
      have av1 := hca 1 _ rfl
      have av2 := hca 2 _ rfl
      have av3 := hca 3 _ rfl
      have av4 := hca 4 _ rfl
      have av5 := hca 5 _ rfl
      simp only [Nat.zero_mul, Nat.zero_add, Nat.add_zero, Nat.one_mul, Nat.reduceAdd] at av0 av1 av2 av3 av4 av5
      replace hua : exsSlB _ wr (.slice qa la ca) a.args := hua
      obtain ⟨qb, lb, cb, hlb, hub, hcb⟩ := hget 1 (by simp)
      replace hcb : ∀ j x, (exV b (.slice qb lb cb))[j]? = some x → wr.cell? ⟨b0, off + (1 * 6 + j), none⟩ = some x := hcb
      have bv0 := hcb 0 _ rfl
      have bv1 := hcb 1 _ rfl
      have bv2 := hcb 2 _ rfl
      have bv3 := hcb 3 _ rfl
      have bv4 := hcb 4 _ rfl
      have bv5 := hcb 5 _ rfl
      simp only [Nat.zero_mul, Nat.zero_add, Nat.add_zero, Nat.one_mul, Nat.reduceAdd] at bv0 bv1 bv2 bv3 bv4 bv5
      replace hub : exsSlB _ wr (.slice qb lb cb) b.args := hub
      clear hget
      have hln : Hid (2 = len) := hlf.out
      have hp0 : 0 < len := by have := hln.out; omega
      have hp1 : 1 < len := by have := hln.out; omega
      have n6 : ¬ op = 6 := by omega
      have m6 : (op == 6) = false := by simpa using n6
      have n7 : ¬ op = 7 := by omega
      have m7 : (op == 7) = false := by simpa using n7
      have n5 : ¬ op < 6 := by omega
      have n22 : ¬ 21 < op := by omega
      rw [ha1] at av0
      rw [hb1] at bv0
      have hdd := Lib.hid hd
      clear hd
      have hde := Lib.hid ((dec_two (op := op) (b := b) ha1).trans hdd.out)
      have hkb : Hid (∀ W : World, Calls Tryz.prog 21 #[.int .i64 op, .int .i64 a.kind, .int .i64 b.kind] W fun r w' => r = .returned (.int .i64 0) ∧ w' = W) := fun W => kbi_no op a.kind b.kind W (fun h => hkk h.symm)
      replace hkk := Lib.hid hkk
      replace hb1 := Lib.hid hb1
      replace ha1 := Lib.hid ha1
      have bw0 := ((Kp.refl [] wr).alloc (.cells #[.int .i64 1, .int .i64 a.kind, .int .i64 a.num, .string a.s, .string a.field, .slice qa la ca] 24)).cell bv0 (by simp)
      have bw1 := ((Kp.refl [] wr).alloc (.cells #[.int .i64 1, .int .i64 a.kind, .int .i64 a.num, .string a.s, .string a.field, .slice qa la ca] 24)).cell bv1 (by simp)
      have bw2 := ((Kp.refl [] wr).alloc (.cells #[.int .i64 1, .int .i64 a.kind, .int .i64 a.num, .string a.s, .string a.field, .slice qa la ca] 24)).cell bv2 (by simp)
      have bw3 := ((Kp.refl [] wr).alloc (.cells #[.int .i64 1, .int .i64 a.kind, .int .i64 a.num, .string a.s, .string a.field, .slice qa la ca] 24)).cell bv3 (by simp)
      have bw4 := ((Kp.refl [] wr).alloc (.cells #[.int .i64 1, .int .i64 a.kind, .int .i64 a.num, .string a.s, .string a.field, .slice qa la ca] 24)).cell bv4 (by simp)
      have bw5 := ((Kp.refl [] wr).alloc (.cells #[.int .i64 1, .int .i64 a.kind, .int .i64 a.num, .string a.s, .string a.field, .slice qa la ca] 24)).cell bv5 (by simp)
      have hA2 : Blk ((wr.alloc (.cells #[.int .i64 1, .int .i64 a.kind, .int .i64 a.num, .string a.s, .string a.field, .slice qa la ca] 24)).alloc (.cells #[.int .i64 1, .int .i64 b.kind, .int .i64 b.num, .string b.s, .string b.field, .slice qb lb cb] 24)) wr.heap.size 24 #[.int .i64 1, .int .i64 a.kind, .int .i64 a.num, .string a.s, .string a.field, .slice qa la ca] := (Blk.new wr _ _).alloc _
      have s0 := hA2.cell 0 (v := .int .i64 1) rfl
      have s1 := hA2.cell 1 (v := .int .i64 a.kind) rfl
      have s2 := hA2.cell 2 (v := .int .i64 a.num) rfl
      have s3 := hA2.cell 3 (v := .string a.s) rfl
      have s4 := hA2.cell 4 (v := .string a.field) rfl
      have s5 := hA2.cell 5 (v := .slice qa la ca) rfl
      replace hA2 := Lib.hid hA2
      clear bv0 bv1 bv2 bv3 bv4 bv5
      have hY := hout.out wr (Kp.refl [] wr)
      have e0x := hY.2.1.cell 0 (v := .int .i64 op) rfl
      have e5x := hY.2.1.cell 5 (v := .slice q len cap) rfl
      have o5x := hY.2.2.2.1.cell 5 (v := .slice (some ⟨b0, off, none⟩) len cu) rfl
      clear hY
      have hY := hout.out (wr.alloc (.cells #[.int .i64 1, .int .i64 a.kind, .int .i64 a.num, .string a.s, .string a.field, .slice qa la ca] 24)) ((Kp.refl [] wr).alloc (.cells #[.int .i64 1, .int .i64 a.kind, .int .i64 a.num, .string a.s, .string a.field, .slice qa la ca] 24))
      have e0y := hY.2.1.cell 0 (v := .int .i64 op) rfl
      have e5y := hY.2.1.cell 5 (v := .slice q len cap) rfl
      have o5y := hY.2.2.2.1.cell 5 (v := .slice (some ⟨b0, off, none⟩) len cu) rfl
      clear hY
      have hX := hout.out ((wr.alloc (.cells #[.int .i64 1, .int .i64 a.kind, .int .i64 a.num, .string a.s, .string a.field, .slice qa la ca] 24)).alloc (.cells #[.int .i64 1, .int .i64 b.kind, .int .i64 b.num, .string b.s, .string b.field, .slice qb lb cb] 24)) (((Kp.refl [] wr).alloc (.cells #[.int .i64 1, .int .i64 a.kind, .int .i64 a.num, .string a.s, .string a.field, .slice qa la ca] 24)).alloc (.cells #[.int .i64 1, .int .i64 b.kind, .int .i64 b.num, .string b.s, .string b.field, .slice qb lb cb] 24))
      obtain ⟨hXw, hXe, hXr, hXo, hXu, hXs⟩ := hX
      have f0 := hXr.frozen 0
      have f1 := hXr.frozen 1
      have f2 := hXr.frozen 2
      have f3 := hXr.frozen 3
      have f4 := hXr.frozen 4
      have f6 := hXr.frozen 5
      have g0 := hXr.cell 0 (v := .int .i64 0) rfl
      have g1 := hXr.cell 1 (v := .int .i64 0) rfl
      have g2 := hXr.cell 2 (v := .int .i64 0) rfl
      have g3 := hXr.cell 3 (v := .string ⟨#[]⟩) rfl
      have g4 := hXr.cell 4 (v := .string ⟨#[]⟩) rfl
      have g5 := hXr.cell 5 (v := .slice none 0 0) rfl
      have o0 := hXo.cell 0 (v := .int .i64 op) rfl
      have o1 := hXo.cell 1 (v := .int .i64 kind) rfl
      have o2 := hXo.cell 2 (v := .int .i64 num) rfl
      have o3 := hXo.cell 3 (v := .string s) rfl
      have o4 := hXo.cell 4 (v := .string f) rfl
      have o5 := hXo.cell 5 (v := .slice (some ⟨b0, off, none⟩) len cu) rfl
      have e0 := hXe.cell 0 (v := .int .i64 op) rfl
      have e1 := hXe.cell 1 (v := .int .i64 kind) rfl
      have e2 := hXe.cell 2 (v := .int .i64 num) rfl
      have e3 := hXe.cell 3 (v := .string s) rfl
      have e4 := hXe.cell 4 (v := .string f) rfl
      have e5 := hXe.cell 5 (v := .slice q len cap) rfl
      have hlt3 : w.heap.size + 1 < ((wr.alloc (.cells #[.int .i64 1, .int .i64 a.kind, .int .i64 a.num, .string a.s, .string a.field, .slice qa la ca] 24)).alloc (.cells #[.int .i64 1, .int .i64 b.kind, .int .i64 b.num, .string b.s, .string b.field, .slice qb lb cb] 24)).heap.size := hXr.lt
      obtain ⟨hZ, hKz⟩ := set6 hXr (.int .i64 op) (.int .i64 kind) (.int .i64 num) (.string s) (.string f) (.slice (some ⟨b0, off, none⟩) len cu)
      have z0 := hZ.cell 0 (v := .int .i64 op) rfl
      have z1 := hZ.cell 1 (v := .int .i64 kind) rfl
      have z2 := hZ.cell 2 (v := .int .i64 num) rfl
      have z3 := hZ.cell 3 (v := .string s) rfl
      have z4 := hZ.cell 4 (v := .string f) rfl
      have z5 := hZ.cell 5 (v := .slice (some ⟨b0, off, none⟩) len cu) rfl
      replace hZ := Lib.hid hZ
      replace hKz := Lib.hid hKz
      replace hXw := Lib.hid hXw
      replace hXe := Lib.hid hXe
      replace hXr := Lib.hid hXr
      replace hXo := Lib.hid hXo
      replace hXu := Lib.hid hXu
      replace hXs := Lib.hid hXs
      go_upto_region 18 with fail
      go_cut [102] (fun c wx => c = .bool false ∧ wx = (wr.alloc (.cells #[.int .i64 1, .int .i64 a.kind, .int .i64 a.num, .string a.s, .string a.field, .slice qa la ca] 24)))
      case first =>
        cases x10 : (op == 10)
        · have p10 : ¬ op = 10 := by simpa using x10
          cases x8 : (op == 8)
          · have p8 : ¬ op = 8 := by simpa using x8
            go_wp2_with fail
            go_meet
            case rel => exact ⟨congrArg Value.bool (Eq.trans (by simp [x10, x8]) hdd.out), rfl⟩
          · have pp : True := trivial
            cases y1 : (a.num == 1)
            · have p1 : ¬ a.num = 1 := by simpa using y1
              go_wp2_with fail
              go_meet
              case rel => exact ⟨congrArg Value.bool (Eq.trans (by simp [x10, x8, y1]) hdd.out), rfl⟩
            · have pp : True := trivial
              cases k1 : (a.kind == 1)
              · have pk : ¬ a.kind = 1 := by simpa using k1
                go_wp2_with fail
                go_meet
                case rel => exact ⟨congrArg Value.bool (Eq.trans (by simp [x10, x8, y1, k1]) hdd.out), rfl⟩
              · have pp : True := trivial
                go_wp2_with fail
                go_meet
                case rel => exact ⟨congrArg Value.bool (Eq.trans (by simp [x10, x8, y1, k1]) hdd.out), rfl⟩
        · have p10 : op = 10 := by simpa using x10
          have x8 : (op == 8) = false := by rw [p10]; rfl
          have p8 : ¬ op = 8 := by omega
          replace p10 := Lib.hid p10
          cases y0 : (a.num == 0)
          · have p0 : ¬ a.num = 0 := by simpa using y0
            go_wp2_with fail
            go_meet
            case rel => exact ⟨congrArg Value.bool (Eq.trans (by simp [x10, x8, y0]) hdd.out), rfl⟩
          · have pp : True := trivial
            cases k1 : (a.kind == 1)
            · have pk : ¬ a.kind = 1 := by simpa using k1
              go_wp2_with fail
              go_meet
              case rel => exact ⟨congrArg Value.bool (Eq.trans (by simp [x10, x8, y0, k1]) hdd.out), rfl⟩
            · have pp : True := trivial
              go_wp2_with fail
              go_meet
              case rel => exact ⟨congrArg Value.bool (Eq.trans (by simp [x10, x8, y0, k1]) hdd.out), rfl⟩
      case rest =>
        obtain ⟨rfl, rfl⟩ := hcut
        go_wp2_with (go_at_call 21; refine (hkb.out _).mono ?_; rintro r w6 ⟨rfl, rfl⟩)
        refine bodyPost_ret (v := .agg #[.int .i64 op, .int .i64 kind, .int .i64 num, .string s, .string f, .slice (some ⟨b0, off, none⟩) len cu]) (by simp [results, Tryz.results9, go_sem, z0, z1, z2, z3, z4, z5]) rfl ?_
        have hF := hend.out _ _ _ [a, b] hXw.out hKz.out hXs.out hXu.out
        rw [show y = _ from hfe.out.trans (step_bi_no h8 hde.out (.inr (.inr (.inl hkk.out))))]
        exact ⟨_, rfl, hF.1, hF.2⟩
end Go.Proofs.YtgldbeacjacbcaaGreat

set_option linter.unusedSimpArgs false
set_option linter.unusedVariables false
namespace Go.Proofs.YtgldbeacjacbcaaGreat
open Go.RowKit

set_option maxRecDepth 100000 in
set_option maxHeartbeats 4000000 in
theorem rf_b_no (op kind num : Int) (s f : ByteArray) (es : List Ex) (a b : Ex) (h8 : 8 ≤ op) (h21 : op ≤ 21) (hl0 : foldL es = [a, b]) (ha1 : a.op = 1) (hd : (((op == 10 && a.num == 0) || (op == 8 && a.num == 1)) && a.kind == 1) = false) (hb1 : b.op = 1) (hkk : b.kind = a.kind) (hok : kindOk op a.kind = false) (IH : ∀ i (hi : i < es.length), RFoldC es[i]) : RFoldC (.mk op kind num s f es) := by
  intro w v hv hw hcnt
  obtain ⟨q, cap, rfl⟩ := hv.val
  rw [well_eq, Bool.and_eq_true] at hw
  have hc1 : cntL es < (Ex.mk op kind num s f es).cnt := cnt_args (.mk op kind num s f es)
  have hl5 : es.length ≤ 500 := by have := len_cntL es; omega
  have hel : Hid (∀ i (hi : i < es.length), es[i].well = true ∧ es[i].cnt ≤ 500) := fun i hi => ⟨wellL_in hw.2 (List.getElem_mem hi), by have := cnt_mem hi; omega⟩
  have hshp : shpB (.mk op kind num s f (foldL es)) = true := by rw [shp_len _ _ _ _ _ (foldL_len es)]; exact hw.1
  have hLw : Hid (wellL (foldL es) = true) := foldL_well es hw.2
  have hlf : (foldL es).length = es.length := foldL_len es
  have hfe : foldE (.mk op kind num s f es) = stepE (.mk op kind num s f (foldL es)) := foldE_eq _
  replace IH := Lib.hid IH
  obtain ⟨i0, hi, hz0, hz1, hz2⟩ := info_parts infoEx
  replace hv : exsSl w (.slice q es.length cap) es := hv
  show Calls Tryz.prog 9 #[.agg #[.int .i64 op, .int .i64 kind, .int .i64 num, .string s, .string f, .slice q es.length cap]] w _
  obtain ⟨y, hy⟩ : ∃ y, foldE (.mk op kind num s f es) = y := ⟨_, rfl⟩
  rw [hy] at hfe ⊢
  obtain ⟨len, hlen⟩ : ∃ len, es.length = len := ⟨_, rfl⟩
  rw [hlen] at hv hl5 hlf ⊢
  replace hlen := Lib.hid hlen
  replace hfe := Lib.hid hfe
  replace hshp := Lib.hid hshp
  replace hlf := Lib.hid hlf
  replace hv := Lib.hid hv
  clear hw
  clear hc1 hcnt hy
  go_enter Tryz.func9, Tryz.ntmps9
  go_wp2_with fail
  go_loopw [4] (fun i wr => ∃ (k : Nat) (L : List (List Value)) (u : Value), k ≤ len ∧ i = .int .i64 k ∧
      Hid (Blk wr w.heap.size 24 #[.int .i64 op, .int .i64 kind, .int .i64 num, .string s, .string f, .slice q len cap]) ∧
      Hid (Blk wr (w.heap.size + 1) 24 #[.int .i64 0, .int .i64 0, .int .i64 0, .string ⟨#[]⟩, .string ⟨#[]⟩, .slice none 0 0]) ∧
      Hid (Blk wr (w.heap.size + 1 + 1) 24 #[.int .i64 op, .int .i64 kind, .int .i64 num, .string s, .string f, u]) ∧
      Hid (wr.ownsRow (w.heap.size + 3) 24 6 u k L.flatten) ∧
      Hid (exsAtB (fun b => w.heap.size + 3 ≤ b ∧ b < wr.heap.size ∧ u.ownBlock ≠ some b) wr (foldL (es.take k)) L) ∧ Hid (Kp [] w wr) ∧ Hid (w.heap.size + 3 ≤ wr.heap.size)) (fun i _ => len - (intOf i).toNat)
  case atStart => exact ⟨0, [], .slice none 0 0, Nat.zero_le _, rfl, ((Blk.new _ _ _).alloc _).alloc _, (blk_new (by simp) _ _).alloc _, blk_new (by simp) _ _, World.ownsRow_nil _ _ _ _, (by show exsAtB _ _ (foldL []) []; rw [foldL, exsAtB]), (((Kp.refl [] w).alloc _).alloc _).alloc _, (by show _ ≤ _; simp)⟩
  case round =>
    obtain ⟨k, L, u, hk, rfl, hBe, hBr, hBo, hu, hE, hK, hsz⟩ := hrel
    have b5 := hBe.out.cell 5 (v := .slice q len cap) rfl
    have o5 := hBo.out.cell 5 (v := u) rfl
    by_cases hlt : k < len
    · have hlt2 : k < es.length := by rw [hlen.out]; exact hlt
      obtain ⟨b, off, ux, rfl, hux, c0, c1, c2, c3, c4, c5⟩ := hv.out.at_in hK.out k hlt2
      have hcall := IH.out k hlt2
      have hts := Lib.hid (foldL_take_succ hlt2)
      have hwe := Lib.hid (hel.out k hlt2)
      obtain ⟨x, hx⟩ : ∃ x, es[k] = x := ⟨_, rfl⟩
      rw [hx] at c0 c1 c2 c3 c4 hcall hts hwe hux
      clear hx
      obtain ⟨qu, cu, rfl⟩ := hux.val
      have hfold := Lib.hid (hcall wr _ (hux.kp hK.out) hwe.out.1 hwe.out.2)
      clear hcall
      obtain ⟨lu, hlu⟩ : ∃ lu, x.args.length = lu := ⟨_, rfl⟩
      unfold exVal at hfold
      rw [hlu] at c5 hfold
      clear hlu hux
      obtain ⟨y, hy⟩ : ∃ y, foldE x = y := ⟨_, rfl⟩
      rw [hy] at hfold hts
      clear hy hwe
      have hul : Hid (∀ g, u.ownBlock = some g → w.heap.size + 3 ≤ g ∧ g < wr.heap.size) := fun g hg => hu.out.lt g hg
      go_wp2_with fail
      refine hfold.out.mono ?_
      rintro r w2 ⟨u1, rfl, hk2, hy⟩
      obtain ⟨qy, cy, rfl⟩ := hy.drop.val
      unfold exVal
      obtain ⟨ly, hly⟩ : ∃ ly, y.args.length = ly := ⟨_, rfl⟩
      rw [hly] at hy ⊢
      clear hly
      have hsz1 : wr.heap.size ≤ w2.heap.size := hk2.size
      have hU2 := Lib.hid ((row_kp hu.out hk2).alloc (.cells #[.int .i64 y.op, .int .i64 y.kind, .int .i64 y.num, .string y.s, .string y.field, .slice qy ly cy] 24))
      have hK2 := Lib.hid ((hK.out.trans hk2).alloc (.cells #[.int .i64 y.op, .int .i64 y.kind, .int .i64 y.num, .string y.s, .string y.field, .slice qy ly cy] 24))
      have hbs : Hid (w.heap.size + 3 ≤ (w2.alloc (.cells #[.int .i64 y.op, .int .i64 y.kind, .int .i64 y.num, .string y.s, .string y.field, .slice qy ly cy] 24)).heap.size) := by show _ ≤ _; rw [World.size_alloc]; have := hsz.out; omega
      have hnew := Lib.hid (ex_cells w2 y.op y.kind y.num y.s y.field (.slice qy ly cy))
      have hone := Lib.hid (ex_one y.op y.kind y.num y.s y.field qy ly cy)
      have hkeep : Hid (∀ b, b < wr.heap.size → (w2.alloc (.cells #[.int .i64 y.op, .int .i64 y.kind, .int .i64 y.num, .string y.s, .string y.field, .slice qy ly cy] 24)).heap[b]? = wr.heap[b]?) := fun b hb => by
        have h1 := hk2.alloc (.cells #[.int .i64 y.op, .int .i64 y.kind, .int .i64 y.num, .string y.s, .string y.field, .slice qy ly cy] 24)
        exact h1.block b hb (by simp)
      have hy2 := Lib.hid hy
      have hsz2 := Lib.hid hsz1
      replace hk2 := Lib.hid hk2
      clear hy hsz1
      go_wp2_with (at_builtin; refine wpList_append_own_at _ rfl (.tmp 25) (.tmp 32) 22 rfl (w.heap.size + 3) 24 i0 _ 6 80 Tryz.underlying22 hi hz0 hz1 hz2 rfl (by decide) _ k _ rfl hU2.out ⟨w2.heap.size, 0, none⟩ 1 1 [.int .i64 y.op, .int .i64 y.kind, .int .i64 y.num, .string y.s, .string y.field, .slice qy ly cy] rfl rfl hnew.out hone.out (by unfold maxLen; omega) (by omega) hbs.out ?_; intro v' w3 hown' hgrow _ hat; obtain ⟨vq, vc, rfl⟩ := own_slice hown'; have hlow : ∀ b, b < wr.heap.size → u.ownBlock ≠ some b → w3.heap[b]? = wr.heap[b]? := (fun b hb h => (hgrow.block b (by rw [World.size_alloc]; have := hsz2.out; omega) (fun h4 => h h4.symm)).trans (hkeep.out b hb)); have hlow3 : ∀ b, b < w.heap.size + 3 → w3.heap[b]? = wr.heap[b]? := (fun b hb => hlow b (by have := hsz.out; omega) (fun h4 => by have := (hul.out b h4).1; omega)); have hBo3 : Blk w3 (w.heap.size + 1 + 1) 24 #[.int .i64 op, .int .i64 kind, .int .i64 num, .string s, .string f, u] := (hlow3 _ (by omega)).trans hBo.out; have f5 := hBo3.frozen 5; have d5 := hBo3.cell 5 (v := u) rfl; replace hlow := Lib.hid hlow; replace hlow3 := Lib.hid hlow3; replace hBo3 := Lib.hid hBo3; replace hgrow := Lib.hid hgrow; replace hown' := Lib.hid hown'; replace hat := Lib.hid hat)
      have hg3 : (w2.alloc (.cells #[.int .i64 y.op, .int .i64 y.kind, .int .i64 y.num, .string y.s, .string y.field, .slice qy ly cy] 24)).heap.size ≤ w3.heap.size := hgrow.out.size
      rw [World.size_alloc] at hg3
      have hat2 : (Value.slice vq (k + 1) vc).ownBlock = u.ownBlock ∨ (Value.slice vq (k + 1) vc).ownBlock = some (w2.heap.size + 1) := by
        have := hat.out
        rw [World.size_alloc] at this
        exact this
      have hgb : ∀ b, b < w2.heap.size + 1 → u.ownBlock ≠ some b → w3.heap[b]? = (w2.alloc (.cells #[.int .i64 y.op, .int .i64 y.kind, .int .i64 y.num, .string y.s, .string y.field, .slice qy ly cy] 24)).heap[b]? := fun b hb h => hgrow.out.block b (by rw [World.size_alloc]; exact hb) (fun h4 => h h4.symm)
      have hE3 : exsAtB (fun b => w.heap.size + 3 ≤ b ∧ b < w3.heap.size ∧ (Value.slice vq (k + 1) vc).ownBlock ≠ some b) w3 (foldL (es.take (k + 1))) (L ++ [exV y (.slice qy ly cy)]) := by
        rw [hts.out]
        have hsz1 := hsz2.out
        have hsz0 := hsz.out
        refine exsAtB.snoc (exsAtB.move ?_ ?_ _ L hE.out) (exAtB_mk (hy2.out.move ?_ ?_))
        · rintro b ⟨h1, h2, h3⟩
          refine ⟨h1, by omega, fun h4 => ?_⟩
          rcases hat2 with h5 | h5
          · exact h3 (h5 ▸ h4)
          · rw [h5] at h4; simp at h4; omega
        · rintro b ⟨h1, h2, h3⟩ hb
          exact hlow.out b h2 h3
        · rintro b ⟨h1, h2⟩
          refine ⟨by omega, by omega, fun h4 => ?_⟩
          rcases hat2 with h5 | h5
          · rw [h5] at h4; have := (hul.out b h4).2; omega
          · rw [h5] at h4; simp at h4; omega
        · rintro b ⟨h1, h2⟩ hb
          rw [hgb b (by omega) (fun h => by have := (hul.out b h).2; omega)]
          exact ((Kp.refl [] w2).alloc _).block b hb (by simp)
      have hE4 : Hid (exsAtB (fun b => w.heap.size + 3 ≤ b ∧ b < (w3.setCell ⟨w.heap.size + 1 + 1, 5, none⟩ (.slice vq (k + 1) vc)).heap.size ∧ (Value.slice vq (k + 1) vc).ownBlock ≠ some b) (w3.setCell ⟨w.heap.size + 1 + 1, 5, none⟩ (.slice vq (k + 1) vc)) (foldL (es.take (k + 1))) (L ++ [exV y (.slice qy ly cy)])) :=
        exsAtB.move (fun b h => ⟨h.1, by simpa [World.setCell] using h.2.1, h.2.2⟩) (fun b h _ => Below.heap_setCell w3 _ _ b (by have := h.1; show ¬ b = w.heap.size + 1 + 1; omega)) _ _ hE3
      have hO4 : Hid ((w3.setCell ⟨w.heap.size + 1 + 1, 5, none⟩ (.slice vq (k + 1) vc)).ownsRow (w.heap.size + 3) 24 6 (.slice vq (k + 1) vc) (k + 1) (L ++ [exV y (.slice qy ly cy)]).flatten) := by
        show World.ownsRow _ _ _ _ _ _ _
        rw [flatten_snoc]
        exact row_set hown'.out _ (by omega) _ _
      have hB1 : Hid (Blk (w3.setCell ⟨w.heap.size + 1 + 1, 5, none⟩ (.slice vq (k + 1) vc)) w.heap.size 24 #[.int .i64 op, .int .i64 kind, .int .i64 num, .string s, .string f, .slice (some ⟨b, off, none⟩) len cap]) := Blk.other (show Blk w3 _ _ _ from (hlow3.out _ (by omega)).trans hBe.out) (by simp; omega) _
      have hB2 : Hid (Blk (w3.setCell ⟨w.heap.size + 1 + 1, 5, none⟩ (.slice vq (k + 1) vc)) (w.heap.size + 1) 24 #[.int .i64 0, .int .i64 0, .int .i64 0, .string ⟨#[]⟩, .string ⟨#[]⟩, .slice none 0 0]) := Blk.other (show Blk w3 _ _ _ from (hlow3.out _ (by omega)).trans hBr.out) (by simp) _
      have hB3 : Hid (Blk (w3.setCell ⟨w.heap.size + 1 + 1, 5, none⟩ (.slice vq (k + 1) vc)) (w.heap.size + 1 + 1) 24 #[.int .i64 op, .int .i64 kind, .int .i64 num, .string s, .string f, .slice vq (k + 1) vc]) := hBo3.out.set 5 _
      have hK3 : Hid (Kp [] w (w3.setCell ⟨w.heap.size + 1 + 1, 5, none⟩ (.slice vq (k + 1) vc))) := (hK2.out.grown hgrow.out (fun j hj => .inr (by have := (hul.out j hj).1; omega))).setCell (.inr (by show w.heap.size ≤ w.heap.size + 1 + 1; omega)) _
      have hs3 : Hid (w.heap.size + 3 ≤ (w3.setCell ⟨w.heap.size + 1 + 1, 5, none⟩ (.slice vq (k + 1) vc)).heap.size) := by show _ ≤ _; have h1 := hsz.out; have h2 := hsz2.out; simp [World.setCell]; omega
      clear hgrow hown' hat hg3 hat2 hE3
      go_roundw
      case rel => exact ⟨k + 1, L ++ [exV y (.slice qy ly cy)], _, by omega, by go_num, hB1, hB2, hB3, hO4, hE4, hK3, hs3⟩
      case measure => simp [intOf]; omega
    · obtain rfl : len = k := by omega
      have hfull := tk_all hlen.out
      have hE2 := hE.out
      rw [hfull] at hE2
      have hus := row_at (by rw [hlf.out]) hu.out hE2
      obtain ⟨qu, cu, rfl⟩ := own_slice hu.out
      clear hE2 hfull hE hu hel IH hv hlt b5 o5 hk
      rw [hl0] at hus hshp hLw hlf hfe
      have hout : Hid (∀ X, Kp [] wr X → Kp [] w X ∧ Blk X w.heap.size 24 #[.int .i64 op, .int .i64 kind, .int .i64 num, .string s, .string f, .slice q len cap] ∧ Blk X (w.heap.size + 1) 24 #[.int .i64 0, .int .i64 0, .int .i64 0, .string ⟨#[]⟩, .string ⟨#[]⟩, .slice none 0 0] ∧ Blk X (w.heap.size + 1 + 1) 24 #[.int .i64 op, .int .i64 kind, .int .i64 num, .string s, .string f, .slice qu len cu] ∧ exsSlB (fun b => w.heap.size + 3 ≤ b ∧ b < wr.heap.size) X (.slice qu len cu) [a, b] ∧ wr.heap.size ≤ X.heap.size) := fun X hX => ⟨hK.out.trans hX, hBe.out.kp hX (by simp), hBr.out.kp hX (by simp), hBo.out.kp hX (by simp), hus.move (fun b h => h) (fun b _ hb => hX.block b hb (by simp)), hX.size⟩
      have hend : Hid (∀ (X F : World) (u : Value) (es : List Ex), Kp [] w X → Kp [w.heap.size + 1] X F → wr.heap.size ≤ X.heap.size → exsSlB (fun b => w.heap.size + 3 ≤ b ∧ b < wr.heap.size) X u es → Kp [] w F ∧ exsSlB (Rg w F) F u es) := by
        intro X F u es h1 h2 h3 h4
        refine ⟨h1.trans' h2 (fun i hi hl => by simp at hi; omega), h4.move (fun b h => ⟨by omega, by have := h2.size; omega⟩) (fun b h hb => h2.block b hb (by simp; omega))⟩
      replace hus := Lib.hid hus
      clear hBe hBr hBo hsz hi hz0 hz1 hz2
      obtain ⟨b0, off, rfl, hget⟩ := hus.out.at_ (by simp)
      obtain ⟨qa, la, ca, hla, hua, hca⟩ := hget 0 (by simp)
      replace hca : ∀ j x, (exV a (.slice qa la ca))[j]? = some x → wr.cell? ⟨b0, off + (0 * 6 + j), none⟩ = some x := hca
      have av0 := hca 0 _ rfl
      have av1 := hca 1 _ rfl
      have av2 := hca 2 _ rfl
      have av3 := hca 3 _ rfl
      have av4 := hca 4 _ rfl
      have av5 := hca 5 _ rfl
      simp only [Nat.zero_mul, Nat.zero_add, Nat.add_zero, Nat.one_mul, Nat.reduceAdd] at av0 av1 av2 av3 av4 av5
      replace hua : exsSlB _ wr (.slice qa la ca) a.args := hua
      obtain ⟨qb, lb, cb, hlb, hub, hcb⟩ := hget 1 (by simp)
      replace hcb : ∀ j x, (exV b (.slice qb lb cb))[j]? = some x → wr.cell? ⟨b0, off + (1 * 6 + j), none⟩ = some x := hcb
      have bv0 := hcb 0 _ rfl
      have bv1 := hcb 1 _ rfl
      have bv2 := hcb 2 _ rfl
      have bv3 := hcb 3 _ rfl
      have bv4 := hcb 4 _ rfl
      have bv5 := hcb 5 _ rfl
      simp only [Nat.zero_mul, Nat.zero_add, Nat.add_zero, Nat.one_mul, Nat.reduceAdd] at bv0 bv1 bv2 bv3 bv4 bv5
      replace hub : exsSlB _ wr (.slice qb lb cb) b.args := hub
      clear hget
      have hln : Hid (2 = len) := hlf.out
      have hp0 : 0 < len := by have := hln.out; omega
      have hp1 : 1 < len := by have := hln.out; omega
      have n6 : ¬ op = 6 := by omega
      have m6 : (op == 6) = false := by simpa using n6
      have n7 : ¬ op = 7 := by omega
      have m7 : (op == 7) = false := by simpa using n7
      have n5 : ¬ op < 6 := by omega
      have n22 : ¬ 21 < op := by omega
      rw [ha1] at av0
      rw [hb1] at bv0
      have hdd := Lib.hid hd
      clear hd
      have hde := Lib.hid ((dec_two (op := op) (b := b) ha1).trans hdd.out)
      have hwa : a.well = true := wellL_in hLw.out (by simp)
      have hwb : b.well = true := wellL_in hLw.out (by simp)
      have haC := (shp_con (by rw [well_eq, Bool.and_eq_true] at hwa; exact hwa.1) ha1).1
      have hbC := (shp_con (by rw [well_eq, Bool.and_eq_true] at hwb; exact hwb.1) hb1).1
      have hk4 := (con_bd haC).2.2.2
      have hkb : Hid (∀ W : World, Calls Tryz.prog 21 #[.int .i64 op, .int .i64 a.kind, .int .i64 b.kind] W fun r w' => r = .returned (.int .i64 0) ∧ w' = W) := fun W => by rw [hkk]; exact (kbi_c op a.kind W h8 h21 hk4).mono fun r w' h => ⟨h.1.trans (ret_int (by rw [if_neg (by rw [hok]; decide)])), h.2⟩
      replace hkk := Lib.hid hkk
      replace hb1 := Lib.hid hb1
      clear hwa hwb haC hbC hk4
      replace ha1 := Lib.hid ha1
      have bw0 := ((Kp.refl [] wr).alloc (.cells #[.int .i64 1, .int .i64 a.kind, .int .i64 a.num, .string a.s, .string a.field, .slice qa la ca] 24)).cell bv0 (by simp)
      have bw1 := ((Kp.refl [] wr).alloc (.cells #[.int .i64 1, .int .i64 a.kind, .int .i64 a.num, .string a.s, .string a.field, .slice qa la ca] 24)).cell bv1 (by simp)
      have bw2 := ((Kp.refl [] wr).alloc (.cells #[.int .i64 1, .int .i64 a.kind, .int .i64 a.num, .string a.s, .string a.field, .slice qa la ca] 24)).cell bv2 (by simp)
      have bw3 := ((Kp.refl [] wr).alloc (.cells #[.int .i64 1, .int .i64 a.kind, .int .i64 a.num, .string a.s, .string a.field, .slice qa la ca] 24)).cell bv3 (by simp)
      have bw4 := ((Kp.refl [] wr).alloc (.cells #[.int .i64 1, .int .i64 a.kind, .int .i64 a.num, .string a.s, .string a.field, .slice qa la ca] 24)).cell bv4 (by simp)
      have bw5 := ((Kp.refl [] wr).alloc (.cells #[.int .i64 1, .int .i64 a.kind, .int .i64 a.num, .string a.s, .string a.field, .slice qa la ca] 24)).cell bv5 (by simp)
      have hA2 : Blk ((wr.alloc (.cells #[.int .i64 1, .int .i64 a.kind, .int .i64 a.num, .string a.s, .string a.field, .slice qa la ca] 24)).alloc (.cells #[.int .i64 1, .int .i64 b.kind, .int .i64 b.num, .string b.s, .string b.field, .slice qb lb cb] 24)) wr.heap.size 24 #[.int .i64 1, .int .i64 a.kind, .int .i64 a.num, .string a.s, .string a.field, .slice qa la ca] := (Blk.new wr _ _).alloc _
      have s0 := hA2.cell 0 (v := .int .i64 1) rfl
      have s1 := hA2.cell 1 (v := .int .i64 a.kind) rfl
      have s2 := hA2.cell 2 (v := .int .i64 a.num) rfl
      have s3 := hA2.cell 3 (v := .string a.s) rfl
      have s4 := hA2.cell 4 (v := .string a.field) rfl
      have s5 := hA2.cell 5 (v := .slice qa la ca) rfl
      replace hA2 := Lib.hid hA2
      clear bv0 bv1 bv2 bv3 bv4 bv5
      have hY := hout.out wr (Kp.refl [] wr)
      have e0x := hY.2.1.cell 0 (v := .int .i64 op) rfl
      have e5x := hY.2.1.cell 5 (v := .slice q len cap) rfl
      have o5x := hY.2.2.2.1.cell 5 (v := .slice (some ⟨b0, off, none⟩) len cu) rfl
      clear hY
      have hY := hout.out (wr.alloc (.cells #[.int .i64 1, .int .i64 a.kind, .int .i64 a.num, .string a.s, .string a.field, .slice qa la ca] 24)) ((Kp.refl [] wr).alloc (.cells #[.int .i64 1, .int .i64 a.kind, .int .i64 a.num, .string a.s, .string a.field, .slice qa la ca] 24))
      have e0y := hY.2.1.cell 0 (v := .int .i64 op) rfl
      have e5y := hY.2.1.cell 5 (v := .slice q len cap) rfl
      have o5y := hY.2.2.2.1.cell 5 (v := .slice (some ⟨b0, off, none⟩) len cu) rfl
      clear hY
      have hX := hout.out ((wr.alloc (.cells #[.int .i64 1, .int .i64 a.kind, .int .i64 a.num, .string a.s, .string a.field, .slice qa la ca] 24)).alloc (.cells #[.int .i64 1, .int .i64 b.kind, .int .i64 b.num, .string b.s, .string b.field, .slice qb lb cb] 24)) (((Kp.refl [] wr).alloc (.cells #[.int .i64 1, .int .i64 a.kind, .int .i64 a.num, .string a.s, .string a.field, .slice qa la ca] 24)).alloc (.cells #[.int .i64 1, .int .i64 b.kind, .int .i64 b.num, .string b.s, .string b.field, .slice qb lb cb] 24))
      obtain ⟨hXw, hXe, hXr, hXo, hXu, hXs⟩ := hX
      have f0 := hXr.frozen 0
      have f1 := hXr.frozen 1
      have f2 := hXr.frozen 2
      have f3 := hXr.frozen 3
      have f4 := hXr.frozen 4
      have f6 := hXr.frozen 5
      have g0 := hXr.cell 0 (v := .int .i64 0) rfl
      have g1 := hXr.cell 1 (v := .int .i64 0) rfl
      have g2 := hXr.cell 2 (v := .int .i64 0) rfl
      have g3 := hXr.cell 3 (v := .string ⟨#[]⟩) rfl
      have g4 := hXr.cell 4 (v := .string ⟨#[]⟩) rfl
      have g5 := hXr.cell 5 (v := .slice none 0 0) rfl
      have o0 := hXo.cell 0 (v := .int .i64 op) rfl
      have o1 := hXo.cell 1 (v := .int .i64 kind) rfl
      have o2 := hXo.cell 2 (v := .int .i64 num) rfl
      have o3 := hXo.cell 3 (v := .string s) rfl
      have o4 := hXo.cell 4 (v := .string f) rfl
      have o5 := hXo.cell 5 (v := .slice (some ⟨b0, off, none⟩) len cu) rfl
      have e0 := hXe.cell 0 (v := .int .i64 op) rfl
      have e1 := hXe.cell 1 (v := .int .i64 kind) rfl
      have e2 := hXe.cell 2 (v := .int .i64 num) rfl
      have e3 := hXe.cell 3 (v := .string s) rfl
      have e4 := hXe.cell 4 (v := .string f) rfl
      have e5 := hXe.cell 5 (v := .slice q len cap) rfl
      have hlt3 : w.heap.size + 1 < ((wr.alloc (.cells #[.int .i64 1, .int .i64 a.kind, .int .i64 a.num, .string a.s, .string a.field, .slice qa la ca] 24)).alloc (.cells #[.int .i64 1, .int .i64 b.kind, .int .i64 b.num, .string b.s, .string b.field, .slice qb lb cb] 24)).heap.size := hXr.lt
      obtain ⟨hZ, hKz⟩ := set6 hXr (.int .i64 op) (.int .i64 kind) (.int .i64 num) (.string s) (.string f) (.slice (some ⟨b0, off, none⟩) len cu)
      have z0 := hZ.cell 0 (v := .int .i64 op) rfl
      have z1 := hZ.cell 1 (v := .int .i64 kind) rfl
      have z2 := hZ.cell 2 (v := .int .i64 num) rfl
      have z3 := hZ.cell 3 (v := .string s) rfl
      have z4 := hZ.cell 4 (v := .string f) rfl
      have z5 := hZ.cell 5 (v := .slice (some ⟨b0, off, none⟩) len cu) rfl
      replace hZ := Lib.hid hZ
      replace hKz := Lib.hid hKz
      replace hXw := Lib.hid hXw
      replace hXe := Lib.hid hXe
      replace hXr := Lib.hid hXr
      replace hXo := Lib.hid hXo
      replace hXu := Lib.hid hXu
      replace hXs := Lib.hid hXs
      go_upto_region 18 with fail
      go_cut [102] (fun c wx => c = .bool false ∧ wx = (wr.alloc (.cells #[.int .i64 1, .int .i64 a.kind, .int .i64 a.num, .string a.s, .string a.field, .slice qa la ca] 24)))
      case first =>
        cases x10 : (op == 10)
        · have p10 : ¬ op = 10 := by simpa using x10
          cases x8 : (op == 8)
          · have p8 : ¬ op = 8 := by simpa using x8
            go_wp2_with fail
            go_meet
            case rel => exact ⟨congrArg Value.bool (Eq.trans (by simp [x10, x8]) hdd.out), rfl⟩
          · have pp : True := trivial
            cases y1 : (a.num == 1)
            · have p1 : ¬ a.num = 1 := by simpa using y1
              go_wp2_with fail
              go_meet
              case rel => exact ⟨congrArg Value.bool (Eq.trans (by simp [x10, x8, y1]) hdd.out), rfl⟩
            · have pp : True := trivial
              cases k1 : (a.kind == 1)
              · have pk : ¬ a.kind = 1 := by simpa using k1
                go_wp2_with fail
                go_meet
                case rel => exact ⟨congrArg Value.bool (Eq.trans (by simp [x10, x8, y1, k1]) hdd.out), rfl⟩
              · have pp : True := trivial
                go_wp2_with fail
                go_meet
                case rel => exact ⟨congrArg Value.bool (Eq.trans (by simp [x10, x8, y1, k1]) hdd.out), rfl⟩
        · have p10 : op = 10 := by simpa using x10
          have x8 : (op == 8) = false := by rw [p10]; rfl
          have p8 : ¬ op = 8 := by omega
          replace p10 := Lib.hid p10
          cases y0 : (a.num == 0)
          · have p0 : ¬ a.num = 0 := by simpa using y0
            go_wp2_with fail
            go_meet
            case rel => exact ⟨congrArg Value.bool (Eq.trans (by simp [x10, x8, y0]) hdd.out), rfl⟩
          · have pp : True := trivial
            cases k1 : (a.kind == 1)
            · have pk : ¬ a.kind = 1 := by simpa using k1
              go_wp2_with fail
              go_meet
              case rel => exact ⟨congrArg Value.bool (Eq.trans (by simp [x10, x8, y0, k1]) hdd.out), rfl⟩
            · have pp : True := trivial
              go_wp2_with fail
              go_meet
              case rel => exact ⟨congrArg Value.bool (Eq.trans (by simp [x10, x8, y0, k1]) hdd.out), rfl⟩
      case rest =>
        obtain ⟨rfl, rfl⟩ := hcut
        go_wp2_with (go_at_call 21; refine (hkb.out _).mono ?_; rintro r w6 ⟨rfl, rfl⟩)
        refine bodyPost_ret (v := .agg #[.int .i64 op, .int .i64 kind, .int .i64 num, .string s, .string f, .slice (some ⟨b0, off, none⟩) len cu]) (by simp [results, Tryz.results9, go_sem, z0, z1, z2, z3, z4, z5]) rfl ?_
        have hF := hend.out _ _ _ [a, b] hXw.out hKz.out hXs.out hXu.out
        rw [show y = _ from hfe.out.trans (step_bi_no h8 hde.out (.inr (.inr (.inr (.inl hok)))))]
        exact ⟨_, rfl, hF.1, hF.2⟩

set_option maxRecDepth 100000 in
set_option maxHeartbeats 4000000 in
theorem rf_b_flt (op kind num : Int) (s f : ByteArray) (es : List Ex) (a b : Ex) (h8 : 8 ≤ op) (h21 : op ≤ 21) (hl0 : foldL es = [a, b]) (ha1 : a.op = 1) (hd : (((op == 10 && a.num == 0) || (op == 8 && a.num == 1)) && a.kind == 1) = false) (hb1 : b.op = 1) (hkk : b.kind = a.kind) (hok : kindOk op a.kind = true) (hfl : ¬ (biR op a.num b.num).2 = 0) (IH : ∀ i (hi : i < es.length), RFoldC es[i]) : RFoldC (.mk op kind num s f es) := by
  intro w v hv hw hcnt
  obtain ⟨q, cap, rfl⟩ := hv.val
  rw [well_eq, Bool.and_eq_true] at hw
  have hc1 : cntL es < (Ex.mk op kind num s f es).cnt := cnt_args (.mk op kind num s f es)
  have hl5 : es.length ≤ 500 := by have := len_cntL es; omega
  have hel : Hid (∀ i (hi : i < es.length), es[i].well = true ∧ es[i].cnt ≤ 500) := fun i hi => ⟨wellL_in hw.2 (List.getElem_mem hi), by have := cnt_mem hi; omega⟩
  have hshp : shpB (.mk op kind num s f (foldL es)) = true := by rw [shp_len _ _ _ _ _ (foldL_len es)]; exact hw.1
  have hLw : Hid (wellL (foldL es) = true) := foldL_well es hw.2
  have hlf : (foldL es).length = es.length := foldL_len es
  have hfe : foldE (.mk op kind num s f es) = stepE (.mk op kind num s f (foldL es)) := foldE_eq _
  replace IH := Lib.hid IH
  obtain ⟨i0, hi, hz0, hz1, hz2⟩ := info_parts infoEx
  replace hv : exsSl w (.slice q es.length cap) es := hv
  show Calls Tryz.prog 9 #[.agg #[.int .i64 op, .int .i64 kind, .int .i64 num, .string s, .string f, .slice q es.length cap]] w _
  obtain ⟨y, hy⟩ : ∃ y, foldE (.mk op kind num s f es) = y := ⟨_, rfl⟩
  rw [hy] at hfe ⊢
  obtain ⟨len, hlen⟩ : ∃ len, es.length = len := ⟨_, rfl⟩
  rw [hlen] at hv hl5 hlf ⊢
  replace hlen := Lib.hid hlen
  replace hfe := Lib.hid hfe
  replace hshp := Lib.hid hshp
  replace hlf := Lib.hid hlf
  replace hv := Lib.hid hv
  clear hw
  clear hc1 hcnt hy
  go_enter Tryz.func9, Tryz.ntmps9
  go_wp2_with fail
  go_loopw [4] (fun i wr => ∃ (k : Nat) (L : List (List Value)) (u : Value), k ≤ len ∧ i = .int .i64 k ∧
      Hid (Blk wr w.heap.size 24 #[.int .i64 op, .int .i64 kind, .int .i64 num, .string s, .string f, .slice q len cap]) ∧
      Hid (Blk wr (w.heap.size + 1) 24 #[.int .i64 0, .int .i64 0, .int .i64 0, .string ⟨#[]⟩, .string ⟨#[]⟩, .slice none 0 0]) ∧
      Hid (Blk wr (w.heap.size + 1 + 1) 24 #[.int .i64 op, .int .i64 kind, .int .i64 num, .string s, .string f, u]) ∧
      Hid (wr.ownsRow (w.heap.size + 3) 24 6 u k L.flatten) ∧
      Hid (exsAtB (fun b => w.heap.size + 3 ≤ b ∧ b < wr.heap.size ∧ u.ownBlock ≠ some b) wr (foldL (es.take k)) L) ∧ Hid (Kp [] w wr) ∧ Hid (w.heap.size + 3 ≤ wr.heap.size)) (fun i _ => len - (intOf i).toNat)
  case atStart => exact ⟨0, [], .slice none 0 0, Nat.zero_le _, rfl, ((Blk.new _ _ _).alloc _).alloc _, (blk_new (by simp) _ _).alloc _, blk_new (by simp) _ _, World.ownsRow_nil _ _ _ _, (by show exsAtB _ _ (foldL []) []; rw [foldL, exsAtB]), (((Kp.refl [] w).alloc _).alloc _).alloc _, (by show _ ≤ _; simp)⟩
  case round =>
    obtain ⟨k, L, u, hk, rfl, hBe, hBr, hBo, hu, hE, hK, hsz⟩ := hrel
    have b5 := hBe.out.cell 5 (v := .slice q len cap) rfl
    have o5 := hBo.out.cell 5 (v := u) rfl
    by_cases hlt : k < len
    · have hlt2 : k < es.length := by rw [hlen.out]; exact hlt
      obtain ⟨b, off, ux, rfl, hux, c0, c1, c2, c3, c4, c5⟩ := hv.out.at_in hK.out k hlt2
      have hcall := IH.out k hlt2
      have hts := Lib.hid (foldL_take_succ hlt2)
      have hwe := Lib.hid (hel.out k hlt2)
      obtain ⟨x, hx⟩ : ∃ x, es[k] = x := ⟨_, rfl⟩
      rw [hx] at c0 c1 c2 c3 c4 hcall hts hwe hux
      clear hx
      obtain ⟨qu, cu, rfl⟩ := hux.val
      have hfold := Lib.hid (hcall wr _ (hux.kp hK.out) hwe.out.1 hwe.out.2)
      clear hcall
      obtain ⟨lu, hlu⟩ : ∃ lu, x.args.length = lu := ⟨_, rfl⟩
      unfold exVal at hfold
      rw [hlu] at c5 hfold
      clear hlu hux
      obtain ⟨y, hy⟩ : ∃ y, foldE x = y := ⟨_, rfl⟩
      rw [hy] at hfold hts
      clear hy hwe
      have hul : Hid (∀ g, u.ownBlock = some g → w.heap.size + 3 ≤ g ∧ g < wr.heap.size) := fun g hg => hu.out.lt g hg
      go_wp2_with fail
      refine hfold.out.mono ?_
      rintro r w2 ⟨u1, rfl, hk2, hy⟩
      obtain ⟨qy, cy, rfl⟩ := hy.drop.val
      unfold exVal
      obtain ⟨ly, hly⟩ : ∃ ly, y.args.length = ly := ⟨_, rfl⟩
      rw [hly] at hy ⊢
      clear hly
      have hsz1 : wr.heap.size ≤ w2.heap.size := hk2.size
      have hU2 := Lib.hid ((row_kp hu.out hk2).alloc (.cells #[.int .i64 y.op, .int .i64 y.kind, .int .i64 y.num, .string y.s, .string y.field, .slice qy ly cy] 24))
      have hK2 := Lib.hid ((hK.out.trans hk2).alloc (.cells #[.int .i64 y.op, .int .i64 y.kind, .int .i64 y.num, .string y.s, .string y.field, .slice qy ly cy] 24))
      have hbs : Hid (w.heap.size + 3 ≤ (w2.alloc (.cells #[.int .i64 y.op, .int .i64 y.kind, .int .i64 y.num, .string y.s, .string y.field, .slice qy ly cy] 24)).heap.size) := by show _ ≤ _; rw [World.size_alloc]; have := hsz.out; omega
      have hnew := Lib.hid (ex_cells w2 y.op y.kind y.num y.s y.field (.slice qy ly cy))
      have hone := Lib.hid (ex_one y.op y.kind y.num y.s y.field qy ly cy)
      have hkeep : Hid (∀ b, b < wr.heap.size → (w2.alloc (.cells #[.int .i64 y.op, .int .i64 y.kind, .int .i64 y.num, .string y.s, .string y.field, .slice qy ly cy] 24)).heap[b]? = wr.heap[b]?) := fun b hb => by
        have h1 := hk2.alloc (.cells #[.int .i64 y.op, .int .i64 y.kind, .int .i64 y.num, .string y.s, .string y.field, .slice qy ly cy] 24)
        exact h1.block b hb (by simp)
      have hy2 := Lib.hid hy
      have hsz2 := Lib.hid hsz1
      replace hk2 := Lib.hid hk2
      clear hy hsz1
      go_wp2_with (at_builtin; refine wpList_append_own_at _ rfl (.tmp 25) (.tmp 32) 22 rfl (w.heap.size + 3) 24 i0 _ 6 80 Tryz.underlying22 hi hz0 hz1 hz2 rfl (by decide) _ k _ rfl hU2.out ⟨w2.heap.size, 0, none⟩ 1 1 [.int .i64 y.op, .int .i64 y.kind, .int .i64 y.num, .string y.s, .string y.field, .slice qy ly cy] rfl rfl hnew.out hone.out (by unfold maxLen; omega) (by omega) hbs.out ?_; intro v' w3 hown' hgrow _ hat; obtain ⟨vq, vc, rfl⟩ := own_slice hown'; have hlow : ∀ b, b < wr.heap.size → u.ownBlock ≠ some b → w3.heap[b]? = wr.heap[b]? := (fun b hb h => (hgrow.block b (by rw [World.size_alloc]; have := hsz2.out; omega) (fun h4 => h h4.symm)).trans (hkeep.out b hb)); have hlow3 : ∀ b, b < w.heap.size + 3 → w3.heap[b]? = wr.heap[b]? := (fun b hb => hlow b (by have := hsz.out; omega) (fun h4 => by have := (hul.out b h4).1; omega)); have hBo3 : Blk w3 (w.heap.size + 1 + 1) 24 #[.int .i64 op, .int .i64 kind, .int .i64 num, .string s, .string f, u] := (hlow3 _ (by omega)).trans hBo.out; have f5 := hBo3.frozen 5; have d5 := hBo3.cell 5 (v := u) rfl; replace hlow := Lib.hid hlow; replace hlow3 := Lib.hid hlow3; replace hBo3 := Lib.hid hBo3; replace hgrow := Lib.hid hgrow; replace hown' := Lib.hid hown'; replace hat := Lib.hid hat)
      have hg3 : (w2.alloc (.cells #[.int .i64 y.op, .int .i64 y.kind, .int .i64 y.num, .string y.s, .string y.field, .slice qy ly cy] 24)).heap.size ≤ w3.heap.size := hgrow.out.size
      rw [World.size_alloc] at hg3
      have hat2 : (Value.slice vq (k + 1) vc).ownBlock = u.ownBlock ∨ (Value.slice vq (k + 1) vc).ownBlock = some (w2.heap.size + 1) := by
        have := hat.out
        rw [World.size_alloc] at this
        exact this
      have hgb : ∀ b, b < w2.heap.size + 1 → u.ownBlock ≠ some b → w3.heap[b]? = (w2.alloc (.cells #[.int .i64 y.op, .int .i64 y.kind, .int .i64 y.num, .string y.s, .string y.field, .slice qy ly cy] 24)).heap[b]? := fun b hb h => hgrow.out.block b (by rw [World.size_alloc]; exact hb) (fun h4 => h h4.symm)
      have hE3 : exsAtB (fun b => w.heap.size + 3 ≤ b ∧ b < w3.heap.size ∧ (Value.slice vq (k + 1) vc).ownBlock ≠ some b) w3 (foldL (es.take (k + 1))) (L ++ [exV y (.slice qy ly cy)]) := by
        rw [hts.out]
        have hsz1 := hsz2.out
        have hsz0 := hsz.out
        refine exsAtB.snoc (exsAtB.move ?_ ?_ _ L hE.out) (exAtB_mk (hy2.out.move ?_ ?_))
        · rintro b ⟨h1, h2, h3⟩
          refine ⟨h1, by omega, fun h4 => ?_⟩
          rcases hat2 with h5 | h5
          · exact h3 (h5 ▸ h4)
          · rw [h5] at h4; simp at h4; omega
        · rintro b ⟨h1, h2, h3⟩ hb
          exact hlow.out b h2 h3
        · rintro b ⟨h1, h2⟩
          refine ⟨by omega, by omega, fun h4 => ?_⟩
          rcases hat2 with h5 | h5
          · rw [h5] at h4; have := (hul.out b h4).2; omega
          · rw [h5] at h4; simp at h4; omega
        · rintro b ⟨h1, h2⟩ hb
          rw [hgb b (by omega) (fun h => by have := (hul.out b h).2; omega)]
          exact ((Kp.refl [] w2).alloc _).block b hb (by simp)
      have hE4 : Hid (exsAtB (fun b => w.heap.size + 3 ≤ b ∧ b < (w3.setCell ⟨w.heap.size + 1 + 1, 5, none⟩ (.slice vq (k + 1) vc)).heap.size ∧ (Value.slice vq (k + 1) vc).ownBlock ≠ some b) (w3.setCell ⟨w.heap.size + 1 + 1, 5, none⟩ (.slice vq (k + 1) vc)) (foldL (es.take (k + 1))) (L ++ [exV y (.slice qy ly cy)])) :=
        exsAtB.move (fun b h => ⟨h.1, by simpa [World.setCell] using h.2.1, h.2.2⟩) (fun b h _ => Below.heap_setCell w3 _ _ b (by have := h.1; show ¬ b = w.heap.size + 1 + 1; omega)) _ _ hE3
      have hO4 : Hid ((w3.setCell ⟨w.heap.size + 1 + 1, 5, none⟩ (.slice vq (k + 1) vc)).ownsRow (w.heap.size + 3) 24 6 (.slice vq (k + 1) vc) (k + 1) (L ++ [exV y (.slice qy ly cy)]).flatten) := by
        show World.ownsRow _ _ _ _ _ _ _
        rw [flatten_snoc]
        exact row_set hown'.out _ (by omega) _ _
      have hB1 : Hid (Blk (w3.setCell ⟨w.heap.size + 1 + 1, 5, none⟩ (.slice vq (k + 1) vc)) w.heap.size 24 #[.int .i64 op, .int .i64 kind, .int .i64 num, .string s, .string f, .slice (some ⟨b, off, none⟩) len cap]) := Blk.other (show Blk w3 _ _ _ from (hlow3.out _ (by omega)).trans hBe.out) (by simp; omega) _
      have hB2 : Hid (Blk (w3.setCell ⟨w.heap.size + 1 + 1, 5, none⟩ (.slice vq (k + 1) vc)) (w.heap.size + 1) 24 #[.int .i64 0, .int .i64 0, .int .i64 0, .string ⟨#[]⟩, .string ⟨#[]⟩, .slice none 0 0]) := Blk.other (show Blk w3 _ _ _ from (hlow3.out _ (by omega)).trans hBr.out) (by simp) _
      have hB3 : Hid (Blk (w3.setCell ⟨w.heap.size + 1 + 1, 5, none⟩ (.slice vq (k + 1) vc)) (w.heap.size + 1 + 1) 24 #[.int .i64 op, .int .i64 kind, .int .i64 num, .string s, .string f, .slice vq (k + 1) vc]) := hBo3.out.set 5 _
      have hK3 : Hid (Kp [] w (w3.setCell ⟨w.heap.size + 1 + 1, 5, none⟩ (.slice vq (k + 1) vc))) := (hK2.out.grown hgrow.out (fun j hj => .inr (by have := (hul.out j hj).1; omega))).setCell (.inr (by show w.heap.size ≤ w.heap.size + 1 + 1; omega)) _
      have hs3 : Hid (w.heap.size + 3 ≤ (w3.setCell ⟨w.heap.size + 1 + 1, 5, none⟩ (.slice vq (k + 1) vc)).heap.size) := by show _ ≤ _; have h1 := hsz.out; have h2 := hsz2.out; simp [World.setCell]; omega
      clear hgrow hown' hat hg3 hat2 hE3
      go_roundw
      case rel => exact ⟨k + 1, L ++ [exV y (.slice qy ly cy)], _, by omega, by go_num, hB1, hB2, hB3, hO4, hE4, hK3, hs3⟩
      case measure => simp [intOf]; omega
    · obtain rfl : len = k := by omega
      have hfull := tk_all hlen.out
      have hE2 := hE.out
      rw [hfull] at hE2
      have hus := row_at (by rw [hlf.out]) hu.out hE2
      obtain ⟨qu, cu, rfl⟩ := own_slice hu.out
      clear hE2 hfull hE hu hel IH hv hlt b5 o5 hk
      rw [hl0] at hus hshp hLw hlf hfe
      have hout : Hid (∀ X, Kp [] wr X → Kp [] w X ∧ Blk X w.heap.size 24 #[.int .i64 op, .int .i64 kind, .int .i64 num, .string s, .string f, .slice q len cap] ∧ Blk X (w.heap.size + 1) 24 #[.int .i64 0, .int .i64 0, .int .i64 0, .string ⟨#[]⟩, .string ⟨#[]⟩, .slice none 0 0] ∧ Blk X (w.heap.size + 1 + 1) 24 #[.int .i64 op, .int .i64 kind, .int .i64 num, .string s, .string f, .slice qu len cu] ∧ exsSlB (fun b => w.heap.size + 3 ≤ b ∧ b < wr.heap.size) X (.slice qu len cu) [a, b] ∧ wr.heap.size ≤ X.heap.size) := fun X hX => ⟨hK.out.trans hX, hBe.out.kp hX (by simp), hBr.out.kp hX (by simp), hBo.out.kp hX (by simp), hus.move (fun b h => h) (fun b _ hb => hX.block b hb (by simp)), hX.size⟩
      have hend : Hid (∀ (X F : World) (u : Value) (es : List Ex), Kp [] w X → Kp [w.heap.size + 1] X F → wr.heap.size ≤ X.heap.size → exsSlB (fun b => w.heap.size + 3 ≤ b ∧ b < wr.heap.size) X u es → Kp [] w F ∧ exsSlB (Rg w F) F u es) := by
        intro X F u es h1 h2 h3 h4
        refine ⟨h1.trans' h2 (fun i hi hl => by simp at hi; omega), h4.move (fun b h => ⟨by omega, by have := h2.size; omega⟩) (fun b h hb => h2.block b hb (by simp; omega))⟩
      replace hus := Lib.hid hus
      clear hBe hBr hBo hsz hi hz0 hz1 hz2
      obtain ⟨b0, off, rfl, hget⟩ := hus.out.at_ (by simp)
      obtain ⟨qa, la, ca, hla, hua, hca⟩ := hget 0 (by simp)
      replace hca : ∀ j x, (exV a (.slice qa la ca))[j]? = some x → wr.cell? ⟨b0, off + (0 * 6 + j), none⟩ = some x := hca
      have av0 := hca 0 _ rfl
      have av1 := hca 1 _ rfl
      have av2 := hca 2 _ rfl
      have av3 := hca 3 _ rfl
      have av4 := hca 4 _ rfl
      have av5 := hca 5 _ rfl
      simp only [Nat.zero_mul, Nat.zero_add, Nat.add_zero, Nat.one_mul, Nat.reduceAdd] at av0 av1 av2 av3 av4 av5
      replace hua : exsSlB _ wr (.slice qa la ca) a.args := hua
      obtain ⟨qb, lb, cb, hlb, hub, hcb⟩ := hget 1 (by simp)
      replace hcb : ∀ j x, (exV b (.slice qb lb cb))[j]? = some x → wr.cell? ⟨b0, off + (1 * 6 + j), none⟩ = some x := hcb
      have bv0 := hcb 0 _ rfl
      have bv1 := hcb 1 _ rfl
      have bv2 := hcb 2 _ rfl
      have bv3 := hcb 3 _ rfl
      have bv4 := hcb 4 _ rfl
      have bv5 := hcb 5 _ rfl
      simp only [Nat.zero_mul, Nat.zero_add, Nat.add_zero, Nat.one_mul, Nat.reduceAdd] at bv0 bv1 bv2 bv3 bv4 bv5
      replace hub : exsSlB _ wr (.slice qb lb cb) b.args := hub
      clear hget
      have hln : Hid (2 = len) := hlf.out
      have hp0 : 0 < len := by have := hln.out; omega
      have hp1 : 1 < len := by have := hln.out; omega
      have n6 : ¬ op = 6 := by omega
      have m6 : (op == 6) = false := by simpa using n6
      have n7 : ¬ op = 7 := by omega
      have m7 : (op == 7) = false := by simpa using n7
      have n5 : ¬ op < 6 := by omega
      have n22 : ¬ 21 < op := by omega
      rw [ha1] at av0
      rw [hb1] at bv0
      have hdd := Lib.hid hd
      clear hd
      have hde := Lib.hid ((dec_two (op := op) (b := b) ha1).trans hdd.out)
      have hwa : a.well = true := wellL_in hLw.out (by simp)
      have hwb : b.well = true := wellL_in hLw.out (by simp)
      have haC := (shp_con (by rw [well_eq, Bool.and_eq_true] at hwa; exact hwa.1) ha1).1
      have hbC := (shp_con (by rw [well_eq, Bool.and_eq_true] at hwb; exact hwb.1) hb1).1
      have hk4 := (con_bd haC).2.2.2
      obtain ⟨K, hK2⟩ : ∃ K, kindRes op a.kind = K := ⟨_, rfl⟩
      have hK3 : K = 1 ∨ K = 2 ∨ K = 3 := by rw [← hK2]; unfold kindRes; split; exact hk4; split <;> simp
      have hK0 : (K == 0) = false := by simp; omega
      have hKn : ¬ K = 0 := by omega
      have hkb : Hid (∀ W : World, Calls Tryz.prog 21 #[.int .i64 op, .int .i64 a.kind, .int .i64 b.kind] W fun r w' => r = .returned (.int .i64 K) ∧ w' = W) := fun W => by rw [hkk]; exact (kbi_c op a.kind W h8 h21 hk4).mono fun r w' h => ⟨h.1.trans (ret_int (by rw [if_pos hok, hK2])), h.2⟩
      obtain ⟨V, hV⟩ : ∃ V, (biR op a.num b.num).1 = V := ⟨_, rfl⟩
      obtain ⟨F, hFq⟩ : ∃ F, (biR op a.num b.num).2 = F := ⟨_, rfl⟩
      have hrb : Hid (∀ W : World, Calls Tryz.prog 22 #[.int .i64 op, .int .i64 a.num, .int .i64 b.num] W fun r w' => r = .returned (.tuple #[.int .i64 V, .int .i64 F, .bool true]) ∧ w' = W) := fun W => by rw [← hV, ← hFq]; exact rbin_c op a.kind a.num b.num W h8 h21 hok haC (by rw [← hkk]; exact hbC)
      have hcn := Lib.hid (fun W => constant_c op kind num s f (some ⟨b0, off, none⟩) len cu K V W)
      rw [hFq] at hfl
      have hfb : (F != 0) = true := by simpa using hfl
      replace hkk := Lib.hid hkk
      replace hb1 := Lib.hid hb1
      replace hV := Lib.hid hV
      replace hFq := Lib.hid hFq
      replace hK2 := Lib.hid hK2
      clear hwa hwb haC hbC hk4 hK3
      replace ha1 := Lib.hid ha1
      have bw0 := ((Kp.refl [] wr).alloc (.cells #[.int .i64 1, .int .i64 a.kind, .int .i64 a.num, .string a.s, .string a.field, .slice qa la ca] 24)).cell bv0 (by simp)
      have bw1 := ((Kp.refl [] wr).alloc (.cells #[.int .i64 1, .int .i64 a.kind, .int .i64 a.num, .string a.s, .string a.field, .slice qa la ca] 24)).cell bv1 (by simp)
      have bw2 := ((Kp.refl [] wr).alloc (.cells #[.int .i64 1, .int .i64 a.kind, .int .i64 a.num, .string a.s, .string a.field, .slice qa la ca] 24)).cell bv2 (by simp)
      have bw3 := ((Kp.refl [] wr).alloc (.cells #[.int .i64 1, .int .i64 a.kind, .int .i64 a.num, .string a.s, .string a.field, .slice qa la ca] 24)).cell bv3 (by simp)
      have bw4 := ((Kp.refl [] wr).alloc (.cells #[.int .i64 1, .int .i64 a.kind, .int .i64 a.num, .string a.s, .string a.field, .slice qa la ca] 24)).cell bv4 (by simp)
      have bw5 := ((Kp.refl [] wr).alloc (.cells #[.int .i64 1, .int .i64 a.kind, .int .i64 a.num, .string a.s, .string a.field, .slice qa la ca] 24)).cell bv5 (by simp)
      have hA2 : Blk ((wr.alloc (.cells #[.int .i64 1, .int .i64 a.kind, .int .i64 a.num, .string a.s, .string a.field, .slice qa la ca] 24)).alloc (.cells #[.int .i64 1, .int .i64 b.kind, .int .i64 b.num, .string b.s, .string b.field, .slice qb lb cb] 24)) wr.heap.size 24 #[.int .i64 1, .int .i64 a.kind, .int .i64 a.num, .string a.s, .string a.field, .slice qa la ca] := (Blk.new wr _ _).alloc _
      have s0 := hA2.cell 0 (v := .int .i64 1) rfl
      have s1 := hA2.cell 1 (v := .int .i64 a.kind) rfl
      have s2 := hA2.cell 2 (v := .int .i64 a.num) rfl
      have s3 := hA2.cell 3 (v := .string a.s) rfl
      have s4 := hA2.cell 4 (v := .string a.field) rfl
      have s5 := hA2.cell 5 (v := .slice qa la ca) rfl
      replace hA2 := Lib.hid hA2
      clear bv0 bv1 bv2 bv3 bv4 bv5
      have hY := hout.out wr (Kp.refl [] wr)
      have e0x := hY.2.1.cell 0 (v := .int .i64 op) rfl
      have e5x := hY.2.1.cell 5 (v := .slice q len cap) rfl
      have o5x := hY.2.2.2.1.cell 5 (v := .slice (some ⟨b0, off, none⟩) len cu) rfl
      clear hY
      have hY := hout.out (wr.alloc (.cells #[.int .i64 1, .int .i64 a.kind, .int .i64 a.num, .string a.s, .string a.field, .slice qa la ca] 24)) ((Kp.refl [] wr).alloc (.cells #[.int .i64 1, .int .i64 a.kind, .int .i64 a.num, .string a.s, .string a.field, .slice qa la ca] 24))
      have e0y := hY.2.1.cell 0 (v := .int .i64 op) rfl
      have e5y := hY.2.1.cell 5 (v := .slice q len cap) rfl
      have o5y := hY.2.2.2.1.cell 5 (v := .slice (some ⟨b0, off, none⟩) len cu) rfl
      clear hY
      have hX := hout.out ((wr.alloc (.cells #[.int .i64 1, .int .i64 a.kind, .int .i64 a.num, .string a.s, .string a.field, .slice qa la ca] 24)).alloc (.cells #[.int .i64 1, .int .i64 b.kind, .int .i64 b.num, .string b.s, .string b.field, .slice qb lb cb] 24)) (((Kp.refl [] wr).alloc (.cells #[.int .i64 1, .int .i64 a.kind, .int .i64 a.num, .string a.s, .string a.field, .slice qa la ca] 24)).alloc (.cells #[.int .i64 1, .int .i64 b.kind, .int .i64 b.num, .string b.s, .string b.field, .slice qb lb cb] 24))
      obtain ⟨hXw, hXe, hXr, hXo, hXu, hXs⟩ := hX
      have f0 := hXr.frozen 0
      have f1 := hXr.frozen 1
      have f2 := hXr.frozen 2
      have f3 := hXr.frozen 3
      have f4 := hXr.frozen 4
      have f6 := hXr.frozen 5
      have g0 := hXr.cell 0 (v := .int .i64 0) rfl
      have g1 := hXr.cell 1 (v := .int .i64 0) rfl
      have g2 := hXr.cell 2 (v := .int .i64 0) rfl
      have g3 := hXr.cell 3 (v := .string ⟨#[]⟩) rfl
      have g4 := hXr.cell 4 (v := .string ⟨#[]⟩) rfl
      have g5 := hXr.cell 5 (v := .slice none 0 0) rfl
      have o0 := hXo.cell 0 (v := .int .i64 op) rfl
      have o1 := hXo.cell 1 (v := .int .i64 kind) rfl
      have o2 := hXo.cell 2 (v := .int .i64 num) rfl
      have o3 := hXo.cell 3 (v := .string s) rfl
      have o4 := hXo.cell 4 (v := .string f) rfl
      have o5 := hXo.cell 5 (v := .slice (some ⟨b0, off, none⟩) len cu) rfl
      have e0 := hXe.cell 0 (v := .int .i64 op) rfl
      have e1 := hXe.cell 1 (v := .int .i64 kind) rfl
      have e2 := hXe.cell 2 (v := .int .i64 num) rfl
      have e3 := hXe.cell 3 (v := .string s) rfl
      have e4 := hXe.cell 4 (v := .string f) rfl
      have e5 := hXe.cell 5 (v := .slice q len cap) rfl
      have hlt3 : w.heap.size + 1 < ((wr.alloc (.cells #[.int .i64 1, .int .i64 a.kind, .int .i64 a.num, .string a.s, .string a.field, .slice qa la ca] 24)).alloc (.cells #[.int .i64 1, .int .i64 b.kind, .int .i64 b.num, .string b.s, .string b.field, .slice qb lb cb] 24)).heap.size := hXr.lt
      obtain ⟨hZ, hKz⟩ := set6 hXr (.int .i64 op) (.int .i64 kind) (.int .i64 num) (.string s) (.string f) (.slice (some ⟨b0, off, none⟩) len cu)
      have z0 := hZ.cell 0 (v := .int .i64 op) rfl
      have z1 := hZ.cell 1 (v := .int .i64 kind) rfl
      have z2 := hZ.cell 2 (v := .int .i64 num) rfl
      have z3 := hZ.cell 3 (v := .string s) rfl
      have z4 := hZ.cell 4 (v := .string f) rfl
      have z5 := hZ.cell 5 (v := .slice (some ⟨b0, off, none⟩) len cu) rfl
      replace hZ := Lib.hid hZ
      replace hKz := Lib.hid hKz
      replace hXw := Lib.hid hXw
      replace hXe := Lib.hid hXe
      replace hXr := Lib.hid hXr
      replace hXo := Lib.hid hXo
      replace hXu := Lib.hid hXu
      replace hXs := Lib.hid hXs
      go_upto_region 18 with fail
      go_cut [102] (fun c wx => c = .bool false ∧ wx = (wr.alloc (.cells #[.int .i64 1, .int .i64 a.kind, .int .i64 a.num, .string a.s, .string a.field, .slice qa la ca] 24)))
      case first =>
        cases x10 : (op == 10)
        · have p10 : ¬ op = 10 := by simpa using x10
          cases x8 : (op == 8)
          · have p8 : ¬ op = 8 := by simpa using x8
            go_wp2_with fail
            go_meet
            case rel => exact ⟨congrArg Value.bool (Eq.trans (by simp [x10, x8]) hdd.out), rfl⟩
          · have pp : True := trivial
            cases y1 : (a.num == 1)
            · have p1 : ¬ a.num = 1 := by simpa using y1
              go_wp2_with fail
              go_meet
              case rel => exact ⟨congrArg Value.bool (Eq.trans (by simp [x10, x8, y1]) hdd.out), rfl⟩
            · have pp : True := trivial
              cases k1 : (a.kind == 1)
              · have pk : ¬ a.kind = 1 := by simpa using k1
                go_wp2_with fail
                go_meet
                case rel => exact ⟨congrArg Value.bool (Eq.trans (by simp [x10, x8, y1, k1]) hdd.out), rfl⟩
              · have pp : True := trivial
                go_wp2_with fail
                go_meet
                case rel => exact ⟨congrArg Value.bool (Eq.trans (by simp [x10, x8, y1, k1]) hdd.out), rfl⟩
        · have p10 : op = 10 := by simpa using x10
          have x8 : (op == 8) = false := by rw [p10]; rfl
          have p8 : ¬ op = 8 := by omega
          replace p10 := Lib.hid p10
          cases y0 : (a.num == 0)
          · have p0 : ¬ a.num = 0 := by simpa using y0
            go_wp2_with fail
            go_meet
            case rel => exact ⟨congrArg Value.bool (Eq.trans (by simp [x10, x8, y0]) hdd.out), rfl⟩
          · have pp : True := trivial
            cases k1 : (a.kind == 1)
            · have pk : ¬ a.kind = 1 := by simpa using k1
              go_wp2_with fail
              go_meet
              case rel => exact ⟨congrArg Value.bool (Eq.trans (by simp [x10, x8, y0, k1]) hdd.out), rfl⟩
            · have pp : True := trivial
              go_wp2_with fail
              go_meet
              case rel => exact ⟨congrArg Value.bool (Eq.trans (by simp [x10, x8, y0, k1]) hdd.out), rfl⟩
      case rest =>
        obtain ⟨rfl, rfl⟩ := hcut
        go_wp2_with (first | (go_at_call 21; refine (hkb.out _).mono ?_; rintro r w6 ⟨rfl, rfl⟩) | (go_at_call 22; refine (hrb.out _).mono ?_; rintro r w6 ⟨rfl, rfl⟩))
        refine bodyPost_ret (v := .agg #[.int .i64 op, .int .i64 kind, .int .i64 num, .string s, .string f, .slice (some ⟨b0, off, none⟩) len cu]) (by simp [results, Tryz.results9, go_sem, z0, z1, z2, z3, z4, z5]) rfl ?_
        have hF := hend.out _ _ _ [a, b] hXw.out hKz.out hXs.out hXu.out
        rw [show y = _ from hfe.out.trans (step_bi_no h8 hde.out (.inr (.inr (.inr (.inr (.inl (by rw [hFq.out]; exact hfl)))))))]
        exact ⟨_, rfl, hF.1, hF.2⟩

set_option maxRecDepth 100000 in
set_option maxHeartbeats 4000000 in
theorem rf_b_neg (op kind num : Int) (s f : ByteArray) (es : List Ex) (a b : Ex) (h8 : 8 ≤ op) (h21 : op ≤ 21) (hl0 : foldL es = [a, b]) (ha1 : a.op = 1) (hd : (((op == 10 && a.num == 0) || (op == 8 && a.num == 1)) && a.kind == 1) = false) (hb1 : b.op = 1) (hkk : b.kind = a.kind) (hok : kindOk op a.kind = true) (hfl : (biR op a.num b.num).2 = 0) (hneg : (biR op a.num b.num).1 < 0) (IH : ∀ i (hi : i < es.length), RFoldC es[i]) : RFoldC (.mk op kind num s f es) := by
  intro w v hv hw hcnt
  obtain ⟨q, cap, rfl⟩ := hv.val
  rw [well_eq, Bool.and_eq_true] at hw
  have hc1 : cntL es < (Ex.mk op kind num s f es).cnt := cnt_args (.mk op kind num s f es)
  have hl5 : es.length ≤ 500 := by have := len_cntL es; omega
  have hel : Hid (∀ i (hi : i < es.length), es[i].well = true ∧ es[i].cnt ≤ 500) := fun i hi => ⟨wellL_in hw.2 (List.getElem_mem hi), by have := cnt_mem hi; omega⟩
  have hshp : shpB (.mk op kind num s f (foldL es)) = true := by rw [shp_len _ _ _ _ _ (foldL_len es)]; exact hw.1
  have hLw : Hid (wellL (foldL es) = true) := foldL_well es hw.2
  have hlf : (foldL es).length = es.length := foldL_len es
  have hfe : foldE (.mk op kind num s f es) = stepE (.mk op kind num s f (foldL es)) := foldE_eq _
  replace IH := Lib.hid IH
  obtain ⟨i0, hi, hz0, hz1, hz2⟩ := info_parts infoEx
  replace hv : exsSl w (.slice q es.length cap) es := hv
  show Calls Tryz.prog 9 #[.agg #[.int .i64 op, .int .i64 kind, .int .i64 num, .string s, .string f, .slice q es.length cap]] w _
  obtain ⟨y, hy⟩ : ∃ y, foldE (.mk op kind num s f es) = y := ⟨_, rfl⟩
  rw [hy] at hfe ⊢
  obtain ⟨len, hlen⟩ : ∃ len, es.length = len := ⟨_, rfl⟩
  rw [hlen] at hv hl5 hlf ⊢
  replace hlen := Lib.hid hlen
  replace hfe := Lib.hid hfe
  replace hshp := Lib.hid hshp
  replace hlf := Lib.hid hlf
  replace hv := Lib.hid hv
  clear hw
  clear hc1 hcnt hy
  go_enter Tryz.func9, Tryz.ntmps9
  go_wp2_with fail
  go_loopw [4] (fun i wr => ∃ (k : Nat) (L : List (List Value)) (u : Value), k ≤ len ∧ i = .int .i64 k ∧
      Hid (Blk wr w.heap.size 24 #[.int .i64 op, .int .i64 kind, .int .i64 num, .string s, .string f, .slice q len cap]) ∧
      Hid (Blk wr (w.heap.size + 1) 24 #[.int .i64 0, .int .i64 0, .int .i64 0, .string ⟨#[]⟩, .string ⟨#[]⟩, .slice none 0 0]) ∧
      Hid (Blk wr (w.heap.size + 1 + 1) 24 #[.int .i64 op, .int .i64 kind, .int .i64 num, .string s, .string f, u]) ∧
      Hid (wr.ownsRow (w.heap.size + 3) 24 6 u k L.flatten) ∧
      Hid (exsAtB (fun b => w.heap.size + 3 ≤ b ∧ b < wr.heap.size ∧ u.ownBlock ≠ some b) wr (foldL (es.take k)) L) ∧ Hid (Kp [] w wr) ∧ Hid (w.heap.size + 3 ≤ wr.heap.size)) (fun i _ => len - (intOf i).toNat)
  case atStart => exact ⟨0, [], .slice none 0 0, Nat.zero_le _, rfl, ((Blk.new _ _ _).alloc _).alloc _, (blk_new (by simp) _ _).alloc _, blk_new (by simp) _ _, World.ownsRow_nil _ _ _ _, (by show exsAtB _ _ (foldL []) []; rw [foldL, exsAtB]), (((Kp.refl [] w).alloc _).alloc _).alloc _, (by show _ ≤ _; simp)⟩
  case round =>
    obtain ⟨k, L, u, hk, rfl, hBe, hBr, hBo, hu, hE, hK, hsz⟩ := hrel
    have b5 := hBe.out.cell 5 (v := .slice q len cap) rfl
    have o5 := hBo.out.cell 5 (v := u) rfl
    by_cases hlt : k < len
    · have hlt2 : k < es.length := by rw [hlen.out]; exact hlt
      obtain ⟨b, off, ux, rfl, hux, c0, c1, c2, c3, c4, c5⟩ := hv.out.at_in hK.out k hlt2
      have hcall := IH.out k hlt2
      have hts := Lib.hid (foldL_take_succ hlt2)
      have hwe := Lib.hid (hel.out k hlt2)
      obtain ⟨x, hx⟩ : ∃ x, es[k] = x := ⟨_, rfl⟩
      rw [hx] at c0 c1 c2 c3 c4 hcall hts hwe hux
      clear hx
      obtain ⟨qu, cu, rfl⟩ := hux.val
      have hfold := Lib.hid (hcall wr _ (hux.kp hK.out) hwe.out.1 hwe.out.2)
      clear hcall
      obtain ⟨lu, hlu⟩ : ∃ lu, x.args.length = lu := ⟨_, rfl⟩
      unfold exVal at hfold
      rw [hlu] at c5 hfold
      clear hlu hux
      obtain ⟨y, hy⟩ : ∃ y, foldE x = y := ⟨_, rfl⟩
      rw [hy] at hfold hts
      clear hy hwe
      have hul : Hid (∀ g, u.ownBlock = some g → w.heap.size + 3 ≤ g ∧ g < wr.heap.size) := fun g hg => hu.out.lt g hg
      go_wp2_with fail
      refine hfold.out.mono ?_
      rintro r w2 ⟨u1, rfl, hk2, hy⟩
      obtain ⟨qy, cy, rfl⟩ := hy.drop.val
      unfold exVal
      obtain ⟨ly, hly⟩ : ∃ ly, y.args.length = ly := ⟨_, rfl⟩
      rw [hly] at hy ⊢
      clear hly
      have hsz1 : wr.heap.size ≤ w2.heap.size := hk2.size
      have hU2 := Lib.hid ((row_kp hu.out hk2).alloc (.cells #[.int .i64 y.op, .int .i64 y.kind, .int .i64 y.num, .string y.s, .string y.field, .slice qy ly cy] 24))
      have hK2 := Lib.hid ((hK.out.trans hk2).alloc (.cells #[.int .i64 y.op, .int .i64 y.kind, .int .i64 y.num, .string y.s, .string y.field, .slice qy ly cy] 24))
      have hbs : Hid (w.heap.size + 3 ≤ (w2.alloc (.cells #[.int .i64 y.op, .int .i64 y.kind, .int .i64 y.num, .string y.s, .string y.field, .slice qy ly cy] 24)).heap.size) := by show _ ≤ _; rw [World.size_alloc]; have := hsz.out; omega
      have hnew := Lib.hid (ex_cells w2 y.op y.kind y.num y.s y.field (.slice qy ly cy))
      have hone := Lib.hid (ex_one y.op y.kind y.num y.s y.field qy ly cy)
      have hkeep : Hid (∀ b, b < wr.heap.size → (w2.alloc (.cells #[.int .i64 y.op, .int .i64 y.kind, .int .i64 y.num, .string y.s, .string y.field, .slice qy ly cy] 24)).heap[b]? = wr.heap[b]?) := fun b hb => by
        have h1 := hk2.alloc (.cells #[.int .i64 y.op, .int .i64 y.kind, .int .i64 y.num, .string y.s, .string y.field, .slice qy ly cy] 24)
        exact h1.block b hb (by simp)
      have hy2 := Lib.hid hy
      have hsz2 := Lib.hid hsz1
      replace hk2 := Lib.hid hk2
      clear hy hsz1
      go_wp2_with (at_builtin; refine wpList_append_own_at _ rfl (.tmp 25) (.tmp 32) 22 rfl (w.heap.size + 3) 24 i0 _ 6 80 Tryz.underlying22 hi hz0 hz1 hz2 rfl (by decide) _ k _ rfl hU2.out ⟨w2.heap.size, 0, none⟩ 1 1 [.int .i64 y.op, .int .i64 y.kind, .int .i64 y.num, .string y.s, .string y.field, .slice qy ly cy] rfl rfl hnew.out hone.out (by unfold maxLen; omega) (by omega) hbs.out ?_; intro v' w3 hown' hgrow _ hat; obtain ⟨vq, vc, rfl⟩ := own_slice hown'; have hlow : ∀ b, b < wr.heap.size → u.ownBlock ≠ some b → w3.heap[b]? = wr.heap[b]? := (fun b hb h => (hgrow.block b (by rw [World.size_alloc]; have := hsz2.out; omega) (fun h4 => h h4.symm)).trans (hkeep.out b hb)); have hlow3 : ∀ b, b < w.heap.size + 3 → w3.heap[b]? = wr.heap[b]? := (fun b hb => hlow b (by have := hsz.out; omega) (fun h4 => by have := (hul.out b h4).1; omega)); have hBo3 : Blk w3 (w.heap.size + 1 + 1) 24 #[.int .i64 op, .int .i64 kind, .int .i64 num, .string s, .string f, u] := (hlow3 _ (by omega)).trans hBo.out; have f5 := hBo3.frozen 5; have d5 := hBo3.cell 5 (v := u) rfl; replace hlow := Lib.hid hlow; replace hlow3 := Lib.hid hlow3; replace hBo3 := Lib.hid hBo3; replace hgrow := Lib.hid hgrow; replace hown' := Lib.hid hown'; replace hat := Lib.hid hat)
      have hg3 : (w2.alloc (.cells #[.int .i64 y.op, .int .i64 y.kind, .int .i64 y.num, .string y.s, .string y.field, .slice qy ly cy] 24)).heap.size ≤ w3.heap.size := hgrow.out.size
      rw [World.size_alloc] at hg3
      have hat2 : (Value.slice vq (k + 1) vc).ownBlock = u.ownBlock ∨ (Value.slice vq (k + 1) vc).ownBlock = some (w2.heap.size + 1) := by
        have := hat.out
        rw [World.size_alloc] at this
        exact this
      have hgb : ∀ b, b < w2.heap.size + 1 → u.ownBlock ≠ some b → w3.heap[b]? = (w2.alloc (.cells #[.int .i64 y.op, .int .i64 y.kind, .int .i64 y.num, .string y.s, .string y.field, .slice qy ly cy] 24)).heap[b]? := fun b hb h => hgrow.out.block b (by rw [World.size_alloc]; exact hb) (fun h4 => h h4.symm)
      have hE3 : exsAtB (fun b => w.heap.size + 3 ≤ b ∧ b < w3.heap.size ∧ (Value.slice vq (k + 1) vc).ownBlock ≠ some b) w3 (foldL (es.take (k + 1))) (L ++ [exV y (.slice qy ly cy)]) := by
        rw [hts.out]
        have hsz1 := hsz2.out
        have hsz0 := hsz.out
        refine exsAtB.snoc (exsAtB.move ?_ ?_ _ L hE.out) (exAtB_mk (hy2.out.move ?_ ?_))
        · rintro b ⟨h1, h2, h3⟩
          refine ⟨h1, by omega, fun h4 => ?_⟩
          rcases hat2 with h5 | h5
          · exact h3 (h5 ▸ h4)
          · rw [h5] at h4; simp at h4; omega
        · rintro b ⟨h1, h2, h3⟩ hb
          exact hlow.out b h2 h3
        · rintro b ⟨h1, h2⟩
          refine ⟨by omega, by omega, fun h4 => ?_⟩
          rcases hat2 with h5 | h5
          · rw [h5] at h4; have := (hul.out b h4).2; omega
          · rw [h5] at h4; simp at h4; omega
        · rintro b ⟨h1, h2⟩ hb
          rw [hgb b (by omega) (fun h => by have := (hul.out b h).2; omega)]
          exact ((Kp.refl [] w2).alloc _).block b hb (by simp)
      have hE4 : Hid (exsAtB (fun b => w.heap.size + 3 ≤ b ∧ b < (w3.setCell ⟨w.heap.size + 1 + 1, 5, none⟩ (.slice vq (k + 1) vc)).heap.size ∧ (Value.slice vq (k + 1) vc).ownBlock ≠ some b) (w3.setCell ⟨w.heap.size + 1 + 1, 5, none⟩ (.slice vq (k + 1) vc)) (foldL (es.take (k + 1))) (L ++ [exV y (.slice qy ly cy)])) :=
        exsAtB.move (fun b h => ⟨h.1, by simpa [World.setCell] using h.2.1, h.2.2⟩) (fun b h _ => Below.heap_setCell w3 _ _ b (by have := h.1; show ¬ b = w.heap.size + 1 + 1; omega)) _ _ hE3
      have hO4 : Hid ((w3.setCell ⟨w.heap.size + 1 + 1, 5, none⟩ (.slice vq (k + 1) vc)).ownsRow (w.heap.size + 3) 24 6 (.slice vq (k + 1) vc) (k + 1) (L ++ [exV y (.slice qy ly cy)]).flatten) := by
        show World.ownsRow _ _ _ _ _ _ _
        rw [flatten_snoc]
        exact row_set hown'.out _ (by omega) _ _
      have hB1 : Hid (Blk (w3.setCell ⟨w.heap.size + 1 + 1, 5, none⟩ (.slice vq (k + 1) vc)) w.heap.size 24 #[.int .i64 op, .int .i64 kind, .int .i64 num, .string s, .string f, .slice (some ⟨b, off, none⟩) len cap]) := Blk.other (show Blk w3 _ _ _ from (hlow3.out _ (by omega)).trans hBe.out) (by simp; omega) _
      have hB2 : Hid (Blk (w3.setCell ⟨w.heap.size + 1 + 1, 5, none⟩ (.slice vq (k + 1) vc)) (w.heap.size + 1) 24 #[.int .i64 0, .int .i64 0, .int .i64 0, .string ⟨#[]⟩, .string ⟨#[]⟩, .slice none 0 0]) := Blk.other (show Blk w3 _ _ _ from (hlow3.out _ (by omega)).trans hBr.out) (by simp) _
      have hB3 : Hid (Blk (w3.setCell ⟨w.heap.size + 1 + 1, 5, none⟩ (.slice vq (k + 1) vc)) (w.heap.size + 1 + 1) 24 #[.int .i64 op, .int .i64 kind, .int .i64 num, .string s, .string f, .slice vq (k + 1) vc]) := hBo3.out.set 5 _
      have hK3 : Hid (Kp [] w (w3.setCell ⟨w.heap.size + 1 + 1, 5, none⟩ (.slice vq (k + 1) vc))) := (hK2.out.grown hgrow.out (fun j hj => .inr (by have := (hul.out j hj).1; omega))).setCell (.inr (by show w.heap.size ≤ w.heap.size + 1 + 1; omega)) _
      have hs3 : Hid (w.heap.size + 3 ≤ (w3.setCell ⟨w.heap.size + 1 + 1, 5, none⟩ (.slice vq (k + 1) vc)).heap.size) := by show _ ≤ _; have h1 := hsz.out; have h2 := hsz2.out; simp [World.setCell]; omega
      clear hgrow hown' hat hg3 hat2 hE3
      go_roundw
      case rel => exact ⟨k + 1, L ++ [exV y (.slice qy ly cy)], _, by omega, by go_num, hB1, hB2, hB3, hO4, hE4, hK3, hs3⟩
      case measure => simp [intOf]; omega
    · obtain rfl : len = k := by omega
      have hfull := tk_all hlen.out
      have hE2 := hE.out
      rw [hfull] at hE2
      have hus := row_at (by rw [hlf.out]) hu.out hE2
      obtain ⟨qu, cu, rfl⟩ := own_slice hu.out
      clear hE2 hfull hE hu hel IH hv hlt b5 o5 hk
      rw [hl0] at hus hshp hLw hlf hfe
      have hout : Hid (∀ X, Kp [] wr X → Kp [] w X ∧ Blk X w.heap.size 24 #[.int .i64 op, .int .i64 kind, .int .i64 num, .string s, .string f, .slice q len cap] ∧ Blk X (w.heap.size + 1) 24 #[.int .i64 0, .int .i64 0, .int .i64 0, .string ⟨#[]⟩, .string ⟨#[]⟩, .slice none 0 0] ∧ Blk X (w.heap.size + 1 + 1) 24 #[.int .i64 op, .int .i64 kind, .int .i64 num, .string s, .string f, .slice qu len cu] ∧ exsSlB (fun b => w.heap.size + 3 ≤ b ∧ b < wr.heap.size) X (.slice qu len cu) [a, b] ∧ wr.heap.size ≤ X.heap.size) := fun X hX => ⟨hK.out.trans hX, hBe.out.kp hX (by simp), hBr.out.kp hX (by simp), hBo.out.kp hX (by simp), hus.move (fun b h => h) (fun b _ hb => hX.block b hb (by simp)), hX.size⟩
      have hend : Hid (∀ (X F : World) (u : Value) (es : List Ex), Kp [] w X → Kp [w.heap.size + 1] X F → wr.heap.size ≤ X.heap.size → exsSlB (fun b => w.heap.size + 3 ≤ b ∧ b < wr.heap.size) X u es → Kp [] w F ∧ exsSlB (Rg w F) F u es) := by
        intro X F u es h1 h2 h3 h4
        refine ⟨h1.trans' h2 (fun i hi hl => by simp at hi; omega), h4.move (fun b h => ⟨by omega, by have := h2.size; omega⟩) (fun b h hb => h2.block b hb (by simp; omega))⟩
      replace hus := Lib.hid hus
      clear hBe hBr hBo hsz hi hz0 hz1 hz2
      obtain ⟨b0, off, rfl, hget⟩ := hus.out.at_ (by simp)
      obtain ⟨qa, la, ca, hla, hua, hca⟩ := hget 0 (by simp)
      replace hca : ∀ j x, (exV a (.slice qa la ca))[j]? = some x → wr.cell? ⟨b0, off + (0 * 6 + j), none⟩ = some x := hca
      have av0 := hca 0 _ rfl
      have av1 := hca 1 _ rfl
      have av2 := hca 2 _ rfl
      have av3 := hca 3 _ rfl
      have av4 := hca 4 _ rfl
      have av5 := hca 5 _ rfl
      simp only [Nat.zero_mul, Nat.zero_add, Nat.add_zero, Nat.one_mul, Nat.reduceAdd] at av0 av1 av2 av3 av4 av5
      replace hua : exsSlB _ wr (.slice qa la ca) a.args := hua
      obtain ⟨qb, lb, cb, hlb, hub, hcb⟩ := hget 1 (by simp)
      replace hcb : ∀ j x, (exV b (.slice qb lb cb))[j]? = some x → wr.cell? ⟨b0, off + (1 * 6 + j), none⟩ = some x := hcb
      have bv0 := hcb 0 _ rfl
      have bv1 := hcb 1 _ rfl
      have bv2 := hcb 2 _ rfl
      have bv3 := hcb 3 _ rfl
      have bv4 := hcb 4 _ rfl
      have bv5 := hcb 5 _ rfl
      simp only [Nat.zero_mul, Nat.zero_add, Nat.add_zero, Nat.one_mul, Nat.reduceAdd] at bv0 bv1 bv2 bv3 bv4 bv5
      replace hub : exsSlB _ wr (.slice qb lb cb) b.args := hub
      clear hget
      have hln : Hid (2 = len) := hlf.out
      have hp0 : 0 < len := by have := hln.out; omega
      have hp1 : 1 < len := by have := hln.out; omega
      have n6 : ¬ op = 6 := by omega
      have m6 : (op == 6) = false := by simpa using n6
      have n7 : ¬ op = 7 := by omega
      have m7 : (op == 7) = false := by simpa using n7
      have n5 : ¬ op < 6 := by omega
      have n22 : ¬ 21 < op := by omega
      rw [ha1] at av0
      rw [hb1] at bv0
      have hdd := Lib.hid hd
      clear hd
      have hde := Lib.hid ((dec_two (op := op) (b := b) ha1).trans hdd.out)
      have hwa : a.well = true := wellL_in hLw.out (by simp)
      have hwb : b.well = true := wellL_in hLw.out (by simp)
      have haC := (shp_con (by rw [well_eq, Bool.and_eq_true] at hwa; exact hwa.1) ha1).1
      have hbC := (shp_con (by rw [well_eq, Bool.and_eq_true] at hwb; exact hwb.1) hb1).1
      have hk4 := (con_bd haC).2.2.2
      obtain ⟨K, hK2⟩ : ∃ K, kindRes op a.kind = K := ⟨_, rfl⟩
      have hK3 : K = 1 ∨ K = 2 ∨ K = 3 := by rw [← hK2]; unfold kindRes; split; exact hk4; split <;> simp
      have hK0 : (K == 0) = false := by simp; omega
      have hKn : ¬ K = 0 := by omega
      have hkb : Hid (∀ W : World, Calls Tryz.prog 21 #[.int .i64 op, .int .i64 a.kind, .int .i64 b.kind] W fun r w' => r = .returned (.int .i64 K) ∧ w' = W) := fun W => by rw [hkk]; exact (kbi_c op a.kind W h8 h21 hk4).mono fun r w' h => ⟨h.1.trans (ret_int (by rw [if_pos hok, hK2])), h.2⟩
      obtain ⟨V, hV⟩ : ∃ V, (biR op a.num b.num).1 = V := ⟨_, rfl⟩
      obtain ⟨F, hFq⟩ : ∃ F, (biR op a.num b.num).2 = F := ⟨_, rfl⟩
      have hrb : Hid (∀ W : World, Calls Tryz.prog 22 #[.int .i64 op, .int .i64 a.num, .int .i64 b.num] W fun r w' => r = .returned (.tuple #[.int .i64 V, .int .i64 F, .bool true]) ∧ w' = W) := fun W => by rw [← hV, ← hFq]; exact rbin_c op a.kind a.num b.num W h8 h21 hok haC (by rw [← hkk]; exact hbC)
      have hcn := Lib.hid (fun W => constant_c op kind num s f (some ⟨b0, off, none⟩) len cu K V W)
      rw [hFq] at hfl
      subst hfl
      rw [hV] at hneg
      replace hkk := Lib.hid hkk
      replace hb1 := Lib.hid hb1
      replace hV := Lib.hid hV
      replace hFq := Lib.hid hFq
      replace hK2 := Lib.hid hK2
      clear hwa hwb haC hbC hk4 hK3
      replace ha1 := Lib.hid ha1
      have bw0 := ((Kp.refl [] wr).alloc (.cells #[.int .i64 1, .int .i64 a.kind, .int .i64 a.num, .string a.s, .string a.field, .slice qa la ca] 24)).cell bv0 (by simp)
      have bw1 := ((Kp.refl [] wr).alloc (.cells #[.int .i64 1, .int .i64 a.kind, .int .i64 a.num, .string a.s, .string a.field, .slice qa la ca] 24)).cell bv1 (by simp)
      have bw2 := ((Kp.refl [] wr).alloc (.cells #[.int .i64 1, .int .i64 a.kind, .int .i64 a.num, .string a.s, .string a.field, .slice qa la ca] 24)).cell bv2 (by simp)
      have bw3 := ((Kp.refl [] wr).alloc (.cells #[.int .i64 1, .int .i64 a.kind, .int .i64 a.num, .string a.s, .string a.field, .slice qa la ca] 24)).cell bv3 (by simp)
      have bw4 := ((Kp.refl [] wr).alloc (.cells #[.int .i64 1, .int .i64 a.kind, .int .i64 a.num, .string a.s, .string a.field, .slice qa la ca] 24)).cell bv4 (by simp)
      have bw5 := ((Kp.refl [] wr).alloc (.cells #[.int .i64 1, .int .i64 a.kind, .int .i64 a.num, .string a.s, .string a.field, .slice qa la ca] 24)).cell bv5 (by simp)
      have hA2 : Blk ((wr.alloc (.cells #[.int .i64 1, .int .i64 a.kind, .int .i64 a.num, .string a.s, .string a.field, .slice qa la ca] 24)).alloc (.cells #[.int .i64 1, .int .i64 b.kind, .int .i64 b.num, .string b.s, .string b.field, .slice qb lb cb] 24)) wr.heap.size 24 #[.int .i64 1, .int .i64 a.kind, .int .i64 a.num, .string a.s, .string a.field, .slice qa la ca] := (Blk.new wr _ _).alloc _
      have s0 := hA2.cell 0 (v := .int .i64 1) rfl
      have s1 := hA2.cell 1 (v := .int .i64 a.kind) rfl
      have s2 := hA2.cell 2 (v := .int .i64 a.num) rfl
      have s3 := hA2.cell 3 (v := .string a.s) rfl
      have s4 := hA2.cell 4 (v := .string a.field) rfl
      have s5 := hA2.cell 5 (v := .slice qa la ca) rfl
      replace hA2 := Lib.hid hA2
      clear bv0 bv1 bv2 bv3 bv4 bv5
      have hY := hout.out wr (Kp.refl [] wr)
      have e0x := hY.2.1.cell 0 (v := .int .i64 op) rfl
      have e5x := hY.2.1.cell 5 (v := .slice q len cap) rfl
      have o5x := hY.2.2.2.1.cell 5 (v := .slice (some ⟨b0, off, none⟩) len cu) rfl
      clear hY
      have hY := hout.out (wr.alloc (.cells #[.int .i64 1, .int .i64 a.kind, .int .i64 a.num, .string a.s, .string a.field, .slice qa la ca] 24)) ((Kp.refl [] wr).alloc (.cells #[.int .i64 1, .int .i64 a.kind, .int .i64 a.num, .string a.s, .string a.field, .slice qa la ca] 24))
      have e0y := hY.2.1.cell 0 (v := .int .i64 op) rfl
      have e5y := hY.2.1.cell 5 (v := .slice q len cap) rfl
      have o5y := hY.2.2.2.1.cell 5 (v := .slice (some ⟨b0, off, none⟩) len cu) rfl
      clear hY
      have hX := hout.out ((wr.alloc (.cells #[.int .i64 1, .int .i64 a.kind, .int .i64 a.num, .string a.s, .string a.field, .slice qa la ca] 24)).alloc (.cells #[.int .i64 1, .int .i64 b.kind, .int .i64 b.num, .string b.s, .string b.field, .slice qb lb cb] 24)) (((Kp.refl [] wr).alloc (.cells #[.int .i64 1, .int .i64 a.kind, .int .i64 a.num, .string a.s, .string a.field, .slice qa la ca] 24)).alloc (.cells #[.int .i64 1, .int .i64 b.kind, .int .i64 b.num, .string b.s, .string b.field, .slice qb lb cb] 24))
      obtain ⟨hXw, hXe, hXr, hXo, hXu, hXs⟩ := hX
      have f0 := hXr.frozen 0
      have f1 := hXr.frozen 1
      have f2 := hXr.frozen 2
      have f3 := hXr.frozen 3
      have f4 := hXr.frozen 4
      have f6 := hXr.frozen 5
      have g0 := hXr.cell 0 (v := .int .i64 0) rfl
      have g1 := hXr.cell 1 (v := .int .i64 0) rfl
      have g2 := hXr.cell 2 (v := .int .i64 0) rfl
      have g3 := hXr.cell 3 (v := .string ⟨#[]⟩) rfl
      have g4 := hXr.cell 4 (v := .string ⟨#[]⟩) rfl
      have g5 := hXr.cell 5 (v := .slice none 0 0) rfl
      have o0 := hXo.cell 0 (v := .int .i64 op) rfl
      have o1 := hXo.cell 1 (v := .int .i64 kind) rfl
      have o2 := hXo.cell 2 (v := .int .i64 num) rfl
      have o3 := hXo.cell 3 (v := .string s) rfl
      have o4 := hXo.cell 4 (v := .string f) rfl
      have o5 := hXo.cell 5 (v := .slice (some ⟨b0, off, none⟩) len cu) rfl
      have e0 := hXe.cell 0 (v := .int .i64 op) rfl
      have e1 := hXe.cell 1 (v := .int .i64 kind) rfl
      have e2 := hXe.cell 2 (v := .int .i64 num) rfl
      have e3 := hXe.cell 3 (v := .string s) rfl
      have e4 := hXe.cell 4 (v := .string f) rfl
      have e5 := hXe.cell 5 (v := .slice q len cap) rfl
      have hlt3 : w.heap.size + 1 < ((wr.alloc (.cells #[.int .i64 1, .int .i64 a.kind, .int .i64 a.num, .string a.s, .string a.field, .slice qa la ca] 24)).alloc (.cells #[.int .i64 1, .int .i64 b.kind, .int .i64 b.num, .string b.s, .string b.field, .slice qb lb cb] 24)).heap.size := hXr.lt
      obtain ⟨hZ, hKz⟩ := set6 hXr (.int .i64 op) (.int .i64 kind) (.int .i64 num) (.string s) (.string f) (.slice (some ⟨b0, off, none⟩) len cu)
      have z0 := hZ.cell 0 (v := .int .i64 op) rfl
      have z1 := hZ.cell 1 (v := .int .i64 kind) rfl
      have z2 := hZ.cell 2 (v := .int .i64 num) rfl
      have z3 := hZ.cell 3 (v := .string s) rfl
      have z4 := hZ.cell 4 (v := .string f) rfl
      have z5 := hZ.cell 5 (v := .slice (some ⟨b0, off, none⟩) len cu) rfl
      replace hZ := Lib.hid hZ
      replace hKz := Lib.hid hKz
      replace hXw := Lib.hid hXw
      replace hXe := Lib.hid hXe
      replace hXr := Lib.hid hXr
      replace hXo := Lib.hid hXo
      replace hXu := Lib.hid hXu
      replace hXs := Lib.hid hXs
      go_upto_region 18 with fail
      go_cut [102] (fun c wx => c = .bool false ∧ wx = (wr.alloc (.cells #[.int .i64 1, .int .i64 a.kind, .int .i64 a.num, .string a.s, .string a.field, .slice qa la ca] 24)))
      case first =>
        cases x10 : (op == 10)
        · have p10 : ¬ op = 10 := by simpa using x10
          cases x8 : (op == 8)
          · have p8 : ¬ op = 8 := by simpa using x8
            go_wp2_with fail
            go_meet
            case rel => exact ⟨congrArg Value.bool (Eq.trans (by simp [x10, x8]) hdd.out), rfl⟩
          · have pp : True := trivial
            cases y1 : (a.num == 1)
            · have p1 : ¬ a.num = 1 := by simpa using y1
              go_wp2_with fail
              go_meet
              case rel => exact ⟨congrArg Value.bool (Eq.trans (by simp [x10, x8, y1]) hdd.out), rfl⟩
            · have pp : True := trivial
              cases k1 : (a.kind == 1)
              · have pk : ¬ a.kind = 1 := by simpa using k1
                go_wp2_with fail
                go_meet
                case rel => exact ⟨congrArg Value.bool (Eq.trans (by simp [x10, x8, y1, k1]) hdd.out), rfl⟩
              · have pp : True := trivial
                go_wp2_with fail
                go_meet
                case rel => exact ⟨congrArg Value.bool (Eq.trans (by simp [x10, x8, y1, k1]) hdd.out), rfl⟩
        · have p10 : op = 10 := by simpa using x10
          have x8 : (op == 8) = false := by rw [p10]; rfl
          have p8 : ¬ op = 8 := by omega
          replace p10 := Lib.hid p10
          cases y0 : (a.num == 0)
          · have p0 : ¬ a.num = 0 := by simpa using y0
            go_wp2_with fail
            go_meet
            case rel => exact ⟨congrArg Value.bool (Eq.trans (by simp [x10, x8, y0]) hdd.out), rfl⟩
          · have pp : True := trivial
            cases k1 : (a.kind == 1)
            · have pk : ¬ a.kind = 1 := by simpa using k1
              go_wp2_with fail
              go_meet
              case rel => exact ⟨congrArg Value.bool (Eq.trans (by simp [x10, x8, y0, k1]) hdd.out), rfl⟩
            · have pp : True := trivial
              go_wp2_with fail
              go_meet
              case rel => exact ⟨congrArg Value.bool (Eq.trans (by simp [x10, x8, y0, k1]) hdd.out), rfl⟩
      case rest =>
        obtain ⟨rfl, rfl⟩ := hcut
        go_wp2_with (first | (go_at_call 21; refine (hkb.out _).mono ?_; rintro r w6 ⟨rfl, rfl⟩) | (go_at_call 22; refine (hrb.out _).mono ?_; rintro r w6 ⟨rfl, rfl⟩) | (go_at_call 20; refine (hcn.out _).mono ?_; rintro r w6 ⟨rfl, hk6⟩; rw [if_pos (by omega)]; have hk7 := ((((Kp.refl [] wr).alloc (.cells #[.int .i64 1, .int .i64 a.kind, .int .i64 a.num, .string a.s, .string a.field, .slice qa la ca] 24)).alloc (.cells #[.int .i64 1, .int .i64 b.kind, .int .i64 b.num, .string b.s, .string b.field, .slice qb lb cb] 24))).trans hk6; clear hXw hXe hXr hXo hXu hXs f0 f1 f2 f3 f4 f6 g0 g1 g2 g3 g4 g5 o0 o1 o2 o3 o4 o5 e0 e1 e2 e3 e4 e5 hlt3 hZ hKz z0 z1 z2 z3 z4 z5; have hX := hout.out w6 hk7; obtain ⟨hXw, hXe, hXr, hXo, hXu, hXs⟩ := hX; have f0 := hXr.frozen 0; have f1 := hXr.frozen 1; have f2 := hXr.frozen 2; have f3 := hXr.frozen 3; have f4 := hXr.frozen 4; have f6 := hXr.frozen 5; have g0 := hXr.cell 0 (v := .int .i64 0) rfl; have g1 := hXr.cell 1 (v := .int .i64 0) rfl; have g2 := hXr.cell 2 (v := .int .i64 0) rfl; have g3 := hXr.cell 3 (v := .string ⟨#[]⟩) rfl; have g4 := hXr.cell 4 (v := .string ⟨#[]⟩) rfl; have g5 := hXr.cell 5 (v := .slice none 0 0) rfl; have o0 := hXo.cell 0 (v := .int .i64 op) rfl; have o1 := hXo.cell 1 (v := .int .i64 kind) rfl; have o2 := hXo.cell 2 (v := .int .i64 num) rfl; have o3 := hXo.cell 3 (v := .string s) rfl; have o4 := hXo.cell 4 (v := .string f) rfl; have o5 := hXo.cell 5 (v := .slice (some ⟨b0, off, none⟩) len cu) rfl; have e0 := hXe.cell 0 (v := .int .i64 op) rfl; have e1 := hXe.cell 1 (v := .int .i64 kind) rfl; have e2 := hXe.cell 2 (v := .int .i64 num) rfl; have e3 := hXe.cell 3 (v := .string s) rfl; have e4 := hXe.cell 4 (v := .string f) rfl; have e5 := hXe.cell 5 (v := .slice q len cap) rfl; have hlt3 : w.heap.size + 1 < w6.heap.size := hXr.lt; obtain ⟨hZ, hKz⟩ := set6 hXr (.int .i64 op) (.int .i64 kind) (.int .i64 num) (.string s) (.string f) (.slice (some ⟨b0, off, none⟩) len cu); have z0 := hZ.cell 0 (v := .int .i64 op) rfl; have z1 := hZ.cell 1 (v := .int .i64 kind) rfl; have z2 := hZ.cell 2 (v := .int .i64 num) rfl; have z3 := hZ.cell 3 (v := .string s) rfl; have z4 := hZ.cell 4 (v := .string f) rfl; have z5 := hZ.cell 5 (v := .slice (some ⟨b0, off, none⟩) len cu) rfl; replace hZ := Lib.hid hZ; replace hKz := Lib.hid hKz; replace hXw := Lib.hid hXw; replace hXe := Lib.hid hXe; replace hXr := Lib.hid hXr; replace hXo := Lib.hid hXo; replace hXu := Lib.hid hXu; replace hXs := Lib.hid hXs))
        refine bodyPost_ret (v := .agg #[.int .i64 op, .int .i64 kind, .int .i64 num, .string s, .string f, .slice (some ⟨b0, off, none⟩) len cu]) (by simp [results, Tryz.results9, go_sem, z0, z1, z2, z3, z4, z5]) rfl ?_
        have hF := hend.out _ _ _ [a, b] hXw.out hKz.out hXs.out hXu.out
        rw [show y = _ from hfe.out.trans (step_bi_no h8 hde.out (.inr (.inr (.inr (.inr (.inr (by rw [hV.out]; exact hneg)))))))]
        exact ⟨_, rfl, hF.1, hF.2⟩

set_option maxRecDepth 100000 in
set_option maxHeartbeats 4000000 in
theorem rf_b_pos (op kind num : Int) (s f : ByteArray) (es : List Ex) (a b : Ex) (h8 : 8 ≤ op) (h21 : op ≤ 21) (hl0 : foldL es = [a, b]) (ha1 : a.op = 1) (hd : (((op == 10 && a.num == 0) || (op == 8 && a.num == 1)) && a.kind == 1) = false) (hb1 : b.op = 1) (hkk : b.kind = a.kind) (hok : kindOk op a.kind = true) (hfl : (biR op a.num b.num).2 = 0) (hneg : ¬ (biR op a.num b.num).1 < 0) (IH : ∀ i (hi : i < es.length), RFoldC es[i]) : RFoldC (.mk op kind num s f es) := by
  intro w v hv hw hcnt
  obtain ⟨q, cap, rfl⟩ := hv.val
  rw [well_eq, Bool.and_eq_true] at hw
  have hc1 : cntL es < (Ex.mk op kind num s f es).cnt := cnt_args (.mk op kind num s f es)
  have hl5 : es.length ≤ 500 := by have := len_cntL es; omega
  have hel : Hid (∀ i (hi : i < es.length), es[i].well = true ∧ es[i].cnt ≤ 500) := fun i hi => ⟨wellL_in hw.2 (List.getElem_mem hi), by have := cnt_mem hi; omega⟩
  have hshp : shpB (.mk op kind num s f (foldL es)) = true := by rw [shp_len _ _ _ _ _ (foldL_len es)]; exact hw.1
  have hLw : Hid (wellL (foldL es) = true) := foldL_well es hw.2
  have hlf : (foldL es).length = es.length := foldL_len es
  have hfe : foldE (.mk op kind num s f es) = stepE (.mk op kind num s f (foldL es)) := foldE_eq _
  replace IH := Lib.hid IH
  obtain ⟨i0, hi, hz0, hz1, hz2⟩ := info_parts infoEx
  replace hv : exsSl w (.slice q es.length cap) es := hv
  show Calls Tryz.prog 9 #[.agg #[.int .i64 op, .int .i64 kind, .int .i64 num, .string s, .string f, .slice q es.length cap]] w _
  obtain ⟨y, hy⟩ : ∃ y, foldE (.mk op kind num s f es) = y := ⟨_, rfl⟩
  rw [hy] at hfe ⊢
  obtain ⟨len, hlen⟩ : ∃ len, es.length = len := ⟨_, rfl⟩
  rw [hlen] at hv hl5 hlf ⊢
  replace hlen := Lib.hid hlen
  replace hfe := Lib.hid hfe
  replace hshp := Lib.hid hshp
  replace hlf := Lib.hid hlf
  replace hv := Lib.hid hv
  clear hw
  clear hc1 hcnt hy
  go_enter Tryz.func9, Tryz.ntmps9
  go_wp2_with fail
  go_loopw [4] (fun i wr => ∃ (k : Nat) (L : List (List Value)) (u : Value), k ≤ len ∧ i = .int .i64 k ∧
      Hid (Blk wr w.heap.size 24 #[.int .i64 op, .int .i64 kind, .int .i64 num, .string s, .string f, .slice q len cap]) ∧
      Hid (Blk wr (w.heap.size + 1) 24 #[.int .i64 0, .int .i64 0, .int .i64 0, .string ⟨#[]⟩, .string ⟨#[]⟩, .slice none 0 0]) ∧
      Hid (Blk wr (w.heap.size + 1 + 1) 24 #[.int .i64 op, .int .i64 kind, .int .i64 num, .string s, .string f, u]) ∧
      Hid (wr.ownsRow (w.heap.size + 3) 24 6 u k L.flatten) ∧
      Hid (exsAtB (fun b => w.heap.size + 3 ≤ b ∧ b < wr.heap.size ∧ u.ownBlock ≠ some b) wr (foldL (es.take k)) L) ∧ Hid (Kp [] w wr) ∧ Hid (w.heap.size + 3 ≤ wr.heap.size)) (fun i _ => len - (intOf i).toNat)
  case atStart => exact ⟨0, [], .slice none 0 0, Nat.zero_le _, rfl, ((Blk.new _ _ _).alloc _).alloc _, (blk_new (by simp) _ _).alloc _, blk_new (by simp) _ _, World.ownsRow_nil _ _ _ _, (by show exsAtB _ _ (foldL []) []; rw [foldL, exsAtB]), (((Kp.refl [] w).alloc _).alloc _).alloc _, (by show _ ≤ _; simp)⟩
  case round =>
    obtain ⟨k, L, u, hk, rfl, hBe, hBr, hBo, hu, hE, hK, hsz⟩ := hrel
    have b5 := hBe.out.cell 5 (v := .slice q len cap) rfl
    have o5 := hBo.out.cell 5 (v := u) rfl
    by_cases hlt : k < len
    · have hlt2 : k < es.length := by rw [hlen.out]; exact hlt
      obtain ⟨b, off, ux, rfl, hux, c0, c1, c2, c3, c4, c5⟩ := hv.out.at_in hK.out k hlt2
      have hcall := IH.out k hlt2
      have hts := Lib.hid (foldL_take_succ hlt2)
      have hwe := Lib.hid (hel.out k hlt2)
      obtain ⟨x, hx⟩ : ∃ x, es[k] = x := ⟨_, rfl⟩
      rw [hx] at c0 c1 c2 c3 c4 hcall hts hwe hux
      clear hx
      obtain ⟨qu, cu, rfl⟩ := hux.val
      have hfold := Lib.hid (hcall wr _ (hux.kp hK.out) hwe.out.1 hwe.out.2)
      clear hcall
      obtain ⟨lu, hlu⟩ : ∃ lu, x.args.length = lu := ⟨_, rfl⟩
      unfold exVal at hfold
      rw [hlu] at c5 hfold
      clear hlu hux
      obtain ⟨y, hy⟩ : ∃ y, foldE x = y := ⟨_, rfl⟩
      rw [hy] at hfold hts
      clear hy hwe
      have hul : Hid (∀ g, u.ownBlock = some g → w.heap.size + 3 ≤ g ∧ g < wr.heap.size) := fun g hg => hu.out.lt g hg
      go_wp2_with fail
      refine hfold.out.mono ?_
      rintro r w2 ⟨u1, rfl, hk2, hy⟩
      obtain ⟨qy, cy, rfl⟩ := hy.drop.val
      unfold exVal
      obtain ⟨ly, hly⟩ : ∃ ly, y.args.length = ly := ⟨_, rfl⟩
      rw [hly] at hy ⊢
      clear hly
      have hsz1 : wr.heap.size ≤ w2.heap.size := hk2.size
      have hU2 := Lib.hid ((row_kp hu.out hk2).alloc (.cells #[.int .i64 y.op, .int .i64 y.kind, .int .i64 y.num, .string y.s, .string y.field, .slice qy ly cy] 24))
      have hK2 := Lib.hid ((hK.out.trans hk2).alloc (.cells #[.int .i64 y.op, .int .i64 y.kind, .int .i64 y.num, .string y.s, .string y.field, .slice qy ly cy] 24))
      have hbs : Hid (w.heap.size + 3 ≤ (w2.alloc (.cells #[.int .i64 y.op, .int .i64 y.kind, .int .i64 y.num, .string y.s, .string y.field, .slice qy ly cy] 24)).heap.size) := by show _ ≤ _; rw [World.size_alloc]; have := hsz.out; omega
      have hnew := Lib.hid (ex_cells w2 y.op y.kind y.num y.s y.field (.slice qy ly cy))
      have hone := Lib.hid (ex_one y.op y.kind y.num y.s y.field qy ly cy)
      have hkeep : Hid (∀ b, b < wr.heap.size → (w2.alloc (.cells #[.int .i64 y.op, .int .i64 y.kind, .int .i64 y.num, .string y.s, .string y.field, .slice qy ly cy] 24)).heap[b]? = wr.heap[b]?) := fun b hb => by
        have h1 := hk2.alloc (.cells #[.int .i64 y.op, .int .i64 y.kind, .int .i64 y.num, .string y.s, .string y.field, .slice qy ly cy] 24)
        exact h1.block b hb (by simp)
      have hy2 := Lib.hid hy
      have hsz2 := Lib.hid hsz1
      replace hk2 := Lib.hid hk2
      clear hy hsz1
      go_wp2_with (at_builtin; refine wpList_append_own_at _ rfl (.tmp 25) (.tmp 32) 22 rfl (w.heap.size + 3) 24 i0 _ 6 80 Tryz.underlying22 hi hz0 hz1 hz2 rfl (by decide) _ k _ rfl hU2.out ⟨w2.heap.size, 0, none⟩ 1 1 [.int .i64 y.op, .int .i64 y.kind, .int .i64 y.num, .string y.s, .string y.field, .slice qy ly cy] rfl rfl hnew.out hone.out (by unfold maxLen; omega) (by omega) hbs.out ?_; intro v' w3 hown' hgrow _ hat; obtain ⟨vq, vc, rfl⟩ := own_slice hown'; have hlow : ∀ b, b < wr.heap.size → u.ownBlock ≠ some b → w3.heap[b]? = wr.heap[b]? := (fun b hb h => (hgrow.block b (by rw [World.size_alloc]; have := hsz2.out; omega) (fun h4 => h h4.symm)).trans (hkeep.out b hb)); have hlow3 : ∀ b, b < w.heap.size + 3 → w3.heap[b]? = wr.heap[b]? := (fun b hb => hlow b (by have := hsz.out; omega) (fun h4 => by have := (hul.out b h4).1; omega)); have hBo3 : Blk w3 (w.heap.size + 1 + 1) 24 #[.int .i64 op, .int .i64 kind, .int .i64 num, .string s, .string f, u] := (hlow3 _ (by omega)).trans hBo.out; have f5 := hBo3.frozen 5; have d5 := hBo3.cell 5 (v := u) rfl; replace hlow := Lib.hid hlow; replace hlow3 := Lib.hid hlow3; replace hBo3 := Lib.hid hBo3; replace hgrow := Lib.hid hgrow; replace hown' := Lib.hid hown'; replace hat := Lib.hid hat)
      have hg3 : (w2.alloc (.cells #[.int .i64 y.op, .int .i64 y.kind, .int .i64 y.num, .string y.s, .string y.field, .slice qy ly cy] 24)).heap.size ≤ w3.heap.size := hgrow.out.size
      rw [World.size_alloc] at hg3
      have hat2 : (Value.slice vq (k + 1) vc).ownBlock = u.ownBlock ∨ (Value.slice vq (k + 1) vc).ownBlock = some (w2.heap.size + 1) := by
        have := hat.out
        rw [World.size_alloc] at this
        exact this
      have hgb : ∀ b, b < w2.heap.size + 1 → u.ownBlock ≠ some b → w3.heap[b]? = (w2.alloc (.cells #[.int .i64 y.op, .int .i64 y.kind, .int .i64 y.num, .string y.s, .string y.field, .slice qy ly cy] 24)).heap[b]? := fun b hb h => hgrow.out.block b (by rw [World.size_alloc]; exact hb) (fun h4 => h h4.symm)
      have hE3 : exsAtB (fun b => w.heap.size + 3 ≤ b ∧ b < w3.heap.size ∧ (Value.slice vq (k + 1) vc).ownBlock ≠ some b) w3 (foldL (es.take (k + 1))) (L ++ [exV y (.slice qy ly cy)]) := by
        rw [hts.out]
        have hsz1 := hsz2.out
        have hsz0 := hsz.out
        refine exsAtB.snoc (exsAtB.move ?_ ?_ _ L hE.out) (exAtB_mk (hy2.out.move ?_ ?_))
        · rintro b ⟨h1, h2, h3⟩
          refine ⟨h1, by omega, fun h4 => ?_⟩
          rcases hat2 with h5 | h5
          · exact h3 (h5 ▸ h4)
          · rw [h5] at h4; simp at h4; omega
        · rintro b ⟨h1, h2, h3⟩ hb
          exact hlow.out b h2 h3
        · rintro b ⟨h1, h2⟩
          refine ⟨by omega, by omega, fun h4 => ?_⟩
          rcases hat2 with h5 | h5
          · rw [h5] at h4; have := (hul.out b h4).2; omega
          · rw [h5] at h4; simp at h4; omega
        · rintro b ⟨h1, h2⟩ hb
          rw [hgb b (by omega) (fun h => by have := (hul.out b h).2; omega)]
          exact ((Kp.refl [] w2).alloc _).block b hb (by simp)
      have hE4 : Hid (exsAtB (fun b => w.heap.size + 3 ≤ b ∧ b < (w3.setCell ⟨w.heap.size + 1 + 1, 5, none⟩ (.slice vq (k + 1) vc)).heap.size ∧ (Value.slice vq (k + 1) vc).ownBlock ≠ some b) (w3.setCell ⟨w.heap.size + 1 + 1, 5, none⟩ (.slice vq (k + 1) vc)) (foldL (es.take (k + 1))) (L ++ [exV y (.slice qy ly cy)])) :=
        exsAtB.move (fun b h => ⟨h.1, by simpa [World.setCell] using h.2.1, h.2.2⟩) (fun b h _ => Below.heap_setCell w3 _ _ b (by have := h.1; show ¬ b = w.heap.size + 1 + 1; omega)) _ _ hE3
      have hO4 : Hid ((w3.setCell ⟨w.heap.size + 1 + 1, 5, none⟩ (.slice vq (k + 1) vc)).ownsRow (w.heap.size + 3) 24 6 (.slice vq (k + 1) vc) (k + 1) (L ++ [exV y (.slice qy ly cy)]).flatten) := by
        show World.ownsRow _ _ _ _ _ _ _
        rw [flatten_snoc]
        exact row_set hown'.out _ (by omega) _ _
      have hB1 : Hid (Blk (w3.setCell ⟨w.heap.size + 1 + 1, 5, none⟩ (.slice vq (k + 1) vc)) w.heap.size 24 #[.int .i64 op, .int .i64 kind, .int .i64 num, .string s, .string f, .slice (some ⟨b, off, none⟩) len cap]) := Blk.other (show Blk w3 _ _ _ from (hlow3.out _ (by omega)).trans hBe.out) (by simp; omega) _
      have hB2 : Hid (Blk (w3.setCell ⟨w.heap.size + 1 + 1, 5, none⟩ (.slice vq (k + 1) vc)) (w.heap.size + 1) 24 #[.int .i64 0, .int .i64 0, .int .i64 0, .string ⟨#[]⟩, .string ⟨#[]⟩, .slice none 0 0]) := Blk.other (show Blk w3 _ _ _ from (hlow3.out _ (by omega)).trans hBr.out) (by simp) _
      have hB3 : Hid (Blk (w3.setCell ⟨w.heap.size + 1 + 1, 5, none⟩ (.slice vq (k + 1) vc)) (w.heap.size + 1 + 1) 24 #[.int .i64 op, .int .i64 kind, .int .i64 num, .string s, .string f, .slice vq (k + 1) vc]) := hBo3.out.set 5 _
      have hK3 : Hid (Kp [] w (w3.setCell ⟨w.heap.size + 1 + 1, 5, none⟩ (.slice vq (k + 1) vc))) := (hK2.out.grown hgrow.out (fun j hj => .inr (by have := (hul.out j hj).1; omega))).setCell (.inr (by show w.heap.size ≤ w.heap.size + 1 + 1; omega)) _
      have hs3 : Hid (w.heap.size + 3 ≤ (w3.setCell ⟨w.heap.size + 1 + 1, 5, none⟩ (.slice vq (k + 1) vc)).heap.size) := by show _ ≤ _; have h1 := hsz.out; have h2 := hsz2.out; simp [World.setCell]; omega
      clear hgrow hown' hat hg3 hat2 hE3
      go_roundw
      case rel => exact ⟨k + 1, L ++ [exV y (.slice qy ly cy)], _, by omega, by go_num, hB1, hB2, hB3, hO4, hE4, hK3, hs3⟩
      case measure => simp [intOf]; omega
    · obtain rfl : len = k := by omega
      have hfull := tk_all hlen.out
      have hE2 := hE.out
      rw [hfull] at hE2
      have hus := row_at (by rw [hlf.out]) hu.out hE2
      obtain ⟨qu, cu, rfl⟩ := own_slice hu.out
      clear hE2 hfull hE hu hel IH hv hlt b5 o5 hk
      rw [hl0] at hus hshp hLw hlf hfe
      have hout : Hid (∀ X, Kp [] wr X → Kp [] w X ∧ Blk X w.heap.size 24 #[.int .i64 op, .int .i64 kind, .int .i64 num, .string s, .string f, .slice q len cap] ∧ Blk X (w.heap.size + 1) 24 #[.int .i64 0, .int .i64 0, .int .i64 0, .string ⟨#[]⟩, .string ⟨#[]⟩, .slice none 0 0] ∧ Blk X (w.heap.size + 1 + 1) 24 #[.int .i64 op, .int .i64 kind, .int .i64 num, .string s, .string f, .slice qu len cu] ∧ exsSlB (fun b => w.heap.size + 3 ≤ b ∧ b < wr.heap.size) X (.slice qu len cu) [a, b] ∧ wr.heap.size ≤ X.heap.size) := fun X hX => ⟨hK.out.trans hX, hBe.out.kp hX (by simp), hBr.out.kp hX (by simp), hBo.out.kp hX (by simp), hus.move (fun b h => h) (fun b _ hb => hX.block b hb (by simp)), hX.size⟩
      have hend : Hid (∀ (X F : World) (u : Value) (es : List Ex), Kp [] w X → Kp [w.heap.size + 1] X F → wr.heap.size ≤ X.heap.size → exsSlB (fun b => w.heap.size + 3 ≤ b ∧ b < wr.heap.size) X u es → Kp [] w F ∧ exsSlB (Rg w F) F u es) := by
        intro X F u es h1 h2 h3 h4
        refine ⟨h1.trans' h2 (fun i hi hl => by simp at hi; omega), h4.move (fun b h => ⟨by omega, by have := h2.size; omega⟩) (fun b h hb => h2.block b hb (by simp; omega))⟩
      replace hus := Lib.hid hus
      clear hBe hBr hBo hsz hi hz0 hz1 hz2
      obtain ⟨b0, off, rfl, hget⟩ := hus.out.at_ (by simp)
      obtain ⟨qa, la, ca, hla, hua, hca⟩ := hget 0 (by simp)
      replace hca : ∀ j x, (exV a (.slice qa la ca))[j]? = some x → wr.cell? ⟨b0, off + (0 * 6 + j), none⟩ = some x := hca
      have av0 := hca 0 _ rfl
      have av1 := hca 1 _ rfl
      have av2 := hca 2 _ rfl
      have av3 := hca 3 _ rfl
      have av4 := hca 4 _ rfl
      have av5 := hca 5 _ rfl
      simp only [Nat.zero_mul, Nat.zero_add, Nat.add_zero, Nat.one_mul, Nat.reduceAdd] at av0 av1 av2 av3 av4 av5
      replace hua : exsSlB _ wr (.slice qa la ca) a.args := hua
      obtain ⟨qb, lb, cb, hlb, hub, hcb⟩ := hget 1 (by simp)
      replace hcb : ∀ j x, (exV b (.slice qb lb cb))[j]? = some x → wr.cell? ⟨b0, off + (1 * 6 + j), none⟩ = some x := hcb
      have bv0 := hcb 0 _ rfl
      have bv1 := hcb 1 _ rfl
      have bv2 := hcb 2 _ rfl
      have bv3 := hcb 3 _ rfl
      have bv4 := hcb 4 _ rfl
      have bv5 := hcb 5 _ rfl
      simp only [Nat.zero_mul, Nat.zero_add, Nat.add_zero, Nat.one_mul, Nat.reduceAdd] at bv0 bv1 bv2 bv3 bv4 bv5
      replace hub : exsSlB _ wr (.slice qb lb cb) b.args := hub
      clear hget
      have hln : Hid (2 = len) := hlf.out
      have hp0 : 0 < len := by have := hln.out; omega
      have hp1 : 1 < len := by have := hln.out; omega
      have n6 : ¬ op = 6 := by omega
      have m6 : (op == 6) = false := by simpa using n6
      have n7 : ¬ op = 7 := by omega
      have m7 : (op == 7) = false := by simpa using n7
      have n5 : ¬ op < 6 := by omega
      have n22 : ¬ 21 < op := by omega
      rw [ha1] at av0
      rw [hb1] at bv0
      have hdd := Lib.hid hd
      clear hd
      have hde := Lib.hid ((dec_two (op := op) (b := b) ha1).trans hdd.out)
      have hwa : a.well = true := wellL_in hLw.out (by simp)
      have hwb : b.well = true := wellL_in hLw.out (by simp)
      have haC := (shp_con (by rw [well_eq, Bool.and_eq_true] at hwa; exact hwa.1) ha1).1
      have hbC := (shp_con (by rw [well_eq, Bool.and_eq_true] at hwb; exact hwb.1) hb1).1
      have hk4 := (con_bd haC).2.2.2
      obtain ⟨K, hK2⟩ : ∃ K, kindRes op a.kind = K := ⟨_, rfl⟩
      have hK3 : K = 1 ∨ K = 2 ∨ K = 3 := by rw [← hK2]; unfold kindRes; split; exact hk4; split <;> simp
      have hK0 : (K == 0) = false := by simp; omega
      have hKn : ¬ K = 0 := by omega
      have hkb : Hid (∀ W : World, Calls Tryz.prog 21 #[.int .i64 op, .int .i64 a.kind, .int .i64 b.kind] W fun r w' => r = .returned (.int .i64 K) ∧ w' = W) := fun W => by rw [hkk]; exact (kbi_c op a.kind W h8 h21 hk4).mono fun r w' h => ⟨h.1.trans (ret_int (by rw [if_pos hok, hK2])), h.2⟩
      obtain ⟨V, hV⟩ : ∃ V, (biR op a.num b.num).1 = V := ⟨_, rfl⟩
      obtain ⟨F, hFq⟩ : ∃ F, (biR op a.num b.num).2 = F := ⟨_, rfl⟩
      have hrb : Hid (∀ W : World, Calls Tryz.prog 22 #[.int .i64 op, .int .i64 a.num, .int .i64 b.num] W fun r w' => r = .returned (.tuple #[.int .i64 V, .int .i64 F, .bool true]) ∧ w' = W) := fun W => by rw [← hV, ← hFq]; exact rbin_c op a.kind a.num b.num W h8 h21 hok haC (by rw [← hkk]; exact hbC)
      have hcn := Lib.hid (fun W => constant_c op kind num s f (some ⟨b0, off, none⟩) len cu K V W)
      rw [hFq] at hfl
      subst hfl
      rw [hV] at hneg
      replace hkk := Lib.hid hkk
      replace hb1 := Lib.hid hb1
      replace hV := Lib.hid hV
      replace hFq := Lib.hid hFq
      replace hK2 := Lib.hid hK2
      clear hwa hwb haC hbC hk4 hK3
      replace ha1 := Lib.hid ha1
      have bw0 := ((Kp.refl [] wr).alloc (.cells #[.int .i64 1, .int .i64 a.kind, .int .i64 a.num, .string a.s, .string a.field, .slice qa la ca] 24)).cell bv0 (by simp)
      have bw1 := ((Kp.refl [] wr).alloc (.cells #[.int .i64 1, .int .i64 a.kind, .int .i64 a.num, .string a.s, .string a.field, .slice qa la ca] 24)).cell bv1 (by simp)
      have bw2 := ((Kp.refl [] wr).alloc (.cells #[.int .i64 1, .int .i64 a.kind, .int .i64 a.num, .string a.s, .string a.field, .slice qa la ca] 24)).cell bv2 (by simp)
      have bw3 := ((Kp.refl [] wr).alloc (.cells #[.int .i64 1, .int .i64 a.kind, .int .i64 a.num, .string a.s, .string a.field, .slice qa la ca] 24)).cell bv3 (by simp)
      have bw4 := ((Kp.refl [] wr).alloc (.cells #[.int .i64 1, .int .i64 a.kind, .int .i64 a.num, .string a.s, .string a.field, .slice qa la ca] 24)).cell bv4 (by simp)
      have bw5 := ((Kp.refl [] wr).alloc (.cells #[.int .i64 1, .int .i64 a.kind, .int .i64 a.num, .string a.s, .string a.field, .slice qa la ca] 24)).cell bv5 (by simp)
      have hA2 : Blk ((wr.alloc (.cells #[.int .i64 1, .int .i64 a.kind, .int .i64 a.num, .string a.s, .string a.field, .slice qa la ca] 24)).alloc (.cells #[.int .i64 1, .int .i64 b.kind, .int .i64 b.num, .string b.s, .string b.field, .slice qb lb cb] 24)) wr.heap.size 24 #[.int .i64 1, .int .i64 a.kind, .int .i64 a.num, .string a.s, .string a.field, .slice qa la ca] := (Blk.new wr _ _).alloc _
      have s0 := hA2.cell 0 (v := .int .i64 1) rfl
      have s1 := hA2.cell 1 (v := .int .i64 a.kind) rfl
      have s2 := hA2.cell 2 (v := .int .i64 a.num) rfl
      have s3 := hA2.cell 3 (v := .string a.s) rfl
      have s4 := hA2.cell 4 (v := .string a.field) rfl
      have s5 := hA2.cell 5 (v := .slice qa la ca) rfl
      replace hA2 := Lib.hid hA2
      clear bv0 bv1 bv2 bv3 bv4 bv5
      have hY := hout.out wr (Kp.refl [] wr)
      have e0x := hY.2.1.cell 0 (v := .int .i64 op) rfl
      have e5x := hY.2.1.cell 5 (v := .slice q len cap) rfl
      have o5x := hY.2.2.2.1.cell 5 (v := .slice (some ⟨b0, off, none⟩) len cu) rfl
      clear hY
      have hY := hout.out (wr.alloc (.cells #[.int .i64 1, .int .i64 a.kind, .int .i64 a.num, .string a.s, .string a.field, .slice qa la ca] 24)) ((Kp.refl [] wr).alloc (.cells #[.int .i64 1, .int .i64 a.kind, .int .i64 a.num, .string a.s, .string a.field, .slice qa la ca] 24))
      have e0y := hY.2.1.cell 0 (v := .int .i64 op) rfl
      have e5y := hY.2.1.cell 5 (v := .slice q len cap) rfl
      have o5y := hY.2.2.2.1.cell 5 (v := .slice (some ⟨b0, off, none⟩) len cu) rfl
      clear hY
      have hX := hout.out ((wr.alloc (.cells #[.int .i64 1, .int .i64 a.kind, .int .i64 a.num, .string a.s, .string a.field, .slice qa la ca] 24)).alloc (.cells #[.int .i64 1, .int .i64 b.kind, .int .i64 b.num, .string b.s, .string b.field, .slice qb lb cb] 24)) (((Kp.refl [] wr).alloc (.cells #[.int .i64 1, .int .i64 a.kind, .int .i64 a.num, .string a.s, .string a.field, .slice qa la ca] 24)).alloc (.cells #[.int .i64 1, .int .i64 b.kind, .int .i64 b.num, .string b.s, .string b.field, .slice qb lb cb] 24))
      obtain ⟨hXw, hXe, hXr, hXo, hXu, hXs⟩ := hX
      have f0 := hXr.frozen 0
      have f1 := hXr.frozen 1
      have f2 := hXr.frozen 2
      have f3 := hXr.frozen 3
      have f4 := hXr.frozen 4
      have f6 := hXr.frozen 5
      have g0 := hXr.cell 0 (v := .int .i64 0) rfl
      have g1 := hXr.cell 1 (v := .int .i64 0) rfl
      have g2 := hXr.cell 2 (v := .int .i64 0) rfl
      have g3 := hXr.cell 3 (v := .string ⟨#[]⟩) rfl
      have g4 := hXr.cell 4 (v := .string ⟨#[]⟩) rfl
      have g5 := hXr.cell 5 (v := .slice none 0 0) rfl
      have o0 := hXo.cell 0 (v := .int .i64 op) rfl
      have o1 := hXo.cell 1 (v := .int .i64 kind) rfl
      have o2 := hXo.cell 2 (v := .int .i64 num) rfl
      have o3 := hXo.cell 3 (v := .string s) rfl
      have o4 := hXo.cell 4 (v := .string f) rfl
      have o5 := hXo.cell 5 (v := .slice (some ⟨b0, off, none⟩) len cu) rfl
      have e0 := hXe.cell 0 (v := .int .i64 op) rfl
      have e1 := hXe.cell 1 (v := .int .i64 kind) rfl
      have e2 := hXe.cell 2 (v := .int .i64 num) rfl
      have e3 := hXe.cell 3 (v := .string s) rfl
      have e4 := hXe.cell 4 (v := .string f) rfl
      have e5 := hXe.cell 5 (v := .slice q len cap) rfl
      have hlt3 : w.heap.size + 1 < ((wr.alloc (.cells #[.int .i64 1, .int .i64 a.kind, .int .i64 a.num, .string a.s, .string a.field, .slice qa la ca] 24)).alloc (.cells #[.int .i64 1, .int .i64 b.kind, .int .i64 b.num, .string b.s, .string b.field, .slice qb lb cb] 24)).heap.size := hXr.lt
      obtain ⟨hZ, hKz⟩ := set6 hXr (.int .i64 op) (.int .i64 kind) (.int .i64 num) (.string s) (.string f) (.slice (some ⟨b0, off, none⟩) len cu)
      have z0 := hZ.cell 0 (v := .int .i64 op) rfl
      have z1 := hZ.cell 1 (v := .int .i64 kind) rfl
      have z2 := hZ.cell 2 (v := .int .i64 num) rfl
      have z3 := hZ.cell 3 (v := .string s) rfl
      have z4 := hZ.cell 4 (v := .string f) rfl
      have z5 := hZ.cell 5 (v := .slice (some ⟨b0, off, none⟩) len cu) rfl
      replace hZ := Lib.hid hZ
      replace hKz := Lib.hid hKz
      replace hXw := Lib.hid hXw
      replace hXe := Lib.hid hXe
      replace hXr := Lib.hid hXr
      replace hXo := Lib.hid hXo
      replace hXu := Lib.hid hXu
      replace hXs := Lib.hid hXs
      go_upto_region 18 with fail
      go_cut [102] (fun c wx => c = .bool false ∧ wx = (wr.alloc (.cells #[.int .i64 1, .int .i64 a.kind, .int .i64 a.num, .string a.s, .string a.field, .slice qa la ca] 24)))
      case first =>
        cases x10 : (op == 10)
        · have p10 : ¬ op = 10 := by simpa using x10
          cases x8 : (op == 8)
          · have p8 : ¬ op = 8 := by simpa using x8
            go_wp2_with fail
            go_meet
            case rel => exact ⟨congrArg Value.bool (Eq.trans (by simp [x10, x8]) hdd.out), rfl⟩
          · have pp : True := trivial
            cases y1 : (a.num == 1)
            · have p1 : ¬ a.num = 1 := by simpa using y1
              go_wp2_with fail
              go_meet
              case rel => exact ⟨congrArg Value.bool (Eq.trans (by simp [x10, x8, y1]) hdd.out), rfl⟩
            · have pp : True := trivial
              cases k1 : (a.kind == 1)
              · have pk : ¬ a.kind = 1 := by simpa using k1
                go_wp2_with fail
                go_meet
                case rel => exact ⟨congrArg Value.bool (Eq.trans (by simp [x10, x8, y1, k1]) hdd.out), rfl⟩
              · have pp : True := trivial
                go_wp2_with fail
                go_meet
                case rel => exact ⟨congrArg Value.bool (Eq.trans (by simp [x10, x8, y1, k1]) hdd.out), rfl⟩
        · have p10 : op = 10 := by simpa using x10
          have x8 : (op == 8) = false := by rw [p10]; rfl
          have p8 : ¬ op = 8 := by omega
          replace p10 := Lib.hid p10
          cases y0 : (a.num == 0)
          · have p0 : ¬ a.num = 0 := by simpa using y0
            go_wp2_with fail
            go_meet
            case rel => exact ⟨congrArg Value.bool (Eq.trans (by simp [x10, x8, y0]) hdd.out), rfl⟩
          · have pp : True := trivial
            cases k1 : (a.kind == 1)
            · have pk : ¬ a.kind = 1 := by simpa using k1
              go_wp2_with fail
              go_meet
              case rel => exact ⟨congrArg Value.bool (Eq.trans (by simp [x10, x8, y0, k1]) hdd.out), rfl⟩
            · have pp : True := trivial
              go_wp2_with fail
              go_meet
              case rel => exact ⟨congrArg Value.bool (Eq.trans (by simp [x10, x8, y0, k1]) hdd.out), rfl⟩
      case rest =>
        obtain ⟨rfl, rfl⟩ := hcut
        go_wp2_with (first | (go_at_call 21; refine (hkb.out _).mono ?_; rintro r w6 ⟨rfl, rfl⟩) | (go_at_call 22; refine (hrb.out _).mono ?_; rintro r w6 ⟨rfl, rfl⟩) | (go_at_call 20; refine (hcn.out _).mono ?_; rintro r w6 ⟨rfl, hk6⟩; rw [if_neg (by omega)]; have hk7 := ((((Kp.refl [] wr).alloc (.cells #[.int .i64 1, .int .i64 a.kind, .int .i64 a.num, .string a.s, .string a.field, .slice qa la ca] 24)).alloc (.cells #[.int .i64 1, .int .i64 b.kind, .int .i64 b.num, .string b.s, .string b.field, .slice qb lb cb] 24))).trans hk6; clear hXw hXe hXr hXo hXu hXs f0 f1 f2 f3 f4 f6 g0 g1 g2 g3 g4 g5 o0 o1 o2 o3 o4 o5 e0 e1 e2 e3 e4 e5 hlt3 hZ hKz z0 z1 z2 z3 z4 z5; have hX := hout.out w6 hk7; obtain ⟨hXw, hXe, hXr, hXo, hXu, hXs⟩ := hX; have f0 := hXr.frozen 0; have f1 := hXr.frozen 1; have f2 := hXr.frozen 2; have f3 := hXr.frozen 3; have f4 := hXr.frozen 4; have f6 := hXr.frozen 5; have g0 := hXr.cell 0 (v := .int .i64 0) rfl; have g1 := hXr.cell 1 (v := .int .i64 0) rfl; have g2 := hXr.cell 2 (v := .int .i64 0) rfl; have g3 := hXr.cell 3 (v := .string ⟨#[]⟩) rfl; have g4 := hXr.cell 4 (v := .string ⟨#[]⟩) rfl; have g5 := hXr.cell 5 (v := .slice none 0 0) rfl; have o0 := hXo.cell 0 (v := .int .i64 op) rfl; have o1 := hXo.cell 1 (v := .int .i64 kind) rfl; have o2 := hXo.cell 2 (v := .int .i64 num) rfl; have o3 := hXo.cell 3 (v := .string s) rfl; have o4 := hXo.cell 4 (v := .string f) rfl; have o5 := hXo.cell 5 (v := .slice (some ⟨b0, off, none⟩) len cu) rfl; have e0 := hXe.cell 0 (v := .int .i64 op) rfl; have e1 := hXe.cell 1 (v := .int .i64 kind) rfl; have e2 := hXe.cell 2 (v := .int .i64 num) rfl; have e3 := hXe.cell 3 (v := .string s) rfl; have e4 := hXe.cell 4 (v := .string f) rfl; have e5 := hXe.cell 5 (v := .slice q len cap) rfl; have hlt3 : w.heap.size + 1 < w6.heap.size := hXr.lt; obtain ⟨hZ, hKz⟩ := set6 hXr (.int .i64 1) (.int .i64 K) (.int .i64 V) (.string ⟨#[]⟩) (.string ⟨#[]⟩) (.slice none 0 0); have z0 := hZ.cell 0 (v := .int .i64 1) rfl; have z1 := hZ.cell 1 (v := .int .i64 K) rfl; have z2 := hZ.cell 2 (v := .int .i64 V) rfl; have z3 := hZ.cell 3 (v := .string ⟨#[]⟩) rfl; have z4 := hZ.cell 4 (v := .string ⟨#[]⟩) rfl; have z5 := hZ.cell 5 (v := .slice none 0 0) rfl; replace hZ := Lib.hid hZ; replace hKz := Lib.hid hKz; replace hXw := Lib.hid hXw; replace hXe := Lib.hid hXe; replace hXr := Lib.hid hXr; replace hXo := Lib.hid hXo; replace hXu := Lib.hid hXu; replace hXs := Lib.hid hXs))
        refine bodyPost_ret (v := .agg #[.int .i64 1, .int .i64 K, .int .i64 V, .string ⟨#[]⟩, .string ⟨#[]⟩, .slice none 0 0]) (by simp [results, Tryz.results9, go_sem, z0, z1, z2, z3, z4, z5]) rfl ?_
        have hF := hend.out _ _ _ [] hXw.out hKz.out hXs.out (exsSlB.nil _ _)
        rw [show y = _ from hfe.out.trans ((step_bi_yes h8 hde.out ha1.out hb1.out hkk.out hok hFq.out (by rw [hV.out]; omega)).trans (by rw [hV.out, hK2.out]))]
        exact ⟨_, rfl, hF.1, hF.2⟩
end Go.Proofs.YtgldbeacjacbcaaGreat
