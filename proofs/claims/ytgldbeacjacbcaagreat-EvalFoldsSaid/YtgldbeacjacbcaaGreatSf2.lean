import Derived.Test.YtgldbeacjacbcaaGreatSfA
import Derived.Deep.DeepCutAuto
set_option linter.unusedSimpArgs false
set_option linter.unusedVariables false
namespace Go.Proofs.YtgldbeacjacbcaaGreat
open Go.RowKit

def RFoldC (e : Ex) : Prop := ∀ (w : World) (v : Value), exsSl w v e.args → e.well = true → e.cnt ≤ 500 → Calls Tryz.prog 9 #[exVal e v] w (FoldRes (foldE e) w)
/-- The row of folded operands, as a slice of expressions. -/
theorem row_at {b0 : Nat} {w' : World} {u : Value} {n : Nat} {es : List Ex} {L : List (List Value)} (hn : es.length = n) (ho : w'.ownsRow b0 24 6 u n L.flatten)
    (hE : exsAtB (fun b => b0 ≤ b ∧ b < w'.heap.size ∧ u.ownBlock ≠ some b) w' es L) : exsSlB (fun b => b0 ≤ b ∧ b < w'.heap.size) w' u es := by
  refine ⟨L, ?_, exsAtB.move (fun b h => ⟨h.1, h.2.1⟩) (fun _ _ _ => rfl) es L hE⟩
  rcases ho.2 with ⟨rfl, h0⟩ | ⟨g, cap, cur, rfl, hb, hg, hnc, hcm, _⟩
  · exact ⟨none, 0, by rw [hn, h0], by omega, by omega, .inl (by omega)⟩
  · refine ⟨some ⟨g, 0, none⟩, cap, by rw [hn], by omega, by unfold maxLen at hcm; omega, .inr ⟨g, 0, rfl, ⟨hb, (Array.getElem?_eq_some_iff.1 hg).1⟩, fun j x hx => ?_⟩⟩
    have hc := ho.cells (g := g) rfl j x hx
    have ea : (⟨g, 0, none⟩ : Addr).add j = ⟨g, 0 + j, none⟩ := by unfold Addr.add; split <;> simp_all
    rw [ea] at hc
    exact hc

theorem own_slice {W : World} {b n : Nat} {v : Value} {xs : List Value} (h : W.ownsRow b 24 6 v n xs) : ∃ q c, v = .slice q n c := by
  rcases h.2 with ⟨rfl, h0⟩ | ⟨g, cap, cur, rfl, _⟩
  · exact ⟨none, 0, by rw [h0]⟩
  · exact ⟨_, _, rfl⟩
theorem tk_all {es : List Ex} {n : Nat} (h : es.length = n) : es.take n = es := List.take_of_length_le (by omega)

theorem row_set {W : World} {base n : Nat} {v : Value} {xs : List Value} (h : W.ownsRow base 24 6 v n xs) (b : Nat) (hb : b < base) (i : Nat) (u : Value) : (W.setCell ⟨b, i, none⟩ u).ownsRow base 24 6 v n xs := by
  refine h.kept (row := some b) ⟨rfl, rfl, rfl, by simp [World.setCell], fun k hk hn => Below.heap_setCell W _ _ k (fun e => hn (by rw [e]))⟩ ?_
  cases ho : v.ownBlock with
  | none => exact .inl rfl
  | some g => refine .inr (fun e => ?_); have := (h.lt g ho).1; simp at e; omega
theorem set6 {X : World} {b : Nat} {c0 c1 c2 c3 c4 c5 : Value} (h : Blk X b 24 #[c0, c1, c2, c3, c4, c5]) (v0 v1 v2 v3 v4 v5 : Value) :
    Blk ((((((X.setCell ⟨b, 0, none⟩ v0).setCell ⟨b, 1, none⟩ v1).setCell ⟨b, 2, none⟩ v2).setCell ⟨b, 3, none⟩ v3).setCell ⟨b, 4, none⟩ v4).setCell ⟨b, 5, none⟩ v5) b 24 #[v0, v1, v2, v3, v4, v5] ∧
    Kp [b] X ((((((X.setCell ⟨b, 0, none⟩ v0).setCell ⟨b, 1, none⟩ v1).setCell ⟨b, 2, none⟩ v2).setCell ⟨b, 3, none⟩ v3).setCell ⟨b, 4, none⟩ v4).setCell ⟨b, 5, none⟩ v5) :=
  ⟨(((((h.set 0 v0).set 1 v1).set 2 v2).set 3 v3).set 4 v4).set 5 v5, ((((((Kp.refl [b] X).setCell (.inl (by simp)) _).setCell (.inl (by simp)) _).setCell (.inl (by simp)) _).setCell (.inl (by simp)) _).setCell (.inl (by simp)) _).setCell (.inl (by simp)) _⟩

set_option maxRecDepth 100000 in
set_option maxHeartbeats 4000000 in
theorem rf_lo (op kind num : Int) (s f : ByteArray) (es : List Ex) (h6 : op < 6) (IH : ∀ i (hi : i < es.length), RFoldC es[i]) : RFoldC (.mk op kind num s f es) := by
  intro w v hv hw hcnt
  obtain ⟨q, cap, rfl⟩ := hv.val
  rw [well_eq, Bool.and_eq_true] at hw
  have hc1 : cntL es < (Ex.mk op kind num s f es).cnt := cnt_args (.mk op kind num s f es)
  have hl5 : es.length ≤ 500 := by have := len_cntL es; omega
  have hel : Hid (∀ i (hi : i < es.length), es[i].well = true ∧ es[i].cnt ≤ 500) := fun i hi => ⟨wellL_in hw.2 (List.getElem_mem hi), by have := cnt_mem hi; omega⟩
  have hshp : shpB (.mk op kind num s f (foldL es)) = true := by rw [shp_len _ _ _ _ _ (foldL_len es)]; exact hw.1
  have hLw : Hid (wellL (foldL es) = true) := foldL_well es hw.2
  have hlf : (foldL es).length = es.length := foldL_len es
  have hfe : foldE (.mk op kind num s f es) = stepE (.mk op kind num s f (foldL es)) := foldE_eq _
  replace IH := Lib.hid IH
  obtain ⟨i0, hi, hz0, hz1, hz2⟩ := info_parts infoEx
  replace hv : exsSl w (.slice q es.length cap) es := hv
  show Calls Tryz.prog 9 #[.agg #[.int .i64 op, .int .i64 kind, .int .i64 num, .string s, .string f, .slice q es.length cap]] w _
  obtain ⟨y, hy⟩ : ∃ y, foldE (.mk op kind num s f es) = y := ⟨_, rfl⟩
  rw [hy] at hfe ⊢
  obtain ⟨len, hlen⟩ : ∃ len, es.length = len := ⟨_, rfl⟩
  rw [hlen] at hv hl5 hlf ⊢
  replace hlen := Lib.hid hlen
  replace hfe := Lib.hid hfe
  replace hshp := Lib.hid hshp
  replace hlf := Lib.hid hlf
  replace hv := Lib.hid hv
  clear hw
  clear hc1 hcnt hy
  go_enter Tryz.func9, Tryz.ntmps9
  go_wp2_with fail
  go_loopw [4] (fun i wr => ∃ (k : Nat) (L : List (List Value)) (u : Value), k ≤ len ∧ i = .int .i64 k ∧
      Hid (Blk wr w.heap.size 24 #[.int .i64 op, .int .i64 kind, .int .i64 num, .string s, .string f, .slice q len cap]) ∧
      Hid (Blk wr (w.heap.size + 1) 24 #[.int .i64 0, .int .i64 0, .int .i64 0, .string ⟨#[]⟩, .string ⟨#[]⟩, .slice none 0 0]) ∧
      Hid (Blk wr (w.heap.size + 1 + 1) 24 #[.int .i64 op, .int .i64 kind, .int .i64 num, .string s, .string f, u]) ∧
      Hid (wr.ownsRow (w.heap.size + 3) 24 6 u k L.flatten) ∧
      Hid (exsAtB (fun b => w.heap.size + 3 ≤ b ∧ b < wr.heap.size ∧ u.ownBlock ≠ some b) wr (foldL (es.take k)) L) ∧ Hid (Kp [] w wr) ∧ Hid (w.heap.size + 3 ≤ wr.heap.size)) (fun i _ => len - (intOf i).toNat)
  case atStart => exact ⟨0, [], .slice none 0 0, Nat.zero_le _, rfl, ((Blk.new _ _ _).alloc _).alloc _, (blk_new (by simp) _ _).alloc _, blk_new (by simp) _ _, World.ownsRow_nil _ _ _ _, (by show exsAtB _ _ (foldL []) []; rw [foldL, exsAtB]), (((Kp.refl [] w).alloc _).alloc _).alloc _, (by show _ ≤ _; simp)⟩
  case round =>
    obtain ⟨k, L, u, hk, rfl, hBe, hBr, hBo, hu, hE, hK, hsz⟩ := hrel
    have b5 := hBe.out.cell 5 (v := .slice q len cap) rfl
    have o5 := hBo.out.cell 5 (v := u) rfl
    by_cases hlt : k < len
    · have hlt2 : k < es.length := by rw [hlen.out]; exact hlt
      obtain ⟨b, off, ux, rfl, hux, c0, c1, c2, c3, c4, c5⟩ := hv.out.at_in hK.out k hlt2
      have hcall := IH.out k hlt2
      have hts := Lib.hid (foldL_take_succ hlt2)
      have hwe := Lib.hid (hel.out k hlt2)
      obtain ⟨x, hx⟩ : ∃ x, es[k] = x := ⟨_, rfl⟩
      rw [hx] at c0 c1 c2 c3 c4 hcall hts hwe hux
      clear hx
      obtain ⟨qu, cu, rfl⟩ := hux.val
      have hfold := Lib.hid (hcall wr _ (hux.kp hK.out) hwe.out.1 hwe.out.2)
      clear hcall
      obtain ⟨lu, hlu⟩ : ∃ lu, x.args.length = lu := ⟨_, rfl⟩
      unfold exVal at hfold
      rw [hlu] at c5 hfold
      clear hlu hux
      obtain ⟨y, hy⟩ : ∃ y, foldE x = y := ⟨_, rfl⟩
      rw [hy] at hfold hts
      clear hy hwe
      have hul : Hid (∀ g, u.ownBlock = some g → w.heap.size + 3 ≤ g ∧ g < wr.heap.size) := fun g hg => hu.out.lt g hg
      go_wp2_with fail
      refine hfold.out.mono ?_
      rintro r w2 ⟨u1, rfl, hk2, hy⟩
      obtain ⟨qy, cy, rfl⟩ := hy.drop.val
      unfold exVal
      obtain ⟨ly, hly⟩ : ∃ ly, y.args.length = ly := ⟨_, rfl⟩
      rw [hly] at hy ⊢
      clear hly
      have hsz1 : wr.heap.size ≤ w2.heap.size := hk2.size
      have hU2 := Lib.hid ((row_kp hu.out hk2).alloc (.cells #[.int .i64 y.op, .int .i64 y.kind, .int .i64 y.num, .string y.s, .string y.field, .slice qy ly cy] 24))
      have hK2 := Lib.hid ((hK.out.trans hk2).alloc (.cells #[.int .i64 y.op, .int .i64 y.kind, .int .i64 y.num, .string y.s, .string y.field, .slice qy ly cy] 24))
      have hbs : Hid (w.heap.size + 3 ≤ (w2.alloc (.cells #[.int .i64 y.op, .int .i64 y.kind, .int .i64 y.num, .string y.s, .string y.field, .slice qy ly cy] 24)).heap.size) := by show _ ≤ _; rw [World.size_alloc]; have := hsz.out; omega
      have hnew := Lib.hid (ex_cells w2 y.op y.kind y.num y.s y.field (.slice qy ly cy))
      have hone := Lib.hid (ex_one y.op y.kind y.num y.s y.field qy ly cy)
      have hkeep : Hid (∀ b, b < wr.heap.size → (w2.alloc (.cells #[.int .i64 y.op, .int .i64 y.kind, .int .i64 y.num, .string y.s, .string y.field, .slice qy ly cy] 24)).heap[b]? = wr.heap[b]?) := fun b hb => by
        have h1 := hk2.alloc (.cells #[.int .i64 y.op, .int .i64 y.kind, .int .i64 y.num, .string y.s, .string y.field, .slice qy ly cy] 24)
        exact h1.block b hb (by simp)
      have hy2 := Lib.hid hy
      have hsz2 := Lib.hid hsz1
      replace hk2 := Lib.hid hk2
      clear hy hsz1
      go_wp2_with (at_builtin; refine wpList_append_own_at _ rfl (.tmp 25) (.tmp 32) 22 rfl (w.heap.size + 3) 24 i0 _ 6 80 Tryz.underlying22 hi hz0 hz1 hz2 rfl (by decide) _ k _ rfl hU2.out ⟨w2.heap.size, 0, none⟩ 1 1 [.int .i64 y.op, .int .i64 y.kind, .int .i64 y.num, .string y.s, .string y.field, .slice qy ly cy] rfl rfl hnew.out hone.out (by unfold maxLen; omega) (by omega) hbs.out ?_; intro v' w3 hown' hgrow _ hat; obtain ⟨vq, vc, rfl⟩ := own_slice hown'; have hlow : ∀ b, b < wr.heap.size → u.ownBlock ≠ some b → w3.heap[b]? = wr.heap[b]? := (fun b hb h => (hgrow.block b (by rw [World.size_alloc]; have := hsz2.out; omega) (fun h4 => h h4.symm)).trans (hkeep.out b hb)); have hlow3 : ∀ b, b < w.heap.size + 3 → w3.heap[b]? = wr.heap[b]? := (fun b hb => hlow b (by have := hsz.out; omega) (fun h4 => by have := (hul.out b h4).1; omega)); have hBo3 : Blk w3 (w.heap.size + 1 + 1) 24 #[.int .i64 op, .int .i64 kind, .int .i64 num, .string s, .string f, u] := (hlow3 _ (by omega)).trans hBo.out; have f5 := hBo3.frozen 5; have d5 := hBo3.cell 5 (v := u) rfl; replace hlow := Lib.hid hlow; replace hlow3 := Lib.hid hlow3; replace hBo3 := Lib.hid hBo3; replace hgrow := Lib.hid hgrow; replace hown' := Lib.hid hown'; replace hat := Lib.hid hat)
      have hg3 : (w2.alloc (.cells #[.int .i64 y.op, .int .i64 y.kind, .int .i64 y.num, .string y.s, .string y.field, .slice qy ly cy] 24)).heap.size ≤ w3.heap.size := hgrow.out.size
      rw [World.size_alloc] at hg3
      have hat2 : (Value.slice vq (k + 1) vc).ownBlock = u.ownBlock ∨ (Value.slice vq (k + 1) vc).ownBlock = some (w2.heap.size + 1) := by
        have := hat.out
        rw [World.size_alloc] at this
        exact this
      have hgb : ∀ b, b < w2.heap.size + 1 → u.ownBlock ≠ some b → w3.heap[b]? = (w2.alloc (.cells #[.int .i64 y.op, .int .i64 y.kind, .int .i64 y.num, .string y.s, .string y.field, .slice qy ly cy] 24)).heap[b]? := fun b hb h => hgrow.out.block b (by rw [World.size_alloc]; exact hb) (fun h4 => h h4.symm)
      have hE3 : exsAtB (fun b => w.heap.size + 3 ≤ b ∧ b < w3.heap.size ∧ (Value.slice vq (k + 1) vc).ownBlock ≠ some b) w3 (foldL (es.take (k + 1))) (L ++ [exV y (.slice qy ly cy)]) := by
        rw [hts.out]
        have hsz1 := hsz2.out
        have hsz0 := hsz.out
        refine exsAtB.snoc (exsAtB.move ?_ ?_ _ L hE.out) (exAtB_mk (hy2.out.move ?_ ?_))
        · rintro b ⟨h1, h2, h3⟩
          refine ⟨h1, by omega, fun h4 => ?_⟩
          rcases hat2 with h5 | h5
          · exact h3 (h5 ▸ h4)
          · rw [h5] at h4; simp at h4; omega
        · rintro b ⟨h1, h2, h3⟩ hb
          exact hlow.out b h2 h3
        · rintro b ⟨h1, h2⟩
          refine ⟨by omega, by omega, fun h4 => ?_⟩
          rcases hat2 with h5 | h5
          · rw [h5] at h4; have := (hul.out b h4).2; omega
          · rw [h5] at h4; simp at h4; omega
        · rintro b ⟨h1, h2⟩ hb
          rw [hgb b (by omega) (fun h => by have := (hul.out b h).2; omega)]
          exact ((Kp.refl [] w2).alloc _).block b hb (by simp)
      have hE4 : Hid (exsAtB (fun b => w.heap.size + 3 ≤ b ∧ b < (w3.setCell ⟨w.heap.size + 1 + 1, 5, none⟩ (.slice vq (k + 1) vc)).heap.size ∧ (Value.slice vq (k + 1) vc).ownBlock ≠ some b) (w3.setCell ⟨w.heap.size + 1 + 1, 5, none⟩ (.slice vq (k + 1) vc)) (foldL (es.take (k + 1))) (L ++ [exV y (.slice qy ly cy)])) :=
        exsAtB.move (fun b h => ⟨h.1, by simpa [World.setCell] using h.2.1, h.2.2⟩) (fun b h _ => Below.heap_setCell w3 _ _ b (by have := h.1; show ¬ b = w.heap.size + 1 + 1; omega)) _ _ hE3
      have hO4 : Hid ((w3.setCell ⟨w.heap.size + 1 + 1, 5, none⟩ (.slice vq (k + 1) vc)).ownsRow (w.heap.size + 3) 24 6 (.slice vq (k + 1) vc) (k + 1) (L ++ [exV y (.slice qy ly cy)]).flatten) := by
        show World.ownsRow _ _ _ _ _ _ _
        rw [flatten_snoc]
        exact row_set hown'.out _ (by omega) _ _
      have hB1 : Hid (Blk (w3.setCell ⟨w.heap.size + 1 + 1, 5, none⟩ (.slice vq (k + 1) vc)) w.heap.size 24 #[.int .i64 op, .int .i64 kind, .int .i64 num, .string s, .string f, .slice (some ⟨b, off, none⟩) len cap]) := Blk.other (show Blk w3 _ _ _ from (hlow3.out _ (by omega)).trans hBe.out) (by simp; omega) _
      have hB2 : Hid (Blk (w3.setCell ⟨w.heap.size + 1 + 1, 5, none⟩ (.slice vq (k + 1) vc)) (w.heap.size + 1) 24 #[.int .i64 0, .int .i64 0, .int .i64 0, .string ⟨#[]⟩, .string ⟨#[]⟩, .slice none 0 0]) := Blk.other (show Blk w3 _ _ _ from (hlow3.out _ (by omega)).trans hBr.out) (by simp) _
      have hB3 : Hid (Blk (w3.setCell ⟨w.heap.size + 1 + 1, 5, none⟩ (.slice vq (k + 1) vc)) (w.heap.size + 1 + 1) 24 #[.int .i64 op, .int .i64 kind, .int .i64 num, .string s, .string f, .slice vq (k + 1) vc]) := hBo3.out.set 5 _
      have hK3 : Hid (Kp [] w (w3.setCell ⟨w.heap.size + 1 + 1, 5, none⟩ (.slice vq (k + 1) vc))) := (hK2.out.grown hgrow.out (fun j hj => .inr (by have := (hul.out j hj).1; omega))).setCell (.inr (by show w.heap.size ≤ w.heap.size + 1 + 1; omega)) _
      have hs3 : Hid (w.heap.size + 3 ≤ (w3.setCell ⟨w.heap.size + 1 + 1, 5, none⟩ (.slice vq (k + 1) vc)).heap.size) := by show _ ≤ _; have h1 := hsz.out; have h2 := hsz2.out; simp [World.setCell]; omega
      clear hgrow hown' hat hg3 hat2 hE3
      go_roundw
      case rel => exact ⟨k + 1, L ++ [exV y (.slice qy ly cy)], _, by omega, by go_num, hB1, hB2, hB3, hO4, hE4, hK3, hs3⟩
      case measure => simp [intOf]; omega
    · obtain rfl : len = k := by omega
      have hfull := tk_all hlen.out
      have hE2 := hE.out
      rw [hfull] at hE2
      have hus := row_at (by rw [hlf.out]) hu.out hE2
      obtain ⟨qu, cu, rfl⟩ := own_slice hu.out
      clear hE2 hfull hE hu hel IH hv hlt b5 o5 hk
      obtain ⟨l, hl⟩ : ∃ l, foldL es = l := ⟨_, rfl⟩
      rw [hl] at hus hshp hLw hlf hfe
      clear hl
      have hout : Hid (∀ X, Kp [] wr X → Kp [] w X ∧ Blk X w.heap.size 24 #[.int .i64 op, .int .i64 kind, .int .i64 num, .string s, .string f, .slice q len cap] ∧ Blk X (w.heap.size + 1) 24 #[.int .i64 0, .int .i64 0, .int .i64 0, .string ⟨#[]⟩, .string ⟨#[]⟩, .slice none 0 0] ∧ Blk X (w.heap.size + 1 + 1) 24 #[.int .i64 op, .int .i64 kind, .int .i64 num, .string s, .string f, .slice qu len cu] ∧ exsSlB (fun b => w.heap.size + 3 ≤ b ∧ b < wr.heap.size) X (.slice qu len cu) l ∧ wr.heap.size ≤ X.heap.size) := fun X hX => ⟨hK.out.trans hX, hBe.out.kp hX (by simp), hBr.out.kp hX (by simp), hBo.out.kp hX (by simp), hus.move (fun b h => h) (fun b _ hb => hX.block b hb (by simp)), hX.size⟩
      have hend : Hid (∀ (X F : World) (u : Value) (es : List Ex), Kp [] w X → Kp [w.heap.size + 1] X F → wr.heap.size ≤ X.heap.size → exsSlB (fun b => w.heap.size + 3 ≤ b ∧ b < wr.heap.size) X u es → Kp [] w F ∧ exsSlB (Rg w F) F u es) := by
        intro X F u es h1 h2 h3 h4
        refine ⟨h1.trans' h2 (fun i hi hl => by simp at hi; omega), h4.move (fun b h => ⟨by omega, by have := h2.size; omega⟩) (fun b h hb => h2.block b hb (by simp; omega))⟩
      replace hus := Lib.hid hus
      clear hBe hBr hBo hsz hi hz0 hz1 hz2
      have hX := hout.out wr (Kp.refl [] wr)
      obtain ⟨hXw, hXe, hXr, hXo, hXu, hXs⟩ := hX
      have f0 := hXr.frozen 0
      have f1 := hXr.frozen 1
      have f2 := hXr.frozen 2
      have f3 := hXr.frozen 3
      have f4 := hXr.frozen 4
      have f6 := hXr.frozen 5
      have g0 := hXr.cell 0 (v := .int .i64 0) rfl
      have g1 := hXr.cell 1 (v := .int .i64 0) rfl
      have g2 := hXr.cell 2 (v := .int .i64 0) rfl
      have g3 := hXr.cell 3 (v := .string ⟨#[]⟩) rfl
      have g4 := hXr.cell 4 (v := .string ⟨#[]⟩) rfl
      have g5 := hXr.cell 5 (v := .slice none 0 0) rfl
      have o0 := hXo.cell 0 (v := .int .i64 op) rfl
      have o1 := hXo.cell 1 (v := .int .i64 kind) rfl
      have o2 := hXo.cell 2 (v := .int .i64 num) rfl
      have o3 := hXo.cell 3 (v := .string s) rfl
      have o4 := hXo.cell 4 (v := .string f) rfl
      have o5 := hXo.cell 5 (v := .slice qu len cu) rfl
      have e0 := hXe.cell 0 (v := .int .i64 op) rfl
      have e1 := hXe.cell 1 (v := .int .i64 kind) rfl
      have e2 := hXe.cell 2 (v := .int .i64 num) rfl
      have e3 := hXe.cell 3 (v := .string s) rfl
      have e4 := hXe.cell 4 (v := .string f) rfl
      have e5 := hXe.cell 5 (v := .slice q len cap) rfl
      have hlt3 : w.heap.size + 1 < wr.heap.size := hXr.lt
      obtain ⟨hZ, hKz⟩ := set6 hXr (.int .i64 op) (.int .i64 kind) (.int .i64 num) (.string s) (.string f) (.slice qu len cu)
      have z0 := hZ.cell 0 (v := .int .i64 op) rfl
      have z1 := hZ.cell 1 (v := .int .i64 kind) rfl
      have z2 := hZ.cell 2 (v := .int .i64 num) rfl
      have z3 := hZ.cell 3 (v := .string s) rfl
      have z4 := hZ.cell 4 (v := .string f) rfl
      have z5 := hZ.cell 5 (v := .slice qu len cu) rfl
      replace hZ := Lib.hid hZ
      replace hKz := Lib.hid hKz
      replace hXw := Lib.hid hXw
      replace hXe := Lib.hid hXe
      replace hXr := Lib.hid hXr
      replace hXo := Lib.hid hXo
      replace hXu := Lib.hid hXu
      replace hXs := Lib.hid hXs
      go_wp2_with fail
      refine bodyPost_ret (v := .agg #[.int .i64 op, .int .i64 kind, .int .i64 num, .string s, .string f, .slice qu len cu]) (by simp [results, Tryz.results9, go_sem, z0, z1, z2, z3, z4, z5]) rfl ?_
      have hF := hend.out _ _ _ l hXw.out hKz.out hXs.out hXu.out
      rw [show y = _ from hfe.out.trans (step_lo h6)]
      exact ⟨_, rfl, hF.1, hF.2⟩

set_option maxRecDepth 100000 in
set_option maxHeartbeats 4000000 in
theorem rf_6_nc (kind num : Int) (s f : ByteArray) (es : List Ex) (a : Ex) (hl0 : foldL es = [a]) (ha1 : ¬ a.op = 1) (IH : ∀ i (hi : i < es.length), RFoldC es[i]) : RFoldC (.mk 6 kind num s f es) := by
  intro w v hv hw hcnt
  obtain ⟨q, cap, rfl⟩ := hv.val
  rw [well_eq, Bool.and_eq_true] at hw
  have hc1 : cntL es < (Ex.mk 6 kind num s f es).cnt := cnt_args (.mk 6 kind num s f es)
  have hl5 : es.length ≤ 500 := by have := len_cntL es; omega
  have hel : Hid (∀ i (hi : i < es.length), es[i].well = true ∧ es[i].cnt ≤ 500) := fun i hi => ⟨wellL_in hw.2 (List.getElem_mem hi), by have := cnt_mem hi; omega⟩
  have hshp : shpB (.mk 6 kind num s f (foldL es)) = true := by rw [shp_len _ _ _ _ _ (foldL_len es)]; exact hw.1
  have hLw : Hid (wellL (foldL es) = true) := foldL_well es hw.2
  have hlf : (foldL es).length = es.length := foldL_len es
  have hfe : foldE (.mk 6 kind num s f es) = stepE (.mk 6 kind num s f (foldL es)) := foldE_eq _
  replace IH := Lib.hid IH
  obtain ⟨i0, hi, hz0, hz1, hz2⟩ := info_parts infoEx
  replace hv : exsSl w (.slice q es.length cap) es := hv
  show Calls Tryz.prog 9 #[.agg #[.int .i64 6, .int .i64 kind, .int .i64 num, .string s, .string f, .slice q es.length cap]] w _
  obtain ⟨y, hy⟩ : ∃ y, foldE (.mk 6 kind num s f es) = y := ⟨_, rfl⟩
  rw [hy] at hfe ⊢
  obtain ⟨len, hlen⟩ : ∃ len, es.length = len := ⟨_, rfl⟩
  rw [hlen] at hv hl5 hlf ⊢
  replace hlen := Lib.hid hlen
  replace hfe := Lib.hid hfe
  replace hshp := Lib.hid hshp
  replace hlf := Lib.hid hlf
  replace hv := Lib.hid hv
  clear hw
  clear hc1 hcnt hy
  go_enter Tryz.func9, Tryz.ntmps9
  go_wp2_with fail
  go_loopw [4] (fun i wr => ∃ (k : Nat) (L : List (List Value)) (u : Value), k ≤ len ∧ i = .int .i64 k ∧
      Hid (Blk wr w.heap.size 24 #[.int .i64 6, .int .i64 kind, .int .i64 num, .string s, .string f, .slice q len cap]) ∧
      Hid (Blk wr (w.heap.size + 1) 24 #[.int .i64 0, .int .i64 0, .int .i64 0, .string ⟨#[]⟩, .string ⟨#[]⟩, .slice none 0 0]) ∧
      Hid (Blk wr (w.heap.size + 1 + 1) 24 #[.int .i64 6, .int .i64 kind, .int .i64 num, .string s, .string f, u]) ∧
      Hid (wr.ownsRow (w.heap.size + 3) 24 6 u k L.flatten) ∧
      Hid (exsAtB (fun b => w.heap.size + 3 ≤ b ∧ b < wr.heap.size ∧ u.ownBlock ≠ some b) wr (foldL (es.take k)) L) ∧ Hid (Kp [] w wr) ∧ Hid (w.heap.size + 3 ≤ wr.heap.size)) (fun i _ => len - (intOf i).toNat)
  case atStart => exact ⟨0, [], .slice none 0 0, Nat.zero_le _, rfl, ((Blk.new _ _ _).alloc _).alloc _, (blk_new (by simp) _ _).alloc _, blk_new (by simp) _ _, World.ownsRow_nil _ _ _ _, (by show exsAtB _ _ (foldL []) []; rw [foldL, exsAtB]), (((Kp.refl [] w).alloc _).alloc _).alloc _, (by show _ ≤ _; simp)⟩
  case round =>
    obtain ⟨k, L, u, hk, rfl, hBe, hBr, hBo, hu, hE, hK, hsz⟩ := hrel
    have b5 := hBe.out.cell 5 (v := .slice q len cap) rfl
    have o5 := hBo.out.cell 5 (v := u) rfl
    by_cases hlt : k < len
    · have hlt2 : k < es.length := by rw [hlen.out]; exact hlt
      obtain ⟨b, off, ux, rfl, hux, c0, c1, c2, c3, c4, c5⟩ := hv.out.at_in hK.out k hlt2
      have hcall := IH.out k hlt2
      have hts := Lib.hid (foldL_take_succ hlt2)
      have hwe := Lib.hid (hel.out k hlt2)
      obtain ⟨x, hx⟩ : ∃ x, es[k] = x := ⟨_, rfl⟩
      rw [hx] at c0 c1 c2 c3 c4 hcall hts hwe hux
      clear hx
      obtain ⟨qu, cu, rfl⟩ := hux.val
      have hfold := Lib.hid (hcall wr _ (hux.kp hK.out) hwe.out.1 hwe.out.2)
      clear hcall
      obtain ⟨lu, hlu⟩ : ∃ lu, x.args.length = lu := ⟨_, rfl⟩
      unfold exVal at hfold
      rw [hlu] at c5 hfold
      clear hlu hux
      obtain ⟨y, hy⟩ : ∃ y, foldE x = y := ⟨_, rfl⟩
      rw [hy] at hfold hts
      clear hy hwe
      have hul : Hid (∀ g, u.ownBlock = some g → w.heap.size + 3 ≤ g ∧ g < wr.heap.size) := fun g hg => hu.out.lt g hg
      go_wp2_with fail
      refine hfold.out.mono ?_
      rintro r w2 ⟨u1, rfl, hk2, hy⟩
      obtain ⟨qy, cy, rfl⟩ := hy.drop.val
      unfold exVal
      obtain ⟨ly, hly⟩ : ∃ ly, y.args.length = ly := ⟨_, rfl⟩
      rw [hly] at hy ⊢
      clear hly
      have hsz1 : wr.heap.size ≤ w2.heap.size := hk2.size
      have hU2 := Lib.hid ((row_kp hu.out hk2).alloc (.cells #[.int .i64 y.op, .int .i64 y.kind, .int .i64 y.num, .string y.s, .string y.field, .slice qy ly cy] 24))
      have hK2 := Lib.hid ((hK.out.trans hk2).alloc (.cells #[.int .i64 y.op, .int .i64 y.kind, .int .i64 y.num, .string y.s, .string y.field, .slice qy ly cy] 24))
      have hbs : Hid (w.heap.size + 3 ≤ (w2.alloc (.cells #[.int .i64 y.op, .int .i64 y.kind, .int .i64 y.num, .string y.s, .string y.field, .slice qy ly cy] 24)).heap.size) := by show _ ≤ _; rw [World.size_alloc]; have := hsz.out; omega
      have hnew := Lib.hid (ex_cells w2 y.op y.kind y.num y.s y.field (.slice qy ly cy))
      have hone := Lib.hid (ex_one y.op y.kind y.num y.s y.field qy ly cy)
      have hkeep : Hid (∀ b, b < wr.heap.size → (w2.alloc (.cells #[.int .i64 y.op, .int .i64 y.kind, .int .i64 y.num, .string y.s, .string y.field, .slice qy ly cy] 24)).heap[b]? = wr.heap[b]?) := fun b hb => by
        have h1 := hk2.alloc (.cells #[.int .i64 y.op, .int .i64 y.kind, .int .i64 y.num, .string y.s, .string y.field, .slice qy ly cy] 24)
        exact h1.block b hb (by simp)
      have hy2 := Lib.hid hy
      have hsz2 := Lib.hid hsz1
      replace hk2 := Lib.hid hk2
      clear hy hsz1
      go_wp2_with (at_builtin; refine wpList_append_own_at _ rfl (.tmp 25) (.tmp 32) 22 rfl (w.heap.size + 3) 24 i0 _ 6 80 Tryz.underlying22 hi hz0 hz1 hz2 rfl (by decide) _ k _ rfl hU2.out ⟨w2.heap.size, 0, none⟩ 1 1 [.int .i64 y.op, .int .i64 y.kind, .int .i64 y.num, .string y.s, .string y.field, .slice qy ly cy] rfl rfl hnew.out hone.out (by unfold maxLen; omega) (by omega) hbs.out ?_; intro v' w3 hown' hgrow _ hat; obtain ⟨vq, vc, rfl⟩ := own_slice hown'; have hlow : ∀ b, b < wr.heap.size → u.ownBlock ≠ some b → w3.heap[b]? = wr.heap[b]? := (fun b hb h => (hgrow.block b (by rw [World.size_alloc]; have := hsz2.out; omega) (fun h4 => h h4.symm)).trans (hkeep.out b hb)); have hlow3 : ∀ b, b < w.heap.size + 3 → w3.heap[b]? = wr.heap[b]? := (fun b hb => hlow b (by have := hsz.out; omega) (fun h4 => by have := (hul.out b h4).1; omega)); have hBo3 : Blk w3 (w.heap.size + 1 + 1) 24 #[.int .i64 6, .int .i64 kind, .int .i64 num, .string s, .string f, u] := (hlow3 _ (by omega)).trans hBo.out; have f5 := hBo3.frozen 5; have d5 := hBo3.cell 5 (v := u) rfl; replace hlow := Lib.hid hlow; replace hlow3 := Lib.hid hlow3; replace hBo3 := Lib.hid hBo3; replace hgrow := Lib.hid hgrow; replace hown' := Lib.hid hown'; replace hat := Lib.hid hat)
      have hg3 : (w2.alloc (.cells #[.int .i64 y.op, .int .i64 y.kind, .int .i64 y.num, .string y.s, .string y.field, .slice qy ly cy] 24)).heap.size ≤ w3.heap.size := hgrow.out.size
      rw [World.size_alloc] at hg3
      have hat2 : (Value.slice vq (k + 1) vc).ownBlock = u.ownBlock ∨ (Value.slice vq (k + 1) vc).ownBlock = some (w2.heap.size + 1) := by
        have := hat.out
        rw [World.size_alloc] at this
        exact this
      have hgb : ∀ b, b < w2.heap.size + 1 → u.ownBlock ≠ some b → w3.heap[b]? = (w2.alloc (.cells #[.int .i64 y.op, .int .i64 y.kind, .int .i64 y.num, .string y.s, .string y.field, .slice qy ly cy] 24)).heap[b]? := fun b hb h => hgrow.out.block b (by rw [World.size_alloc]; exact hb) (fun h4 => h h4.symm)
      have hE3 : exsAtB (fun b => w.heap.size + 3 ≤ b ∧ b < w3.heap.size ∧ (Value.slice vq (k + 1) vc).ownBlock ≠ some b) w3 (foldL (es.take (k + 1))) (L ++ [exV y (.slice qy ly cy)]) := by
        rw [hts.out]
        have hsz1 := hsz2.out
        have hsz0 := hsz.out
        refine exsAtB.snoc (exsAtB.move ?_ ?_ _ L hE.out) (exAtB_mk (hy2.out.move ?_ ?_))
        · rintro b ⟨h1, h2, h3⟩
          refine ⟨h1, by omega, fun h4 => ?_⟩
          rcases hat2 with h5 | h5
          · exact h3 (h5 ▸ h4)
          · rw [h5] at h4; simp at h4; omega
        · rintro b ⟨h1, h2, h3⟩ hb
          exact hlow.out b h2 h3
        · rintro b ⟨h1, h2⟩
          refine ⟨by omega, by omega, fun h4 => ?_⟩
          rcases hat2 with h5 | h5
          · rw [h5] at h4; have := (hul.out b h4).2; omega
          · rw [h5] at h4; simp at h4; omega
        · rintro b ⟨h1, h2⟩ hb
          rw [hgb b (by omega) (fun h => by have := (hul.out b h).2; omega)]
          exact ((Kp.refl [] w2).alloc _).block b hb (by simp)
      have hE4 : Hid (exsAtB (fun b => w.heap.size + 3 ≤ b ∧ b < (w3.setCell ⟨w.heap.size + 1 + 1, 5, none⟩ (.slice vq (k + 1) vc)).heap.size ∧ (Value.slice vq (k + 1) vc).ownBlock ≠ some b) (w3.setCell ⟨w.heap.size + 1 + 1, 5, none⟩ (.slice vq (k + 1) vc)) (foldL (es.take (k + 1))) (L ++ [exV y (.slice qy ly cy)])) :=
        exsAtB.move (fun b h => ⟨h.1, by simpa [World.setCell] using h.2.1, h.2.2⟩) (fun b h _ => Below.heap_setCell w3 _ _ b (by have := h.1; show ¬ b = w.heap.size + 1 + 1; omega)) _ _ hE3
      have hO4 : Hid ((w3.setCell ⟨w.heap.size + 1 + 1, 5, none⟩ (.slice vq (k + 1) vc)).ownsRow (w.heap.size + 3) 24 6 (.slice vq (k + 1) vc) (k + 1) (L ++ [exV y (.slice qy ly cy)]).flatten) := by
        show World.ownsRow _ _ _ _ _ _ _
        rw [flatten_snoc]
        exact row_set hown'.out _ (by omega) _ _
      have hB1 : Hid (Blk (w3.setCell ⟨w.heap.size + 1 + 1, 5, none⟩ (.slice vq (k + 1) vc)) w.heap.size 24 #[.int .i64 6, .int .i64 kind, .int .i64 num, .string s, .string f, .slice (some ⟨b, off, none⟩) len cap]) := Blk.other (show Blk w3 _ _ _ from (hlow3.out _ (by omega)).trans hBe.out) (by simp; omega) _
      have hB2 : Hid (Blk (w3.setCell ⟨w.heap.size + 1 + 1, 5, none⟩ (.slice vq (k + 1) vc)) (w.heap.size + 1) 24 #[.int .i64 0, .int .i64 0, .int .i64 0, .string ⟨#[]⟩, .string ⟨#[]⟩, .slice none 0 0]) := Blk.other (show Blk w3 _ _ _ from (hlow3.out _ (by omega)).trans hBr.out) (by simp) _
      have hB3 : Hid (Blk (w3.setCell ⟨w.heap.size + 1 + 1, 5, none⟩ (.slice vq (k + 1) vc)) (w.heap.size + 1 + 1) 24 #[.int .i64 6, .int .i64 kind, .int .i64 num, .string s, .string f, .slice vq (k + 1) vc]) := hBo3.out.set 5 _
      have hK3 : Hid (Kp [] w (w3.setCell ⟨w.heap.size + 1 + 1, 5, none⟩ (.slice vq (k + 1) vc))) := (hK2.out.grown hgrow.out (fun j hj => .inr (by have := (hul.out j hj).1; omega))).setCell (.inr (by show w.heap.size ≤ w.heap.size + 1 + 1; omega)) _
      have hs3 : Hid (w.heap.size + 3 ≤ (w3.setCell ⟨w.heap.size + 1 + 1, 5, none⟩ (.slice vq (k + 1) vc)).heap.size) := by show _ ≤ _; have h1 := hsz.out; have h2 := hsz2.out; simp [World.setCell]; omega
      clear hgrow hown' hat hg3 hat2 hE3
      go_roundw
      case rel => exact ⟨k + 1, L ++ [exV y (.slice qy ly cy)], _, by omega, by go_num, hB1, hB2, hB3, hO4, hE4, hK3, hs3⟩
      case measure => simp [intOf]; omega
    · obtain rfl : len = k := by omega
      have hfull := tk_all hlen.out
      have hE2 := hE.out
      rw [hfull] at hE2
      have hus := row_at (by rw [hlf.out]) hu.out hE2
      obtain ⟨qu, cu, rfl⟩ := own_slice hu.out
      clear hE2 hfull hE hu hel IH hv hlt b5 o5 hk
      rw [hl0] at hus hshp hLw hlf hfe
      have hout : Hid (∀ X, Kp [] wr X → Kp [] w X ∧ Blk X w.heap.size 24 #[.int .i64 6, .int .i64 kind, .int .i64 num, .string s, .string f, .slice q len cap] ∧ Blk X (w.heap.size + 1) 24 #[.int .i64 0, .int .i64 0, .int .i64 0, .string ⟨#[]⟩, .string ⟨#[]⟩, .slice none 0 0] ∧ Blk X (w.heap.size + 1 + 1) 24 #[.int .i64 6, .int .i64 kind, .int .i64 num, .string s, .string f, .slice qu len cu] ∧ exsSlB (fun b => w.heap.size + 3 ≤ b ∧ b < wr.heap.size) X (.slice qu len cu) [a] ∧ wr.heap.size ≤ X.heap.size) := fun X hX => ⟨hK.out.trans hX, hBe.out.kp hX (by simp), hBr.out.kp hX (by simp), hBo.out.kp hX (by simp), hus.move (fun b h => h) (fun b _ hb => hX.block b hb (by simp)), hX.size⟩
      have hend : Hid (∀ (X F : World) (u : Value) (es : List Ex), Kp [] w X → Kp [w.heap.size + 1] X F → wr.heap.size ≤ X.heap.size → exsSlB (fun b => w.heap.size + 3 ≤ b ∧ b < wr.heap.size) X u es → Kp [] w F ∧ exsSlB (Rg w F) F u es) := by
        intro X F u es h1 h2 h3 h4
        refine ⟨h1.trans' h2 (fun i hi hl => by simp at hi; omega), h4.move (fun b h => ⟨by omega, by have := h2.size; omega⟩) (fun b h hb => h2.block b hb (by simp; omega))⟩
      replace hus := Lib.hid hus
      clear hBe hBr hBo hsz hi hz0 hz1 hz2
      obtain ⟨b, off, rfl, hget⟩ := hus.out.at_ (by simp)
      obtain ⟨qa, la, ca, hla, hua, hca⟩ := hget 0 (by simp)
      replace hca : ∀ j x, (exV a (.slice qa la ca))[j]? = some x → wr.cell? ⟨b, off + (0 * 6 + j), none⟩ = some x := hca
      have a0 := hca 0 _ rfl
      have a1 := hca 1 _ rfl
      have a2 := hca 2 _ rfl
      have a3 := hca 3 _ rfl
      have a4 := hca 4 _ rfl
      have a5 := hca 5 _ rfl
      simp only [Nat.zero_mul, Nat.zero_add, Nat.add_zero, Nat.one_mul] at a0 a1 a2 a3 a4 a5
      replace hua : exsSlB _ wr (.slice qa la ca) a.args := hua
      clear hget
      have hln : Hid (1 = len) := hlf.out
      have hp0 : 0 < len := by have := hln.out; omega
      have hab : (a.op != 1) = true := by simpa using ha1
      have hY := hout.out wr (Kp.refl [] wr)
      have e0x := hY.2.1.cell 0 (v := .int .i64 6) rfl
      have e5x := hY.2.1.cell 5 (v := .slice q len cap) rfl
      have o5x := hY.2.2.2.1.cell 5 (v := .slice (some ⟨b, off, none⟩) len cu) rfl
      clear hY
      have hX := hout.out (wr.alloc (.cells #[.int .i64 a.op, .int .i64 a.kind, .int .i64 a.num, .string a.s, .string a.field, .slice qa la ca] 24)) ((Kp.refl [] wr).alloc (.cells #[.int .i64 a.op, .int .i64 a.kind, .int .i64 a.num, .string a.s, .string a.field, .slice qa la ca] 24))
      obtain ⟨hXw, hXe, hXr, hXo, hXu, hXs⟩ := hX
      have f0 := hXr.frozen 0
      have f1 := hXr.frozen 1
      have f2 := hXr.frozen 2
      have f3 := hXr.frozen 3
      have f4 := hXr.frozen 4
      have f6 := hXr.frozen 5
      have g0 := hXr.cell 0 (v := .int .i64 0) rfl
      have g1 := hXr.cell 1 (v := .int .i64 0) rfl
      have g2 := hXr.cell 2 (v := .int .i64 0) rfl
      have g3 := hXr.cell 3 (v := .string ⟨#[]⟩) rfl
      have g4 := hXr.cell 4 (v := .string ⟨#[]⟩) rfl
      have g5 := hXr.cell 5 (v := .slice none 0 0) rfl
      have o0 := hXo.cell 0 (v := .int .i64 6) rfl
      have o1 := hXo.cell 1 (v := .int .i64 kind) rfl
      have o2 := hXo.cell 2 (v := .int .i64 num) rfl
      have o3 := hXo.cell 3 (v := .string s) rfl
      have o4 := hXo.cell 4 (v := .string f) rfl
      have o5 := hXo.cell 5 (v := .slice (some ⟨b, off, none⟩) len cu) rfl
      have e0 := hXe.cell 0 (v := .int .i64 6) rfl
      have e1 := hXe.cell 1 (v := .int .i64 kind) rfl
      have e2 := hXe.cell 2 (v := .int .i64 num) rfl
      have e3 := hXe.cell 3 (v := .string s) rfl
      have e4 := hXe.cell 4 (v := .string f) rfl
      have e5 := hXe.cell 5 (v := .slice q len cap) rfl
      have hlt3 : w.heap.size + 1 < (wr.alloc (.cells #[.int .i64 a.op, .int .i64 a.kind, .int .i64 a.num, .string a.s, .string a.field, .slice qa la ca] 24)).heap.size := hXr.lt
      obtain ⟨hZ, hKz⟩ := set6 hXr (.int .i64 6) (.int .i64 kind) (.int .i64 num) (.string s) (.string f) (.slice (some ⟨b, off, none⟩) len cu)
      have z0 := hZ.cell 0 (v := .int .i64 6) rfl
      have z1 := hZ.cell 1 (v := .int .i64 kind) rfl
      have z2 := hZ.cell 2 (v := .int .i64 num) rfl
      have z3 := hZ.cell 3 (v := .string s) rfl
      have z4 := hZ.cell 4 (v := .string f) rfl
      have z5 := hZ.cell 5 (v := .slice (some ⟨b, off, none⟩) len cu) rfl
      replace hZ := Lib.hid hZ
      replace hKz := Lib.hid hKz
      replace hXw := Lib.hid hXw
      replace hXe := Lib.hid hXe
      replace hXr := Lib.hid hXr
      replace hXo := Lib.hid hXo
      replace hXu := Lib.hid hXu
      replace hXs := Lib.hid hXs
      go_wp2_with fail
      refine bodyPost_ret (v := .agg #[.int .i64 6, .int .i64 kind, .int .i64 num, .string s, .string f, .slice (some ⟨b, off, none⟩) len cu]) (by simp [results, Tryz.results9, go_sem, z0, z1, z2, z3, z4, z5]) rfl ?_
      have hF := hend.out _ _ _ [a] hXw.out hKz.out hXs.out hXu.out
      rw [show y = _ from hfe.out.trans (step_un_no (by omega) (.inl ha1))]
      exact ⟨_, rfl, hF.1, hF.2⟩

set_option maxRecDepth 100000 in
set_option maxHeartbeats 4000000 in
theorem rf_6_nk (kind num : Int) (s f : ByteArray) (es : List Ex) (a : Ex) (hl0 : foldL es = [a]) (ha1 : a.op = 1) (hka : ¬ a.kind = 1) (IH : ∀ i (hi : i < es.length), RFoldC es[i]) : RFoldC (.mk 6 kind num s f es) := by
  intro w v hv hw hcnt
  obtain ⟨q, cap, rfl⟩ := hv.val
  rw [well_eq, Bool.and_eq_true] at hw
  have hc1 : cntL es < (Ex.mk 6 kind num s f es).cnt := cnt_args (.mk 6 kind num s f es)
  have hl5 : es.length ≤ 500 := by have := len_cntL es; omega
  have hel : Hid (∀ i (hi : i < es.length), es[i].well = true ∧ es[i].cnt ≤ 500) := fun i hi => ⟨wellL_in hw.2 (List.getElem_mem hi), by have := cnt_mem hi; omega⟩
  have hshp : shpB (.mk 6 kind num s f (foldL es)) = true := by rw [shp_len _ _ _ _ _ (foldL_len es)]; exact hw.1
  have hLw : Hid (wellL (foldL es) = true) := foldL_well es hw.2
  have hlf : (foldL es).length = es.length := foldL_len es
  have hfe : foldE (.mk 6 kind num s f es) = stepE (.mk 6 kind num s f (foldL es)) := foldE_eq _
  replace IH := Lib.hid IH
  obtain ⟨i0, hi, hz0, hz1, hz2⟩ := info_parts infoEx
  replace hv : exsSl w (.slice q es.length cap) es := hv
  show Calls Tryz.prog 9 #[.agg #[.int .i64 6, .int .i64 kind, .int .i64 num, .string s, .string f, .slice q es.length cap]] w _
  obtain ⟨y, hy⟩ : ∃ y, foldE (.mk 6 kind num s f es) = y := ⟨_, rfl⟩
  rw [hy] at hfe ⊢
  obtain ⟨len, hlen⟩ : ∃ len, es.length = len := ⟨_, rfl⟩
  rw [hlen] at hv hl5 hlf ⊢
  replace hlen := Lib.hid hlen
  replace hfe := Lib.hid hfe
  replace hshp := Lib.hid hshp
  replace hlf := Lib.hid hlf
  replace hv := Lib.hid hv
  clear hw
  clear hc1 hcnt hy
  go_enter Tryz.func9, Tryz.ntmps9
  go_wp2_with fail
  go_loopw [4] (fun i wr => ∃ (k : Nat) (L : List (List Value)) (u : Value), k ≤ len ∧ i = .int .i64 k ∧
      Hid (Blk wr w.heap.size 24 #[.int .i64 6, .int .i64 kind, .int .i64 num, .string s, .string f, .slice q len cap]) ∧
      Hid (Blk wr (w.heap.size + 1) 24 #[.int .i64 0, .int .i64 0, .int .i64 0, .string ⟨#[]⟩, .string ⟨#[]⟩, .slice none 0 0]) ∧
      Hid (Blk wr (w.heap.size + 1 + 1) 24 #[.int .i64 6, .int .i64 kind, .int .i64 num, .string s, .string f, u]) ∧
      Hid (wr.ownsRow (w.heap.size + 3) 24 6 u k L.flatten) ∧
      Hid (exsAtB (fun b => w.heap.size + 3 ≤ b ∧ b < wr.heap.size ∧ u.ownBlock ≠ some b) wr (foldL (es.take k)) L) ∧ Hid (Kp [] w wr) ∧ Hid (w.heap.size + 3 ≤ wr.heap.size)) (fun i _ => len - (intOf i).toNat)
  case atStart => exact ⟨0, [], .slice none 0 0, Nat.zero_le _, rfl, ((Blk.new _ _ _).alloc _).alloc _, (blk_new (by simp) _ _).alloc _, blk_new (by simp) _ _, World.ownsRow_nil _ _ _ _, (by show exsAtB _ _ (foldL []) []; rw [foldL, exsAtB]), (((Kp.refl [] w).alloc _).alloc _).alloc _, (by show _ ≤ _; simp)⟩
  case round =>
    obtain ⟨k, L, u, hk, rfl, hBe, hBr, hBo, hu, hE, hK, hsz⟩ := hrel
    have b5 := hBe.out.cell 5 (v := .slice q len cap) rfl
    have o5 := hBo.out.cell 5 (v := u) rfl
    by_cases hlt : k < len
    · have hlt2 : k < es.length := by rw [hlen.out]; exact hlt
      obtain ⟨b, off, ux, rfl, hux, c0, c1, c2, c3, c4, c5⟩ := hv.out.at_in hK.out k hlt2
      have hcall := IH.out k hlt2
      have hts := Lib.hid (foldL_take_succ hlt2)
      have hwe := Lib.hid (hel.out k hlt2)
      obtain ⟨x, hx⟩ : ∃ x, es[k] = x := ⟨_, rfl⟩
      rw [hx] at c0 c1 c2 c3 c4 hcall hts hwe hux
      clear hx
      obtain ⟨qu, cu, rfl⟩ := hux.val
      have hfold := Lib.hid (hcall wr _ (hux.kp hK.out) hwe.out.1 hwe.out.2)
      clear hcall
      obtain ⟨lu, hlu⟩ : ∃ lu, x.args.length = lu := ⟨_, rfl⟩
      unfold exVal at hfold
      rw [hlu] at c5 hfold
      clear hlu hux
      obtain ⟨y, hy⟩ : ∃ y, foldE x = y := ⟨_, rfl⟩
      rw [hy] at hfold hts
      clear hy hwe
      have hul : Hid (∀ g, u.ownBlock = some g → w.heap.size + 3 ≤ g ∧ g < wr.heap.size) := fun g hg => hu.out.lt g hg
      go_wp2_with fail
      refine hfold.out.mono ?_
      rintro r w2 ⟨u1, rfl, hk2, hy⟩
      obtain ⟨qy, cy, rfl⟩ := hy.drop.val
      unfold exVal
      obtain ⟨ly, hly⟩ : ∃ ly, y.args.length = ly := ⟨_, rfl⟩
      rw [hly] at hy ⊢
      clear hly
      have hsz1 : wr.heap.size ≤ w2.heap.size := hk2.size
      have hU2 := Lib.hid ((row_kp hu.out hk2).alloc (.cells #[.int .i64 y.op, .int .i64 y.kind, .int .i64 y.num, .string y.s, .string y.field, .slice qy ly cy] 24))
      have hK2 := Lib.hid ((hK.out.trans hk2).alloc (.cells #[.int .i64 y.op, .int .i64 y.kind, .int .i64 y.num, .string y.s, .string y.field, .slice qy ly cy] 24))
      have hbs : Hid (w.heap.size + 3 ≤ (w2.alloc (.cells #[.int .i64 y.op, .int .i64 y.kind, .int .i64 y.num, .string y.s, .string y.field, .slice qy ly cy] 24)).heap.size) := by show _ ≤ _; rw [World.size_alloc]; have := hsz.out; omega
      have hnew := Lib.hid (ex_cells w2 y.op y.kind y.num y.s y.field (.slice qy ly cy))
      have hone := Lib.hid (ex_one y.op y.kind y.num y.s y.field qy ly cy)
      have hkeep : Hid (∀ b, b < wr.heap.size → (w2.alloc (.cells #[.int .i64 y.op, .int .i64 y.kind, .int .i64 y.num, .string y.s, .string y.field, .slice qy ly cy] 24)).heap[b]? = wr.heap[b]?) := fun b hb => by
        have h1 := hk2.alloc (.cells #[.int .i64 y.op, .int .i64 y.kind, .int .i64 y.num, .string y.s, .string y.field, .slice qy ly cy] 24)
        exact h1.block b hb (by simp)
      have hy2 := Lib.hid hy
      have hsz2 := Lib.hid hsz1
      replace hk2 := Lib.hid hk2
      clear hy hsz1
      go_wp2_with (at_builtin; refine wpList_append_own_at _ rfl (.tmp 25) (.tmp 32) 22 rfl (w.heap.size + 3) 24 i0 _ 6 80 Tryz.underlying22 hi hz0 hz1 hz2 rfl (by decide) _ k _ rfl hU2.out ⟨w2.heap.size, 0, none⟩ 1 1 [.int .i64 y.op, .int .i64 y.kind, .int .i64 y.num, .string y.s, .string y.field, .slice qy ly cy] rfl rfl hnew.out hone.out (by unfold maxLen; omega) (by omega) hbs.out ?_; intro v' w3 hown' hgrow _ hat; obtain ⟨vq, vc, rfl⟩ := own_slice hown'; have hlow : ∀ b, b < wr.heap.size → u.ownBlock ≠ some b → w3.heap[b]? = wr.heap[b]? := (fun b hb h => (hgrow.block b (by rw [World.size_alloc]; have := hsz2.out; omega) (fun h4 => h h4.symm)).trans (hkeep.out b hb)); have hlow3 : ∀ b, b < w.heap.size + 3 → w3.heap[b]? = wr.heap[b]? := (fun b hb => hlow b (by have := hsz.out; omega) (fun h4 => by have := (hul.out b h4).1; omega)); have hBo3 : Blk w3 (w.heap.size + 1 + 1) 24 #[.int .i64 6, .int .i64 kind, .int .i64 num, .string s, .string f, u] := (hlow3 _ (by omega)).trans hBo.out; have f5 := hBo3.frozen 5; have d5 := hBo3.cell 5 (v := u) rfl; replace hlow := Lib.hid hlow; replace hlow3 := Lib.hid hlow3; replace hBo3 := Lib.hid hBo3; replace hgrow := Lib.hid hgrow; replace hown' := Lib.hid hown'; replace hat := Lib.hid hat)
      have hg3 : (w2.alloc (.cells #[.int .i64 y.op, .int .i64 y.kind, .int .i64 y.num, .string y.s, .string y.field, .slice qy ly cy] 24)).heap.size ≤ w3.heap.size := hgrow.out.size
      rw [World.size_alloc] at hg3
      have hat2 : (Value.slice vq (k + 1) vc).ownBlock = u.ownBlock ∨ (Value.slice vq (k + 1) vc).ownBlock = some (w2.heap.size + 1) := by
        have := hat.out
        rw [World.size_alloc] at this
        exact this
      have hgb : ∀ b, b < w2.heap.size + 1 → u.ownBlock ≠ some b → w3.heap[b]? = (w2.alloc (.cells #[.int .i64 y.op, .int .i64 y.kind, .int .i64 y.num, .string y.s, .string y.field, .slice qy ly cy] 24)).heap[b]? := fun b hb h => hgrow.out.block b (by rw [World.size_alloc]; exact hb) (fun h4 => h h4.symm)
      have hE3 : exsAtB (fun b => w.heap.size + 3 ≤ b ∧ b < w3.heap.size ∧ (Value.slice vq (k + 1) vc).ownBlock ≠ some b) w3 (foldL (es.take (k + 1))) (L ++ [exV y (.slice qy ly cy)]) := by
        rw [hts.out]
        have hsz1 := hsz2.out
        have hsz0 := hsz.out
        refine exsAtB.snoc (exsAtB.move ?_ ?_ _ L hE.out) (exAtB_mk (hy2.out.move ?_ ?_))
        · rintro b ⟨h1, h2, h3⟩
          refine ⟨h1, by omega, fun h4 => ?_⟩
          rcases hat2 with h5 | h5
          · exact h3 (h5 ▸ h4)
          · rw [h5] at h4; simp at h4; omega
        · rintro b ⟨h1, h2, h3⟩ hb
          exact hlow.out b h2 h3
        · rintro b ⟨h1, h2⟩
          refine ⟨by omega, by omega, fun h4 => ?_⟩
          rcases hat2 with h5 | h5
          · rw [h5] at h4; have := (hul.out b h4).2; omega
          · rw [h5] at h4; simp at h4; omega
        · rintro b ⟨h1, h2⟩ hb
          rw [hgb b (by omega) (fun h => by have := (hul.out b h).2; omega)]
          exact ((Kp.refl [] w2).alloc _).block b hb (by simp)
      have hE4 : Hid (exsAtB (fun b => w.heap.size + 3 ≤ b ∧ b < (w3.setCell ⟨w.heap.size + 1 + 1, 5, none⟩ (.slice vq (k + 1) vc)).heap.size ∧ (Value.slice vq (k + 1) vc).ownBlock ≠ some b) (w3.setCell ⟨w.heap.size + 1 + 1, 5, none⟩ (.slice vq (k + 1) vc)) (foldL (es.take (k + 1))) (L ++ [exV y (.slice qy ly cy)])) :=
        exsAtB.move (fun b h => ⟨h.1, by simpa [World.setCell] using h.2.1, h.2.2⟩) (fun b h _ => Below.heap_setCell w3 _ _ b (by have := h.1; show ¬ b = w.heap.size + 1 + 1; omega)) _ _ hE3
      have hO4 : Hid ((w3.setCell ⟨w.heap.size + 1 + 1, 5, none⟩ (.slice vq (k + 1) vc)).ownsRow (w.heap.size + 3) 24 6 (.slice vq (k + 1) vc) (k + 1) (L ++ [exV y (.slice qy ly cy)]).flatten) := by
        show World.ownsRow _ _ _ _ _ _ _
        rw [flatten_snoc]
        exact row_set hown'.out _ (by omega) _ _
      have hB1 : Hid (Blk (w3.setCell ⟨w.heap.size + 1 + 1, 5, none⟩ (.slice vq (k + 1) vc)) w.heap.size 24 #[.int .i64 6, .int .i64 kind, .int .i64 num, .string s, .string f, .slice (some ⟨b, off, none⟩) len cap]) := Blk.other (show Blk w3 _ _ _ from (hlow3.out _ (by omega)).trans hBe.out) (by simp; omega) _
      have hB2 : Hid (Blk (w3.setCell ⟨w.heap.size + 1 + 1, 5, none⟩ (.slice vq (k + 1) vc)) (w.heap.size + 1) 24 #[.int .i64 0, .int .i64 0, .int .i64 0, .string ⟨#[]⟩, .string ⟨#[]⟩, .slice none 0 0]) := Blk.other (show Blk w3 _ _ _ from (hlow3.out _ (by omega)).trans hBr.out) (by simp) _
      have hB3 : Hid (Blk (w3.setCell ⟨w.heap.size + 1 + 1, 5, none⟩ (.slice vq (k + 1) vc)) (w.heap.size + 1 + 1) 24 #[.int .i64 6, .int .i64 kind, .int .i64 num, .string s, .string f, .slice vq (k + 1) vc]) := hBo3.out.set 5 _
      have hK3 : Hid (Kp [] w (w3.setCell ⟨w.heap.size + 1 + 1, 5, none⟩ (.slice vq (k + 1) vc))) := (hK2.out.grown hgrow.out (fun j hj => .inr (by have := (hul.out j hj).1; omega))).setCell (.inr (by show w.heap.size ≤ w.heap.size + 1 + 1; omega)) _
      have hs3 : Hid (w.heap.size + 3 ≤ (w3.setCell ⟨w.heap.size + 1 + 1, 5, none⟩ (.slice vq (k + 1) vc)).heap.size) := by show _ ≤ _; have h1 := hsz.out; have h2 := hsz2.out; simp [World.setCell]; omega
      clear hgrow hown' hat hg3 hat2 hE3
      go_roundw
      case rel => exact ⟨k + 1, L ++ [exV y (.slice qy ly cy)], _, by omega, by go_num, hB1, hB2, hB3, hO4, hE4, hK3, hs3⟩
      case measure => simp [intOf]; omega
    · obtain rfl : len = k := by omega
      have hfull := tk_all hlen.out
      have hE2 := hE.out
      rw [hfull] at hE2
      have hus := row_at (by rw [hlf.out]) hu.out hE2
      obtain ⟨qu, cu, rfl⟩ := own_slice hu.out
      clear hE2 hfull hE hu hel IH hv hlt b5 o5 hk
      rw [hl0] at hus hshp hLw hlf hfe
      have hout : Hid (∀ X, Kp [] wr X → Kp [] w X ∧ Blk X w.heap.size 24 #[.int .i64 6, .int .i64 kind, .int .i64 num, .string s, .string f, .slice q len cap] ∧ Blk X (w.heap.size + 1) 24 #[.int .i64 0, .int .i64 0, .int .i64 0, .string ⟨#[]⟩, .string ⟨#[]⟩, .slice none 0 0] ∧ Blk X (w.heap.size + 1 + 1) 24 #[.int .i64 6, .int .i64 kind, .int .i64 num, .string s, .string f, .slice qu len cu] ∧ exsSlB (fun b => w.heap.size + 3 ≤ b ∧ b < wr.heap.size) X (.slice qu len cu) [a] ∧ wr.heap.size ≤ X.heap.size) := fun X hX => ⟨hK.out.trans hX, hBe.out.kp hX (by simp), hBr.out.kp hX (by simp), hBo.out.kp hX (by simp), hus.move (fun b h => h) (fun b _ hb => hX.block b hb (by simp)), hX.size⟩
      have hend : Hid (∀ (X F : World) (u : Value) (es : List Ex), Kp [] w X → Kp [w.heap.size + 1] X F → wr.heap.size ≤ X.heap.size → exsSlB (fun b => w.heap.size + 3 ≤ b ∧ b < wr.heap.size) X u es → Kp [] w F ∧ exsSlB (Rg w F) F u es) := by
        intro X F u es h1 h2 h3 h4
        refine ⟨h1.trans' h2 (fun i hi hl => by simp at hi; omega), h4.move (fun b h => ⟨by omega, by have := h2.size; omega⟩) (fun b h hb => h2.block b hb (by simp; omega))⟩
      replace hus := Lib.hid hus
      clear hBe hBr hBo hsz hi hz0 hz1 hz2
      obtain ⟨b, off, rfl, hget⟩ := hus.out.at_ (by simp)
      obtain ⟨qa, la, ca, hla, hua, hca⟩ := hget 0 (by simp)
      replace hca : ∀ j x, (exV a (.slice qa la ca))[j]? = some x → wr.cell? ⟨b, off + (0 * 6 + j), none⟩ = some x := hca
      have a0 := hca 0 _ rfl
      have a1 := hca 1 _ rfl
      have a2 := hca 2 _ rfl
      have a3 := hca 3 _ rfl
      have a4 := hca 4 _ rfl
      have a5 := hca 5 _ rfl
      simp only [Nat.zero_mul, Nat.zero_add, Nat.add_zero, Nat.one_mul] at a0 a1 a2 a3 a4 a5
      replace hua : exsSlB _ wr (.slice qa la ca) a.args := hua
      clear hget
      have hln : Hid (1 = len) := hlf.out
      have hp0 : 0 < len := by have := hln.out; omega
      rw [ha1] at a0
      replace ha1 := Lib.hid ha1
      have hok : kindOk 6 a.kind = false := by simp [kindOk, hka]
      have hku : Hid (∀ W : World, Calls Tryz.prog 18 #[.int .i64 6, .int .i64 a.kind] W fun r w' => r = .returned (.int .i64 0) ∧ w' = W) := fun W => (kun_c 6 a.kind W).mono fun r w' h => ⟨h.1.trans (ret_int (by rw [if_neg (by omega)])), h.2⟩
      have hY := hout.out wr (Kp.refl [] wr)
      have e0x := hY.2.1.cell 0 (v := .int .i64 6) rfl
      have e5x := hY.2.1.cell 5 (v := .slice q len cap) rfl
      have o5x := hY.2.2.2.1.cell 5 (v := .slice (some ⟨b, off, none⟩) len cu) rfl
      clear hY
      have hX := hout.out (wr.alloc (.cells #[.int .i64 1, .int .i64 a.kind, .int .i64 a.num, .string a.s, .string a.field, .slice qa la ca] 24)) ((Kp.refl [] wr).alloc (.cells #[.int .i64 1, .int .i64 a.kind, .int .i64 a.num, .string a.s, .string a.field, .slice qa la ca] 24))
      obtain ⟨hXw, hXe, hXr, hXo, hXu, hXs⟩ := hX
      have f0 := hXr.frozen 0
      have f1 := hXr.frozen 1
      have f2 := hXr.frozen 2
      have f3 := hXr.frozen 3
      have f4 := hXr.frozen 4
      have f6 := hXr.frozen 5
      have g0 := hXr.cell 0 (v := .int .i64 0) rfl
      have g1 := hXr.cell 1 (v := .int .i64 0) rfl
      have g2 := hXr.cell 2 (v := .int .i64 0) rfl
      have g3 := hXr.cell 3 (v := .string ⟨#[]⟩) rfl
      have g4 := hXr.cell 4 (v := .string ⟨#[]⟩) rfl
      have g5 := hXr.cell 5 (v := .slice none 0 0) rfl
      have o0 := hXo.cell 0 (v := .int .i64 6) rfl
      have o1 := hXo.cell 1 (v := .int .i64 kind) rfl
      have o2 := hXo.cell 2 (v := .int .i64 num) rfl
      have o3 := hXo.cell 3 (v := .string s) rfl
      have o4 := hXo.cell 4 (v := .string f) rfl
      have o5 := hXo.cell 5 (v := .slice (some ⟨b, off, none⟩) len cu) rfl
      have e0 := hXe.cell 0 (v := .int .i64 6) rfl
      have e1 := hXe.cell 1 (v := .int .i64 kind) rfl
      have e2 := hXe.cell 2 (v := .int .i64 num) rfl
      have e3 := hXe.cell 3 (v := .string s) rfl
      have e4 := hXe.cell 4 (v := .string f) rfl
      have e5 := hXe.cell 5 (v := .slice q len cap) rfl
      have hlt3 : w.heap.size + 1 < (wr.alloc (.cells #[.int .i64 1, .int .i64 a.kind, .int .i64 a.num, .string a.s, .string a.field, .slice qa la ca] 24)).heap.size := hXr.lt
      obtain ⟨hZ, hKz⟩ := set6 hXr (.int .i64 6) (.int .i64 kind) (.int .i64 num) (.string s) (.string f) (.slice (some ⟨b, off, none⟩) len cu)
      have z0 := hZ.cell 0 (v := .int .i64 6) rfl
      have z1 := hZ.cell 1 (v := .int .i64 kind) rfl
      have z2 := hZ.cell 2 (v := .int .i64 num) rfl
      have z3 := hZ.cell 3 (v := .string s) rfl
      have z4 := hZ.cell 4 (v := .string f) rfl
      have z5 := hZ.cell 5 (v := .slice (some ⟨b, off, none⟩) len cu) rfl
      replace hZ := Lib.hid hZ
      replace hKz := Lib.hid hKz
      replace hXw := Lib.hid hXw
      replace hXe := Lib.hid hXe
      replace hXr := Lib.hid hXr
      replace hXo := Lib.hid hXo
      replace hXu := Lib.hid hXu
      replace hXs := Lib.hid hXs
      go_wp2_with (go_at_call 18; refine (hku.out _).mono ?_; rintro r w6 ⟨rfl, rfl⟩)
      refine bodyPost_ret (v := .agg #[.int .i64 6, .int .i64 kind, .int .i64 num, .string s, .string f, .slice (some ⟨b, off, none⟩) len cu]) (by simp [results, Tryz.results9, go_sem, z0, z1, z2, z3, z4, z5]) rfl ?_
      have hF := hend.out _ _ _ [a] hXw.out hKz.out hXs.out hXu.out
      rw [show y = _ from hfe.out.trans (step_un_no (by omega) (.inr (.inl hok)))]
      exact ⟨_, rfl, hF.1, hF.2⟩

set_option maxRecDepth 100000 in
set_option maxHeartbeats 4000000 in
theorem rf_6_neg (kind num : Int) (s f : ByteArray) (es : List Ex) (a : Ex) (hl0 : foldL es = [a]) (ha1 : a.op = 1) (hka : a.kind = 1) (hneg : unR 6 a.num < 0) (IH : ∀ i (hi : i < es.length), RFoldC es[i]) : RFoldC (.mk 6 kind num s f es) := by
  intro w v hv hw hcnt
  obtain ⟨q, cap, rfl⟩ := hv.val
  rw [well_eq, Bool.and_eq_true] at hw
  have hc1 : cntL es < (Ex.mk 6 kind num s f es).cnt := cnt_args (.mk 6 kind num s f es)
  have hl5 : es.length ≤ 500 := by have := len_cntL es; omega
  have hel : Hid (∀ i (hi : i < es.length), es[i].well = true ∧ es[i].cnt ≤ 500) := fun i hi => ⟨wellL_in hw.2 (List.getElem_mem hi), by have := cnt_mem hi; omega⟩
  have hshp : shpB (.mk 6 kind num s f (foldL es)) = true := by rw [shp_len _ _ _ _ _ (foldL_len es)]; exact hw.1
  have hLw : Hid (wellL (foldL es) = true) := foldL_well es hw.2
  have hlf : (foldL es).length = es.length := foldL_len es
  have hfe : foldE (.mk 6 kind num s f es) = stepE (.mk 6 kind num s f (foldL es)) := foldE_eq _
  replace IH := Lib.hid IH
  obtain ⟨i0, hi, hz0, hz1, hz2⟩ := info_parts infoEx
  replace hv : exsSl w (.slice q es.length cap) es := hv
  show Calls Tryz.prog 9 #[.agg #[.int .i64 6, .int .i64 kind, .int .i64 num, .string s, .string f, .slice q es.length cap]] w _
  obtain ⟨y, hy⟩ : ∃ y, foldE (.mk 6 kind num s f es) = y := ⟨_, rfl⟩
  rw [hy] at hfe ⊢
  obtain ⟨len, hlen⟩ : ∃ len, es.length = len := ⟨_, rfl⟩
  rw [hlen] at hv hl5 hlf ⊢
  replace hlen := Lib.hid hlen
  replace hfe := Lib.hid hfe
  replace hshp := Lib.hid hshp
  replace hlf := Lib.hid hlf
  replace hv := Lib.hid hv
  clear hw
  clear hc1 hcnt hy
  go_enter Tryz.func9, Tryz.ntmps9
  go_wp2_with fail
  go_loopw [4] (fun i wr => ∃ (k : Nat) (L : List (List Value)) (u : Value), k ≤ len ∧ i = .int .i64 k ∧
      Hid (Blk wr w.heap.size 24 #[.int .i64 6, .int .i64 kind, .int .i64 num, .string s, .string f, .slice q len cap]) ∧
      Hid (Blk wr (w.heap.size + 1) 24 #[.int .i64 0, .int .i64 0, .int .i64 0, .string ⟨#[]⟩, .string ⟨#[]⟩, .slice none 0 0]) ∧
      Hid (Blk wr (w.heap.size + 1 + 1) 24 #[.int .i64 6, .int .i64 kind, .int .i64 num, .string s, .string f, u]) ∧
      Hid (wr.ownsRow (w.heap.size + 3) 24 6 u k L.flatten) ∧
      Hid (exsAtB (fun b => w.heap.size + 3 ≤ b ∧ b < wr.heap.size ∧ u.ownBlock ≠ some b) wr (foldL (es.take k)) L) ∧ Hid (Kp [] w wr) ∧ Hid (w.heap.size + 3 ≤ wr.heap.size)) (fun i _ => len - (intOf i).toNat)
  case atStart => exact ⟨0, [], .slice none 0 0, Nat.zero_le _, rfl, ((Blk.new _ _ _).alloc _).alloc _, (blk_new (by simp) _ _).alloc _, blk_new (by simp) _ _, World.ownsRow_nil _ _ _ _, (by show exsAtB _ _ (foldL []) []; rw [foldL, exsAtB]), (((Kp.refl [] w).alloc _).alloc _).alloc _, (by show _ ≤ _; simp)⟩
  case round =>
    obtain ⟨k, L, u, hk, rfl, hBe, hBr, hBo, hu, hE, hK, hsz⟩ := hrel
    have b5 := hBe.out.cell 5 (v := .slice q len cap) rfl
    have o5 := hBo.out.cell 5 (v := u) rfl
    by_cases hlt : k < len
    · have hlt2 : k < es.length := by rw [hlen.out]; exact hlt
      obtain ⟨b, off, ux, rfl, hux, c0, c1, c2, c3, c4, c5⟩ := hv.out.at_in hK.out k hlt2
      have hcall := IH.out k hlt2
      have hts := Lib.hid (foldL_take_succ hlt2)
      have hwe := Lib.hid (hel.out k hlt2)
      obtain ⟨x, hx⟩ : ∃ x, es[k] = x := ⟨_, rfl⟩
      rw [hx] at c0 c1 c2 c3 c4 hcall hts hwe hux
      clear hx
      obtain ⟨qu, cu, rfl⟩ := hux.val
      have hfold := Lib.hid (hcall wr _ (hux.kp hK.out) hwe.out.1 hwe.out.2)
      clear hcall
      obtain ⟨lu, hlu⟩ : ∃ lu, x.args.length = lu := ⟨_, rfl⟩
      unfold exVal at hfold
      rw [hlu] at c5 hfold
      clear hlu hux
      obtain ⟨y, hy⟩ : ∃ y, foldE x = y := ⟨_, rfl⟩
      rw [hy] at hfold hts
      clear hy hwe
      have hul : Hid (∀ g, u.ownBlock = some g → w.heap.size + 3 ≤ g ∧ g < wr.heap.size) := fun g hg => hu.out.lt g hg
      go_wp2_with fail
      refine hfold.out.mono ?_
      rintro r w2 ⟨u1, rfl, hk2, hy⟩
      obtain ⟨qy, cy, rfl⟩ := hy.drop.val
      unfold exVal
      obtain ⟨ly, hly⟩ : ∃ ly, y.args.length = ly := ⟨_, rfl⟩
      rw [hly] at hy ⊢
      clear hly
      have hsz1 : wr.heap.size ≤ w2.heap.size := hk2.size
      have hU2 := Lib.hid ((row_kp hu.out hk2).alloc (.cells #[.int .i64 y.op, .int .i64 y.kind, .int .i64 y.num, .string y.s, .string y.field, .slice qy ly cy] 24))
      have hK2 := Lib.hid ((hK.out.trans hk2).alloc (.cells #[.int .i64 y.op, .int .i64 y.kind, .int .i64 y.num, .string y.s, .string y.field, .slice qy ly cy] 24))
      have hbs : Hid (w.heap.size + 3 ≤ (w2.alloc (.cells #[.int .i64 y.op, .int .i64 y.kind, .int .i64 y.num, .string y.s, .string y.field, .slice qy ly cy] 24)).heap.size) := by show _ ≤ _; rw [World.size_alloc]; have := hsz.out; omega
      have hnew := Lib.hid (ex_cells w2 y.op y.kind y.num y.s y.field (.slice qy ly cy))
      have hone := Lib.hid (ex_one y.op y.kind y.num y.s y.field qy ly cy)
      have hkeep : Hid (∀ b, b < wr.heap.size → (w2.alloc (.cells #[.int .i64 y.op, .int .i64 y.kind, .int .i64 y.num, .string y.s, .string y.field, .slice qy ly cy] 24)).heap[b]? = wr.heap[b]?) := fun b hb => by
        have h1 := hk2.alloc (.cells #[.int .i64 y.op, .int .i64 y.kind, .int .i64 y.num, .string y.s, .string y.field, .slice qy ly cy] 24)
        exact h1.block b hb (by simp)
      have hy2 := Lib.hid hy
      have hsz2 := Lib.hid hsz1
      replace hk2 := Lib.hid hk2
      clear hy hsz1
      go_wp2_with (at_builtin; refine wpList_append_own_at _ rfl (.tmp 25) (.tmp 32) 22 rfl (w.heap.size + 3) 24 i0 _ 6 80 Tryz.underlying22 hi hz0 hz1 hz2 rfl (by decide) _ k _ rfl hU2.out ⟨w2.heap.size, 0, none⟩ 1 1 [.int .i64 y.op, .int .i64 y.kind, .int .i64 y.num, .string y.s, .string y.field, .slice qy ly cy] rfl rfl hnew.out hone.out (by unfold maxLen; omega) (by omega) hbs.out ?_; intro v' w3 hown' hgrow _ hat; obtain ⟨vq, vc, rfl⟩ := own_slice hown'; have hlow : ∀ b, b < wr.heap.size → u.ownBlock ≠ some b → w3.heap[b]? = wr.heap[b]? := (fun b hb h => (hgrow.block b (by rw [World.size_alloc]; have := hsz2.out; omega) (fun h4 => h h4.symm)).trans (hkeep.out b hb)); have hlow3 : ∀ b, b < w.heap.size + 3 → w3.heap[b]? = wr.heap[b]? := (fun b hb => hlow b (by have := hsz.out; omega) (fun h4 => by have := (hul.out b h4).1; omega)); have hBo3 : Blk w3 (w.heap.size + 1 + 1) 24 #[.int .i64 6, .int .i64 kind, .int .i64 num, .string s, .string f, u] := (hlow3 _ (by omega)).trans hBo.out; have f5 := hBo3.frozen 5; have d5 := hBo3.cell 5 (v := u) rfl; replace hlow := Lib.hid hlow; replace hlow3 := Lib.hid hlow3; replace hBo3 := Lib.hid hBo3; replace hgrow := Lib.hid hgrow; replace hown' := Lib.hid hown'; replace hat := Lib.hid hat)
      have hg3 : (w2.alloc (.cells #[.int .i64 y.op, .int .i64 y.kind, .int .i64 y.num, .string y.s, .string y.field, .slice qy ly cy] 24)).heap.size ≤ w3.heap.size := hgrow.out.size
      rw [World.size_alloc] at hg3
      have hat2 : (Value.slice vq (k + 1) vc).ownBlock = u.ownBlock ∨ (Value.slice vq (k + 1) vc).ownBlock = some (w2.heap.size + 1) := by
        have := hat.out
        rw [World.size_alloc] at this
        exact this
      have hgb : ∀ b, b < w2.heap.size + 1 → u.ownBlock ≠ some b → w3.heap[b]? = (w2.alloc (.cells #[.int .i64 y.op, .int .i64 y.kind, .int .i64 y.num, .string y.s, .string y.field, .slice qy ly cy] 24)).heap[b]? := fun b hb h => hgrow.out.block b (by rw [World.size_alloc]; exact hb) (fun h4 => h h4.symm)
      have hE3 : exsAtB (fun b => w.heap.size + 3 ≤ b ∧ b < w3.heap.size ∧ (Value.slice vq (k + 1) vc).ownBlock ≠ some b) w3 (foldL (es.take (k + 1))) (L ++ [exV y (.slice qy ly cy)]) := by
        rw [hts.out]
        have hsz1 := hsz2.out
        have hsz0 := hsz.out
        refine exsAtB.snoc (exsAtB.move ?_ ?_ _ L hE.out) (exAtB_mk (hy2.out.move ?_ ?_))
        · rintro b ⟨h1, h2, h3⟩
          refine ⟨h1, by omega, fun h4 => ?_⟩
          rcases hat2 with h5 | h5
          · exact h3 (h5 ▸ h4)
          · rw [h5] at h4; simp at h4; omega
        · rintro b ⟨h1, h2, h3⟩ hb
          exact hlow.out b h2 h3
        · rintro b ⟨h1, h2⟩
          refine ⟨by omega, by omega, fun h4 => ?_⟩
          rcases hat2 with h5 | h5
          · rw [h5] at h4; have := (hul.out b h4).2; omega
          · rw [h5] at h4; simp at h4; omega
        · rintro b ⟨h1, h2⟩ hb
          rw [hgb b (by omega) (fun h => by have := (hul.out b h).2; omega)]
          exact ((Kp.refl [] w2).alloc _).block b hb (by simp)
      have hE4 : Hid (exsAtB (fun b => w.heap.size + 3 ≤ b ∧ b < (w3.setCell ⟨w.heap.size + 1 + 1, 5, none⟩ (.slice vq (k + 1) vc)).heap.size ∧ (Value.slice vq (k + 1) vc).ownBlock ≠ some b) (w3.setCell ⟨w.heap.size + 1 + 1, 5, none⟩ (.slice vq (k + 1) vc)) (foldL (es.take (k + 1))) (L ++ [exV y (.slice qy ly cy)])) :=
        exsAtB.move (fun b h => ⟨h.1, by simpa [World.setCell] using h.2.1, h.2.2⟩) (fun b h _ => Below.heap_setCell w3 _ _ b (by have := h.1; show ¬ b = w.heap.size + 1 + 1; omega)) _ _ hE3
      have hO4 : Hid ((w3.setCell ⟨w.heap.size + 1 + 1, 5, none⟩ (.slice vq (k + 1) vc)).ownsRow (w.heap.size + 3) 24 6 (.slice vq (k + 1) vc) (k + 1) (L ++ [exV y (.slice qy ly cy)]).flatten) := by
        show World.ownsRow _ _ _ _ _ _ _
        rw [flatten_snoc]
        exact row_set hown'.out _ (by omega) _ _
      have hB1 : Hid (Blk (w3.setCell ⟨w.heap.size + 1 + 1, 5, none⟩ (.slice vq (k + 1) vc)) w.heap.size 24 #[.int .i64 6, .int .i64 kind, .int .i64 num, .string s, .string f, .slice (some ⟨b, off, none⟩) len cap]) := Blk.other (show Blk w3 _ _ _ from (hlow3.out _ (by omega)).trans hBe.out) (by simp; omega) _
      have hB2 : Hid (Blk (w3.setCell ⟨w.heap.size + 1 + 1, 5, none⟩ (.slice vq (k + 1) vc)) (w.heap.size + 1) 24 #[.int .i64 0, .int .i64 0, .int .i64 0, .string ⟨#[]⟩, .string ⟨#[]⟩, .slice none 0 0]) := Blk.other (show Blk w3 _ _ _ from (hlow3.out _ (by omega)).trans hBr.out) (by simp) _
      have hB3 : Hid (Blk (w3.setCell ⟨w.heap.size + 1 + 1, 5, none⟩ (.slice vq (k + 1) vc)) (w.heap.size + 1 + 1) 24 #[.int .i64 6, .int .i64 kind, .int .i64 num, .string s, .string f, .slice vq (k + 1) vc]) := hBo3.out.set 5 _
      have hK3 : Hid (Kp [] w (w3.setCell ⟨w.heap.size + 1 + 1, 5, none⟩ (.slice vq (k + 1) vc))) := (hK2.out.grown hgrow.out (fun j hj => .inr (by have := (hul.out j hj).1; omega))).setCell (.inr (by show w.heap.size ≤ w.heap.size + 1 + 1; omega)) _
      have hs3 : Hid (w.heap.size + 3 ≤ (w3.setCell ⟨w.heap.size + 1 + 1, 5, none⟩ (.slice vq (k + 1) vc)).heap.size) := by show _ ≤ _; have h1 := hsz.out; have h2 := hsz2.out; simp [World.setCell]; omega
      clear hgrow hown' hat hg3 hat2 hE3
      go_roundw
      case rel => exact ⟨k + 1, L ++ [exV y (.slice qy ly cy)], _, by omega, by go_num, hB1, hB2, hB3, hO4, hE4, hK3, hs3⟩
      case measure => simp [intOf]; omega
    · obtain rfl : len = k := by omega
      have hfull := tk_all hlen.out
      have hE2 := hE.out
      rw [hfull] at hE2
      have hus := row_at (by rw [hlf.out]) hu.out hE2
      obtain ⟨qu, cu, rfl⟩ := own_slice hu.out
      clear hE2 hfull hE hu hel IH hv hlt b5 o5 hk
      rw [hl0] at hus hshp hLw hlf hfe
      have hout : Hid (∀ X, Kp [] wr X → Kp [] w X ∧ Blk X w.heap.size 24 #[.int .i64 6, .int .i64 kind, .int .i64 num, .string s, .string f, .slice q len cap] ∧ Blk X (w.heap.size + 1) 24 #[.int .i64 0, .int .i64 0, .int .i64 0, .string ⟨#[]⟩, .string ⟨#[]⟩, .slice none 0 0] ∧ Blk X (w.heap.size + 1 + 1) 24 #[.int .i64 6, .int .i64 kind, .int .i64 num, .string s, .string f, .slice qu len cu] ∧ exsSlB (fun b => w.heap.size + 3 ≤ b ∧ b < wr.heap.size) X (.slice qu len cu) [a] ∧ wr.heap.size ≤ X.heap.size) := fun X hX => ⟨hK.out.trans hX, hBe.out.kp hX (by simp), hBr.out.kp hX (by simp), hBo.out.kp hX (by simp), hus.move (fun b h => h) (fun b _ hb => hX.block b hb (by simp)), hX.size⟩
      have hend : Hid (∀ (X F : World) (u : Value) (es : List Ex), Kp [] w X → Kp [w.heap.size + 1] X F → wr.heap.size ≤ X.heap.size → exsSlB (fun b => w.heap.size + 3 ≤ b ∧ b < wr.heap.size) X u es → Kp [] w F ∧ exsSlB (Rg w F) F u es) := by
        intro X F u es h1 h2 h3 h4
        refine ⟨h1.trans' h2 (fun i hi hl => by simp at hi; omega), h4.move (fun b h => ⟨by omega, by have := h2.size; omega⟩) (fun b h hb => h2.block b hb (by simp; omega))⟩
      replace hus := Lib.hid hus
      clear hBe hBr hBo hsz hi hz0 hz1 hz2
      obtain ⟨b, off, rfl, hget⟩ := hus.out.at_ (by simp)
      obtain ⟨qa, la, ca, hla, hua, hca⟩ := hget 0 (by simp)
      replace hca : ∀ j x, (exV a (.slice qa la ca))[j]? = some x → wr.cell? ⟨b, off + (0 * 6 + j), none⟩ = some x := hca
      have a0 := hca 0 _ rfl
      have a1 := hca 1 _ rfl
      have a2 := hca 2 _ rfl
      have a3 := hca 3 _ rfl
      have a4 := hca 4 _ rfl
      have a5 := hca 5 _ rfl
      simp only [Nat.zero_mul, Nat.zero_add, Nat.add_zero, Nat.one_mul] at a0 a1 a2 a3 a4 a5
      replace hua : exsSlB _ wr (.slice qa la ca) a.args := hua
      clear hget
      have hln : Hid (1 = len) := hlf.out
      have hp0 : 0 < len := by have := hln.out; omega
      have hwa : a.well = true := wellL_in hLw.out (by simp)
      rw [ha1] at a0
      have hac := shp_con (by rw [well_eq, Bool.and_eq_true] at hwa; exact hwa.1) ha1
      have hcv := con_val hac.1
      have hok : kindOk 6 a.kind = true := by rw [hka]; rfl
      have hku : Hid (∀ W : World, Calls Tryz.prog 18 #[.int .i64 6, .int .i64 a.kind] W fun r w' => r = .returned (.int .i64 1) ∧ w' = W) := fun W => (kun_c 6 a.kind W).mono fun r w' h => ⟨h.1.trans (ret_int (by rw [hka, if_pos (by omega)])), h.2⟩
      have hru : Hid (∀ W : World, Calls Tryz.prog 19 #[.int .i64 6, .int .i64 a.num] W fun r w' => r = .returned (.tuple #[.int .i64 (unR 6 a.num), .bool (bitB a.num)]) ∧ w' = W) := fun W => (run_6 a.num W hcv).mono fun r w' h => ⟨h.1.trans (by simp [unR]), h.2⟩
      obtain ⟨V, hV⟩ : ∃ V, unR 6 a.num = V := ⟨_, rfl⟩
      rw [hV] at hru hneg
      have hcn := Lib.hid (fun W => constant_c 6 kind num s f (some ⟨b, off, none⟩) len cu a.kind V W)
      rw [hka] at hcn a1 hku
      clear hac hcv hwa
      replace ha1 := Lib.hid ha1
      replace hka := Lib.hid hka
      have hY := hout.out wr (Kp.refl [] wr)
      have e0x := hY.2.1.cell 0 (v := .int .i64 6) rfl
      have e5x := hY.2.1.cell 5 (v := .slice q len cap) rfl
      have o5x := hY.2.2.2.1.cell 5 (v := .slice (some ⟨b, off, none⟩) len cu) rfl
      clear hY
      have hX := hout.out (wr.alloc (.cells #[.int .i64 1, .int .i64 1, .int .i64 a.num, .string a.s, .string a.field, .slice qa la ca] 24)) ((Kp.refl [] wr).alloc (.cells #[.int .i64 1, .int .i64 1, .int .i64 a.num, .string a.s, .string a.field, .slice qa la ca] 24))
      obtain ⟨hXw, hXe, hXr, hXo, hXu, hXs⟩ := hX
      have f0 := hXr.frozen 0
      have f1 := hXr.frozen 1
      have f2 := hXr.frozen 2
      have f3 := hXr.frozen 3
      have f4 := hXr.frozen 4
      have f6 := hXr.frozen 5
      have g0 := hXr.cell 0 (v := .int .i64 0) rfl
      have g1 := hXr.cell 1 (v := .int .i64 0) rfl
      have g2 := hXr.cell 2 (v := .int .i64 0) rfl
      have g3 := hXr.cell 3 (v := .string ⟨#[]⟩) rfl
      have g4 := hXr.cell 4 (v := .string ⟨#[]⟩) rfl
      have g5 := hXr.cell 5 (v := .slice none 0 0) rfl
      have o0 := hXo.cell 0 (v := .int .i64 6) rfl
      have o1 := hXo.cell 1 (v := .int .i64 kind) rfl
      have o2 := hXo.cell 2 (v := .int .i64 num) rfl
      have o3 := hXo.cell 3 (v := .string s) rfl
      have o4 := hXo.cell 4 (v := .string f) rfl
      have o5 := hXo.cell 5 (v := .slice (some ⟨b, off, none⟩) len cu) rfl
      have e0 := hXe.cell 0 (v := .int .i64 6) rfl
      have e1 := hXe.cell 1 (v := .int .i64 kind) rfl
      have e2 := hXe.cell 2 (v := .int .i64 num) rfl
      have e3 := hXe.cell 3 (v := .string s) rfl
      have e4 := hXe.cell 4 (v := .string f) rfl
      have e5 := hXe.cell 5 (v := .slice q len cap) rfl
      have hlt3 : w.heap.size + 1 < (wr.alloc (.cells #[.int .i64 1, .int .i64 1, .int .i64 a.num, .string a.s, .string a.field, .slice qa la ca] 24)).heap.size := hXr.lt
      obtain ⟨hZ, hKz⟩ := set6 hXr (.int .i64 6) (.int .i64 kind) (.int .i64 num) (.string s) (.string f) (.slice (some ⟨b, off, none⟩) len cu)
      have z0 := hZ.cell 0 (v := .int .i64 6) rfl
      have z1 := hZ.cell 1 (v := .int .i64 kind) rfl
      have z2 := hZ.cell 2 (v := .int .i64 num) rfl
      have z3 := hZ.cell 3 (v := .string s) rfl
      have z4 := hZ.cell 4 (v := .string f) rfl
      have z5 := hZ.cell 5 (v := .slice (some ⟨b, off, none⟩) len cu) rfl
      replace hZ := Lib.hid hZ
      replace hKz := Lib.hid hKz
      replace hXw := Lib.hid hXw
      replace hXe := Lib.hid hXe
      replace hXr := Lib.hid hXr
      replace hXo := Lib.hid hXo
      replace hXu := Lib.hid hXu
      replace hXs := Lib.hid hXs
      go_wp2_with (first | (go_at_call 18; refine (hku.out _).mono ?_; rintro r w6 ⟨rfl, rfl⟩) | (go_at_call 19; refine (hru.out _).mono ?_; rintro r w6 ⟨rfl, rfl⟩) | (go_at_call 20; refine (hcn.out _).mono ?_; rintro r w6 ⟨rfl, hk6⟩; rw [if_pos (by omega)]; have hk7 := (((Kp.refl [] wr).alloc (.cells #[.int .i64 1, .int .i64 1, .int .i64 a.num, .string a.s, .string a.field, .slice qa la ca] 24))).trans hk6; clear hXw hXe hXr hXo hXu hXs f0 f1 f2 f3 f4 f6 g0 g1 g2 g3 g4 g5 o0 o1 o2 o3 o4 o5 e0 e1 e2 e3 e4 e5 hlt3 hZ hKz z0 z1 z2 z3 z4 z5; have hX := hout.out w6 hk7; obtain ⟨hXw, hXe, hXr, hXo, hXu, hXs⟩ := hX; have f0 := hXr.frozen 0; have f1 := hXr.frozen 1; have f2 := hXr.frozen 2; have f3 := hXr.frozen 3; have f4 := hXr.frozen 4; have f6 := hXr.frozen 5; have g0 := hXr.cell 0 (v := .int .i64 0) rfl; have g1 := hXr.cell 1 (v := .int .i64 0) rfl; have g2 := hXr.cell 2 (v := .int .i64 0) rfl; have g3 := hXr.cell 3 (v := .string ⟨#[]⟩) rfl; have g4 := hXr.cell 4 (v := .string ⟨#[]⟩) rfl; have g5 := hXr.cell 5 (v := .slice none 0 0) rfl; have o0 := hXo.cell 0 (v := .int .i64 6) rfl; have o1 := hXo.cell 1 (v := .int .i64 kind) rfl; have o2 := hXo.cell 2 (v := .int .i64 num) rfl; have o3 := hXo.cell 3 (v := .string s) rfl; have o4 := hXo.cell 4 (v := .string f) rfl; have o5 := hXo.cell 5 (v := .slice (some ⟨b, off, none⟩) len cu) rfl; have e0 := hXe.cell 0 (v := .int .i64 6) rfl; have e1 := hXe.cell 1 (v := .int .i64 kind) rfl; have e2 := hXe.cell 2 (v := .int .i64 num) rfl; have e3 := hXe.cell 3 (v := .string s) rfl; have e4 := hXe.cell 4 (v := .string f) rfl; have e5 := hXe.cell 5 (v := .slice q len cap) rfl; have hlt3 : w.heap.size + 1 < w6.heap.size := hXr.lt; obtain ⟨hZ, hKz⟩ := set6 hXr (.int .i64 6) (.int .i64 kind) (.int .i64 num) (.string s) (.string f) (.slice (some ⟨b, off, none⟩) len cu); have z0 := hZ.cell 0 (v := .int .i64 6) rfl; have z1 := hZ.cell 1 (v := .int .i64 kind) rfl; have z2 := hZ.cell 2 (v := .int .i64 num) rfl; have z3 := hZ.cell 3 (v := .string s) rfl; have z4 := hZ.cell 4 (v := .string f) rfl; have z5 := hZ.cell 5 (v := .slice (some ⟨b, off, none⟩) len cu) rfl; replace hZ := Lib.hid hZ; replace hKz := Lib.hid hKz; replace hXw := Lib.hid hXw; replace hXe := Lib.hid hXe; replace hXr := Lib.hid hXr; replace hXo := Lib.hid hXo; replace hXu := Lib.hid hXu; replace hXs := Lib.hid hXs))
      refine bodyPost_ret (v := .agg #[.int .i64 6, .int .i64 kind, .int .i64 num, .string s, .string f, .slice (some ⟨b, off, none⟩) len cu]) (by simp [results, Tryz.results9, go_sem, z0, z1, z2, z3, z4, z5]) rfl ?_
      have hF := hend.out _ _ _ [a] hXw.out hKz.out hXs.out hXu.out
      rw [show y = _ from hfe.out.trans (step_un_no (by omega) (.inr (.inr (by rw [hV]; exact hneg))))]
      exact ⟨_, rfl, hF.1, hF.2⟩

set_option maxRecDepth 100000 in
set_option maxHeartbeats 4000000 in
theorem rf_6_pos (kind num : Int) (s f : ByteArray) (es : List Ex) (a : Ex) (hl0 : foldL es = [a]) (ha1 : a.op = 1) (hka : a.kind = 1) (hneg : ¬ unR 6 a.num < 0) (IH : ∀ i (hi : i < es.length), RFoldC es[i]) : RFoldC (.mk 6 kind num s f es) := by
  intro w v hv hw hcnt
  obtain ⟨q, cap, rfl⟩ := hv.val
  rw [well_eq, Bool.and_eq_true] at hw
  have hc1 : cntL es < (Ex.mk 6 kind num s f es).cnt := cnt_args (.mk 6 kind num s f es)
  have hl5 : es.length ≤ 500 := by have := len_cntL es; omega
  have hel : Hid (∀ i (hi : i < es.length), es[i].well = true ∧ es[i].cnt ≤ 500) := fun i hi => ⟨wellL_in hw.2 (List.getElem_mem hi), by have := cnt_mem hi; omega⟩
  have hshp : shpB (.mk 6 kind num s f (foldL es)) = true := by rw [shp_len _ _ _ _ _ (foldL_len es)]; exact hw.1
  have hLw : Hid (wellL (foldL es) = true) := foldL_well es hw.2
  have hlf : (foldL es).length = es.length := foldL_len es
  have hfe : foldE (.mk 6 kind num s f es) = stepE (.mk 6 kind num s f (foldL es)) := foldE_eq _
  replace IH := Lib.hid IH
  obtain ⟨i0, hi, hz0, hz1, hz2⟩ := info_parts infoEx
  replace hv : exsSl w (.slice q es.length cap) es := hv
  show Calls Tryz.prog 9 #[.agg #[.int .i64 6, .int .i64 kind, .int .i64 num, .string s, .string f, .slice q es.length cap]] w _
  obtain ⟨y, hy⟩ : ∃ y, foldE (.mk 6 kind num s f es) = y := ⟨_, rfl⟩
  rw [hy] at hfe ⊢
  obtain ⟨len, hlen⟩ : ∃ len, es.length = len := ⟨_, rfl⟩
  rw [hlen] at hv hl5 hlf ⊢
  replace hlen := Lib.hid hlen
  replace hfe := Lib.hid hfe
  replace hshp := Lib.hid hshp
  replace hlf := Lib.hid hlf
  replace hv := Lib.hid hv
  clear hw
  clear hc1 hcnt hy
  go_enter Tryz.func9, Tryz.ntmps9
  go_wp2_with fail
  go_loopw [4] (fun i wr => ∃ (k : Nat) (L : List (List Value)) (u : Value), k ≤ len ∧ i = .int .i64 k ∧
      Hid (Blk wr w.heap.size 24 #[.int .i64 6, .int .i64 kind, .int .i64 num, .string s, .string f, .slice q len cap]) ∧
      Hid (Blk wr (w.heap.size + 1) 24 #[.int .i64 0, .int .i64 0, .int .i64 0, .string ⟨#[]⟩, .string ⟨#[]⟩, .slice none 0 0]) ∧
      Hid (Blk wr (w.heap.size + 1 + 1) 24 #[.int .i64 6, .int .i64 kind, .int .i64 num, .string s, .string f, u]) ∧
      Hid (wr.ownsRow (w.heap.size + 3) 24 6 u k L.flatten) ∧
      Hid (exsAtB (fun b => w.heap.size + 3 ≤ b ∧ b < wr.heap.size ∧ u.ownBlock ≠ some b) wr (foldL (es.take k)) L) ∧ Hid (Kp [] w wr) ∧ Hid (w.heap.size + 3 ≤ wr.heap.size)) (fun i _ => len - (intOf i).toNat)
  case atStart => exact ⟨0, [], .slice none 0 0, Nat.zero_le _, rfl, ((Blk.new _ _ _).alloc _).alloc _, (blk_new (by simp) _ _).alloc _, blk_new (by simp) _ _, World.ownsRow_nil _ _ _ _, (by show exsAtB _ _ (foldL []) []; rw [foldL, exsAtB]), (((Kp.refl [] w).alloc _).alloc _).alloc _, (by show _ ≤ _; simp)⟩
  case round =>
    obtain ⟨k, L, u, hk, rfl, hBe, hBr, hBo, hu, hE, hK, hsz⟩ := hrel
    have b5 := hBe.out.cell 5 (v := .slice q len cap) rfl
    have o5 := hBo.out.cell 5 (v := u) rfl
    by_cases hlt : k < len
    · have hlt2 : k < es.length := by rw [hlen.out]; exact hlt
      obtain ⟨b, off, ux, rfl, hux, c0, c1, c2, c3, c4, c5⟩ := hv.out.at_in hK.out k hlt2
      have hcall := IH.out k hlt2
      have hts := Lib.hid (foldL_take_succ hlt2)
      have hwe := Lib.hid (hel.out k hlt2)
      obtain ⟨x, hx⟩ : ∃ x, es[k] = x := ⟨_, rfl⟩
      rw [hx] at c0 c1 c2 c3 c4 hcall hts hwe hux
      clear hx
      obtain ⟨qu, cu, rfl⟩ := hux.val
      have hfold := Lib.hid (hcall wr _ (hux.kp hK.out) hwe.out.1 hwe.out.2)
      clear hcall
      obtain ⟨lu, hlu⟩ : ∃ lu, x.args.length = lu := ⟨_, rfl⟩
      unfold exVal at hfold
      rw [hlu] at c5 hfold
      clear hlu hux
      obtain ⟨y, hy⟩ : ∃ y, foldE x = y := ⟨_, rfl⟩
      rw [hy] at hfold hts
      clear hy hwe
      have hul : Hid (∀ g, u.ownBlock = some g → w.heap.size + 3 ≤ g ∧ g < wr.heap.size) := fun g hg => hu.out.lt g hg
      go_wp2_with fail
      refine hfold.out.mono ?_
      rintro r w2 ⟨u1, rfl, hk2, hy⟩
      obtain ⟨qy, cy, rfl⟩ := hy.drop.val
      unfold exVal
      obtain ⟨ly, hly⟩ : ∃ ly, y.args.length = ly := ⟨_, rfl⟩
      rw [hly] at hy ⊢
      clear hly
      have hsz1 : wr.heap.size ≤ w2.heap.size := hk2.size
      have hU2 := Lib.hid ((row_kp hu.out hk2).alloc (.cells #[.int .i64 y.op, .int .i64 y.kind, .int .i64 y.num, .string y.s, .string y.field, .slice qy ly cy] 24))
      have hK2 := Lib.hid ((hK.out.trans hk2).alloc (.cells #[.int .i64 y.op, .int .i64 y.kind, .int .i64 y.num, .string y.s, .string y.field, .slice qy ly cy] 24))
      have hbs : Hid (w.heap.size + 3 ≤ (w2.alloc (.cells #[.int .i64 y.op, .int .i64 y.kind, .int .i64 y.num, .string y.s, .string y.field, .slice qy ly cy] 24)).heap.size) := by show _ ≤ _; rw [World.size_alloc]; have := hsz.out; omega
      have hnew := Lib.hid (ex_cells w2 y.op y.kind y.num y.s y.field (.slice qy ly cy))
      have hone := Lib.hid (ex_one y.op y.kind y.num y.s y.field qy ly cy)
      have hkeep : Hid (∀ b, b < wr.heap.size → (w2.alloc (.cells #[.int .i64 y.op, .int .i64 y.kind, .int .i64 y.num, .string y.s, .string y.field, .slice qy ly cy] 24)).heap[b]? = wr.heap[b]?) := fun b hb => by
        have h1 := hk2.alloc (.cells #[.int .i64 y.op, .int .i64 y.kind, .int .i64 y.num, .string y.s, .string y.field, .slice qy ly cy] 24)
        exact h1.block b hb (by simp)
      have hy2 := Lib.hid hy
      have hsz2 := Lib.hid hsz1
      replace hk2 := Lib.hid hk2
      clear hy hsz1
      go_wp2_with (at_builtin; refine wpList_append_own_at _ rfl (.tmp 25) (.tmp 32) 22 rfl (w.heap.size + 3) 24 i0 _ 6 80 Tryz.underlying22 hi hz0 hz1 hz2 rfl (by decide) _ k _ rfl hU2.out ⟨w2.heap.size, 0, none⟩ 1 1 [.int .i64 y.op, .int .i64 y.kind, .int .i64 y.num, .string y.s, .string y.field, .slice qy ly cy] rfl rfl hnew.out hone.out (by unfold maxLen; omega) (by omega) hbs.out ?_; intro v' w3 hown' hgrow _ hat; obtain ⟨vq, vc, rfl⟩ := own_slice hown'; have hlow : ∀ b, b < wr.heap.size → u.ownBlock ≠ some b → w3.heap[b]? = wr.heap[b]? := (fun b hb h => (hgrow.block b (by rw [World.size_alloc]; have := hsz2.out; omega) (fun h4 => h h4.symm)).trans (hkeep.out b hb)); have hlow3 : ∀ b, b < w.heap.size + 3 → w3.heap[b]? = wr.heap[b]? := (fun b hb => hlow b (by have := hsz.out; omega) (fun h4 => by have := (hul.out b h4).1; omega)); have hBo3 : Blk w3 (w.heap.size + 1 + 1) 24 #[.int .i64 6, .int .i64 kind, .int .i64 num, .string s, .string f, u] := (hlow3 _ (by omega)).trans hBo.out; have f5 := hBo3.frozen 5; have d5 := hBo3.cell 5 (v := u) rfl; replace hlow := Lib.hid hlow; replace hlow3 := Lib.hid hlow3; replace hBo3 := Lib.hid hBo3; replace hgrow := Lib.hid hgrow; replace hown' := Lib.hid hown'; replace hat := Lib.hid hat)
      have hg3 : (w2.alloc (.cells #[.int .i64 y.op, .int .i64 y.kind, .int .i64 y.num, .string y.s, .string y.field, .slice qy ly cy] 24)).heap.size ≤ w3.heap.size := hgrow.out.size
      rw [World.size_alloc] at hg3
      have hat2 : (Value.slice vq (k + 1) vc).ownBlock = u.ownBlock ∨ (Value.slice vq (k + 1) vc).ownBlock = some (w2.heap.size + 1) := by
        have := hat.out
        rw [World.size_alloc] at this
        exact this
      have hgb : ∀ b, b < w2.heap.size + 1 → u.ownBlock ≠ some b → w3.heap[b]? = (w2.alloc (.cells #[.int .i64 y.op, .int .i64 y.kind, .int .i64 y.num, .string y.s, .string y.field, .slice qy ly cy] 24)).heap[b]? := fun b hb h => hgrow.out.block b (by rw [World.size_alloc]; exact hb) (fun h4 => h h4.symm)
      have hE3 : exsAtB (fun b => w.heap.size + 3 ≤ b ∧ b < w3.heap.size ∧ (Value.slice vq (k + 1) vc).ownBlock ≠ some b) w3 (foldL (es.take (k + 1))) (L ++ [exV y (.slice qy ly cy)]) := by
        rw [hts.out]
        have hsz1 := hsz2.out
        have hsz0 := hsz.out
        refine exsAtB.snoc (exsAtB.move ?_ ?_ _ L hE.out) (exAtB_mk (hy2.out.move ?_ ?_))
        · rintro b ⟨h1, h2, h3⟩
          refine ⟨h1, by omega, fun h4 => ?_⟩
          rcases hat2 with h5 | h5
          · exact h3 (h5 ▸ h4)
          · rw [h5] at h4; simp at h4; omega
        · rintro b ⟨h1, h2, h3⟩ hb
          exact hlow.out b h2 h3
        · rintro b ⟨h1, h2⟩
          refine ⟨by omega, by omega, fun h4 => ?_⟩
          rcases hat2 with h5 | h5
          · rw [h5] at h4; have := (hul.out b h4).2; omega
          · rw [h5] at h4; simp at h4; omega
        · rintro b ⟨h1, h2⟩ hb
          rw [hgb b (by omega) (fun h => by have := (hul.out b h).2; omega)]
          exact ((Kp.refl [] w2).alloc _).block b hb (by simp)
      have hE4 : Hid (exsAtB (fun b => w.heap.size + 3 ≤ b ∧ b < (w3.setCell ⟨w.heap.size + 1 + 1, 5, none⟩ (.slice vq (k + 1) vc)).heap.size ∧ (Value.slice vq (k + 1) vc).ownBlock ≠ some b) (w3.setCell ⟨w.heap.size + 1 + 1, 5, none⟩ (.slice vq (k + 1) vc)) (foldL (es.take (k + 1))) (L ++ [exV y (.slice qy ly cy)])) :=
        exsAtB.move (fun b h => ⟨h.1, by simpa [World.setCell] using h.2.1, h.2.2⟩) (fun b h _ => Below.heap_setCell w3 _ _ b (by have := h.1; show ¬ b = w.heap.size + 1 + 1; omega)) _ _ hE3
      have hO4 : Hid ((w3.setCell ⟨w.heap.size + 1 + 1, 5, none⟩ (.slice vq (k + 1) vc)).ownsRow (w.heap.size + 3) 24 6 (.slice vq (k + 1) vc) (k + 1) (L ++ [exV y (.slice qy ly cy)]).flatten) := by
        show World.ownsRow _ _ _ _ _ _ _
        rw [flatten_snoc]
        exact row_set hown'.out _ (by omega) _ _
      have hB1 : Hid (Blk (w3.setCell ⟨w.heap.size + 1 + 1, 5, none⟩ (.slice vq (k + 1) vc)) w.heap.size 24 #[.int .i64 6, .int .i64 kind, .int .i64 num, .string s, .string f, .slice (some ⟨b, off, none⟩) len cap]) := Blk.other (show Blk w3 _ _ _ from (hlow3.out _ (by omega)).trans hBe.out) (by simp; omega) _
      have hB2 : Hid (Blk (w3.setCell ⟨w.heap.size + 1 + 1, 5, none⟩ (.slice vq (k + 1) vc)) (w.heap.size + 1) 24 #[.int .i64 0, .int .i64 0, .int .i64 0, .string ⟨#[]⟩, .string ⟨#[]⟩, .slice none 0 0]) := Blk.other (show Blk w3 _ _ _ from (hlow3.out _ (by omega)).trans hBr.out) (by simp) _
      have hB3 : Hid (Blk (w3.setCell ⟨w.heap.size + 1 + 1, 5, none⟩ (.slice vq (k + 1) vc)) (w.heap.size + 1 + 1) 24 #[.int .i64 6, .int .i64 kind, .int .i64 num, .string s, .string f, .slice vq (k + 1) vc]) := hBo3.out.set 5 _
      have hK3 : Hid (Kp [] w (w3.setCell ⟨w.heap.size + 1 + 1, 5, none⟩ (.slice vq (k + 1) vc))) := (hK2.out.grown hgrow.out (fun j hj => .inr (by have := (hul.out j hj).1; omega))).setCell (.inr (by show w.heap.size ≤ w.heap.size + 1 + 1; omega)) _
      have hs3 : Hid (w.heap.size + 3 ≤ (w3.setCell ⟨w.heap.size + 1 + 1, 5, none⟩ (.slice vq (k + 1) vc)).heap.size) := by show _ ≤ _; have h1 := hsz.out; have h2 := hsz2.out; simp [World.setCell]; omega
      clear hgrow hown' hat hg3 hat2 hE3
      go_roundw
      case rel => exact ⟨k + 1, L ++ [exV y (.slice qy ly cy)], _, by omega, by go_num, hB1, hB2, hB3, hO4, hE4, hK3, hs3⟩
      case measure => simp [intOf]; omega
    · obtain rfl : len = k := by omega
      have hfull := tk_all hlen.out
      have hE2 := hE.out
      rw [hfull] at hE2
      have hus := row_at (by rw [hlf.out]) hu.out hE2
      obtain ⟨qu, cu, rfl⟩ := own_slice hu.out
      clear hE2 hfull hE hu hel IH hv hlt b5 o5 hk
      rw [hl0] at hus hshp hLw hlf hfe
      have hout : Hid (∀ X, Kp [] wr X → Kp [] w X ∧ Blk X w.heap.size 24 #[.int .i64 6, .int .i64 kind, .int .i64 num, .string s, .string f, .slice q len cap] ∧ Blk X (w.heap.size + 1) 24 #[.int .i64 0, .int .i64 0, .int .i64 0, .string ⟨#[]⟩, .string ⟨#[]⟩, .slice none 0 0] ∧ Blk X (w.heap.size + 1 + 1) 24 #[.int .i64 6, .int .i64 kind, .int .i64 num, .string s, .string f, .slice qu len cu] ∧ exsSlB (fun b => w.heap.size + 3 ≤ b ∧ b < wr.heap.size) X (.slice qu len cu) [a] ∧ wr.heap.size ≤ X.heap.size) := fun X hX => ⟨hK.out.trans hX, hBe.out.kp hX (by simp), hBr.out.kp hX (by simp), hBo.out.kp hX (by simp), hus.move (fun b h => h) (fun b _ hb => hX.block b hb (by simp)), hX.size⟩
      have hend : Hid (∀ (X F : World) (u : Value) (es : List Ex), Kp [] w X → Kp [w.heap.size + 1] X F → wr.heap.size ≤ X.heap.size → exsSlB (fun b => w.heap.size + 3 ≤ b ∧ b < wr.heap.size) X u es → Kp [] w F ∧ exsSlB (Rg w F) F u es) := by
        intro X F u es h1 h2 h3 h4
        refine ⟨h1.trans' h2 (fun i hi hl => by simp at hi; omega), h4.move (fun b h => ⟨by omega, by have := h2.size; omega⟩) (fun b h hb => h2.block b hb (by simp; omega))⟩
      replace hus := Lib.hid hus
      clear hBe hBr hBo hsz hi hz0 hz1 hz2
      obtain ⟨b, off, rfl, hget⟩ := hus.out.at_ (by simp)
      obtain ⟨qa, la, ca, hla, hua, hca⟩ := hget 0 (by simp)
      replace hca : ∀ j x, (exV a (.slice qa la ca))[j]? = some x → wr.cell? ⟨b, off + (0 * 6 + j), none⟩ = some x := hca
      have a0 := hca 0 _ rfl
      have a1 := hca 1 _ rfl
      have a2 := hca 2 _ rfl
      have a3 := hca 3 _ rfl
      have a4 := hca 4 _ rfl
      have a5 := hca 5 _ rfl
      simp only [Nat.zero_mul, Nat.zero_add, Nat.add_zero, Nat.one_mul] at a0 a1 a2 a3 a4 a5
      replace hua : exsSlB _ wr (.slice qa la ca) a.args := hua
      clear hget
      have hln : Hid (1 = len) := hlf.out
      have hp0 : 0 < len := by have := hln.out; omega
      have hwa : a.well = true := wellL_in hLw.out (by simp)
      rw [ha1] at a0
      have hac := shp_con (by rw [well_eq, Bool.and_eq_true] at hwa; exact hwa.1) ha1
      have hcv := con_val hac.1
      have hok : kindOk 6 a.kind = true := by rw [hka]; rfl
      have hku : Hid (∀ W : World, Calls Tryz.prog 18 #[.int .i64 6, .int .i64 a.kind] W fun r w' => r = .returned (.int .i64 1) ∧ w' = W) := fun W => (kun_c 6 a.kind W).mono fun r w' h => ⟨h.1.trans (ret_int (by rw [hka, if_pos (by omega)])), h.2⟩
      have hru : Hid (∀ W : World, Calls Tryz.prog 19 #[.int .i64 6, .int .i64 a.num] W fun r w' => r = .returned (.tuple #[.int .i64 (unR 6 a.num), .bool (bitB a.num)]) ∧ w' = W) := fun W => (run_6 a.num W hcv).mono fun r w' h => ⟨h.1.trans (by simp [unR]), h.2⟩
      obtain ⟨V, hV⟩ : ∃ V, unR 6 a.num = V := ⟨_, rfl⟩
      rw [hV] at hru hneg
      have hcn := Lib.hid (fun W => constant_c 6 kind num s f (some ⟨b, off, none⟩) len cu a.kind V W)
      rw [hka] at hcn a1 hku
      clear hac hcv hwa
      replace ha1 := Lib.hid ha1
      replace hka := Lib.hid hka
      have hY := hout.out wr (Kp.refl [] wr)
      have e0x := hY.2.1.cell 0 (v := .int .i64 6) rfl
      have e5x := hY.2.1.cell 5 (v := .slice q len cap) rfl
      have o5x := hY.2.2.2.1.cell 5 (v := .slice (some ⟨b, off, none⟩) len cu) rfl
      clear hY
      have hX := hout.out (wr.alloc (.cells #[.int .i64 1, .int .i64 1, .int .i64 a.num, .string a.s, .string a.field, .slice qa la ca] 24)) ((Kp.refl [] wr).alloc (.cells #[.int .i64 1, .int .i64 1, .int .i64 a.num, .string a.s, .string a.field, .slice qa la ca] 24))
      obtain ⟨hXw, hXe, hXr, hXo, hXu, hXs⟩ := hX
      have f0 := hXr.frozen 0
      have f1 := hXr.frozen 1
      have f2 := hXr.frozen 2
      have f3 := hXr.frozen 3
      have f4 := hXr.frozen 4
      have f6 := hXr.frozen 5
      have g0 := hXr.cell 0 (v := .int .i64 0) rfl
      have g1 := hXr.cell 1 (v := .int .i64 0) rfl
      have g2 := hXr.cell 2 (v := .int .i64 0) rfl
      have g3 := hXr.cell 3 (v := .string ⟨#[]⟩) rfl
      have g4 := hXr.cell 4 (v := .string ⟨#[]⟩) rfl
      have g5 := hXr.cell 5 (v := .slice none 0 0) rfl
      have o0 := hXo.cell 0 (v := .int .i64 6) rfl
      have o1 := hXo.cell 1 (v := .int .i64 kind) rfl
      have o2 := hXo.cell 2 (v := .int .i64 num) rfl
      have o3 := hXo.cell 3 (v := .string s) rfl
      have o4 := hXo.cell 4 (v := .string f) rfl
      have o5 := hXo.cell 5 (v := .slice (some ⟨b, off, none⟩) len cu) rfl
      have e0 := hXe.cell 0 (v := .int .i64 6) rfl
      have e1 := hXe.cell 1 (v := .int .i64 kind) rfl
      have e2 := hXe.cell 2 (v := .int .i64 num) rfl
      have e3 := hXe.cell 3 (v := .string s) rfl
      have e4 := hXe.cell 4 (v := .string f) rfl
      have e5 := hXe.cell 5 (v := .slice q len cap) rfl
      have hlt3 : w.heap.size + 1 < (wr.alloc (.cells #[.int .i64 1, .int .i64 1, .int .i64 a.num, .string a.s, .string a.field, .slice qa la ca] 24)).heap.size := hXr.lt
      obtain ⟨hZ, hKz⟩ := set6 hXr (.int .i64 6) (.int .i64 kind) (.int .i64 num) (.string s) (.string f) (.slice (some ⟨b, off, none⟩) len cu)
      have z0 := hZ.cell 0 (v := .int .i64 6) rfl
      have z1 := hZ.cell 1 (v := .int .i64 kind) rfl
      have z2 := hZ.cell 2 (v := .int .i64 num) rfl
      have z3 := hZ.cell 3 (v := .string s) rfl
      have z4 := hZ.cell 4 (v := .string f) rfl
      have z5 := hZ.cell 5 (v := .slice (some ⟨b, off, none⟩) len cu) rfl
      replace hZ := Lib.hid hZ
      replace hKz := Lib.hid hKz
      replace hXw := Lib.hid hXw
      replace hXe := Lib.hid hXe
      replace hXr := Lib.hid hXr
      replace hXo := Lib.hid hXo
      replace hXu := Lib.hid hXu
      replace hXs := Lib.hid hXs
      go_wp2_with (first | (go_at_call 18; refine (hku.out _).mono ?_; rintro r w6 ⟨rfl, rfl⟩) | (go_at_call 19; refine (hru.out _).mono ?_; rintro r w6 ⟨rfl, rfl⟩) | (go_at_call 20; refine (hcn.out _).mono ?_; rintro r w6 ⟨rfl, hk6⟩; rw [if_neg (by omega)]; have hk7 := (((Kp.refl [] wr).alloc (.cells #[.int .i64 1, .int .i64 1, .int .i64 a.num, .string a.s, .string a.field, .slice qa la ca] 24))).trans hk6; clear hXw hXe hXr hXo hXu hXs f0 f1 f2 f3 f4 f6 g0 g1 g2 g3 g4 g5 o0 o1 o2 o3 o4 o5 e0 e1 e2 e3 e4 e5 hlt3 hZ hKz z0 z1 z2 z3 z4 z5; have hX := hout.out w6 hk7; obtain ⟨hXw, hXe, hXr, hXo, hXu, hXs⟩ := hX; have f0 := hXr.frozen 0; have f1 := hXr.frozen 1; have f2 := hXr.frozen 2; have f3 := hXr.frozen 3; have f4 := hXr.frozen 4; have f6 := hXr.frozen 5; have g0 := hXr.cell 0 (v := .int .i64 0) rfl; have g1 := hXr.cell 1 (v := .int .i64 0) rfl; have g2 := hXr.cell 2 (v := .int .i64 0) rfl; have g3 := hXr.cell 3 (v := .string ⟨#[]⟩) rfl; have g4 := hXr.cell 4 (v := .string ⟨#[]⟩) rfl; have g5 := hXr.cell 5 (v := .slice none 0 0) rfl; have o0 := hXo.cell 0 (v := .int .i64 6) rfl; have o1 := hXo.cell 1 (v := .int .i64 kind) rfl; have o2 := hXo.cell 2 (v := .int .i64 num) rfl; have o3 := hXo.cell 3 (v := .string s) rfl; have o4 := hXo.cell 4 (v := .string f) rfl; have o5 := hXo.cell 5 (v := .slice (some ⟨b, off, none⟩) len cu) rfl; have e0 := hXe.cell 0 (v := .int .i64 6) rfl; have e1 := hXe.cell 1 (v := .int .i64 kind) rfl; have e2 := hXe.cell 2 (v := .int .i64 num) rfl; have e3 := hXe.cell 3 (v := .string s) rfl; have e4 := hXe.cell 4 (v := .string f) rfl; have e5 := hXe.cell 5 (v := .slice q len cap) rfl; have hlt3 : w.heap.size + 1 < w6.heap.size := hXr.lt; obtain ⟨hZ, hKz⟩ := set6 hXr (.int .i64 1) (.int .i64 1) (.int .i64 V) (.string ⟨#[]⟩) (.string ⟨#[]⟩) (.slice none 0 0); have z0 := hZ.cell 0 (v := .int .i64 1) rfl; have z1 := hZ.cell 1 (v := .int .i64 1) rfl; have z2 := hZ.cell 2 (v := .int .i64 V) rfl; have z3 := hZ.cell 3 (v := .string ⟨#[]⟩) rfl; have z4 := hZ.cell 4 (v := .string ⟨#[]⟩) rfl; have z5 := hZ.cell 5 (v := .slice none 0 0) rfl; replace hZ := Lib.hid hZ; replace hKz := Lib.hid hKz; replace hXw := Lib.hid hXw; replace hXe := Lib.hid hXe; replace hXr := Lib.hid hXr; replace hXo := Lib.hid hXo; replace hXu := Lib.hid hXu; replace hXs := Lib.hid hXs))
      refine bodyPost_ret (v := .agg #[.int .i64 1, .int .i64 1, .int .i64 V, .string ⟨#[]⟩, .string ⟨#[]⟩, .slice none 0 0]) (by simp [results, Tryz.results9, go_sem, z0, z1, z2, z3, z4, z5]) rfl ?_
      have hF := hend.out _ _ _ [] hXw.out hKz.out hXs.out (exsSlB.nil _ _)
      rw [show y = _ from hfe.out.trans ((step_un_yes (by omega) ha1.out hok (by rw [hV]; omega)).trans (by rw [hV, hka.out]; try rfl))]
      exact ⟨_, rfl, hF.1, hF.2⟩

set_option maxRecDepth 100000 in
set_option maxHeartbeats 4000000 in
theorem rf_7_nc (kind num : Int) (s f : ByteArray) (es : List Ex) (a : Ex) (hl0 : foldL es = [a]) (ha1 : ¬ a.op = 1) (IH : ∀ i (hi : i < es.length), RFoldC es[i]) : RFoldC (.mk 7 kind num s f es) := by
  intro w v hv hw hcnt
  obtain ⟨q, cap, rfl⟩ := hv.val
  rw [well_eq, Bool.and_eq_true] at hw
  have hc1 : cntL es < (Ex.mk 7 kind num s f es).cnt := cnt_args (.mk 7 kind num s f es)
  have hl5 : es.length ≤ 500 := by have := len_cntL es; omega
  have hel : Hid (∀ i (hi : i < es.length), es[i].well = true ∧ es[i].cnt ≤ 500) := fun i hi => ⟨wellL_in hw.2 (List.getElem_mem hi), by have := cnt_mem hi; omega⟩
  have hshp : shpB (.mk 7 kind num s f (foldL es)) = true := by rw [shp_len _ _ _ _ _ (foldL_len es)]; exact hw.1
  have hLw : Hid (wellL (foldL es) = true) := foldL_well es hw.2
  have hlf : (foldL es).length = es.length := foldL_len es
  have hfe : foldE (.mk 7 kind num s f es) = stepE (.mk 7 kind num s f (foldL es)) := foldE_eq _
  replace IH := Lib.hid IH
  obtain ⟨i0, hi, hz0, hz1, hz2⟩ := info_parts infoEx
  replace hv : exsSl w (.slice q es.length cap) es := hv
  show Calls Tryz.prog 9 #[.agg #[.int .i64 7, .int .i64 kind, .int .i64 num, .string s, .string f, .slice q es.length cap]] w _
  obtain ⟨y, hy⟩ : ∃ y, foldE (.mk 7 kind num s f es) = y := ⟨_, rfl⟩
  rw [hy] at hfe ⊢
  obtain ⟨len, hlen⟩ : ∃ len, es.length = len := ⟨_, rfl⟩
  rw [hlen] at hv hl5 hlf ⊢
  replace hlen := Lib.hid hlen
  replace hfe := Lib.hid hfe
  replace hshp := Lib.hid hshp
  replace hlf := Lib.hid hlf
  replace hv := Lib.hid hv
  clear hw
  clear hc1 hcnt hy
  go_enter Tryz.func9, Tryz.ntmps9
  go_wp2_with fail
  go_loopw [4] (fun i wr => ∃ (k : Nat) (L : List (List Value)) (u : Value), k ≤ len ∧ i = .int .i64 k ∧
      Hid (Blk wr w.heap.size 24 #[.int .i64 7, .int .i64 kind, .int .i64 num, .string s, .string f, .slice q len cap]) ∧
      Hid (Blk wr (w.heap.size + 1) 24 #[.int .i64 0, .int .i64 0, .int .i64 0, .string ⟨#[]⟩, .string ⟨#[]⟩, .slice none 0 0]) ∧
      Hid (Blk wr (w.heap.size + 1 + 1) 24 #[.int .i64 7, .int .i64 kind, .int .i64 num, .string s, .string f, u]) ∧
      Hid (wr.ownsRow (w.heap.size + 3) 24 6 u k L.flatten) ∧
      Hid (exsAtB (fun b => w.heap.size + 3 ≤ b ∧ b < wr.heap.size ∧ u.ownBlock ≠ some b) wr (foldL (es.take k)) L) ∧ Hid (Kp [] w wr) ∧ Hid (w.heap.size + 3 ≤ wr.heap.size)) (fun i _ => len - (intOf i).toNat)
  case atStart => exact ⟨0, [], .slice none 0 0, Nat.zero_le _, rfl, ((Blk.new _ _ _).alloc _).alloc _, (blk_new (by simp) _ _).alloc _, blk_new (by simp) _ _, World.ownsRow_nil _ _ _ _, (by show exsAtB _ _ (foldL []) []; rw [foldL, exsAtB]), (((Kp.refl [] w).alloc _).alloc _).alloc _, (by show _ ≤ _; simp)⟩
  case round =>
    obtain ⟨k, L, u, hk, rfl, hBe, hBr, hBo, hu, hE, hK, hsz⟩ := hrel
    have b5 := hBe.out.cell 5 (v := .slice q len cap) rfl
    have o5 := hBo.out.cell 5 (v := u) rfl
    by_cases hlt : k < len
    · have hlt2 : k < es.length := by rw [hlen.out]; exact hlt
      obtain ⟨b, off, ux, rfl, hux, c0, c1, c2, c3, c4, c5⟩ := hv.out.at_in hK.out k hlt2
      have hcall := IH.out k hlt2
      have hts := Lib.hid (foldL_take_succ hlt2)
      have hwe := Lib.hid (hel.out k hlt2)
      obtain ⟨x, hx⟩ : ∃ x, es[k] = x := ⟨_, rfl⟩
      rw [hx] at c0 c1 c2 c3 c4 hcall hts hwe hux
      clear hx
      obtain ⟨qu, cu, rfl⟩ := hux.val
      have hfold := Lib.hid (hcall wr _ (hux.kp hK.out) hwe.out.1 hwe.out.2)
      clear hcall
      obtain ⟨lu, hlu⟩ : ∃ lu, x.args.length = lu := ⟨_, rfl⟩
      unfold exVal at hfold
      rw [hlu] at c5 hfold
      clear hlu hux
      obtain ⟨y, hy⟩ : ∃ y, foldE x = y := ⟨_, rfl⟩
      rw [hy] at hfold hts
      clear hy hwe
      have hul : Hid (∀ g, u.ownBlock = some g → w.heap.size + 3 ≤ g ∧ g < wr.heap.size) := fun g hg => hu.out.lt g hg
      go_wp2_with fail
      refine hfold.out.mono ?_
      rintro r w2 ⟨u1, rfl, hk2, hy⟩
      obtain ⟨qy, cy, rfl⟩ := hy.drop.val
      unfold exVal
      obtain ⟨ly, hly⟩ : ∃ ly, y.args.length = ly := ⟨_, rfl⟩
      rw [hly] at hy ⊢
      clear hly
      have hsz1 : wr.heap.size ≤ w2.heap.size := hk2.size
      have hU2 := Lib.hid ((row_kp hu.out hk2).alloc (.cells #[.int .i64 y.op, .int .i64 y.kind, .int .i64 y.num, .string y.s, .string y.field, .slice qy ly cy] 24))
      have hK2 := Lib.hid ((hK.out.trans hk2).alloc (.cells #[.int .i64 y.op, .int .i64 y.kind, .int .i64 y.num, .string y.s, .string y.field, .slice qy ly cy] 24))
      have hbs : Hid (w.heap.size + 3 ≤ (w2.alloc (.cells #[.int .i64 y.op, .int .i64 y.kind, .int .i64 y.num, .string y.s, .string y.field, .slice qy ly cy] 24)).heap.size) := by show _ ≤ _; rw [World.size_alloc]; have := hsz.out; omega
      have hnew := Lib.hid (ex_cells w2 y.op y.kind y.num y.s y.field (.slice qy ly cy))
      have hone := Lib.hid (ex_one y.op y.kind y.num y.s y.field qy ly cy)
      have hkeep : Hid (∀ b, b < wr.heap.size → (w2.alloc (.cells #[.int .i64 y.op, .int .i64 y.kind, .int .i64 y.num, .string y.s, .string y.field, .slice qy ly cy] 24)).heap[b]? = wr.heap[b]?) := fun b hb => by
        have h1 := hk2.alloc (.cells #[.int .i64 y.op, .int .i64 y.kind, .int .i64 y.num, .string y.s, .string y.field, .slice qy ly cy] 24)
        exact h1.block b hb (by simp)
      have hy2 := Lib.hid hy
      have hsz2 := Lib.hid hsz1
      replace hk2 := Lib.hid hk2
      clear hy hsz1
      go_wp2_with (at_builtin; refine wpList_append_own_at _ rfl (.tmp 25) (.tmp 32) 22 rfl (w.heap.size + 3) 24 i0 _ 6 80 Tryz.underlying22 hi hz0 hz1 hz2 rfl (by decide) _ k _ rfl hU2.out ⟨w2.heap.size, 0, none⟩ 1 1 [.int .i64 y.op, .int .i64 y.kind, .int .i64 y.num, .string y.s, .string y.field, .slice qy ly cy] rfl rfl hnew.out hone.out (by unfold maxLen; omega) (by omega) hbs.out ?_; intro v' w3 hown' hgrow _ hat; obtain ⟨vq, vc, rfl⟩ := own_slice hown'; have hlow : ∀ b, b < wr.heap.size → u.ownBlock ≠ some b → w3.heap[b]? = wr.heap[b]? := (fun b hb h => (hgrow.block b (by rw [World.size_alloc]; have := hsz2.out; omega) (fun h4 => h h4.symm)).trans (hkeep.out b hb)); have hlow3 : ∀ b, b < w.heap.size + 3 → w3.heap[b]? = wr.heap[b]? := (fun b hb => hlow b (by have := hsz.out; omega) (fun h4 => by have := (hul.out b h4).1; omega)); have hBo3 : Blk w3 (w.heap.size + 1 + 1) 24 #[.int .i64 7, .int .i64 kind, .int .i64 num, .string s, .string f, u] := (hlow3 _ (by omega)).trans hBo.out; have f5 := hBo3.frozen 5; have d5 := hBo3.cell 5 (v := u) rfl; replace hlow := Lib.hid hlow; replace hlow3 := Lib.hid hlow3; replace hBo3 := Lib.hid hBo3; replace hgrow := Lib.hid hgrow; replace hown' := Lib.hid hown'; replace hat := Lib.hid hat)
      have hg3 : (w2.alloc (.cells #[.int .i64 y.op, .int .i64 y.kind, .int .i64 y.num, .string y.s, .string y.field, .slice qy ly cy] 24)).heap.size ≤ w3.heap.size := hgrow.out.size
      rw [World.size_alloc] at hg3
      have hat2 : (Value.slice vq (k + 1) vc).ownBlock = u.ownBlock ∨ (Value.slice vq (k + 1) vc).ownBlock = some (w2.heap.size + 1) := by
        have := hat.out
        rw [World.size_alloc] at this
        exact this
      have hgb : ∀ b, b < w2.heap.size + 1 → u.ownBlock ≠ some b → w3.heap[b]? = (w2.alloc (.cells #[.int .i64 y.op, .int .i64 y.kind, .int .i64 y.num, .string y.s, .string y.field, .slice qy ly cy] 24)).heap[b]? := fun b hb h => hgrow.out.block b (by rw [World.size_alloc]; exact hb) (fun h4 => h h4.symm)
      have hE3 : exsAtB (fun b => w.heap.size + 3 ≤ b ∧ b < w3.heap.size ∧ (Value.slice vq (k + 1) vc).ownBlock ≠ some b) w3 (foldL (es.take (k + 1))) (L ++ [exV y (.slice qy ly cy)]) := by
        rw [hts.out]
        have hsz1 := hsz2.out
        have hsz0 := hsz.out
        refine exsAtB.snoc (exsAtB.move ?_ ?_ _ L hE.out) (exAtB_mk (hy2.out.move ?_ ?_))
        · rintro b ⟨h1, h2, h3⟩
          refine ⟨h1, by omega, fun h4 => ?_⟩
          rcases hat2 with h5 | h5
          · exact h3 (h5 ▸ h4)
          · rw [h5] at h4; simp at h4; omega
        · rintro b ⟨h1, h2, h3⟩ hb
          exact hlow.out b h2 h3
        · rintro b ⟨h1, h2⟩
          refine ⟨by omega, by omega, fun h4 => ?_⟩
          rcases hat2 with h5 | h5
          · rw [h5] at h4; have := (hul.out b h4).2; omega
          · rw [h5] at h4; simp at h4; omega
        · rintro b ⟨h1, h2⟩ hb
          rw [hgb b (by omega) (fun h => by have := (hul.out b h).2; omega)]
          exact ((Kp.refl [] w2).alloc _).block b hb (by simp)
      have hE4 : Hid (exsAtB (fun b => w.heap.size + 3 ≤ b ∧ b < (w3.setCell ⟨w.heap.size + 1 + 1, 5, none⟩ (.slice vq (k + 1) vc)).heap.size ∧ (Value.slice vq (k + 1) vc).ownBlock ≠ some b) (w3.setCell ⟨w.heap.size + 1 + 1, 5, none⟩ (.slice vq (k + 1) vc)) (foldL (es.take (k + 1))) (L ++ [exV y (.slice qy ly cy)])) :=
        exsAtB.move (fun b h => ⟨h.1, by simpa [World.setCell] using h.2.1, h.2.2⟩) (fun b h _ => Below.heap_setCell w3 _ _ b (by have := h.1; show ¬ b = w.heap.size + 1 + 1; omega)) _ _ hE3
      have hO4 : Hid ((w3.setCell ⟨w.heap.size + 1 + 1, 5, none⟩ (.slice vq (k + 1) vc)).ownsRow (w.heap.size + 3) 24 6 (.slice vq (k + 1) vc) (k + 1) (L ++ [exV y (.slice qy ly cy)]).flatten) := by
        show World.ownsRow _ _ _ _ _ _ _
        rw [flatten_snoc]
        exact row_set hown'.out _ (by omega) _ _
      have hB1 : Hid (Blk (w3.setCell ⟨w.heap.size + 1 + 1, 5, none⟩ (.slice vq (k + 1) vc)) w.heap.size 24 #[.int .i64 7, .int .i64 kind, .int .i64 num, .string s, .string f, .slice (some ⟨b, off, none⟩) len cap]) := Blk.other (show Blk w3 _ _ _ from (hlow3.out _ (by omega)).trans hBe.out) (by simp; omega) _
      have hB2 : Hid (Blk (w3.setCell ⟨w.heap.size + 1 + 1, 5, none⟩ (.slice vq (k + 1) vc)) (w.heap.size + 1) 24 #[.int .i64 0, .int .i64 0, .int .i64 0, .string ⟨#[]⟩, .string ⟨#[]⟩, .slice none 0 0]) := Blk.other (show Blk w3 _ _ _ from (hlow3.out _ (by omega)).trans hBr.out) (by simp) _
      have hB3 : Hid (Blk (w3.setCell ⟨w.heap.size + 1 + 1, 5, none⟩ (.slice vq (k + 1) vc)) (w.heap.size + 1 + 1) 24 #[.int .i64 7, .int .i64 kind, .int .i64 num, .string s, .string f, .slice vq (k + 1) vc]) := hBo3.out.set 5 _
      have hK3 : Hid (Kp [] w (w3.setCell ⟨w.heap.size + 1 + 1, 5, none⟩ (.slice vq (k + 1) vc))) := (hK2.out.grown hgrow.out (fun j hj => .inr (by have := (hul.out j hj).1; omega))).setCell (.inr (by show w.heap.size ≤ w.heap.size + 1 + 1; omega)) _
      have hs3 : Hid (w.heap.size + 3 ≤ (w3.setCell ⟨w.heap.size + 1 + 1, 5, none⟩ (.slice vq (k + 1) vc)).heap.size) := by show _ ≤ _; have h1 := hsz.out; have h2 := hsz2.out; simp [World.setCell]; omega
      clear hgrow hown' hat hg3 hat2 hE3
      go_roundw
      case rel => exact ⟨k + 1, L ++ [exV y (.slice qy ly cy)], _, by omega, by go_num, hB1, hB2, hB3, hO4, hE4, hK3, hs3⟩
      case measure => simp [intOf]; omega
    · obtain rfl : len = k := by omega
      have hfull := tk_all hlen.out
      have hE2 := hE.out
      rw [hfull] at hE2
      have hus := row_at (by rw [hlf.out]) hu.out hE2
      obtain ⟨qu, cu, rfl⟩ := own_slice hu.out
      clear hE2 hfull hE hu hel IH hv hlt b5 o5 hk
      rw [hl0] at hus hshp hLw hlf hfe
      have hout : Hid (∀ X, Kp [] wr X → Kp [] w X ∧ Blk X w.heap.size 24 #[.int .i64 7, .int .i64 kind, .int .i64 num, .string s, .string f, .slice q len cap] ∧ Blk X (w.heap.size + 1) 24 #[.int .i64 0, .int .i64 0, .int .i64 0, .string ⟨#[]⟩, .string ⟨#[]⟩, .slice none 0 0] ∧ Blk X (w.heap.size + 1 + 1) 24 #[.int .i64 7, .int .i64 kind, .int .i64 num, .string s, .string f, .slice qu len cu] ∧ exsSlB (fun b => w.heap.size + 3 ≤ b ∧ b < wr.heap.size) X (.slice qu len cu) [a] ∧ wr.heap.size ≤ X.heap.size) := fun X hX => ⟨hK.out.trans hX, hBe.out.kp hX (by simp), hBr.out.kp hX (by simp), hBo.out.kp hX (by simp), hus.move (fun b h => h) (fun b _ hb => hX.block b hb (by simp)), hX.size⟩
      have hend : Hid (∀ (X F : World) (u : Value) (es : List Ex), Kp [] w X → Kp [w.heap.size + 1] X F → wr.heap.size ≤ X.heap.size → exsSlB (fun b => w.heap.size + 3 ≤ b ∧ b < wr.heap.size) X u es → Kp [] w F ∧ exsSlB (Rg w F) F u es) := by
        intro X F u es h1 h2 h3 h4
        refine ⟨h1.trans' h2 (fun i hi hl => by simp at hi; omega), h4.move (fun b h => ⟨by omega, by have := h2.size; omega⟩) (fun b h hb => h2.block b hb (by simp; omega))⟩
      replace hus := Lib.hid hus
      clear hBe hBr hBo hsz hi hz0 hz1 hz2
      obtain ⟨b, off, rfl, hget⟩ := hus.out.at_ (by simp)
      obtain ⟨qa, la, ca, hla, hua, hca⟩ := hget 0 (by simp)
      replace hca : ∀ j x, (exV a (.slice qa la ca))[j]? = some x → wr.cell? ⟨b, off + (0 * 6 + j), none⟩ = some x := hca
      have a0 := hca 0 _ rfl
      have a1 := hca 1 _ rfl
      have a2 := hca 2 _ rfl
      have a3 := hca 3 _ rfl
      have a4 := hca 4 _ rfl
      have a5 := hca 5 _ rfl
      simp only [Nat.zero_mul, Nat.zero_add, Nat.add_zero, Nat.one_mul] at a0 a1 a2 a3 a4 a5
      replace hua : exsSlB _ wr (.slice qa la ca) a.args := hua
      clear hget
      have hln : Hid (1 = len) := hlf.out
      have hp0 : 0 < len := by have := hln.out; omega
      have hab : (a.op != 1) = true := by simpa using ha1
      have hY := hout.out wr (Kp.refl [] wr)
      have e0x := hY.2.1.cell 0 (v := .int .i64 7) rfl
      have e5x := hY.2.1.cell 5 (v := .slice q len cap) rfl
      have o5x := hY.2.2.2.1.cell 5 (v := .slice (some ⟨b, off, none⟩) len cu) rfl
      clear hY
      have hX := hout.out (wr.alloc (.cells #[.int .i64 a.op, .int .i64 a.kind, .int .i64 a.num, .string a.s, .string a.field, .slice qa la ca] 24)) ((Kp.refl [] wr).alloc (.cells #[.int .i64 a.op, .int .i64 a.kind, .int .i64 a.num, .string a.s, .string a.field, .slice qa la ca] 24))
      obtain ⟨hXw, hXe, hXr, hXo, hXu, hXs⟩ := hX
      have f0 := hXr.frozen 0
      have f1 := hXr.frozen 1
      have f2 := hXr.frozen 2
      have f3 := hXr.frozen 3
      have f4 := hXr.frozen 4
      have f6 := hXr.frozen 5
      have g0 := hXr.cell 0 (v := .int .i64 0) rfl
      have g1 := hXr.cell 1 (v := .int .i64 0) rfl
      have g2 := hXr.cell 2 (v := .int .i64 0) rfl
      have g3 := hXr.cell 3 (v := .string ⟨#[]⟩) rfl
      have g4 := hXr.cell 4 (v := .string ⟨#[]⟩) rfl
      have g5 := hXr.cell 5 (v := .slice none 0 0) rfl
      have o0 := hXo.cell 0 (v := .int .i64 7) rfl
      have o1 := hXo.cell 1 (v := .int .i64 kind) rfl
      have o2 := hXo.cell 2 (v := .int .i64 num) rfl
      have o3 := hXo.cell 3 (v := .string s) rfl
      have o4 := hXo.cell 4 (v := .string f) rfl
      have o5 := hXo.cell 5 (v := .slice (some ⟨b, off, none⟩) len cu) rfl
      have e0 := hXe.cell 0 (v := .int .i64 7) rfl
      have e1 := hXe.cell 1 (v := .int .i64 kind) rfl
      have e2 := hXe.cell 2 (v := .int .i64 num) rfl
      have e3 := hXe.cell 3 (v := .string s) rfl
      have e4 := hXe.cell 4 (v := .string f) rfl
      have e5 := hXe.cell 5 (v := .slice q len cap) rfl
      have hlt3 : w.heap.size + 1 < (wr.alloc (.cells #[.int .i64 a.op, .int .i64 a.kind, .int .i64 a.num, .string a.s, .string a.field, .slice qa la ca] 24)).heap.size := hXr.lt
      obtain ⟨hZ, hKz⟩ := set6 hXr (.int .i64 7) (.int .i64 kind) (.int .i64 num) (.string s) (.string f) (.slice (some ⟨b, off, none⟩) len cu)
      have z0 := hZ.cell 0 (v := .int .i64 7) rfl
      have z1 := hZ.cell 1 (v := .int .i64 kind) rfl
      have z2 := hZ.cell 2 (v := .int .i64 num) rfl
      have z3 := hZ.cell 3 (v := .string s) rfl
      have z4 := hZ.cell 4 (v := .string f) rfl
      have z5 := hZ.cell 5 (v := .slice (some ⟨b, off, none⟩) len cu) rfl
      replace hZ := Lib.hid hZ
      replace hKz := Lib.hid hKz
      replace hXw := Lib.hid hXw
      replace hXe := Lib.hid hXe
      replace hXr := Lib.hid hXr
      replace hXo := Lib.hid hXo
      replace hXu := Lib.hid hXu
      replace hXs := Lib.hid hXs
      go_wp2_with fail
      refine bodyPost_ret (v := .agg #[.int .i64 7, .int .i64 kind, .int .i64 num, .string s, .string f, .slice (some ⟨b, off, none⟩) len cu]) (by simp [results, Tryz.results9, go_sem, z0, z1, z2, z3, z4, z5]) rfl ?_
      have hF := hend.out _ _ _ [a] hXw.out hKz.out hXs.out hXu.out
      rw [show y = _ from hfe.out.trans (step_un_no (by omega) (.inl ha1))]
      exact ⟨_, rfl, hF.1, hF.2⟩

set_option maxRecDepth 100000 in
set_option maxHeartbeats 4000000 in
theorem rf_7_nk (kind num : Int) (s f : ByteArray) (es : List Ex) (a : Ex) (hl0 : foldL es = [a]) (ha1 : a.op = 1) (hka : ¬ a.kind = 2) (IH : ∀ i (hi : i < es.length), RFoldC es[i]) : RFoldC (.mk 7 kind num s f es) := by
  intro w v hv hw hcnt
  obtain ⟨q, cap, rfl⟩ := hv.val
  rw [well_eq, Bool.and_eq_true] at hw
  have hc1 : cntL es < (Ex.mk 7 kind num s f es).cnt := cnt_args (.mk 7 kind num s f es)
  have hl5 : es.length ≤ 500 := by have := len_cntL es; omega
  have hel : Hid (∀ i (hi : i < es.length), es[i].well = true ∧ es[i].cnt ≤ 500) := fun i hi => ⟨wellL_in hw.2 (List.getElem_mem hi), by have := cnt_mem hi; omega⟩
  have hshp : shpB (.mk 7 kind num s f (foldL es)) = true := by rw [shp_len _ _ _ _ _ (foldL_len es)]; exact hw.1
  have hLw : Hid (wellL (foldL es) = true) := foldL_well es hw.2
  have hlf : (foldL es).length = es.length := foldL_len es
  have hfe : foldE (.mk 7 kind num s f es) = stepE (.mk 7 kind num s f (foldL es)) := foldE_eq _
  replace IH := Lib.hid IH
  obtain ⟨i0, hi, hz0, hz1, hz2⟩ := info_parts infoEx
  replace hv : exsSl w (.slice q es.length cap) es := hv
  show Calls Tryz.prog 9 #[.agg #[.int .i64 7, .int .i64 kind, .int .i64 num, .string s, .string f, .slice q es.length cap]] w _
  obtain ⟨y, hy⟩ : ∃ y, foldE (.mk 7 kind num s f es) = y := ⟨_, rfl⟩
  rw [hy] at hfe ⊢
  obtain ⟨len, hlen⟩ : ∃ len, es.length = len := ⟨_, rfl⟩
  rw [hlen] at hv hl5 hlf ⊢
  replace hlen := Lib.hid hlen
  replace hfe := Lib.hid hfe
  replace hshp := Lib.hid hshp
  replace hlf := Lib.hid hlf
  replace hv := Lib.hid hv
  clear hw
  clear hc1 hcnt hy
  go_enter Tryz.func9, Tryz.ntmps9
  go_wp2_with fail
  go_loopw [4] (fun i wr => ∃ (k : Nat) (L : List (List Value)) (u : Value), k ≤ len ∧ i = .int .i64 k ∧
      Hid (Blk wr w.heap.size 24 #[.int .i64 7, .int .i64 kind, .int .i64 num, .string s, .string f, .slice q len cap]) ∧
      Hid (Blk wr (w.heap.size + 1) 24 #[.int .i64 0, .int .i64 0, .int .i64 0, .string ⟨#[]⟩, .string ⟨#[]⟩, .slice none 0 0]) ∧
      Hid (Blk wr (w.heap.size + 1 + 1) 24 #[.int .i64 7, .int .i64 kind, .int .i64 num, .string s, .string f, u]) ∧
      Hid (wr.ownsRow (w.heap.size + 3) 24 6 u k L.flatten) ∧
      Hid (exsAtB (fun b => w.heap.size + 3 ≤ b ∧ b < wr.heap.size ∧ u.ownBlock ≠ some b) wr (foldL (es.take k)) L) ∧ Hid (Kp [] w wr) ∧ Hid (w.heap.size + 3 ≤ wr.heap.size)) (fun i _ => len - (intOf i).toNat)
  case atStart => exact ⟨0, [], .slice none 0 0, Nat.zero_le _, rfl, ((Blk.new _ _ _).alloc _).alloc _, (blk_new (by simp) _ _).alloc _, blk_new (by simp) _ _, World.ownsRow_nil _ _ _ _, (by show exsAtB _ _ (foldL []) []; rw [foldL, exsAtB]), (((Kp.refl [] w).alloc _).alloc _).alloc _, (by show _ ≤ _; simp)⟩
  case round =>
    obtain ⟨k, L, u, hk, rfl, hBe, hBr, hBo, hu, hE, hK, hsz⟩ := hrel
    have b5 := hBe.out.cell 5 (v := .slice q len cap) rfl
    have o5 := hBo.out.cell 5 (v := u) rfl
    by_cases hlt : k < len
    · have hlt2 : k < es.length := by rw [hlen.out]; exact hlt
      obtain ⟨b, off, ux, rfl, hux, c0, c1, c2, c3, c4, c5⟩ := hv.out.at_in hK.out k hlt2
      have hcall := IH.out k hlt2
      have hts := Lib.hid (foldL_take_succ hlt2)
      have hwe := Lib.hid (hel.out k hlt2)
      obtain ⟨x, hx⟩ : ∃ x, es[k] = x := ⟨_, rfl⟩
      rw [hx] at c0 c1 c2 c3 c4 hcall hts hwe hux
      clear hx
      obtain ⟨qu, cu, rfl⟩ := hux.val
      have hfold := Lib.hid (hcall wr _ (hux.kp hK.out) hwe.out.1 hwe.out.2)
      clear hcall
      obtain ⟨lu, hlu⟩ : ∃ lu, x.args.length = lu := ⟨_, rfl⟩
      unfold exVal at hfold
      rw [hlu] at c5 hfold
      clear hlu hux
      obtain ⟨y, hy⟩ : ∃ y, foldE x = y := ⟨_, rfl⟩
      rw [hy] at hfold hts
      clear hy hwe
      have hul : Hid (∀ g, u.ownBlock = some g → w.heap.size + 3 ≤ g ∧ g < wr.heap.size) := fun g hg => hu.out.lt g hg
      go_wp2_with fail
      refine hfold.out.mono ?_
      rintro r w2 ⟨u1, rfl, hk2, hy⟩
      obtain ⟨qy, cy, rfl⟩ := hy.drop.val
      unfold exVal
      obtain ⟨ly, hly⟩ : ∃ ly, y.args.length = ly := ⟨_, rfl⟩
      rw [hly] at hy ⊢
      clear hly
      have hsz1 : wr.heap.size ≤ w2.heap.size := hk2.size
      have hU2 := Lib.hid ((row_kp hu.out hk2).alloc (.cells #[.int .i64 y.op, .int .i64 y.kind, .int .i64 y.num, .string y.s, .string y.field, .slice qy ly cy] 24))
      have hK2 := Lib.hid ((hK.out.trans hk2).alloc (.cells #[.int .i64 y.op, .int .i64 y.kind, .int .i64 y.num, .string y.s, .string y.field, .slice qy ly cy] 24))
      have hbs : Hid (w.heap.size + 3 ≤ (w2.alloc (.cells #[.int .i64 y.op, .int .i64 y.kind, .int .i64 y.num, .string y.s, .string y.field, .slice qy ly cy] 24)).heap.size) := by show _ ≤ _; rw [World.size_alloc]; have := hsz.out; omega
      have hnew := Lib.hid (ex_cells w2 y.op y.kind y.num y.s y.field (.slice qy ly cy))
      have hone := Lib.hid (ex_one y.op y.kind y.num y.s y.field qy ly cy)
      have hkeep : Hid (∀ b, b < wr.heap.size → (w2.alloc (.cells #[.int .i64 y.op, .int .i64 y.kind, .int .i64 y.num, .string y.s, .string y.field, .slice qy ly cy] 24)).heap[b]? = wr.heap[b]?) := fun b hb => by
        have h1 := hk2.alloc (.cells #[.int .i64 y.op, .int .i64 y.kind, .int .i64 y.num, .string y.s, .string y.field, .slice qy ly cy] 24)
        exact h1.block b hb (by simp)
      have hy2 := Lib.hid hy
      have hsz2 := Lib.hid hsz1
      replace hk2 := Lib.hid hk2
      clear hy hsz1
      go_wp2_with (at_builtin; refine wpList_append_own_at _ rfl (.tmp 25) (.tmp 32) 22 rfl (w.heap.size + 3) 24 i0 _ 6 80 Tryz.underlying22 hi hz0 hz1 hz2 rfl (by decide) _ k _ rfl hU2.out ⟨w2.heap.size, 0, none⟩ 1 1 [.int .i64 y.op, .int .i64 y.kind, .int .i64 y.num, .string y.s, .string y.field, .slice qy ly cy] rfl rfl hnew.out hone.out (by unfold maxLen; omega) (by omega) hbs.out ?_; intro v' w3 hown' hgrow _ hat; obtain ⟨vq, vc, rfl⟩ := own_slice hown'; have hlow : ∀ b, b < wr.heap.size → u.ownBlock ≠ some b → w3.heap[b]? = wr.heap[b]? := (fun b hb h => (hgrow.block b (by rw [World.size_alloc]; have := hsz2.out; omega) (fun h4 => h h4.symm)).trans (hkeep.out b hb)); have hlow3 : ∀ b, b < w.heap.size + 3 → w3.heap[b]? = wr.heap[b]? := (fun b hb => hlow b (by have := hsz.out; omega) (fun h4 => by have := (hul.out b h4).1; omega)); have hBo3 : Blk w3 (w.heap.size + 1 + 1) 24 #[.int .i64 7, .int .i64 kind, .int .i64 num, .string s, .string f, u] := (hlow3 _ (by omega)).trans hBo.out; have f5 := hBo3.frozen 5; have d5 := hBo3.cell 5 (v := u) rfl; replace hlow := Lib.hid hlow; replace hlow3 := Lib.hid hlow3; replace hBo3 := Lib.hid hBo3; replace hgrow := Lib.hid hgrow; replace hown' := Lib.hid hown'; replace hat := Lib.hid hat)
      have hg3 : (w2.alloc (.cells #[.int .i64 y.op, .int .i64 y.kind, .int .i64 y.num, .string y.s, .string y.field, .slice qy ly cy] 24)).heap.size ≤ w3.heap.size := hgrow.out.size
      rw [World.size_alloc] at hg3
      have hat2 : (Value.slice vq (k + 1) vc).ownBlock = u.ownBlock ∨ (Value.slice vq (k + 1) vc).ownBlock = some (w2.heap.size + 1) := by
        have := hat.out
        rw [World.size_alloc] at this
        exact this
      have hgb : ∀ b, b < w2.heap.size + 1 → u.ownBlock ≠ some b → w3.heap[b]? = (w2.alloc (.cells #[.int .i64 y.op, .int .i64 y.kind, .int .i64 y.num, .string y.s, .string y.field, .slice qy ly cy] 24)).heap[b]? := fun b hb h => hgrow.out.block b (by rw [World.size_alloc]; exact hb) (fun h4 => h h4.symm)
      have hE3 : exsAtB (fun b => w.heap.size + 3 ≤ b ∧ b < w3.heap.size ∧ (Value.slice vq (k + 1) vc).ownBlock ≠ some b) w3 (foldL (es.take (k + 1))) (L ++ [exV y (.slice qy ly cy)]) := by
        rw [hts.out]
        have hsz1 := hsz2.out
        have hsz0 := hsz.out
        refine exsAtB.snoc (exsAtB.move ?_ ?_ _ L hE.out) (exAtB_mk (hy2.out.move ?_ ?_))
        · rintro b ⟨h1, h2, h3⟩
          refine ⟨h1, by omega, fun h4 => ?_⟩
          rcases hat2 with h5 | h5
          · exact h3 (h5 ▸ h4)
          · rw [h5] at h4; simp at h4; omega
        · rintro b ⟨h1, h2, h3⟩ hb
          exact hlow.out b h2 h3
        · rintro b ⟨h1, h2⟩
          refine ⟨by omega, by omega, fun h4 => ?_⟩
          rcases hat2 with h5 | h5
          · rw [h5] at h4; have := (hul.out b h4).2; omega
          · rw [h5] at h4; simp at h4; omega
        · rintro b ⟨h1, h2⟩ hb
          rw [hgb b (by omega) (fun h => by have := (hul.out b h).2; omega)]
          exact ((Kp.refl [] w2).alloc _).block b hb (by simp)
      have hE4 : Hid (exsAtB (fun b => w.heap.size + 3 ≤ b ∧ b < (w3.setCell ⟨w.heap.size + 1 + 1, 5, none⟩ (.slice vq (k + 1) vc)).heap.size ∧ (Value.slice vq (k + 1) vc).ownBlock ≠ some b) (w3.setCell ⟨w.heap.size + 1 + 1, 5, none⟩ (.slice vq (k + 1) vc)) (foldL (es.take (k + 1))) (L ++ [exV y (.slice qy ly cy)])) :=
        exsAtB.move (fun b h => ⟨h.1, by simpa [World.setCell] using h.2.1, h.2.2⟩) (fun b h _ => Below.heap_setCell w3 _ _ b (by have := h.1; show ¬ b = w.heap.size + 1 + 1; omega)) _ _ hE3
      have hO4 : Hid ((w3.setCell ⟨w.heap.size + 1 + 1, 5, none⟩ (.slice vq (k + 1) vc)).ownsRow (w.heap.size + 3) 24 6 (.slice vq (k + 1) vc) (k + 1) (L ++ [exV y (.slice qy ly cy)]).flatten) := by
        show World.ownsRow _ _ _ _ _ _ _
        rw [flatten_snoc]
        exact row_set hown'.out _ (by omega) _ _
      have hB1 : Hid (Blk (w3.setCell ⟨w.heap.size + 1 + 1, 5, none⟩ (.slice vq (k + 1) vc)) w.heap.size 24 #[.int .i64 7, .int .i64 kind, .int .i64 num, .string s, .string f, .slice (some ⟨b, off, none⟩) len cap]) := Blk.other (show Blk w3 _ _ _ from (hlow3.out _ (by omega)).trans hBe.out) (by simp; omega) _
      have hB2 : Hid (Blk (w3.setCell ⟨w.heap.size + 1 + 1, 5, none⟩ (.slice vq (k + 1) vc)) (w.heap.size + 1) 24 #[.int .i64 0, .int .i64 0, .int .i64 0, .string ⟨#[]⟩, .string ⟨#[]⟩, .slice none 0 0]) := Blk.other (show Blk w3 _ _ _ from (hlow3.out _ (by omega)).trans hBr.out) (by simp) _
      have hB3 : Hid (Blk (w3.setCell ⟨w.heap.size + 1 + 1, 5, none⟩ (.slice vq (k + 1) vc)) (w.heap.size + 1 + 1) 24 #[.int .i64 7, .int .i64 kind, .int .i64 num, .string s, .string f, .slice vq (k + 1) vc]) := hBo3.out.set 5 _
      have hK3 : Hid (Kp [] w (w3.setCell ⟨w.heap.size + 1 + 1, 5, none⟩ (.slice vq (k + 1) vc))) := (hK2.out.grown hgrow.out (fun j hj => .inr (by have := (hul.out j hj).1; omega))).setCell (.inr (by show w.heap.size ≤ w.heap.size + 1 + 1; omega)) _
      have hs3 : Hid (w.heap.size + 3 ≤ (w3.setCell ⟨w.heap.size + 1 + 1, 5, none⟩ (.slice vq (k + 1) vc)).heap.size) := by show _ ≤ _; have h1 := hsz.out; have h2 := hsz2.out; simp [World.setCell]; omega
      clear hgrow hown' hat hg3 hat2 hE3
      go_roundw
      case rel => exact ⟨k + 1, L ++ [exV y (.slice qy ly cy)], _, by omega, by go_num, hB1, hB2, hB3, hO4, hE4, hK3, hs3⟩
      case measure => simp [intOf]; omega
    · obtain rfl : len = k := by omega
      have hfull := tk_all hlen.out
      have hE2 := hE.out
      rw [hfull] at hE2
      have hus := row_at (by rw [hlf.out]) hu.out hE2
      obtain ⟨qu, cu, rfl⟩ := own_slice hu.out
      clear hE2 hfull hE hu hel IH hv hlt b5 o5 hk
      rw [hl0] at hus hshp hLw hlf hfe
      have hout : Hid (∀ X, Kp [] wr X → Kp [] w X ∧ Blk X w.heap.size 24 #[.int .i64 7, .int .i64 kind, .int .i64 num, .string s, .string f, .slice q len cap] ∧ Blk X (w.heap.size + 1) 24 #[.int .i64 0, .int .i64 0, .int .i64 0, .string ⟨#[]⟩, .string ⟨#[]⟩, .slice none 0 0] ∧ Blk X (w.heap.size + 1 + 1) 24 #[.int .i64 7, .int .i64 kind, .int .i64 num, .string s, .string f, .slice qu len cu] ∧ exsSlB (fun b => w.heap.size + 3 ≤ b ∧ b < wr.heap.size) X (.slice qu len cu) [a] ∧ wr.heap.size ≤ X.heap.size) := fun X hX => ⟨hK.out.trans hX, hBe.out.kp hX (by simp), hBr.out.kp hX (by simp), hBo.out.kp hX (by simp), hus.move (fun b h => h) (fun b _ hb => hX.block b hb (by simp)), hX.size⟩
      have hend : Hid (∀ (X F : World) (u : Value) (es : List Ex), Kp [] w X → Kp [w.heap.size + 1] X F → wr.heap.size ≤ X.heap.size → exsSlB (fun b => w.heap.size + 3 ≤ b ∧ b < wr.heap.size) X u es → Kp [] w F ∧ exsSlB (Rg w F) F u es) := by
        intro X F u es h1 h2 h3 h4
        refine ⟨h1.trans' h2 (fun i hi hl => by simp at hi; omega), h4.move (fun b h => ⟨by omega, by have := h2.size; omega⟩) (fun b h hb => h2.block b hb (by simp; omega))⟩
      replace hus := Lib.hid hus
      clear hBe hBr hBo hsz hi hz0 hz1 hz2
      obtain ⟨b, off, rfl, hget⟩ := hus.out.at_ (by simp)
      obtain ⟨qa, la, ca, hla, hua, hca⟩ := hget 0 (by simp)
      replace hca : ∀ j x, (exV a (.slice qa la ca))[j]? = some x → wr.cell? ⟨b, off + (0 * 6 + j), none⟩ = some x := hca
      have a0 := hca 0 _ rfl
      have a1 := hca 1 _ rfl
      have a2 := hca 2 _ rfl
      have a3 := hca 3 _ rfl
      have a4 := hca 4 _ rfl
      have a5 := hca 5 _ rfl
      simp only [Nat.zero_mul, Nat.zero_add, Nat.add_zero, Nat.one_mul] at a0 a1 a2 a3 a4 a5
      replace hua : exsSlB _ wr (.slice qa la ca) a.args := hua
      clear hget
      have hln : Hid (1 = len) := hlf.out
      have hp0 : 0 < len := by have := hln.out; omega
      rw [ha1] at a0
      replace ha1 := Lib.hid ha1
      have hok : kindOk 7 a.kind = false := by simp [kindOk, hka]
      have hku : Hid (∀ W : World, Calls Tryz.prog 18 #[.int .i64 7, .int .i64 a.kind] W fun r w' => r = .returned (.int .i64 0) ∧ w' = W) := fun W => (kun_c 7 a.kind W).mono fun r w' h => ⟨h.1.trans (ret_int (by rw [if_neg (by omega)])), h.2⟩
      have hY := hout.out wr (Kp.refl [] wr)
      have e0x := hY.2.1.cell 0 (v := .int .i64 7) rfl
      have e5x := hY.2.1.cell 5 (v := .slice q len cap) rfl
      have o5x := hY.2.2.2.1.cell 5 (v := .slice (some ⟨b, off, none⟩) len cu) rfl
      clear hY
      have hX := hout.out (wr.alloc (.cells #[.int .i64 1, .int .i64 a.kind, .int .i64 a.num, .string a.s, .string a.field, .slice qa la ca] 24)) ((Kp.refl [] wr).alloc (.cells #[.int .i64 1, .int .i64 a.kind, .int .i64 a.num, .string a.s, .string a.field, .slice qa la ca] 24))
      obtain ⟨hXw, hXe, hXr, hXo, hXu, hXs⟩ := hX
      have f0 := hXr.frozen 0
      have f1 := hXr.frozen 1
      have f2 := hXr.frozen 2
      have f3 := hXr.frozen 3
      have f4 := hXr.frozen 4
      have f6 := hXr.frozen 5
      have g0 := hXr.cell 0 (v := .int .i64 0) rfl
      have g1 := hXr.cell 1 (v := .int .i64 0) rfl
      have g2 := hXr.cell 2 (v := .int .i64 0) rfl
      have g3 := hXr.cell 3 (v := .string ⟨#[]⟩) rfl
      have g4 := hXr.cell 4 (v := .string ⟨#[]⟩) rfl
      have g5 := hXr.cell 5 (v := .slice none 0 0) rfl
      have o0 := hXo.cell 0 (v := .int .i64 7) rfl
      have o1 := hXo.cell 1 (v := .int .i64 kind) rfl
      have o2 := hXo.cell 2 (v := .int .i64 num) rfl
      have o3 := hXo.cell 3 (v := .string s) rfl
      have o4 := hXo.cell 4 (v := .string f) rfl
      have o5 := hXo.cell 5 (v := .slice (some ⟨b, off, none⟩) len cu) rfl
      have e0 := hXe.cell 0 (v := .int .i64 7) rfl
      have e1 := hXe.cell 1 (v := .int .i64 kind) rfl
      have e2 := hXe.cell 2 (v := .int .i64 num) rfl
      have e3 := hXe.cell 3 (v := .string s) rfl
      have e4 := hXe.cell 4 (v := .string f) rfl
      have e5 := hXe.cell 5 (v := .slice q len cap) rfl
      have hlt3 : w.heap.size + 1 < (wr.alloc (.cells #[.int .i64 1, .int .i64 a.kind, .int .i64 a.num, .string a.s, .string a.field, .slice qa la ca] 24)).heap.size := hXr.lt
      obtain ⟨hZ, hKz⟩ := set6 hXr (.int .i64 7) (.int .i64 kind) (.int .i64 num) (.string s) (.string f) (.slice (some ⟨b, off, none⟩) len cu)
      have z0 := hZ.cell 0 (v := .int .i64 7) rfl
      have z1 := hZ.cell 1 (v := .int .i64 kind) rfl
      have z2 := hZ.cell 2 (v := .int .i64 num) rfl
      have z3 := hZ.cell 3 (v := .string s) rfl
      have z4 := hZ.cell 4 (v := .string f) rfl
      have z5 := hZ.cell 5 (v := .slice (some ⟨b, off, none⟩) len cu) rfl
      replace hZ := Lib.hid hZ
      replace hKz := Lib.hid hKz
      replace hXw := Lib.hid hXw
      replace hXe := Lib.hid hXe
      replace hXr := Lib.hid hXr
      replace hXo := Lib.hid hXo
      replace hXu := Lib.hid hXu
      replace hXs := Lib.hid hXs
      go_wp2_with (go_at_call 18; refine (hku.out _).mono ?_; rintro r w6 ⟨rfl, rfl⟩)
      refine bodyPost_ret (v := .agg #[.int .i64 7, .int .i64 kind, .int .i64 num, .string s, .string f, .slice (some ⟨b, off, none⟩) len cu]) (by simp [results, Tryz.results9, go_sem, z0, z1, z2, z3, z4, z5]) rfl ?_
      have hF := hend.out _ _ _ [a] hXw.out hKz.out hXs.out hXu.out
      rw [show y = _ from hfe.out.trans (step_un_no (by omega) (.inr (.inl hok)))]
      exact ⟨_, rfl, hF.1, hF.2⟩

set_option maxRecDepth 100000 in
set_option maxHeartbeats 4000000 in
theorem rf_7_neg (kind num : Int) (s f : ByteArray) (es : List Ex) (a : Ex) (hl0 : foldL es = [a]) (ha1 : a.op = 1) (hka : a.kind = 2) (hneg : unR 7 a.num < 0) (IH : ∀ i (hi : i < es.length), RFoldC es[i]) : RFoldC (.mk 7 kind num s f es) := by
  intro w v hv hw hcnt
  obtain ⟨q, cap, rfl⟩ := hv.val
  rw [well_eq, Bool.and_eq_true] at hw
  have hc1 : cntL es < (Ex.mk 7 kind num s f es).cnt := cnt_args (.mk 7 kind num s f es)
  have hl5 : es.length ≤ 500 := by have := len_cntL es; omega
  have hel : Hid (∀ i (hi : i < es.length), es[i].well = true ∧ es[i].cnt ≤ 500) := fun i hi => ⟨wellL_in hw.2 (List.getElem_mem hi), by have := cnt_mem hi; omega⟩
  have hshp : shpB (.mk 7 kind num s f (foldL es)) = true := by rw [shp_len _ _ _ _ _ (foldL_len es)]; exact hw.1
  have hLw : Hid (wellL (foldL es) = true) := foldL_well es hw.2
  have hlf : (foldL es).length = es.length := foldL_len es
  have hfe : foldE (.mk 7 kind num s f es) = stepE (.mk 7 kind num s f (foldL es)) := foldE_eq _
  replace IH := Lib.hid IH
  obtain ⟨i0, hi, hz0, hz1, hz2⟩ := info_parts infoEx
  replace hv : exsSl w (.slice q es.length cap) es := hv
  show Calls Tryz.prog 9 #[.agg #[.int .i64 7, .int .i64 kind, .int .i64 num, .string s, .string f, .slice q es.length cap]] w _
  obtain ⟨y, hy⟩ : ∃ y, foldE (.mk 7 kind num s f es) = y := ⟨_, rfl⟩
  rw [hy] at hfe ⊢
  obtain ⟨len, hlen⟩ : ∃ len, es.length = len := ⟨_, rfl⟩
  rw [hlen] at hv hl5 hlf ⊢
  replace hlen := Lib.hid hlen
  replace hfe := Lib.hid hfe
  replace hshp := Lib.hid hshp
  replace hlf := Lib.hid hlf
  replace hv := Lib.hid hv
  clear hw
  clear hc1 hcnt hy
  go_enter Tryz.func9, Tryz.ntmps9
  go_wp2_with fail
  go_loopw [4] (fun i wr => ∃ (k : Nat) (L : List (List Value)) (u : Value), k ≤ len ∧ i = .int .i64 k ∧
      Hid (Blk wr w.heap.size 24 #[.int .i64 7, .int .i64 kind, .int .i64 num, .string s, .string f, .slice q len cap]) ∧
      Hid (Blk wr (w.heap.size + 1) 24 #[.int .i64 0, .int .i64 0, .int .i64 0, .string ⟨#[]⟩, .string ⟨#[]⟩, .slice none 0 0]) ∧
      Hid (Blk wr (w.heap.size + 1 + 1) 24 #[.int .i64 7, .int .i64 kind, .int .i64 num, .string s, .string f, u]) ∧
      Hid (wr.ownsRow (w.heap.size + 3) 24 6 u k L.flatten) ∧
      Hid (exsAtB (fun b => w.heap.size + 3 ≤ b ∧ b < wr.heap.size ∧ u.ownBlock ≠ some b) wr (foldL (es.take k)) L) ∧ Hid (Kp [] w wr) ∧ Hid (w.heap.size + 3 ≤ wr.heap.size)) (fun i _ => len - (intOf i).toNat)
  case atStart => exact ⟨0, [], .slice none 0 0, Nat.zero_le _, rfl, ((Blk.new _ _ _).alloc _).alloc _, (blk_new (by simp) _ _).alloc _, blk_new (by simp) _ _, World.ownsRow_nil _ _ _ _, (by show exsAtB _ _ (foldL []) []; rw [foldL, exsAtB]), (((Kp.refl [] w).alloc _).alloc _).alloc _, (by show _ ≤ _; simp)⟩
  case round =>
    obtain ⟨k, L, u, hk, rfl, hBe, hBr, hBo, hu, hE, hK, hsz⟩ := hrel
    have b5 := hBe.out.cell 5 (v := .slice q len cap) rfl
    have o5 := hBo.out.cell 5 (v := u) rfl
    by_cases hlt : k < len
    · have hlt2 : k < es.length := by rw [hlen.out]; exact hlt
      obtain ⟨b, off, ux, rfl, hux, c0, c1, c2, c3, c4, c5⟩ := hv.out.at_in hK.out k hlt2
      have hcall := IH.out k hlt2
      have hts := Lib.hid (foldL_take_succ hlt2)
      have hwe := Lib.hid (hel.out k hlt2)
      obtain ⟨x, hx⟩ : ∃ x, es[k] = x := ⟨_, rfl⟩
      rw [hx] at c0 c1 c2 c3 c4 hcall hts hwe hux
      clear hx
      obtain ⟨qu, cu, rfl⟩ := hux.val
      have hfold := Lib.hid (hcall wr _ (hux.kp hK.out) hwe.out.1 hwe.out.2)
      clear hcall
      obtain ⟨lu, hlu⟩ : ∃ lu, x.args.length = lu := ⟨_, rfl⟩
      unfold exVal at hfold
      rw [hlu] at c5 hfold
      clear hlu hux
      obtain ⟨y, hy⟩ : ∃ y, foldE x = y := ⟨_, rfl⟩
      rw [hy] at hfold hts
      clear hy hwe
      have hul : Hid (∀ g, u.ownBlock = some g → w.heap.size + 3 ≤ g ∧ g < wr.heap.size) := fun g hg => hu.out.lt g hg
      go_wp2_with fail
      refine hfold.out.mono ?_
      rintro r w2 ⟨u1, rfl, hk2, hy⟩
      obtain ⟨qy, cy, rfl⟩ := hy.drop.val
      unfold exVal
      obtain ⟨ly, hly⟩ : ∃ ly, y.args.length = ly := ⟨_, rfl⟩
      rw [hly] at hy ⊢
      clear hly
      have hsz1 : wr.heap.size ≤ w2.heap.size := hk2.size
      have hU2 := Lib.hid ((row_kp hu.out hk2).alloc (.cells #[.int .i64 y.op, .int .i64 y.kind, .int .i64 y.num, .string y.s, .string y.field, .slice qy ly cy] 24))
      have hK2 := Lib.hid ((hK.out.trans hk2).alloc (.cells #[.int .i64 y.op, .int .i64 y.kind, .int .i64 y.num, .string y.s, .string y.field, .slice qy ly cy] 24))
      have hbs : Hid (w.heap.size + 3 ≤ (w2.alloc (.cells #[.int .i64 y.op, .int .i64 y.kind, .int .i64 y.num, .string y.s, .string y.field, .slice qy ly cy] 24)).heap.size) := by show _ ≤ _; rw [World.size_alloc]; have := hsz.out; omega
      have hnew := Lib.hid (ex_cells w2 y.op y.kind y.num y.s y.field (.slice qy ly cy))
      have hone := Lib.hid (ex_one y.op y.kind y.num y.s y.field qy ly cy)
      have hkeep : Hid (∀ b, b < wr.heap.size → (w2.alloc (.cells #[.int .i64 y.op, .int .i64 y.kind, .int .i64 y.num, .string y.s, .string y.field, .slice qy ly cy] 24)).heap[b]? = wr.heap[b]?) := fun b hb => by
        have h1 := hk2.alloc (.cells #[.int .i64 y.op, .int .i64 y.kind, .int .i64 y.num, .string y.s, .string y.field, .slice qy ly cy] 24)
        exact h1.block b hb (by simp)
      have hy2 := Lib.hid hy
      have hsz2 := Lib.hid hsz1
      replace hk2 := Lib.hid hk2
      clear hy hsz1
      go_wp2_with (at_builtin; refine wpList_append_own_at _ rfl (.tmp 25) (.tmp 32) 22 rfl (w.heap.size + 3) 24 i0 _ 6 80 Tryz.underlying22 hi hz0 hz1 hz2 rfl (by decide) _ k _ rfl hU2.out ⟨w2.heap.size, 0, none⟩ 1 1 [.int .i64 y.op, .int .i64 y.kind, .int .i64 y.num, .string y.s, .string y.field, .slice qy ly cy] rfl rfl hnew.out hone.out (by unfold maxLen; omega) (by omega) hbs.out ?_; intro v' w3 hown' hgrow _ hat; obtain ⟨vq, vc, rfl⟩ := own_slice hown'; have hlow : ∀ b, b < wr.heap.size → u.ownBlock ≠ some b → w3.heap[b]? = wr.heap[b]? := (fun b hb h => (hgrow.block b (by rw [World.size_alloc]; have := hsz2.out; omega) (fun h4 => h h4.symm)).trans (hkeep.out b hb)); have hlow3 : ∀ b, b < w.heap.size + 3 → w3.heap[b]? = wr.heap[b]? := (fun b hb => hlow b (by have := hsz.out; omega) (fun h4 => by have := (hul.out b h4).1; omega)); have hBo3 : Blk w3 (w.heap.size + 1 + 1) 24 #[.int .i64 7, .int .i64 kind, .int .i64 num, .string s, .string f, u] := (hlow3 _ (by omega)).trans hBo.out; have f5 := hBo3.frozen 5; have d5 := hBo3.cell 5 (v := u) rfl; replace hlow := Lib.hid hlow; replace hlow3 := Lib.hid hlow3; replace hBo3 := Lib.hid hBo3; replace hgrow := Lib.hid hgrow; replace hown' := Lib.hid hown'; replace hat := Lib.hid hat)
      have hg3 : (w2.alloc (.cells #[.int .i64 y.op, .int .i64 y.kind, .int .i64 y.num, .string y.s, .string y.field, .slice qy ly cy] 24)).heap.size ≤ w3.heap.size := hgrow.out.size
      rw [World.size_alloc] at hg3
      have hat2 : (Value.slice vq (k + 1) vc).ownBlock = u.ownBlock ∨ (Value.slice vq (k + 1) vc).ownBlock = some (w2.heap.size + 1) := by
        have := hat.out
        rw [World.size_alloc] at this
        exact this
      have hgb : ∀ b, b < w2.heap.size + 1 → u.ownBlock ≠ some b → w3.heap[b]? = (w2.alloc (.cells #[.int .i64 y.op, .int .i64 y.kind, .int .i64 y.num, .string y.s, .string y.field, .slice qy ly cy] 24)).heap[b]? := fun b hb h => hgrow.out.block b (by rw [World.size_alloc]; exact hb) (fun h4 => h h4.symm)
      have hE3 : exsAtB (fun b => w.heap.size + 3 ≤ b ∧ b < w3.heap.size ∧ (Value.slice vq (k + 1) vc).ownBlock ≠ some b) w3 (foldL (es.take (k + 1))) (L ++ [exV y (.slice qy ly cy)]) := by
        rw [hts.out]
        have hsz1 := hsz2.out
        have hsz0 := hsz.out
        refine exsAtB.snoc (exsAtB.move ?_ ?_ _ L hE.out) (exAtB_mk (hy2.out.move ?_ ?_))
        · rintro b ⟨h1, h2, h3⟩
          refine ⟨h1, by omega, fun h4 => ?_⟩
          rcases hat2 with h5 | h5
          · exact h3 (h5 ▸ h4)
          · rw [h5] at h4; simp at h4; omega
        · rintro b ⟨h1, h2, h3⟩ hb
          exact hlow.out b h2 h3
        · rintro b ⟨h1, h2⟩
          refine ⟨by omega, by omega, fun h4 => ?_⟩
          rcases hat2 with h5 | h5
          · rw [h5] at h4; have := (hul.out b h4).2; omega
          · rw [h5] at h4; simp at h4; omega
        · rintro b ⟨h1, h2⟩ hb
          rw [hgb b (by omega) (fun h => by have := (hul.out b h).2; omega)]
          exact ((Kp.refl [] w2).alloc _).block b hb (by simp)
      have hE4 : Hid (exsAtB (fun b => w.heap.size + 3 ≤ b ∧ b < (w3.setCell ⟨w.heap.size + 1 + 1, 5, none⟩ (.slice vq (k + 1) vc)).heap.size ∧ (Value.slice vq (k + 1) vc).ownBlock ≠ some b) (w3.setCell ⟨w.heap.size + 1 + 1, 5, none⟩ (.slice vq (k + 1) vc)) (foldL (es.take (k + 1))) (L ++ [exV y (.slice qy ly cy)])) :=
        exsAtB.move (fun b h => ⟨h.1, by simpa [World.setCell] using h.2.1, h.2.2⟩) (fun b h _ => Below.heap_setCell w3 _ _ b (by have := h.1; show ¬ b = w.heap.size + 1 + 1; omega)) _ _ hE3
      have hO4 : Hid ((w3.setCell ⟨w.heap.size + 1 + 1, 5, none⟩ (.slice vq (k + 1) vc)).ownsRow (w.heap.size + 3) 24 6 (.slice vq (k + 1) vc) (k + 1) (L ++ [exV y (.slice qy ly cy)]).flatten) := by
        show World.ownsRow _ _ _ _ _ _ _
        rw [flatten_snoc]
        exact row_set hown'.out _ (by omega) _ _
      have hB1 : Hid (Blk (w3.setCell ⟨w.heap.size + 1 + 1, 5, none⟩ (.slice vq (k + 1) vc)) w.heap.size 24 #[.int .i64 7, .int .i64 kind, .int .i64 num, .string s, .string f, .slice (some ⟨b, off, none⟩) len cap]) := Blk.other (show Blk w3 _ _ _ from (hlow3.out _ (by omega)).trans hBe.out) (by simp; omega) _
      have hB2 : Hid (Blk (w3.setCell ⟨w.heap.size + 1 + 1, 5, none⟩ (.slice vq (k + 1) vc)) (w.heap.size + 1) 24 #[.int .i64 0, .int .i64 0, .int .i64 0, .string ⟨#[]⟩, .string ⟨#[]⟩, .slice none 0 0]) := Blk.other (show Blk w3 _ _ _ from (hlow3.out _ (by omega)).trans hBr.out) (by simp) _
      have hB3 : Hid (Blk (w3.setCell ⟨w.heap.size + 1 + 1, 5, none⟩ (.slice vq (k + 1) vc)) (w.heap.size + 1 + 1) 24 #[.int .i64 7, .int .i64 kind, .int .i64 num, .string s, .string f, .slice vq (k + 1) vc]) := hBo3.out.set 5 _
      have hK3 : Hid (Kp [] w (w3.setCell ⟨w.heap.size + 1 + 1, 5, none⟩ (.slice vq (k + 1) vc))) := (hK2.out.grown hgrow.out (fun j hj => .inr (by have := (hul.out j hj).1; omega))).setCell (.inr (by show w.heap.size ≤ w.heap.size + 1 + 1; omega)) _
      have hs3 : Hid (w.heap.size + 3 ≤ (w3.setCell ⟨w.heap.size + 1 + 1, 5, none⟩ (.slice vq (k + 1) vc)).heap.size) := by show _ ≤ _; have h1 := hsz.out; have h2 := hsz2.out; simp [World.setCell]; omega
      clear hgrow hown' hat hg3 hat2 hE3
      go_roundw
      case rel => exact ⟨k + 1, L ++ [exV y (.slice qy ly cy)], _, by omega, by go_num, hB1, hB2, hB3, hO4, hE4, hK3, hs3⟩
      case measure => simp [intOf]; omega
    · obtain rfl : len = k := by omega
      have hfull := tk_all hlen.out
      have hE2 := hE.out
      rw [hfull] at hE2
      have hus := row_at (by rw [hlf.out]) hu.out hE2
      obtain ⟨qu, cu, rfl⟩ := own_slice hu.out
      clear hE2 hfull hE hu hel IH hv hlt b5 o5 hk
      rw [hl0] at hus hshp hLw hlf hfe
      have hout : Hid (∀ X, Kp [] wr X → Kp [] w X ∧ Blk X w.heap.size 24 #[.int .i64 7, .int .i64 kind, .int .i64 num, .string s, .string f, .slice q len cap] ∧ Blk X (w.heap.size + 1) 24 #[.int .i64 0, .int .i64 0, .int .i64 0, .string ⟨#[]⟩, .string ⟨#[]⟩, .slice none 0 0] ∧ Blk X (w.heap.size + 1 + 1) 24 #[.int .i64 7, .int .i64 kind, .int .i64 num, .string s, .string f, .slice qu len cu] ∧ exsSlB (fun b => w.heap.size + 3 ≤ b ∧ b < wr.heap.size) X (.slice qu len cu) [a] ∧ wr.heap.size ≤ X.heap.size) := fun X hX => ⟨hK.out.trans hX, hBe.out.kp hX (by simp), hBr.out.kp hX (by simp), hBo.out.kp hX (by simp), hus.move (fun b h => h) (fun b _ hb => hX.block b hb (by simp)), hX.size⟩
      have hend : Hid (∀ (X F : World) (u : Value) (es : List Ex), Kp [] w X → Kp [w.heap.size + 1] X F → wr.heap.size ≤ X.heap.size → exsSlB (fun b => w.heap.size + 3 ≤ b ∧ b < wr.heap.size) X u es → Kp [] w F ∧ exsSlB (Rg w F) F u es) := by
        intro X F u es h1 h2 h3 h4
        refine ⟨h1.trans' h2 (fun i hi hl => by simp at hi; omega), h4.move (fun b h => ⟨by omega, by have := h2.size; omega⟩) (fun b h hb => h2.block b hb (by simp; omega))⟩
      replace hus := Lib.hid hus
      clear hBe hBr hBo hsz hi hz0 hz1 hz2
      obtain ⟨b, off, rfl, hget⟩ := hus.out.at_ (by simp)
      obtain ⟨qa, la, ca, hla, hua, hca⟩ := hget 0 (by simp)
      replace hca : ∀ j x, (exV a (.slice qa la ca))[j]? = some x → wr.cell? ⟨b, off + (0 * 6 + j), none⟩ = some x := hca
      have a0 := hca 0 _ rfl
      have a1 := hca 1 _ rfl
      have a2 := hca 2 _ rfl
      have a3 := hca 3 _ rfl
      have a4 := hca 4 _ rfl
      have a5 := hca 5 _ rfl
      simp only [Nat.zero_mul, Nat.zero_add, Nat.add_zero, Nat.one_mul] at a0 a1 a2 a3 a4 a5
      replace hua : exsSlB _ wr (.slice qa la ca) a.args := hua
      clear hget
      have hln : Hid (1 = len) := hlf.out
      have hp0 : 0 < len := by have := hln.out; omega
      have hwa : a.well = true := wellL_in hLw.out (by simp)
      rw [ha1] at a0
      have hac := shp_con (by rw [well_eq, Bool.and_eq_true] at hwa; exact hwa.1) ha1
      have hcv := con_val hac.1
      have hok : kindOk 7 a.kind = true := by rw [hka]; rfl
      have hku : Hid (∀ W : World, Calls Tryz.prog 18 #[.int .i64 7, .int .i64 a.kind] W fun r w' => r = .returned (.int .i64 2) ∧ w' = W) := fun W => (kun_c 7 a.kind W).mono fun r w' h => ⟨h.1.trans (ret_int (by rw [hka, if_pos (by omega)])), h.2⟩
      have hru : Hid (∀ W : World, Calls Tryz.prog 19 #[.int .i64 7, .int .i64 a.num] W fun r w' => r = .returned (.tuple #[.int .i64 (unR 7 a.num), .bool true]) ∧ w' = W) := fun W => (run_7 a.num W hcv).mono fun r w' h => ⟨h.1.trans (by simp [unR]), h.2⟩
      obtain ⟨V, hV⟩ : ∃ V, unR 7 a.num = V := ⟨_, rfl⟩
      rw [hV] at hru hneg
      have hcn := Lib.hid (fun W => constant_c 7 kind num s f (some ⟨b, off, none⟩) len cu a.kind V W)
      rw [hka] at hcn a1 hku
      clear hac hcv hwa
      replace ha1 := Lib.hid ha1
      replace hka := Lib.hid hka
      have hY := hout.out wr (Kp.refl [] wr)
      have e0x := hY.2.1.cell 0 (v := .int .i64 7) rfl
      have e5x := hY.2.1.cell 5 (v := .slice q len cap) rfl
      have o5x := hY.2.2.2.1.cell 5 (v := .slice (some ⟨b, off, none⟩) len cu) rfl
      clear hY
      have hX := hout.out (wr.alloc (.cells #[.int .i64 1, .int .i64 2, .int .i64 a.num, .string a.s, .string a.field, .slice qa la ca] 24)) ((Kp.refl [] wr).alloc (.cells #[.int .i64 1, .int .i64 2, .int .i64 a.num, .string a.s, .string a.field, .slice qa la ca] 24))
      obtain ⟨hXw, hXe, hXr, hXo, hXu, hXs⟩ := hX
      have f0 := hXr.frozen 0
      have f1 := hXr.frozen 1
      have f2 := hXr.frozen 2
      have f3 := hXr.frozen 3
      have f4 := hXr.frozen 4
      have f6 := hXr.frozen 5
      have g0 := hXr.cell 0 (v := .int .i64 0) rfl
      have g1 := hXr.cell 1 (v := .int .i64 0) rfl
      have g2 := hXr.cell 2 (v := .int .i64 0) rfl
      have g3 := hXr.cell 3 (v := .string ⟨#[]⟩) rfl
      have g4 := hXr.cell 4 (v := .string ⟨#[]⟩) rfl
      have g5 := hXr.cell 5 (v := .slice none 0 0) rfl
      have o0 := hXo.cell 0 (v := .int .i64 7) rfl
      have o1 := hXo.cell 1 (v := .int .i64 kind) rfl
      have o2 := hXo.cell 2 (v := .int .i64 num) rfl
      have o3 := hXo.cell 3 (v := .string s) rfl
      have o4 := hXo.cell 4 (v := .string f) rfl
      have o5 := hXo.cell 5 (v := .slice (some ⟨b, off, none⟩) len cu) rfl
      have e0 := hXe.cell 0 (v := .int .i64 7) rfl
      have e1 := hXe.cell 1 (v := .int .i64 kind) rfl
      have e2 := hXe.cell 2 (v := .int .i64 num) rfl
      have e3 := hXe.cell 3 (v := .string s) rfl
      have e4 := hXe.cell 4 (v := .string f) rfl
      have e5 := hXe.cell 5 (v := .slice q len cap) rfl
      have hlt3 : w.heap.size + 1 < (wr.alloc (.cells #[.int .i64 1, .int .i64 2, .int .i64 a.num, .string a.s, .string a.field, .slice qa la ca] 24)).heap.size := hXr.lt
      obtain ⟨hZ, hKz⟩ := set6 hXr (.int .i64 7) (.int .i64 kind) (.int .i64 num) (.string s) (.string f) (.slice (some ⟨b, off, none⟩) len cu)
      have z0 := hZ.cell 0 (v := .int .i64 7) rfl
      have z1 := hZ.cell 1 (v := .int .i64 kind) rfl
      have z2 := hZ.cell 2 (v := .int .i64 num) rfl
      have z3 := hZ.cell 3 (v := .string s) rfl
      have z4 := hZ.cell 4 (v := .string f) rfl
      have z5 := hZ.cell 5 (v := .slice (some ⟨b, off, none⟩) len cu) rfl
      replace hZ := Lib.hid hZ
      replace hKz := Lib.hid hKz
      replace hXw := Lib.hid hXw
      replace hXe := Lib.hid hXe
      replace hXr := Lib.hid hXr
      replace hXo := Lib.hid hXo
      replace hXu := Lib.hid hXu
      replace hXs := Lib.hid hXs
      go_wp2_with (first | (go_at_call 18; refine (hku.out _).mono ?_; rintro r w6 ⟨rfl, rfl⟩) | (go_at_call 19; refine (hru.out _).mono ?_; rintro r w6 ⟨rfl, rfl⟩) | (go_at_call 20; refine (hcn.out _).mono ?_; rintro r w6 ⟨rfl, hk6⟩; rw [if_pos (by omega)]; have hk7 := (((Kp.refl [] wr).alloc (.cells #[.int .i64 1, .int .i64 2, .int .i64 a.num, .string a.s, .string a.field, .slice qa la ca] 24))).trans hk6; clear hXw hXe hXr hXo hXu hXs f0 f1 f2 f3 f4 f6 g0 g1 g2 g3 g4 g5 o0 o1 o2 o3 o4 o5 e0 e1 e2 e3 e4 e5 hlt3 hZ hKz z0 z1 z2 z3 z4 z5; have hX := hout.out w6 hk7; obtain ⟨hXw, hXe, hXr, hXo, hXu, hXs⟩ := hX; have f0 := hXr.frozen 0; have f1 := hXr.frozen 1; have f2 := hXr.frozen 2; have f3 := hXr.frozen 3; have f4 := hXr.frozen 4; have f6 := hXr.frozen 5; have g0 := hXr.cell 0 (v := .int .i64 0) rfl; have g1 := hXr.cell 1 (v := .int .i64 0) rfl; have g2 := hXr.cell 2 (v := .int .i64 0) rfl; have g3 := hXr.cell 3 (v := .string ⟨#[]⟩) rfl; have g4 := hXr.cell 4 (v := .string ⟨#[]⟩) rfl; have g5 := hXr.cell 5 (v := .slice none 0 0) rfl; have o0 := hXo.cell 0 (v := .int .i64 7) rfl; have o1 := hXo.cell 1 (v := .int .i64 kind) rfl; have o2 := hXo.cell 2 (v := .int .i64 num) rfl; have o3 := hXo.cell 3 (v := .string s) rfl; have o4 := hXo.cell 4 (v := .string f) rfl; have o5 := hXo.cell 5 (v := .slice (some ⟨b, off, none⟩) len cu) rfl; have e0 := hXe.cell 0 (v := .int .i64 7) rfl; have e1 := hXe.cell 1 (v := .int .i64 kind) rfl; have e2 := hXe.cell 2 (v := .int .i64 num) rfl; have e3 := hXe.cell 3 (v := .string s) rfl; have e4 := hXe.cell 4 (v := .string f) rfl; have e5 := hXe.cell 5 (v := .slice q len cap) rfl; have hlt3 : w.heap.size + 1 < w6.heap.size := hXr.lt; obtain ⟨hZ, hKz⟩ := set6 hXr (.int .i64 7) (.int .i64 kind) (.int .i64 num) (.string s) (.string f) (.slice (some ⟨b, off, none⟩) len cu); have z0 := hZ.cell 0 (v := .int .i64 7) rfl; have z1 := hZ.cell 1 (v := .int .i64 kind) rfl; have z2 := hZ.cell 2 (v := .int .i64 num) rfl; have z3 := hZ.cell 3 (v := .string s) rfl; have z4 := hZ.cell 4 (v := .string f) rfl; have z5 := hZ.cell 5 (v := .slice (some ⟨b, off, none⟩) len cu) rfl; replace hZ := Lib.hid hZ; replace hKz := Lib.hid hKz; replace hXw := Lib.hid hXw; replace hXe := Lib.hid hXe; replace hXr := Lib.hid hXr; replace hXo := Lib.hid hXo; replace hXu := Lib.hid hXu; replace hXs := Lib.hid hXs))
      refine bodyPost_ret (v := .agg #[.int .i64 7, .int .i64 kind, .int .i64 num, .string s, .string f, .slice (some ⟨b, off, none⟩) len cu]) (by simp [results, Tryz.results9, go_sem, z0, z1, z2, z3, z4, z5]) rfl ?_
      have hF := hend.out _ _ _ [a] hXw.out hKz.out hXs.out hXu.out
      rw [show y = _ from hfe.out.trans (step_un_no (by omega) (.inr (.inr (by rw [hV]; exact hneg))))]
      exact ⟨_, rfl, hF.1, hF.2⟩

set_option maxRecDepth 100000 in
set_option maxHeartbeats 4000000 in
theorem rf_7_pos (kind num : Int) (s f : ByteArray) (es : List Ex) (a : Ex) (hl0 : foldL es = [a]) (ha1 : a.op = 1) (hka : a.kind = 2) (hneg : ¬ unR 7 a.num < 0) (IH : ∀ i (hi : i < es.length), RFoldC es[i]) : RFoldC (.mk 7 kind num s f es) := by
  intro w v hv hw hcnt
  obtain ⟨q, cap, rfl⟩ := hv.val
  rw [well_eq, Bool.and_eq_true] at hw
  have hc1 : cntL es < (Ex.mk 7 kind num s f es).cnt := cnt_args (.mk 7 kind num s f es)
  have hl5 : es.length ≤ 500 := by have := len_cntL es; omega
  have hel : Hid (∀ i (hi : i < es.length), es[i].well = true ∧ es[i].cnt ≤ 500) := fun i hi => ⟨wellL_in hw.2 (List.getElem_mem hi), by have := cnt_mem hi; omega⟩
  have hshp : shpB (.mk 7 kind num s f (foldL es)) = true := by rw [shp_len _ _ _ _ _ (foldL_len es)]; exact hw.1
  have hLw : Hid (wellL (foldL es) = true) := foldL_well es hw.2
  have hlf : (foldL es).length = es.length := foldL_len es
  have hfe : foldE (.mk 7 kind num s f es) = stepE (.mk 7 kind num s f (foldL es)) := foldE_eq _
  replace IH := Lib.hid IH
  obtain ⟨i0, hi, hz0, hz1, hz2⟩ := info_parts infoEx
  replace hv : exsSl w (.slice q es.length cap) es := hv
  show Calls Tryz.prog 9 #[.agg #[.int .i64 7, .int .i64 kind, .int .i64 num, .string s, .string f, .slice q es.length cap]] w _
  obtain ⟨y, hy⟩ : ∃ y, foldE (.mk 7 kind num s f es) = y := ⟨_, rfl⟩
  rw [hy] at hfe ⊢
  obtain ⟨len, hlen⟩ : ∃ len, es.length = len := ⟨_, rfl⟩
  rw [hlen] at hv hl5 hlf ⊢
  replace hlen := Lib.hid hlen
  replace hfe := Lib.hid hfe
  replace hshp := Lib.hid hshp
  replace hlf := Lib.hid hlf
  replace hv := Lib.hid hv
  clear hw
  clear hc1 hcnt hy
  go_enter Tryz.func9, Tryz.ntmps9
  go_wp2_with fail
  go_loopw [4] (fun i wr => ∃ (k : Nat) (L : List (List Value)) (u : Value), k ≤ len ∧ i = .int .i64 k ∧
      Hid (Blk wr w.heap.size 24 #[.int .i64 7, .int .i64 kind, .int .i64 num, .string s, .string f, .slice q len cap]) ∧
      Hid (Blk wr (w.heap.size + 1) 24 #[.int .i64 0, .int .i64 0, .int .i64 0, .string ⟨#[]⟩, .string ⟨#[]⟩, .slice none 0 0]) ∧
      Hid (Blk wr (w.heap.size + 1 + 1) 24 #[.int .i64 7, .int .i64 kind, .int .i64 num, .string s, .string f, u]) ∧
      Hid (wr.ownsRow (w.heap.size + 3) 24 6 u k L.flatten) ∧
      Hid (exsAtB (fun b => w.heap.size + 3 ≤ b ∧ b < wr.heap.size ∧ u.ownBlock ≠ some b) wr (foldL (es.take k)) L) ∧ Hid (Kp [] w wr) ∧ Hid (w.heap.size + 3 ≤ wr.heap.size)) (fun i _ => len - (intOf i).toNat)
  case atStart => exact ⟨0, [], .slice none 0 0, Nat.zero_le _, rfl, ((Blk.new _ _ _).alloc _).alloc _, (blk_new (by simp) _ _).alloc _, blk_new (by simp) _ _, World.ownsRow_nil _ _ _ _, (by show exsAtB _ _ (foldL []) []; rw [foldL, exsAtB]), (((Kp.refl [] w).alloc _).alloc _).alloc _, (by show _ ≤ _; simp)⟩
  case round =>
    obtain ⟨k, L, u, hk, rfl, hBe, hBr, hBo, hu, hE, hK, hsz⟩ := hrel
    have b5 := hBe.out.cell 5 (v := .slice q len cap) rfl
    have o5 := hBo.out.cell 5 (v := u) rfl
    by_cases hlt : k < len
    · have hlt2 : k < es.length := by rw [hlen.out]; exact hlt
      obtain ⟨b, off, ux, rfl, hux, c0, c1, c2, c3, c4, c5⟩ := hv.out.at_in hK.out k hlt2
      have hcall := IH.out k hlt2
      have hts := Lib.hid (foldL_take_succ hlt2)
      have hwe := Lib.hid (hel.out k hlt2)
      obtain ⟨x, hx⟩ : ∃ x, es[k] = x := ⟨_, rfl⟩
      rw [hx] at c0 c1 c2 c3 c4 hcall hts hwe hux
      clear hx
      obtain ⟨qu, cu, rfl⟩ := hux.val
      have hfold := Lib.hid (hcall wr _ (hux.kp hK.out) hwe.out.1 hwe.out.2)
      clear hcall
      obtain ⟨lu, hlu⟩ : ∃ lu, x.args.length = lu := ⟨_, rfl⟩
      unfold exVal at hfold
      rw [hlu] at c5 hfold
      clear hlu hux
      obtain ⟨y, hy⟩ : ∃ y, foldE x = y := ⟨_, rfl⟩
      rw [hy] at hfold hts
      clear hy hwe
      have hul : Hid (∀ g, u.ownBlock = some g → w.heap.size + 3 ≤ g ∧ g < wr.heap.size) := fun g hg => hu.out.lt g hg
      go_wp2_with fail
      refine hfold.out.mono ?_
      rintro r w2 ⟨u1, rfl, hk2, hy⟩
      obtain ⟨qy, cy, rfl⟩ := hy.drop.val
      unfold exVal
      obtain ⟨ly, hly⟩ : ∃ ly, y.args.length = ly := ⟨_, rfl⟩
      rw [hly] at hy ⊢
      clear hly
      have hsz1 : wr.heap.size ≤ w2.heap.size := hk2.size
      have hU2 := Lib.hid ((row_kp hu.out hk2).alloc (.cells #[.int .i64 y.op, .int .i64 y.kind, .int .i64 y.num, .string y.s, .string y.field, .slice qy ly cy] 24))
      have hK2 := Lib.hid ((hK.out.trans hk2).alloc (.cells #[.int .i64 y.op, .int .i64 y.kind, .int .i64 y.num, .string y.s, .string y.field, .slice qy ly cy] 24))
      have hbs : Hid (w.heap.size + 3 ≤ (w2.alloc (.cells #[.int .i64 y.op, .int .i64 y.kind, .int .i64 y.num, .string y.s, .string y.field, .slice qy ly cy] 24)).heap.size) := by show _ ≤ _; rw [World.size_alloc]; have := hsz.out; omega
      have hnew := Lib.hid (ex_cells w2 y.op y.kind y.num y.s y.field (.slice qy ly cy))
      have hone := Lib.hid (ex_one y.op y.kind y.num y.s y.field qy ly cy)
      have hkeep : Hid (∀ b, b < wr.heap.size → (w2.alloc (.cells #[.int .i64 y.op, .int .i64 y.kind, .int .i64 y.num, .string y.s, .string y.field, .slice qy ly cy] 24)).heap[b]? = wr.heap[b]?) := fun b hb => by
        have h1 := hk2.alloc (.cells #[.int .i64 y.op, .int .i64 y.kind, .int .i64 y.num, .string y.s, .string y.field, .slice qy ly cy] 24)
        exact h1.block b hb (by simp)
      have hy2 := Lib.hid hy
      have hsz2 := Lib.hid hsz1
      replace hk2 := Lib.hid hk2
      clear hy hsz1
      go_wp2_with (at_builtin; refine wpList_append_own_at _ rfl (.tmp 25) (.tmp 32) 22 rfl (w.heap.size + 3) 24 i0 _ 6 80 Tryz.underlying22 hi hz0 hz1 hz2 rfl (by decide) _ k _ rfl hU2.out ⟨w2.heap.size, 0, none⟩ 1 1 [.int .i64 y.op, .int .i64 y.kind, .int .i64 y.num, .string y.s, .string y.field, .slice qy ly cy] rfl rfl hnew.out hone.out (by unfold maxLen; omega) (by omega) hbs.out ?_; intro v' w3 hown' hgrow _ hat; obtain ⟨vq, vc, rfl⟩ := own_slice hown'; have hlow : ∀ b, b < wr.heap.size → u.ownBlock ≠ some b → w3.heap[b]? = wr.heap[b]? := (fun b hb h => (hgrow.block b (by rw [World.size_alloc]; have := hsz2.out; omega) (fun h4 => h h4.symm)).trans (hkeep.out b hb)); have hlow3 : ∀ b, b < w.heap.size + 3 → w3.heap[b]? = wr.heap[b]? := (fun b hb => hlow b (by have := hsz.out; omega) (fun h4 => by have := (hul.out b h4).1; omega)); have hBo3 : Blk w3 (w.heap.size + 1 + 1) 24 #[.int .i64 7, .int .i64 kind, .int .i64 num, .string s, .string f, u] := (hlow3 _ (by omega)).trans hBo.out; have f5 := hBo3.frozen 5; have d5 := hBo3.cell 5 (v := u) rfl; replace hlow := Lib.hid hlow; replace hlow3 := Lib.hid hlow3; replace hBo3 := Lib.hid hBo3; replace hgrow := Lib.hid hgrow; replace hown' := Lib.hid hown'; replace hat := Lib.hid hat)
      have hg3 : (w2.alloc (.cells #[.int .i64 y.op, .int .i64 y.kind, .int .i64 y.num, .string y.s, .string y.field, .slice qy ly cy] 24)).heap.size ≤ w3.heap.size := hgrow.out.size
      rw [World.size_alloc] at hg3
      have hat2 : (Value.slice vq (k + 1) vc).ownBlock = u.ownBlock ∨ (Value.slice vq (k + 1) vc).ownBlock = some (w2.heap.size + 1) := by
        have := hat.out
        rw [World.size_alloc] at this
        exact this
      have hgb : ∀ b, b < w2.heap.size + 1 → u.ownBlock ≠ some b → w3.heap[b]? = (w2.alloc (.cells #[.int .i64 y.op, .int .i64 y.kind, .int .i64 y.num, .string y.s, .string y.field, .slice qy ly cy] 24)).heap[b]? := fun b hb h => hgrow.out.block b (by rw [World.size_alloc]; exact hb) (fun h4 => h h4.symm)
      have hE3 : exsAtB (fun b => w.heap.size + 3 ≤ b ∧ b < w3.heap.size ∧ (Value.slice vq (k + 1) vc).ownBlock ≠ some b) w3 (foldL (es.take (k + 1))) (L ++ [exV y (.slice qy ly cy)]) := by
        rw [hts.out]
        have hsz1 := hsz2.out
        have hsz0 := hsz.out
        refine exsAtB.snoc (exsAtB.move ?_ ?_ _ L hE.out) (exAtB_mk (hy2.out.move ?_ ?_))
        · rintro b ⟨h1, h2, h3⟩
          refine ⟨h1, by omega, fun h4 => ?_⟩
          rcases hat2 with h5 | h5
          · exact h3 (h5 ▸ h4)
          · rw [h5] at h4; simp at h4; omega
        · rintro b ⟨h1, h2, h3⟩ hb
          exact hlow.out b h2 h3
        · rintro b ⟨h1, h2⟩
          refine ⟨by omega, by omega, fun h4 => ?_⟩
          rcases hat2 with h5 | h5
          · rw [h5] at h4; have := (hul.out b h4).2; omega
          · rw [h5] at h4; simp at h4; omega
        · rintro b ⟨h1, h2⟩ hb
          rw [hgb b (by omega) (fun h => by have := (hul.out b h).2; omega)]
          exact ((Kp.refl [] w2).alloc _).block b hb (by simp)
      have hE4 : Hid (exsAtB (fun b => w.heap.size + 3 ≤ b ∧ b < (w3.setCell ⟨w.heap.size + 1 + 1, 5, none⟩ (.slice vq (k + 1) vc)).heap.size ∧ (Value.slice vq (k + 1) vc).ownBlock ≠ some b) (w3.setCell ⟨w.heap.size + 1 + 1, 5, none⟩ (.slice vq (k + 1) vc)) (foldL (es.take (k + 1))) (L ++ [exV y (.slice qy ly cy)])) :=
        exsAtB.move (fun b h => ⟨h.1, by simpa [World.setCell] using h.2.1, h.2.2⟩) (fun b h _ => Below.heap_setCell w3 _ _ b (by have := h.1; show ¬ b = w.heap.size + 1 + 1; omega)) _ _ hE3
      have hO4 : Hid ((w3.setCell ⟨w.heap.size + 1 + 1, 5, none⟩ (.slice vq (k + 1) vc)).ownsRow (w.heap.size + 3) 24 6 (.slice vq (k + 1) vc) (k + 1) (L ++ [exV y (.slice qy ly cy)]).flatten) := by
        show World.ownsRow _ _ _ _ _ _ _
        rw [flatten_snoc]
        exact row_set hown'.out _ (by omega) _ _
      have hB1 : Hid (Blk (w3.setCell ⟨w.heap.size + 1 + 1, 5, none⟩ (.slice vq (k + 1) vc)) w.heap.size 24 #[.int .i64 7, .int .i64 kind, .int .i64 num, .string s, .string f, .slice (some ⟨b, off, none⟩) len cap]) := Blk.other (show Blk w3 _ _ _ from (hlow3.out _ (by omega)).trans hBe.out) (by simp; omega) _
      have hB2 : Hid (Blk (w3.setCell ⟨w.heap.size + 1 + 1, 5, none⟩ (.slice vq (k + 1) vc)) (w.heap.size + 1) 24 #[.int .i64 0, .int .i64 0, .int .i64 0, .string ⟨#[]⟩, .string ⟨#[]⟩, .slice none 0 0]) := Blk.other (show Blk w3 _ _ _ from (hlow3.out _ (by omega)).trans hBr.out) (by simp) _
      have hB3 : Hid (Blk (w3.setCell ⟨w.heap.size + 1 + 1, 5, none⟩ (.slice vq (k + 1) vc)) (w.heap.size + 1 + 1) 24 #[.int .i64 7, .int .i64 kind, .int .i64 num, .string s, .string f, .slice vq (k + 1) vc]) := hBo3.out.set 5 _
      have hK3 : Hid (Kp [] w (w3.setCell ⟨w.heap.size + 1 + 1, 5, none⟩ (.slice vq (k + 1) vc))) := (hK2.out.grown hgrow.out (fun j hj => .inr (by have := (hul.out j hj).1; omega))).setCell (.inr (by show w.heap.size ≤ w.heap.size + 1 + 1; omega)) _
      have hs3 : Hid (w.heap.size + 3 ≤ (w3.setCell ⟨w.heap.size + 1 + 1, 5, none⟩ (.slice vq (k + 1) vc)).heap.size) := by show _ ≤ _; have h1 := hsz.out; have h2 := hsz2.out; simp [World.setCell]; omega
      clear hgrow hown' hat hg3 hat2 hE3
      go_roundw
      case rel => exact ⟨k + 1, L ++ [exV y (.slice qy ly cy)], _, by omega, by go_num, hB1, hB2, hB3, hO4, hE4, hK3, hs3⟩
      case measure => simp [intOf]; omega
    · obtain rfl : len = k := by omega
      have hfull := tk_all hlen.out
      have hE2 := hE.out
      rw [hfull] at hE2
      have hus := row_at (by rw [hlf.out]) hu.out hE2
      obtain ⟨qu, cu, rfl⟩ := own_slice hu.out
      clear hE2 hfull hE hu hel IH hv hlt b5 o5 hk
      rw [hl0] at hus hshp hLw hlf hfe
      have hout : Hid (∀ X, Kp [] wr X → Kp [] w X ∧ Blk X w.heap.size 24 #[.int .i64 7, .int .i64 kind, .int .i64 num, .string s, .string f, .slice q len cap] ∧ Blk X (w.heap.size + 1) 24 #[.int .i64 0, .int .i64 0, .int .i64 0, .string ⟨#[]⟩, .string ⟨#[]⟩, .slice none 0 0] ∧ Blk X (w.heap.size + 1 + 1) 24 #[.int .i64 7, .int .i64 kind, .int .i64 num, .string s, .string f, .slice qu len cu] ∧ exsSlB (fun b => w.heap.size + 3 ≤ b ∧ b < wr.heap.size) X (.slice qu len cu) [a] ∧ wr.heap.size ≤ X.heap.size) := fun X hX => ⟨hK.out.trans hX, hBe.out.kp hX (by simp), hBr.out.kp hX (by simp), hBo.out.kp hX (by simp), hus.move (fun b h => h) (fun b _ hb => hX.block b hb (by simp)), hX.size⟩
      have hend : Hid (∀ (X F : World) (u : Value) (es : List Ex), Kp [] w X → Kp [w.heap.size + 1] X F → wr.heap.size ≤ X.heap.size → exsSlB (fun b => w.heap.size + 3 ≤ b ∧ b < wr.heap.size) X u es → Kp [] w F ∧ exsSlB (Rg w F) F u es) := by
        intro X F u es h1 h2 h3 h4
        refine ⟨h1.trans' h2 (fun i hi hl => by simp at hi; omega), h4.move (fun b h => ⟨by omega, by have := h2.size; omega⟩) (fun b h hb => h2.block b hb (by simp; omega))⟩
      replace hus := Lib.hid hus
      clear hBe hBr hBo hsz hi hz0 hz1 hz2
      obtain ⟨b, off, rfl, hget⟩ := hus.out.at_ (by simp)
      obtain ⟨qa, la, ca, hla, hua, hca⟩ := hget 0 (by simp)
      replace hca : ∀ j x, (exV a (.slice qa la ca))[j]? = some x → wr.cell? ⟨b, off + (0 * 6 + j), none⟩ = some x := hca
      have a0 := hca 0 _ rfl
      have a1 := hca 1 _ rfl
      have a2 := hca 2 _ rfl
      have a3 := hca 3 _ rfl
      have a4 := hca 4 _ rfl
      have a5 := hca 5 _ rfl
      simp only [Nat.zero_mul, Nat.zero_add, Nat.add_zero, Nat.one_mul] at a0 a1 a2 a3 a4 a5
      replace hua : exsSlB _ wr (.slice qa la ca) a.args := hua
      clear hget
      have hln : Hid (1 = len) := hlf.out
      have hp0 : 0 < len := by have := hln.out; omega
      have hwa : a.well = true := wellL_in hLw.out (by simp)
      rw [ha1] at a0
      have hac := shp_con (by rw [well_eq, Bool.and_eq_true] at hwa; exact hwa.1) ha1
      have hcv := con_val hac.1
      have hok : kindOk 7 a.kind = true := by rw [hka]; rfl
      have hku : Hid (∀ W : World, Calls Tryz.prog 18 #[.int .i64 7, .int .i64 a.kind] W fun r w' => r = .returned (.int .i64 2) ∧ w' = W) := fun W => (kun_c 7 a.kind W).mono fun r w' h => ⟨h.1.trans (ret_int (by rw [hka, if_pos (by omega)])), h.2⟩
      have hru : Hid (∀ W : World, Calls Tryz.prog 19 #[.int .i64 7, .int .i64 a.num] W fun r w' => r = .returned (.tuple #[.int .i64 (unR 7 a.num), .bool true]) ∧ w' = W) := fun W => (run_7 a.num W hcv).mono fun r w' h => ⟨h.1.trans (by simp [unR]), h.2⟩
      obtain ⟨V, hV⟩ : ∃ V, unR 7 a.num = V := ⟨_, rfl⟩
      rw [hV] at hru hneg
      have hcn := Lib.hid (fun W => constant_c 7 kind num s f (some ⟨b, off, none⟩) len cu a.kind V W)
      rw [hka] at hcn a1 hku
      clear hac hcv hwa
      replace ha1 := Lib.hid ha1
      replace hka := Lib.hid hka
      have hY := hout.out wr (Kp.refl [] wr)
      have e0x := hY.2.1.cell 0 (v := .int .i64 7) rfl
      have e5x := hY.2.1.cell 5 (v := .slice q len cap) rfl
      have o5x := hY.2.2.2.1.cell 5 (v := .slice (some ⟨b, off, none⟩) len cu) rfl
      clear hY
      have hX := hout.out (wr.alloc (.cells #[.int .i64 1, .int .i64 2, .int .i64 a.num, .string a.s, .string a.field, .slice qa la ca] 24)) ((Kp.refl [] wr).alloc (.cells #[.int .i64 1, .int .i64 2, .int .i64 a.num, .string a.s, .string a.field, .slice qa la ca] 24))
      obtain ⟨hXw, hXe, hXr, hXo, hXu, hXs⟩ := hX
      have f0 := hXr.frozen 0
      have f1 := hXr.frozen 1
      have f2 := hXr.frozen 2
      have f3 := hXr.frozen 3
      have f4 := hXr.frozen 4
      have f6 := hXr.frozen 5
      have g0 := hXr.cell 0 (v := .int .i64 0) rfl
      have g1 := hXr.cell 1 (v := .int .i64 0) rfl
      have g2 := hXr.cell 2 (v := .int .i64 0) rfl
      have g3 := hXr.cell 3 (v := .string ⟨#[]⟩) rfl
      have g4 := hXr.cell 4 (v := .string ⟨#[]⟩) rfl
      have g5 := hXr.cell 5 (v := .slice none 0 0) rfl
      have o0 := hXo.cell 0 (v := .int .i64 7) rfl
      have o1 := hXo.cell 1 (v := .int .i64 kind) rfl
      have o2 := hXo.cell 2 (v := .int .i64 num) rfl
      have o3 := hXo.cell 3 (v := .string s) rfl
      have o4 := hXo.cell 4 (v := .string f) rfl
      have o5 := hXo.cell 5 (v := .slice (some ⟨b, off, none⟩) len cu) rfl
      have e0 := hXe.cell 0 (v := .int .i64 7) rfl
      have e1 := hXe.cell 1 (v := .int .i64 kind) rfl
      have e2 := hXe.cell 2 (v := .int .i64 num) rfl
      have e3 := hXe.cell 3 (v := .string s) rfl
      have e4 := hXe.cell 4 (v := .string f) rfl
      have e5 := hXe.cell 5 (v := .slice q len cap) rfl
      have hlt3 : w.heap.size + 1 < (wr.alloc (.cells #[.int .i64 1, .int .i64 2, .int .i64 a.num, .string a.s, .string a.field, .slice qa la ca] 24)).heap.size := hXr.lt
      obtain ⟨hZ, hKz⟩ := set6 hXr (.int .i64 7) (.int .i64 kind) (.int .i64 num) (.string s) (.string f) (.slice (some ⟨b, off, none⟩) len cu)
      have z0 := hZ.cell 0 (v := .int .i64 7) rfl
      have z1 := hZ.cell 1 (v := .int .i64 kind) rfl
      have z2 := hZ.cell 2 (v := .int .i64 num) rfl
      have z3 := hZ.cell 3 (v := .string s) rfl
      have z4 := hZ.cell 4 (v := .string f) rfl
      have z5 := hZ.cell 5 (v := .slice (some ⟨b, off, none⟩) len cu) rfl
      replace hZ := Lib.hid hZ
      replace hKz := Lib.hid hKz
      replace hXw := Lib.hid hXw
      replace hXe := Lib.hid hXe
      replace hXr := Lib.hid hXr
      replace hXo := Lib.hid hXo
      replace hXu := Lib.hid hXu
      replace hXs := Lib.hid hXs
      go_wp2_with (first | (go_at_call 18; refine (hku.out _).mono ?_; rintro r w6 ⟨rfl, rfl⟩) | (go_at_call 19; refine (hru.out _).mono ?_; rintro r w6 ⟨rfl, rfl⟩) | (go_at_call 20; refine (hcn.out _).mono ?_; rintro r w6 ⟨rfl, hk6⟩; rw [if_neg (by omega)]; have hk7 := (((Kp.refl [] wr).alloc (.cells #[.int .i64 1, .int .i64 2, .int .i64 a.num, .string a.s, .string a.field, .slice qa la ca] 24))).trans hk6; clear hXw hXe hXr hXo hXu hXs f0 f1 f2 f3 f4 f6 g0 g1 g2 g3 g4 g5 o0 o1 o2 o3 o4 o5 e0 e1 e2 e3 e4 e5 hlt3 hZ hKz z0 z1 z2 z3 z4 z5; have hX := hout.out w6 hk7; obtain ⟨hXw, hXe, hXr, hXo, hXu, hXs⟩ := hX; have f0 := hXr.frozen 0; have f1 := hXr.frozen 1; have f2 := hXr.frozen 2; have f3 := hXr.frozen 3; have f4 := hXr.frozen 4; have f6 := hXr.frozen 5; have g0 := hXr.cell 0 (v := .int .i64 0) rfl; have g1 := hXr.cell 1 (v := .int .i64 0) rfl; have g2 := hXr.cell 2 (v := .int .i64 0) rfl; have g3 := hXr.cell 3 (v := .string ⟨#[]⟩) rfl; have g4 := hXr.cell 4 (v := .string ⟨#[]⟩) rfl; have g5 := hXr.cell 5 (v := .slice none 0 0) rfl; have o0 := hXo.cell 0 (v := .int .i64 7) rfl; have o1 := hXo.cell 1 (v := .int .i64 kind) rfl; have o2 := hXo.cell 2 (v := .int .i64 num) rfl; have o3 := hXo.cell 3 (v := .string s) rfl; have o4 := hXo.cell 4 (v := .string f) rfl; have o5 := hXo.cell 5 (v := .slice (some ⟨b, off, none⟩) len cu) rfl; have e0 := hXe.cell 0 (v := .int .i64 7) rfl; have e1 := hXe.cell 1 (v := .int .i64 kind) rfl; have e2 := hXe.cell 2 (v := .int .i64 num) rfl; have e3 := hXe.cell 3 (v := .string s) rfl; have e4 := hXe.cell 4 (v := .string f) rfl; have e5 := hXe.cell 5 (v := .slice q len cap) rfl; have hlt3 : w.heap.size + 1 < w6.heap.size := hXr.lt; obtain ⟨hZ, hKz⟩ := set6 hXr (.int .i64 1) (.int .i64 2) (.int .i64 V) (.string ⟨#[]⟩) (.string ⟨#[]⟩) (.slice none 0 0); have z0 := hZ.cell 0 (v := .int .i64 1) rfl; have z1 := hZ.cell 1 (v := .int .i64 2) rfl; have z2 := hZ.cell 2 (v := .int .i64 V) rfl; have z3 := hZ.cell 3 (v := .string ⟨#[]⟩) rfl; have z4 := hZ.cell 4 (v := .string ⟨#[]⟩) rfl; have z5 := hZ.cell 5 (v := .slice none 0 0) rfl; replace hZ := Lib.hid hZ; replace hKz := Lib.hid hKz; replace hXw := Lib.hid hXw; replace hXe := Lib.hid hXe; replace hXr := Lib.hid hXr; replace hXo := Lib.hid hXo; replace hXu := Lib.hid hXu; replace hXs := Lib.hid hXs))
      refine bodyPost_ret (v := .agg #[.int .i64 1, .int .i64 2, .int .i64 V, .string ⟨#[]⟩, .string ⟨#[]⟩, .slice none 0 0]) (by simp [results, Tryz.results9, go_sem, z0, z1, z2, z3, z4, z5]) rfl ?_
      have hF := hend.out _ _ _ [] hXw.out hKz.out hXs.out (exsSlB.nil _ _)
      rw [show y = _ from hfe.out.trans ((step_un_yes (by omega) ha1.out hok (by rw [hV]; omega)).trans (by rw [hV, hka.out]; try rfl))]
      exact ⟨_, rfl, hF.1, hF.2⟩
end Go.Proofs.YtgldbeacjacbcaaGreat
