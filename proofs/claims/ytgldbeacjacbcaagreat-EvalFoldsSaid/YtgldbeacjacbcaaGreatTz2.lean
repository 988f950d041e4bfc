import Derived.Test.YtgldbeacjacbcaaGreatTz1
set_option linter.unusedSimpArgs false
set_option linter.unusedVariables false
namespace Go.Proofs.YtgldbeacjacbcaaGreat
open Go.RowKit

theorem stepE_mk (op kind n : Int) (s f : ByteArray) (l : List Ex) : stepE (.mk op kind n s f l) = if decE op l then hdE (.mk op kind n s f l) l else if op < 6 then .mk op kind n s f l else match conE op l with | some c => c | none => .mk op kind n s f l := rfl
theorem exsAtB.head {B : Nat → Prop} {w : World} {a : Ex} {l : List Ex} {v : Value} (h : exsSlB B w v (a :: l)) :
    ∃ b off cap u, v = .slice (some ⟨b, off, none⟩) (l.length + 1) cap ∧ exsSlB B w u a.args ∧ (∀ j x, (exV a u)[j]? = some x → w.cell? ⟨b, off + j, none⟩ = some x) := by
  obtain ⟨L, ⟨q, cap, rfl, _, _, h3⟩, hL⟩ := h
  rcases h3 with h3 | ⟨b, off, rfl, _, hc⟩
  · simp at h3
  · rw [exsAtB] at hL
    obtain ⟨c, L', rfl, h1, _⟩ := hL
    obtain ⟨u, rfl, hu⟩ := exAtB_inv h1
    refine ⟨b, off, cap, u, rfl, hu, fun j x hx => hc j x ?_⟩
    have hlt := (List.getElem?_eq_some_iff.1 hx).1
    rw [List.flatten_cons, List.getElem?_append_left hlt]
    exact hx

set_option maxRecDepth 100000 in
set_option maxHeartbeats 4000000 in
theorem fold_step (e : Ex) (IH : ListC e.args) : FoldC e := by
  intro w v hv hw hcnt
  obtain ⟨q, cap, rfl⟩ := hv.val
  rw [well_eq, Bool.and_eq_true] at hw
  have hc1 := cnt_args e
  have hlist := IH ((w.alloc (.cells #[.int .i64 e.op, .int .i64 e.kind, .int .i64 e.num, .string e.s, .string e.field, .slice q e.args.length cap] 24)).alloc (.cells #[.int .i64 0, .int .i64 0, .int .i64 0, .string ⟨#[]⟩, .string ⟨#[]⟩, .slice none 0 0] 24)) _ (hv.kp (((Kp.refl [] w).alloc _).alloc _)) hw.2 (by omega)
  have hB1 : Blk ((w.alloc (.cells #[.int .i64 e.op, .int .i64 e.kind, .int .i64 e.num, .string e.s, .string e.field, .slice q e.args.length cap] 24)).alloc (.cells #[.int .i64 0, .int .i64 0, .int .i64 0, .string ⟨#[]⟩, .string ⟨#[]⟩, .slice none 0 0] 24)) w.heap.size 24 #[.int .i64 e.op, .int .i64 e.kind, .int .i64 e.num, .string e.s, .string e.field, .slice q e.args.length cap] := (Blk.new w _ _).alloc _
  have hB2 : Blk ((w.alloc (.cells #[.int .i64 e.op, .int .i64 e.kind, .int .i64 e.num, .string e.s, .string e.field, .slice q e.args.length cap] 24)).alloc (.cells #[.int .i64 0, .int .i64 0, .int .i64 0, .string ⟨#[]⟩, .string ⟨#[]⟩, .slice none 0 0] 24)) (w.heap.size + 1) 24 #[.int .i64 0, .int .i64 0, .int .i64 0, .string ⟨#[]⟩, .string ⟨#[]⟩, .slice none 0 0] := blk_new (by simp) _ _
  have hKW : Kp [] w ((w.alloc (.cells #[.int .i64 e.op, .int .i64 e.kind, .int .i64 e.num, .string e.s, .string e.field, .slice q e.args.length cap] 24)).alloc (.cells #[.int .i64 0, .int .i64 0, .int .i64 0, .string ⟨#[]⟩, .string ⟨#[]⟩, .slice none 0 0] 24)) := ((Kp.refl [] w).alloc _).alloc _
  have hs : shpB (.mk e.op e.kind e.num e.s e.field (foldL e.args)) = true := by
    rw [shp_len _ _ _ _ _ (foldL_len e.args), ← Ex.eta]; exact hw.1
  have hL := foldL_well e.args hw.2
  have hfe := Lib.hid (foldE_eq e)
  obtain ⟨y, hy⟩ : ∃ y, foldE e = y := ⟨_, rfl⟩
  rw [hy] at hfe ⊢
  obtain ⟨l, hl⟩ : ∃ l, foldL e.args = l := ⟨_, rfl⟩
  rw [hl] at hs hL hfe hlist
  obtain ⟨len, hlen⟩ : ∃ len, e.args.length = len := ⟨_, rfl⟩
  unfold exVal
  rw [hlen] at hB1 hB2 hKW hlist ⊢
  clear hl hlen hy hv IH hw hc1 hcnt
  replace hlist := Lib.hid hlist
  replace hB1 := Lib.hid hB1
  replace hB2 := Lib.hid hB2
  replace hKW := Lib.hid hKW
  replace hs := Lib.hid hs
  replace hL := Lib.hid hL
  go_enter Tryz.func15, Tryz.ntmps15
  go_wp2_with fail
  refine hlist.out.mono ?_
  rintro r w2 ⟨u, rfl, hk2, hu⟩
  obtain ⟨qu, cu, rfl⟩ := hu.drop.val
  have hBe := hB1.out.kp hk2 (by simp)
  have hBr := hB2.out.kp hk2 (by simp)
  have f5 := hBe.frozen 5
  have g5 := hBe.cell 5 (v := .slice q len cap) rfl
  have hBe2 := hBe.set 5 (.slice qu l.length cu)
  have hBr2 := hBr.other (p := ⟨w.heap.size, 5, none⟩) (by simp) (.slice qu l.length cu)
  have hKs : Kp [] w (w2.setCell ⟨w.heap.size, 5, none⟩ (.slice qu l.length cu)) := (hKW.out.trans hk2).setCell (.inr (Nat.le_refl _)) _
  have hus : exsSlB (fun b => w.heap.size + 2 ≤ b ∧ b < w2.heap.size) (w2.setCell ⟨w.heap.size, 5, none⟩ (.slice qu l.length cu)) (.slice qu l.length cu) l := by
    refine hu.move (fun b h => ⟨?_, h.2⟩) (fun b h hb => Below.heap_setCell w2 _ _ b ?_)
    · have := h.1; simp at this; omega
    · have := h.1; simp at this; simp; omega
  have d0 := hBe2.cell 0 (v := .int .i64 e.op) rfl
  have d1 := hBe2.cell 1 (v := .int .i64 e.kind) rfl
  have d2 := hBe2.cell 2 (v := .int .i64 e.num) rfl
  have d3 := hBe2.cell 3 (v := .string e.s) rfl
  have d4 := hBe2.cell 4 (v := .string e.field) rfl
  have d5 := hBe2.cell 5 (v := .slice qu l.length cu) rfl
  have hdec := Lib.hid (dec_c e.op e.kind e.num e.s e.field l (.slice qu l.length cu) _ hus.drop (fun h hn => by
    have := hs.out; rw [hn] at this
    have := shp_args this (by omega)
    simp at this))
  replace hBe2 := Lib.hid hBe2
  replace hBr2 := Lib.hid hBr2
  replace hKs := Lib.hid hKs
  replace hus := Lib.hid hus
  clear hk2 hu hBe hBr
  go_wp2_with fail
  refine hdec.out.mono ?_
  rintro r w3 ⟨rfl, hk3⟩
  have hBr3 := hBr2.out.kp hk3 (by simp)
  have hBe3 := hBe2.out.kp hk3 (by simp)
  have hsz3 : Hid (w2.heap.size ≤ w3.heap.size) := by show _ ≤ _; have := hk3.size; simpa [World.setCell] using this
  have hus3 := hus.out.move (C := fun b => w.heap.size + 2 ≤ b ∧ b < w2.heap.size) (fun b h => h) (fun b _ hb => hk3.block b hb (by simp))
  have hKw := Lib.hid (hKs.out.trans hk3)
  have hKf : Hid (∀ (a b : World) (_ : Kp [w.heap.size + 1] a b) (i : Nat) (u : Value), Kp [w.heap.size + 1] a (b.setCell ⟨w.heap.size + 1, i, none⟩ u)) := fun a b h i u => h.setCell (.inl (by simp)) u
  replace hKf := Lib.hid (fun (b : World) {a : World} (h : Kp [w.heap.size + 1] a b) (i : Nat) (u : Value) => hKf.out a b h i u)
  have hend : Hid (∀ (X F : World) (u : Value) (es : List Ex), Kp [] w X → Kp [w.heap.size + 1] X F → w2.heap.size ≤ X.heap.size → exsSlB (fun b => w.heap.size + 2 ≤ b ∧ b < w2.heap.size) X u es → Kp [] w F ∧ exsSlB (Rg w F) F u es) := by
    intro X F u es h1 h2 h3 h4
    refine ⟨h1.trans' h2 (fun i hi hl => by simp at hi; omega), h4.move (fun b h => ⟨by omega, by have := h2.size; omega⟩) (fun b h hb => h2.block b hb (by simp; omega))⟩
  clear d0 d1 d2 d3 d4 d5 f5 g5 hk3
  cases hd : decE e.op l
  · have e0 := hBe3.cell 0 (v := .int .i64 e.op) rfl
    have e1 := hBe3.cell 1 (v := .int .i64 e.kind) rfl
    have e2 := hBe3.cell 2 (v := .int .i64 e.num) rfl
    have e3 := hBe3.cell 3 (v := .string e.s) rfl
    have e4 := hBe3.cell 4 (v := .string e.field) rfl
    have e5 := hBe3.cell 5 (v := .slice qu l.length cu) rfl
    have hcomp : Hid (Calls Tryz.prog 30 #[.agg #[.int .i64 e.op, .int .i64 e.kind, .int .i64 e.num, .string e.s, .string e.field, .slice qu l.length cu]] w3 fun r w' =>
        (∃ a b c : Int, r = .returned (.tuple #[.agg #[.int .i64 a, .int .i64 b, .int .i64 c, .string ⟨#[]⟩, .string ⟨#[]⟩, .slice none 0 0], .bool false]) ∧ y = .mk e.op e.kind e.num e.s e.field l ∧ Kp [] w3 w') ∨
        (∃ k n : Int, r = .returned (.tuple #[.agg #[.int .i64 1, .int .i64 k, .int .i64 n, .string ⟨#[]⟩, .string ⟨#[]⟩, .slice none 0 0], .bool true]) ∧ y = cst k n ∧ Kp [] w3 w')) := by
      by_cases h6 : e.op < 6
      · refine (comp_lo e.op e.kind e.num e.s e.field _ qu l.length cu w3 h6 rfl).mono fun r w' h => .inl ⟨0, 0, 0, h.1, ?_, h.2.kp⟩
        rw [hfe.out]; rw [stepE_mk, if_neg (show ¬ decE e.op l = true by rw [hd]; decide), if_pos (show e.op < 6 from h6)]
      · obtain ⟨h21, hls⟩ := shp_args hs.out (by omega)
        refine (comp_c e.op e.kind e.num e.s e.field l _ w3 (by omega) h21 hls hL.out hus3.drop).mono fun r w' h => ?_
        have hst : y = match conE e.op l with | some c => c | none => .mk e.op e.kind e.num e.s e.field l := by
          rw [hfe.out]; rw [stepE_mk, if_neg (show ¬ decE e.op l = true by rw [hd]; decide), if_neg (show ¬ e.op < 6 from h6)]
        rcases h with ⟨a, b, c, h1, h2, h3⟩ | ⟨k, n, h1, h2, h3⟩
        · rw [h2] at hst; exact .inl ⟨a, b, c, h1, hst, h3⟩
        · rw [h2] at hst; exact .inr ⟨k, n, h1, hst, h3⟩
    obtain ⟨ln, hln⟩ : ∃ ln, l.length = ln := ⟨_, rfl⟩
    rw [hln] at e5 hcomp hBe3 hus3 ⊢
    replace hBe3 := Lib.hid hBe3
    replace hBr3 := Lib.hid hBr3
    replace hus3 := Lib.hid hus3
    replace hln := Lib.hid hln
    go_wp2_with fail
    refine hcomp.out.mono ?_
    rintro r w4 (⟨a, b, c, rfl, hy, hk4⟩ | ⟨k, n, rfl, hy, hk4⟩)
    · have hBr4 := hBr3.out.kp (hk4.alloc (.cells #[.int .i64 a, .int .i64 b, .int .i64 c, .string ⟨#[]⟩, .string ⟨#[]⟩, .slice none 0 0] 24)) (by simp)
      have hBe4 := hBe3.out.kp (hk4.alloc (.cells #[.int .i64 a, .int .i64 b, .int .i64 c, .string ⟨#[]⟩, .string ⟨#[]⟩, .slice none 0 0] 24)) (by simp)
      have hKw4 := Lib.hid (hKw.out.trans (hk4.alloc (.cells #[.int .i64 a, .int .i64 b, .int .i64 c, .string ⟨#[]⟩, .string ⟨#[]⟩, .slice none 0 0] 24)))
      have hus4 := Lib.hid (hus3.out.move (C := fun i => w.heap.size + 2 ≤ i ∧ i < w2.heap.size) (fun i h => h) (fun i _ hb => (hk4.alloc (.cells #[.int .i64 a, .int .i64 b, .int .i64 c, .string ⟨#[]⟩, .string ⟨#[]⟩, .slice none 0 0] 24)).block i hb (by simp)))
      have hsz4 : Hid (w2.heap.size ≤ (w4.alloc (.cells #[.int .i64 a, .int .i64 b, .int .i64 c, .string ⟨#[]⟩, .string ⟨#[]⟩, .slice none 0 0] 24)).heap.size) := by show _ ≤ _; rw [World.size_alloc]; have h1 := hsz3.out; have h2 := hk4.size; omega
      have e0 := hBe4.cell 0 (v := .int .i64 e.op) rfl
      have e1 := hBe4.cell 1 (v := .int .i64 e.kind) rfl
      have e2 := hBe4.cell 2 (v := .int .i64 e.num) rfl
      have e3 := hBe4.cell 3 (v := .string e.s) rfl
      have e4 := hBe4.cell 4 (v := .string e.field) rfl
      have e5 := hBe4.cell 5 (v := .slice qu ln cu) rfl
      replace hy := Lib.hid hy
      clear hk4
      have f0 := hBr4.frozen 0
      have f1 := hBr4.frozen 1
      have f2 := hBr4.frozen 2
      have f3 := hBr4.frozen 3
      have f4 := hBr4.frozen 4
      have f6 := hBr4.frozen 5
      have g0 := hBr4.cell 0 (v := .int .i64 0) rfl
      have g1 := hBr4.cell 1 (v := .int .i64 0) rfl
      have g2 := hBr4.cell 2 (v := .int .i64 0) rfl
      have g3 := hBr4.cell 3 (v := .string ⟨#[]⟩) rfl
      have g4 := hBr4.cell 4 (v := .string ⟨#[]⟩) rfl
      have g6 := hBr4.cell 5 (v := .slice none 0 0) rfl
      have hlt3 : w.heap.size + 1 < (w4.alloc (.cells #[.int .i64 a, .int .i64 b, .int .i64 c, .string ⟨#[]⟩, .string ⟨#[]⟩, .slice none 0 0] 24)).heap.size := hBr4.lt
      have hZ : Blk (((((((w4.alloc (.cells #[.int .i64 a, .int .i64 b, .int .i64 c, .string ⟨#[]⟩, .string ⟨#[]⟩, .slice none 0 0] 24)).setCell ⟨w.heap.size + 1, 0, none⟩ (.int .i64 e.op)).setCell ⟨w.heap.size + 1, 1, none⟩ (.int .i64 e.kind)).setCell ⟨w.heap.size + 1, 2, none⟩ (.int .i64 e.num)).setCell ⟨w.heap.size + 1, 3, none⟩ (.string e.s)).setCell ⟨w.heap.size + 1, 4, none⟩ (.string e.field)).setCell ⟨w.heap.size + 1, 5, none⟩ (.slice qu ln cu)) (w.heap.size + 1) 24 #[.int .i64 e.op, .int .i64 e.kind, .int .i64 e.num, .string e.s, .string e.field, .slice qu ln cu] := (((((hBr4.set 0 (.int .i64 e.op)).set 1 (.int .i64 e.kind)).set 2 (.int .i64 e.num)).set 3 (.string e.s)).set 4 (.string e.field)).set 5 (.slice qu ln cu)
      have hKz : Hid (Kp [w.heap.size + 1] (w4.alloc (.cells #[.int .i64 a, .int .i64 b, .int .i64 c, .string ⟨#[]⟩, .string ⟨#[]⟩, .slice none 0 0] 24)) (((((((w4.alloc (.cells #[.int .i64 a, .int .i64 b, .int .i64 c, .string ⟨#[]⟩, .string ⟨#[]⟩, .slice none 0 0] 24)).setCell ⟨w.heap.size + 1, 0, none⟩ (.int .i64 e.op)).setCell ⟨w.heap.size + 1, 1, none⟩ (.int .i64 e.kind)).setCell ⟨w.heap.size + 1, 2, none⟩ (.int .i64 e.num)).setCell ⟨w.heap.size + 1, 3, none⟩ (.string e.s)).setCell ⟨w.heap.size + 1, 4, none⟩ (.string e.field)).setCell ⟨w.heap.size + 1, 5, none⟩ (.slice qu ln cu))) := (hKf.out _ (hKf.out _ (hKf.out _ (hKf.out _ (hKf.out _ (hKf.out _ (Kp.refl _ (w4.alloc (.cells #[.int .i64 a, .int .i64 b, .int .i64 c, .string ⟨#[]⟩, .string ⟨#[]⟩, .slice none 0 0] 24))) 0 _) 1 _) 2 _) 3 _) 4 _) 5 _)
      have z0 := hZ.cell 0 (v := .int .i64 e.op) rfl
      have z1 := hZ.cell 1 (v := .int .i64 e.kind) rfl
      have z2 := hZ.cell 2 (v := .int .i64 e.num) rfl
      have z3 := hZ.cell 3 (v := .string e.s) rfl
      have z4 := hZ.cell 4 (v := .string e.field) rfl
      have z5 := hZ.cell 5 (v := .slice qu ln cu) rfl
      replace hZ := Lib.hid hZ
      replace hBe4 := Lib.hid hBe4
      replace hBr4 := Lib.hid hBr4
      go_wp2_with fail
      refine bodyPost_ret (v := .agg #[.int .i64 e.op, .int .i64 e.kind, .int .i64 e.num, .string e.s, .string e.field, .slice qu ln cu]) (by simp [results, Tryz.results15, go_sem, z0, z1, z2, z3, z4, z5]) rfl ?_
      have hF := hend.out _ _ _ l hKw4.out hKz.out hsz4.out hus4.out
      rw [hy.out]
      exact ⟨_, rfl, hF.1, hF.2⟩
    · have hBr4 := hBr3.out.kp (hk4.alloc (.cells #[.int .i64 1, .int .i64 k, .int .i64 n, .string ⟨#[]⟩, .string ⟨#[]⟩, .slice none 0 0] 24)) (by simp)
      have hKw4 := Lib.hid (hKw.out.trans (hk4.alloc (.cells #[.int .i64 1, .int .i64 k, .int .i64 n, .string ⟨#[]⟩, .string ⟨#[]⟩, .slice none 0 0] 24)))
      have hsz4 : Hid (w2.heap.size ≤ (w4.alloc (.cells #[.int .i64 1, .int .i64 k, .int .i64 n, .string ⟨#[]⟩, .string ⟨#[]⟩, .slice none 0 0] 24)).heap.size) := by show _ ≤ _; rw [World.size_alloc]; have h1 := hsz3.out; have h2 := hk4.size; omega
      replace hy := Lib.hid hy
      clear hk4
      have f0 := hBr4.frozen 0
      have f1 := hBr4.frozen 1
      have f2 := hBr4.frozen 2
      have f3 := hBr4.frozen 3
      have f4 := hBr4.frozen 4
      have f6 := hBr4.frozen 5
      have g0 := hBr4.cell 0 (v := .int .i64 0) rfl
      have g1 := hBr4.cell 1 (v := .int .i64 0) rfl
      have g2 := hBr4.cell 2 (v := .int .i64 0) rfl
      have g3 := hBr4.cell 3 (v := .string ⟨#[]⟩) rfl
      have g4 := hBr4.cell 4 (v := .string ⟨#[]⟩) rfl
      have g6 := hBr4.cell 5 (v := .slice none 0 0) rfl
      have hlt3 : w.heap.size + 1 < (w4.alloc (.cells #[.int .i64 1, .int .i64 k, .int .i64 n, .string ⟨#[]⟩, .string ⟨#[]⟩, .slice none 0 0] 24)).heap.size := hBr4.lt
      have hZ : Blk (((((((w4.alloc (.cells #[.int .i64 1, .int .i64 k, .int .i64 n, .string ⟨#[]⟩, .string ⟨#[]⟩, .slice none 0 0] 24)).setCell ⟨w.heap.size + 1, 0, none⟩ (.int .i64 1)).setCell ⟨w.heap.size + 1, 1, none⟩ (.int .i64 k)).setCell ⟨w.heap.size + 1, 2, none⟩ (.int .i64 n)).setCell ⟨w.heap.size + 1, 3, none⟩ (.string ⟨#[]⟩)).setCell ⟨w.heap.size + 1, 4, none⟩ (.string ⟨#[]⟩)).setCell ⟨w.heap.size + 1, 5, none⟩ (.slice none 0 0)) (w.heap.size + 1) 24 #[.int .i64 1, .int .i64 k, .int .i64 n, .string ⟨#[]⟩, .string ⟨#[]⟩, .slice none 0 0] := (((((hBr4.set 0 (.int .i64 1)).set 1 (.int .i64 k)).set 2 (.int .i64 n)).set 3 (.string ⟨#[]⟩)).set 4 (.string ⟨#[]⟩)).set 5 (.slice none 0 0)
      have hKz : Hid (Kp [w.heap.size + 1] (w4.alloc (.cells #[.int .i64 1, .int .i64 k, .int .i64 n, .string ⟨#[]⟩, .string ⟨#[]⟩, .slice none 0 0] 24)) (((((((w4.alloc (.cells #[.int .i64 1, .int .i64 k, .int .i64 n, .string ⟨#[]⟩, .string ⟨#[]⟩, .slice none 0 0] 24)).setCell ⟨w.heap.size + 1, 0, none⟩ (.int .i64 1)).setCell ⟨w.heap.size + 1, 1, none⟩ (.int .i64 k)).setCell ⟨w.heap.size + 1, 2, none⟩ (.int .i64 n)).setCell ⟨w.heap.size + 1, 3, none⟩ (.string ⟨#[]⟩)).setCell ⟨w.heap.size + 1, 4, none⟩ (.string ⟨#[]⟩)).setCell ⟨w.heap.size + 1, 5, none⟩ (.slice none 0 0))) := (hKf.out _ (hKf.out _ (hKf.out _ (hKf.out _ (hKf.out _ (hKf.out _ (Kp.refl _ (w4.alloc (.cells #[.int .i64 1, .int .i64 k, .int .i64 n, .string ⟨#[]⟩, .string ⟨#[]⟩, .slice none 0 0] 24))) 0 _) 1 _) 2 _) 3 _) 4 _) 5 _)
      have z0 := hZ.cell 0 (v := .int .i64 1) rfl
      have z1 := hZ.cell 1 (v := .int .i64 k) rfl
      have z2 := hZ.cell 2 (v := .int .i64 n) rfl
      have z3 := hZ.cell 3 (v := .string ⟨#[]⟩) rfl
      have z4 := hZ.cell 4 (v := .string ⟨#[]⟩) rfl
      have z5 := hZ.cell 5 (v := .slice none 0 0) rfl
      replace hZ := Lib.hid hZ
      replace hBr4 := Lib.hid hBr4
      go_wp2_with fail
      refine bodyPost_ret (v := .agg #[.int .i64 1, .int .i64 k, .int .i64 n, .string ⟨#[]⟩, .string ⟨#[]⟩, .slice none 0 0]) (by simp [results, Tryz.results15, go_sem, z0, z1, z2, z3, z4, z5]) rfl ?_
      have hF := hend.out _ _ _ [] hKw4.out hKz.out hsz4.out (exsSlB.nil _ _)
      rw [hy.out]
      exact ⟨_, rfl, hF.1, hF.2⟩
  · cases l with
    | nil => simp [decE] at hd
    | cons a l' =>
      have hya : Hid (y = a) := by show _ = _; rw [hfe.out]; rw [stepE_mk, if_pos (show decE e.op (a :: l') = true from hd)]; rfl
      obtain ⟨b, off, cp, ua, hva, hua, hca⟩ := exsAtB.head hus3
      obtain ⟨rfl, rfl⟩ : qu = some ⟨b, off, none⟩ ∧ cu = cp := by simp at hva; exact hva
      obtain ⟨qa, ca, rfl⟩ := hua.drop.val
      have a0 := hca 0 _ rfl
      have a1 := hca 1 _ rfl
      have a2 := hca 2 _ rfl
      have a3 := hca 3 _ rfl
      have a4 := hca 4 _ rfl
      have a5 := hca 5 _ rfl
      simp only [Nat.add_zero] at a0
      have e5 := hBe3.cell 5 (v := .slice (some ⟨b, off, none⟩) (a :: l').length cu) rfl
      obtain ⟨la, hla⟩ : ∃ la, a.args.length = la := ⟨_, rfl⟩
      rw [hla] at a5 hua
      have hend2 := Lib.hid (fun F h => hend.out w3 F _ a.args hKw.out h hsz3.out hua)
      clear hla hca hus3 hua hva
      have hlen0 : 0 < (a :: l').length := by simp
      obtain ⟨ll, hll⟩ : ∃ ll, (a :: l').length = ll := ⟨_, rfl⟩
      rw [hll] at e5 hlen0
      have f0 := hBr3.frozen 0
      have f1 := hBr3.frozen 1
      have f2 := hBr3.frozen 2
      have f3 := hBr3.frozen 3
      have f4 := hBr3.frozen 4
      have f6 := hBr3.frozen 5
      have g0 := hBr3.cell 0 (v := .int .i64 0) rfl
      have g1 := hBr3.cell 1 (v := .int .i64 0) rfl
      have g2 := hBr3.cell 2 (v := .int .i64 0) rfl
      have g3 := hBr3.cell 3 (v := .string ⟨#[]⟩) rfl
      have g4 := hBr3.cell 4 (v := .string ⟨#[]⟩) rfl
      have g6 := hBr3.cell 5 (v := .slice none 0 0) rfl
      have hlt3 : w.heap.size + 1 < w3.heap.size := hBr3.lt
      have hZ : Blk ((((((w3.setCell ⟨w.heap.size + 1, 0, none⟩ (.int .i64 a.op)).setCell ⟨w.heap.size + 1, 1, none⟩ (.int .i64 a.kind)).setCell ⟨w.heap.size + 1, 2, none⟩ (.int .i64 a.num)).setCell ⟨w.heap.size + 1, 3, none⟩ (.string a.s)).setCell ⟨w.heap.size + 1, 4, none⟩ (.string a.field)).setCell ⟨w.heap.size + 1, 5, none⟩ (.slice qa la ca)) (w.heap.size + 1) 24 #[.int .i64 a.op, .int .i64 a.kind, .int .i64 a.num, .string a.s, .string a.field, .slice qa la ca] := (((((hBr3.set 0 (.int .i64 a.op)).set 1 (.int .i64 a.kind)).set 2 (.int .i64 a.num)).set 3 (.string a.s)).set 4 (.string a.field)).set 5 (.slice qa la ca)
      have hKz : Hid (Kp [w.heap.size + 1] w3 ((((((w3.setCell ⟨w.heap.size + 1, 0, none⟩ (.int .i64 a.op)).setCell ⟨w.heap.size + 1, 1, none⟩ (.int .i64 a.kind)).setCell ⟨w.heap.size + 1, 2, none⟩ (.int .i64 a.num)).setCell ⟨w.heap.size + 1, 3, none⟩ (.string a.s)).setCell ⟨w.heap.size + 1, 4, none⟩ (.string a.field)).setCell ⟨w.heap.size + 1, 5, none⟩ (.slice qa la ca))) := (hKf.out _ (hKf.out _ (hKf.out _ (hKf.out _ (hKf.out _ (hKf.out _ (Kp.refl _ w3) 0 _) 1 _) 2 _) 3 _) 4 _) 5 _)
      have z0 := hZ.cell 0 (v := .int .i64 a.op) rfl
      have z1 := hZ.cell 1 (v := .int .i64 a.kind) rfl
      have z2 := hZ.cell 2 (v := .int .i64 a.num) rfl
      have z3 := hZ.cell 3 (v := .string a.s) rfl
      have z4 := hZ.cell 4 (v := .string a.field) rfl
      have z5 := hZ.cell 5 (v := .slice qa la ca) rfl
      replace hZ := Lib.hid hZ
      replace hBe3 := Lib.hid hBe3
      replace hBr3 := Lib.hid hBr3
      rw [hll]
      go_wp2_with fail
      refine bodyPost_ret (v := .agg #[.int .i64 a.op, .int .i64 a.kind, .int .i64 a.num, .string a.s, .string a.field, .slice qa la ca]) (by simp [results, Tryz.results15, go_sem, z0, z1, z2, z3, z4, z5]) rfl ?_
      have hF := hend2.out _ hKz.out
      rw [hya.out]
      exact ⟨_, rfl, hF.1, hF.2⟩
end Go.Proofs.YtgldbeacjacbcaaGreat
