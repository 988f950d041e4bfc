import Derived.Test.YtebmaclopkocgaaGreatDoorPt8
set_option linter.unusedSimpArgs false
set_option linter.unusedVariables false
namespace Go.Proofs.YtebmaclopkocgaaGreatDoor
open Go.RowKit

/-- The cells of element i of a slice of expressions. -/
theorem exsSl.cells_at {w : World} {q : Option Addr} {n cap : Nat} {es : List Ex} (h : exsSl w (.slice q n cap) es) (i : Nat) (hi : i < es.length) :
    ∃ b off v, q = some ⟨b, off, none⟩ ∧ exsSl w v es[i].args ∧ ∀ j u, (exV es[i] v)[j]? = some u → w.cell? ⟨b, off + i * 6 + j, none⟩ = some u := by
  obtain ⟨b, off, v, rfl, hv, c0, c1, c2, c3, c4, c5⟩ := h.at_ i hi
  refine ⟨b, off, v, rfl, hv, fun j u hj => ?_⟩
  match j, hj with
  | 0, hj => cases hj; exact c0
  | 1, hj => cases hj; exact c1
  | 2, hj => cases hj; exact c2
  | 3, hj => cases hj; exact c3
  | 4, hj => cases hj; exact c4
  | 5, hj => cases hj; exact c5
  | j + 6, hj => simp [exV] at hj
theorem strres_to {a b : List UInt8} {w : World} {r : Ending} {w' : World} (h : StrRes a w r w') (e : a = b) : StrRes b w r w' := e ▸ h

theorem text_step (e : Ex) (IH : ∀ i (hi : i < e.args.length), TxtC e.args[i]) : TxtC e := by
  intro w0 w g v hv hk0 hA hw hc
  have hA' := hA.kp hk0
  cases e with
  | mk op kind n s f args =>
    simp only [Ex.args] at IH hv
    have hwe := hw
    rw [Ex.well, Bool.and_eq_true] at hwe
    have hca : cntL args ≤ 500 := by rw [Ex.cnt] at hc; omega
    obtain ⟨q, cap, rfl⟩ := hv.val
    obtain ⟨_, hnc, hcap⟩ := hv.len
    have hlist := fun W (k : Kp [] w W) => list_c args IH w0 W g _ hv (hk0.trans k) hA hwe.2 hca
    have hjl := jl_len args hwe.2 true
    have hop : ∀ i (hi : i < args.length) (least : Int) (u : Value), exsSl w0 u args[i].args → ∀ W, Kp [] w W → Calls Tryz.prog 31 #[ops g, exVal args[i] u, .int .i64 least] W (StrRes (par args[i].op least args[i].txt) W) :=
      fun i hi least u hu W k => operand_c args[i] (IH i hi) least w0 W g u hu (hk0.trans k) hA (wellL_get hwe.2 i hi) (Nat.le_trans (cnt_mem hi) hca)
    have hpl : ∀ i (hi : i < args.length) (least : Int), (par args[i].op least args[i].txt).length ≤ 100000 := fun i hi least => by
      have h1 := par_len args[i].op least args[i].txt
      have h2 := txt_len _ (wellL_get hwe.2 i hi)
      have h3 := Nat.le_trans (cnt_mem hi) hca
      omega
    show Calls Tryz.prog 15 #[.agg #[.map (some g)], .agg #[.int .i64 op, .int .i64 kind, .int .i64 n, .string s, .string f, .slice q args.length cap]] w _
    rcases shp_forms hwe.1 with ⟨rfl, hcn, rfl⟩ | ⟨rfl, hs, rfl⟩ | ⟨rfl, hs, hf, rfl⟩ | ⟨rfl, hs, hl⟩ | ⟨rfl, hs⟩ | ⟨ho, hl⟩ | ⟨h8, h21, hl⟩
    · exact (text_1 kind n s f q _ cap g w hA'.tab (con_bd hcn).1 (con_bd hcn).2).mono fun r w' h => strres_to h (by simp [Ex.txt])
    · exact (text_2 kind n s f q _ cap g w).mono fun r w' h => strres_to h (by simp [Ex.txt])
    · exact (text_3 kind n s f q _ cap g w (by have := name_len hs; rwa [bs_length] at this) (by have := name_len hf; rwa [bs_length] at this)).mono fun r w' h => strres_to h (by simp [Ex.txt])
    · exact (text_4 kind n s f q _ cap g w (by have := name_len hs; rwa [bs_length] at this) _ (by omega) hlist).mono fun r w' h => strres_to h (by simp [Ex.txt])
    · exact (text_5 kind n s f q _ cap g w (by have := name_len hs; rwa [bs_length] at this) _ (by omega) hlist).mono fun r w' h => strres_to h (by simp [Ex.txt])
    · have h0 : 0 < args.length := by omega
      obtain ⟨b, off, u, rfl, hu, hcl⟩ := hv.cells_at 0 h0
      have hcl2 : ∀ j x, (exV args[0] u)[j]? = some x → w.cell? ⟨b, off + j, none⟩ = some x := fun j x hj => hk0.cell (by have := hcl j x hj; simpa using this) (by simp)
      have ht : par ((args.map Ex.op).getD 0 0) 8 ((txtL args).getD 0 []) = par args[0].op 8 args[0].txt := by rw [op_get args 0 h0, txtL_get args 0 h0]
      rcases ho with rfl | rfl
      · rw [hl]
        exact (text_6 kind n s f b off cap g w args[0] u _ (hpl 0 h0 8) (by omega) hcap hcl2 (hop 0 h0 8 u hu)).mono fun r w' h => strres_to h (by rw [Ex.txt, ht]; rfl)
      · rw [hl]
        exact (text_7 kind n s f b off cap g w args[0] u _ (hpl 0 h0 8) (by omega) hcap hcl2 (hop 0 h0 8 u hu)).mono fun r w' h => strres_to h (by rw [Ex.txt, ht]; rfl)
    · have h0 : 0 < args.length := by omega
      have h1 : 1 < args.length := by omega
      obtain ⟨b, off, u, rfl, hu, hcl⟩ := hv.cells_at 0 h0
      obtain ⟨b', off', u', hq, hu', hcl'⟩ := hv.cells_at 1 h1
      obtain ⟨rfl, rfl⟩ : b' = b ∧ off' = off := by simp at hq; exact ⟨hq.1.symm, hq.2.symm⟩
      have hcl2 : ∀ j x, (exV args[0] u)[j]? = some x → w.cell? ⟨b', off' + j, none⟩ = some x := fun j x hj => hk0.cell (by have := hcl j x hj; simpa using this) (by simp)
      have hcl3 : ∀ j x, (exV args[1] u')[j]? = some x → w.cell? ⟨b', off' + 6 + j, none⟩ = some x := fun j x hj => hk0.cell (by have := hcl' j x hj; simpa using this) (by simp)
      rw [hl]
      refine (text_two op kind n h8 h21 s f b' off' cap g w hA' args[0] args[1] u u' _ _ (hpl 0 h0 (lvl op)) (hpl 1 h1 (lvl op + 1)) (by omega) hcap hcl2 hcl3 (hop 0 h0 _ u hu) (hop 1 h1 _ u' hu')).mono fun r w' h => strres_to h ?_
      rw [Ex.txt, op_get args 0 h0, op_get args 1 h1, txtL_get args 0 h0, txtL_get args 1 h1]
      rw [if_neg (by omega), if_neg (by omega), if_neg (by omega), if_neg (by omega), if_neg (by omega), if_neg (by omega), if_neg (by omega)]
mutual
theorem text_c : ∀ e : Ex, TxtC e
  | .mk op kind n s f args => text_step _ (texts_all args)
theorem texts_all : ∀ (es : List Ex) (i : Nat) (hi : i < es.length), TxtC es[i]
  | e :: es, 0, _ => text_c e
  | e :: es, i + 1, hi => texts_all es i (by simpa using hi)
end
theorem wellB_is {e : Ex} (h : wellB e = true) : e.well = true ∧ e.cnt ≤ 500 := by
  simp only [wellB, okE, Bool.and_eq_true, decide_eq_true_eq] at h
  exact ⟨h.1.1, by omega⟩

set_option maxRecDepth 100000 in
set_option maxHeartbeats 1000000 in
theorem pexpr_yes (e : Ex) (v : Value) (w : World) (hv : exsSl w v e.args) (hA : Amb w) (hT : TabI w) (hf : e.fits) (hw : wellB e = true) :
    Calls Tryz.prog 7 #[exVal e v] w fun r w' => r = .returned (.tuple #[.string (st e.txt), .int .i64 0]) ∧ Kp [] w w' := by
  obtain ⟨q, cap, rfl⟩ := hv.val
  obtain ⟨W1, hW1⟩ : ∃ W1, w.alloc (.cells #[.int .i64 e.op, .int .i64 e.kind, .int .i64 e.num, .string e.s, .string e.field, .slice q e.args.length cap] 24) = W1 := ⟨_, rfl⟩
  have hk1 : Kp [] w W1 := hW1 ▸ (Kp.refl [] w).alloc _
  have hB := Blk.new w 24 #[.int .i64 e.op, .int .i64 e.kind, .int .i64 e.num, .string e.s, .string e.field, .slice q e.args.length cap]
  rw [hW1] at hB
  have hch := checkExpr_c e _ W1 (hv.kp hk1) (hA.kp0 hk1) hf
  rw [hw] at hch
  have htx : Hid (∀ W g, Kp [] w W → OpsAt g W → Calls Tryz.prog 15 #[.agg #[.map (some g)], exVal e (.slice q e.args.length cap)] W (StrRes e.txt W)) :=
    fun W g k ho => text_c e W W g _ (hv.kp k) (Kp.refl _ _) ⟨ho, hT.kp k⟩ (wellB_is hw).1 (wellB_is hw).2
  obtain ⟨t, ht⟩ : ∃ t, e.txt = t := ⟨_, rfl⟩
  rw [ht] at htx ⊢
  clear hv hA hT hf hw ht
  unfold exVal at hch htx ⊢
  obtain ⟨len, hlen⟩ : ∃ len, e.args.length = len := ⟨_, rfl⟩
  rw [hlen] at hch htx hB hW1 ⊢
  replace hch := Lib.hid hch
  replace hW1 := Lib.hid hW1
  replace hB := Lib.hid hB
  replace hk1 := Lib.hid hk1
  clear hlen
  go_enter Tryz.func7, Tryz.ntmps7
  go_wp2_with fail
  rw [hW1.out]
  refine hch.out.mono ?_
  rintro r w2 ⟨rfl, hg2⟩
  have hk2 := Lib.hid (hk1.out.trans hg2.kp)
  have hB2 := Lib.hid (hB.out.kp hg2.kp (by simp))
  clear hg2 hW1 hch hB hk1
  go_wp2_with fail
  have x0 := hB2.out.cell 0 (v := .int .i64 e.op) rfl
  have x1 := hB2.out.cell 1 (v := .int .i64 e.kind) rfl
  have x2 := hB2.out.cell 2 (v := .int .i64 e.num) rfl
  have x3 := hB2.out.cell 3 (v := .string e.s) rfl
  have x4 := hB2.out.cell 4 (v := .string e.field) rfl
  have x5 := hB2.out.cell 5 (v := .slice q len cap) rfl
  obtain ⟨gx, hgx⟩ : ∃ x, w.heap.size = x := ⟨_, rfl⟩
  rw [hgx] at x0 x1 x2 x3 x4 x5 ⊢
  have hall : Hid (∀ W', Kp [] w2 W' → W'.cell? ⟨gx, 0, none⟩ = some (.int .i64 e.op) ∧ W'.cell? ⟨gx, 1, none⟩ = some (.int .i64 e.kind) ∧ W'.cell? ⟨gx, 2, none⟩ = some (.int .i64 e.num) ∧ W'.cell? ⟨gx, 3, none⟩ = some (.string e.s) ∧ W'.cell? ⟨gx, 4, none⟩ = some (.string e.field) ∧ W'.cell? ⟨gx, 5, none⟩ = some (.slice q len cap)) :=
    fun W' k => ⟨k.cell x0 (by simp), k.cell x1 (by simp), k.cell x2 (by simp), k.cell x3 (by simp), k.cell x4 (by simp), k.cell x5 (by simp)⟩
  clear x0 x1 x2 x3 x4 x5
  go_region_held3 (fun W' => W'.cell? ⟨gx, 0, none⟩ = some (.int .i64 e.op) ∧ W'.cell? ⟨gx, 1, none⟩ = some (.int .i64 e.kind) ∧ W'.cell? ⟨gx, 2, none⟩ = some (.int .i64 e.num) ∧ W'.cell? ⟨gx, 3, none⟩ = some (.string e.s) ∧ W'.cell? ⟨gx, 4, none⟩ = some (.string e.field) ∧ W'.cell? ⟨gx, 5, none⟩ = some (.slice q len cap))
    (first | exact hall.out _ (Kp.refl _ _) | exact hall.out _ (Kp.refl _ _).drew | exact hall.out _ hk5.out | exact hall.out _ hk6.out)
    (first
    | (go_at_call 15; refine (htx.out _ _ (hk2.out.trans hk5.out) ho5.out).mono ?_; rintro r w6 ⟨rfl, hk6⟩; replace hk6 := Lib.hid (hk5.out.trans hk6))
    | (go_at_call 14; refine (newExprs_c _).mono ?_; rintro r w5 ⟨g5, rfl, ho5, hk5⟩; replace hk5 := Lib.hid ((Kp.refl [] w2).drew.trans hk5); replace ho5 := Lib.hid ho5))
  all_goals
    go_wp2_with fail
    go_ret2
    exact ⟨rfl, hk2.out.trans hk6.out⟩
set_option maxRecDepth 100000 in
theorem pexpr_no (e : Ex) (v : Value) (w : World) (hv : exsSl w v e.args) (hA : Amb w) (hf : e.fits) (hw : wellB e = false) :
    Calls Tryz.prog 7 #[exVal e v] w fun r w' => r = .returned (.tuple #[.string ⟨#[]⟩, .int .i64 2]) ∧ Kp [] w w' := by
  obtain ⟨q, cap, rfl⟩ := hv.val
  obtain ⟨W1, hW1⟩ : ∃ W1, w.alloc (.cells #[.int .i64 e.op, .int .i64 e.kind, .int .i64 e.num, .string e.s, .string e.field, .slice q e.args.length cap] 24) = W1 := ⟨_, rfl⟩
  have hk1 : Kp [] w W1 := hW1 ▸ (Kp.refl [] w).alloc _
  have hch := checkExpr_c e _ W1 (hv.kp hk1) (hA.kp0 hk1) hf
  rw [hw] at hch
  clear hv hA hf hw
  unfold exVal at hch ⊢
  obtain ⟨len, hlen⟩ : ∃ len, e.args.length = len := ⟨_, rfl⟩
  rw [hlen] at hch hW1 ⊢
  replace hch := Lib.hid hch
  replace hW1 := Lib.hid hW1
  replace hk1 := Lib.hid hk1
  clear hlen
  go_enter Tryz.func7, Tryz.ntmps7
  go_wp2_with fail
  rw [hW1.out]
  refine hch.out.mono ?_
  rintro r w2 ⟨rfl, hg2⟩
  have hk2 := Lib.hid (hk1.out.trans hg2.kp)
  clear hg2 hW1 hch hk1
  go_wp2_with fail
  go_ret2
  exact ⟨rfl, hk2.out⟩
end Go.Proofs.YtebmaclopkocgaaGreatDoor
