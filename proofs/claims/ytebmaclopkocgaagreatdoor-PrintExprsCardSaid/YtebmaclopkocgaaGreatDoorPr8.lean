import Derived.Test.YtebmaclopkocgaaGreatDoorPr5
import Derived.Test.YtebmaclopkocgaaGreatDoorPr6
import Derived.Test.YtebmaclopkocgaaGreatDoorPr7
set_option linter.unusedSimpArgs false
set_option linter.unusedVariables false
namespace Go.Proofs.YtebmaclopkocgaaGreatDoor
open Go.RowKit

theorem lvl_bd {op : Int} (h8 : 8 ≤ op) (h21 : op ≤ 21) : 1 ≤ lvl op ∧ lvl op ≤ 7 := by
  rcases (show op = 8 ∨ op = 9 ∨ op = 10 ∨ op = 11 ∨ op = 12 ∨ op = 13 ∨ op = 14 ∨ op = 15 ∨ op = 16 ∨ op = 17 ∨ op = 18 ∨ op = 19 ∨ op = 20 ∨ op = 21 by omega) with rfl | rfl | rfl | rfl | rfl | rfl | rfl | rfl | rfl | rfl | rfl | rfl | rfl | rfl
  all_goals decide
theorem two_bd {op : Int} (h : isTwo op = true) : 8 ≤ op ∧ op ≤ 21 := by
  unfold isTwo at h
  simpa using h
theorem par_8 (op : Int) (t : List UInt8) : par op 8 t = clo (isTwo op) t := by
  unfold par clo
  cases h : isTwo op
  · simp
  · have := lvl_bd (two_bd h).1 (two_bd h).2
    have : lvl op < 8 := by omega
    simp [this]
theorem par_F {o least : Int} (t : List UInt8) (h : isTwo o = false) : par o least t = clo false t := by simp [par, clo, h]
theorem par_l {o op : Int} (t : List UInt8) (h : isTwo o = true) (h2 : isTwo op = true) : par o (lvl op) t = clo (decide (rlvl o < rlvl op)) t := by
  simp only [par, clo, rlvl, h, h2, Bool.true_and, if_true]
  by_cases hx : lvl o < lvl op
  · have : lvl o - 1 < lvl op - 1 := by omega
    simp [hx, this]
  · have : ¬ lvl o - 1 < lvl op - 1 := by omega
    simp [hx, this]
theorem par_r {o op : Int} (t : List UInt8) (h : isTwo o = true) (h2 : isTwo op = true) : par o (lvl op + 1) t = clo (decide (rlvl o ≤ rlvl op)) t := by
  simp only [par, clo, rlvl, h, h2, Bool.true_and, if_true]
  by_cases hx : lvl o < lvl op + 1
  · have : lvl o - 1 ≤ lvl op - 1 := by omega
    simp [hx, this]
  · have : ¬ lvl o - 1 ≤ lvl op - 1 := by omega
    simp [hx, this]
theorem clo_len (b : Bool) (t : List UInt8) : (clo b t).length ≤ t.length + 2 := by
  cases b <;> simp [clo]

set_option maxHeartbeats 1000000 in
theorem rtext_step (e : Ex) (IH : ∀ i (hi : i < e.args.length), RTxtC e.args[i]) : RTxtC e := by
  intro w0 w v hv hk0 hA hw hc
  have hA' := hA.kp hk0
  cases e with
  | mk op kind n s f args =>
    simp only [Ex.args] at IH hv
    have hwe := hw
    rw [Ex.well, Bool.and_eq_true] at hwe
    have hca : cntL args ≤ 500 := by rw [Ex.cnt] at hc; omega
    obtain ⟨q, cap, rfl⟩ := hv.val
    obtain ⟨_, hnc, hcap⟩ := hv.len
    have hlist := fun W (k : Kp [] w W) => rexprs_c args IH w0 W _ hv (hk0.trans k) hA hwe.2 hca
    have hjl := jl_len args hwe.2 true
    have hop : ∀ i (hi : i < args.length) (B : Bool) (u : Value), exsSl w0 u args[i].args → ∀ W, Kp [] w W → Calls Tryz.prog 19 #[exVal args[i] u, .bool B] W (StrRes (clo B args[i].txt) W) :=
      fun i hi B u hu W k => rop_c args[i] (IH i hi) B w0 W u hu (hk0.trans k) hA (wellL_get hwe.2 i hi) (Nat.le_trans (cnt_mem hi) hca)
    have htw : ∀ i (hi : i < args.length) (u : Value), exsSl w0 u args[i].args → ∀ W, Kp [] w W → Calls Tryz.prog 18 #[exVal args[i] u] W (fun r w' => r = .returned (.tuple #[.int .i64 (rlvl args[i].op), .bool (isTwo args[i].op)]) ∧ Kp [] W w') :=
      fun i hi u hu W k => by
        obtain ⟨qu, cu, rfl⟩ := hu.val
        exact two_c _ _ _ _ _ _ _ _ W (hA'.kp k)
    have hpl : ∀ i (hi : i < args.length) (B : Bool), (clo B args[i].txt).length ≤ 100000 := fun i hi B => by
      have h1 := clo_len B args[i].txt
      have h2 := txt_len _ (wellL_get hwe.2 i hi)
      have h3 := Nat.le_trans (cnt_mem hi) hca
      omega
    show Calls Tryz.prog 9 #[.agg #[.int .i64 op, .int .i64 kind, .int .i64 n, .string s, .string f, .slice q args.length cap]] w _
    rcases shp_forms hwe.1 with ⟨rfl, hcn, rfl⟩ | ⟨rfl, hs, rfl⟩ | ⟨rfl, hs, hf, rfl⟩ | ⟨rfl, hs, hl⟩ | ⟨rfl, hs⟩ | ⟨ho, hl⟩ | ⟨h8, h21, hl⟩
    · exact (rtext_1 kind n s f q _ cap w (con_bd hcn).1 (con_bd hcn).2).mono fun r w' h => strres_to h (by rw [rcon_eq (con_is hcn)]; simp [Ex.txt])
    · exact (rtext_2 kind n s f q _ cap w).mono fun r w' h => strres_to h (by simp [Ex.txt])
    · exact (rtext_3 kind n s f q _ cap w (by have := name_len hs; rwa [bs_length] at this) (by have := name_len hf; rwa [bs_length] at this)).mono fun r w' h => strres_to h (by simp [Ex.txt])
    · exact (rtext_4 kind n s f q _ cap w (by have := name_len hs; rwa [bs_length] at this) _ (by omega) hlist).mono fun r w' h => strres_to h (by simp [Ex.txt])
    · exact (rtext_5 kind n s f q _ cap w (by have := name_len hs; rwa [bs_length] at this) _ (by omega) hlist).mono fun r w' h => strres_to h (by simp [Ex.txt])
    · have h0 : 0 < args.length := by omega
      obtain ⟨b, off, u, rfl, hu, hcl⟩ := hv.cells_at 0 h0
      have hcl2 : ∀ j x, (exV args[0] u)[j]? = some x → w.cell? ⟨b, off + j, none⟩ = some x := fun j x hj => hk0.cell (by have := hcl j x hj; simpa using this) (by simp)
      have ht : par ((args.map Ex.op).getD 0 0) 8 ((txtL args).getD 0 []) = clo (isTwo args[0].op) args[0].txt := by rw [op_get args 0 h0, txtL_get args 0 h0, par_8]
      rcases ho with rfl | rfl
      · rw [hl]
        exact (rtext_6 kind n s f b off cap w args[0] u _ (isTwo args[0].op) _ (hpl 0 h0 _) (by omega) hcap hcl2 (htw 0 h0 u hu) (hop 0 h0 _ u hu)).mono fun r w' h => strres_to h (by rw [Ex.txt, ht]; rfl)
      · rw [hl]
        exact (rtext_7 kind n s f b off cap w args[0] u _ (isTwo args[0].op) _ (hpl 0 h0 _) (by omega) hcap hcl2 (htw 0 h0 u hu) (hop 0 h0 _ u hu)).mono fun r w' h => strres_to h (by rw [Ex.txt, ht]; rfl)
    · have h0 : 0 < args.length := by omega
      have h1 : 1 < args.length := by omega
      obtain ⟨b, off, u, rfl, hu, hcl⟩ := hv.cells_at 0 h0
      obtain ⟨b', off', u', hq, hu', hcl'⟩ := hv.cells_at 1 h1
      obtain ⟨rfl, rfl⟩ : b' = b ∧ off' = off := by simp at hq; exact ⟨hq.1.symm, hq.2.symm⟩
      have hcl2 : ∀ j x, (exV args[0] u)[j]? = some x → w.cell? ⟨b', off' + j, none⟩ = some x := fun j x hj => hk0.cell (by have := hcl j x hj; simpa using this) (by simp)
      have hcl3 : ∀ j x, (exV args[1] u')[j]? = some x → w.cell? ⟨b', off' + 6 + j, none⟩ = some x := fun j x hj => hk0.cell (by have := hcl' j x hj; simpa using this) (by simp)
      have hTw : TwoAt w b' off' args[0] args[1] u u' := ⟨hcl2 0 _ rfl, hcl2 1 _ rfl, hcl2 2 _ rfl, hcl2 3 _ rfl, hcl2 4 _ rfl, hcl2 5 _ rfl, hcl3 0 _ rfl, hcl3 1 _ rfl, hcl3 2 _ rfl, hcl3 3 _ rfl, hcl3 4 _ rfl, hcl3 5 _ rfl⟩
      have hsg : Hid (∀ W, Kp [] w W → Calls Tryz.prog 20 #[.int .i64 op] W (fun r w' => r = .returned (.tuple #[.int .i64 (rlvl op), .string (st (sgn op))]) ∧ Kp [] W w')) := fun W k => sign_c op W (hA'.kp k)
      have htwo := two_yes ⟨h8, h21⟩
      have hT0 := htw 0 h0 u hu
      have hT1 := htw 1 h1 u' hu'
      have hfin : ∀ (B B' : Bool), par args[0].op (lvl op) args[0].txt = clo B args[0].txt → par args[1].op (lvl op + 1) args[1].txt = clo B' args[1].txt →
          clo B args[0].txt ++ ([32] : List UInt8) ++ sgn op ++ ([32] : List UInt8) ++ clo B' args[1].txt = (Ex.mk op kind n s f args).txt := fun B B' e1 e2 => by
        rw [Ex.txt, op_get args 0 h0, op_get args 1 h1, txtL_get args 0 h0, txtL_get args 1 h1]
        rw [if_neg (by omega), if_neg (by omega), if_neg (by omega), if_neg (by omega), if_neg (by omega), if_neg (by omega), if_neg (by omega), e1, e2]
      rw [hl]
      cases hL : isTwo args[0].op
      · have pL := par_F (least := lvl op) args[0].txt hL
        rw [hL] at hT0
        cases hR : isTwo args[1].op
        · have pR := par_F (least := lvl op + 1) args[1].txt hR
          rw [hR] at hT1
          exact (rtwo_FF op kind n h8 h21 s f b' off' cap w _ _ u u' _ _ _ _ _ _ (hpl 0 h0 _) (hpl 1 h1 _) (sgn_len op) (by omega) hcap hTw hsg hT0 hT1 (hop 0 h0 false u hu) (hop 1 h1 false u' hu')).mono fun r w' h => strres_to h (hfin _ _ pL pR)
        · rw [hR] at hT1
          have pR := par_r args[1].txt hR htwo
          cases hd : decide (rlvl args[1].op ≤ rlvl op)
          · rw [hd] at pR
            exact (rtwo_FN op kind n h8 h21 s f b' off' cap w _ _ u u' _ _ _ _ _ _ (hpl 0 h0 _) (hpl 1 h1 _) (sgn_len op) (by omega) hcap hTw hd hsg hT0 hT1 (hop 0 h0 false u hu) (hop 1 h1 false u' hu')).mono fun r w' h => strres_to h (hfin _ _ pL pR)
          · rw [hd] at pR
            exact (rtwo_FT op kind n h8 h21 s f b' off' cap w _ _ u u' _ _ _ _ _ _ (hpl 0 h0 _) (hpl 1 h1 _) (sgn_len op) (by omega) hcap hTw (of_decide_eq_true hd) hsg hT0 hT1 (hop 0 h0 false u hu) (hop 1 h1 true u' hu')).mono fun r w' h => strres_to h (hfin _ _ pL pR)
      · rw [hL] at hT0
        have pL := par_l args[0].txt hL htwo
        cases he : decide (rlvl args[0].op < rlvl op)
        · rw [he] at pL
          cases hR : isTwo args[1].op
          · have pR := par_F (least := lvl op + 1) args[1].txt hR
            rw [hR] at hT1
            exact (rtwo_NF op kind n h8 h21 s f b' off' cap w _ _ u u' _ _ _ _ _ _ (hpl 0 h0 _) (hpl 1 h1 _) (sgn_len op) (by omega) hcap hTw he hsg hT0 hT1 (hop 0 h0 false u hu) (hop 1 h1 false u' hu')).mono fun r w' h => strres_to h (hfin _ _ pL pR)
          · rw [hR] at hT1
            have pR := par_r args[1].txt hR htwo
            cases hd : decide (rlvl args[1].op ≤ rlvl op)
            · rw [hd] at pR
              exact (rtwo_NN op kind n h8 h21 s f b' off' cap w _ _ u u' _ _ _ _ _ _ (hpl 0 h0 _) (hpl 1 h1 _) (sgn_len op) (by omega) hcap hTw he hd hsg hT0 hT1 (hop 0 h0 false u hu) (hop 1 h1 false u' hu')).mono fun r w' h => strres_to h (hfin _ _ pL pR)
            · rw [hd] at pR
              exact (rtwo_NT op kind n h8 h21 s f b' off' cap w _ _ u u' _ _ _ _ _ _ (hpl 0 h0 _) (hpl 1 h1 _) (sgn_len op) (by omega) hcap hTw he (of_decide_eq_true hd) hsg hT0 hT1 (hop 0 h0 false u hu) (hop 1 h1 true u' hu')).mono fun r w' h => strres_to h (hfin _ _ pL pR)
        · rw [he] at pL
          cases hR : isTwo args[1].op
          · have pR := par_F (least := lvl op + 1) args[1].txt hR
            rw [hR] at hT1
            exact (rtwo_TF op kind n h8 h21 s f b' off' cap w _ _ u u' _ _ _ _ _ _ (hpl 0 h0 _) (hpl 1 h1 _) (sgn_len op) (by omega) hcap hTw (of_decide_eq_true he) hsg hT0 hT1 (hop 0 h0 true u hu) (hop 1 h1 false u' hu')).mono fun r w' h => strres_to h (hfin _ _ pL pR)
          · rw [hR] at hT1
            have pR := par_r args[1].txt hR htwo
            cases hd : decide (rlvl args[1].op ≤ rlvl op)
            · rw [hd] at pR
              exact (rtwo_TN op kind n h8 h21 s f b' off' cap w _ _ u u' _ _ _ _ _ _ (hpl 0 h0 _) (hpl 1 h1 _) (sgn_len op) (by omega) hcap hTw (of_decide_eq_true he) hd hsg hT0 hT1 (hop 0 h0 true u hu) (hop 1 h1 false u' hu')).mono fun r w' h => strres_to h (hfin _ _ pL pR)
            · rw [hd] at pR
              exact (rtwo_TT op kind n h8 h21 s f b' off' cap w _ _ u u' _ _ _ _ _ _ (hpl 0 h0 _) (hpl 1 h1 _) (sgn_len op) (by omega) hcap hTw (of_decide_eq_true he) (of_decide_eq_true hd) hsg hT0 hT1 (hop 0 h0 true u hu) (hop 1 h1 true u' hu')).mono fun r w' h => strres_to h (hfin _ _ pL pR)
mutual
theorem rtext_c : ∀ e : Ex, RTxtC e
  | .mk op kind n s f args => rtext_step _ (rtexts_all args)
theorem rtexts_all : ∀ (es : List Ex) (i : Nat) (hi : i < es.length), RTxtC es[i]
  | e :: es, 0, _ => rtext_c e
  | e :: es, i + 1, hi => rtexts_all es i (by simpa using hi)
end
end Go.Proofs.YtebmaclopkocgaaGreatDoor
