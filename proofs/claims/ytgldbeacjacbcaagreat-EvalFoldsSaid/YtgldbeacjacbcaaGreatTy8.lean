import Derived.Test.YtgldbeacjacbcaaGreatTy7
set_option linter.unusedSimpArgs false
set_option linter.unusedVariables false
namespace Go.Proofs.YtgldbeacjacbcaaGreat
open Go.RowKit

theorem con_val {k v : Int} (h : conB k v = true) : valB v = true := by
  obtain ⟨h1, h2, _⟩ := con_bd h
  exact val_mk (by omega)
theorem con_bit {v : Int} (h : conB 1 v = true) : bitB v = true := by
  obtain ⟨_, _, h3, _⟩ := con_bd h
  rcases h3 rfl with rfl | rfl <;> rfl
theorem res_un {op k v : Int} (ho : op = 6 ∨ op = 7) (hk : kindOk op k = true) (hc : conB k v = true) : ResC op [v] (unR op v) 0 := by
  intro w g c hcell
  rcases ho with rfl | rfl
  · simp [kindOk] at hk; subst hk
    have := result_1 6 v (1 - v) 0 g c w (hcell 0 (by simp)) (fun w => un_6 v w (con_bit hc))
    simpa [unR] using this
  · have := result_1 7 v (wrap32 (-v)) 0 g c w (hcell 0 (by simp)) (fun w => un_7 v w (con_val hc))
    simpa [unR] using this
theorem res_bi {op k v x : Int} (h8 : 8 ≤ op) (h21 : op ≤ 21) (hk : kindOk op k = true) (hc : conB k v = true) (hx : conB k x = true) :
    ∃ n f, ResC op [v, x] n f ∧ biR op v x = (n, f) ∧ (f = 0 ∨ f = 1) := by
  have hv := con_val hc
  have hxv := con_val hx
  rcases (show op = 8 ∨ op = 9 ∨ op = 10 ∨ op = 11 ∨ op = 12 ∨ op = 13 ∨ op = 14 ∨ op = 15 ∨ op = 16 ∨ op = 17 ∨ op = 18 ∨ op = 19 ∨ op = 20 ∨ op = 21 by omega) with rfl | rfl | rfl | rfl | rfl | rfl | rfl | rfl | rfl | rfl | rfl | rfl | rfl | rfl
  · simp [kindOk] at hk; subst hk
    exact ⟨_, 0, fun w g c hcell => result_2 8 v x _ 0 0 g c w (hcell 0 (by simp)) (hcell 1 (by simp)) (fun w => bin_8 v x w (con_bit hc) (con_bit hx)), by simp [biR], .inl rfl⟩
  · simp [kindOk] at hk; subst hk
    exact ⟨_, 0, fun w g c hcell => result_2 9 v x _ 0 0 g c w (hcell 0 (by simp)) (hcell 1 (by simp)) (fun w => bin_9 v x w (con_bit hc) (con_bit hx)), by simp [biR], .inl rfl⟩
  · simp [kindOk] at hk; subst hk
    exact ⟨_, 0, fun w g c hcell => result_2 10 v x _ 0 0 g c w (hcell 0 (by simp)) (hcell 1 (by simp)) (fun w => bin_10 v x w (con_bit hc) (con_bit hx)), by simp [biR], .inl rfl⟩
  · exact ⟨_, 0, fun w g c hcell => result_2 11 v x _ 0 0 g c w (hcell 0 (by simp)) (hcell 1 (by simp)) (fun w => bin_11 v x w hv hxv), by simp [biR], .inl rfl⟩
  · exact ⟨_, 0, fun w g c hcell => result_2 12 v x _ 0 0 g c w (hcell 0 (by simp)) (hcell 1 (by simp)) (fun w => bin_12 v x w hv hxv), by simp [biR], .inl rfl⟩
  · exact ⟨_, 0, fun w g c hcell => result_2 13 v x _ 0 0 g c w (hcell 0 (by simp)) (hcell 1 (by simp)) (fun w => bin_13 v x w hv hxv), by simp [biR], .inl rfl⟩
  · exact ⟨_, 0, fun w g c hcell => result_2 14 v x _ 0 0 g c w (hcell 0 (by simp)) (hcell 1 (by simp)) (fun w => bin_14 v x w hv hxv), by simp [biR], .inl rfl⟩
  · exact ⟨_, 0, fun w g c hcell => result_2 15 v x _ 0 0 g c w (hcell 0 (by simp)) (hcell 1 (by simp)) (fun w => bin_15 v x w hv hxv), by simp [biR], .inl rfl⟩
  · exact ⟨_, 0, fun w g c hcell => result_2 16 v x _ 0 0 g c w (hcell 0 (by simp)) (hcell 1 (by simp)) (fun w => bin_16 v x w hv hxv), by simp [biR], .inl rfl⟩
  · exact ⟨_, 0, fun w g c hcell => result_2 17 v x _ 0 0 g c w (hcell 0 (by simp)) (hcell 1 (by simp)) (fun w => bin_17 v x w hv hxv), by simp [biR], .inl rfl⟩
  · exact ⟨_, 0, fun w g c hcell => result_2 18 v x _ 0 0 g c w (hcell 0 (by simp)) (hcell 1 (by simp)) (fun w => bin_18 v x w hv hxv), by simp [biR], .inl rfl⟩
  · exact ⟨_, 0, fun w g c hcell => result_2 19 v x _ 0 0 g c w (hcell 0 (by simp)) (hcell 1 (by simp)) (fun w => bin_19 v x w hv hxv), by simp [biR], .inl rfl⟩
  · by_cases hz : x = 0
    · subst hz
      exact ⟨0, 1, fun w g c hcell => result_2 20 v 0 0 1 0 g c w (hcell 0 (by simp)) (hcell 1 (by simp)) (fun w => bin_20_0 v w hv), by simp [biR], .inr rfl⟩
    · exact ⟨_, 0, fun w g c hcell => result_2 20 v x _ 0 0 g c w (hcell 0 (by simp)) (hcell 1 (by simp)) (fun w => bin_20 v x w hv hxv hz), by simp [biR, hz], .inl rfl⟩
  · by_cases hz : x = 0
    · subst hz
      exact ⟨0, 1, fun w g c hcell => result_2 21 v 0 0 1 0 g c w (hcell 0 (by simp)) (hcell 1 (by simp)) (fun w => bin_21_0 v w hv), by simp [biR], .inr rfl⟩
    · exact ⟨_, 0, fun w g c hcell => result_2 21 v x _ 0 0 g c w (hcell 0 (by simp)) (hcell 1 (by simp)) (fun w => bin_21 v x w hv hxv hz), by simp [biR, hz], .inl rfl⟩

/-- computed, of operands that are folded. -/
theorem comp_c (op kind n : Int) (s f : ByteArray) (l : List Ex) (v : Value) (w : World) (h6 : 6 ≤ op) (h21 : op ≤ 21) (hs : (op = 6 ∨ op = 7) ∧ l.length = 1 ∨ 8 ≤ op ∧ l.length = 2) (hl : wellL l = true) (hv : exsSl w v l) :
    Calls Tryz.prog 30 #[.agg #[.int .i64 op, .int .i64 kind, .int .i64 n, .string s, .string f, v]] w (CompRes op l w) := by
  have h2 : l.length ≤ 2 := by omega
  have hp : 0 < l.length := by omega
  cases ha : allC l
  · refine (comp_loop op kind n s f l v w (by omega) hv h2 ha).mono fun r w' h => .inl ⟨_, _, _, h.1, ?_, h.2⟩
    match l, ha, hp, h2 with
    | [a], ha, _, _ => simp [allC] at ha; rw [conE, if_neg (fun h => ha h.1)]
    | [a, b], ha, _, _ =>
      simp [allC] at ha
      rw [conE, if_neg (fun h => ha h.1 h.2.1)]
  · match l, ha, hs, hl, hv, hp, h2 with
    | [a], ha, hs, hl, hv, _, _ =>
      have h1 : a.op = 1 := by simpa [allC] using ha
      have hw := wellL_in hl (a := a) (by simp)
      rw [well_eq, Bool.and_eq_true] at hw
      have hc := (shp_con hw.1 h1).1
      obtain ⟨kd, hkd, hkr⟩ := kinds_1 op (by simp at hs; omega) a.kind
      cases hk : kindOk op a.kind
      · rw [hk] at hkd
        exact (comp_no op kind n kd s f [a] v w (by omega) hv (by simp) (by simp) ha hkd).mono fun r w' h => .inl ⟨_, _, _, h.1, by rw [conE, if_neg (fun h => by rw [hk] at h; exact absurd h.2.1 (by decide))], h.2⟩
      · rw [hk] at hkd
        have hR := res_un (by simp at hs; omega) hk hc
        by_cases h0 : 0 ≤ unR op a.num
        · refine (comp_yes op kind n kd (unR op a.num) s f [a] v w (by omega) hv (by simp) (by simp) ha hkd hR h0).mono fun r w' h => .inr ⟨kd, _, h.1, ?_, h.2⟩
          rw [conE, if_pos ⟨h1, hk, h0⟩, hkr hk]
        · exact (comp_neg op kind n kd (unR op a.num) s f [a] v w (by omega) hv (by simp) (by simp) ha hkd hR h0).mono fun r w' h => .inl ⟨_, _, _, h.1, by rw [conE, if_neg (fun h => h0 h.2.2)], h.2⟩
    | [a, b], ha, hs, hl, hv, _, _ =>
      have h1 : a.op = 1 ∧ b.op = 1 := by simpa [allC] using ha
      have hwa := wellL_in hl (a := a) (by simp)
      have hwb := wellL_in hl (a := b) (by simp)
      rw [well_eq, Bool.and_eq_true] at hwa hwb
      have hca := (shp_con hwa.1 h1.1).1
      have hcb := (shp_con hwb.1 h1.2).1
      obtain ⟨kd, hkd, hkr⟩ := kinds_2 op (by simp at hs; omega) h21 a.kind b.kind
      cases hk : (kindOk op a.kind && b.kind == a.kind)
      · rw [hk] at hkd
        refine (comp_no op kind n kd s f [a, b] v w (by omega) hv (by simp) (by simp) ha hkd).mono fun r w' h => .inl ⟨_, _, _, h.1, ?_, h.2⟩
        rw [conE, if_neg (fun h => by simp [h.2.2.1, h.2.2.2.1] at hk)]
      · rw [hk] at hkd
        simp at hk
        rw [hk.2] at hcb
        obtain ⟨m, fl, hR, hb, hfl⟩ := res_bi (by simp at hs; omega) h21 hk.1 hca hcb
        rcases hfl with rfl | rfl
        · by_cases h0 : 0 ≤ m
          · refine (comp_yes op kind n kd m s f [a, b] v w (by omega) hv (by simp) (by simp) ha hkd hR h0).mono fun r w' h => .inr ⟨kd, _, h.1, ?_, h.2⟩
            rw [conE, if_pos ⟨h1.1, h1.2, hk.2, hk.1, by rw [hb], by rw [hb]; exact h0⟩, hkr (by simp [hk.1, hk.2]), hb]
          · exact (comp_neg op kind n kd m s f [a, b] v w (by omega) hv (by simp) (by simp) ha hkd hR h0).mono fun r w' h => .inl ⟨_, _, _, h.1, by rw [conE, if_neg (fun h => h0 (by have := h.2.2.2.2.2; rwa [hb] at this))], h.2⟩
        · exact (comp_flt op kind n kd m s f [a, b] v w (by omega) hv (by simp) (by simp) ha hkd hR).mono fun r w' h => .inl ⟨_, _, _, h.1, by rw [conE, if_neg (fun h => by have := h.2.2.2.2.1; rw [hb] at this; simp at this)], h.2⟩
end Go.Proofs.YtgldbeacjacbcaaGreat
