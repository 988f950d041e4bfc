import Derived.Test.YtgldbeacjacbcaaGreatTx7
import Derived.Test.YtgldbeacjacbcaaGreatTx2
set_option linter.unusedSimpArgs false
set_option linter.unusedVariables false
namespace Go.Proofs.YtgldbeacjacbcaaGreat
open Go.RowKit

theorem fold_cst (k n : Int) : foldE (cst k n) = cst k n := by
  unfold cst
  rw [foldE, foldL]
  unfold stepE
  simp [decE, Ex.op, Ex.args]
mutual
theorem foldE_idem : ∀ e : Ex, foldE (foldE e) = foldE e
  | .mk op kind n s f args => by
    have hL := foldL_idem args
    have hm := foldL_mem args
    rw [foldE]
    rcases stepE_cases (.mk op kind n s f (foldL args)) with ⟨a, ha, h, _⟩ | ⟨_, k, m, h, _⟩ | h
    · rw [h]; exact hm a ha
    · rw [h]; exact fold_cst k m
    · rw [h, foldE, hL, h]
theorem foldL_idem : ∀ es : List Ex, foldL (foldL es) = foldL es
  | [] => by rw [foldL, foldL]
  | e :: es => by rw [foldL, foldL, foldE_idem e, foldL_idem es]
theorem foldL_mem : ∀ es : List Ex, ∀ a ∈ foldL es, foldE a = a
  | [], a, h => by rw [foldL] at h; cases h
  | e :: es, a, h => by
    rw [foldL] at h
    rcases List.mem_cons.1 h with rfl | h
    · exact foldE_idem e
    · exact foldL_mem es a h
end

theorem cnt_in {es : List Ex} {a : Ex} (h : a ∈ es) : a.cnt ≤ cntL es ∧ a.hgt ≤ hgtL es := by
  induction es with
  | nil => cases h
  | cons e es ih =>
    rw [cntL, hgtL]
    rcases List.mem_cons.1 h with rfl | h
    · omega
    · have := ih h; omega
theorem wellL_in {es : List Ex} {a : Ex} (hw : wellL es = true) (h : a ∈ es) : a.well = true := by
  induction es with
  | nil => cases h
  | cons e es ih =>
    rw [wellL, Bool.and_eq_true] at hw
    rcases List.mem_cons.1 h with rfl | h
    · exact hw.1
    · exact ih hw.2 h
theorem cst_cnt (k n : Int) : (cst k n).cnt = 1 ∧ (cst k n).hgt = 1 := by unfold cst; rw [Ex.cnt, Ex.hgt, cntL, hgtL]; exact ⟨rfl, rfl⟩
mutual
theorem foldE_cnt : ∀ e : Ex, (foldE e).cnt ≤ e.cnt ∧ (foldE e).hgt ≤ e.hgt
  | .mk op kind n s f args => by
    have hL := foldL_cnt args
    rw [foldE, Ex.cnt, Ex.hgt]
    rcases stepE_cases (.mk op kind n s f (foldL args)) with ⟨a, ha, h, _⟩ | ⟨_, k, m, h, _⟩ | h
    · rw [h]; have := cnt_in ha; simp only [Ex.args] at this; omega
    · rw [h]; have := cst_cnt k m; omega
    · rw [h, Ex.cnt, Ex.hgt]; omega
theorem foldL_cnt : ∀ es : List Ex, cntL (foldL es) ≤ cntL es ∧ hgtL (foldL es) ≤ hgtL es
  | [] => by rw [foldL]; exact ⟨Nat.le_refl _, Nat.le_refl _⟩
  | e :: es => by
    have h1 := foldE_cnt e
    have h2 := foldL_cnt es
    rw [foldL, cntL, hgtL, cntL, hgtL]; omega
end

theorem shp_len (op kind n : Int) (s f : ByteArray) {a b : List Ex} (h : a.length = b.length) : shpB (.mk op kind n s f a) = shpB (.mk op kind n s f b) := by
  unfold shpB; simp only [Ex.op, Ex.kind, Ex.num, Ex.s, Ex.field, Ex.args, h]; rfl
theorem con_bd {k n : Int} (h : conB k n = true) : 0 ≤ n ∧ n ≤ 2147483647 ∧ (k = 1 → n = 0 ∨ n = 1) ∧ (k = 1 ∨ k = 2 ∨ k = 3) := by
  simp [conB] at h
  omega
theorem con_mk {k n : Int} (hk : k = 1 ∨ k = 2 ∨ k = 3) (h0 : 0 ≤ n) (h1 : n ≤ 2147483647) (hb : k = 1 → n = 0 ∨ n = 1) : conB k n = true := by
  simp [conB]
  omega
theorem shp_con {a : Ex} (h : shpB a = true) (h1 : a.op = 1) : conB a.kind a.num = true ∧ a.args = [] := by
  unfold shpB at h
  rw [if_pos h1] at h
  simp at h
  exact ⟨h.1.1.1, h.2⟩
theorem cst_shp {k n : Int} (h : conB k n = true) : (cst k n).well = true := by
  unfold cst
  rw [Ex.well, wellL]
  simp [shpB, Ex.op, Ex.kind, Ex.num, Ex.s, Ex.field, Ex.args, h, emB]
theorem oneOf_bit (b : Bool) : oneOf b = 0 ∨ oneOf b = 1 := by cases b <;> simp [oneOf]
theorem un_con {op k v : Int} (ho : op = 6 ∨ op = 7) (hk : kindOk op k = true) (hc : conB k v = true) (h0 : 0 ≤ unR op v) : conB (kindRes op k) (unR op v) = true := by
  obtain ⟨c1, c2, c3, c4⟩ := con_bd hc
  have hw := wrap32_bd (-v)
  rcases ho with rfl | rfl
  · simp [kindOk] at hk
    subst hk
    have := c3 rfl
    refine con_mk (by simp [kindRes]) h0 ?_ ?_ <;> simp [unR] <;> omega
  · simp [kindOk] at hk
    subst hk
    refine con_mk (by simp [kindRes]) h0 ?_ ?_ <;> simp [unR, kindRes] <;> omega
theorem bi_con {op k v x : Int} (h8 : 8 ≤ op) (h21 : op ≤ 21) (hk : kindOk op k = true) (hc : conB k v = true) (hx : conB k x = true) (hf : (biR op v x).2 = 0) (h0 : 0 ≤ (biR op v x).1) : conB (kindRes op k) (biR op v x).1 = true := by
  obtain ⟨c1, c2, c3, c4⟩ := con_bd hc
  obtain ⟨d1, d2, d3, d4⟩ := con_bd hx
  rcases (show op = 8 ∨ op = 9 ∨ op = 10 ∨ op = 11 ∨ op = 12 ∨ op = 13 ∨ op = 14 ∨ op = 15 ∨ op = 16 ∨ op = 17 ∨ op = 18 ∨ op = 19 ∨ op = 20 ∨ op = 21 by omega) with rfl | rfl | rfl | rfl | rfl | rfl | rfl | rfl | rfl | rfl | rfl | rfl | rfl | rfl
  · simp [kindOk] at hk
    subst hk
    have e1 := c3 rfl
    have e2 := d3 rfl
    refine con_mk (by simp [kindRes]) h0 ?_ ?_ <;> simp [biR] <;> omega
  · simp [kindOk] at hk
    subst hk
    have e1 := c3 rfl
    have e2 := d3 rfl
    refine con_mk (by simp [kindRes]) h0 ?_ ?_ <;> simp [biR] <;> omega
  · simp [kindOk] at hk
    subst hk
    have e1 := c3 rfl
    have e2 := d3 rfl
    refine con_mk (by simp [kindRes]) h0 ?_ ?_ <;> simp [biR] <;> omega
  · simp only [biR] at h0 ⊢
    simp [kindRes] at h0 ⊢
    refine con_mk (by simp) h0 ?_ (fun _ => oneOf_bit _)
    have := oneOf_bit
    simp only [oneOf]; split <;> omega
  · simp only [biR] at h0 ⊢
    simp [kindRes] at h0 ⊢
    refine con_mk (by simp) h0 ?_ (fun _ => oneOf_bit _)
    have := oneOf_bit
    simp only [oneOf]; split <;> omega
  · simp only [biR] at h0 ⊢
    simp [kindRes] at h0 ⊢
    refine con_mk (by simp) h0 ?_ (fun _ => oneOf_bit _)
    have := oneOf_bit
    simp only [oneOf]; split <;> omega
  · simp only [biR] at h0 ⊢
    simp [kindRes] at h0 ⊢
    refine con_mk (by simp) h0 ?_ (fun _ => oneOf_bit _)
    have := oneOf_bit
    simp only [oneOf]; split <;> omega
  · simp only [biR] at h0 ⊢
    simp [kindRes] at h0 ⊢
    refine con_mk (by simp) h0 ?_ (fun _ => oneOf_bit _)
    have := oneOf_bit
    simp only [oneOf]; split <;> omega
  · simp only [biR] at h0 ⊢
    simp [kindRes] at h0 ⊢
    refine con_mk (by simp) h0 ?_ (fun _ => oneOf_bit _)
    have := oneOf_bit
    simp only [oneOf]; split <;> omega
  · simp [kindOk] at hk
    simp only [biR] at h0 ⊢
    simp [kindRes] at h0 ⊢
    have := wrap32_bd (v + x)
    have := wrap32_bd (v - x)
    exact con_mk (by omega) h0 (by omega) (by omega)
  · simp [kindOk] at hk
    simp only [biR] at h0 ⊢
    simp [kindRes] at h0 ⊢
    have := wrap32_bd (v + x)
    have := wrap32_bd (v - x)
    exact con_mk (by omega) h0 (by omega) (by omega)
  · simp only [biR] at h0 ⊢
    simp [kindRes] at h0 ⊢
    have := wrap32_bd (v * x)
    exact con_mk (by simp) h0 (by omega) (by omega)
  · by_cases hz : x = 0
    · subst hz; simp [biR] at hf
    simp [biR, hz] at h0 ⊢
    simp [kindRes]
    have := wrap32_bd (v.tdiv x)
    exact con_mk (by simp) h0 (by omega) (by omega)
  · by_cases hz : x = 0
    · subst hz; simp [biR] at hf
    simp [biR, hz] at h0 ⊢
    simp [kindRes]
    have := wrap32_bd (v.tmod x)
    exact con_mk (by simp) h0 (by omega) (by omega)
/-- The operands of an operator that wants some: one or two. -/
theorem shp_argsE {e : Ex} (h : shpB e = true) (h6 : 6 ≤ e.op) :
    e.op ≤ 21 ∧ ((e.op = 6 ∨ e.op = 7) ∧ e.args.length = 1 ∨ 8 ≤ e.op ∧ e.args.length = 2) := by
  unfold shpB at h
  rw [if_neg (by omega)] at h
  split at h
  · cases h
  · rw [if_neg (by omega), if_neg (by omega), if_neg (by omega), if_neg (by omega)] at h
    split at h
    · simp at h; exact ⟨by omega, .inl ⟨by omega, h.2⟩⟩
    · split at h
      · simp at h; exact ⟨by omega, .inr ⟨by omega, h.2⟩⟩
      · cases h
theorem shp_args {op kind n : Int} {s f : ByteArray} {l : List Ex} (h : shpB (.mk op kind n s f l) = true) (h6 : 6 ≤ op) :
    op ≤ 21 ∧ ((op = 6 ∨ op = 7) ∧ l.length = 1 ∨ 8 ≤ op ∧ l.length = 2) := shp_argsE h h6
theorem well_mk (op kind n : Int) (s f : ByteArray) (l : List Ex) : Ex.well (.mk op kind n s f l) = (shpB (.mk op kind n s f l) && wellL l) := by rw [Ex.well]
theorem con_well {op : Int} {l : List Ex} {k n : Int} (hl : wellL l = true) (h6 : 6 ≤ op) (h21 : op ≤ 21) (hs : (op = 6 ∨ op = 7) ∧ l.length = 1 ∨ 8 ≤ op ∧ l.length = 2) (hc : conE op l = some (cst k n)) : conB k n = true := by
  match l, hc with
  | [a], hc =>
    rw [conE] at hc
    split at hc
    · rename_i h
      obtain ⟨h1, h2, h3⟩ := h
      simp [cst] at hc
      obtain ⟨rfl, rfl⟩ := hc
      have ha := wellL_in hl (List.mem_singleton.2 rfl)
      rw [well_eq, Bool.and_eq_true] at ha
      exact un_con (by simp at hs; omega) h2 (shp_con ha.1 h1).1 h3
    · cases hc
  | [a, b], hc =>
    rw [conE] at hc
    split at hc
    · rename_i h
      obtain ⟨h1, h2, h3, h4, h5, h7⟩ := h
      simp [cst] at hc
      obtain ⟨rfl, rfl⟩ := hc
      have ha := wellL_in hl (a := a) (by simp)
      have hb := wellL_in hl (a := b) (by simp)
      rw [well_eq, Bool.and_eq_true] at ha hb
      have hcb := (shp_con hb.1 h2).1
      rw [h3] at hcb
      exact bi_con (by simp at hs; omega) h21 h4 (shp_con ha.1 h1).1 hcb h5 h7
    · cases hc
mutual
theorem foldE_well : ∀ e : Ex, e.well = true → (foldE e).well = true
  | .mk op kind n s f args, h => by
    rw [well_mk, Bool.and_eq_true] at h
    have hL := foldL_well args h.2
    have hs : shpB (.mk op kind n s f (foldL args)) = true := by rw [shp_len op kind n s f (foldL_len args)]; exact h.1
    rw [foldE]
    rcases stepE_cases (.mk op kind n s f (foldL args)) with ⟨a, ha, he, _⟩ | ⟨h6, k, m, he, hc⟩ | he
    · rw [he]; exact wellL_in hL ha
    · rw [he]
      obtain ⟨h21, hlen⟩ := shp_args hs h6
      exact cst_shp (con_well hL h6 h21 hlen hc)
    · rw [he, well_mk, hs, hL]; rfl
theorem foldL_well : ∀ es : List Ex, wellL es = true → wellL (foldL es) = true
  | [], _ => by rw [foldL, wellL]
  | e :: es, h => by
    rw [wellL, Bool.and_eq_true] at h
    rw [foldL, wellL, foldE_well e h.1, foldL_well es h.2]; rfl
end
theorem fold_wellB {e : Ex} (h : wellB e = true) : wellB (foldE e) = true := by
  have hc := foldE_cnt e
  simp only [wellB, okE, Bool.and_eq_true, decide_eq_true_eq] at h ⊢
  exact ⟨⟨foldE_well e h.1.1, by omega⟩, by omega⟩

/-! What weigh makes of small expressions: the number of their nodes. -/
mutual
theorem wg_exact : ∀ (e : Ex) (d : Int), d + hgtL e.args ≤ 60 → cntL e.args ≤ 2000 → e.wg d = cntL e.args
  | .mk op kind n s f args, d, h, hc => by
    rw [Ex.args] at *
    rw [Ex.wg, if_neg (by omega), wgLoop_exact args d args.length (by omega) (by omega) (by have := len_cntL args; omega)]
    omega
theorem wgLoop_exact : ∀ (es : List Ex) (d n : Int), 0 ≤ n → d + hgtL es ≤ 60 → n + cntL es ≤ 2000 + es.length → wgLoop es d n = n + cntL es - es.length
  | [], d, n, _, _, _ => by rw [wgLoop, cntL]; simp
  | e :: es, d, n, h0, h, hc => by
    have h1 : hgtL (e :: es) = max e.hgt (hgtL es) := by rw [hgtL]
    have h2 : cntL (e :: es) = e.cnt + cntL es := by rw [cntL]
    have h3 := hgt_eq e
    have h4 := cnt_eq e
    have h5 := len_cntL es
    rw [List.length_cons] at hc
    rw [wgLoop, if_pos (by omega), wg_exact e (d + 1) (by omega) (by omega), wgLoop_exact es d _ (by omega) (by omega) (by omega), h2, h4, List.length_cons]
    omega
end
theorem wgL_one {e : Ex} (h : wellB e = true) : wgL [e] 0 = e.cnt := by
  simp only [wellB, okE, Bool.and_eq_true, decide_eq_true_eq] at h
  have h1 : hgtL [e] = e.hgt := by rw [hgtL, hgtL]; omega
  have h2 : cntL [e] = e.cnt := by rw [cntL, cntL]; omega
  rw [wgL, if_neg (by omega), wgLoop_exact [e] 0 _ (by simp) (by omega) (by rw [h2]; simp; omega), h2]
  simp; omega
end Go.Proofs.YtgldbeacjacbcaaGreat
