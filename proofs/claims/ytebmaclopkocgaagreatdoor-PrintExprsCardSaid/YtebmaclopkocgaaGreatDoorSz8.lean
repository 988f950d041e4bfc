import Derived.Test.YtebmaclopkocgaaGreatDoorSz7
set_option linter.unusedSimpArgs false
set_option linter.unusedVariables false
namespace Go.Proofs.YtebmaclopkocgaaGreatDoor
open Go.RowKit

theorem kp_old {g : Nat} {w0 a w : World} (h : Kp [g] a w) (k : Kp [] w0 a) (hg : w0.heap.size ≤ g) : Kp [] w0 w :=
  k.trans' h (fun i hi hl => by simp at hi; omega)

set_option maxRecDepth 100000 in
set_option maxHeartbeats 2000000 in
theorem szList_c (es : List Ex) (IH : ∀ i (hi : i < es.length), SzC es[i]) : SzLC es := by
  intro w0 w g n dp d v hv hk0 hg hM hn0 hn5 hd0 hd1 hfit
  obtain ⟨q, cap, rfl⟩ := hv.val
  obtain ⟨_, hnc, hcap⟩ := hv.len
  obtain ⟨len, hlen⟩ : ∃ len, es.length = len := ⟨_, rfl⟩
  have hM0 := Lib.hid hM
  rw [hlen] at hnc hv ⊢
  replace hv := Lib.hid hv
  replace hlen := Lib.hid hlen
  replace hfit := Lib.hid hfit
  replace IH := Lib.hid IH
  replace hk0 := Lib.hid hk0
  clear hM
  go_enter Tryz.func35, Tryz.ntmps35
  go_wp2
  go_loopw [6] (fun i wr => ∃ (k : Nat) (m dp : Int) (b : Bool), k ≤ len ∧ i = .int .i64 k ∧ Hid (Sz wr g m dp (!b)) ∧ Hid (Kp [g] w wr) ∧ Hid (b = true → 0 ≤ m ∧ m ≤ 500 ∧ okL es d n = okL (es.drop k) d m ∧ m + cntL (es.drop k) = n + cntL es) ∧ Hid (b = false → okL es d n = false)) (fun i _ => len - (intOf i).toNat)
  case atStart => exact ⟨0, n, dp, true, Nat.zero_le _, rfl, hM0, Kp.refl _ _, fun _ => ⟨hn0, hn5, rfl, rfl⟩, fun h => by cases h⟩
  case round =>
    obtain ⟨k, m, dp2, b, hk, rfl, hM, hG, hE, hF⟩ := hrel
    have z2 := Blk.cell hM.out 2 (v := .bool (!b)) rfl
    cases b
    · have hL : Hid (okL es d n = false) := hF.out rfl
      have hM2 : Hid (Sz wr g m dp2 true) := hM.out
      replace z2 : wr.cell? ⟨g, 2, none⟩ = some (.bool true) := z2
      by_cases hlt : k < len
      · go_wp2_with fail
        go_end0
        exact ⟨rfl, hG.out, m, dp2, by rw [hL.out]; exact hM2.out, fun h => by rw [hL.out] at h; cases h⟩
      · go_wp2_with fail
        go_end0
        exact ⟨rfl, hG.out, m, dp2, by rw [hL.out]; exact hM2.out, fun h => by rw [hL.out] at h; cases h⟩
    · have hM2 : Hid (Sz wr g m dp2 false) := hM.out
      replace z2 : wr.cell? ⟨g, 2, none⟩ = some (.bool false) := z2
      obtain ⟨hm0, hm5, hE1, hC1⟩ := hE.out rfl
      clear hE
      have hE := Lib.hid hE1
      have hC := Lib.hid hC1
      clear hE1 hC1
      by_cases hlt : k < len
      · have hlt2 : k < es.length := by rw [hlen.out]; exact hlt
        have hold := Lib.hid (kp_old hG.out hk0.out hg)
        obtain ⟨b, off, u, rfl, hu, c0, c1, c2, c3, c4, c5⟩ := hv.out.at_in hold.out k hlt2
        have hcall := Lib.hid (IH.out k hlt2)
        have hst := Lib.hid (okL_step hlt2 d m)
        have hct := Lib.hid (cnt_step hlt2)
        have hft := Lib.hid (fitsL_get hfit.out k hlt2)
        obtain ⟨e, he⟩ : ∃ e, es[k] = e := ⟨_, rfl⟩
        rw [he] at c0 c1 c2 c3 c4 hcall hst hct hft hu
        clear he
        obtain ⟨qu, cu, rfl⟩ := hu.val
        replace hu := Lib.hid hu
        obtain ⟨lu, hlu⟩ : ∃ lu, e.args.length = lu := ⟨_, rfl⟩
        rw [hlu] at hu c5
        clear hlu
        have hcall2 := Lib.hid (hcall.out w0 wr g m dp2 d _ hu.out hold.out hg hM2.out hm0 hm5 hd0 hd1 hft.out)
        unfold exVal at hcall2
        clear hcall hM
        go_wp2_with fail
        refine hcall2.out.mono ?_
        rintro r w2 ⟨rfl, hG2, n2, d2, hS2, hok⟩
        have hG3 := Lib.hid (hG.out.trans hG2)
        clear hG2 hcall2
        cases ho : okE e d m
        · have hL : Hid (okL es d n = false) := by show _ = _; rw [hE.out, hst.out, ho]; rfl
          rw [ho] at hS2
          replace hS2 : Hid (Sz w2 g n2 d2 (!false)) := hS2
          clear hok
          go_wp2_with fail
          go_roundw
          case rel => exact ⟨k + 1, n2, d2, false, by omega, by go_num, hS2, hG3, fun h => (by cases h), fun _ => hL.out⟩
          case measure => simp [intOf]; omega
        · have hn2 := hok ho
          subst hn2
          have hbd := okE_bd ho
          have hL : okL es d n = okL (es.drop (k + 1)) d (m + e.cnt) := by rw [hE.out, hst.out, ho]; rfl
          have hC2 : m + e.cnt + cntL (es.drop (k + 1)) = n + cntL es := by have := hC.out; rw [hct.out] at this; omega
          have hcp : (0 : Int) ≤ e.cnt := by omega
          replace hL := Lib.hid hL
          replace hC2 := Lib.hid hC2
          rw [ho] at hS2
          replace hS2 : Hid (Sz w2 g (m + e.cnt) d2 (!true)) := hS2
          clear hok
          go_wp2_with fail
          go_roundw
          case rel => exact ⟨k + 1, _, d2, true, by omega, by go_num, hS2, hG3, fun _ => ⟨by omega, hbd, hL.out, hC2.out⟩, fun h => by cases h⟩
          case measure => simp [intOf]; omega
      · have hdr : Hid (es.drop k = []) := by show _ = _; exact List.drop_of_length_le (by rw [hlen.out]; omega)
        have hL : Hid (okL es d n = true) := by show _ = _; rw [hE.out, hdr.out]; simp [okL, wellL, cntL, hgtL]; omega
        have hC2 : Hid (m = n + cntL es) := by show _ = _; have := hC.out; rw [hdr.out, cntL] at this; simpa using this
        go_wp2_with fail
        go_end0
        exact ⟨rfl, hG.out, m, dp2, by rw [hL.out]; exact hM2.out, fun _ => hC2.out⟩

theorem szres_to {g : Nat} {w : World} {r : Ending} {w' : World} {a b : Bool} {n m : Int} (h : SzRes g a n w r w') (e : b = a) (hn : m = n) : SzRes g b m w r w' := by subst e; subst hn; exact h
theorem con_no {kind n : Int} (h : n < 0 ∨ 2147483647 < n ∨ (kind = 1 ∧ 1 < n) ∨ (¬ kind = 1 ∧ ¬ kind = 2 ∧ ¬ kind = 3)) : conB kind n = false := by
  unfold conB
  rw [Bool.eq_false_iff]
  intro hc
  simp only [Bool.or_eq_true, Bool.and_eq_true, beq_iff_eq, decide_eq_true_eq] at hc
  omega
theorem con_yes {kind n : Int} (h : (kind = 1 ∧ (n = 0 ∨ n = 1)) ∨ ((kind = 2 ∨ kind = 3) ∧ 0 ≤ n ∧ n ≤ 2147483647)) : conB kind n = true := by
  unfold conB
  simp only [Bool.or_eq_true, Bool.and_eq_true, beq_iff_eq, decide_eq_true_eq]
  omega
theorem okS_eq {op kind m : Int} {s f : ByteArray} {args : List Ex} (h : okS (.mk op kind m s f args)) : s.size ≤ 140737488355328 ∧ f.size ≤ 140737488355328 := h

set_option maxHeartbeats 1000000 in
theorem sz_step (e : Ex) (IH : SzLC e.args) : SzC e := by
  intro w0 w g n dp d v hv hk0 hg hS hn0 hn5 hd0 hd1 hfit
  obtain ⟨q, cap, rfl⟩ := hv.val
  have hfe := (fits_eq e).1 hfit
  have hE := okE_eq e d n
  have hcnt : n + (e.cnt : Int) = n + 1 + cntL e.args := by rw [cnt_eq]; omega
  have hexp : Hid (∀ w2 dp2, Kp [g] w w2 → Sz w2 g (n + 1) dp2 false → n + 1 ≤ 500 → d ≤ 14 → Calls Tryz.prog 35 #[.pointer (some ⟨g, 0, none⟩), .slice q e.args.length cap, .int .i64 (d + 1)] w2 (SzRes g (okL e.args (d + 1) (n + 1)) (n + 1 + cntL e.args) w2)) :=
    fun w2 dp2 k hS2 h1 h2 => IH w0 w2 g (n + 1) dp2 (d + 1) _ hv (kp_old k hk0 hg) hg hS2 (by omega) h1 (by omega) (by omega) hfe.2
  have hwr : Hid (∀ w2 n2 dp2, Sz w2 g n2 dp2 true → Calls Tryz.prog 35 #[.pointer (some ⟨g, 0, none⟩), .slice q e.args.length cap, .int .i64 (d + 1)] w2 (fun r w' => r = .returned (.tuple #[]) ∧ w' = w2)) :=
    fun w2 n2 dp2 h => exprsWrong_c g n2 dp2 (d + 1) q _ cap w2 h
  cases e with
  | mk op kind m s f args =>
    obtain ⟨hs, hf⟩ := okS_eq hfe.1
    have go : ∀ {a : Bool} {r : Ending} {w' : World}, SzRes g a (n + 1 + cntL args) w r w' → a = (decide (n + 1 ≤ 500) && decide (d ≤ 14) && shpB (.mk op kind m s f args) && okL args (d + 1) (n + 1)) → SzRes g (okE (.mk op kind m s f args) d n) (n + (Ex.mk op kind m s f args).cnt) w r w' :=
      fun h e => szres_to h (hE.trans e.symm) hcnt
    show Calls Tryz.prog 16 #[.pointer (some ⟨g, 0, none⟩), .agg #[.int .i64 op, .int .i64 kind, .int .i64 m, .string s, .string f, .slice q args.length cap], .int .i64 d] w _
    rcases (show op < 1 ∨ op = 1 ∨ op = 2 ∨ op = 3 ∨ op = 4 ∨ op = 5 ∨ op = 6 ∨ op = 7 ∨ (8 ≤ op ∧ op ≤ 21) ∨ 21 < op by omega) with h | rfl | rfl | rfl | rfl | rfl | rfl | rfl | ⟨h8, h21⟩ | h
    · exact (sz_lo op kind m h s f q _ cap g n dp d w hs hf hS hn0 hn5 hd0 hd1 _ _ hexp hwr).mono fun r w' hr => go hr (by rw [shp_none op kind m (.inl h)]; try rfl)
    · by_cases h0 : m < 0
      · exact (sz_1_a kind m h0 s f q _ cap g n dp d w hs hf hS hn0 hn5 hd0 hd1 _ _ hexp hwr).mono fun r w' hr => go hr (by rw [shp_1 kind m s f args _ (con_no (.inl h0))]; try rfl)
      by_cases h1 : 2147483647 < m
      · exact (sz_1_b kind m (by omega) h1 s f q _ cap g n dp d w hs hf hS hn0 hn5 hd0 hd1 _ _ hexp hwr).mono fun r w' hr => go hr (by rw [shp_1 kind m s f args _ (con_no (.inr (.inl h1)))]; try rfl)
      by_cases h2 : kind = 2
      · subst h2
        exact (sz_1_c m (by omega) (by omega) s f q _ cap g n dp d w hs hf hS hn0 hn5 hd0 hd1 _ _ hexp hwr).mono fun r w' hr => go hr (by rw [shp_1 2 m s f args _ (con_yes (by omega))]; try rfl)
      by_cases h3 : kind = 3
      · subst h3
        exact (sz_1_d m (by omega) (by omega) s f q _ cap g n dp d w hs hf hS hn0 hn5 hd0 hd1 _ _ hexp hwr).mono fun r w' hr => go hr (by rw [shp_1 3 m s f args _ (con_yes (by omega))]; try rfl)
      by_cases h4 : kind = 1
      · subst h4
        by_cases h5 : m ≤ 1
        · exact (sz_1_e m (by omega) h5 s f q _ cap g n dp d w hs hf hS hn0 hn5 hd0 hd1 _ _ hexp hwr).mono fun r w' hr => go hr (by rw [shp_1 1 m s f args _ (con_yes (by omega))]; try rfl)
        · exact (sz_1_f m (by omega) (by omega) (by omega) s f q _ cap g n dp d w hs hf hS hn0 hn5 hd0 hd1 _ _ hexp hwr).mono fun r w' hr => go hr (by rw [shp_1 1 m s f args _ (con_no (by omega))]; try rfl)
      · exact (sz_1_g kind m h4 h2 h3 (by omega) (by omega) s f q _ cap g n dp d w hs hf hS hn0 hn5 hd0 hd1 _ _ hexp hwr).mono fun r w' hr => go hr (by rw [shp_1 kind m s f args _ (con_no (by omega))]; try rfl)
    · exact (sz_2 kind m s f q _ cap g n dp d w hs hf hS hn0 hn5 hd0 hd1 _ _ hexp hwr).mono fun r w' hr => go hr (by rw [shp_2]; try rfl)
    · exact (sz_3 kind m s f q _ cap g n dp d w hs hf hS hn0 hn5 hd0 hd1 _ _ hexp hwr).mono fun r w' hr => go hr (by rw [shp_3]; try rfl)
    · exact (sz_4 kind m s f q _ cap g n dp d w hs hf hS hn0 hn5 hd0 hd1 _ _ hexp hwr).mono fun r w' hr => go hr (by rw [shp_4]; try rfl)
    · exact (sz_5 kind m s f q _ cap g n dp d w hs hf hS hn0 hn5 hd0 hd1 _ _ hexp hwr).mono fun r w' hr => go hr (by rw [shp_5]; try rfl)
    · exact (sz_6 kind m s f q _ cap g n dp d w hs hf hS hn0 hn5 hd0 hd1 _ _ hexp hwr).mono fun r w' hr => go hr (by rw [shp_6]; try rfl)
    · exact (sz_7 kind m s f q _ cap g n dp d w hs hf hS hn0 hn5 hd0 hd1 _ _ hexp hwr).mono fun r w' hr => go hr (by rw [shp_7]; try rfl)
    · exact (sz_two op kind m h8 h21 s f q _ cap g n dp d w hs hf hS hn0 hn5 hd0 hd1 _ _ hexp hwr).mono fun r w' hr => go hr (by rw [shp_two op kind m h8 h21]; try rfl)
    · exact (sz_hi op kind m h s f q _ cap g n dp d w hs hf hS hn0 hn5 hd0 hd1 _ _ hexp hwr).mono fun r w' hr => go hr (by rw [shp_none op kind m (.inr h)]; try rfl)
mutual
theorem szE_c : ∀ e : Ex, SzC e
  | .mk op kind n s f args => sz_step _ (szList_c args (szs_all args))
theorem szs_all : ∀ (es : List Ex) (i : Nat) (hi : i < es.length), SzC es[i]
  | e :: es, 0, _ => szE_c e
  | e :: es, i + 1, hi => szs_all es i (by simpa using hi)
end

set_option maxRecDepth 100000 in
theorem rwell_c (e : Ex) (v : Value) (w : World) (hv : exsSl w v e.args) (hf : e.fits) :
    Calls Tryz.prog 8 #[exVal e v] w fun r w' => r = .returned (.bool (wellB e)) ∧ Kp [] w w' := by
  obtain ⟨q, cap, rfl⟩ := hv.val
  have hK : Kp [] w ((w.alloc (.cells #[.int .i64 e.op, .int .i64 e.kind, .int .i64 e.num, .string e.s, .string e.field, .slice q e.args.length cap] 24)).alloc (.cells #[.int .i64 0, .int .i64 0, .bool false] 49)) := ((Kp.refl [] w).alloc _).alloc _
  have hc := szE_c e w _ (w.heap.size + 1) 0 0 1 _ hv hK (by omega) (blk_new (by simp) _ _) (by omega) (by omega) (by omega) (by omega) hf
  obtain ⟨len, hlen⟩ : ∃ len, e.args.length = len := ⟨_, rfl⟩
  unfold exVal at hc ⊢
  rw [hlen] at hc hK ⊢
  replace hc := Lib.hid hc
  replace hK := Lib.hid hK
  clear hv hf hlen
  go_enter Tryz.func8, Tryz.ntmps8
  go_wp2_with fail
  refine hc.out.mono ?_
  rintro r w2 ⟨rfl, hk2, n2, d2, hS2, _⟩
  have z2 := Blk.cell hS2 2 (v := .bool (!okE e 1 0)) rfl
  have hK3 := Lib.hid (kp_old hk2 hK.out (by omega))
  have hW : Hid (wellB e = okE e 1 0) := rfl
  clear hk2 hS2
  cases ho : okE e 1 0
  all_goals
    rw [ho] at z2
    first | replace z2 : w2.cell? ⟨w.heap.size + 1, 2, none⟩ = some (.bool true) := z2 | replace z2 : w2.cell? ⟨w.heap.size + 1, 2, none⟩ = some (.bool false) := z2
    go_wp2_with fail
    go_ret
    exact ⟨ret_bool (by rw [hW.out, ho]), hK3.out⟩
end Go.Proofs.YtebmaclopkocgaaGreatDoor
