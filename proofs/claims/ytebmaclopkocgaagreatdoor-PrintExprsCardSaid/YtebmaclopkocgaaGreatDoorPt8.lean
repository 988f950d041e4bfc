import Derived.Test.YtebmaclopkocgaaGreatDoorPt7
import Derived.Test.YtebmaclopkocgaaGreatDoorPb1
set_option linter.unusedSimpArgs false
set_option linter.unusedVariables false
namespace Go.Proofs.YtebmaclopkocgaaGreatDoor
open Go.RowKit

theorem jl_step {es : List Ex} {k : Nat} (hk : k < es.length) (first : Bool) : jl first (txtL (es.drop k)) = (if first then es[k].txt else [44, 32] ++ es[k].txt) ++ jl false (txtL (es.drop (k + 1))) := by
  rw [txtL_step hk, jl]
theorem wellL_get : ∀ {es : List Ex} (_ : wellL es = true) (i : Nat) (hi : i < es.length), es[i].well = true
  | e :: es, h, 0, _ => by rw [wellL, Bool.and_eq_true] at h; exact h.1
  | e :: es, h, i + 1, hi => by rw [wellL, Bool.and_eq_true] at h; exact wellL_get h.2 i (by simpa using hi)

set_option maxRecDepth 100000 in
set_option maxHeartbeats 2000000 in
theorem joined_c (es : List Ex) (IH : ∀ i (hi : i < es.length), TxtC es[i]) (w0 w : World) (g : Nat) (v : Value) (hv : exsSl w0 v es) (hk0 : Kp [] w0 w) (hA : Ar g w0) (hw : wellL es = true) (hc : cntL es ≤ 500) :
    Calls Tryz.prog 50 #[v, .string ⟨#[44, 32]⟩, .func (.func 15) #[.agg #[.map (some g)]] #[]] w (StrRes (jl true (txtL es)) w) := by
  obtain ⟨q, cap, rfl⟩ := hv.val
  obtain ⟨_, hnc, hcap⟩ := hv.len
  have hjl := jl_len es hw true
  obtain ⟨J, hJ⟩ : ∃ J, jl true (txtL es) = J := ⟨_, rfl⟩
  rw [hJ] at hjl ⊢
  have hJ2 : J.length ≤ 18000 := by omega
  have hwl := Lib.hid (fun i hi => wellL_get hw i hi)
  have hct := Lib.hid (fun i (hi : i < es.length) => Nat.le_trans (cnt_mem hi) hc)
  obtain ⟨len, hlen⟩ : ∃ len, es.length = len := ⟨_, rfl⟩
  rw [hlen] at hnc hv ⊢
  replace hv := Lib.hid hv
  replace hlen := Lib.hid hlen
  replace IH := Lib.hid IH
  replace hk0 := Lib.hid hk0
  replace hA := Lib.hid hA
  replace hJ := Lib.hid hJ
  have hb0 := Lib.hid (bld_new w)
  clear hjl hw hc
  go_enter Tryz.func50, Tryz.ntmps50
  go_wp2
  go_loopw [12] (fun i wr => ∃ (k : Nat) (acc : List UInt8), k ≤ len ∧ i = .int .i64 k ∧ acc.length ≤ 18000 ∧ Hid (Bld w.heap.size w.heap.size acc wr) ∧ Hid (Kp [] w wr) ∧ Hid (acc ++ jl (decide (k = 0)) (txtL (es.drop k)) = J)) (fun i _ => len - (intOf i).toNat)
  case atStart => exact ⟨0, [], Nat.zero_le _, rfl, by simp, hb0, (Kp.refl [] w).alloc _, hJ.out⟩
  case round =>
    obtain ⟨k, acc, hk, rfl, hac, hB, hK, hE⟩ := hrel
    by_cases hlt : k < len
    · have hlt2 : k < es.length := by rw [hlen.out]; exact hlt
      have hold := Lib.hid (hk0.out.trans hK.out)
      obtain ⟨b, off, u, rfl, hu, c0, c1, c2, c3, c4, c5⟩ := hv.out.at_in hold.out k hlt2
      have hcall := Lib.hid (IH.out k hlt2)
      have hst := Lib.hid (jl_step hlt2 (decide (k = 0)))
      have hwe := Lib.hid (hwl.out k hlt2)
      have hce := Lib.hid (hct.out k hlt2)
      have htl : es[k].txt.length ≤ 18000 := by have h1 := txt_len _ hwe.out; have h2 := hce.out; omega
      obtain ⟨e, he⟩ : ∃ e, es[k] = e := ⟨_, rfl⟩
      rw [he] at c0 c1 c2 c3 c4 hcall hst hwe hce hu htl
      clear he
      obtain ⟨qu, cu, rfl⟩ := hu.val
      have hcall2 := Lib.hid (fun W k => hcall.out w0 W g _ hu k hA.out hwe.out hce.out)
      unfold exVal ops at hcall2
      clear hu hcall
      obtain ⟨lu, hlu⟩ : ∃ lu, e.args.length = lu := ⟨_, rfl⟩
      rw [hlu] at hcall2 c5
      clear hlu
      obtain ⟨t, ht⟩ : ∃ t, e.txt = t := ⟨_, rfl⟩
      rw [ht] at hcall2 hst htl
      clear ht
      have hsz := st_size t
      have hts : (st t).data.toList = t := bs_st t
      have hbw : w.heap.size ≤ wr.heap.size := hK.out.size
      have hne : wr.heap.size ≠ w.heap.size := by have := hB.out.lt; omega
      have hKb : Hid (Kp [] wr (wr.alloc (.cells #[.int .i64 e.op, .int .i64 e.kind, .int .i64 e.num, .string e.s, .string e.field, .slice qu lu cu] 24))) := (Kp.refl [] wr).alloc _
      replace hts := Lib.hid hts
      by_cases hk9 : k = 0
      · have hg0 : ¬ 0 < k := by omega
        have hE2 : Hid (acc ++ t ++ jl (decide (k + 1 = 0)) (txtL (es.drop (k + 1))) = J) := by
          show _ = _
          rw [← hE.out, hst.out]; simp [hk9]
        have hlen2 : (acc ++ t).length ≤ 18000 := by have := congrArg List.length hE2.out; simp at this ⊢; omega
        replace hk9 := Lib.hid hk9
        go_wp2_with fail
        refine (hcall2.out _ (hold.out.trans hKb.out)).mono ?_
        rintro r w2 ⟨rfl, hk2⟩
        have hB2 := (hB.out.kp hKb.out).kp hk2
        have hK2 := (hK.out.trans hKb.out).trans hk2
        go_wp2_with fail
        refine (wstr_c w.heap.size w.heap.size acc (st t) _ hB2 (by rw [hsz]; omega) hK2.size).mono ?_
        rintro r w3 ⟨rfl, hB3, hb3, ho3⟩
        rw [hts.out] at hB3
        have hK3 := Lib.hid (hK2.below_trans hb3)
        replace hB3 := Lib.hid hB3
        clear hb3 ho3 hK2 hB2
        go_wp2_with fail
        go_roundw
        case rel => exact ⟨k + 1, acc ++ t, by omega, by go_num, hlen2, hB3, hK3, hE2⟩
        case measure => simp [intOf]; omega
      · have hg0 : 0 < k := by omega
        have hE2 : Hid (acc ++ [44, 32] ++ t ++ jl (decide (k + 1 = 0)) (txtL (es.drop (k + 1))) = J) := by
          show _ = _
          rw [← hE.out, hst.out]; simp [hk9]
        have hlen2 : (acc ++ [44, 32] ++ t).length ≤ 18000 := by have := congrArg List.length hE2.out; simp at this ⊢; omega
        have hBx := Blk.new wr 24 #[.int .i64 e.op, .int .i64 e.kind, .int .i64 e.num, .string e.s, .string e.field, .slice qu lu cu]
        replace hBx := Lib.hid hBx
        replace hk9 := Lib.hid hk9
        go_wp2_with fail
        refine (wstr_c w.heap.size w.heap.size acc ⟨#[44, 32]⟩ _ (hB.out.kp hKb.out) (by show acc.length + 2 ≤ _; omega) (Nat.le_trans hbw hKb.out.size)).mono ?_
        rintro r w2 ⟨rfl, hB2, hb2, ho2⟩
        have hbox := ho2 _ _ _ (by decide) hne hBx.out
        have x0 := hbox.cell 0 (v := .int .i64 e.op) rfl
        have x1 := hbox.cell 1 (v := .int .i64 e.kind) rfl
        have x2 := hbox.cell 2 (v := .int .i64 e.num) rfl
        have x3 := hbox.cell 3 (v := .string e.s) rfl
        have x4 := hbox.cell 4 (v := .string e.field) rfl
        have x5 := hbox.cell 5 (v := .slice qu lu cu) rfl
        have hK2 := Lib.hid ((hK.out.trans hKb.out).below_trans hb2)
        replace hB2 : Hid (Bld w.heap.size w.heap.size (acc ++ [44, 32]) w2) := hB2
        clear hb2 ho2 hbox
        go_wp2_with fail
        refine (hcall2.out _ (hk0.out.trans hK2.out)).mono ?_
        rintro r w3 ⟨rfl, hk3⟩
        have hB3 := hB2.out.kp hk3
        have hK3 := hK2.out.trans hk3
        clear x0 x1 x2 x3 x4 x5
        go_wp2_with fail
        refine (wstr_c w.heap.size w.heap.size (acc ++ [44, 32]) (st t) _ hB3 (by rw [hsz]; simp; omega) hK3.size).mono ?_
        rintro r w4 ⟨rfl, hB4, hb4, ho4⟩
        rw [hts.out] at hB4
        have hK4 := Lib.hid (hK3.below_trans hb4)
        replace hB4 := Lib.hid hB4
        clear hb4 ho4 hK3 hB3
        go_wp2_with fail
        go_roundw
        case rel => exact ⟨k + 1, acc ++ [44, 32] ++ t, by omega, by go_num, hlen2, hB4, hK4, hE2⟩
        case measure => simp [intOf]; omega
    · have hE2 : Hid (acc = J) := by
        show _ = _
        rw [← hE.out, List.drop_of_length_le (by rw [hlen.out]; omega), txtL, jl]; simp
      go_wp2_with fail
      refine (bstr_c w.heap.size w.heap.size acc _ hB.out hK.out.size).mono ?_
      rintro r w3 ⟨rfl, hb3⟩
      have hK3 := Lib.hid (hK.out.below_trans hb3)
      go_wp2_with fail
      go_ret
      exact ⟨ret_str (by rw [hE2.out]; rfl), hK3.out⟩

set_option maxRecDepth 100000 in
theorem list_c (es : List Ex) (IH : ∀ i (hi : i < es.length), TxtC es[i]) (w0 w : World) (g : Nat) (v : Value) (hv : exsSl w0 v es) (hk0 : Kp [] w0 w) (hA : Ar g w0) (hw : wellL es = true) (hc : cntL es ≤ 500) :
    Calls Tryz.prog 30 #[.agg #[.map (some g)], v] w (StrRes (jl true (txtL es)) w) := by
  have hmf : ∀ (fn : Fn) (first cap : Array Value) (w : World), (Instr.makeFunc fn first cap).run Tryz.prog w = .ok (.func fn first cap) w := fun _ _ _ _ => rfl
  have hk1 : Kp [] w (w.alloc (.cells #[.map (some g)] 45)) := (Kp.refl [] w).alloc _
  have hj := Lib.hid (joined_c es IH w0 _ g v hv (hk0.trans hk1) hA hw hc)
  obtain ⟨J, hJ⟩ : ∃ J, jl true (txtL es) = J := ⟨_, rfl⟩
  rw [hJ] at hj ⊢
  replace hk1 := Lib.hid hk1
  clear IH hv hk0 hA hw hc hJ
  go_enter Tryz.func30, Tryz.ntmps30
  go_wp2_with fail
  refine hj.out.mono ?_
  rintro r w2 ⟨rfl, hk2⟩
  go_wp2_with fail
  go_ret
  exact ⟨rfl, hk1.out.trans hk2⟩
end Go.Proofs.YtebmaclopkocgaaGreatDoor
