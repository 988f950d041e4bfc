import Derived.Test.YtebmaclopkocgaaGreatDoorPr1
import Derived.Test.YtebmaclopkocgaaGreatDoorPt8
set_option linter.unusedSimpArgs false
set_option linter.unusedVariables false
namespace Go.Proofs.YtebmaclopkocgaaGreatDoor
open Go.RowKit

theorem sgn_some : ∀ {op : Int}, 8 ≤ op → op ≤ 21 → (st (sgn op)).toList.isEmpty = false := by
  intro op h8 h21
  rcases (show op = 8 ∨ op = 9 ∨ op = 10 ∨ op = 11 ∨ op = 12 ∨ op = 13 ∨ op = 14 ∨ op = 15 ∨ op = 16 ∨ op = 17 ∨ op = 18 ∨ op = 19 ∨ op = 20 ∨ op = 21 by omega) with rfl | rfl | rfl | rfl | rfl | rfl | rfl | rfl | rfl | rfl | rfl | rfl | rfl | rfl
  all_goals decide +kernel
set_option maxRecDepth 100000 in
theorem two_c (op kind n : Int) (s f : ByteArray) (q : Option Addr) (len cap : Nat) (w : World) (h : SgAt w) :
    Calls Tryz.prog 18 #[.agg #[.int .i64 op, .int .i64 kind, .int .i64 n, .string s, .string f, .slice q len cap]] w fun e w' => e = .returned (.tuple #[.int .i64 (rlvl op), .bool (isTwo op)]) ∧ Kp [] w w' := by
  have hk1 : Kp [] w (w.alloc (.cells #[.int .i64 op, .int .i64 kind, .int .i64 n, .string s, .string f, .slice q len cap] 24)) := (Kp.refl [] w).alloc _
  have hS := Lib.hid (sign_c op _ (h.kp hk1))
  replace hk1 := Lib.hid hk1
  clear h
  by_cases h2 : 8 ≤ op ∧ op ≤ 21
  · have he := sgn_some h2.1 h2.2
    rw [two_yes h2]
    obtain ⟨r, hr⟩ : ∃ r, rlvl op = r := ⟨_, rfl⟩
    obtain ⟨sg, hsg⟩ : ∃ sg, st (sgn op) = sg := ⟨_, rfl⟩
    rw [hr, hsg] at hS
    rw [hr]
    rw [hsg] at he
    clear hr hsg h2
    go_enter Tryz.func18, Tryz.ntmps18
    go_wp2_with (go_at_call 20; refine hS.out.mono ?_; rintro r' w2 ⟨rfl, hk2⟩)
    go_ret2
    exact ⟨rfl, hk1.out.trans hk2⟩
  · rw [sgn_none h2] at hS
    rw [two_no h2]
    obtain ⟨r, hr⟩ : ∃ r, rlvl op = r := ⟨_, rfl⟩
    rw [hr] at hS ⊢
    clear hr h2
    go_enter Tryz.func18, Tryz.ntmps18
    go_wp2_with (go_at_call 20; refine hS.out.mono ?_; rintro r' w2 ⟨rfl, hk2⟩)
    have he : (st []).toList.isEmpty = true := by decide +kernel
    go_ret2
    rw [he]
    exact ⟨rfl, hk1.out.trans hk2⟩

def RTxtC (e : Ex) : Prop := ∀ (w0 w : World) (v : Value), exsSl w0 v e.args → Kp [] w0 w → SgAt w0 → e.well = true → e.cnt ≤ 500 →
  Calls Tryz.prog 9 #[exVal e v] w (StrRes e.txt w)
def clo (b : Bool) (t : List UInt8) : List UInt8 := if b then [40] ++ t ++ [41] else t

set_option maxRecDepth 100000 in
set_option maxHeartbeats 1000000 in
theorem rop_c (e : Ex) (IH : RTxtC e) (b : Bool) (w0 w : World) (v : Value) (hv : exsSl w0 v e.args) (hk0 : Kp [] w0 w) (hA : SgAt w0) (hw : e.well = true) (hc : e.cnt ≤ 500) :
    Calls Tryz.prog 19 #[exVal e v, .bool b] w (StrRes (clo b e.txt) w) := by
  obtain ⟨q, cap, rfl⟩ := hv.val
  have hln := txt_len e hw
  have hk1 : Kp [] w (w.alloc (.cells #[.int .i64 e.op, .int .i64 e.kind, .int .i64 e.num, .string e.s, .string e.field, .slice q e.args.length cap] 24)) := (Kp.refl [] w).alloc _
  have hcall : Hid (∀ W, Kp [] w W → Calls Tryz.prog 9 #[exVal e (.slice q e.args.length cap)] W (StrRes e.txt W)) := fun W k => IH w0 W _ hv (hk0.trans k) hA hw hc
  have hsz := st_size e.txt
  have hbd : e.txt.length ≤ 100000 := by omega
  obtain ⟨t, ht⟩ : ∃ t, e.txt = t := ⟨_, rfl⟩
  unfold exVal at hcall ⊢
  obtain ⟨len, hlen⟩ : ∃ len, e.args.length = len := ⟨_, rfl⟩
  rw [hlen] at hcall hk1 ⊢
  rw [ht] at hcall hsz hbd ⊢
  replace hk1 := Lib.hid hk1
  clear hlen hln hv hA hk0 IH ht hw hc
  cases b
  · go_enter Tryz.func19, Tryz.ntmps19
    go_wp2_with (go_at_call 9; refine (hcall.out _ hk1.out).mono ?_; rintro r w2 ⟨rfl, hk2⟩)
    go_ret
    exact ⟨rfl, hk1.out.trans hk2⟩
  · go_enter Tryz.func19, Tryz.ntmps19
    go_wp2_with (go_at_call 9; refine (hcall.out _ hk1.out).mono ?_; rintro r w2 ⟨rfl, hk2⟩)
    go_ret
    exact ⟨ret_str (by rw [clo, if_pos rfl, ← st_app, ← st_app]; rfl), hk1.out.trans hk2⟩

set_option maxRecDepth 100000 in
set_option maxHeartbeats 2000000 in
theorem rexprs_c (es : List Ex) (IH : ∀ i (hi : i < es.length), RTxtC es[i]) (w0 w : World) (v : Value) (hv : exsSl w0 v es) (hk0 : Kp [] w0 w) (hA : SgAt w0) (hw : wellL es = true) (hc : cntL es ≤ 500) :
    Calls Tryz.prog 17 #[v] w (StrRes (jl true (txtL es)) w) := by
  obtain ⟨q, cap, rfl⟩ := hv.val
  obtain ⟨_, hnc, hcap⟩ := hv.len
  have hjl := jl_len es hw true
  obtain ⟨J, hJ⟩ : ∃ J, jl true (txtL es) = J := ⟨_, rfl⟩
  rw [hJ] at hjl ⊢
  have hJ2 : J.length ≤ 18000 := by omega
  have hwl := Lib.hid (fun i hi => wellL_get hw i hi)
  have hct := Lib.hid (fun i (hi : i < es.length) => Nat.le_trans (cnt_mem hi) hc)
  obtain ⟨len, hlen⟩ : ∃ len, es.length = len := ⟨_, rfl⟩
  rw [hlen] at hnc hv ⊢
  replace hv := Lib.hid hv
  replace hlen := Lib.hid hlen
  replace IH := Lib.hid IH
  replace hk0 := Lib.hid hk0
  replace hA := Lib.hid hA
  replace hJ := Lib.hid hJ
  have hnil : Hid ((⟨#[]⟩ : ByteArray) = st []) := rfl
  clear hjl hw hc
  go_enter Tryz.func17, Tryz.ntmps17
  go_wp2
  go_loopw [3, 4] (fun s i wr => ∃ (k : Nat) (acc : List UInt8), k ≤ len ∧ i = .int .i64 k ∧ s = .string (st acc) ∧ acc.length ≤ 18000 ∧ Hid (Kp [] w wr) ∧ Hid (acc ++ jl (decide (k = 0)) (txtL (es.drop k)) = J)) (fun _ i _ => len - (intOf i).toNat)
  case atStart => exact ⟨0, [], Nat.zero_le _, rfl, by rw [hnil.out], by simp, Kp.refl [] w, hJ.out⟩
  case round =>
    obtain ⟨k, acc, hk, rfl, rfl, hac, hK, hE⟩ := hrel
    have hza := st_size acc
    by_cases hlt : k < len
    · have hlt2 : k < es.length := by rw [hlen.out]; exact hlt
      have hold := Lib.hid (hk0.out.trans hK.out)
      obtain ⟨b, off, u, rfl, hu, c0, c1, c2, c3, c4, c5⟩ := hv.out.at_in hold.out k hlt2
      have hcall := Lib.hid (IH.out k hlt2)
      have hst := Lib.hid (jl_step hlt2 (decide (k = 0)))
      have hwe := Lib.hid (hwl.out k hlt2)
      have hce := Lib.hid (hct.out k hlt2)
      have htl : es[k].txt.length ≤ 18000 := by have h1 := txt_len _ hwe.out; have h2 := hce.out; omega
      obtain ⟨e, he⟩ : ∃ e, es[k] = e := ⟨_, rfl⟩
      rw [he] at c0 c1 c2 c3 c4 hcall hst hwe hce hu htl
      clear he
      obtain ⟨qu, cu, rfl⟩ := hu.val
      have hcall2 := Lib.hid (hcall.out w0 wr _ hu hold.out hA.out hwe.out hce.out)
      unfold exVal at hcall2
      clear hu hcall
      obtain ⟨lu, hlu⟩ : ∃ lu, e.args.length = lu := ⟨_, rfl⟩
      rw [hlu] at hcall2 c5
      clear hlu
      obtain ⟨t, ht⟩ : ∃ t, e.txt = t := ⟨_, rfl⟩
      rw [ht] at hcall2 hst htl
      clear ht
      have hsz := st_size t
      by_cases hk9 : k = 0
      · have hg0 : ¬ 0 < k := by omega
        have hE2 : Hid (acc ++ t ++ jl (decide (k + 1 = 0)) (txtL (es.drop (k + 1))) = J) := by
          show _ = _
          rw [← hE.out, hst.out]; simp [hk9]
        have hlen2 : (acc ++ t).length ≤ 18000 := by have := congrArg List.length hE2.out; simp at this ⊢; omega
        replace hk9 := Lib.hid hk9
        go_wp2_with fail
        refine hcall2.out.mono ?_
        rintro r w2 ⟨rfl, hk2⟩
        have hK2 := Lib.hid (hK.out.trans hk2)
        go_wp2_with fail
        go_roundw
        case rel => exact ⟨k + 1, acc ++ t, by omega, by go_num, by rw [st_app], hlen2, hK2, hE2⟩
        case measure => simp [intOf]; omega
      · have hg0 : 0 < k := by omega
        have hE2 : Hid (acc ++ [44, 32] ++ t ++ jl (decide (k + 1 = 0)) (txtL (es.drop (k + 1))) = J) := by
          show _ = _
          rw [← hE.out, hst.out]; simp [hk9]
        have hlen2 : (acc ++ [44, 32] ++ t).length ≤ 18000 := by have := congrArg List.length hE2.out; simp at this ⊢; omega
        replace hk9 := Lib.hid hk9
        go_wp2_with fail
        refine hcall2.out.mono ?_
        rintro r w2 ⟨rfl, hk2⟩
        have hK2 := Lib.hid (hK.out.trans hk2)
        go_wp2_with fail
        go_roundw
        case rel => exact ⟨k + 1, acc ++ [44, 32] ++ t, by omega, by go_num, by rw [← st_app, ← st_app]; rfl, hlen2, hK2, hE2⟩
        case measure => simp [intOf]; omega
    · have hE2 : Hid (acc = J) := by
        show _ = _
        rw [← hE.out, List.drop_of_length_le (by rw [hlen.out]; omega), txtL, jl]; simp
      go_wp2_with fail
      go_ret
      exact ⟨ret_str (by rw [hE2.out]), hK.out⟩
end Go.Proofs.YtebmaclopkocgaaGreatDoor
