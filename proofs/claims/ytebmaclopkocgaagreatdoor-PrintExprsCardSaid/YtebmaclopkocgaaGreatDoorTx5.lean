import Derived.Test.YtebmaclopkocgaaGreatDoorTx4
import Derived.LoopTactic
set_option linter.unusedSimpArgs false
set_option linter.unusedVariables false
namespace Go.Proofs.YtebmaclopkocgaaGreatDoor
open Go.RowKit

/-- What the meter answers of an expression, or of a list. -/
def MtRes (g : Nat) (ok : Bool) (n' : Int) (w : World) (r : Ending) (w' : World) : Prop :=
  r = .returned (.bool ok) ∧ Gm g w w' ∧ (∃ a b, Mt w' g a b) ∧ (ok = true → ∃ dp, dp ≤ 14 ∧ Mt w' g n' dp)
def MeterC (e : Ex) : Prop := ∀ (w0 w : World) (g : Nat) (n dp d : Int) (v : Value), exsSl w0 v e.args → Kp [] w0 w → w0.heap.size ≤ g → Amb w0 → Mt w g n dp → 0 ≤ n → n ≤ 500 → dp ≤ 14 → 0 ≤ d → d ≤ 15 → e.fits →
  Calls Tryz.prog 29 #[.pointer (some ⟨g, 0, none⟩), exVal e v, .int .i64 d] w (MtRes g (okE e d n) (n + e.cnt) w)
def AllC (es : List Ex) : Prop := ∀ (w0 w : World) (g : Nat) (n dp d : Int) (v : Value), exsSl w0 v es → Kp [] w0 w → w0.heap.size ≤ g → Amb w0 → Mt w g n dp → 0 ≤ n → n ≤ 500 → dp ≤ 14 → 0 ≤ d → d ≤ 15 → fitsL es →
  Calls Tryz.prog 69 #[v, .int .i64 d, .func (.func 29) #[.pointer (some ⟨g, 0, none⟩)] #[]] w (MtRes g (okL es d n) (n + cntL es) w)

theorem okL_step {es : List Ex} {k : Nat} (hk : k < es.length) (d m : Int) : okL (es.drop k) d m = (okE es[k] d m && okL (es.drop (k + 1)) d (m + es[k].cnt)) := by
  rw [List.drop_eq_getElem_cons hk, okL_cons]
theorem cnt_step {es : List Ex} {k : Nat} (hk : k < es.length) : cntL (es.drop k) = es[k].cnt + cntL (es.drop (k + 1)) := by
  rw [List.drop_eq_getElem_cons hk, cntL]
theorem okE_bd {e : Ex} {d n : Int} (h : okE e d n = true) : n + e.cnt ≤ 500 := by
  simp only [okE, Bool.and_eq_true, decide_eq_true_eq] at h; exact h.1.2

/-- An element of a slice that lies in an older world. -/
theorem exsSl.at_in {w0 w : World} {q : Option Addr} {n cap : Nat} {es : List Ex} (h : exsSl w0 (.slice q n cap) es) (kp : Kp [] w0 w) (i : Nat) (hi : i < es.length) :
    ∃ b off v, q = some ⟨b, off, none⟩ ∧ exsSl w0 v es[i].args ∧
      w.cell? ⟨b, off + i * 6, none⟩ = some (.int .i64 es[i].op) ∧ w.cell? ⟨b, off + i * 6 + 1, none⟩ = some (.int .i64 es[i].kind) ∧ w.cell? ⟨b, off + i * 6 + 2, none⟩ = some (.int .i64 es[i].num) ∧
      w.cell? ⟨b, off + i * 6 + 3, none⟩ = some (.string es[i].s) ∧ w.cell? ⟨b, off + i * 6 + 4, none⟩ = some (.string es[i].field) ∧ w.cell? ⟨b, off + i * 6 + 5, none⟩ = some v := by
  obtain ⟨b, off, v, rfl, hv, c0, c1, c2, c3, c4, c5⟩ := h.at_ i hi
  exact ⟨b, off, v, rfl, hv, kp.cell c0 (by simp), kp.cell c1 (by simp), kp.cell c2 (by simp), kp.cell c3 (by simp), kp.cell c4 (by simp), kp.cell c5 (by simp)⟩

set_option maxRecDepth 100000 in
set_option maxHeartbeats 2000000 in
theorem all_c (es : List Ex) (IH : ∀ i (hi : i < es.length), MeterC es[i]) : AllC es := by
  intro w0 w g n dp d v hv hk0 hg hA hM hn0 hn5 hdp hd0 hd1 hfit
  obtain ⟨q, cap, rfl⟩ := hv.val
  obtain ⟨_, hnc, hcap⟩ := hv.len
  obtain ⟨len, hlen⟩ : ∃ len, es.length = len := ⟨_, rfl⟩
  have hM0 := Lib.hid hM
  rw [hlen] at hnc hv ⊢
  replace hv := Lib.hid hv
  replace hlen := Lib.hid hlen
  replace hfit := Lib.hid hfit
  replace IH := Lib.hid IH
  replace hk0 := Lib.hid hk0
  replace hA := Lib.hid hA
  clear hM
  go_enter Tryz.func69, Tryz.ntmps69
  go_wp2
  go_loopw [11] (fun i wr => ∃ (k : Nat) (m dp : Int), k ≤ len ∧ i = .int .i64 k ∧ 0 ≤ m ∧ m ≤ 500 ∧ dp ≤ 14 ∧ Hid (Mt wr g m dp) ∧ Hid (Gm g w wr) ∧ Hid (okL es d n = okL (es.drop k) d m) ∧ Hid (m + cntL (es.drop k) = n + cntL es)) (fun i _ => len - (intOf i).toNat)
  case atStart => exact ⟨0, n, dp, Nat.zero_le _, rfl, hn0, hn5, hdp, hM0, Gm.refl _ _, rfl, rfl⟩
  case round =>
    obtain ⟨k, m, dp2, hk, rfl, hm0, hm5, hdp2, hM, hG, hE, hC⟩ := hrel
    by_cases hlt : k < len
    · have hlt2 : k < es.length := by rw [hlen.out]; exact hlt
      have hold := Lib.hid (hG.out.old hk0.out hg)
      obtain ⟨b, off, u, rfl, hu, c0, c1, c2, c3, c4, c5⟩ := hv.out.at_in hold.out k hlt2
      have hcall := Lib.hid (IH.out k hlt2)
      have hst := Lib.hid (okL_step hlt2 d m)
      have hct := Lib.hid (cnt_step hlt2)
      have hft := Lib.hid (fitsL_get hfit.out k hlt2)
      obtain ⟨e, he⟩ : ∃ e, es[k] = e := ⟨_, rfl⟩
      rw [he] at c0 c1 c2 c3 c4 hcall hst hct hft hu
      clear he
      obtain ⟨qu, cu, rfl⟩ := hu.val
      replace hu := Lib.hid hu
      obtain ⟨lu, hlu⟩ : ∃ lu, e.args.length = lu := ⟨_, rfl⟩
      rw [hlu] at hu c5
      clear hlu
      go_wp2_with fail
      have hG1 : Gm g w (wr.alloc (.cells #[.int .i64 e.op, .int .i64 e.kind, .int .i64 e.num, .string e.s, .string e.field, .slice qu lu cu] 24)) := hG.out.cells _ _
      refine (hcall.out w0 _ g m dp2 d _ hu.out (hold.out.alloc _) hg hA.out (hM.out.cells _) hm0 hm5 hdp2 hd0 hd1 hft.out).mono ?_
      rintro r w2 ⟨rfl, hG2, ⟨a1, b1, hM2⟩, hok⟩
      have hG3 := Lib.hid (hG1.trans hG2)
      clear hG1 hG2
      cases ho : okE e d m
      · have hL : Hid (okL es d n = false) := by show _ = _; rw [hE.out, hst.out, ho]; rfl
        clear hok
        go_wp2_with fail
        go_ret
        exact ⟨ret_bool hL.out.symm, hG3.out, ⟨a1, b1, hM2⟩, fun h => by rw [hL.out] at h; cases h⟩
      · obtain ⟨dp3, hdp3, hM3⟩ := hok ho
        have hbd := okE_bd ho
        have hL : Hid (okL es d n = okL (es.drop (k + 1)) d (m + e.cnt)) := by show _ = _; rw [hE.out, hst.out, ho]; rfl
        have hC2 : Hid (m + e.cnt + cntL (es.drop (k + 1)) = n + cntL es) := by show _ = _; have := hC.out; rw [hct.out] at this; omega
        have hcp : (0 : Int) ≤ e.cnt := by omega
        replace hM3 := Lib.hid hM3
        clear hok hM2
        go_wp2_with fail
        go_roundw
        case rel => exact ⟨k + 1, m + e.cnt, dp3, by omega, by go_num, by omega, by omega, hdp3, hM3, hG3, hL, hC2⟩
        case measure => simp [intOf]; omega
    · have hdr : Hid (es.drop k = []) := by show _ = _; exact List.drop_of_length_le (by rw [hlen.out]; omega)
      have hL : Hid (okL es d n = true) := by show _ = _; rw [hE.out, hdr.out]; simp [okL, wellL, cntL, hgtL]; omega
      have hC2 : Hid (m = n + cntL es) := by show _ = _; have := hC.out; rw [hdr.out, cntL] at this; simpa using this
      go_wp2_with fail
      go_ret
      exact ⟨ret_bool hL.out.symm, hG.out, ⟨m, dp2, hM.out⟩, fun _ => ⟨dp2, hdp2, hC2.out ▸ hM.out⟩⟩
end Go.Proofs.YtebmaclopkocgaaGreatDoor
