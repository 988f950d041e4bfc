import Derived.Test.YtebmaclopkocgaaGreatDoorTx6
import Derived.Test.YtebmaclopkocgaaGreatDoorTx2
set_option linter.unusedSimpArgs false
set_option linter.unusedVariables false
namespace Go.Proofs.YtebmaclopkocgaaGreatDoor
open Go.RowKit

mutual
/-- No list of operands is longer than the machine's memory reaches. -/
def Ex.wide : Ex → Prop
  | .mk _ _ _ _ _ args => args.length ≤ 4398046511104 ∧ wideL args
def wideL : List Ex → Prop
  | [] => True
  | e :: es => e.wide ∧ wideL es
end
theorem wide_eq (e : Ex) : e.wide ↔ e.args.length ≤ 4398046511104 ∧ wideL e.args := by cases e; rw [Ex.wide, Ex.args]
theorem wideL_get : ∀ {es : List Ex} (_ : wideL es) (i : Nat) (hi : i < es.length), es[i].wide
  | e :: es, h, 0, _ => by rw [wideL] at h; exact h.1
  | e :: es, h, i + 1, hi => by rw [wideL] at h; exact wideL_get h.2 i (by simpa using hi)
mutual
theorem wide_cnt : ∀ e : Ex, e.cnt ≤ 4398046511104 → e.wide
  | .mk _ _ _ _ _ args, h => by
    rw [Ex.cnt] at h
    rw [Ex.wide]
    exact ⟨by have := len_cntL args; omega, wideL_cnt args (by omega)⟩
theorem wideL_cnt : ∀ es : List Ex, cntL es ≤ 4398046511104 → wideL es
  | [], _ => by rw [wideL]; trivial
  | e :: es, h => by
    rw [cntL] at h
    rw [wideL]
    exact ⟨wide_cnt e (by omega), wideL_cnt es (by omega)⟩
end

/-- The greatest answer of weigh at a depth. -/
def wTop (d : Int) : Int := 4398046511104 + 3000 + 2000 * (61 - d)
mutual
theorem wg_any : ∀ (e : Ex) (d : Int), e.wide → 0 ≤ d → d ≤ 61 → 0 ≤ e.wg d ∧ e.wg d ≤ wTop d
  | .mk _ _ _ _ _ args, d, h, h0, h1 => by
    rw [Ex.wide] at h
    rw [Ex.wg]
    split
    · unfold wTop; omega
    · exact wgLoop_any args d args.length h.2 h0 (by omega) (by omega) (by have := h.1; unfold wTop; omega)
theorem wgLoop_any : ∀ (es : List Ex) (d n : Int), wideL es → 0 ≤ d → d ≤ 60 → 0 ≤ n → n ≤ wTop d → 0 ≤ wgLoop es d n ∧ wgLoop es d n ≤ wTop d
  | [], d, n, _, _, _, h2, h3 => by rw [wgLoop]; exact ⟨h2, h3⟩
  | e :: es, d, n, h, h0, h1, h2, h3 => by
    rw [wideL] at h
    rw [wgLoop]
    split
    · have hc := wg_any e (d + 1) h.1 (by omega) (by omega)
      exact wgLoop_any es d (n + e.wg (d + 1)) h.2 h0 h1 (by omega) (by unfold wTop at *; omega)
    · exact ⟨h2, h3⟩
end
theorem wgL_any (es : List Ex) (d : Int) (hl : es.length ≤ 4398046511104) (h : wideL es) (h0 : 0 ≤ d) (h1 : d ≤ 61) : 0 ≤ wgL es d ∧ wgL es d ≤ wTop d := by
  unfold wgL
  split
  · unfold wTop; omega
  · exact wgLoop_any es d es.length h h0 (by omega) (by omega) (by unfold wTop; omega)

set_option maxRecDepth 100000 in
set_option maxHeartbeats 1000000 in
theorem weigh_w : ∀ (N : Nat) (es : List Ex), cntL es < N → es.length ≤ 4398046511104 → wideL es → ∀ (d : Int), 0 ≤ d → d ≤ 61 → ∀ (w : World) (q : Option Addr) (n cap : Nat), exsSl w (.slice q n cap) es →
    Calls Tryz.prog 5 #[.slice q n cap, .int .i64 d] w fun e w' => e = .returned (.int .i64 (wgL es d)) ∧ w' = w
  | 0, _, h, _, _, _, _, _, _, _, _, _, _ => absurd h (Nat.not_lt_zero _)
  | N + 1, es, hN, hB, hwd, d, hd0, hd1, w, q, n, cap, hS => by
    obtain ⟨hlen, hnc, hcap⟩ := hS.len
    by_cases hd : 60 < d
    · have hr : Hid (wgL es d = 3000) := by show _ = _; rw [wgL, if_pos hd]
      clear hwd
      go_enter Tryz.func5, Tryz.ntmps5
      go_wp2
      go_ret
      exact ⟨ret_int hr.out.symm, rfl⟩
    · have hr : Hid (wgL es d = wgLoop es d es.length) := by show _ = _; rw [wgL, if_neg hd]
      have hll := len_cntL es
      have hS := Lib.hid hS
      have hes : Hid (es.length = n) := hlen
      have hnb : n ≤ 4398046511104 := by omega
      have IH : Hid (∀ (k : Nat) (hk : k < es.length) (v : Value), exsSl w v es[k].args → Calls Tryz.prog 5 #[v, .int .i64 (d + 1)] w fun e w' => e = .returned (.int .i64 (wgL es[k].args (d + 1))) ∧ w' = w) := by
        intro k hk v hv
        have h1 := cnt_mem hk
        have h2 := cnt_args es[k]
        have h3 := (wide_eq _).1 (wideL_get hwd k hk)
        obtain ⟨q', cap', rfl⟩ := hv.val
        exact weigh_w N es[k].args (by omega) h3.1 h3.2 (d + 1) (by omega) (by omega) w q' _ cap' hv
      have hbd : Hid (∀ (k : Nat) (hk : k < es.length), 0 ≤ wgL es[k].args (d + 1) ∧ wgL es[k].args (d + 1) ≤ 5000000000000) := by
        intro k hk
        have h3 := (wide_eq _).1 (wideL_get hwd k hk)
        have := wgL_any es[k].args (d + 1) h3.1 h3.2 (by omega) (by omega)
        unfold wTop at this
        omega
      clear hlen hll hN hB hwd
      go_enter Tryz.func5, Tryz.ntmps5
      go_wp2
      go_loop [5, 6] (fun m i => ∃ (k : Nat) (x : Int), k ≤ n ∧ i = .int .i64 k ∧ m = .int .i64 x ∧ 0 ≤ x ∧ x ≤ 6000000000000 ∧ Hid (wgLoop (es.drop k) d x = wgLoop es d es.length)) (fun _ i => n - (intOf i).toNat)
      case atStart => exact ⟨0, n, by omega, rfl, rfl, by omega, by omega, by show _ = _; rw [hes.out]; rfl⟩
      case round =>
        obtain ⟨k, x, hk, rfl, rfl, hx0, hx1, hE⟩ := hrel
        by_cases hlt : k < n
        · by_cases hx : x ≤ 2000
          · have hlt2 : k < es.length := by rw [hes.out]; exact hlt
            obtain ⟨b, off, v, rfl, hv, _, _, _, _, _, h5⟩ := hS.out.at_ k hlt2
            have hb := hbd.out k hlt2
            have hst := wgLoop_step hlt2 d x hx
            have hcall := IH.out k hlt2 v hv
            rw [hE.out] at hst
            obtain ⟨y, hy⟩ : ∃ y, wgL es[k].args (d + 1) = y := ⟨_, rfl⟩
            rw [hy] at hb hst hcall
            replace hst := Lib.hid hst
            replace hcall := Lib.hid hcall
            clear hy
            go_wp2_with fail
            refine hcall.out.mono ?_
            rintro e w' ⟨rfl, rfl⟩
            go_wp2_with fail
            go_round
            case rel => exact ⟨k + 1, x + y, by omega, by go_num, rfl, by omega, by omega, by show _ = _; rw [hE.out] at *; exact hst.out.symm⟩
            case measure => simp [intOf]; omega
          · have hst := Lib.hid (wgLoop_stop (es.drop k) d x hx)
            go_wp2
            go_ret
            exact ⟨ret_int (by rw [hr.out, ← hE.out, hst.out]), rfl⟩
        · have hst : Hid (wgLoop (es.drop k) d x = x) := by show _ = _; rw [List.drop_of_length_le (by rw [hes.out]; omega), wgLoop]
          go_wp2
          go_ret
          exact ⟨ret_int (by rw [hr.out, ← hE.out, hst.out]), rfl⟩
end Go.Proofs.YtebmaclopkocgaaGreatDoor

set_option linter.unusedSimpArgs false
set_option linter.unusedVariables false
namespace Go.Proofs.YtebmaclopkocgaaGreatDoor
open Go.RowKit

/-- weigh of a slice of one expression. -/
theorem weigh1_c (e : Ex) (hc : e.wide) (w : World) (g : Nat) (v : Value) (hv : exsSl w v e.args)
    (hcs : ∀ j u, (exV e v)[j]? = some u → w.cell? ⟨g, j, none⟩ = some u) :
    Calls Tryz.prog 5 #[.slice (some ⟨g, 0, none⟩) 1 1, .int .i64 0] w fun r w' => r = .returned (.int .i64 (wgL [e] 0)) ∧ w' = w := by
  refine weigh_w (cntL [e] + 1) [e] (by omega) (by simp) (by rw [wideL, wideL]; exact ⟨hc, trivial⟩) 0 (by omega) (by omega) w _ 1 1 ⟨[exV e v], ⟨_, 1, rfl, Nat.le_refl _, by decide, .inr ⟨g, 0, rfl, ?_⟩⟩, ?_⟩
  · intro j u hj
    rw [Nat.zero_add]
    exact hcs j u (by simpa using hj)
  · rw [exsAt]; exact ⟨_, [], rfl, exAt_iff.2 ⟨v, rfl, hv⟩, by rw [exsAt]⟩

theorem cells6 {W : World} {g : Nat} {a b c d e f : Value} (h0 : W.cell? ⟨g, 0, none⟩ = some a) (h1 : W.cell? ⟨g, 1, none⟩ = some b) (h2 : W.cell? ⟨g, 2, none⟩ = some c) (h3 : W.cell? ⟨g, 3, none⟩ = some d) (h4 : W.cell? ⟨g, 4, none⟩ = some e) (h5 : W.cell? ⟨g, 5, none⟩ = some f) :
    ∀ j u, ([a, b, c, d, e, f] : List Value)[j]? = some u → W.cell? ⟨g, j, none⟩ = some u := by
  intro j u hj
  match j, hj with
  | 0, hj => simp at hj; rw [h0, hj]
  | 1, hj => simp at hj; rw [h1, hj]
  | 2, hj => simp at hj; rw [h2, hj]
  | 3, hj => simp at hj; rw [h3, hj]
  | 4, hj => simp at hj; rw [h4, hj]
  | 5, hj => simp at hj; rw [h5, hj]
  | j + 6, hj => simp at hj
/-- What the law has made when it has weighed. -/
theorem weigh_head (e : Ex) (q : Option Addr) (cap : Nat) (w : World) (hv : exsSl w (.slice q e.args.length cap) e.args) (hc : e.wide) :
    Calls Tryz.prog 5 #[.slice (some ⟨w.heap.size + 1, 0, none⟩) 1 1, .int .i64 0] ((w.alloc (.cells #[.int .i64 e.op, .int .i64 e.kind, .int .i64 e.num, .string e.s, .string e.field, .slice q e.args.length cap] 24)).alloc (.cells #[.int .i64 e.op, .int .i64 e.kind, .int .i64 e.num, .string e.s, .string e.field, .slice q e.args.length cap] 24)) fun r w' => r = .returned (.int .i64 (wgL [e] 0)) ∧ w' = (w.alloc (.cells #[.int .i64 e.op, .int .i64 e.kind, .int .i64 e.num, .string e.s, .string e.field, .slice q e.args.length cap] 24)).alloc (.cells #[.int .i64 e.op, .int .i64 e.kind, .int .i64 e.num, .string e.s, .string e.field, .slice q e.args.length cap] 24) :=
  weigh1_c e hc _ (w.heap.size + 1) _ (hv.kp (((Kp.refl [] w).alloc _).alloc _)) (fun j u hu => by
    have hb : Blk ((w.alloc (.cells #[.int .i64 e.op, .int .i64 e.kind, .int .i64 e.num, .string e.s, .string e.field, .slice q e.args.length cap] 24)).alloc (.cells #[.int .i64 e.op, .int .i64 e.kind, .int .i64 e.num, .string e.s, .string e.field, .slice q e.args.length cap] 24)) (w.heap.size + 1) 24 (exV e (.slice q e.args.length cap)).toArray := blk_new (by simp) _ _
    exact hb.cell j (by simpa using hu))

end Go.Proofs.YtebmaclopkocgaaGreatDoor
