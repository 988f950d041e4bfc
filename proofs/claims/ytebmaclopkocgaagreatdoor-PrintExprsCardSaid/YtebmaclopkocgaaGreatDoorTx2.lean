import Derived.Test.YtebmaclopkocgaaGreatDoorTx1
import Derived.LoopTactic
import Derived.Outline
import Derived.IntWalk
set_option linter.unusedSimpArgs false
set_option linter.unusedVariables false
namespace Go.Proofs.YtebmaclopkocgaaGreatDoor
open Go.RowKit

mutual
/-- What weigh makes of an expression's operands. -/
def Ex.wg : Ex → Int → Int
  | .mk _ _ _ _ _ args, d => if 60 < d then 3000 else wgLoop args d args.length
def wgLoop : List Ex → Int → Int → Int
  | [], _, n => n
  | e :: es, d, n => if n ≤ 2000 then wgLoop es d (n + e.wg (d + 1)) else n
end
def wgL (es : List Ex) (d : Int) : Int := if 60 < d then 3000 else wgLoop es d es.length
theorem wg_args (e : Ex) (d : Int) : e.wg d = wgL e.args d := by cases e; rw [Ex.wg, wgL, Ex.args]
mutual
theorem wg_bd : ∀ (e : Ex) (d : Int), 0 ≤ e.wg d ∧ e.wg d ≤ 3001 * (cntL e.args : Int) + 3000
  | .mk _ _ _ _ _ args, d => by
    rw [Ex.wg, Ex.args]
    split
    · have : (0 : Int) ≤ cntL args := by omega
      omega
    · have := wgLoop_bd args d args.length (by omega)
      omega
theorem wgLoop_bd : ∀ (es : List Ex) (d n : Int), 0 ≤ n → n ≤ wgLoop es d n ∧ wgLoop es d n + es.length ≤ n + 3001 * (cntL es : Int)
  | [], d, n, h => by rw [wgLoop, cntL]; simp
  | e :: es, d, n, h => by
    have h1 := wg_bd e (d + 1)
    have hc : (e.cnt : Int) = 1 + cntL e.args := by cases e; rw [Ex.cnt, Ex.args]; omega
    have hl : (es.length : Int) ≤ cntL es := by have := len_cntL es; omega
    rw [wgLoop, cntL, List.length_cons]
    split
    · have h2 := wgLoop_bd es d (n + e.wg (d + 1)) (by omega)
      omega
    · omega
end
theorem wgL_bd (es : List Ex) (d : Int) : 0 ≤ wgL es d ∧ wgL es d ≤ 3001 * (cntL es : Int) + 3000 := by
  unfold wgL
  split
  · omega
  · have := wgLoop_bd es d es.length (by omega)
    omega
theorem wgLoop_stop : ∀ (es : List Ex) (d n : Int), ¬ n ≤ 2000 → wgLoop es d n = n
  | [], _, _, _ => by rw [wgLoop]
  | e :: es, d, n, h => by rw [wgLoop, if_neg h]
theorem wgLoop_step {es : List Ex} {k : Nat} (hk : k < es.length) (d n : Int) (h : n ≤ 2000) : wgLoop (es.drop k) d n = wgLoop (es.drop (k + 1)) d (n + wgL es[k].args (d + 1)) := by
  rw [List.drop_eq_getElem_cons hk, wgLoop, if_pos h, wg_args]

set_option maxRecDepth 100000 in
set_option maxHeartbeats 1000000 in
theorem weigh_c : ∀ (N : Nat) (es : List Ex), cntL es < N → cntL es ≤ 1048576 → ∀ (d : Int), 0 ≤ d → d ≤ 100 → ∀ (w : World) (q : Option Addr) (n cap : Nat), exsSl w (.slice q n cap) es →
    Calls Tryz.prog 5 #[.slice q n cap, .int .i64 d] w fun e w' => e = .returned (.int .i64 (wgL es d)) ∧ w' = w
  | 0, _, h, _, _, _, _, _, _, _, _, _ => absurd h (Nat.not_lt_zero _)
  | N + 1, es, hN, hB, d, hd0, hd1, w, q, n, cap, hS => by
    obtain ⟨hlen, hnc, hcap⟩ := hS.len
    by_cases hd : 60 < d
    · have hr : Hid (wgL es d = 3000) := by show _ = _; rw [wgL, if_pos hd]
      go_enter Tryz.func5, Tryz.ntmps5
      go_wp2
      go_ret
      exact ⟨ret_int hr.out.symm, rfl⟩
    · have hr : Hid (wgL es d = wgLoop es d es.length) := by show _ = _; rw [wgL, if_neg hd]
      have hll := len_cntL es
      have hS := Lib.hid hS
      have hes : Hid (es.length = n) := hlen
      have hnb : n ≤ 1048576 := by omega
      have IH : Hid (∀ (k : Nat) (hk : k < es.length) (v : Value), exsSl w v es[k].args → Calls Tryz.prog 5 #[v, .int .i64 (d + 1)] w fun e w' => e = .returned (.int .i64 (wgL es[k].args (d + 1))) ∧ w' = w) := by
        intro k hk v hv
        have h1 := cnt_mem hk
        have h2 := cnt_args es[k]
        obtain ⟨q', cap', rfl⟩ := hv.val
        exact weigh_c N es[k].args (by omega) (by omega) (d + 1) (by omega) (by omega) w q' _ cap' hv
      have hbd : Hid (∀ (k : Nat) (hk : k < es.length), 0 ≤ wgL es[k].args (d + 1) ∧ wgL es[k].args (d + 1) ≤ 4000000000) := by
        intro k hk
        have := wgL_bd es[k].args (d + 1)
        have h1 := cnt_mem hk
        have h2 := cnt_args es[k]
        omega
      clear hlen hll hN hB
      go_enter Tryz.func5, Tryz.ntmps5
      go_wp2
      go_loop [5, 6] (fun m i => ∃ (k : Nat) (x : Int), k ≤ n ∧ i = .int .i64 k ∧ m = .int .i64 x ∧ 0 ≤ x ∧ x ≤ 5000000000 ∧ Hid (wgLoop (es.drop k) d x = wgLoop es d es.length)) (fun _ i => n - (intOf i).toNat)
      case atStart => exact ⟨0, n, by omega, rfl, rfl, by omega, by omega, by show _ = _; rw [hes.out]; rfl⟩
      case round =>
        obtain ⟨k, x, hk, rfl, rfl, hx0, hx1, hE⟩ := hrel
        by_cases hlt : k < n
        · by_cases hx : x ≤ 2000
          · have hlt2 : k < es.length := by rw [hes.out]; exact hlt
            obtain ⟨b, off, v, rfl, hv, _, _, _, _, _, h5⟩ := hS.out.at_ k hlt2
            have hb := hbd.out k hlt2
            have hst := wgLoop_step hlt2 d x hx
            have hcall := IH.out k hlt2 v hv
            rw [hE.out] at hst
            obtain ⟨y, hy⟩ : ∃ y, wgL es[k].args (d + 1) = y := ⟨_, rfl⟩
            rw [hy] at hb hst hcall
            replace hst := Lib.hid hst
            replace hcall := Lib.hid hcall
            clear hy
            go_wp2_with fail
            refine hcall.out.mono ?_
            rintro e w' ⟨rfl, rfl⟩
            go_wp2_with fail
            go_round
            case rel => exact ⟨k + 1, x + y, by omega, by go_num, rfl, by omega, by omega, by show _ = _; rw [hE.out] at *; exact hst.out.symm⟩
            case measure => simp [intOf]; omega
          · have hst := Lib.hid (wgLoop_stop (es.drop k) d x hx)
            go_wp2
            go_ret
            exact ⟨ret_int (by rw [hr.out, ← hE.out, hst.out]), rfl⟩
        · have hst : Hid (wgLoop (es.drop k) d x = x) := by show _ = _; rw [List.drop_of_length_le (by rw [hes.out]; omega), wgLoop]
          go_wp2
          go_ret
          exact ⟨ret_int (by rw [hr.out, ← hE.out, hst.out]), rfl⟩
end Go.Proofs.YtebmaclopkocgaaGreatDoor
