import Derived.Test.YtgldbeacjacbcaaGreatTz3
import Derived.RegionTactic
import Derived.Deep.RegionWith
set_option linter.unusedSimpArgs false
set_option linter.unusedVariables false
namespace Go.Proofs.YtgldbeacjacbcaaGreat
open Go.RowKit

def SameC (e : Ex) : Prop := ∀ (w : World) (v1 v2 : Value), exsSl w v1 e.args → exsSl w v2 e.args → Calls Tryz.prog 8 #[exVal e v1, exVal e v2] w fun r w' => r = .returned (.bool true) ∧ Kp [] w w'
def SamesC (es : List Ex) : Prop := ∀ (w : World) (v1 v2 : Value), exsSl w v1 es → exsSl w v2 es → Calls Tryz.prog 17 #[v1, v2] w fun r w' => r = .returned (.bool true) ∧ Kp [] w w'

set_option maxRecDepth 100000 in
set_option maxHeartbeats 2000000 in
theorem sames_step (es : List Ex) (IH : ∀ i (hi : i < es.length), SameC es[i]) : SamesC es := by
  intro w v1 v2 h1 h2
  obtain ⟨q1, cap1, rfl⟩ := h1.val
  obtain ⟨q2, cap2, rfl⟩ := h2.val
  obtain ⟨_, hnc1, hcap1⟩ := h1.len
  obtain ⟨_, hnc2, hcap2⟩ := h2.len
  obtain ⟨len, hlen⟩ : ∃ len, es.length = len := ⟨_, rfl⟩
  rw [hlen] at hnc1 hnc2 h1 h2 ⊢
  replace h1 := Lib.hid h1
  replace h2 := Lib.hid h2
  replace hlen := Lib.hid hlen
  replace IH := Lib.hid IH
  go_enter Tryz.func17, Tryz.ntmps17
  go_wp2
  go_loopw [5] (fun i wr => ∃ (k : Nat), k ≤ len ∧ i = .int .i64 k ∧ Hid (Kp [] w wr)) (fun i _ => len - (intOf i).toNat)
  case atStart => exact ⟨0, Nat.zero_le _, rfl, Kp.refl _ _⟩
  case round =>
    obtain ⟨k, hk, rfl, hK⟩ := hrel
    by_cases hlt : k < len
    · have hlt2 : k < es.length := by rw [hlen.out]; exact hlt
      obtain ⟨b, off, u, rfl, hu, c0, c1, c2, c3, c4, c5⟩ := h1.out.at_in hK.out k hlt2
      obtain ⟨b', off', u', rfl, hu', d0, d1, d2, d3, d4, d5⟩ := h2.out.at_in hK.out k hlt2
      have hcall := IH.out k hlt2
      obtain ⟨e, he⟩ : ∃ e, es[k] = e := ⟨_, rfl⟩
      rw [he] at c0 c1 c2 c3 c4 d0 d1 d2 d3 d4 hcall hu hu'
      clear he
      have hkw := hK.out.drew
      have hc2 := Lib.hid (hcall _ _ _ (hu.kp hkw) (hu'.kp hkw))
      obtain ⟨qu, cu, rfl⟩ := hu.val
      obtain ⟨qv, cv, rfl⟩ := hu'.val
      unfold exVal at hc2
      obtain ⟨lu, hlu⟩ : ∃ lu, e.args.length = lu := ⟨_, rfl⟩
      rw [hlu] at c5 d5 hc2
      clear hlu hu hu' hcall hkw
      go_wp2_with fail
      go_region_with (go_at_call 8; refine hc2.out.mono ?_; rintro r w2 ⟨rfl, hk2⟩)
      all_goals
        have hK2 := Lib.hid (hK.out.drew.trans hk2)
        clear c0 c1 c2 c3 c4 c5 d0 d1 d2 d3 d4 d5 hk2
        go_wp2_with fail
        go_roundw
        case rel => exact ⟨k + 1, by omega, by go_num, hK2⟩
        case measure => simp [intOf]; omega
    · go_wp2
      go_ret
      exact ⟨rfl, hK.out⟩

set_option maxRecDepth 100000 in
set_option maxHeartbeats 2000000 in
theorem same_step (e : Ex) (IH : SamesC e.args) : SameC e := by
  intro w v1 v2 h1 h2
  obtain ⟨q1, cap1, rfl⟩ := h1.val
  obtain ⟨q2, cap2, rfl⟩ := h2.val
  have hW : Kp [] w ((w.alloc (.cells #[.int .i64 e.op, .int .i64 e.kind, .int .i64 e.num, .string e.s, .string e.field, .slice q1 e.args.length cap1] 24)).alloc (.cells #[.int .i64 e.op, .int .i64 e.kind, .int .i64 e.num, .string e.s, .string e.field, .slice q2 e.args.length cap2] 24)) := ((Kp.refl [] w).alloc _).alloc _
  have hc := Lib.hid (IH _ _ _ (h1.kp hW) (h2.kp hW))
  unfold exVal
  obtain ⟨lu, hlu⟩ : ∃ lu, e.args.length = lu := ⟨_, rfl⟩
  rw [hlu] at hc hW ⊢
  replace hW := Lib.hid hW
  clear hlu h1 h2 IH
  go_enter Tryz.func8, Tryz.ntmps8
  go_wp2_with fail
  refine hc.out.mono ?_
  rintro r w2 ⟨rfl, hk⟩
  go_wp2_with fail
  go_ret
  exact ⟨rfl, hW.out.trans hk⟩
mutual
theorem same_c : ∀ e : Ex, SameC e
  | .mk op kind n s f args => same_step _ (sames_step args (sames_all args))
theorem sames_all : ∀ (es : List Ex) (i : Nat) (hi : i < es.length), SameC es[i]
  | e :: es, 0, _ => same_c e
  | e :: es, i + 1, hi => sames_all es i (by simpa using hi)
end
end Go.Proofs.YtgldbeacjacbcaaGreat
