import Derived.Test.YtbfmkehchddkoaaDoorR6
namespace Go.Proofs.YtbfmkehchddkoaaDoor
open Go.RowKit

set_option maxHeartbeats 4000000 in
theorem rtoken_run (s : ByteArray) (at_ : Nat) (w : World) (hs : s.size ≤ 8001) (ha : at_ < s.size) (hl : isLet s[at_] = true) (hp : List.isPrefixOf [116, 35] (s.data.toList.drop at_) = false) :
    Calls Tryd.prog 35 #[.string s, .int .i64 at_] w (RTok s at_ w) := by
  obtain ⟨en, hen⟩ : ∃ en, at_ + spanL isRunB (s.data.toList.drop at_) = en := ⟨_, rfl⟩
  have hpos := span_pos ha (p := isRunB) (by rw [isRunB_or, hl]; rfl)
  have hsp := spanL_drop_le isRunB s at_
  have he1 : at_ < en := by omega
  have he2 : en ≤ s.size := by omega
  have hx : (s.extract at_ en).size ≤ 140737488355328 := size_extract_le hs
  have hT : Hid (tokL (s.data.toList.drop at_) = if isWordL (s.extract at_ en).data.toList = true then (5, en - at_) else if isNameL (s.extract at_ en).data.toList = true then (1, en - at_) else (0, 0)) := by
    show _ = _
    have e : en - at_ = spanL isRunB (s.data.toList.drop at_) := by omega
    rw [tokL, pickL, hp, head_at ha, hl, text_take, e]; rfl
  have h3 : ((s[at_].toNat : Int) == 116) = false ∨ (((s[at_].toNat : Int) == 116) = true ∧ ¬ at_ + 1 < s.size) ∨ ∃ h : at_ + 1 < s.size, ((s[at_].toNat : Int) == 116) = true ∧ ((s[at_ + 1].toNat : Int) == 35) = false := by
    cases hc : ((s[at_].toNat : Int) == 116)
    · exact .inl rfl
    · by_cases h2 : at_ + 1 < s.size
      · rw [time_at ha h2, hc, Bool.true_and] at hp
        exact .inr (.inr ⟨h2, rfl, hp⟩)
      · exact .inr (.inl ⟨rfl, h2⟩)
  replace hen := Lib.hid hen
  clear hpos hsp hp
  have hi1 : (0 : Int) ≤ at_ := by omega
  have hi2 : (at_ : Int) ≤ en := by omega
  have hi3 : (en : Int) ≤ s.size := by omega
  cases hw : isWordL (s.extract at_ en).data.toList
  · rcases h3 with h3 | ⟨h3, h4⟩ | ⟨h4, h3, h5⟩
    case' inr.inl => have g1 : decide ((at_ : Int) + 1 < (s.size : Int)) = false := by simp; omega
    case' inr.inr => have g1 : decide ((at_ : Int) + 1 < (s.size : Int)) = true := by simp; omega
    all_goals
      go_enter Tryd.func35, Tryd.ntmps35
      go_wp2_with (first | (go_at_call 45; refine (rletter_c _ _).mono ?_; rintro e w' ⟨rfl, rfl⟩))
      refine (rspan_run s at_ _ (by omega) (by omega)).mono ?_
      rintro e w' ⟨rfl, rfl⟩
      rw [hen.out]
      go_wp2_with fail
      refine (rword_c _ _).mono ?_
      rintro e w1 ⟨rfl, hk1⟩
      rw [hw]
      go_wp2_with fail
      refine (rname_c _ _ hx).mono ?_
      rintro e w2 ⟨rfl, hk2⟩
      have hk := hk1.trans hk2
      have hb := (Blk.new w 46 #[.int .i64 0, .string ⟨#[]⟩, .int .i64 0]).kp hk (by simp)
      have c0 := hb.cell 0 rfl
      have c1 := hb.cell 1 rfl
      have c2 := hb.cell 2 rfl
      have f0 := hb.frozen 0
      have f1 := hb.frozen 1
      have f2 := hb.frozen 2
      go_wp2_with fail
      refine bodyPost_ret (v := .tuple #[.agg #[.int .i64 1, .string (s.extract at_ en), .int .i64 at_], .int .i64 en, .bool (isNameL (s.extract at_ en).data.toList)]) (by simp [results, Tryd.results35, go_sem, c0, c1, c2]) rfl (rt_mk he1 (by rw [hT.out, hw]; rfl) ?_)
      exact (((((Kp.refl _ w).alloc _).trans hk).setCell (.inr (Nat.le_refl _)) _).setCell (.inr (Nat.le_refl _)) _).setCell (.inr (Nat.le_refl _)) _
  · rcases h3 with h3 | ⟨h3, h4⟩ | ⟨h4, h3, h5⟩
    case' inr.inl => have g1 : decide ((at_ : Int) + 1 < (s.size : Int)) = false := by simp; omega
    case' inr.inr => have g1 : decide ((at_ : Int) + 1 < (s.size : Int)) = true := by simp; omega
    all_goals
      go_enter Tryd.func35, Tryd.ntmps35
      go_wp2_with (first | (go_at_call 45; refine (rletter_c _ _).mono ?_; rintro e w' ⟨rfl, rfl⟩))
      refine (rspan_run s at_ _ (by omega) (by omega)).mono ?_
      rintro e w' ⟨rfl, rfl⟩
      rw [hen.out]
      go_wp2_with fail
      refine (rword_c _ _).mono ?_
      rintro e w1 ⟨rfl, hk⟩
      rw [hw]
      have hb := (Blk.new w 46 #[.int .i64 0, .string ⟨#[]⟩, .int .i64 0]).kp hk (by simp)
      have c0 := hb.cell 0 rfl
      have c1 := hb.cell 1 rfl
      have c2 := hb.cell 2 rfl
      have f0 := hb.frozen 0
      have f1 := hb.frozen 1
      have f2 := hb.frozen 2
      go_wp2_with fail
      refine bodyPost_ret (v := .tuple #[.agg #[.int .i64 5, .string (s.extract at_ en), .int .i64 at_], .int .i64 en, .bool true]) (by simp [results, Tryd.results35, go_sem, c0, c1, c2]) rfl (rt_mk he1 (by rw [hT.out, hw]; rfl) ?_)
      exact (((((Kp.refl _ w).alloc _).trans hk).setCell (.inr (Nat.le_refl _)) _).setCell (.inr (Nat.le_refl _)) _).setCell (.inr (Nat.le_refl _)) _
end Go.Proofs.YtbfmkehchddkoaaDoor
