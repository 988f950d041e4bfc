import Derived.Test.YtbfmkehchddkoaaDoorR7
namespace Go.Proofs.YtbfmkehchddkoaaDoor
open Go.RowKit

theorem sgn_facts {s : ByteArray} {at_ : Nat} (ha : at_ < s.size) (hl : isLet s[at_] = false) (hd : isDig s[at_] = false) (hc : ((s[at_].toNat : Int) == 37) = false) :
    tokL (s.data.toList.drop at_) = if at_ + 2 ≤ s.size ∧ isSignL (s.extract at_ (at_ + 2)).data.toList = true then (4, 2) else if isSignL (s.extract at_ (at_ + 1)).data.toList = true then (4, 1) else (0, 0) := by
  have hc2 : isPct s[at_] = false := hc
  rw [tokL, pickL, not_time ha hl, head_at ha, hl, hd, hc2, text_take, text_take, sgnL]
  have e1 : at_ + 2 - at_ = 2 := by omega
  have e2 : at_ + 1 - at_ = 1 := by omega
  have e3 : (s.data.toList.drop at_).length = s.size - at_ := by rw [List.length_drop, Array.length_toList]; rfl
  have e4 : (2 ≤ s.size - at_) = (at_ + 2 ≤ s.size) := by rw [eq_iff_iff]; omega
  rw [e1, e2, e3]
  simp only [e4, Bool.false_eq_true, if_false]

set_option maxHeartbeats 2000000 in
theorem rtoken_two (s : ByteArray) (at_ : Nat) (w : World) (hs : s.size ≤ 8001) (ha : at_ < s.size) (hl : isLet s[at_] = false) (hd : isDig s[at_] = false) (hc : ((s[at_].toNat : Int) == 37) = false)
    (h2 : at_ + 2 ≤ s.size) (hsg : isSignL (s.extract at_ (at_ + 2)).data.toList = true) :
    Calls Tryd.prog 35 #[.string s, .int .i64 at_] w (RTok s at_ w) := by
  have hT := Lib.hid (sgn_facts ha hl hd hc)
  have h116 := let_116 hl
  have hi1 : (0 : Int) ≤ at_ := by omega
  have hi2 : (at_ : Int) ≤ (at_ : Int) + 2 := by omega
  have hi3 : (at_ : Int) + 2 ≤ s.size := by omega
  have g1 : decide ((at_ : Int) + 2 ≤ (s.size : Int)) = true := by simp; omega
  go_enter Tryd.func35, Tryd.ntmps35
  go_wp2_with (first | (go_at_call 45; refine (rletter_c _ _).mono ?_; rintro e w' ⟨rfl, rfl⟩) | (go_at_call 46; refine (rdigit_c _ _).mono ?_; rintro e w' ⟨rfl, rfl⟩))
  refine (rsign_c _ _).mono ?_
  rintro e w1 ⟨rfl, hk⟩
  rw [hsg]
  have hb := (Blk.new w 46 #[.int .i64 0, .string ⟨#[]⟩, .int .i64 0]).kp hk (by simp)
  have c0 := hb.cell 0 rfl
  have c1 := hb.cell 1 rfl
  have c2 := hb.cell 2 rfl
  have f0 := hb.frozen 0
  have f1 := hb.frozen 1
  have f2 := hb.frozen 2
  go_wp2_with fail
  refine bodyPost_ret (v := .tuple #[.agg #[.int .i64 4, .string (s.extract at_ (at_ + 2)), .int .i64 at_], .int .i64 ((at_ + 2 : Nat) : Int), .bool true]) (by simp [results, Tryd.results35, go_sem, c0, c1, c2]) rfl (rt_mk (by omega) (by rw [hT.out, if_pos ⟨h2, hsg⟩, show at_ + 2 - at_ = 2 by omega]; rfl) ?_)
  exact (((((Kp.refl _ w).alloc _).trans hk).setCell (.inr (Nat.le_refl _)) _).setCell (.inr (Nat.le_refl _)) _).setCell (.inr (Nat.le_refl _)) _

set_option maxRecDepth 100000 in
set_option maxHeartbeats 2000000 in
theorem rtoken_one (s : ByteArray) (at_ : Nat) (w : World) (hs : s.size ≤ 8001) (ha : at_ < s.size) (hl : isLet s[at_] = false) (hd : isDig s[at_] = false) (hc : ((s[at_].toNat : Int) == 37) = false)
    (h2 : ¬ at_ + 2 ≤ s.size) :
    Calls Tryd.prog 35 #[.string s, .int .i64 at_] w (RTok s at_ w) := by
  have hT := Lib.hid (sgn_facts ha hl hd hc)
  have h116 := let_116 hl
  have hi1 : (0 : Int) ≤ at_ := by omega
  have hi2 : (at_ : Int) ≤ (at_ : Int) + 1 := by omega
  have hi3 : (at_ : Int) + 1 ≤ s.size := by omega
  have g1 : decide ((at_ : Int) + 2 ≤ (s.size : Int)) = false := by simp; omega
  go_enter Tryd.func35, Tryd.ntmps35
  go_wp2_with (first | (go_at_call 45; refine (rletter_c _ _).mono ?_; rintro e w' ⟨rfl, rfl⟩) | (go_at_call 46; refine (rdigit_c _ _).mono ?_; rintro e w' ⟨rfl, rfl⟩))
  have hb0 := Lib.hid (Blk.new w 46 #[.int .i64 0, .string ⟨#[]⟩, .int .i64 0])
  have hw1 : IntKind.i64.wrap ((at_ : Int) + 1) = (at_ : Int) + 1 := IntWalk.i64_in _ (by omega)
  have hw2 : (0 : Int) ≤ (at_ : Int) + 1 := by omega
  have hw3 : ((at_ : Int) + 1).toNat = at_ + 1 := by omega
  go_region_with (go_at_call 53; refine (rsign_c _ _).mono ?_; rintro e w1 ⟨rfl, hk⟩; (first | have hb := Blk.kp (Blk.drew hb0.out) hk List.not_mem_nil | have hb := Blk.kp (Blk.drew (Blk.new w 46 #[.int .i64 4, .string (s.extract at_ (at_ + 1)), .int .i64 at_])) hk List.not_mem_nil); have c0 := hb.cell 0 rfl; have c1 := hb.cell 1 rfl; have c2 := hb.cell 2 rfl; have f0 := hb.frozen 0; have f1 := hb.frozen 1; have f2 := hb.frozen 2)
  all_goals
    clear hw1 hw2 hw3
    go_wp2_with fail
    refine bodyPost_ret (v := .tuple #[.agg #[.int .i64 4, .string (s.extract at_ (at_ + 1)), .int .i64 at_], .int .i64 ((at_ + 1 : Nat) : Int), .bool (isSignL (s.extract at_ (at_ + 1)).data.toList)]) (by simp [results, Tryd.results35, go_sem, c0, c1, c2]) rfl (rt_mk (by omega) (by rw [hT.out, if_neg (fun h => h2 h.1), show at_ + 1 - at_ = 1 by omega]) ?_)
    exact (((((Kp.refl _ w).alloc _).drew.trans hk).setCell (.inr (Nat.le_refl _)) _).setCell (.inr (Nat.le_refl _)) _).setCell (.inr (Nat.le_refl _)) _

set_option maxRecDepth 100000 in
set_option maxHeartbeats 2000000 in
theorem rtoken_one' (s : ByteArray) (at_ : Nat) (w : World) (hs : s.size ≤ 8001) (ha : at_ < s.size) (hl : isLet s[at_] = false) (hd : isDig s[at_] = false) (hc : ((s[at_].toNat : Int) == 37) = false)
    (h2 : at_ + 2 ≤ s.size) (hsg : isSignL (s.extract at_ (at_ + 2)).data.toList = false) :
    Calls Tryd.prog 35 #[.string s, .int .i64 at_] w (RTok s at_ w) := by
  have hT := Lib.hid (sgn_facts ha hl hd hc)
  have h116 := let_116 hl
  have hi1 : (0 : Int) ≤ at_ := by omega
  have hi2 : (at_ : Int) ≤ (at_ : Int) + 2 := by omega
  have hi3 : (at_ : Int) + 2 ≤ s.size := by omega
  have hi4 : (at_ : Int) ≤ (at_ : Int) + 1 := by omega
  have hi5 : (at_ : Int) + 1 ≤ s.size := by omega
  have g1 : decide ((at_ : Int) + 2 ≤ (s.size : Int)) = true := by simp; omega
  go_enter Tryd.func35, Tryd.ntmps35
  go_wp2_with (first | (go_at_call 45; refine (rletter_c _ _).mono ?_; rintro e w' ⟨rfl, rfl⟩) | (go_at_call 46; refine (rdigit_c _ _).mono ?_; rintro e w' ⟨rfl, rfl⟩))
  refine (rsign_c _ _).mono ?_
  rintro e w1 ⟨rfl, hk1⟩
  rw [hsg]
  have hb0 := Blk.kp (Blk.new w 46 #[.int .i64 0, .string ⟨#[]⟩, .int .i64 0]) hk1 (by simp)
  replace hb0 := Lib.hid hb0
  go_wp2_with fail
  have hw1 : IntKind.i64.wrap ((at_ : Int) + 1) = (at_ : Int) + 1 := IntWalk.i64_in _ (by omega)
  have hw2 : (0 : Int) ≤ (at_ : Int) + 1 := by omega
  have hw3 : ((at_ : Int) + 1).toNat = at_ + 1 := by omega
  go_region_with (go_at_call 53; refine (rsign_c _ _).mono ?_; rintro e w2 ⟨rfl, hk⟩; have hb := Blk.kp (Blk.drew hb0.out) hk List.not_mem_nil; have c0 := hb.cell 0 rfl; have c1 := hb.cell 1 rfl; have c2 := hb.cell 2 rfl; have f0 := hb.frozen 0; have f1 := hb.frozen 1; have f2 := hb.frozen 2)
  all_goals
    clear hw1 hw2 hw3
    go_wp2_with fail
    refine bodyPost_ret (v := .tuple #[.agg #[.int .i64 4, .string (s.extract at_ (at_ + 1)), .int .i64 at_], .int .i64 ((at_ + 1 : Nat) : Int), .bool (isSignL (s.extract at_ (at_ + 1)).data.toList)]) (by simp [results, Tryd.results35, go_sem, c0, c1, c2]) rfl (rt_mk (by omega) (by rw [hT.out, if_neg (fun h => by rw [hsg] at h; exact absurd h.2 (by decide)), show at_ + 1 - at_ = 1 by omega]) ?_)
    exact ((((((Kp.refl _ w).alloc _).trans hk1).drew.trans hk).setCell (.inr (Nat.le_refl _)) _).setCell (.inr (Nat.le_refl _)) _).setCell (.inr (Nat.le_refl _)) _

theorem rtoken_c (s : ByteArray) (at_ : Nat) (w : World) (hs : s.size ≤ 8001) (ha : at_ < s.size) :
    Calls Tryd.prog 35 #[.string s, .int .i64 at_] w (RTok s at_ w) := by
  cases hp : List.isPrefixOf [116, 35] (s.data.toList.drop at_)
  · cases hl : isLet s[at_]
    · cases hd : isDig s[at_]
      · cases hc : ((s[at_].toNat : Int) == 37)
        · by_cases h2 : at_ + 2 ≤ s.size
          · cases hsg : isSignL (s.extract at_ (at_ + 2)).data.toList
            · exact rtoken_one' s at_ w hs ha hl hd hc h2 hsg
            · exact rtoken_two s at_ w hs ha hl hd hc h2 hsg
          · exact rtoken_one s at_ w hs ha hl hd hc h2
        · exact rtoken_adr s at_ w hs ha hl hd hc
      · exact rtoken_num s at_ w hs ha hl hd
    · exact rtoken_run s at_ w hs ha hl hp
  · exact rtoken_time s at_ w hs ha hp
end Go.Proofs.YtbfmkehchddkoaaDoor
