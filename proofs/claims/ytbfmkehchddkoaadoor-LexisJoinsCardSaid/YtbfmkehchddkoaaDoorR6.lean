import Derived.Test.YtbfmkehchddkoaaDoorR5
import Derived.Test.YtbfmkehchddkoaaDoorLx12
namespace Go.Proofs.YtbfmkehchddkoaaDoor
open Go.RowKit

/-- What the reference's token says: the token, where it ends, whether there is one. -/
def RTok (s : ByteArray) (at_ : Nat) (w : World) (e : Ending) (w' : World) : Prop :=
  ∃ (x : Tok) (en : Nat) (ok : Bool), e = .returned (.tuple #[tokV x, .int .i64 en, .bool ok]) ∧ Kp [] w w' ∧
    ((tokL (s.data.toList.drop at_)).2 = 0 → ok = false) ∧
    ((tokL (s.data.toList.drop at_)).2 ≠ 0 → ok = true ∧ x = ⟨(tokL (s.data.toList.drop at_)).1, ⟨((s.data.toList.drop at_).take (tokL (s.data.toList.drop at_)).2).toArray⟩, at_⟩ ∧ en = at_ + (tokL (s.data.toList.drop at_)).2)

theorem text_take {s : ByteArray} {a b : Nat} : (s.extract a b).data.toList = (s.data.toList.drop a).take (b - a) := by
  rw [extract_L, List.drop_take]
theorem text_eq {s : ByteArray} {a b : Nat} : s.extract a b = ⟨((s.data.toList.drop a).take (b - a)).toArray⟩ := by
  rw [← text_take]

theorem rt_mk {s : ByteArray} {at_ kk en : Nat} {b : Bool} {w w' : World} (he : at_ < en) (h : tokL (s.data.toList.drop at_) = if b = true then (kk, en - at_) else (0, 0)) (hK : Kp [] w w') :
    RTok s at_ w (.returned (.tuple #[.agg #[.int .i64 kk, .string (s.extract at_ en), .int .i64 at_], .int .i64 en, .bool b])) w' := by
  refine ⟨⟨kk, s.extract at_ en, at_⟩, en, b, rfl, hK, ?_, ?_⟩
  · intro h0
    cases b
    · rfl
    · rw [h] at h0; simp at h0; omega
  · intro h0
    cases b
    · rw [h] at h0; simp at h0
    · rw [h]; simp only [if_true]
      exact ⟨trivial, by rw [text_eq], by omega⟩

theorem isTimeL_two {l : List UInt8} {k : Nat} (hp : List.isPrefixOf [116, 35] l = true) (hk : k ≤ (l.drop 2).length) : isTimeL (l.take (2 + k)) = isNumL ((l.drop 2).take k) 2147483647 := by
  obtain ⟨r, hr⟩ := List.isPrefixOf_iff_prefix.1 hp
  subst hr
  simp at hk
  cases k with
  | zero => simp [isTimeL, isNumL_nil]
  | succ k =>
    rw [isTimeL]
    have e1 : ([116, 35] ++ r : List UInt8).take (2 + (k + 1)) = 116 :: 35 :: r.take (k + 1) := by
      rw [show 2 + (k + 1) = (k + 1) + 1 + 1 by omega]; rfl
    rw [e1]
    simp
    intro _
    omega

theorem time_at {s : ByteArray} {k : Nat} (h : k < s.size) (h2 : k + 1 < s.size) :
    List.isPrefixOf [116, 35] (s.data.toList.drop k) = (((s[k].toNat : Int) == 116) && ((s[k + 1].toNat : Int) == 35)) := by
  rw [drop_cons s k h, drop_cons s (k + 1) h2]
  have e : ∀ c d : UInt8, (d == c) = ((c.toNat : Int) == (d.toNat : Int)) := fun c d => by
    rw [Bool.eq_iff_iff, beq_iff_eq, beq_iff_eq]
    constructor
    · rintro rfl; rfl
    · intro e; exact UInt8.toNat_inj.1 (by omega)
  simp only [List.isPrefixOf, Bool.and_true, e]
  rfl
theorem time_last {s : ByteArray} {k : Nat} (h : k < s.size) (h2 : ¬ k + 1 < s.size) :
    List.isPrefixOf [116, 35] (s.data.toList.drop k) = false := by
  rw [drop_cons s k h, List.drop_of_length_le (by rw [Array.length_toList]; show s.size ≤ k + 1; omega)]
  simp [List.isPrefixOf]

theorem head_at {s : ByteArray} {k : Nat} (h : k < s.size) : (s.data.toList.drop k).headD 0 = s[k] := by
  rw [drop_cons s k h]; rfl

set_option maxHeartbeats 2000000 in
theorem rtoken_time (s : ByteArray) (at_ : Nat) (w : World) (hs : s.size ≤ 8001) (ha : at_ < s.size) (hp : List.isPrefixOf [116, 35] (s.data.toList.drop at_) = true) :
    Calls Tryd.prog 35 #[.string s, .int .i64 at_] w (RTok s at_ w) := by
  have h2 : at_ + 1 < s.size := by
    rcases Nat.lt_or_ge (at_ + 1) s.size with h | h
    · exact h
    · rw [time_last ha (by omega)] at hp; cases hp
  have hp2 := Lib.hid hp
  rw [time_at ha h2, Bool.and_eq_true] at hp
  obtain ⟨c1, c2⟩ := hp
  have g1 : decide ((at_ : Int) + 1 < (s.size : Int)) = true := by simp; omega
  obtain ⟨en, hen⟩ : ∃ en, at_ + 2 + spanL isDig (s.data.toList.drop (at_ + 2)) = en := ⟨_, rfl⟩
  have he1 : at_ + 2 ≤ en := by omega
  have hsp := spanL_le isDig (s.data.toList.drop (at_ + 2))
  have he2 : en ≤ s.size := by simp only [List.length_drop, Array.length_toList] at hsp; have : s.data.size = s.size := rfl; omega
  have hx : (s.extract at_ en).size ≤ 140737488355328 := by rw [ByteArray.size_extract]; omega
  have hT : Hid (tokL (s.data.toList.drop at_) = if isTimeL (s.extract at_ en).data.toList = true then (3, en - at_) else (0, 0)) := by
    show _ = _
    rw [tokL, pickL, if_pos hp2.out, timeL, text_take, List.drop_drop]
    have e : en - at_ = 2 + spanL isDig (s.data.toList.drop (at_ + 2)) := by omega
    rw [e, isTimeL_two hp2.out (by rw [List.drop_drop]; exact hsp), List.drop_drop]
  replace hen := Lib.hid hen
  clear hsp
  have hi1 : (0 : Int) ≤ at_ := by omega
  have hi2 : (at_ : Int) ≤ en := by omega
  have hi3 : (en : Int) ≤ s.size := by omega
  go_enter Tryd.func35, Tryd.ntmps35
  go_wp2_with fail
  refine (rspan_dig s (at_ + 2) _ (by omega) (by omega)).mono ?_
  rintro e w' ⟨rfl, rfl⟩
  rw [hen.out]
  go_wp2_with fail
  go_region_with (go_at_call 52; refine (rtime_c _ _ hx).mono ?_; rintro e w' ⟨rfl, rfl⟩)
  all_goals
    go_wp2_with fail
    refine bodyPost_ret (v := .tuple #[.agg #[.int .i64 3, .string (s.extract at_ en), .int .i64 at_], .int .i64 en, .bool (isTimeL (s.extract at_ en).data.toList)]) (by simp [results, Tryd.results35, go_sem]) rfl (rt_mk (by omega) hT.out ?_)
  all_goals exact ((Kp.refl _ w).alloc _).drew

theorem let_116 {c : UInt8} (h : isLet c = false) : ((c.toNat : Int) == 116) = false := by
  rw [Bool.eq_false_iff]; intro e
  have : c = 116 := UInt8.toNat_inj.1 (by simp at e; show c.toNat = 116; omega)
  subst this; cases h

theorem not_time {s : ByteArray} {k : Nat} (h : k < s.size) (hl : isLet s[k] = false) : List.isPrefixOf [116, 35] (s.data.toList.drop k) = false := by
  by_cases h2 : k + 1 < s.size
  · rw [time_at h h2, let_116 hl]; rfl
  · exact time_last h h2

theorem span_pos {p : UInt8 → Bool} {s : ByteArray} {k : Nat} (h : k < s.size) (hp : p s[k] = true) : 0 < spanL p (s.data.toList.drop k) := by
  rw [span_step h, hp]; simp; omega

theorem size_extract_le {s : ByteArray} {a b : Nat} (h : s.size ≤ 8001) : (s.extract a b).size ≤ 140737488355328 := by rw [ByteArray.size_extract]; omega

theorem spanL_drop_le (p : UInt8 → Bool) (s : ByteArray) (k : Nat) : spanL p (s.data.toList.drop k) ≤ s.size - k := by
  have := spanL_le p (s.data.toList.drop k)
  simpa using this

set_option maxHeartbeats 2000000 in
theorem rtoken_num (s : ByteArray) (at_ : Nat) (w : World) (hs : s.size ≤ 8001) (ha : at_ < s.size) (hl : isLet s[at_] = false) (hd : isDig s[at_] = true) :
    Calls Tryd.prog 35 #[.string s, .int .i64 at_] w (RTok s at_ w) := by
  have hp := not_time ha hl
  have h116 := let_116 hl
  obtain ⟨en, hen⟩ : ∃ en, at_ + spanL isDig (s.data.toList.drop at_) = en := ⟨_, rfl⟩
  have hpos := span_pos ha hd
  have hsp := spanL_drop_le isDig s at_
  have he1 : at_ < en := by omega
  have he2 : en ≤ s.size := by omega
  have hx : (s.extract at_ en).size ≤ 140737488355328 := size_extract_le hs
  have hT : Hid (tokL (s.data.toList.drop at_) = if isNumS (s.extract at_ en) 2147483647 = true then (2, en - at_) else (0, 0)) := by
    show _ = _
    have e : en - at_ = spanL isDig (s.data.toList.drop at_) := by omega
    rw [tokL, pickL, hp, head_at ha, hl, hd, isNumS_L, text_take, e]; rfl
  replace hen := Lib.hid hen
  clear hpos hsp hp
  have hi1 : (0 : Int) ≤ at_ := by omega
  have hi2 : (at_ : Int) ≤ en := by omega
  have hi3 : (en : Int) ≤ s.size := by omega
  go_enter Tryd.func35, Tryd.ntmps35
  go_wp2_with (first | (go_at_call 45; refine (rletter_c _ _).mono ?_; rintro e w' ⟨rfl, rfl⟩) | (go_at_call 46; refine (rdigit_c _ _).mono ?_; rintro e w' ⟨rfl, rfl⟩))
  refine (rspan_dig s at_ _ (by omega) (by omega)).mono ?_
  rintro e w' ⟨rfl, rfl⟩
  rw [hen.out]
  go_wp2_with fail
  go_region_with (go_at_call 49; refine (rnum_c _ 2147483647 _ (by omega) hx).mono ?_; rintro e w' ⟨rfl, rfl⟩)
  all_goals
    go_wp2_with fail
    refine bodyPost_ret (v := .tuple #[.agg #[.int .i64 2, .string (s.extract at_ en), .int .i64 at_], .int .i64 en, .bool (isNumS (s.extract at_ en) 2147483647)]) (by simp [results, Tryd.results35, go_sem]) rfl (rt_mk (by omega) hT.out ?_)
  all_goals exact ((Kp.refl _ w).alloc _).drew

set_option maxHeartbeats 2000000 in
theorem rtoken_adr (s : ByteArray) (at_ : Nat) (w : World) (hs : s.size ≤ 8001) (ha : at_ < s.size) (hl : isLet s[at_] = false) (hd : isDig s[at_] = false) (hc : ((s[at_].toNat : Int) == 37) = true) :
    Calls Tryd.prog 35 #[.string s, .int .i64 at_] w (RTok s at_ w) := by
  have hp := not_time ha hl
  have h116 := let_116 hl
  obtain ⟨en, hen⟩ : ∃ en, at_ + 1 + spanL isAdr (s.data.toList.drop (at_ + 1)) = en := ⟨_, rfl⟩
  have hsp := spanL_drop_le isAdr s (at_ + 1)
  have he1 : at_ < en := by omega
  have he2 : en ≤ s.size := by omega
  have hx : (s.extract at_ en).size ≤ 140737488355328 := size_extract_le hs
  have hT : Hid (tokL (s.data.toList.drop at_) = if isAddrL (s.extract at_ en).data.toList = true then (6, en - at_) else (0, 0)) := by
    show _ = _
    have e : en - at_ = 1 + spanL isAdr (s.data.toList.drop (at_ + 1)) := by omega
    have hc2 : isPct s[at_] = true := hc
    rw [tokL, pickL, hp, head_at ha, hl, hd, hc2, text_take, e, adrL, List.drop_drop]; rfl
  replace hen := Lib.hid hen
  clear hsp hp
  have hi1 : (0 : Int) ≤ at_ := by omega
  have hi2 : (at_ : Int) ≤ en := by omega
  have hi3 : (en : Int) ≤ s.size := by omega
  go_enter Tryd.func35, Tryd.ntmps35
  go_wp2_with (first | (go_at_call 45; refine (rletter_c _ _).mono ?_; rintro e w' ⟨rfl, rfl⟩) | (go_at_call 46; refine (rdigit_c _ _).mono ?_; rintro e w' ⟨rfl, rfl⟩))
  refine (rspan_adr s (at_ + 1) _ (by omega) (by omega)).mono ?_
  rintro e w' ⟨rfl, rfl⟩
  rw [hen.out]
  go_wp2_with fail
  go_region_with (go_at_call 27; refine (raddr_c _ _ hx).mono ?_; rintro e w' ⟨rfl, rfl⟩)
  all_goals
    go_wp2_with fail
    refine bodyPost_ret (v := .tuple #[.agg #[.int .i64 6, .string (s.extract at_ en), .int .i64 at_], .int .i64 en, .bool (isAddrL (s.extract at_ en).data.toList)]) (by simp [results, Tryd.results35, go_sem]) rfl (rt_mk (by omega) hT.out ?_)
  all_goals exact ((Kp.refl _ w).alloc _).drew
end Go.Proofs.YtbfmkehchddkoaaDoor
