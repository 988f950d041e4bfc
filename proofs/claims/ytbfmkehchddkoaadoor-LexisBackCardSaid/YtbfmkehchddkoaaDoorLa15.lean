import Derived.Test.YtbfmkehchddkoaaDoorSc4
import Derived.Test.YtbfmkehchddkoaaDoorLa5
namespace Go.Proofs.YtbfmkehchddkoaaDoor
open Go.RowKit

theorem tiAt_of {W : World} {g i : Nat} {x : Tok} (h : TokAt W g i x) : TiAt W g i (ti x) := h

theorem TokSl.atc {W : World} {v : Value} {ts : List Tok} (h : TokSl W v ts) (hn : 0 < ts.length) : ∃ g cap, v = .slice (some ⟨g, 0, none⟩) ts.length cap ∧ ts.length ≤ cap ∧ cap ≤ maxLen ∧
    ∀ i x, ts[i]? = some x → TokAt W g i x := by
  obtain ⟨g, cap, e, h1⟩ := h.at hn
  obtain ⟨base, _, hr⟩ := h
  rcases hr with ⟨rfl, _⟩ | ⟨g', cap', cur, e', _, _, hc, hm, _⟩
  · cases e
  · rw [e] at e'
    cases e'
    exact ⟨g, cap, e, hc, hm, h1⟩

theorem jt_tokens {ts us : List Tok} (h : SameL ts us) : ts.length = us.length ∧ ∀ (i : Nat) (x : Tok), ts[i]? = some x → ∃ y, us[i]? = some y ∧ sameT x y := by
  induction h with
  | nil => exact ⟨rfl, fun i x h => by simp at h⟩
  | @cons x y xs ys hxy _ ih =>
    refine ⟨by simp [ih.1], fun i z hz => ?_⟩
    cases i with
    | zero => simp at hz; subst hz; exact ⟨y, rfl, hxy⟩
    | succ i => exact ih.2 i z (by simpa using hz)

theorem SameL.snoc {ts us : List Tok} (h : SameL ts us) {x y : Tok} (hxy : sameT x y) : SameL (ts ++ [x]) (us ++ [y]) := by
  induction h with
  | nil => exact .cons hxy .nil
  | cons h _ ih => exact .cons h ih

theorem head_sizes : ∀ (f : Nat) (l : List UInt8) (i : Nat), ∀ x ∈ (headL f l i).1, x.text.size ≤ l.length := by
  intro f
  induction f with
  | zero => intro l i x hx; simp [headL] at hx
  | succ f ih =>
    intro l i x hx
    by_cases hl : l = []
    · rw [hl, headL_end, List.mem_singleton] at hx
      subst hx; exact Nat.zero_le _
    · by_cases h0 : (tokL l).2 = 0
      · rw [headL_stop hl h0] at hx; simp at hx
      · rw [headL_cons hl h0] at hx
        unfold scanL at hx
        rw [List.mem_cons] at hx
        rcases hx with rfl | hx
        · show (l.take (tokL l).2).toArray.size ≤ _
          rw [List.size_toArray, List.length_take]; omega
        · have := ih _ _ x hx
          rw [List.length_drop, List.length_drop] at this
          omega
theorem toks_sizes (l : List UInt8) : ∀ x ∈ (toksL l).1, x.text.size ≤ l.length := by
  intro x hx
  have := head_sizes (l.length + 1) (l.drop (skipL l)) (skipL l) x hx
  rw [List.length_drop] at this
  omega

theorem tiArr {W : World} {g : Nat} {l : List Tok} (h : ∀ i x, l[i]? = some x → TokAt W g i x) : ∀ i x, (l.map ti)[i]? = some x → TiAt W g i x := by
  intro i x hx
  rw [List.getElem?_map] at hx
  cases hg : l[i]? with
  | none => rw [hg] at hx; cases hx
  | some y =>
    rw [hg] at hx
    cases hx
    exact tiAt_of (h i y hg)
theorem tiSizes {l : List Tok} (h : ∀ x ∈ l, x.text.size ≤ 8001) : ∀ x ∈ l.map ti, x.text.size ≤ 140737488355328 ∧ (isTokI x = true → x.text.size ≤ 10000) := by
  intro x hx
  obtain ⟨y, hy, rfl⟩ := List.mem_map.1 hx
  have : (ti y).text.size ≤ 8001 := h y hy
  exact ⟨by omega, fun _ => by omega⟩

theorem same_mem {ts us : List Tok} (h : SameL ts us) : ∀ y ∈ us, ∃ x ∈ ts, x.text = y.text := by
  induction h with
  | nil => intro y hy; simp at hy
  | @cons x y xs ys hxy _ ih =>
    intro z hz
    rw [List.mem_cons] at hz
    rcases hz with rfl | hz
    · exact ⟨x, by simp, hxy.2⟩
    · obtain ⟨x', h1, h2⟩ := ih z hz
      exact ⟨x', by simp [h1], h2⟩

set_option maxRecDepth 100000 in
set_option maxHeartbeats 2000000 in
theorem back_ok (s0 : ByteArray) (w : World) (hA : Amb w) (hs8 : (briefS s0).size ≤ 8000) (h0 : Hid ((toksL (briefS s0).data.toList).2 = (briefS s0).size)) :
    Calls Tryd.prog 7 #[.string s0] w fun e w' => e = .returned (.bool true) ∧ Kp [] w w' := by
  obtain ⟨s, hs⟩ : ∃ s, briefS s0 = s := ⟨_, rfl⟩
  rw [hs] at hs8 h0
  replace hs := Lib.hid hs
  obtain ⟨B1, _⟩ := toks_bounds s.data.toList
  have hsl : s.data.toList.length = s.size := by simp
  rw [hsl] at B1
  obtain ⟨ts, u1⟩ : ∃ us, (toksL s.data.toList).1 = us ++ [⟨7, ⟨#[]⟩, s.size⟩] := by
    obtain ⟨_, _, P⟩ := toks_parts s.data.toList []
    rw [hsl] at P
    obtain ⟨us, u1, _⟩ := P h0.out
    exact ⟨us, u1⟩
  have hwh := toks_whole u1
  rw [u1, List.length_append, List.length_singleton] at B1
  clear hsl
  obtain ⟨us, hsame, htj⟩ := toks_jt ts hwh
  have hlens := (jt_tokens hsame).1
  replace u1 := Lib.hid u1
  go_enter Tryd.func7, Tryd.ntmps7
  go_wp2_with (go_at_call 12; refine (brief_c _ _).mono ?_; rintro e w' ⟨rfl, rfl⟩)
  rw [hs.out]
  refine (tokens_ok s _ hA hs8 h0.out).mono ?_
  rintro e w1 ⟨v1, rfl, hk1, S1⟩
  rw [u1.out] at S1
  have hA1 := hA.kp0 hk1
  obtain ⟨g1, c1, rfl, _, _, C1⟩ := S1.atc (by simp)
  have hsz1 : ∀ x ∈ ts ++ [(⟨7, ⟨#[]⟩, s.size⟩ : Tok)], x.text.size ≤ 8001 := by
    intro x hx
    have := toks_sizes s.data.toList x (by rw [u1.out]; exact hx)
    rw [Array.length_toList] at this
    have h2 : s.data.size = s.size := rfl
    omega
  have J1 := join_c g1 c1 ((ts ++ [(⟨7, ⟨#[]⟩, s.size⟩ : Tok)]).map ti) w1 hA1 (tiArr C1) (by rw [List.length_map, List.length_append, List.length_singleton]; omega) (tiSizes hsz1)
  rw [List.length_map] at J1
  have hsz2 : ∀ x ∈ us, x.text.size ≤ 8001 := by
    intro y hy
    obtain ⟨x, hx, e⟩ := same_mem hsame y hy
    rw [← e]
    exact hsz1 x (by simp [hx])
  obtain ⟨o, ho⟩ : ∃ o, jn true [] ((ts ++ [(⟨7, ⟨#[]⟩, s.size⟩ : Tok)]).map ti) = o := ⟨_, rfl⟩
  rw [ho] at J1
  rw [List.map_append, List.map_singleton, jn_end_free ts hwh] at ho
  have hlen : (ts ++ [(⟨7, ⟨#[]⟩, s.size⟩ : Tok)]).length = ts.length + 1 := by simp
  rw [hlen] at J1 ⊢
  replace J1 := Lib.hid J1
  replace C1 := Lib.hid C1
  replace hsz2 := Lib.hid hsz2
  obtain ⟨n, hn⟩ : ∃ n, ts.length = n := ⟨_, rfl⟩
  rw [hn] at B1 J1 hlen ⊢
  rw [hn] at hlens
  replace hlen := Lib.hid hlen
  replace hn := Lib.hid hn
  replace hwh := Lib.hid hwh
  clear hsz1 S1
  cases o with
  | none =>
    replace ho := Lib.hid ho
    replace hlens := Lib.hid hlens
    replace htj := Lib.hid htj
    go_wp2_with fail
    refine (J1.out).mono ?_
    rintro e w2 ⟨hk2, h2, _⟩
    obtain rfl := h2 rfl
    have hA2 := hA1.kp0 hk2
    go_wp2_with (go_at_call 16; refine (awake_c _ hA2).mono ?_; rintro e w' ⟨rfl, hk⟩)
    go_ret
    exact ⟨rfl, hk1.trans (hk2.trans hk)⟩
  | some a =>
    obtain ⟨ea, hal⟩ := jn_is ts hwh.out true [] a (by simp) ho
    have hja : a = jt ts := by
      rw [ea]
      split
      · rename_i h; rw [h]; rfl
      · simp
    have hsame2 := jn_same hsame hwh.out true []
    rw [ho] at hsame2
    rw [← hja] at htj
    have has : (⟨a.toArray⟩ : ByteArray).size = a.length := by show a.toArray.size = _; simp
    have hal2 : (⟨a.toArray⟩ : ByteArray).data.toList = a := by simp
    obtain ⟨s2, hs2⟩ : ∃ s2 : ByteArray, ⟨a.toArray⟩ = s2 := ⟨_, rfl⟩
    rw [hs2] at has hal2
    have ht2 : Hid ((toksL s2.data.toList).2 = s2.size) := by show _ = _; rw [hal2, htj, has]
    have ht1 : Hid ((toksL s2.data.toList).1 = us ++ [⟨7, ⟨#[]⟩, a.length⟩]) := by show _ = _; rw [hal2, htj]
    have hs28 : s2.size ≤ 8000 := by rw [has]; exact hal
    have hD : ∀ (i : Nat) (x : Tok), (ts ++ [(⟨7, ⟨#[]⟩, s.size⟩ : Tok)])[i]? = some x → ∃ y, (us ++ [(⟨7, ⟨#[]⟩, a.length⟩ : Tok)])[i]? = some y ∧ sameT x y :=
      (jt_tokens (SameL.snoc hsame (x := ⟨7, ⟨#[]⟩, s.size⟩) (y := ⟨7, ⟨#[]⟩, a.length⟩) ⟨rfl, rfl⟩)).2
    replace hD := Lib.hid hD
    replace ho := Lib.hid ho
    replace hsame2 := Lib.hid hsame2
    replace hlens := Lib.hid hlens
    replace hs2 := Lib.hid hs2
    clear htj hja ea has hal2 hsame
    go_wp2_with fail
    refine (J1.out).mono ?_
    rintro e w2 ⟨hk2, _, h2⟩
    obtain rfl := h2 a rfl
    rw [hs2.out]
    have hA2 := hA1.kp0 hk2
    go_wp2_with fail
    refine (tokens_ok s2 _ hA2 hs28 ht2.out).mono ?_
    rintro e w3 ⟨v3, rfl, hk3, S3⟩
    rw [ht1.out] at S3
    have hA3 := hA2.kp0 hk3
    obtain ⟨g3, c3, rfl, hc3, hm3, C3⟩ := S3.atc (by simp)
    have hlen3 : (us ++ [(⟨7, ⟨#[]⟩, a.length⟩ : Tok)]).length = n + 1 := by rw [List.length_append, List.length_singleton, ← hlens.out]
    rw [hlen3] at hc3 ⊢
    replace hlen3 := Lib.hid hlen3
    have D : ∀ j, j < n + 1 → ∃ x y, TokAt w3 g1 j x ∧ TokAt w3 g3 j y ∧ x.kind = y.kind ∧ x.text = y.text := by
      intro j hj
      obtain ⟨x, hx⟩ : ∃ x, (ts ++ [(⟨7, ⟨#[]⟩, s.size⟩ : Tok)])[j]? = some x := ⟨_, List.getElem?_eq_getElem (by rw [hlen.out]; exact hj)⟩
      obtain ⟨y, hy, hxy⟩ := hD.out j x hx
      exact ⟨x, y, (C1.out j x hx).kp (hk2.trans hk3), C3 j y hy, hxy.1, hxy.2⟩
    have C3' : ∀ i x, us[i]? = some x → TokAt w3 g3 i x := fun i x hx => C3 i x (by
      obtain ⟨h1, _⟩ := List.getElem?_eq_some_iff.1 hx
      rw [List.getElem?_append_left h1]; exact hx)
    replace D := Lib.hid D
    replace C3' := Lib.hid C3'
    clear C3 S3
    go_wp2_with fail
    go_loopw [11] (fun i wr => ∃ j : Nat, j ≤ n + 1 ∧ i = .int .i64 j ∧ Kp [] w3 wr) (fun i _ => n + 1 - (intOf i).toNat)
    case atStart => exact ⟨0, by omega, rfl, Kp.refl _ _⟩
    case round =>
      obtain ⟨j, hj, rfl, hK⟩ := hrel
      by_cases hl1 : j < n + 1
      · obtain ⟨x, y, X1, X2, e1, e2⟩ := D.out j hl1
        obtain ⟨a0, a1, a2⟩ := X1.kp hK
        obtain ⟨b0, b1, b2⟩ := X2.kp hK
        rw [← e1] at b0
        rw [← e2] at b1
        clear e1 e2
        go_wp2_with fail
        go_quiet (fail)
        go_wp2_with fail
        go_roundw
        case rel => exact ⟨j + 1, by omega, by go_num, hK.drewN _⟩
        case measure => simp [intOf]; omega
      · obtain rfl : j = n + 1 := by omega
        have hAr := hA3.kp0 hK
        have J2 := join_c g3 c3 (us.map ti) wr hAr (fun i x hx => (tiArr C3'.out i x hx).kp hK) (by rw [List.length_map, ← hlens.out]; omega) (tiSizes hsz2.out)
        rw [List.length_map, ← hlens.out, ← hsame2.out] at J2
        replace J2 := Lib.hid J2
        have t1 : (0 : Int) ≤ (n : Int) := by omega
        have t2 : (n : Int) ≤ (c3 : Int) := by omega
        have t3 : (n : Int) + 1 - 1 = (n : Int) := by omega
        have t4 : n ≤ c3 := by omega
        go_wp2_with fail
        refine (J2.out).mono ?_
        rintro e w4 ⟨hk4, _, h4⟩
        obtain rfl := h4 a rfl
        rw [hs2.out]
        have hA4 := hAr.kp0 hk4
        go_wp2_with (go_at_call 16; refine (awake_c _ hA4).mono ?_; rintro e w' ⟨rfl, hk⟩)
        go_ret
        exact ⟨rfl, hk1.trans (hk2.trans (hk3.trans (hK.trans (hk4.trans hk))))⟩

set_option maxRecDepth 100000 in
theorem backLaw_c (s0 : ByteArray) (w : World) (hA : Amb w) :
    Calls Tryd.prog 7 #[.string s0] w fun e w' => e = .returned (.bool true) ∧ Kp [] w w' := by
  have hbl := briefS_le s0
  by_cases h : 8000 < (briefS s0).size
  · go_enter Tryd.func7, Tryd.ntmps7
    go_wp2_with (go_at_call 12; refine (brief_c _ _).mono ?_; rintro e w' ⟨rfl, rfl⟩)
    refine (tokens_full _ _ h).mono ?_
    rintro e w1 ⟨rfl, hk1⟩
    have hA1 := hA.kp0 hk1
    go_wp2_with (go_at_call 16; refine (awake_c _ hA1).mono ?_; rintro e w' ⟨rfl, hk⟩)
    go_ret
    exact ⟨rfl, hk1.trans hk⟩
  · have hs8 : (briefS s0).size ≤ 8000 := by omega
    obtain ⟨P1, _, _⟩ := toks_parts (briefS s0).data.toList []
    have hsl : (briefS s0).data.toList.length = (briefS s0).size := by simp
    rw [hsl] at P1
    obtain ⟨n, hn⟩ : ∃ n, (toksL (briefS s0).data.toList).2 = n := ⟨_, rfl⟩
    rw [hn] at P1
    rcases Nat.lt_or_ge n (briefS s0).size with h1 | h1
    · replace hn := Lib.hid hn
      replace hsl := Lib.hid hsl
      go_enter Tryd.func7, Tryd.ntmps7
      go_wp2_with (go_at_call 12; refine (brief_c _ _).mono ?_; rintro e w' ⟨rfl, rfl⟩)
      refine (tokens_bad _ _ hA hs8 n hn.out h1).mono ?_
      rintro e w1 ⟨rfl, hk1⟩
      have hA1 := hA.kp0 hk1
      go_wp2_with (go_at_call 16; refine (awake_c _ hA1).mono ?_; rintro e w' ⟨rfl, hk⟩)
      go_ret
      exact ⟨rfl, hk1.trans hk⟩
    · exact back_ok s0 w hA hs8 (by show _ = _; rw [hn]; omega)
end Go.Proofs.YtbfmkehchddkoaaDoor
