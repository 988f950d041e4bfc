import Derived.Test.YtbfmkehchddkoaaDoorR8
import Derived.Test.YtbfmkehchddkoaaDoorLx13
import Derived.Laws.AppendOwn
namespace Go.Proofs.YtbfmkehchddkoaaDoor
open Go.RowKit Go.Shelf

/-- What one round of the reference's loop does. -/
theorem rtoks_step {L : List UInt8} {k f : Nat} {pre : List Tok} {T : List Tok × Nat} (hk : k < L.length)
    (hE : T = (pre ++ (headL (f + 1) (L.drop k) k).1, (headL (f + 1) (L.drop k) k).2)) (hz : (tokL (L.drop k)).2 ≠ 0) :
    T = ((pre ++ [⟨(tokL (L.drop k)).1, ⟨((L.drop k).take (tokL (L.drop k)).2).toArray⟩, k⟩]) ++ (headL f (L.drop (k + (tokL (L.drop k)).2 + skipL (L.drop (k + (tokL (L.drop k)).2)))) (k + (tokL (L.drop k)).2 + skipL (L.drop (k + (tokL (L.drop k)).2)))).1,
      (headL f (L.drop (k + (tokL (L.drop k)).2 + skipL (L.drop (k + (tokL (L.drop k)).2)))) (k + (tokL (L.drop k)).2 + skipL (L.drop (k + (tokL (L.drop k)).2)))).2) :=
  scan_step hk hE rfl hz rfl

theorem ownsRow_kp {W W' : World} {base n : Nat} {T : TypeId} {v : Value} {xs : List Value} (h : W.ownsRow base T 3 v n xs) (k : Kp [] W W') : W'.ownsRow base T 3 v n xs := by
  refine h.kept (row := none) ⟨k.os, k.tape, k.output, k.size, fun i hi _ => k.block i hi (by simp)⟩ ?_
  cases v.ownBlock <;> simp

theorem tok_cells (W : World) (x : Tok) : ∀ j u, (tokC x)[j]? = some u → (W.alloc (.cells #[.int .i64 x.kind, .string x.text, .int .i64 x.at_] 46)).cell? ((⟨W.heap.size, 0, none⟩ : Addr).add j) = some u := by
  intro j u hj
  have hb := Blk.new W 46 #[.int .i64 x.kind, .string x.text, .int .i64 x.at_]
  match j, hj with
  | 0, hj => exact hb.cell 0 hj
  | 1, hj => exact hb.cell 1 hj
  | 2, hj => exact hb.cell 2 hj
  | j + 3, hj => simp [tokC] at hj
theorem tok_one (x : Tok) : ∀ u ∈ tokC x, u.oneCell' = true := by simp [tokC, Value.oneCell']

theorem skipL_le_drop (s : ByteArray) (k : Nat) : skipL (s.data.toList.drop k) ≤ s.size - k := by
  have := skipC_le false (s.data.toList.drop k)
  rw [List.length_drop, Array.length_toList] at this
  exact this

set_option maxRecDepth 100000 in
set_option maxHeartbeats 2000000 in
theorem rtokens_c (s : ByteArray) (w : World) (hs : s.size ≤ 8000) :
    Calls Tryd.prog 14 #[.string s] w (TokRes s w) := by
  have hsz : s.data.toList.length = s.size := by simp
  have hk0 := skipC_le false s.data.toList
  rw [hsz] at hk0
  replace hsz := Lib.hid hsz
  have hs1 : decide ((8000 : Int) < (s.size : Int)) = false := by simp; omega
  go_enter Tryd.func14, Tryd.ntmps14
  go_wp2_with fail
  refine (rblank_c s 0 _ (by omega) (by omega)).mono ?_
  rintro e w' ⟨rfl, rfl⟩
  simp only [Nat.zero_add, List.drop_zero]
  go_wp2_with fail
  go_loopw [5, 6] (fun v i wr => ∃ (k f : Nat) (pre : List Tok), k ≤ s.size ∧ pre.length ≤ k ∧ s.size < k + f ∧ i = .int .i64 k ∧ wr.ownsRow w.heap.size 46 3 v pre.length (pre.flatMap tokC) ∧ Kp [] w wr ∧
      Hid (toksL s.data.toList = (pre ++ (headL f (s.data.toList.drop k) k).1, (headL f (s.data.toList.drop k) k).2))) (fun _ i _ => s.size - (intOf i).toNat)
  case atStart => exact ⟨skipL s.data.toList, s.size + 1, [], hk0, by simp, by omega, rfl, World.ownsRow_nil _ _ _ _, Kp.refl _ _, by show _ = _; rw [toksL, hsz.out]; rfl⟩
  case round =>
    obtain ⟨k, f, pre, hk, hpk, hf, rfl, hr, hK, hE⟩ := hrel
    obtain ⟨f, rfl⟩ : ∃ g, f = g + 1 := ⟨f - 1, by omega⟩
    by_cases hlt : k < s.size
    · go_wp2_with fail
      refine (rtoken_c s k _ (by omega) hlt).mono ?_
      rintro e w2 ⟨x, en, ok, rfl, hk2, h0, h1⟩
      by_cases hz : (tokL (s.data.toList.drop k)).2 = 0
      · obtain rfl := h0 hz
        clear h0 h1
        have hE2 : Hid ((toksL s.data.toList).2 = k) := by
          show _ = _
          have hne : s.data.toList.drop k ≠ [] := by
            intro e
            have := congrArg List.length e
            simp at this; have : s.data.size = s.size := rfl; omega
          rw [hE.out, headL_stop hne hz]
        simp only [tokV]
        go_wp2_with fail
        go_ret3
        exact ⟨(hK.trans hk2).alloc _, .inl ⟨by rw [hE2.out]; exact hlt, by rw [hE2.out]; rfl⟩⟩
      · obtain ⟨rfl, hx, hen⟩ := h1 hz
        clear h0 h1
        have hst := rtoks_step (by rw [hsz.out]; exact hlt) hE.out hz
        have hll := tokL_le (s.data.toList.drop k)
        rw [List.length_drop, hsz.out] at hll
        have hkk := skipL_le_drop s (k + (tokL (s.data.toList.drop k)).2)
        obtain ⟨ll, hl⟩ : ∃ ll, (tokL (s.data.toList.drop k)).2 = ll := ⟨_, rfl⟩
        obtain ⟨k2, hk2'⟩ : ∃ k2, skipL (s.data.toList.drop (k + ll)) = k2 := ⟨_, rfl⟩
        rw [← hx, hl, hk2'] at hst
        rw [hl] at hz hll hen hkk
        rw [hk2'] at hkk
        subst hen
        replace hst := Lib.hid hst
        replace hk2' := Lib.hid hk2'
        clear hx hl hE
        obtain ⟨i0, hi, hz0, hz1, hz2⟩ := info_parts Tryd.infoTok
        have hR2 := Lib.hid (((ownsRow_kp hr hk2).alloc (.cells #[.int .i64 x.kind, .string x.text, .int .i64 x.at_] 46)).alloc (.cells #[.int .i64 x.kind, .string x.text, .int .i64 x.at_] 46))
        have hnew := tok_cells (w2.alloc (.cells #[.int .i64 x.kind, .string x.text, .int .i64 x.at_] 46)) x
        simp only [World.size_alloc] at hnew
        replace hnew := Lib.hid hnew
        have hone := Lib.hid (tok_one x)
        have hsz2 := hk2.size
        have hsz1 := hK.size
        have hbs : Hid (w.heap.size ≤ ((w2.alloc (.cells #[.int .i64 x.kind, .string x.text, .int .i64 x.at_] 46)).alloc (.cells #[.int .i64 x.kind, .string x.text, .int .i64 x.at_] 46)).heap.size) := by
          show _ ≤ _
          rw [World.size_alloc, World.size_alloc]; omega
        simp only [tokV]
        go_wp2_with (at_builtin; refine wpList_append_own _ rfl _ _ 23 rfl w.heap.size 46 i0 _ 3 32 Tryd.underlying23 hi hz0 hz1 hz2 rfl (by decide) _ _ _ rfl hR2.out ⟨w2.heap.size + 1, 0, none⟩ 1 1 (tokC x) rfl rfl hnew.out hone.out (by unfold maxLen; omega) (by omega) hbs.out ?_; intro v' w3 hown' hgrow _)
        have hK3 : Kp [] w w3 := (((hK.trans hk2).alloc _).alloc _).grown hgrow (fun k hk => .inr (hR2.out.lt k hk).1)
        clear hgrow
        have ecast : (k : Int) + (ll : Int) = ((k + ll : Nat) : Int) := by omega
        rw [ecast]
        clear ecast
        refine (rblank_c s (k + ll) _ (by omega) (by omega)).mono ?_
        rintro e w' ⟨rfl, rfl⟩
        rw [hk2'.out]
        go_wp2_with fail
        go_roundw
        case rel => exact ⟨k + ll + k2, f, pre ++ [x], by omega, by rw [List.length_append, List.length_singleton]; omega, by omega, by go_num, by rw [List.length_append, List.length_singleton, List.flatMap_append, List.flatMap_singleton]; exact hown', hK3, hst⟩
        case measure => simp [intOf]; omega
    · obtain rfl : k = s.size := by omega
      have hE2 : Hid (toksL s.data.toList = (pre ++ [⟨7, ⟨#[]⟩, s.size⟩], s.size)) := by
        show _ = _
        rw [hE.out, List.drop_of_length_le (by rw [hsz.out]; exact Nat.le_refl _), headL_end]
      obtain ⟨i0, hi, hz0, hz1, hz2⟩ := info_parts Tryd.infoTok
      have hR2 := Lib.hid (hr.alloc (.cells #[.int .i64 7, .string ⟨#[]⟩, .int .i64 s.size] 46))
      have hnew := Lib.hid (tok_cells wr ⟨7, ⟨#[]⟩, s.size⟩)
      have hone := Lib.hid (tok_one ⟨7, ⟨#[]⟩, s.size⟩)
      have hsz1 := hK.size
      have hbs : Hid (w.heap.size ≤ (wr.alloc (.cells #[.int .i64 7, .string ⟨#[]⟩, .int .i64 s.size] 46)).heap.size) := by
        show _ ≤ _
        rw [World.size_alloc]; omega
      go_wp2_with (at_builtin; refine wpList_append_own _ rfl _ _ 23 rfl w.heap.size 46 i0 _ 3 32 Tryd.underlying23 hi hz0 hz1 hz2 rfl (by decide) _ _ _ rfl hR2.out ⟨wr.heap.size, 0, none⟩ 1 1 (tokC ⟨7, ⟨#[]⟩, s.size⟩) rfl rfl hnew.out hone.out (by unfold maxLen; omega) (by omega) hbs.out ?_; intro v' w3 hown' hgrow _)
      have hK3 : Kp [] w w3 := (hK.alloc _).grown hgrow (fun k hk => .inr (hR2.out.lt k hk).1)
      clear hgrow
      go_ret3
      refine ⟨hK3, .inr ⟨by rw [hE2.out]; omega, v', w.heap.size, rfl, Nat.le_refl _, ?_⟩⟩
      rw [hE2.out, List.length_append, List.length_singleton, List.flatMap_append, List.flatMap_singleton]
      exact hown'
end Go.Proofs.YtbfmkehchddkoaaDoor
