import Derived.Test.YtieacfenoomaeaaQh2
set_option linter.unusedSimpArgs false
set_option linter.unusedVariables false
namespace Go.Proofs.Ytieacfenoomaeaa
open Go.RowKit Go.Shelf Go.Lib

shelf_lay_g SlLaysH.n8 Slgf 8 at Try 64 as Try.cfL

/-- v is a slice of these slices, which hold these ints. -/
def Ils (w : World) (v : Value) (vs : List (Value × List Int)) : Prop :=
  ∃ p c, v = .slice p vs.length c ∧ vs.length ≤ c ∧ c ≤ 9223372036854775807 ∧ (∀ y ∈ vs, Is w y.1 y.2) ∧ (vs = [] ∨ ∃ b off, p = some ⟨b, off, none⟩ ∧ ∀ j (h : j < vs.length), w.cell? ⟨b, off + j, none⟩ = some vs[j].1)
theorem Ils.kp {w w' : World} {v : Value} {vs : List (Value × List Int)} (h : Ils w v vs) (k : Kp [] w w') : Ils w' v vs := by
  obtain ⟨p, c, h1, h2, h3, h4, h5⟩ := h
  refine ⟨p, c, h1, h2, h3, fun y hy => (h4 y hy).kp k, ?_⟩
  rcases h5 with h5 | ⟨b, off, h5, h6⟩
  · exact .inl h5
  · exact .inr ⟨b, off, h5, fun j hj => k.cell (h6 j hj) (by simp)⟩
theorem Ils.val {w : World} {v : Value} {vs : List (Value × List Int)} (h : Ils w v vs) : ∃ p c, v = .slice p vs.length c ∧ vs.length ≤ c ∧ c ≤ 9223372036854775807 := by
  obtain ⟨p, c, h1, h2, h3, _⟩ := h
  exact ⟨p, c, h1, h2, h3⟩

abbrev Rw' (w : World) := { y : Value × List Int // Is w y.1 y.2 }
def rwZ (w : World) : Rw' w := ⟨(.slice none 0 0, []), none, 0, rfl, Nat.le_refl _, by omega, .inl rfl⟩
def rwL (w : World) (vs : List (Value × List Int)) (h : ∀ y ∈ vs, Is w y.1 y.2) : List (Rw' w) := vs.attach.map fun y => ⟨y.1, h y.1 y.2⟩
theorem rwL_len {w : World} {vs : List (Value × List Int)} {h : ∀ y ∈ vs, Is w y.1 y.2} : (rwL w vs h).length = vs.length := by simp [rwL]
theorem rwL_get {w : World} {vs : List (Value × List Int)} {h : ∀ y ∈ vs, Is w y.1 y.2} {j : Nat} (hj : j < vs.length) [Inhabited (Rw' w)] : ((rwL w vs h)[j]!).1 = vs[j] := by
  rw [getElem!_pos _ _ (by rw [rwL_len]; exact hj)]
  simp [rwL]
theorem rwL_any {w : World} {vs : List (Value × List Int)} {h : ∀ y ∈ vs, Is w y.1 y.2} (f : List Int → Bool) : (rwL w vs h).any (fun y => f y.1.2) = vs.any fun y => f y.2 := by
  have e : vs.any (fun y => f y.2) = (vs.attach.map Subtype.val).any (fun y => f y.2) := by rw [List.attach_map_subtype_val]
  rw [e]
  simp only [rwL, List.any_map, Function.comp_def]

theorem wrong_at (w : World) (B : Nat) (v1 : Value) (ks : List Int) (hk : Is w v1 ks) (hks : ks.length ≤ 100) (hB : w.cell? ⟨B, 0, none⟩ = some v1) :
    PredAt Try.prog 63 #[.pointer (some ⟨B, 0, none⟩)] (fun y : Rw' w => y.1.1) (fun y => !areV ks y.1.2) w := fun W x hb => by
  have hK : Kp [] w W := Kp.of_below hb
  have hc : W.cell? ⟨B, 0, none⟩ = some v1 := hK.cell hB (by simp)
  obtain ⟨⟨u, zs⟩, hu⟩ := x
  have ha := Lib.hid (areValues_c W v1 u ks zs (hk.kp hK) (Is.kp hu hK) hks)
  obtain ⟨bb, hbb⟩ : ∃ x, areV ks zs = x := ⟨_, rfl⟩
  show Calls Try.prog 63 #[u, .pointer (some ⟨B, 0, none⟩)] W fun e w' => e = .returned (.bool (!areV ks zs)) ∧ ∃ q, w' = W.drewN q
  rw [hbb] at ha ⊢
  obtain ⟨p1, c1, rfl, -, -⟩ := hk.val
  obtain ⟨p2, c2, hu2, -, -⟩ := Is.val hu
  simp only at hu2
  subst hu2
  clear hk hu hbb hb hB
  replace hK := Lib.hid hK
  go_enter Try.func63, Try.ntmps63
  go_wp2_with fail
  refine ha.out.mono ?_
  rintro r w2 ⟨rfl, rfl⟩
  go_wp2
  go_ret
  exact ⟨rfl, 0, rfl⟩
theorem all_any (vs : List (Value × List Int)) (ks : List Int) : (!vs.any fun y => !areV ks y.2) = vs.all fun y => areV ks y.2 := by
  rw [List.all_eq_not_any_not]
set_option maxRecDepth 100000 in
set_option maxHeartbeats 4000000 in
theorem takes_c (w : World) (g n K : Nat) (x : F6) (L : List (ByteArray × Int × Int)) (hL : VarsAt w g L) (hn : L.length = n) (h6 : n ≤ 6) (v : Value) (vs : List (Value × List Int)) (hv : Ils w v vs) :
    Calls Try.prog 41 #[partV g n K x, v] w fun r w' => r = .returned (.bool (vs.all fun y => areV (kindsF [1] L) y.2)) ∧ Kp [] w w' := by
  have hB := Blk.new w 67 (partCells g n K x)
  have hk1 := (Kp.refl [] w).alloc (.cells (partCells g n K x) 67)
  obtain ⟨W1, hW1⟩ : ∃ W1, w.alloc (.cells (partCells g n K x) 67) = W1 := ⟨_, rfl⟩
  rw [hW1] at hB hk1
  have hbl := Blk.new W1 3 (([1] : List Int).map (Value.int .i64)).toArray
  have hk2 := hk1.alloc (.cells (([1] : List Int).map (Value.int .i64)).toArray 3)
  obtain ⟨W2, hW2⟩ : ∃ W2, W1.alloc (.cells (([1] : List Int).map (Value.int .i64)).toArray 3) = W2 := ⟨_, rfl⟩
  rw [hW2] at hbl hk2
  have hcl := is_lit (n := 1) (zs := [1]) hbl rfl (by omega) rfl
  have hki := Lib.hid (kinds_c W2 g n K x L (hL.kp hk2) hn h6 _ [1] hcl)
  have hlen : (kindsF [1] L).length ≤ 100 := by have := kindsF_len [1] L; omega
  obtain ⟨ks, hks⟩ : ∃ ks, kindsF [1] L = ks := ⟨_, rfl⟩
  rw [hks] at hki hlen ⊢
  rw [← all_any]
  obtain ⟨a, b, c, d, e, f⟩ := x
  obtain ⟨p, cp, rfl, hcp1, hcp2⟩ := hv.val
  have r0 := hB.cell 0 rfl
  have r1 := hB.cell 1 rfl
  have r2 := hB.cell 2 rfl
  have r3 := hB.cell 3 rfl
  have r4 := hB.cell 4 rfl
  have r5 := hB.cell 5 rfl
  have r6 := hB.cell 6 rfl
  have r7 := hB.cell 7 rfl
  unfold partV at hki ⊢
  unfold partCells at hW1
  obtain ⟨m, hm⟩ : ∃ m, vs.length = m := ⟨_, rfl⟩
  rw [hm] at hv hcp1 ⊢
  replace hv := Lib.hid hv
  replace hk2 := Lib.hid hk2
  replace hW1 := Lib.hid hW1
  replace hW2 := Lib.hid hW2
  replace hm := Lib.hid hm
  clear hB hbl hcl hks hL hk1
  go_enter Try.func41, Try.ntmps41
  go_wp2_with fail
  have hs1 : W1.heap.size = w.heap.size + 1 := by rw [← hW1.out]; simp
  have hW2' : W1.alloc (Obj.cells #[Value.int .i64 1] 3) = W2 := hW2.out
  rw [hs1] at hki
  rw [hW1.out, hW2']
  refine hki.out.mono ?_
  rintro r w3 ⟨v1, rfl, hi1, hk3⟩
  have hK3 := Lib.hid (hk2.out.trans hk3)
  obtain ⟨p1, c1, rfl, -, -⟩ := hi1.val
  obtain ⟨m1, hm1⟩ : ∃ x, ks.length = x := ⟨_, rfl⟩
  rw [hm1] at hi1 hlen ⊢
  replace hi1 := Lib.hid hi1
  replace hm1 := Lib.hid hm1
  clear hki hk3 hW2' hs1 hW1 hW2 r0 r1 r2 r3 r4 r5 r6 r7
  go_wp2_with fail
  have hK4 := Lib.hid (hK3.out.alloc (.cells #[Value.slice p1 m1 c1] 22))
  have hi4 : Is _ _ ks := hi1.out.kp ((Kp.refl [] w3).alloc (.cells #[Value.slice p1 m1 c1] 22))
  have hcell : (w3.alloc (.cells #[Value.slice p1 m1 c1] 22)).cell? ⟨w3.heap.size, 0, none⟩ = some (Value.slice p1 m1 c1) := (Blk.new w3 22 #[Value.slice p1 m1 c1]).cell 0 rfl
  obtain ⟨W4, hW4⟩ : ∃ W4, w3.alloc (.cells #[Value.slice p1 m1 c1] 22) = W4 := ⟨_, rfl⟩
  rw [hW4] at hK4 hi4 hcell ⊢
  obtain ⟨B, hB⟩ : ∃ B, w3.heap.size = B := ⟨_, rfl⟩
  rw [hB] at hcell ⊢
  obtain ⟨p', c', e1, e2, e3, h4, h5⟩ := hv.out.kp hK4.out
  rw [hm.out] at e1
  simp at e1
  obtain ⟨rfl, rfl⟩ := e1
  rcases h5 with h5 | ⟨b5, off5, rfl, h5⟩
  · subst h5
    obtain rfl : m = 0 := hm.out.symm
    refine (AnyE.slices_ContainsFunc_empty Try.cfL p cp _ W4).mono ?_
    rintro r w5 ⟨rfl, rfl⟩
    go_wp2
    go_ret
    exact ⟨rfl, hK4.out⟩
  · have eg : ∀ args w, (callFunc 63 args).run Try.prog w = .ok (.enter 63 args) w := enters_of Try.func63 (by kernel_rfl) rfl
    letI : Inhabited (Rw' W4) := ⟨rwZ W4⟩
    have hP := wrong_at W4 B _ ks hi4 (by rw [hm1.out]; exact hlen) hcell
    have hr := AnyE.slices_ContainsFunc Try.cfL (fun y : Rw' W4 => y.1.1) (fun y => !areV ks y.1.2) 63 #[.pointer (some ⟨B, 0, none⟩)] eg b5 off5 m cp (rwL W4 vs h4) W4 hP (by rw [rwL_len, hm.out]; exact Nat.le_refl _) (by omega) (fun j hj => by
      rw [rwL_len] at hj
      rw [h5 j hj]
      exact congrArg some (congrArg Prod.fst (rwL_get (h := h4) hj).symm))
    rw [show (rwL W4 vs h4).take m = rwL W4 vs h4 by rw [← hm.out, ← rwL_len (h := h4), List.take_length], rwL_any (fun l => !areV ks l)] at hr
    refine hr.mono ?_
    rintro r w5 ⟨rfl, q, rfl⟩
    obtain ⟨bb, hbb⟩ : ∃ x, (vs.any fun y => !areV ks y.2) = x := ⟨_, rfl⟩
    rw [hbb]
    replace hbb := Lib.hid hbb
    clear hr hP hi4 hcell h4 h5 eg
    go_wp2
    go_ret
    exact ⟨ret_bool (by rw [hbb.out]), hK4.out.drewN _⟩
end Go.Proofs.Ytieacfenoomaeaa
