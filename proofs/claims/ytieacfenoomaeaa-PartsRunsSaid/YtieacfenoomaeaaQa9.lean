import Derived.Test.YtieacfenoomaeaaQa8
import Derived.LoopTactic
import Derived.LoopN
import Derived.Laws.AppendOwn
import Derived.Laws.OwnMore
set_option linter.unusedSimpArgs false
set_option linter.unusedVariables false
namespace Go.Proofs.Ytieacfenoomaeaa
open Go.RowKit

/-- v is a slice of these ints. -/
def Is (w : World) (v : Value) (zs : List Int) : Prop :=
  ∃ p c, v = .slice p zs.length c ∧ zs.length ≤ c ∧ c ≤ 9223372036854775807 ∧ (zs = [] ∨ ∃ b off, p = some ⟨b, off, none⟩ ∧ ∀ j, j < zs.length → w.cell? ⟨b, off + j, none⟩ = some (.int .i64 (zs.getD j 0)))
theorem Is.kp {w w' : World} {v : Value} {zs : List Int} (h : Is w v zs) (k : Kp [] w w') : Is w' v zs := by
  obtain ⟨p, c, h1, h2, h3, h4⟩ := h
  refine ⟨p, c, h1, h2, h3, ?_⟩
  rcases h4 with h4 | ⟨b, off, h5, h6⟩
  · exact .inl h4
  · exact .inr ⟨b, off, h5, fun j hj => k.cell (h6 j hj) (by simp)⟩
theorem Is.drew {w : World} {v : Value} {zs : List Int} (h : Is w v zs) : Is w.drew v zs := h.kp (Kp.refl _ _).drew
theorem is_row {w : World} {base : Nat} {v : Value} {zs : List Int} (h : w.ownsRow base 3 1 v zs.length (zs.map (Value.int .i64))) : Is w v zs := by
  rcases h.2 with ⟨h1, h2⟩ | ⟨g, cap, cur, h1, h2, h3, h4, h5, h6, h7⟩
  · have : zs = [] := List.length_eq_zero_iff.1 h2
    subst this
    exact ⟨none, 0, h1, Nat.le_refl _, by omega, .inl rfl⟩
  · refine ⟨some ⟨g, 0, none⟩, cap, h1, h4, by unfold maxLen at h5; omega, .inr ⟨g, 0, rfl, fun j hj => ?_⟩⟩
    have hb : Blk w g 3 cur := h3
    refine hb.cell (0 + j) ?_
    have e : (zs.map (Value.int .i64))[j]? = some (.int .i64 (zs.getD j 0)) := by simp [List.getD_eq_getElem?_getD, hj]
    rw [← h7, List.getElem?_take] at e
    rw [Nat.zero_add]
    split at e
    · simpa using e
    · cases e
/-- A slice that a literal makes. -/
theorem is_lit {w : World} {g : Nat} {t : TypeId} {zs : List Int} {cs : Array Value} {n : Nat} (h : Blk w g t cs) (hn : n = zs.length) (hb : n ≤ 1000) (hc : cs = (zs.map (Value.int .i64)).toArray) : Is w (.slice (some ⟨g, 0, none⟩) n n) zs := by
  subst hn hc
  refine ⟨_, _, rfl, Nat.le_refl _, by omega, .inr ⟨g, 0, rfl, fun j hj => ?_⟩⟩
  refine h.cell _ ?_
  simp [List.getD_eq_getElem?_getD, hj]
theorem ownsRow_kp {W W' : World} {base n size : Nat} {T : TypeId} {v : Value} {xs : List Value} (h : W.ownsRow base T size v n xs) (k : Kp [] W W') : W'.ownsRow base T size v n xs := by
  refine ⟨h.1, ?_⟩
  rcases h.2 with h2 | ⟨g, cap, cur, h1, h2, h3, h4⟩
  · exact .inl h2
  · exact .inr ⟨g, cap, cur, h1, h2, k.heap h3 (by simp), h4⟩
theorem infoInt : (Try.prog.info? 3).map (fun i => (i.zero, i.size, i.bytes)) = some (some (.int .i64 0), 1, 8) := by kernel_rfl
theorem info_parts {o : Option TypeInfo} {z : Option Value} {s b : Nat} (h : o.map (fun i => (i.zero, i.size, i.bytes)) = some (z, s, b)) : ∃ i, o = some i ∧ i.zero = z ∧ i.size = s ∧ i.bytes = b := by
  cases o with
  | none => cases h
  | some i => simp at h; exact ⟨i, rfl, h.1, h.2.1, h.2.2⟩
theorem int_one (n : Int) : ∀ u ∈ [Value.int .i64 n], u.oneCell' = true := by intro u hu; simp at hu; subst hu; rfl
theorem int_cell (W : World) (n : Int) : ∀ j u, ([Value.int .i64 n] : List Value)[j]? = some u → (W.alloc (.cells #[.int .i64 n] 3)).cell? ((⟨W.heap.size, 0, none⟩ : Addr).add j) = some u := by
  intro j u hj
  have hb := Blk.new W 3 #[.int .i64 n]
  match j, hj with
  | 0, hj => exact hb.cell 0 hj
theorem contains_c {w : World} {v : Value} {zs : List Int} (h : Is w v zs) (x : Int) : Calls Try.prog 65 #[v, .int .i64 x] w fun r w' => r = .returned (.bool (zs.contains x)) ∧ w' = w := by
  obtain ⟨p, c, rfl, h2, h3, h4⟩ := h
  rcases h4 with rfl | ⟨b, off, rfl, h6⟩
  · exact Try.slices_Contains_int_empty p c x w
  · have := Try.slices_Contains_int b off zs.length c zs x w (Nat.le_refl _) (by omega) h6
    rwa [List.take_length] at this

/-- The kinds of the variables of some classes. -/
def kindsF (cls : List Int) (L : List (ByteArray × Int × Int)) : List Int := (L.filter fun x => cls.contains x.2.1).map fun x => x.2.2
theorem kindsF_step (cls : List Int) (L : List (ByteArray × Int × Int)) (k : Nat) (h : k < L.length) :
    kindsF cls (L.take (k + 1)) = kindsF cls (L.take k) ++ (if cls.contains L[k].2.1 then [L[k].2.2] else []) := by
  unfold kindsF
  rw [List.take_succ_eq_append_getElem h, List.filter_append, List.map_append]
  by_cases hc : cls.contains L[k].2.1 <;> simp [hc]
  all_goals (simp at hc; simp [hc])
theorem kindsF_len (cls : List Int) (L : List (ByteArray × Int × Int)) : (kindsF cls L).length ≤ L.length := by
  unfold kindsF; rw [List.length_map]; exact List.length_filter_le _ _
def partV (g n K : Nat) (x : F6) : Value := .agg #[.slice (some ⟨g, 0, none⟩) n n, .func (.func K) #[] #[], .int .i64 x.a, .int .i64 x.b, .int .i64 x.c, .int .i64 x.d, .int .i64 x.e, .int .i64 x.f]

set_option maxRecDepth 100000 in
set_option maxHeartbeats 2000000 in
theorem kinds_c (w : World) (g n K : Nat) (x : F6) (L : List (ByteArray × Int × Int)) (hL : VarsAt w g L) (hn : L.length = n) (h6 : n ≤ 6) (cv : Value) (cls : List Int) (hcl : Is w cv cls) :
    Calls Try.prog 42 #[partV g n K x, cv] w fun r w' => ∃ v, r = .returned v ∧ Is w' v (kindsF cls L) ∧ Kp [] w w' := by
  obtain ⟨a, b, c, d, e, f⟩ := x
  unfold partV
  replace hL := Lib.hid hL
  replace hn := Lib.hid hn
  replace hcl := Lib.hid hcl
  have hk0 := Lib.hid ((Kp.refl [] w).alloc (.cells #[.slice (some ⟨g, 0, none⟩) n n, .func (.func K) #[] #[], .int .i64 a, .int .i64 b, .int .i64 c, .int .i64 d, .int .i64 e, .int .i64 f] 67))
  go_enter Try.func42, Try.ntmps42
  go_wp2
  go_loopw [5, 11] (fun v i wr => ∃ (k : Nat), k ≤ n ∧ i = .int .i64 k ∧ Hid (wr.ownsRow w.heap.size 3 1 v (kindsF cls (L.take k)).length ((kindsF cls (L.take k)).map (Value.int .i64))) ∧ Hid (Kp [] w wr)) (fun _ i _ => n - (intOf i).toNat)
  case atStart => exact ⟨0, Nat.zero_le _, rfl, World.ownsRow_nil _ _ _ _, hk0.out⟩
  case round =>
    obtain ⟨k, hk, rfl, hr, hK⟩ := hrel
    by_cases hlt : k < n
    · have hlt2 : k < L.length := by rw [hn.out]; exact hlt
      have hV := hL.out.kp hK.out k hlt2
      have hst := kindsF_step cls L k hlt2
      obtain ⟨⟨xn, xc, xk⟩, hx⟩ : ∃ y, L[k] = y := ⟨_, rfl⟩
      rw [hx] at hV hst
      have e0 := hV 0 _ rfl
      have e1 := hV 1 _ rfl
      have e2 := hV 2 _ rfl
      have e3 := hV 3 _ rfl
      have e4 := hV 4 _ rfl
      have e5 := hV 5 _ rfl
      have e6 := hV 6 _ rfl
      replace hx := Lib.hid hx
      replace hst := Lib.hid hst
      clear hV
      rw [Nat.add_zero] at e0
      go_wp2_with fail
      refine (contains_c (hcl.out.kp (hK.out.alloc _)) xc).mono ?_
      rintro r w2 ⟨rfl, rfl⟩
      have hV2 := Lib.hid (hL.out.kp (hK.out.alloc (.cells #[.string xn, .int .i64 xc, .int .i64 xk, .int .i64 0, .string ⟨#[]⟩, .slice none 0 0, .string ⟨#[]⟩] 77)))
      obtain ⟨bb, hbb⟩ : ∃ bb, cls.contains xc = bb := ⟨_, rfl⟩
      rw [hbb] at hst ⊢
      cases bb
      · go_wp2
        go_roundw
        case rel => exact ⟨k + 1, by omega, by go_num, by show World.ownsRow _ _ _ _ _ _ _; rw [hst.out]; simpa using hr.out.alloc _, hK.out.alloc _⟩
        case measure => simp [intOf]; omega
      · obtain ⟨i0, hi, hz0, hz1, hz2⟩ := info_parts infoInt
        have hR2 := Lib.hid ((hr.out.alloc (.cells #[.string xn, .int .i64 xc, .int .i64 xk, .int .i64 0, .string ⟨#[]⟩, .slice none 0 0, .string ⟨#[]⟩] 77)).alloc (.cells #[.int .i64 xk] 3))
        have hnew := int_cell (wr.alloc (.cells #[.string xn, .int .i64 xc, .int .i64 xk, .int .i64 0, .string ⟨#[]⟩, .slice none 0 0, .string ⟨#[]⟩] 77)) xk
        simp only [World.size_alloc] at hnew
        replace hnew := Lib.hid hnew
        have hlen : (kindsF cls (L.take k)).length ≤ 6 := Nat.le_trans (kindsF_len _ _) (by rw [List.length_take]; omega)
        have hsz := hK.out.size
        have hK2 := Lib.hid ((hK.out.alloc (.cells #[.string xn, .int .i64 xc, .int .i64 xk, .int .i64 0, .string ⟨#[]⟩, .slice none 0 0, .string ⟨#[]⟩] 77)).alloc (.cells #[.int .i64 xk] 3))
        have hbs := Lib.hid hK2.out.size
        go_wp2_with (at_builtin; refine wpList_append_own _ rfl _ _ 22 rfl w.heap.size 3 i0 _ 1 8 Try.underlying22 hi hz0 hz1 hz2 rfl (by decide) _ _ _ rfl hR2.out ⟨wr.heap.size + 1, 0, none⟩ 1 1 [.int .i64 xk] rfl rfl hnew.out (int_one xk) (by unfold maxLen; omega) (by omega) hbs.out ?_; intro v' w3 hown' hgrow _)
        have hK3 := Lib.hid (hK2.out.grown hgrow (fun k hk => .inr (hR2.out.lt k hk).1))
        replace hown' := Lib.hid hown'
        clear hgrow
        go_wp2_with fail
        go_roundw
        case rel => exact ⟨k + 1, by omega, by go_num, by show World.ownsRow _ _ _ _ _ _ _; rw [hst.out]; simpa using hown'.out, hK3.out⟩
        case measure => simp [intOf]; omega
    · obtain rfl : k = n := by omega
      go_wp2
      go_ret
      refine ⟨_, rfl, ?_, hK.out⟩
      have h := is_row hr.out
      rwa [← hn.out, List.take_length] at h
end Go.Proofs.Ytieacfenoomaeaa
