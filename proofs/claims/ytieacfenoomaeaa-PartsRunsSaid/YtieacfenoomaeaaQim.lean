import Derived.Test.YtieacfenoomaeaaQh5
import Derived.Test.YtieacfenoomaeaaQh3
import Derived.Test.YtieacfenoomaeaaQf2
import Derived.Laws.OwnMore
import Derived.Laws.AppendOwn
import Derived.Test.YtieacfenoomaeaaQh4
set_option linter.unusedSimpArgs false
set_option linter.unusedVariables false
namespace Go.Proofs.Ytieacfenoomaeaa
open Go.RowKit

/-- The outputs among the first cells. -/
def outK (i k : Nat) (zs : List Int) : List Int := (zs.take (min k (ioN i))).drop (inN i)
theorem outK_end {i n : Nat} {zs : List Int} (h : ioN i ≤ n) : outK i n zs = outN i zs := by
  unfold outK outN
  rw [Nat.min_eq_right h, List.drop_take]
theorem outK_0 (i : Nat) (zs : List Int) : outK i 0 zs = [] := by simp [outK]
theorem outK_no {i k : Nat} {zs : List Int} (h : ¬ (inN i ≤ k ∧ k < ioN i)) : outK i (k + 1) zs = outK i k zs := by
  unfold outK
  by_cases h2 : k < ioN i
  · have h3 : k + 1 ≤ inN i := by omega
    rw [List.drop_of_length_le (by rw [List.length_take]; omega), List.drop_of_length_le (by rw [List.length_take]; omega)]
  · rw [Nat.min_eq_right (by omega), Nat.min_eq_right (by omega)]
theorem outK_yes {i k : Nat} {zs : List Int} (h : inN i ≤ k) (h2 : k < ioN i) (h3 : k < zs.length) : outK i (k + 1) zs = outK i k zs ++ [zs.getD k 0] := by
  unfold outK
  rw [Nat.min_eq_left (by omega), Nat.min_eq_left (by omega), List.take_succ_eq_append_getElem h3, List.drop_append_of_le_length (by rw [List.length_take]; omega)]
  simp [List.getD_eq_getElem?_getD, h3]
theorem outK_len (i k : Nat) (zs : List Int) : (outK i k zs).length ≤ 5 := by
  unfold outK
  rw [List.length_drop, List.length_take]
  have : ioN i ≤ 5 := by
    unfold ioN
    split <;> omega
  omega
/-- Cells over which a row has been written up to a place. -/
def overK (k : Nat) (row zs : List Int) : List Int := row.take k ++ zs.drop k
theorem overK_len {k : Nat} {row zs : List Int} (h : k ≤ row.length) (h2 : k ≤ zs.length) : (overK k row zs).length = zs.length := by
  unfold overK
  rw [List.length_append, List.length_take, List.length_drop]
  omega
theorem overK_0 (row zs : List Int) : overK 0 row zs = zs := by simp [overK]
theorem overK_step {k : Nat} {row zs : List Int} (h : k < row.length) (h2 : k < zs.length) : (overK k row zs).set k (row.getD k 0) = overK (k + 1) row zs := by
  unfold overK
  rw [List.set_append_right _ _ (by rw [List.length_take]; omega), List.length_take, Nat.min_eq_left (by omega), Nat.sub_self, List.drop_eq_getElem_cons h2, List.set_cons_zero, List.getD_eq_getElem?_getD, List.getElem?_eq_getElem h, Option.getD_some, List.take_succ_eq_append_getElem h, List.append_assoc]
  rfl
theorem overK_full {k : Nat} {row zs : List Int} (h : k = row.length) : overK k row zs = row ++ zs.drop row.length := by
  subst h
  simp [overK]

/-- What the classes of the variables of a block say. -/
def ClsOk (i n : Nat) (L : List (ByteArray × Int × Int)) : Prop := inN i ≤ n ∧ ioN i ≤ n ∧ inN i ≤ ioN i ∧ ∀ k, k < n → (((L.map fun x => x.2.1).getD k 0 = 1 ↔ k < inN i) ∧ ((L.map fun x => x.2.1).getD k 0 = 2 ↔ (inN i ≤ k ∧ k < ioN i)))
theorem cls_of {i n : Nat} {L : List (ByteArray × Int × Int)} (h1 : inN i ≤ n) (h2 : ioN i ≤ n) (h3 : inN i ≤ ioN i) (h : ∀ k : Fin n, (((L.map fun x => x.2.1).getD k.val 0 = 1 ↔ k.val < inN i) ∧ ((L.map fun x => x.2.1).getD k.val 0 = 2 ↔ (inN i ≤ k.val ∧ k.val < ioN i)))) : ClsOk i n L := ⟨h1, h2, h3, fun k hk => h ⟨k, hk⟩⟩
theorem rk_c (i : Nat) (hi : i < 9) : ∃ n L, RKind (nmb i) i n L ∧ ClsOk i n L := by
  rcases (show i = 0 ∨ i = 1 ∨ i = 2 ∨ i = 3 ∨ i = 4 ∨ i = 5 ∨ i = 6 ∨ i = 7 ∨ i = 8 by omega) with rfl | rfl | rfl | rfl | rfl | rfl | rfl | rfl | rfl
  · exact ⟨_, _, rk_ton, cls_of (by decide) (by decide) (by decide) (by decide)⟩
  · exact ⟨_, _, rk_tof, cls_of (by decide) (by decide) (by decide) (by decide)⟩
  · exact ⟨_, _, rk_tp, cls_of (by decide) (by decide) (by decide) (by decide)⟩
  · exact ⟨_, _, rk_ctu, cls_of (by decide) (by decide) (by decide) (by decide)⟩
  · exact ⟨_, _, rk_ctd, cls_of (by decide) (by decide) (by decide) (by decide)⟩
  · exact ⟨_, _, rk_sr, cls_of (by decide) (by decide) (by decide) (by decide)⟩
  · exact ⟨_, _, rk_rs, cls_of (by decide) (by decide) (by decide) (by decide)⟩
  · exact ⟨_, _, rk_rtrig, cls_of (by decide) (by decide) (by decide) (by decide)⟩
  · exact ⟨_, _, rk_ftrig, cls_of (by decide) (by decide) (by decide) (by decide)⟩

/-- A row in memory of its own is kept where its block is. -/
theorem ownsRow_kps {W W' : World} {S : List Nat} {base n size : Nat} {T : TypeId} {v : Value} {xs : List Value} (h : W.ownsRow base T size v n xs) (k : Kp S W W') (hn : ∀ g, base ≤ g → g ∉ S) : W'.ownsRow base T size v n xs := by
  refine ⟨h.1, ?_⟩
  rcases h.2 with h2 | ⟨g, cap, cur, h1, h2, h3, h4⟩
  · exact .inl h2
  · exact .inr ⟨g, cap, cur, h1, h2, k.heap h3 (hn g h2), h4⟩
/-- Rows of ints, each in memory of its own. -/
def Rws (w : World) (base : Nat) (v : Value) (ps : List (Value × List Int)) : Prop :=
  w.ownsRow base 22 1 v ps.length (ps.map Prod.fst) ∧ ∀ y ∈ ps, w.ownsRow base 3 1 y.1 y.2.length (y.2.map (Value.int .i64))
theorem Rws.nil (w : World) (base : Nat) : Rws w base (.slice none 0 0) [] := ⟨World.ownsRow_nil _ _ _ _, fun y hy => by cases hy⟩
theorem Rws.kps {w w' : World} {S : List Nat} {base : Nat} {v : Value} {ps : List (Value × List Int)} (h : Rws w base v ps) (k : Kp S w w') (hn : ∀ g, base ≤ g → g ∉ S) : Rws w' base v ps :=
  ⟨ownsRow_kps h.1 k hn, fun y hy => ownsRow_kps (h.2 y hy) k hn⟩
theorem Rws.kp {w w' : World} {base : Nat} {v : Value} {ps : List (Value × List Int)} (h : Rws w base v ps) (k : Kp [] w w') : Rws w' base v ps := h.kps k (by simp)
theorem own_ne {w : World} {b1 b2 s1 s2 n1 n2 : Nat} {T1 T2 : TypeId} {v1 v2 : Value} {x1 x2 : List Value} (h1 : w.ownsRow b1 T1 s1 v1 n1 x1) (h2 : w.ownsRow b2 T2 s2 v2 n2 x2) (hT : T1 ≠ T2) : v1.ownBlock = none ∨ v1.ownBlock ≠ v2.ownBlock := by
  rcases h1.2 with ⟨rfl, _⟩ | ⟨g, cap, cur, rfl, _, h3, _⟩
  · exact .inl rfl
  · refine .inr fun e => ?_
    rcases h2.2 with ⟨rfl, _⟩ | ⟨g', cap', cur', rfl, _, h3', _⟩
    · simp [Value.ownBlock] at e
    · simp [Value.ownBlock] at e
      subst e
      rw [h3] at h3'
      simp at h3'
      exact hT h3'.2
theorem Rws.snoc {w w' : World} {base : Nat} {v v' u : Value} {ps : List (Value × List Int)} {zs : List Int} (h : Rws w base v ps) (hu : w.ownsRow base 3 1 u zs.length (zs.map (Value.int .i64)))
    (hv' : w'.ownsRow base 22 1 v' (ps.length + 1) (ps.map Prod.fst ++ [u])) (hg : w.grownBy w' v.ownBlock) : Rws w' base v' (ps ++ [(u, zs)]) := by
  refine ⟨by simpa using hv', fun y hy => ?_⟩
  rcases List.mem_append.1 hy with hy | hy
  · exact (h.2 y hy).kept hg (own_ne (h.2 y hy) h.1 (by decide))
  · simp at hy
    subst hy
    exact hu.kept hg (own_ne hu h.1 (by decide))
/-- Element j, and what it holds. -/
theorem Rws.at_ {w : World} {base : Nat} {v : Value} {ps : List (Value × List Int)} (h : Rws w base v ps) : Ils w v ps := by
  rcases h.1.2 with ⟨h1, h2⟩ | ⟨g, cap, cur, h1, h2, h3, h4, h5, h6, h7⟩
  · have h0 : ps = [] := List.length_eq_zero_iff.1 h2
    subst h0
    exact ⟨none, 0, h1, Nat.le_refl _, by omega, fun y hy => by simp at hy, .inl rfl⟩
  · refine ⟨_, cap, h1, h4, by unfold maxLen at h5; omega, fun y hy => is_row (h.2 y hy), ?_⟩
    by_cases h0 : ps = []
    · exact .inl h0
    · refine .inr ⟨g, 0, rfl, fun j hj => ?_⟩
      refine Blk.cell (show Blk w g 22 cur from h3) (0 + j) ?_
      have e : (ps.map Prod.fst)[j]? = some ps[j].1 := by simp [hj]
      rw [← h7, List.getElem?_take, if_pos (by omega)] at e
      rw [Nat.zero_add]
      simpa using e
theorem own_sl {W : World} {base : Nat} {e : TypeId} {size : Nat} {v : Value} {k : Nat} {xs : List Value} (h : W.ownsRow base e size v k xs) : ∃ p n c, v = .slice p n c := by
  rcases h.2 with ⟨h0, _⟩ | ⟨g, cap, _, h0, _⟩
  · exact ⟨_, _, _, h0⟩
  · exact ⟨_, _, _, h0⟩
theorem Ils.at_ {w : World} {p : Option Addr} {n c : Nat} {vs : List (Value × List Int)} (h : Ils w (.slice p n c) vs) (k : Nat) (hk : k < vs.length) : ∃ b off q cc, p = some ⟨b, off, none⟩ ∧ w.cell? ⟨b, off + k, none⟩ = some (.slice q vs[k].2.length cc) ∧ Is w (.slice q vs[k].2.length cc) vs[k].2 ∧ vs[k].2.length ≤ cc ∧ cc ≤ 9223372036854775807 := by
  obtain ⟨p', c', h1, h2, h3, h4, h5⟩ := h
  simp at h1
  obtain ⟨rfl, rfl, rfl⟩ := h1
  rcases h5 with h5 | ⟨b, off, h5, h6⟩
  · subst h5
    exact absurd hk (Nat.not_lt_zero _)
  · have hi := h4 vs[k] (List.getElem_mem hk)
    obtain ⟨q, cc, e1, e2, e3⟩ := hi.val
    have h7 := h6 k hk
    rw [e1] at h7 hi
    exact ⟨b, off, q, cc, h5, h7, hi, e2, e3⟩
end Go.Proofs.Ytieacfenoomaeaa

set_option linter.unusedSimpArgs false
set_option linter.unusedVariables false
namespace Go.Proofs.Ytieacfenoomaeaa
open Go.RowKit

theorem tms_isT {ts : List Int} (h : tmsB ts = true) {j : Nat} (hj : j < ts.length) : isT (ts.getD j 0) = true := by
  have h2 := List.all_eq_true.1 h j (List.mem_range.2 hj)
  unfold tmAt at h2
  rw [Bool.and_eq_true] at h2
  exact h2.1
/-- What the reference's Run gives. -/
def RunRes (i : Nat) (zs : List Int) (rs : List (List Int)) (ts : List Int) (ok : Bool) (w : World) (r : Ending) (w' : World) : Prop :=
  (if ok = true then ∃ vo base ps, r = .returned (.tuple #[vo, .bool true]) ∧ Rws w' base vo ps ∧ ps.map Prod.snd = runR i zs rs ts else r = .returned (.tuple #[.slice none 0 0, .bool false])) ∧ Kp [] w w'
theorem RunRes.no {i : Nat} {zs : List Int} {rs : List (List Int)} {ts : List Int} {ok : Bool} {w w' : World} (h : ok = false) (k : Kp [] w w') : RunRes i zs rs ts ok w (.returned (.tuple #[.slice none 0 0, .bool false])) w' := by
  subst h
  exact ⟨rfl, k⟩
theorem RunRes.yes {i : Nat} {zs : List Int} {rs : List (List Int)} {ts : List Int} {ok : Bool} {w w' : World} {vo : Value} {base : Nat} {ps : List (Value × List Int)} (h : ok = true) (hr : Rws w' base vo ps) (hp : ps.map Prod.snd = runR i zs rs ts) (k : Kp [] w w') : RunRes i zs rs ts ok w (.returned (.tuple #[vo, .bool true])) w' := by
  subst h
  exact ⟨⟨vo, base, ps, rfl, hr, hp⟩, k⟩

set_option maxRecDepth 100000 in
set_option maxHeartbeats 2000000 in
theorem rrun_right (nm : ByteArray) (i n : Nat) (L : List (ByteArray × Int × Int)) (hR : RKind nm i n L) (w : World) (v1 vI vT : Value) (zs ts : List Int) (rs : List (List Int)) (hz : Is w v1 zs) (hv : areV (kin i) zs = false) :
    Calls Try.prog 25 #[.string nm, v1, vI, vT] w (RunRes i zs rs ts false w) := by
  have hright := Lib.hid (fun W v zs h => right_gen nm i n L hR W v zs h)
  have hcel := Lib.hid hR.cells
  replace hz := Lib.hid hz
  go_enter Try.func25, Try.ntmps25
  go_wp2_with fail
  refine (hcel.out _).mono ?_
  rintro r w1 ⟨u, rfl, hr, hk1⟩
  replace hk1 := Lib.hid hk1
  go_wp2_with fail
  refine (hright.out _ _ _ (hz.out.kp hk1.out)).mono ?_
  rintro r w2 ⟨rfl, hk2⟩
  rw [hv]
  replace hk2 := Lib.hid hk2
  go_wp2
  go_ret2
  exact RunRes.no rfl (hk1.out.trans hk2.out)
set_option maxRecDepth 100000 in
set_option maxHeartbeats 2000000 in
theorem rrun_times (nm : ByteArray) (i n : Nat) (L : List (ByteArray × Int × Int)) (hR : RKind nm i n L) (w : World) (v1 vI vT : Value) (zs ts : List Int) (vs : List (Value × List Int)) (rs : List (List Int)) (hz : Is w v1 zs) (hv : areV (kin i) zs = true) (hI : Ils w vI vs) (hT : Is w vT ts)
    (ht : (decide ((ts.length : Int) = (vs.length : Int)) && tmsB ts) = false) :
    Calls Try.prog 25 #[.string nm, v1, vI, vT] w (RunRes i zs rs ts false w) := by
  have hright := Lib.hid (fun W v zs h => right_gen nm i n L hR W v zs h)
  have hcel := Lib.hid hR.cells
  have htm := Lib.hid (fun W m h => rtimes_c W vT ts m h)
  obtain ⟨pI, cI, rfl, hI1, hI2⟩ := hI.val
  obtain ⟨M, hM⟩ : ∃ M, vs.length = M := ⟨_, rfl⟩
  rw [hM] at hI1 ht ⊢
  replace hz := Lib.hid hz
  replace hT := Lib.hid hT
  clear hI hM
  go_enter Try.func25, Try.ntmps25
  go_wp2_with fail
  refine (hcel.out _).mono ?_
  rintro r w1 ⟨u, rfl, hr, hk1⟩
  replace hk1 := Lib.hid hk1
  go_wp2_with fail
  refine (hright.out _ _ _ (hz.out.kp hk1.out)).mono ?_
  rintro r w2 ⟨rfl, hk2⟩
  rw [hv]
  have hK2 := Lib.hid (hk1.out.trans hk2)
  go_wp2_with fail
  refine (htm.out _ _ (hT.out.kp hK2.out)).mono ?_
  rintro r w3 ⟨rfl, hk3⟩
  rw [ht]
  replace hk3 := Lib.hid hk3
  go_wp2
  go_ret2
  exact RunRes.no rfl (hK2.out.trans hk3.out)
end Go.Proofs.Ytieacfenoomaeaa
