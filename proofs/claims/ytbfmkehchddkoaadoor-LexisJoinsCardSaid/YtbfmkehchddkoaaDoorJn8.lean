import Derived.Test.YtbfmkehchddkoaaDoorJn7
import Derived.Laws.AppendOwnNone
namespace Go.Proofs.YtbfmkehchddkoaaDoor
open Go.RowKit Go.Shelf

theorem flat_take {ts : List TI} {m : Nat} {w : World} {a : Addr} (h : ∀ j u, (ts.flatMap tiC)[j]? = some u → w.cell? (a.add j) = some u) :
    ∀ j u, ((ts.take m).flatMap tiC)[j]? = some u → w.cell? (a.add j) = some u := by
  intro j u hj
  refine h j u ?_
  have hlt := (List.getElem?_eq_some_iff.1 hj).1
  have e : ts.flatMap tiC = (ts.take m).flatMap tiC ++ (ts.drop m).flatMap tiC := by rw [← List.flatMap_append, List.take_append_drop]
  rw [e, List.getElem?_append_left hlt]
  exact hj

theorem flat_len (ts : List TI) : (ts.flatMap tiC).length = ts.length * 3 := by
  induction ts with
  | nil => rfl
  | cons x r ih =>
    have h3 : (tiC x).length = 3 := rfl
    rw [List.flatMap_cons, List.length_append, ih, h3, List.length_cons]; omega

theorem flat_one (ts : List TI) : ∀ u ∈ ts.flatMap tiC, u.oneCell' = true := by
  intro u hu
  obtain ⟨x, _, hx⟩ := List.mem_flatMap.1 hu
  simp only [tiC, List.mem_cons, List.not_mem_nil, or_false] at hx
  rcases hx with rfl | rfl | rfl <;> rfl

def LRes (ts : List TI) (w : World) (e : Ending) (w' : World) : Prop := ∃ v, e = .returned v ∧ Kp [] w w' ∧ TiSl w' v ts ∧ (ts.length = 0 → v = .slice none 0 0)

set_option maxRecDepth 100000 in
theorem list_c (a : Addr) (cap : Nat) (ts : List TI) (w : World) (hcap : ts.length ≤ cap) (hm : cap ≤ 9223372036854775807) (h : ∀ j u, (ts.flatMap tiC)[j]? = some u → w.cell? (a.add j) = some u) :
    Calls Tryd.prog 17 #[.slice (some a) ts.length cap] w (LRes (ts.take 4002) w) := by
  obtain ⟨m, hmm⟩ : ∃ m, min ts.length 4002 = m := ⟨_, rfl⟩
  have hml : (ts.take 4002).length = m := by rw [List.length_take, Nat.min_comm]; exact hmm
  have hm2 : m ≤ ts.length := by omega
  have hm3 : m ≤ 4002 := by omega
  have hmi : (min (ts.length : Int) 4002) = (m : Int) := by omega
  obtain ⟨n, hn⟩ : ∃ n, ts.length = n := ⟨_, rfl⟩
  rw [hn] at hcap hm2 hmi ⊢
  clear hmm
  have hfl : ((ts.take 4002).flatMap tiC).length = m * 3 := by rw [flat_len, hml]
  have hcells := Lib.hid (flat_take (m := 4002) h)
  have hone := Lib.hid (flat_one (ts.take 4002))
  replace hfl := Lib.hid hfl
  replace hml := Lib.hid hml
  replace hn := Lib.hid hn
  clear h
  obtain ⟨i0, hi, hz0, hz1, hz2⟩ := info_parts Tryd.infoTok
  have t1 : (0 : Int) ≤ (m : Int) := by omega
  have t2 : (m : Int) ≤ (cap : Int) := by omega
  have t4 : m ≤ cap := by omega
  have hnil := World.ownsRow_nil w w.heap.size 46 3
  replace hnil := Lib.hid hnil
  go_enter Tryd.func17, Tryd.ntmps17
  go_wp2_with (at_builtin; refine wpList_append_own _ rfl _ _ 23 rfl w.heap.size 46 i0 _ 3 32 Tryd.underlying23 hi hz0 hz1 hz2 rfl (by decide) _ _ _ rfl hnil.out a m cap ((ts.take 4002).flatMap tiC) rfl hfl.out hcells.out hone.out (by unfold maxLen; omega) (by omega) (Nat.le_refl _) ?_; intro v' w1 hown' hgrow hiff)
  go_ret
  refine ⟨v', rfl, (Kp.refl [] w).grown hgrow (fun k hk => by cases hk), ⟨w.heap.size, ?_⟩, fun h0 => hiff.2 ⟨rfl, ?_⟩⟩
  · rw [hml.out]
    rw [Nat.zero_add, List.nil_append] at hown'
    exact hown'
  · rw [hml.out] at h0; exact h0

set_option maxRecDepth 100000 in
theorem list_nil (w : World) : Calls Tryd.prog 17 #[.slice none 0 0] w fun e w' => e = .returned (.slice none 0 0) ∧ Kp [] w w' := by
  obtain ⟨i0, hi, hz0, hz1, hz2⟩ := info_parts Tryd.infoTok
  have hnil := Lib.hid (World.ownsRow_nil w w.heap.size 46 3)
  go_enter Tryd.func17, Tryd.ntmps17
  go_wp2_with (at_builtin; refine wpList_append_own_none rfl _ _ 23 rfl w.heap.size 46 i0 3 Tryd.underlying23 hi _ _ _ rfl hnil.out rfl ?_)
  go_ret
  exact ⟨rfl, Kp.refl _ _⟩

set_option maxRecDepth 100000 in
theorem join_nil (w : World) : Calls Tryd.prog 18 #[.slice none 0 0] w fun e w' => e = .returned (.tuple #[.string ⟨#[]⟩, .int .i64 0]) ∧ Kp [] w w' := by
  obtain ⟨W0, hW0⟩ : ∃ W0, w.alloc (.cells #[.pointer none, .slice none 0 0] 62) = W0 := ⟨_, rfl⟩
  have hK0 : Kp [] w W0 := by rw [← hW0]; exact (Kp.refl _ w).alloc _
  have hB0 : Bld w.heap.size w.heap.size [] W0 := by rw [← hW0]; exact bld_new w
  replace hW0 := Lib.hid hW0
  go_enter Tryd.func18, Tryd.ntmps18
  go_wp2_with fail
  rw [hW0.out]
  go_loop [9] (fun i => i = .int .i64 0) (fun _ => 0)
  case atStart => exact rfl
  case round =>
    subst hrel
    go_wp2_with fail
    refine (bstr_c w.heap.size w.heap.size [] _ hB0 hK0.size).mono ?_
    rintro e W3 ⟨rfl, hb3⟩
    go_wp2_with fail
    go_ret2
    exact ⟨rfl, hK0.below_trans hb3⟩

theorem rjoin_nil (w : World) : Calls Tryd.prog 19 #[.slice none 0 0] w fun e w' => e = .returned (.tuple #[.string ⟨#[]⟩, .bool true]) ∧ w = w' := by
  go_enter Tryd.func19, Tryd.ntmps19
  go_wp2_with fail
  go_loop [4, 5] (fun v i => v = .string ⟨#[]⟩ ∧ i = .int .i64 0) (fun _ _ => 0)
  case atStart => exact ⟨rfl, rfl⟩
  case round =>
    obtain ⟨rfl, rfl⟩ := hrel
    go_wp2_with fail
    go_ret2
    exact ⟨rfl, rfl⟩

set_option maxRecDepth 100000 in
theorem joins_nil (w : World) (hA : Amb w) : ∀ (v : Value), (Calls Tryd.prog 17 #[v] w fun e w' => e = .returned (.slice none 0 0) ∧ Kp [] w w') →
    Calls Tryd.prog 4 #[v] w fun e w' => e = .returned (.bool true) ∧ Kp [] w w' := by
  intro v hl
  replace hl := Lib.hid hl
  go_enter Tryd.func4, Tryd.ntmps4
  go_wp2_with fail
  refine hl.out.mono ?_
  rintro e w1 ⟨rfl, hk1⟩
  go_wp2_with fail
  refine (join_nil _).mono ?_
  rintro e w2 ⟨rfl, hk2⟩
  go_wp2_with fail
  refine (rjoin_nil _).mono ?_
  rintro e w3 ⟨rfl, rfl⟩
  have hA2 := (hA.kp0 hk1).kp0 hk2
  go_wp2_with (go_at_call 16; refine (awake_c _ hA2).mono ?_; rintro e w' ⟨rfl, hk⟩)
  go_ret
  exact ⟨rfl, hk1.trans (hk2.trans hk)⟩

set_option maxRecDepth 100000 in
theorem joins_c (v : Value) (ts : List TI) (w : World) (hA : Amb w) (hn : 0 < ts.length) (hm : ts.length ≤ 10000) (hs : ∀ x ∈ ts, x.text.size ≤ 140737488355328)
    (hl : Calls Tryd.prog 17 #[v] w (LRes ts w)) :
    Calls Tryd.prog 4 #[v] w fun e w' => e = .returned (.bool true) ∧ Kp [] w w' := by
  replace hl := Lib.hid hl
  have hs2 : Hid (∀ x ∈ ts, x.text.size ≤ 140737488355328 ∧ (isTokI x = true → x.text.size ≤ 4294967296)) := fun x hx => ⟨hs x hx, tokI_len⟩
  clear hs
  obtain ⟨o, ho⟩ : ∃ o, jn true [] ts = o := ⟨_, rfl⟩
  replace ho := Lib.hid ho
  go_enter Tryd.func4, Tryd.ntmps4
  go_wp2_with fail
  refine hl.out.mono ?_
  rintro e w1 ⟨v1, rfl, hk1, S1, _⟩
  have hA1 := hA.kp0 hk1
  obtain ⟨g, cap, rfl, C1⟩ := S1.at hn
  clear S1
  go_wp2_with fail
  refine (join_c g cap ts w1 hA1 C1 hm hs2.out).mono ?_
  rintro e w2 ⟨hk2, f1, f2⟩
  have hA2 := hA1.kp0 hk2
  have J2 := rjoin_c g cap ts w2 (fun i x hx => (C1 i x hx).kp hk2) hm hs2.out
  rw [ho.out] at f1 f2 J2
  replace J2 := Lib.hid J2
  clear C1
  cases o with
  | none =>
    obtain rfl := f1 rfl
    clear f1 f2
    go_wp2_with fail
    refine (J2.out).mono ?_
    rintro e w3 ⟨hk3, r1, _⟩
    obtain rfl := r1 rfl
    have hA3 := hA2.kp0 hk3
    go_wp2_with (go_at_call 16; refine (awake_c _ hA3).mono ?_; rintro e w' ⟨rfl, hk⟩)
    go_ret
    exact ⟨rfl, hk1.trans (hk2.trans (hk3.trans hk))⟩
  | some a =>
    obtain rfl := f2 a rfl
    clear f1 f2
    obtain ⟨s2, hs2⟩ : ∃ s2 : ByteArray, ⟨a.toArray⟩ = s2 := ⟨_, rfl⟩
    rw [hs2]
    replace hs2 := Lib.hid hs2
    go_wp2_with fail
    refine (J2.out).mono ?_
    rintro e w3 ⟨hk3, _, r2⟩
    obtain rfl := r2 a rfl
    rw [hs2.out]
    have hA3 := hA2.kp0 hk3
    go_wp2_with (go_at_call 16; refine (awake_c _ hA3).mono ?_; rintro e w' ⟨rfl, hk⟩)
    go_ret
    exact ⟨rfl, hk1.trans (hk2.trans (hk3.trans hk))⟩
end Go.Proofs.YtbfmkehchddkoaaDoor
