import Derived.Test.YtbfmkehchddkoaaDoorJn3
namespace Go.Proofs.YtbfmkehchddkoaaDoor
open Go.RowKit

/-- The array in block g holds these tokens. -/
def TiAt (W : World) (g i : Nat) (x : TI) : Prop :=
  W.cell? ⟨g, i * 3, none⟩ = some (.int .i64 x.kind) ∧ W.cell? ⟨g, i * 3 + 1, none⟩ = some (.string x.text) ∧ W.cell? ⟨g, i * 3 + 2, none⟩ = some (.int .i64 x.at_)
theorem TiAt.kp {W W' : World} {g i : Nat} {x : TI} (h : TiAt W g i x) (k : Kp [] W W') : TiAt W' g i x :=
  ⟨k.cell h.1 (by simp), k.cell h.2.1 (by simp), k.cell h.2.2 (by simp)⟩

/-- What Join makes of tokens, behind what stands there already. -/
def jn : Bool → List UInt8 → List TI → Option (List UInt8)
  | _, acc, [] => some acc
  | first, acc, x :: r =>
    if isEndI x && r.isEmpty then some acc
    else if isTokI x then
      if 8000 < ((if first then acc else acc ++ [32]) ++ x.text.data.toList).length then none else jn false ((if first then acc else acc ++ [32]) ++ x.text.data.toList) r
    else none

def JRes (o : Option (List UInt8)) (w : World) (e : Ending) (w' : World) : Prop :=
  Kp [] w w' ∧ (o = none → e = .returned (.tuple #[.string ⟨#[]⟩, .int .i64 2])) ∧ (∀ a, o = some a → e = .returned (.tuple #[.string ⟨a.toArray⟩, .int .i64 0]))

theorem JRes.no {o : Option (List UInt8)} {w w' : World} (h : o = none) (k : Kp [] w w') : JRes o w (.returned (.tuple #[.string ⟨#[]⟩, .int .i64 2])) w' := by
  subst h
  exact ⟨k, fun _ => rfl, fun a h => by cases h⟩
theorem JRes.yes {o : Option (List UInt8)} {a : List UInt8} {w w' : World} (h : o = some a) (k : Kp [] w w') : JRes o w (.returned (.tuple #[.string ⟨a.toArray⟩, .int .i64 0])) w' := by
  subst h
  exact ⟨k, (fun h => by cases h), fun b h => by cases h; rfl⟩

theorem Kp.below_trans {w a b : World} (h : Kp [] w a) (k : Below w.heap.size a b) : Kp [] w b := Kp.of_below (h.below.trans k)

theorem Bld.lt {B b : Nat} {l : List UInt8} {w : World} (h : Bld B b l w) : b < w.heap.size := by
  rcases h with h | h
  · exact h.lt
  · exact h.lt

theorem jn_step {first : Bool} {acc : List UInt8} {x : TI} {r : List TI} (h : (isEndI x && r.isEmpty) = false) (ht : isTokI x = true) {a : List UInt8} (ha : (if first then acc else acc ++ [32]) ++ x.text.data.toList = a) :
    jn first acc (x :: r) = if 8000 < a.length then none else jn false a r := by
  rw [jn, h, ht, ha]; rfl
theorem jn_no {first : Bool} {acc : List UInt8} {x : TI} {r : List TI} (h : (isEndI x && r.isEmpty) = false) (ht : isTokI x = false) : jn first acc (x :: r) = none := by
  rw [jn, h, ht]; rfl
theorem jn_end {first : Bool} {acc : List UInt8} {x : TI} {r : List TI} (h : (isEndI x && r.isEmpty) = true) : jn first acc (x :: r) = some acc := by
  rw [jn, h]; rfl

set_option maxRecDepth 100000 in
set_option maxHeartbeats 4000000 in
theorem join_c (g cap : Nat) (ts : List TI) (w : World) (hA : Amb w) (hc : ∀ i x, ts[i]? = some x → TiAt w g i x) (hn : ts.length ≤ 10000)
    (hs : ∀ x ∈ ts, x.text.size ≤ 140737488355328 ∧ (isTokI x = true → x.text.size ≤ 4294967296)) :
    Calls Tryd.prog 18 #[.slice (some ⟨g, 0, none⟩) ts.length cap] w (JRes (jn true [] ts) w) := by
  replace hc := Lib.hid hc
  replace hs := Lib.hid hs
  obtain ⟨n, hnn⟩ : ∃ n, ts.length = n := ⟨_, rfl⟩
  rw [hnn] at hn ⊢
  replace hnn := Lib.hid hnn
  have hlo := hA.lo
  obtain ⟨W0, hW0⟩ : ∃ W0, w.alloc (.cells #[.pointer none, .slice none 0 0] 62) = W0 := ⟨_, rfl⟩
  have hK0 : Kp [] w W0 := by rw [← hW0]; exact (Kp.refl _ w).alloc _
  have hB0 : Bld w.heap.size w.heap.size [] W0 := by rw [← hW0]; exact bld_new w
  replace hW0 := Lib.hid hW0
  go_enter Tryd.func18, Tryd.ntmps18
  go_wp2_with fail
  rw [hW0.out]
  go_loopw [9] (fun i wr => ∃ (k : Nat) (acc : List UInt8), k ≤ n ∧ i = .int .i64 k ∧ Kp [] w wr ∧ Bld w.heap.size w.heap.size acc wr ∧ acc.length ≤ 8000 ∧ Hid (jn true [] ts = jn (decide (k = 0)) acc (ts.drop k))) (fun i _ => n - (intOf i).toNat)
  case atStart => exact ⟨0, [], by omega, rfl, hK0, hB0, by simp, rfl⟩
  case round =>
    obtain ⟨k, acc, hk, rfl, hK, hB, hacc, hE⟩ := hrel
    by_cases hlt : k < n
    · obtain ⟨x, hx⟩ : ∃ x, ts[k]? = some x := ⟨_, List.getElem?_eq_getElem (by have := hnn.out; omega)⟩
      have hx' : ts.drop k = x :: ts.drop (k + 1) := by
        obtain ⟨h1, h2⟩ := List.getElem?_eq_some_iff.1 hx
        rw [List.drop_eq_getElem_cons h1, h2]
      obtain ⟨z1, z2⟩ := hs.out x (List.mem_of_getElem? hx)
      obtain ⟨a0, a1, a2⟩ := (hc.out k x hx).kp hK
      replace hx := Lib.hid hx
      replace hx' := Lib.hid hx'
      replace z2 := Lib.hid z2
      have hemp : (ts.drop (k + 1)).isEmpty = decide (k + 1 = n) := by
        rw [Bool.eq_iff_iff, List.isEmpty_iff, decide_eq_true_eq, List.drop_eq_nil_iff]
        have := hnn.out
        omega
      cases hlast : ((k : Int) == (n : Int) - 1)
      · have hne : Hid ((isEndI x && (ts.drop (k + 1)).isEmpty) = false) := by
          show _ = _
          rw [hemp]
          simp at hlast
          have : ¬ k + 1 = n := by omega
          simp [this]
        clear hemp
        go_wp2_with fail
        obtain ⟨W2, hW2⟩ : ∃ W2, wr.alloc (.cells #[.int .i64 x.kind, .string x.text, .int .i64 x.at_] 46) = W2 := ⟨_, rfl⟩
        have hK2 : Kp [] wr W2 := by rw [← hW2]; exact (Kp.refl _ wr).alloc _
        have hbT : Blk W2 wr.heap.size 46 #[.int .i64 x.kind, .string x.text, .int .i64 x.at_] := by rw [← hW2]; exact Blk.new wr _ _
        rw [hW2]
        clear hW2
        refine (isToken_c x _ (hA.kp0 (hK.trans hK2)) z1).mono ?_
        rintro e W3 ⟨rfl, hk3⟩
        have hB3 := (hB.kp hK2).kp hk3
        have hbT3 := hbT.kp hk3 (by simp)
        have hK3 : Kp [] w W3 := hK.trans (hK2.trans hk3)
        have c1 := hbT3.cell 1 rfl
        have hBw : w.heap.size ≤ W3.heap.size := hK3.size
        cases ht : isTokI x
        · have hR : Hid (jn true [] ts = none) := by show _ = _; rw [hE.out, hx'.out, jn_no hne.out ht]
          go_wp2_with fail
          go_ret2
          exact JRes.no hR.out hK3
        · have z3 := z2.out ht
          have ht' := Lib.hid ht
          by_cases hk0 : k = 0
          · have g0 : decide (0 < (k : Int)) = false := by simp; omega
            obtain ⟨A, hAd⟩ : ∃ A, acc ++ x.text.data.toList = A := ⟨_, rfl⟩
            obtain ⟨m, hm⟩ : ∃ m, A.length = m := ⟨_, rfl⟩
            have hE3 : Hid (jn true [] ts = if 8000 < m then none else jn false A (ts.drop (k + 1))) := by
              show _ = _
              rw [hE.out, hx'.out, ← hm]
              exact jn_step hne.out ht'.out (by rw [← hAd]; simp [hk0])
            replace hAd := Lib.hid hAd
            go_wp2_with fail
            refine (wstr_c w.heap.size w.heap.size acc x.text _ hB3 (by omega) hBw).mono ?_
            rintro e W4 ⟨rfl, hB4, hb4⟩
            have hK4 := hK3.below_trans hb4
            rw [hAd.out] at hB4
            go_wp2_with fail
            refine (blen_c _ _ _ _ hB4).mono ?_
            rintro e W4' ⟨rfl, rfl⟩
            rw [hm]
            by_cases h8 : 8000 < m
            · have g8 : decide ((8000 : Int) < (m : Int)) = true := by simp; omega
              have hR : Hid (jn true [] ts = none) := by show _ = _; rw [hE3.out, if_pos h8]
              replace hm := Lib.hid hm
              go_wp2_with fail
              go_ret2
              exact JRes.no hR.out hK4
            · have g8 : decide ((8000 : Int) < (m : Int)) = false := by simp; omega
              have hR : Hid (jn true [] ts = jn (decide (k + 1 = 0)) A (ts.drop (k + 1))) := by show _ = _; rw [hE3.out, if_neg h8]; simp
              replace hm := Lib.hid hm
              go_wp2_with fail
              go_roundw
              case rel => exact ⟨k + 1, A, by omega, by go_num, hK4, hB4, by rw [hm.out]; omega, hR⟩
              case measure => simp [intOf]; omega
          · have g0 : decide (0 < (k : Int)) = true := by simp; omega
            obtain ⟨A, hAd⟩ : ∃ A, (acc ++ [32]) ++ x.text.data.toList = A := ⟨_, rfl⟩
            obtain ⟨m, hm⟩ : ∃ m, A.length = m := ⟨_, rfl⟩
            have hE3 : Hid (jn true [] ts = if 8000 < m then none else jn false A (ts.drop (k + 1))) := by
              show _ = _
              rw [hE.out, hx'.out, ← hm]
              exact jn_step hne.out ht'.out (by rw [← hAd]; simp [hk0])
            replace hAd := Lib.hid hAd
            have hsz32 : (acc ++ [32]).length = acc.length + 1 := by simp
            replace hsz32 := Lib.hid hsz32
            go_wp2_with fail
            refine (wbyte_c w.heap.size w.heap.size acc 32 _ hB3 (by omega) hBw).mono ?_
            rintro e W5 ⟨rfl, hB5, hb5, ho5⟩
            have hK5 := hK3.below_trans hb5
            have hbT5 := ho5 _ _ _ (by decide) (by have := hB.lt; omega) hbT3
            have d1 := hbT5.cell 1 rfl
            have hBw5 : w.heap.size ≤ W5.heap.size := hK5.size
            go_wp2_with fail
            refine (wstr_c w.heap.size w.heap.size (acc ++ [32]) x.text _ hB5 (by rw [hsz32.out]; omega) hBw5).mono ?_
            rintro e W4 ⟨rfl, hB4, hb4⟩
            have hK4 := hK5.below_trans hb4
            rw [hAd.out] at hB4
            go_wp2_with fail
            refine (blen_c _ _ _ _ hB4).mono ?_
            rintro e W4' ⟨rfl, rfl⟩
            rw [hm]
            by_cases h8 : 8000 < m
            · have g8 : decide ((8000 : Int) < (m : Int)) = true := by simp; omega
              have hR : Hid (jn true [] ts = none) := by show _ = _; rw [hE3.out, if_pos h8]
              replace hm := Lib.hid hm
              go_wp2_with fail
              go_ret2
              exact JRes.no hR.out hK4
            · have g8 : decide ((8000 : Int) < (m : Int)) = false := by simp; omega
              have hR : Hid (jn true [] ts = jn (decide (k + 1 = 0)) A (ts.drop (k + 1))) := by show _ = _; rw [hE3.out, if_neg h8]; simp
              replace hm := Lib.hid hm
              go_wp2_with fail
              go_roundw
              case rel => exact ⟨k + 1, A, by omega, by go_num, hK4, hB4, by rw [hm.out]; omega, hR⟩
              case measure => simp [intOf]; omega
      · have hne1 : (ts.drop (k + 1)).isEmpty = true := by
          rw [hemp]
          simp at hlast
          have : k + 1 = n := by omega
          simp [this]
        clear hemp
        go_wp2_with fail
        refine (isEnd_c x _).mono ?_
        rintro e W2 ⟨rfl, hk2⟩
        have hK2 : Kp [] wr W2 := ((Kp.refl _ wr).alloc _).trans hk2
        have hbT := (Blk.new wr 46 #[.int .i64 x.kind, .string x.text, .int .i64 x.at_]).kp hk2 (by simp)
        cases hen : isEndI x
        · have hne : Hid ((isEndI x && (ts.drop (k + 1)).isEmpty) = false) := by show _ = _; rw [hen]; rfl
          replace hen := Lib.hid hen
          have s0 := hbT.cell 0 rfl
          have s1 := hbT.cell 1 rfl
          have s2 := hbT.cell 2 rfl
          go_wp2_with fail
          refine (isToken_c x _ (hA.kp0 (hK.trans hK2)) z1).mono ?_
          rintro e W3 ⟨rfl, hk3⟩
          have hB3 := (hB.kp hK2).kp hk3
          have hbT3 := hbT.kp hk3 (by simp)
          have hK3 : Kp [] w W3 := hK.trans (hK2.trans hk3)
          have c1 := hbT3.cell 1 rfl
          have hBw : w.heap.size ≤ W3.heap.size := hK3.size
          cases ht : isTokI x
          · have hR : Hid (jn true [] ts = none) := by show _ = _; rw [hE.out, hx'.out, jn_no hne.out ht]
            go_wp2_with fail
            go_ret2
            exact JRes.no hR.out hK3
          · have z3 := z2.out ht
            have ht' := Lib.hid ht
            by_cases hk0 : k = 0
            · have g0 : decide (0 < (k : Int)) = false := by simp; omega
              obtain ⟨A, hAd⟩ : ∃ A, acc ++ x.text.data.toList = A := ⟨_, rfl⟩
              obtain ⟨m, hm⟩ : ∃ m, A.length = m := ⟨_, rfl⟩
              have hE3 : Hid (jn true [] ts = if 8000 < m then none else jn false A (ts.drop (k + 1))) := by
                show _ = _
                rw [hE.out, hx'.out, ← hm]
                exact jn_step hne.out ht'.out (by rw [← hAd]; simp [hk0])
              replace hAd := Lib.hid hAd
              go_wp2_with fail
              refine (wstr_c w.heap.size w.heap.size acc x.text _ hB3 (by omega) hBw).mono ?_
              rintro e W4 ⟨rfl, hB4, hb4⟩
              have hK4 := hK3.below_trans hb4
              rw [hAd.out] at hB4
              go_wp2_with fail
              refine (blen_c _ _ _ _ hB4).mono ?_
              rintro e W4' ⟨rfl, rfl⟩
              rw [hm]
              by_cases h8 : 8000 < m
              · have g8 : decide ((8000 : Int) < (m : Int)) = true := by simp; omega
                have hR : Hid (jn true [] ts = none) := by show _ = _; rw [hE3.out, if_pos h8]
                replace hm := Lib.hid hm
                go_wp2_with fail
                go_ret2
                exact JRes.no hR.out hK4
              · have g8 : decide ((8000 : Int) < (m : Int)) = false := by simp; omega
                have hR : Hid (jn true [] ts = jn (decide (k + 1 = 0)) A (ts.drop (k + 1))) := by show _ = _; rw [hE3.out, if_neg h8]; simp
                replace hm := Lib.hid hm
                go_wp2_with fail
                go_roundw
                case rel => exact ⟨k + 1, A, by omega, by go_num, hK4, hB4, by rw [hm.out]; omega, hR⟩
                case measure => simp [intOf]; omega
            · have g0 : decide (0 < (k : Int)) = true := by simp; omega
              obtain ⟨A, hAd⟩ : ∃ A, (acc ++ [32]) ++ x.text.data.toList = A := ⟨_, rfl⟩
              obtain ⟨m, hm⟩ : ∃ m, A.length = m := ⟨_, rfl⟩
              have hE3 : Hid (jn true [] ts = if 8000 < m then none else jn false A (ts.drop (k + 1))) := by
                show _ = _
                rw [hE.out, hx'.out, ← hm]
                exact jn_step hne.out ht'.out (by rw [← hAd]; simp [hk0])
              replace hAd := Lib.hid hAd
              have hsz32 : (acc ++ [32]).length = acc.length + 1 := by simp
              replace hsz32 := Lib.hid hsz32
              go_wp2_with fail
              refine (wbyte_c w.heap.size w.heap.size acc 32 _ hB3 (by omega) hBw).mono ?_
              rintro e W5 ⟨rfl, hB5, hb5, ho5⟩
              have hK5 := hK3.below_trans hb5
              have hbT5 := ho5 _ _ _ (by decide) (by have := hB.lt; omega) hbT3
              have d1 := hbT5.cell 1 rfl
              have hBw5 : w.heap.size ≤ W5.heap.size := hK5.size
              go_wp2_with fail
              refine (wstr_c w.heap.size w.heap.size (acc ++ [32]) x.text _ hB5 (by rw [hsz32.out]; omega) hBw5).mono ?_
              rintro e W4 ⟨rfl, hB4, hb4⟩
              have hK4 := hK5.below_trans hb4
              rw [hAd.out] at hB4
              go_wp2_with fail
              refine (blen_c _ _ _ _ hB4).mono ?_
              rintro e W4' ⟨rfl, rfl⟩
              rw [hm]
              by_cases h8 : 8000 < m
              · have g8 : decide ((8000 : Int) < (m : Int)) = true := by simp; omega
                have hR : Hid (jn true [] ts = none) := by show _ = _; rw [hE3.out, if_pos h8]
                replace hm := Lib.hid hm
                go_wp2_with fail
                go_ret2
                exact JRes.no hR.out hK4
              · have g8 : decide ((8000 : Int) < (m : Int)) = false := by simp; omega
                have hR : Hid (jn true [] ts = jn (decide (k + 1 = 0)) A (ts.drop (k + 1))) := by show _ = _; rw [hE3.out, if_neg h8]; simp
                replace hm := Lib.hid hm
                go_wp2_with fail
                go_roundw
                case rel => exact ⟨k + 1, A, by omega, by go_num, hK4, hB4, by rw [hm.out]; omega, hR⟩
                case measure => simp [intOf]; omega
        · have hR : Hid (jn true [] ts = some acc) := by show _ = _; rw [hE.out, hx'.out]; exact jn_end (by rw [hen, hne1]; rfl)
          replace hen := Lib.hid hen
          go_wp2_with fail
          have hB2 := hB.kp hK2
          have hKK : Kp [] w W2 := hK.trans hK2
          refine (bstr_c w.heap.size w.heap.size acc _ hB2 hKK.size).mono ?_
          rintro e W3 ⟨rfl, hb3⟩
          go_wp2_with fail
          go_ret2
          exact JRes.yes hR.out (hKK.below_trans hb3)
    · obtain rfl : k = n := by omega
      have hR : Hid (jn true [] ts = some acc) := by
        show _ = _
        rw [hE.out, List.drop_of_length_le (by have := hnn.out; omega)]; rfl
      go_wp2_with fail
      refine (bstr_c w.heap.size w.heap.size acc _ hB hK.size).mono ?_
      rintro e W3 ⟨rfl, hb3⟩
      go_wp2_with fail
      go_ret2
      exact JRes.yes hR.out (hK.below_trans hb3)
end Go.Proofs.YtbfmkehchddkoaaDoor
