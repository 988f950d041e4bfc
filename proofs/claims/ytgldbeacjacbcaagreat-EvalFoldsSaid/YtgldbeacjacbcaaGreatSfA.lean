import Derived.Test.YtgldbeacjacbcaaGreatSzM
import Derived.Test.YtgldbeacjacbcaaGreatEvM
import Derived.Test.YtgldbeacjacbcaaGreatTz4
set_option linter.unusedSimpArgs false
set_option linter.unusedVariables false
namespace Go.Proofs.YtgldbeacjacbcaaGreat
open Go.RowKit

/- The reference's kinds of operators. -/
theorem kun_c (op k : Int) (w : World) :
    Calls Tryz.prog 18 #[.int .i64 op, .int .i64 k] w fun r w' => r = .returned (.int .i64 (if (op = 6 ∧ k = 1) ∨ (op = 7 ∧ k = 2) then k else 0)) ∧ w' = w := by
  by_cases h6 : op = 6
  · subst h6
    by_cases h1 : k = 1
    · subst h1
      go_enter Tryz.func18, Tryz.ntmps18
      go_wp2
      go_ret
      exact ⟨rfl, rfl⟩
    · go_enter Tryz.func18, Tryz.ntmps18
      go_wp2
      go_ret
      first | exact ⟨rfl, rfl⟩ | (exfalso; omega)
  · by_cases h7 : op = 7
    · subst h7
      by_cases h2 : k = 2
      · subst h2
        go_enter Tryz.func18, Tryz.ntmps18
        go_wp2
        go_ret
        exact ⟨rfl, rfl⟩
      · go_enter Tryz.func18, Tryz.ntmps18
        go_wp2
        go_ret
        first | exact ⟨rfl, rfl⟩ | (exfalso; omega)
    · go_enter Tryz.func18, Tryz.ntmps18
      go_wp2
      go_ret
      first | exact ⟨rfl, rfl⟩ | (exfalso; omega)

theorem kbi_no (op k l : Int) (w : World) (h : ¬ k = l) :
    Calls Tryz.prog 21 #[.int .i64 op, .int .i64 k, .int .i64 l] w fun r w' => r = .returned (.int .i64 0) ∧ w' = w := by
  go_enter Tryz.func21, Tryz.ntmps21
  go_wp2
  go_ret
  exact ⟨rfl, rfl⟩
theorem kbi_c (op k : Int) (w : World) (h8 : 8 ≤ op) (h21 : op ≤ 21) (hk : k = 1 ∨ k = 2 ∨ k = 3) :
    Calls Tryz.prog 21 #[.int .i64 op, .int .i64 k, .int .i64 k] w fun r w' => r = .returned (.int .i64 (if kindOk op k then kindRes op k else 0)) ∧ w' = w := by
  rcases (show op = 8 ∨ op = 9 ∨ op = 10 ∨ op = 11 ∨ op = 12 ∨ op = 13 ∨ op = 14 ∨ op = 15 ∨ op = 16 ∨ op = 17 ∨ op = 18 ∨ op = 19 ∨ op = 20 ∨ op = 21 by omega) with rfl | rfl | rfl | rfl | rfl | rfl | rfl | rfl | rfl | rfl | rfl | rfl | rfl | rfl <;> rcases hk with rfl | rfl | rfl
  all_goals
    go_enter Tryz.func21, Tryz.ntmps21
    go_wp2
    go_ret
    exact ⟨rfl, rfl⟩

/- The reference's constant. -/
def constRes (y : Ex) (u : Value) (k n : Int) : Value := if n < 0 then exVal y u else .agg #[.int .i64 1, .int .i64 k, .int .i64 n, .string ⟨#[]⟩, .string ⟨#[]⟩, .slice none 0 0]
set_option maxRecDepth 100000 in
theorem constant_c (op kind num : Int) (s f : ByteArray) (q : Option Addr) (len cap : Nat) (k n : Int) (w : World) :
    Calls Tryz.prog 20 #[.agg #[.int .i64 op, .int .i64 kind, .int .i64 num, .string s, .string f, .slice q len cap], .int .i64 k, .int .i64 n] w fun r w' =>
      r = .returned (if n < 0 then .agg #[.int .i64 op, .int .i64 kind, .int .i64 num, .string s, .string f, .slice q len cap] else .agg #[.int .i64 1, .int .i64 k, .int .i64 n, .string ⟨#[]⟩, .string ⟨#[]⟩, .slice none 0 0]) ∧ Kp [] w w' := by
  by_cases hn : n < 0
  · have hB := blk_new (w := w.alloc (.cells #[.int .i64 op, .int .i64 kind, .int .i64 num, .string s, .string f, .slice q len cap] 24)) (n := w.heap.size + 1) (by simp) 24 #[.int .i64 op, .int .i64 kind, .int .i64 num, .string s, .string f, .slice q len cap]
    have z0 := hB.cell 0 (v := .int .i64 op) rfl
    have z1 := hB.cell 1 (v := .int .i64 kind) rfl
    have z2 := hB.cell 2 (v := .int .i64 num) rfl
    have z3 := hB.cell 3 (v := .string s) rfl
    have z4 := hB.cell 4 (v := .string f) rfl
    have z5 := hB.cell 5 (v := .slice q len cap) rfl
    replace hB := Lib.hid hB
    go_enter Tryz.func20, Tryz.ntmps20
    go_wp2
    refine bodyPost_ret (v := .agg #[.int .i64 op, .int .i64 kind, .int .i64 num, .string s, .string f, .slice q len cap]) (by simp [results, Tryz.results20, go_sem, z0, z1, z2, z3, z4, z5]) rfl ?_
    exact ⟨rfl, ((Kp.refl [] w).alloc _).alloc _⟩
  · have hB := blk_new (w := w.alloc (.cells #[.int .i64 op, .int .i64 kind, .int .i64 num, .string s, .string f, .slice q len cap] 24)) (n := w.heap.size + 1) (by simp) 24 #[.int .i64 1, .int .i64 k, .int .i64 n, .string ⟨#[]⟩, .string ⟨#[]⟩, .slice none 0 0]
    have z0 := hB.cell 0 (v := .int .i64 1) rfl
    have z1 := hB.cell 1 (v := .int .i64 k) rfl
    have z2 := hB.cell 2 (v := .int .i64 n) rfl
    have z3 := hB.cell 3 (v := .string ⟨#[]⟩) rfl
    have z4 := hB.cell 4 (v := .string ⟨#[]⟩) rfl
    have z5 := hB.cell 5 (v := .slice none 0 0) rfl
    replace hB := Lib.hid hB
    go_enter Tryz.func20, Tryz.ntmps20
    go_wp2
    refine bodyPost_ret (v := .agg #[.int .i64 1, .int .i64 k, .int .i64 n, .string ⟨#[]⟩, .string ⟨#[]⟩, .slice none 0 0]) (by simp [results, Tryz.results20, go_sem, z0, z1, z2, z3, z4, z5]) rfl ?_
    exact ⟨rfl, ((Kp.refl [] w).alloc _).alloc _⟩
end Go.Proofs.YtgldbeacjacbcaaGreat

set_option linter.unusedSimpArgs false
set_option linter.unusedVariables false
namespace Go.Proofs.YtgldbeacjacbcaaGreat
open Go.RowKit

theorem rbin_c (op k v x : Int) (w : World) (h8 : 8 ≤ op) (h21 : op ≤ 21) (hk : kindOk op k = true) (hc : conB k v = true) (hx : conB k x = true) :
    Calls Tryz.prog 22 #[.int .i64 op, .int .i64 v, .int .i64 x] w fun r w' => r = .returned (.tuple #[.int .i64 (biR op v x).1, .int .i64 (biR op v x).2, .bool true]) ∧ w' = w := by
  have e1 := con_val hc
  have e2 := con_val hx
  rcases (show op = 8 ∨ op = 9 ∨ op = 10 ∨ op = 11 ∨ op = 12 ∨ op = 13 ∨ op = 14 ∨ op = 15 ∨ op = 16 ∨ op = 17 ∨ op = 18 ∨ op = 19 ∨ op = 20 ∨ op = 21 by omega) with rfl | rfl | rfl | rfl | rfl | rfl | rfl | rfl | rfl | rfl | rfl | rfl | rfl | rfl
  · simp [kindOk] at hk
    subst hk
    exact (rbin_8 v x w (con_bit hc) (con_bit hx)).mono fun r w' h => ⟨h.1.trans (by simp [biR]), h.2⟩
  · simp [kindOk] at hk
    subst hk
    exact (rbin_9 v x w (con_bit hc) (con_bit hx)).mono fun r w' h => ⟨h.1.trans (by simp [biR]), h.2⟩
  · simp [kindOk] at hk
    subst hk
    exact (rbin_10 v x w (con_bit hc) (con_bit hx)).mono fun r w' h => ⟨h.1.trans (by simp [biR]), h.2⟩
  · exact (rbin_11 v x w e1 e2).mono fun r w' h => ⟨h.1.trans (by simp [biR]), h.2⟩
  · exact (rbin_12 v x w e1 e2).mono fun r w' h => ⟨h.1.trans (by simp [biR]), h.2⟩
  · exact (rbin_13 v x w e1 e2).mono fun r w' h => ⟨h.1.trans (by simp [biR]), h.2⟩
  · exact (rbin_14 v x w e1 e2).mono fun r w' h => ⟨h.1.trans (by simp [biR]), h.2⟩
  · exact (rbin_15 v x w e1 e2).mono fun r w' h => ⟨h.1.trans (by simp [biR]), h.2⟩
  · exact (rbin_16 v x w e1 e2).mono fun r w' h => ⟨h.1.trans (by simp [biR]), h.2⟩
  · exact (rbin_17 v x w e1 e2).mono fun r w' h => ⟨h.1.trans (by simp [biR]), h.2⟩
  · exact (rbin_18 v x w e1 e2).mono fun r w' h => ⟨h.1.trans (by simp [biR]), h.2⟩
  · exact (rbin_19 v x w e1 e2).mono fun r w' h => ⟨h.1.trans (by simp [biR]), h.2⟩
  · by_cases hz : x = 0
    · subst hz
      exact (rbin_20_0 v w e1).mono fun r w' h => ⟨h.1.trans (by simp [biR]), h.2⟩
    · exact (rbin_20 v x w e1 e2 hz).mono fun r w' h => ⟨h.1.trans (by simp [biR, hz]), h.2⟩
  · by_cases hz : x = 0
    · subst hz
      exact (rbin_21_0 v w e1).mono fun r w' h => ⟨h.1.trans (by simp [biR]), h.2⟩
    · exact (rbin_21 v x w e1 e2 hz).mono fun r w' h => ⟨h.1.trans (by simp [biR, hz]), h.2⟩

theorem dec_op {op : Int} {l : List Ex} (h : ¬ op = 8) (h2 : ¬ op = 10) : ¬ decE op l = true := by
  cases l with
  | nil => simp [decE]
  | cons a l => simp [decE, h, h2]
theorem step_lo {op kind num : Int} {s f : ByteArray} {l : List Ex} (h : op < 6) : stepE (.mk op kind num s f l) = .mk op kind num s f l := by
  rw [stepE_mk, if_neg (dec_op (by omega) (by omega)), if_pos h]
theorem step_un_no {op kind num : Int} {s f : ByteArray} {a : Ex} (ho : op = 6 ∨ op = 7) (h : ¬ a.op = 1 ∨ kindOk op a.kind = false ∨ unR op a.num < 0) : stepE (.mk op kind num s f [a]) = .mk op kind num s f [a] := by
  rw [stepE_mk, if_neg (dec_op (by omega) (by omega)), if_neg (by omega), conE, if_neg]
  rintro ⟨h1, h2, h3⟩
  rcases h with h | h | h
  · exact h h1
  · rw [h] at h2; cases h2
  · omega
theorem step_un_yes {op kind num : Int} {s f : ByteArray} {a : Ex} (ho : op = 6 ∨ op = 7) (h1 : a.op = 1) (h2 : kindOk op a.kind = true) (h3 : 0 ≤ unR op a.num) : stepE (.mk op kind num s f [a]) = cst (kindRes op a.kind) (unR op a.num) := by
  rw [stepE_mk, if_neg (dec_op (by omega) (by omega)), if_neg (by omega), conE, if_pos ⟨h1, h2, h3⟩]
theorem step_dec {op kind num : Int} {s f : ByteArray} {a : Ex} {l : List Ex} (h : decE op (a :: l) = true) : stepE (.mk op kind num s f (a :: l)) = a := by
  rw [stepE_mk, if_pos h]; rfl
theorem step_bi_no {op kind num : Int} {s f : ByteArray} {a b : Ex} (h8 : 8 ≤ op) (hd : decE op [a, b] = false) (h : ¬ a.op = 1 ∨ ¬ b.op = 1 ∨ ¬ b.kind = a.kind ∨ kindOk op a.kind = false ∨ ¬ (biR op a.num b.num).2 = 0 ∨ (biR op a.num b.num).1 < 0) : stepE (.mk op kind num s f [a, b]) = .mk op kind num s f [a, b] := by
  rw [stepE_mk, if_neg (by rw [hd]; decide), if_neg (by omega), conE, if_neg]
  rintro ⟨h1, h2, h3, h4, h5, h6⟩
  rcases h with h | h | h | h | h | h
  · exact h h1
  · exact h h2
  · exact h h3
  · rw [h] at h4; cases h4
  · exact h h5
  · omega
theorem step_bi_yes {op kind num : Int} {s f : ByteArray} {a b : Ex} (h8 : 8 ≤ op) (hd : decE op [a, b] = false) (h1 : a.op = 1) (h2 : b.op = 1) (h3 : b.kind = a.kind) (h4 : kindOk op a.kind = true) (h5 : (biR op a.num b.num).2 = 0) (h6 : 0 ≤ (biR op a.num b.num).1) : stepE (.mk op kind num s f [a, b]) = cst (kindRes op a.kind) (biR op a.num b.num).1 := by
  rw [stepE_mk, if_neg (by rw [hd]; decide), if_neg (by omega), conE, if_pos ⟨h1, h2, h3, h4, h5, h6⟩]
theorem dec_two {op : Int} {a b : Ex} (h1 : a.op = 1) : decE op [a, b] = (((op == 10 && a.num == 0) || (op == 8 && a.num == 1)) && a.kind == 1) := by
  simp only [decE, isC, h1]
  generalize (op == 10) = x
  generalize (op == 8) = y
  generalize (a.num == 0) = z
  generalize (a.num == 1) = t
  generalize (a.kind == 1) = u
  cases x <;> cases y <;> cases z <;> cases t <;> cases u <;> rfl
theorem dec_two_no {op : Int} {a b : Ex} (h1 : ¬ a.op = 1) : decE op [a, b] = false := by
  have : (a.op == 1) = false := by simpa using h1
  simp [decE, isC, this]

/-- Element i of a slice whose cells lie in certain blocks. -/
theorem exsAtB.get {B : Nat → Prop} {w : World} : ∀ {es : List Ex} {L : List (List Value)}, exsAtB B w es L → ∀ (i : Nat) (hi : i < es.length), ∃ c, exAtB B w es[i] c ∧ ∀ j u, c[j]? = some u → L.flatten[i * 6 + j]? = some u
  | e :: es, L, h, 0, _ => by
    rw [exsAtB] at h
    obtain ⟨c, L', rfl, h1, _⟩ := h
    obtain ⟨v, rfl, _⟩ := exAtB_inv h1
    refine ⟨_, h1, fun j u hu => ?_⟩
    have hlt := (List.getElem?_eq_some_iff.1 hu).1
    rw [List.flatten_cons, List.getElem?_append_left (by omega)]
    simpa using hu
  | e :: es, L, h, i + 1, hi => by
    rw [exsAtB] at h
    obtain ⟨c0, L', rfl, h0, h⟩ := h
    obtain ⟨c', h1, h2⟩ := exsAtB.get h i (by simpa using hi)
    obtain ⟨v, rfl, _⟩ := exAtB_inv h0
    refine ⟨c', by simpa using h1, fun j u hu => ?_⟩
    rw [List.flatten_cons, List.getElem?_append_right (by simp [exV]; omega), show (exV e v).length = 6 from rfl, show (i + 1) * 6 + j - 6 = i * 6 + j by omega]
    exact h2 j u hu
theorem exsSlB.at_ {B : Nat → Prop} {w : World} {q : Option Addr} {n cap : Nat} {es : List Ex} (h : exsSlB B w (.slice q n cap) es) (hp : 0 < es.length) :
    ∃ b off, q = some ⟨b, off, none⟩ ∧ ∀ (i : Nat) (hi : i < es.length), ∃ qa la ca, es[i].args.length = la ∧ exsSlB B w (.slice qa la ca) es[i].args ∧ ∀ j x, (exV es[i] (.slice qa la ca))[j]? = some x → w.cell? ⟨b, off + (i * 6 + j), none⟩ = some x := by
  obtain ⟨L, ⟨q', cap', h0, _, _, h3⟩, hL⟩ := h
  simp at h0
  obtain ⟨rfl, _, _⟩ := h0
  rcases h3 with h3 | ⟨b, off, rfl, _, h3⟩
  · omega
  · refine ⟨b, off, rfl, fun i hi => ?_⟩
    obtain ⟨c, h1, h2⟩ := hL.get i hi
    obtain ⟨v, rfl, hv⟩ := exAtB_inv h1
    obtain ⟨qa, ca, rfl⟩ := hv.drop.val
    exact ⟨qa, _, ca, rfl, hv, fun j x hx => h3 _ _ (h2 j x hx)⟩
end Go.Proofs.YtgldbeacjacbcaaGreat
