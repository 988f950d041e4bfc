import Derived.Test.YtieacfenoomaeaaQa7
set_option linter.unusedSimpArgs false
set_option linter.unusedVariables false
namespace Go.Proofs.Ytieacfenoomaeaa
open Go.RowKit

/-- The seven cells of a variable of one cell. -/
def varL (x : ByteArray × Int × Int) : List Value := [.string x.1, .int .i64 x.2.1, .int .i64 x.2.2, .int .i64 0, .string ⟨#[]⟩, .slice none 0 0, .string ⟨#[]⟩]
def varV (n : ByteArray) (c k : Int) : Value := .agg (varL (n, c, k)).toArray
/-- A list of such variables lies at block g. -/
def VarsAt (w : World) (g : Nat) (L : List (ByteArray × Int × Int)) : Prop := ∀ i (h : i < L.length), ∀ j u, (varL L[i])[j]? = some u → w.cell? ⟨g, i * 7 + j, none⟩ = some u
theorem VarsAt.kp {w w' : World} {g : Nat} {L : List (ByteArray × Int × Int)} (h : VarsAt w g L) (k : Kp [] w w') : VarsAt w' g L := fun i hi j u hu => k.cell (h i hi j u hu) (by simp)
theorem varL_len (x : ByteArray × Int × Int) : (varL x).length = 7 := rfl
theorem flat_get : ∀ (L : List (ByteArray × Int × Int)) (i : Nat) (h : i < L.length) (j : Nat) (u : Value), (varL L[i])[j]? = some u → (L.flatMap varL)[i * 7 + j]? = some u
  | x :: L, 0, _, j, u, hu => by
    have hlt := (List.getElem?_eq_some_iff.1 hu).1
    rw [List.flatMap_cons, List.getElem?_append_left (by simpa using hlt)]
    simpa using hu
  | x :: L, i + 1, h, j, u, hu => by
    have hl := varL_len x
    rw [List.flatMap_cons, List.getElem?_append_right (by omega), hl, show (i + 1) * 7 + j - 7 = i * 7 + j by omega]
    exact flat_get L i (by simpa using h) j u (by simpa using hu)
theorem vars_of {w : World} {g : Nat} {t : TypeId} {L : List (ByteArray × Int × Int)} {cs : Array Value} (h : Blk w g t cs) (hc : cs = (L.flatMap varL).toArray) : VarsAt w g L := by
  subst hc
  intro i hi j u hu
  exact h.cell _ (by simpa using flat_get L i hi j u hu)

set_option maxRecDepth 100000 in
set_option maxHeartbeats 1000000 in
theorem variable_c (n : ByteArray) (c k : Int) (w : World) : Calls Try.prog 102 #[.string n, .int .i64 c, .int .i64 k] w fun r w' => r = .returned (varV n c k) ∧ Kp [] w w' := by
  go_enter Try.func102, Try.ntmps102
  go_wp2
  exact bodyPost_ret (results_cell_row rfl _ _ w.heap.size 77 _ (0, 0) _ rfl (heap_alloc_new w _) Try.underlying77 rfl (by kernel_rfl)) rfl ⟨rfl, (Kp.refl [] w).alloc _⟩
set_option maxRecDepth 100000 in
set_option maxHeartbeats 1000000 in
theorem input_c (n : ByteArray) (k : Int) (w : World) : Calls Try.prog 88 #[.string n, .int .i64 k] w fun r w' => r = .returned (varV n 1 k) ∧ Kp [] w w' := by
  have hv := Lib.hid (fun W => variable_c n 1 k W)
  unfold varV varL at hv
  have hB := Blk.new w 77 (varL (⟨#[]⟩, 0, 0)).toArray
  unfold varL at hB
  obtain ⟨W1, hW1⟩ : ∃ W1, w.alloc (.cells #[.string ⟨#[]⟩, .int .i64 0, .int .i64 0, .int .i64 0, .string ⟨#[]⟩, .slice none 0 0, .string ⟨#[]⟩] 77) = W1 := ⟨_, rfl⟩
  have hk1 : Kp [] w W1 := hW1 ▸ (Kp.refl [] w).alloc _
  replace hB : Blk W1 w.heap.size 77 #[.string ⟨#[]⟩, .int .i64 0, .int .i64 0, .int .i64 0, .string ⟨#[]⟩, .slice none 0 0, .string ⟨#[]⟩] := hW1 ▸ hB
  replace hB := Lib.hid hB
  replace hk1 := Lib.hid hk1
  replace hW1 := Lib.hid hW1
  go_enter Try.func88, Try.ntmps88
  go_wp2_with fail
  rw [hW1.out]
  refine (hv.out _).mono ?_
  rintro r w2 ⟨rfl, hk2⟩
  have hB2 := hB.out.kp hk2 (by simp)
  have hK := Lib.hid (hk1.out.trans hk2)
  obtain ⟨gx, hgx⟩ : ∃ x, w.heap.size = x := ⟨_, rfl⟩
  rw [hgx] at hB2 ⊢
  have e0 := hB2.cell 0 rfl
  have e1 := hB2.cell 1 rfl
  have e2 := hB2.cell 2 rfl
  have e3 := hB2.cell 3 rfl
  have e4 := hB2.cell 4 rfl
  have e5 := hB2.cell 5 rfl
  have e6 := hB2.cell 6 rfl
  have z0 := hB2.frozen 0
  have z1 := hB2.frozen 1
  have z2 := hB2.frozen 2
  have z3 := hB2.frozen 3
  have z4 := hB2.frozen 4
  have z5 := hB2.frozen 5
  have z6 := hB2.frozen 6
  replace hB2 := Lib.hid hB2
  go_wp2
  have hB9 := ((((((hB2.out.set 0 (.string n)).set 1 (.int .i64 1)).set 2 (.int .i64 k)).set 3 (.int .i64 0)).set 4 (.string ⟨#[]⟩)).set 5 (.slice none 0 0)).set 6 (.string ⟨#[]⟩)
  have hl : ∀ j, (⟨gx, j, none⟩ : Addr).block ∈ ([] : List Nat) ∨ w.heap.size ≤ (⟨gx, j, none⟩ : Addr).block := fun j => .inr (by show w.heap.size ≤ gx; omega)
  exact bodyPost_ret (v := varV n 1 k) (results_cell_row rfl _ _ gx 77 _ (0, 0) _ rfl hB9 Try.underlying77 rfl (by kernel_rfl)) rfl ⟨rfl, ((((((hK.out.setCell (hl 0) _).setCell (hl 1) _).setCell (hl 2) _).setCell (hl 3) _).setCell (hl 4) _).setCell (hl 5) _).setCell (hl 6) _⟩
set_option maxRecDepth 100000 in
set_option maxHeartbeats 1000000 in
theorem output_c (n : ByteArray) (k : Int) (w : World) : Calls Try.prog 89 #[.string n, .int .i64 k] w fun r w' => r = .returned (varV n 2 k) ∧ Kp [] w w' := by
  have hv := Lib.hid (fun W => variable_c n 2 k W)
  unfold varV varL at hv
  have hB := Blk.new w 77 (varL (⟨#[]⟩, 0, 0)).toArray
  unfold varL at hB
  obtain ⟨W1, hW1⟩ : ∃ W1, w.alloc (.cells #[.string ⟨#[]⟩, .int .i64 0, .int .i64 0, .int .i64 0, .string ⟨#[]⟩, .slice none 0 0, .string ⟨#[]⟩] 77) = W1 := ⟨_, rfl⟩
  have hk1 : Kp [] w W1 := hW1 ▸ (Kp.refl [] w).alloc _
  replace hB : Blk W1 w.heap.size 77 #[.string ⟨#[]⟩, .int .i64 0, .int .i64 0, .int .i64 0, .string ⟨#[]⟩, .slice none 0 0, .string ⟨#[]⟩] := hW1 ▸ hB
  replace hB := Lib.hid hB
  replace hk1 := Lib.hid hk1
  replace hW1 := Lib.hid hW1
  go_enter Try.func89, Try.ntmps89
  go_wp2_with fail
  rw [hW1.out]
  refine (hv.out _).mono ?_
  rintro r w2 ⟨rfl, hk2⟩
  have hB2 := hB.out.kp hk2 (by simp)
  have hK := Lib.hid (hk1.out.trans hk2)
  obtain ⟨gx, hgx⟩ : ∃ x, w.heap.size = x := ⟨_, rfl⟩
  rw [hgx] at hB2 ⊢
  have e0 := hB2.cell 0 rfl
  have e1 := hB2.cell 1 rfl
  have e2 := hB2.cell 2 rfl
  have e3 := hB2.cell 3 rfl
  have e4 := hB2.cell 4 rfl
  have e5 := hB2.cell 5 rfl
  have e6 := hB2.cell 6 rfl
  have z0 := hB2.frozen 0
  have z1 := hB2.frozen 1
  have z2 := hB2.frozen 2
  have z3 := hB2.frozen 3
  have z4 := hB2.frozen 4
  have z5 := hB2.frozen 5
  have z6 := hB2.frozen 6
  replace hB2 := Lib.hid hB2
  go_wp2
  have hB9 := ((((((hB2.out.set 0 (.string n)).set 1 (.int .i64 2)).set 2 (.int .i64 k)).set 3 (.int .i64 0)).set 4 (.string ⟨#[]⟩)).set 5 (.slice none 0 0)).set 6 (.string ⟨#[]⟩)
  have hl : ∀ j, (⟨gx, j, none⟩ : Addr).block ∈ ([] : List Nat) ∨ w.heap.size ≤ (⟨gx, j, none⟩ : Addr).block := fun j => .inr (by show w.heap.size ≤ gx; omega)
  exact bodyPost_ret (v := varV n 2 k) (results_cell_row rfl _ _ gx 77 _ (0, 0) _ rfl hB9 Try.underlying77 rfl (by kernel_rfl)) rfl ⟨rfl, ((((((hK.out.setCell (hl 0) _).setCell (hl 1) _).setCell (hl 2) _).setCell (hl 3) _).setCell (hl 4) _).setCell (hl 5) _).setCell (hl 6) _⟩
set_option maxRecDepth 100000 in
set_option maxHeartbeats 1000000 in
theorem local_c (n : ByteArray) (k : Int) (w : World) : Calls Try.prog 90 #[.string n, .int .i64 k] w fun r w' => r = .returned (varV n 3 k) ∧ Kp [] w w' := by
  have hv := Lib.hid (fun W => variable_c n 3 k W)
  unfold varV varL at hv
  have hB := Blk.new w 77 (varL (⟨#[]⟩, 0, 0)).toArray
  unfold varL at hB
  obtain ⟨W1, hW1⟩ : ∃ W1, w.alloc (.cells #[.string ⟨#[]⟩, .int .i64 0, .int .i64 0, .int .i64 0, .string ⟨#[]⟩, .slice none 0 0, .string ⟨#[]⟩] 77) = W1 := ⟨_, rfl⟩
  have hk1 : Kp [] w W1 := hW1 ▸ (Kp.refl [] w).alloc _
  replace hB : Blk W1 w.heap.size 77 #[.string ⟨#[]⟩, .int .i64 0, .int .i64 0, .int .i64 0, .string ⟨#[]⟩, .slice none 0 0, .string ⟨#[]⟩] := hW1 ▸ hB
  replace hB := Lib.hid hB
  replace hk1 := Lib.hid hk1
  replace hW1 := Lib.hid hW1
  go_enter Try.func90, Try.ntmps90
  go_wp2_with fail
  rw [hW1.out]
  refine (hv.out _).mono ?_
  rintro r w2 ⟨rfl, hk2⟩
  have hB2 := hB.out.kp hk2 (by simp)
  have hK := Lib.hid (hk1.out.trans hk2)
  obtain ⟨gx, hgx⟩ : ∃ x, w.heap.size = x := ⟨_, rfl⟩
  rw [hgx] at hB2 ⊢
  have e0 := hB2.cell 0 rfl
  have e1 := hB2.cell 1 rfl
  have e2 := hB2.cell 2 rfl
  have e3 := hB2.cell 3 rfl
  have e4 := hB2.cell 4 rfl
  have e5 := hB2.cell 5 rfl
  have e6 := hB2.cell 6 rfl
  have z0 := hB2.frozen 0
  have z1 := hB2.frozen 1
  have z2 := hB2.frozen 2
  have z3 := hB2.frozen 3
  have z4 := hB2.frozen 4
  have z5 := hB2.frozen 5
  have z6 := hB2.frozen 6
  replace hB2 := Lib.hid hB2
  go_wp2
  have hB9 := ((((((hB2.out.set 0 (.string n)).set 1 (.int .i64 3)).set 2 (.int .i64 k)).set 3 (.int .i64 0)).set 4 (.string ⟨#[]⟩)).set 5 (.slice none 0 0)).set 6 (.string ⟨#[]⟩)
  have hl : ∀ j, (⟨gx, j, none⟩ : Addr).block ∈ ([] : List Nat) ∨ w.heap.size ≤ (⟨gx, j, none⟩ : Addr).block := fun j => .inr (by show w.heap.size ≤ gx; omega)
  exact bodyPost_ret (v := varV n 3 k) (results_cell_row rfl _ _ gx 77 _ (0, 0) _ rfl hB9 Try.underlying77 rfl (by kernel_rfl)) rfl ⟨rfl, ((((((hK.out.setCell (hl 0) _).setCell (hl 1) _).setCell (hl 2) _).setCell (hl 3) _).setCell (hl 4) _).setCell (hl 5) _).setCell (hl 6) _⟩
def timerL : List (ByteArray × Int × Int) := [(⟨#[105, 110]⟩, 1, 1), (⟨#[112, 116]⟩, 1, 3), (⟨#[113]⟩, 2, 1), (⟨#[101, 116]⟩, 2, 3), (⟨#[115, 105, 110, 99, 101]⟩, 3, 3), (⟨#[114, 117, 110, 115]⟩, 3, 1)]
set_option maxRecDepth 100000 in
set_option maxHeartbeats 1000000 in
theorem timerL_c (w : World) : Calls Try.prog 78 #[] w fun r w' => ∃ g, r = .returned (.slice (some ⟨g, 0, none⟩) 6 6) ∧ VarsAt w' g timerL ∧ Kp [] w w' := by
  have h1 := Lib.hid (fun n k W => input_c n k W)
  have h2 := Lib.hid (fun n k W => output_c n k W)
  have h3 := Lib.hid (fun n k W => local_c n k W)
  unfold varV varL at h1 h2 h3
  go_enter Try.func78, Try.ntmps78
  go_wp2_with fail
  refine (h1.out _ _ _).mono ?_
  rintro r w0 ⟨rfl, k0⟩
  replace k0 := Lib.hid k0
  go_wp2_with fail
  refine (h1.out _ _ _).mono ?_
  rintro r w1 ⟨rfl, k1⟩
  replace k1 := Lib.hid (k0.out.trans k1)
  go_wp2_with fail
  refine (h2.out _ _ _).mono ?_
  rintro r w2 ⟨rfl, k2⟩
  replace k2 := Lib.hid (k1.out.trans k2)
  go_wp2_with fail
  refine (h2.out _ _ _).mono ?_
  rintro r w3 ⟨rfl, k3⟩
  replace k3 := Lib.hid (k2.out.trans k3)
  go_wp2_with fail
  refine (h3.out _ _ _).mono ?_
  rintro r w4 ⟨rfl, k4⟩
  replace k4 := Lib.hid (k3.out.trans k4)
  go_wp2_with fail
  refine (h3.out _ _ _).mono ?_
  rintro r w5 ⟨rfl, k5⟩
  replace k5 := Lib.hid (k4.out.trans k5)
  go_wp2_with fail
  go_ret
  exact ⟨_, rfl, vars_of (L := timerL) (Blk.new w5 _ _) rfl, k5.out.alloc _⟩
def ctuL : List (ByteArray × Int × Int) := [(⟨#[99, 117]⟩, 1, 1), (⟨#[114]⟩, 1, 1), (⟨#[112, 118]⟩, 1, 2), (⟨#[113]⟩, 2, 1), (⟨#[99, 118]⟩, 2, 2), (⟨#[119, 97, 115]⟩, 3, 1)]
set_option maxRecDepth 100000 in
set_option maxHeartbeats 1000000 in
theorem ctuL_c (w : World) : Calls Try.prog 79 #[] w fun r w' => ∃ g, r = .returned (.slice (some ⟨g, 0, none⟩) 6 6) ∧ VarsAt w' g ctuL ∧ Kp [] w w' := by
  have h1 := Lib.hid (fun n k W => input_c n k W)
  have h2 := Lib.hid (fun n k W => output_c n k W)
  have h3 := Lib.hid (fun n k W => local_c n k W)
  unfold varV varL at h1 h2 h3
  go_enter Try.func79, Try.ntmps79
  go_wp2_with fail
  refine (h1.out _ _ _).mono ?_
  rintro r w0 ⟨rfl, k0⟩
  replace k0 := Lib.hid k0
  go_wp2_with fail
  refine (h1.out _ _ _).mono ?_
  rintro r w1 ⟨rfl, k1⟩
  replace k1 := Lib.hid (k0.out.trans k1)
  go_wp2_with fail
  refine (h1.out _ _ _).mono ?_
  rintro r w2 ⟨rfl, k2⟩
  replace k2 := Lib.hid (k1.out.trans k2)
  go_wp2_with fail
  refine (h2.out _ _ _).mono ?_
  rintro r w3 ⟨rfl, k3⟩
  replace k3 := Lib.hid (k2.out.trans k3)
  go_wp2_with fail
  refine (h2.out _ _ _).mono ?_
  rintro r w4 ⟨rfl, k4⟩
  replace k4 := Lib.hid (k3.out.trans k4)
  go_wp2_with fail
  refine (h3.out _ _ _).mono ?_
  rintro r w5 ⟨rfl, k5⟩
  replace k5 := Lib.hid (k4.out.trans k5)
  go_wp2_with fail
  go_ret
  exact ⟨_, rfl, vars_of (L := ctuL) (Blk.new w5 _ _) rfl, k5.out.alloc _⟩
def ctdL : List (ByteArray × Int × Int) := [(⟨#[99, 100]⟩, 1, 1), (⟨#[108, 111, 97, 100]⟩, 1, 1), (⟨#[112, 118]⟩, 1, 2), (⟨#[113]⟩, 2, 1), (⟨#[99, 118]⟩, 2, 2), (⟨#[119, 97, 115]⟩, 3, 1)]
set_option maxRecDepth 100000 in
set_option maxHeartbeats 1000000 in
theorem ctdL_c (w : World) : Calls Try.prog 80 #[] w fun r w' => ∃ g, r = .returned (.slice (some ⟨g, 0, none⟩) 6 6) ∧ VarsAt w' g ctdL ∧ Kp [] w w' := by
  have h1 := Lib.hid (fun n k W => input_c n k W)
  have h2 := Lib.hid (fun n k W => output_c n k W)
  have h3 := Lib.hid (fun n k W => local_c n k W)
  unfold varV varL at h1 h2 h3
  go_enter Try.func80, Try.ntmps80
  go_wp2_with fail
  refine (h1.out _ _ _).mono ?_
  rintro r w0 ⟨rfl, k0⟩
  replace k0 := Lib.hid k0
  go_wp2_with fail
  refine (h1.out _ _ _).mono ?_
  rintro r w1 ⟨rfl, k1⟩
  replace k1 := Lib.hid (k0.out.trans k1)
  go_wp2_with fail
  refine (h1.out _ _ _).mono ?_
  rintro r w2 ⟨rfl, k2⟩
  replace k2 := Lib.hid (k1.out.trans k2)
  go_wp2_with fail
  refine (h2.out _ _ _).mono ?_
  rintro r w3 ⟨rfl, k3⟩
  replace k3 := Lib.hid (k2.out.trans k3)
  go_wp2_with fail
  refine (h2.out _ _ _).mono ?_
  rintro r w4 ⟨rfl, k4⟩
  replace k4 := Lib.hid (k3.out.trans k4)
  go_wp2_with fail
  refine (h3.out _ _ _).mono ?_
  rintro r w5 ⟨rfl, k5⟩
  replace k5 := Lib.hid (k4.out.trans k5)
  go_wp2_with fail
  go_ret
  exact ⟨_, rfl, vars_of (L := ctdL) (Blk.new w5 _ _) rfl, k5.out.alloc _⟩
def srL : List (ByteArray × Int × Int) := [(⟨#[115, 49]⟩, 1, 1), (⟨#[114]⟩, 1, 1), (⟨#[113, 49]⟩, 2, 1)]
set_option maxRecDepth 100000 in
set_option maxHeartbeats 1000000 in
theorem srL_c (w : World) : Calls Try.prog 81 #[] w fun r w' => ∃ g, r = .returned (.slice (some ⟨g, 0, none⟩) 3 3) ∧ VarsAt w' g srL ∧ Kp [] w w' := by
  have h1 := Lib.hid (fun n k W => input_c n k W)
  have h2 := Lib.hid (fun n k W => output_c n k W)
  have h3 := Lib.hid (fun n k W => local_c n k W)
  unfold varV varL at h1 h2 h3
  go_enter Try.func81, Try.ntmps81
  go_wp2_with fail
  refine (h1.out _ _ _).mono ?_
  rintro r w0 ⟨rfl, k0⟩
  replace k0 := Lib.hid k0
  go_wp2_with fail
  refine (h1.out _ _ _).mono ?_
  rintro r w1 ⟨rfl, k1⟩
  replace k1 := Lib.hid (k0.out.trans k1)
  go_wp2_with fail
  refine (h2.out _ _ _).mono ?_
  rintro r w2 ⟨rfl, k2⟩
  replace k2 := Lib.hid (k1.out.trans k2)
  go_wp2_with fail
  go_ret
  exact ⟨_, rfl, vars_of (L := srL) (Blk.new w2 _ _) rfl, k2.out.alloc _⟩
def rsL : List (ByteArray × Int × Int) := [(⟨#[115]⟩, 1, 1), (⟨#[114, 49]⟩, 1, 1), (⟨#[113, 49]⟩, 2, 1)]
set_option maxRecDepth 100000 in
set_option maxHeartbeats 1000000 in
theorem rsL_c (w : World) : Calls Try.prog 82 #[] w fun r w' => ∃ g, r = .returned (.slice (some ⟨g, 0, none⟩) 3 3) ∧ VarsAt w' g rsL ∧ Kp [] w w' := by
  have h1 := Lib.hid (fun n k W => input_c n k W)
  have h2 := Lib.hid (fun n k W => output_c n k W)
  have h3 := Lib.hid (fun n k W => local_c n k W)
  unfold varV varL at h1 h2 h3
  go_enter Try.func82, Try.ntmps82
  go_wp2_with fail
  refine (h1.out _ _ _).mono ?_
  rintro r w0 ⟨rfl, k0⟩
  replace k0 := Lib.hid k0
  go_wp2_with fail
  refine (h1.out _ _ _).mono ?_
  rintro r w1 ⟨rfl, k1⟩
  replace k1 := Lib.hid (k0.out.trans k1)
  go_wp2_with fail
  refine (h2.out _ _ _).mono ?_
  rintro r w2 ⟨rfl, k2⟩
  replace k2 := Lib.hid (k1.out.trans k2)
  go_wp2_with fail
  go_ret
  exact ⟨_, rfl, vars_of (L := rsL) (Blk.new w2 _ _) rfl, k2.out.alloc _⟩
def edgeL : List (ByteArray × Int × Int) := [(⟨#[99, 108, 107]⟩, 1, 1), (⟨#[113]⟩, 2, 1), (⟨#[119, 97, 115]⟩, 3, 1)]
set_option maxRecDepth 100000 in
set_option maxHeartbeats 1000000 in
theorem edgeL_c (w : World) : Calls Try.prog 83 #[] w fun r w' => ∃ g, r = .returned (.slice (some ⟨g, 0, none⟩) 3 3) ∧ VarsAt w' g edgeL ∧ Kp [] w w' := by
  have h1 := Lib.hid (fun n k W => input_c n k W)
  have h2 := Lib.hid (fun n k W => output_c n k W)
  have h3 := Lib.hid (fun n k W => local_c n k W)
  unfold varV varL at h1 h2 h3
  go_enter Try.func83, Try.ntmps83
  go_wp2_with fail
  refine (h1.out _ _ _).mono ?_
  rintro r w0 ⟨rfl, k0⟩
  replace k0 := Lib.hid k0
  go_wp2_with fail
  refine (h2.out _ _ _).mono ?_
  rintro r w1 ⟨rfl, k1⟩
  replace k1 := Lib.hid (k0.out.trans k1)
  go_wp2_with fail
  refine (h3.out _ _ _).mono ?_
  rintro r w2 ⟨rfl, k2⟩
  replace k2 := Lib.hid (k1.out.trans k2)
  go_wp2_with fail
  go_ret
  exact ⟨_, rfl, vars_of (L := edgeL) (Blk.new w2 _ _) rfl, k2.out.alloc _⟩
end Go.Proofs.Ytieacfenoomaeaa
