import Derived.Test.YtieacfenoomaeaaQb1
import Derived.Laws.CopyRow
set_option linter.unusedSimpArgs false
set_option linter.unusedVariables false
namespace Go.Proofs.Ytieacfenoomaeaa
open Go.RowKit

set_option maxRecDepth 100000 in
set_option maxHeartbeats 1000000 in
theorem standard_gen (k : ByteArray) (i S n : Nat) (L : List (ByteArray × Int × Int)) (w : World)
    (hK : ∀ (args : Array Value) (w : World), (callFunc S args).run Try.prog w = .ok (.enter S args) w)
    (hfind : Hid (Instr.findNow .string (.string k) stE.toList 0 = some (some (i, .func (.func S) #[] #[]))))
    (hS : Hid (∀ W, Calls Try.prog S #[] W fun r w' => ∃ g, r = .returned (.slice (some ⟨g, 0, none⟩) n n) ∧ VarsAt w' g L ∧ Kp [] W w')) :
    Calls Try.prog 45 #[.string k] w fun r w' => ∃ g, r = .returned (.tuple #[.slice (some ⟨g, 0, none⟩) n n, .bool true]) ∧ VarsAt w' g L ∧ Kp [] w w' := by
  have hl := look_st (w.alloc (.map stE 9)) w.heap.size (heap_alloc_new w _) k i _ hfind.out
  go_enter Try.func45, Try.ntmps45
  go_wp2_with fail
  refine (st_c _).mono ?_
  rintro r w1 ⟨rfl, rfl⟩
  have hk1 := (Kp.refl [] w).alloc (.map stE 9)
  obtain ⟨gx, hgx⟩ : ∃ x, w.heap.size = x := ⟨_, rfl⟩
  obtain ⟨W1, hW1⟩ : ∃ W1, w.alloc (.map stE 9) = W1 := ⟨_, rfl⟩
  rw [hW1] at hl hk1 ⊢
  rw [hgx] at hl ⊢
  replace hk1 := Lib.hid hk1
  replace hW1 := Lib.hid hW1
  go_wp2_with fail
  refine (hS.out _).mono ?_
  rintro r w2 ⟨g, rfl, hV, hk2⟩
  replace hV := Lib.hid hV
  replace hk2 := Lib.hid hk2
  clear hl
  go_wp2_with fail
  go_ret2
  exact ⟨_, rfl, hV.out, hk1.out.trans hk2.out⟩
set_option maxRecDepth 100000 in
set_option maxHeartbeats 1000000 in
theorem standard_no (k : ByteArray) (w : World) (h : ∀ i, i < 9 → k ≠ nmb i) :
    Calls Try.prog 45 #[.string k] w fun r w' => r = .returned (.tuple #[.slice none 0 0, .bool false]) ∧ Kp [] w w' := by
  have hl := lookno_st (w.alloc (.map stE 9)) w.heap.size (heap_alloc_new w _) k (find_st h)
  replace h := Lib.hid h
  go_enter Try.func45, Try.ntmps45
  go_wp2_with fail
  refine (st_c _).mono ?_
  rintro r w1 ⟨rfl, rfl⟩
  go_wp2_with fail
  go_ret2
  exact ⟨rfl, (Kp.refl [] w).alloc _⟩

/-- A frame out of a list of cells. -/
def f6 (zs : List Int) : F6 := ⟨zs.getD 0 0, zs.getD 1 0, zs.getD 2 0, zs.getD 3 0, zs.getD 4 0, zs.getD 5 0⟩
def allK (L : List (ByteArray × Int × Int)) : List Int := kindsF [1, 2, 3] L
def partCells (g n K : Nat) (x : F6) : Array Value := #[.slice (some ⟨g, 0, none⟩) n n, .func (.func K) #[] #[], .int .i64 x.a, .int .i64 x.b, .int .i64 x.c, .int .i64 x.d, .int .i64 x.e, .int .i64 x.f]
def noPart : Value := .agg #[.slice none 0 0, .nilFunc, .int .i64 0, .int .i64 0, .int .i64 0, .int .i64 0, .int .i64 0, .int .i64 0]
theorem six_int {zs : List Int} : ∀ v ∈ zs.map (Value.int .i64), v.oneCell' = true := by
  intro v hv
  obtain ⟨z, _, rfl⟩ := List.mem_map.1 hv
  rfl
theorem Is.adds {w : World} {b off n c : Nat} {zs : List Int} (h : Is w (.slice (some ⟨b, off, none⟩) n c) zs) : ∀ j v, (zs.map (Value.int .i64))[j]? = some v → w.cell? ((⟨b, off, none⟩ : Addr).add j) = some v := by
  intro j v hv
  obtain ⟨hj, hv2⟩ := List.getElem?_eq_some_iff.1 hv
  rw [List.length_map] at hj
  obtain ⟨b', off', hp, hc⟩ := h.at_ j hj
  simp at hp
  obtain ⟨rfl, rfl⟩ := hp
  have e : (⟨b, off, none⟩ : Addr).add j = ⟨b, off + j, none⟩ := by unfold Addr.add; split <;> simp_all
  rw [e, hc, ← hv2]
  simp [List.getD_eq_getElem?_getD, hj]
set_option maxRecDepth 100000 in
theorem sizeInt : (Try.prog.info? 3).map (·.size) = some 1 := by kernel_rfl

/-- What the block of a name is made of. -/
structure Kind (k : ByteArray) (i K S n : Nat) (L : List (ByteArray × Int × Int)) : Prop where
  bl : Instr.findNow .string (.string k) blE.toList 0 = some (some (i, .func (.func K) #[] #[]))
  st : ∀ W, Calls Try.prog 45 #[.string k] W fun r w' => ∃ g, r = .returned (.tuple #[.slice (some ⟨g, 0, none⟩) n n, .bool true]) ∧ VarsAt w' g L ∧ Kp [] W w'
  len : L.length = n
theorem kind_ton : Kind ⟨#[116, 111, 110]⟩ 0 49 78 6 timerL where
  bl := by kernel_rfl
  st := fun W => standard_gen ⟨#[116, 111, 110]⟩ 0 78 6 timerL W (fun _ _ => by kernel_rfl) (by show _ = _; kernel_rfl) timerL_c
  len := rfl
theorem kind_tof : Kind ⟨#[116, 111, 102]⟩ 1 50 78 6 timerL where
  bl := by kernel_rfl
  st := fun W => standard_gen ⟨#[116, 111, 102]⟩ 1 78 6 timerL W (fun _ _ => by kernel_rfl) (by show _ = _; kernel_rfl) timerL_c
  len := rfl
theorem kind_tp : Kind ⟨#[116, 112]⟩ 2 51 78 6 timerL where
  bl := by kernel_rfl
  st := fun W => standard_gen ⟨#[116, 112]⟩ 2 78 6 timerL W (fun _ _ => by kernel_rfl) (by show _ = _; kernel_rfl) timerL_c
  len := rfl
theorem kind_ctu : Kind ⟨#[99, 116, 117]⟩ 3 52 79 6 ctuL where
  bl := by kernel_rfl
  st := fun W => standard_gen ⟨#[99, 116, 117]⟩ 3 79 6 ctuL W (fun _ _ => by kernel_rfl) (by show _ = _; kernel_rfl) ctuL_c
  len := rfl
theorem kind_ctd : Kind ⟨#[99, 116, 100]⟩ 4 53 80 6 ctdL where
  bl := by kernel_rfl
  st := fun W => standard_gen ⟨#[99, 116, 100]⟩ 4 80 6 ctdL W (fun _ _ => by kernel_rfl) (by show _ = _; kernel_rfl) ctdL_c
  len := rfl
theorem kind_sr : Kind ⟨#[115, 114]⟩ 5 54 81 3 srL where
  bl := by kernel_rfl
  st := fun W => standard_gen ⟨#[115, 114]⟩ 5 81 3 srL W (fun _ _ => by kernel_rfl) (by show _ = _; kernel_rfl) srL_c
  len := rfl
theorem kind_rs : Kind ⟨#[114, 115]⟩ 6 55 82 3 rsL where
  bl := by kernel_rfl
  st := fun W => standard_gen ⟨#[114, 115]⟩ 6 82 3 rsL W (fun _ _ => by kernel_rfl) (by show _ = _; kernel_rfl) rsL_c
  len := rfl
theorem kind_rtrig : Kind ⟨#[114, 116, 114, 105, 103]⟩ 7 56 83 3 edgeL where
  bl := by kernel_rfl
  st := fun W => standard_gen ⟨#[114, 116, 114, 105, 103]⟩ 7 83 3 edgeL W (fun _ _ => by kernel_rfl) (by show _ = _; kernel_rfl) edgeL_c
  len := rfl
theorem kind_ftrig : Kind ⟨#[102, 116, 114, 105, 103]⟩ 8 57 83 3 edgeL where
  bl := by kernel_rfl
  st := fun W => standard_gen ⟨#[102, 116, 114, 105, 103]⟩ 8 83 3 edgeL W (fun _ _ => by kernel_rfl) (by show _ = _; kernel_rfl) edgeL_c
  len := rfl
theorem Kp.setRow {S : List Nat} {a w : World} (h : Kp S a w) (g : Nat) (cs : Array Value) (hg : a.heap.size ≤ g) : Kp S a (w.setRow g cs) :=
  ⟨h.os, h.tape, h.output, by have := h.size; simpa using this, fun k hk hn => (setRow_other w g k cs (by omega)).trans (h.block k hk hn)⟩
theorem VarsAt.lt {w : World} {g : Nat} {L : List (ByteArray × Int × Int)} (h : VarsAt w g L) (hl : 0 < L.length) : g < w.heap.size := by
  have := h 0 hl 0 _ rfl
  exact World.block_lt_of_cell? w _ this
theorem VarsAt.setRow {w : World} {g g2 : Nat} {L : List (ByteArray × Int × Int)} {cs : Array Value} (h : VarsAt w g L) (hne : g ≠ g2) : VarsAt (w.setRow g2 cs) g L :=
  fun i hi j u hu => (World.cell?_of_block (w := w) (setRow_other w g2 g cs hne)).trans (h i hi j u hu)
theorem VarsAt.set {w : World} {g : Nat} {L : List (ByteArray × Int × Int)} (h : VarsAt w g L) {p : Addr} (hne : g ≠ p.block) (u : Value) : VarsAt (w.setCell p u) g L :=
  fun i hi j v hv => (World.cell?_of_block (w := w) (Below.heap_setCell w p u g hne)).trans (h i hi j v hv)
theorem results_cell_tmp {fn : Func} {p q : Tmp} {ty : TypeId} (h : fn.results = #[.cell p ty, .tmp q]) (tmps : Array Value) (w : World) (g : Nat) (t : TypeId) (cs : Array Value) (fr : Nat × Nat) (fs : Array Field)
    (hp : tmps.getD p undef = .pointer (some ⟨g, 0, none⟩)) (hg : w.heap[g]? = some (.cells cs t fr))
    (hu : Try.prog.underlying ty = some (.struct fs)) (hi : (Try.prog.info? ty).map (·.size) = some cs.size) :
    (results fn tmps).run Try.prog w = .ok (.tuple #[.agg cs, tmps.getD q undef]) w := by
  have hp' : tmps[p]?.getD undef = .pointer (some ⟨g, 0, none⟩) := by simpa using hp
  simp [results, h, hp', asAddr, run_loadVar_row w g t ty cs fr _ hg hu rfl hi]

set_option maxRecDepth 100000 in
set_option maxHeartbeats 2000000 in
theorem partOf_3 (k : ByteArray) (i K S : Nat) (L : List (ByteArray × Int × Int)) (hk : Kind k i K S 3 L) (zs : List Int) (hv : areV (allK L) zs = true) (hl3 : (allK L).length = 3) (w : World) (v : Value) (hz : Is w v zs) :
    Calls Try.prog 30 #[.string k, v] w fun r w' => ∃ g, r = .returned (.tuple #[partV g 3 K (f6 zs), .int .i64 0]) ∧ VarsAt w' g L ∧ Kp [] w w' := by
  have hlen : zs.length = 3 := by rw [← areV_len hv, hl3]
  obtain ⟨z0, z1, z2, rfl⟩ : ∃ z0 z1 z2, zs = [z0, z1, z2] := by
    match zs, hlen with
    | [z0, z1, z2], _ => exact ⟨z0, z1, z2, rfl⟩
  obtain ⟨p, c, rfl, hcap, hcap2⟩ := hz.val
  obtain ⟨b, off, rfl, _⟩ := hz.at_ 0 (by omega)
  have hB0 := Blk.new w 67 #[.slice none 0 0, .nilFunc, .int .i64 0, .int .i64 0, .int .i64 0, .int .i64 0, .int .i64 0, .int .i64 0]
  obtain ⟨w0, hw0⟩ : ∃ w0, w.alloc (.cells #[.slice none 0 0, .nilFunc, .int .i64 0, .int .i64 0, .int .i64 0, .int .i64 0, .int .i64 0, .int .i64 0] 67) = w0 := ⟨_, rfl⟩
  have hk0 : Kp [] w w0 := hw0 ▸ (Kp.refl [] w).alloc _
  rw [hw0] at hB0
  have hl := look_bl (w0.alloc (.map blE 9)) w0.heap.size (heap_alloc_new w0 _) k i _ hk.bl
  have hbl := Lib.hid hk.len
  rw [hlen] at hz hcap ⊢
  replace hk := Lib.hid hk
  replace hz := Lib.hid hz
  replace hB0 := Lib.hid hB0
  replace hk0 := Lib.hid hk0
  replace hw0 := Lib.hid hw0
  replace hv := Lib.hid hv
  replace hl3 := Lib.hid hl3
  replace hlen := Lib.hid hlen
  go_enter Try.func30, Try.ntmps30
  go_wp2_with fail
  rw [hw0.out]
  refine (bl_c _).mono ?_
  rintro r w1 ⟨rfl, rfl⟩
  have hk1 := hk0.out.alloc (.map blE 9)
  obtain ⟨W1, hW1⟩ : ∃ W1, w0.alloc (.map blE 9) = W1 := ⟨_, rfl⟩
  rw [hW1] at hl hk1 ⊢
  have hkW := Lib.hid (show Kp [] w0 W1 from hW1 ▸ (Kp.refl [] w0).alloc _)
  replace hk1 := Lib.hid hk1
  replace hW1 := Lib.hid hW1
  obtain ⟨gx, hgx⟩ : ∃ x, w0.heap.size = x := ⟨_, rfl⟩
  rw [hgx] at hl ⊢
  go_wp2_with fail
  refine (hk.out.st _).mono ?_
  rintro r w2 ⟨g, rfl, hV, hk2⟩
  have hK2 := hk1.out.trans hk2
  have hk02 := hkW.out.trans hk2
  clear hl
  replace hV := Lib.hid hV
  replace hk2 := Lib.hid hk2
  have hB2 := Blk.new w2 67 #[.slice (some ⟨g, 0, none⟩) 3 3, .func (.func K) #[] #[], .int .i64 0, .int .i64 0, .int .i64 0, .int .i64 0, .int .i64 0, .int .i64 0]
  have hC2 := Blk.new (w2.alloc (.cells #[.slice (some ⟨g, 0, none⟩) 3 3, .func (.func K) #[] #[], .int .i64 0, .int .i64 0, .int .i64 0, .int .i64 0, .int .i64 0, .int .i64 0] 67)) 3 #[.int .i64 1, .int .i64 2, .int .i64 3]
  simp only [World.size_alloc] at hC2
  replace hB2 := hB2.alloc (.cells #[.int .i64 1, .int .i64 2, .int .i64 3] 3)
  have hkk := ((Kp.refl [] w2).alloc (.cells #[.slice (some ⟨g, 0, none⟩) 3 3, .func (.func K) #[] #[], .int .i64 0, .int .i64 0, .int .i64 0, .int .i64 0, .int .i64 0, .int .i64 0] 67)).alloc (.cells #[.int .i64 1, .int .i64 2, .int .i64 3] 3)
  obtain ⟨W3, hW3⟩ : ∃ W3, (w2.alloc (.cells #[.slice (some ⟨g, 0, none⟩) 3 3, .func (.func K) #[] #[], .int .i64 0, .int .i64 0, .int .i64 0, .int .i64 0, .int .i64 0, .int .i64 0] 67)).alloc (.cells #[.int .i64 1, .int .i64 2, .int .i64 3] 3) = W3 := ⟨_, rfl⟩
  rw [hW3] at hB2 hC2 hkk
  have hcl := Lib.hid (is_lit (n := 3) (zs := [1, 2, 3]) hC2 rfl (by omega) rfl)
  have hsz2 := Lib.hid hK2.size
  obtain ⟨g2, hg2⟩ : ∃ x, w2.heap.size = x := ⟨_, rfl⟩
  rw [hg2] at hB2 hC2 hcl hsz2
  have hK3 := Lib.hid (hK2.trans hkk)
  have hk03 := Lib.hid (hk02.trans hkk)
  replace hK2 := Lib.hid hK2
  replace hk02 := Lib.hid hk02
  replace hkk := Lib.hid hkk
  replace hB2 := Lib.hid hB2
  replace hC2 := Lib.hid hC2
  replace hW3 := Lib.hid hW3
  go_wp2_with fail
  rw [hW3.out]
  have hki := kinds_c W3 g 3 K ⟨0, 0, 0, 0, 0, 0⟩ L (hV.out.kp hkk.out) hbl.out (by omega) _ [1, 2, 3] hcl.out
  unfold partV at hki
  refine hki.mono ?_
  rintro r w4 ⟨kv, rfl, hkv, hk4⟩
  have hK4 := hK3.out.trans hk4
  have hB4 := Lib.hid (hB2.out.kp hk4 (by simp))
  have hR4 := Lib.hid (hB0.out.kp (hk03.out.trans hk4) (by simp))
  have hV4 := Lib.hid ((hV.out.kp hkk.out).kp hk4)
  have hz4 := Lib.hid (hz.out.kp hK4)
  replace hK4 := Lib.hid hK4
  replace hkv := Lib.hid hkv
  clear hki hk4
  go_wp2_with fail
  refine (areValues_c w4 _ _ (allK L) [z0, z1, z2] hkv.out hz4.out (by rw [hl3.out]; omega)).mono ?_
  rintro r w5 ⟨rfl, rfl⟩
  rw [hv.out]
  have hcp := fun ty => run_copy_row Try.prog w5 22 22 ty 3 g2 2 6 6 ⟨b, off, none⟩ 3 c _ _ (([z0, z1, z2] : List Int).map (Value.int .i64)) Try.underlying22 sizeInt hB4.out rfl hz4.out.adds (by simp) six_int
  obtain ⟨W6, hW6⟩ : ∃ W6, World.setRow w5 g2 (partCells g 3 K (f6 [z0, z1, z2])) = W6 := ⟨_, rfl⟩
  replace hcp : ∀ ty, (Builtin.copy_ #[22, 22] ty #[.slice (some ⟨g2, 2, none⟩) 6 6, .slice (some ⟨b, off, none⟩) 3 c]).run Try.prog w5 = .ok (.int .i64 3) W6 := fun ty => by rw [← hW6]; exact hcp ty
  have hB6 : Blk W6 g2 67 (partCells g 3 K (f6 [z0, z1, z2])) := hW6 ▸ setRow_heap w5 g2 _ _ _ _ hB4.out
  have hg0 : w.heap.size ≤ gx := by rw [← hgx]; exact hk0.out.size
  have hgw : w.heap.size ≤ g2 := hsz2.out
  have hgr : w.heap.size ≠ g2 := by have h1 := hk02.out.size; have h2 := hB0.out.lt; rw [hg2] at h1; omega
  have hK6 := Lib.hid (show Kp [] w W6 from hW6 ▸ hK4.out.setRow g2 _ hgw)
  have hR6 : Blk W6 w.heap.size 67 #[.slice none 0 0, .nilFunc, .int .i64 0, .int .i64 0, .int .i64 0, .int .i64 0, .int .i64 0, .int .i64 0] := hW6 ▸ (setRow_other w5 g2 _ _ hgr).trans hR4.out
  have hV6 := Lib.hid (show VarsAt W6 g L from hW6 ▸ hV4.out.setRow (by have := hV.out.lt (by rw [hbl.out]; omega); omega))
  unfold partCells f6 at hB6
  have e0 := hB6.cell 0 rfl
  have e1 := hB6.cell 1 rfl
  have e2 := hB6.cell 2 rfl
  have e3 := hB6.cell 3 rfl
  have e4 := hB6.cell 4 rfl
  have e5 := hB6.cell 5 rfl
  have e6 := hB6.cell 6 rfl
  have e7 := hB6.cell 7 rfl
  have r0 := hR6.cell 0 rfl
  have r1 := hR6.cell 1 rfl
  have r2 := hR6.cell 2 rfl
  have r3 := hR6.cell 3 rfl
  have r4 := hR6.cell 4 rfl
  have r5 := hR6.cell 5 rfl
  have r6 := hR6.cell 6 rfl
  have r7 := hR6.cell 7 rfl
  have q0 := hR6.frozen 0
  have q1 := hR6.frozen 1
  have q2 := hR6.frozen 2
  have q3 := hR6.frozen 3
  have q4 := hR6.frozen 4
  have q5 := hR6.frozen 5
  have q6 := hR6.frozen 6
  have q7 := hR6.frozen 7
  replace hB6 := Lib.hid hB6
  replace hR6 := Lib.hid hR6
  replace hW6 := Lib.hid hW6
  clear hB4 hR4 hV4 hz4 hK4 hkv hB2 hC2 hW3 hcl hkk hK2 hk02 hk03 hK3 hV hk2 hkW hB0 hk0 hw0 hz hk1 hW1 hv hl3 hlen
  obtain ⟨go, hgo⟩ : ∃ x, w.heap.size = x := ⟨_, rfl⟩
  rw [hgo] at r0 r1 r2 r3 r4 r5 r6 r7 q0 q1 q2 q3 q4 q5 q6 q7 hR6 hgr hgw ⊢
  have hgg : g ≠ go := by
    intro e
    subst e
    have h1 := hV6.out 0 (by rw [hbl.out]; omega) 0 _ rfl
    have h2 := hR6.out.cell 0 rfl
    rw [Nat.zero_mul, Nat.zero_add, h2] at h1
    cases h1
  go_wp2
  have hl9 : ∀ j, (⟨go, j, none⟩ : Addr).block ∈ ([] : List Nat) ∨ w.heap.size ≤ (⟨go, j, none⟩ : Addr).block := fun j => .inr (by show w.heap.size ≤ go; omega)
  have hB9 := (((((((hR6.out.set 0 (.slice (some ⟨g, 0, none⟩) 3 3)).set 1 (.func (.func K) #[] #[])).set 2 (.int .i64 (f6 [z0, z1, z2]).a)).set 3 (.int .i64 (f6 [z0, z1, z2]).b)).set 4 (.int .i64 (f6 [z0, z1, z2]).c)).set 5 (.int .i64 (f6 [z0, z1, z2]).d)).set 6 (.int .i64 (f6 [z0, z1, z2]).e)).set 7 (.int .i64 (f6 [z0, z1, z2]).f)
  have hV9 := (((((((hV6.out.set (p := ⟨go, 0, none⟩) hgg (.slice (some ⟨g, 0, none⟩) 3 3)).set (p := ⟨go, 1, none⟩) hgg (.func (.func K) #[] #[])).set (p := ⟨go, 2, none⟩) hgg (.int .i64 (f6 [z0, z1, z2]).a)).set (p := ⟨go, 3, none⟩) hgg (.int .i64 (f6 [z0, z1, z2]).b)).set (p := ⟨go, 4, none⟩) hgg (.int .i64 (f6 [z0, z1, z2]).c)).set (p := ⟨go, 5, none⟩) hgg (.int .i64 (f6 [z0, z1, z2]).d)).set (p := ⟨go, 6, none⟩) hgg (.int .i64 (f6 [z0, z1, z2]).e)).set (p := ⟨go, 7, none⟩) hgg (.int .i64 (f6 [z0, z1, z2]).f)
  exact bodyPost_ret (results_cell_tmp rfl _ _ go 67 _ (0, 0) _ rfl hB9 Try.underlying67 (by kernel_rfl)) rfl ⟨g, rfl, hV9, (((((((hK6.out.setCell (hl9 0) _).setCell (hl9 1) _).setCell (hl9 2) _).setCell (hl9 3) _).setCell (hl9 4) _).setCell (hl9 5) _).setCell (hl9 6) _).setCell (hl9 7) _⟩
set_option maxRecDepth 100000 in
set_option maxHeartbeats 2000000 in
theorem partOf_6 (k : ByteArray) (i K S : Nat) (L : List (ByteArray × Int × Int)) (hk : Kind k i K S 6 L) (zs : List Int) (hv : areV (allK L) zs = true) (hl3 : (allK L).length = 6) (w : World) (v : Value) (hz : Is w v zs) :
    Calls Try.prog 30 #[.string k, v] w fun r w' => ∃ g, r = .returned (.tuple #[partV g 6 K (f6 zs), .int .i64 0]) ∧ VarsAt w' g L ∧ Kp [] w w' := by
  have hlen : zs.length = 6 := by rw [← areV_len hv, hl3]
  obtain ⟨z0, z1, z2, z3, z4, z5, rfl⟩ : ∃ z0 z1 z2 z3 z4 z5, zs = [z0, z1, z2, z3, z4, z5] := by
    match zs, hlen with
    | [z0, z1, z2, z3, z4, z5], _ => exact ⟨z0, z1, z2, z3, z4, z5, rfl⟩
  obtain ⟨p, c, rfl, hcap, hcap2⟩ := hz.val
  obtain ⟨b, off, rfl, _⟩ := hz.at_ 0 (by omega)
  have hB0 := Blk.new w 67 #[.slice none 0 0, .nilFunc, .int .i64 0, .int .i64 0, .int .i64 0, .int .i64 0, .int .i64 0, .int .i64 0]
  obtain ⟨w0, hw0⟩ : ∃ w0, w.alloc (.cells #[.slice none 0 0, .nilFunc, .int .i64 0, .int .i64 0, .int .i64 0, .int .i64 0, .int .i64 0, .int .i64 0] 67) = w0 := ⟨_, rfl⟩
  have hk0 : Kp [] w w0 := hw0 ▸ (Kp.refl [] w).alloc _
  rw [hw0] at hB0
  have hl := look_bl (w0.alloc (.map blE 9)) w0.heap.size (heap_alloc_new w0 _) k i _ hk.bl
  have hbl := Lib.hid hk.len
  rw [hlen] at hz hcap ⊢
  replace hk := Lib.hid hk
  replace hz := Lib.hid hz
  replace hB0 := Lib.hid hB0
  replace hk0 := Lib.hid hk0
  replace hw0 := Lib.hid hw0
  replace hv := Lib.hid hv
  replace hl3 := Lib.hid hl3
  replace hlen := Lib.hid hlen
  go_enter Try.func30, Try.ntmps30
  go_wp2_with fail
  rw [hw0.out]
  refine (bl_c _).mono ?_
  rintro r w1 ⟨rfl, rfl⟩
  have hk1 := hk0.out.alloc (.map blE 9)
  obtain ⟨W1, hW1⟩ : ∃ W1, w0.alloc (.map blE 9) = W1 := ⟨_, rfl⟩
  rw [hW1] at hl hk1 ⊢
  have hkW := Lib.hid (show Kp [] w0 W1 from hW1 ▸ (Kp.refl [] w0).alloc _)
  replace hk1 := Lib.hid hk1
  replace hW1 := Lib.hid hW1
  obtain ⟨gx, hgx⟩ : ∃ x, w0.heap.size = x := ⟨_, rfl⟩
  rw [hgx] at hl ⊢
  go_wp2_with fail
  refine (hk.out.st _).mono ?_
  rintro r w2 ⟨g, rfl, hV, hk2⟩
  have hK2 := hk1.out.trans hk2
  have hk02 := hkW.out.trans hk2
  clear hl
  replace hV := Lib.hid hV
  replace hk2 := Lib.hid hk2
  have hB2 := Blk.new w2 67 #[.slice (some ⟨g, 0, none⟩) 6 6, .func (.func K) #[] #[], .int .i64 0, .int .i64 0, .int .i64 0, .int .i64 0, .int .i64 0, .int .i64 0]
  have hC2 := Blk.new (w2.alloc (.cells #[.slice (some ⟨g, 0, none⟩) 6 6, .func (.func K) #[] #[], .int .i64 0, .int .i64 0, .int .i64 0, .int .i64 0, .int .i64 0, .int .i64 0] 67)) 3 #[.int .i64 1, .int .i64 2, .int .i64 3]
  simp only [World.size_alloc] at hC2
  replace hB2 := hB2.alloc (.cells #[.int .i64 1, .int .i64 2, .int .i64 3] 3)
  have hkk := ((Kp.refl [] w2).alloc (.cells #[.slice (some ⟨g, 0, none⟩) 6 6, .func (.func K) #[] #[], .int .i64 0, .int .i64 0, .int .i64 0, .int .i64 0, .int .i64 0, .int .i64 0] 67)).alloc (.cells #[.int .i64 1, .int .i64 2, .int .i64 3] 3)
  obtain ⟨W3, hW3⟩ : ∃ W3, (w2.alloc (.cells #[.slice (some ⟨g, 0, none⟩) 6 6, .func (.func K) #[] #[], .int .i64 0, .int .i64 0, .int .i64 0, .int .i64 0, .int .i64 0, .int .i64 0] 67)).alloc (.cells #[.int .i64 1, .int .i64 2, .int .i64 3] 3) = W3 := ⟨_, rfl⟩
  rw [hW3] at hB2 hC2 hkk
  have hcl := Lib.hid (is_lit (n := 3) (zs := [1, 2, 3]) hC2 rfl (by omega) rfl)
  have hsz2 := Lib.hid hK2.size
  obtain ⟨g2, hg2⟩ : ∃ x, w2.heap.size = x := ⟨_, rfl⟩
  rw [hg2] at hB2 hC2 hcl hsz2
  have hK3 := Lib.hid (hK2.trans hkk)
  have hk03 := Lib.hid (hk02.trans hkk)
  replace hK2 := Lib.hid hK2
  replace hk02 := Lib.hid hk02
  replace hkk := Lib.hid hkk
  replace hB2 := Lib.hid hB2
  replace hC2 := Lib.hid hC2
  replace hW3 := Lib.hid hW3
  go_wp2_with fail
  rw [hW3.out]
  have hki := kinds_c W3 g 6 K ⟨0, 0, 0, 0, 0, 0⟩ L (hV.out.kp hkk.out) hbl.out (by omega) _ [1, 2, 3] hcl.out
  unfold partV at hki
  refine hki.mono ?_
  rintro r w4 ⟨kv, rfl, hkv, hk4⟩
  have hK4 := hK3.out.trans hk4
  have hB4 := Lib.hid (hB2.out.kp hk4 (by simp))
  have hR4 := Lib.hid (hB0.out.kp (hk03.out.trans hk4) (by simp))
  have hV4 := Lib.hid ((hV.out.kp hkk.out).kp hk4)
  have hz4 := Lib.hid (hz.out.kp hK4)
  replace hK4 := Lib.hid hK4
  replace hkv := Lib.hid hkv
  clear hki hk4
  go_wp2_with fail
  refine (areValues_c w4 _ _ (allK L) [z0, z1, z2, z3, z4, z5] hkv.out hz4.out (by rw [hl3.out]; omega)).mono ?_
  rintro r w5 ⟨rfl, rfl⟩
  rw [hv.out]
  have hcp := fun ty => run_copy_row Try.prog w5 22 22 ty 3 g2 2 6 6 ⟨b, off, none⟩ 6 c _ _ (([z0, z1, z2, z3, z4, z5] : List Int).map (Value.int .i64)) Try.underlying22 sizeInt hB4.out rfl hz4.out.adds (by simp) six_int
  obtain ⟨W6, hW6⟩ : ∃ W6, World.setRow w5 g2 (partCells g 6 K (f6 [z0, z1, z2, z3, z4, z5])) = W6 := ⟨_, rfl⟩
  replace hcp : ∀ ty, (Builtin.copy_ #[22, 22] ty #[.slice (some ⟨g2, 2, none⟩) 6 6, .slice (some ⟨b, off, none⟩) 6 c]).run Try.prog w5 = .ok (.int .i64 6) W6 := fun ty => by rw [← hW6]; exact hcp ty
  have hB6 : Blk W6 g2 67 (partCells g 6 K (f6 [z0, z1, z2, z3, z4, z5])) := hW6 ▸ setRow_heap w5 g2 _ _ _ _ hB4.out
  have hg0 : w.heap.size ≤ gx := by rw [← hgx]; exact hk0.out.size
  have hgw : w.heap.size ≤ g2 := hsz2.out
  have hgr : w.heap.size ≠ g2 := by have h1 := hk02.out.size; have h2 := hB0.out.lt; rw [hg2] at h1; omega
  have hK6 := Lib.hid (show Kp [] w W6 from hW6 ▸ hK4.out.setRow g2 _ hgw)
  have hR6 : Blk W6 w.heap.size 67 #[.slice none 0 0, .nilFunc, .int .i64 0, .int .i64 0, .int .i64 0, .int .i64 0, .int .i64 0, .int .i64 0] := hW6 ▸ (setRow_other w5 g2 _ _ hgr).trans hR4.out
  have hV6 := Lib.hid (show VarsAt W6 g L from hW6 ▸ hV4.out.setRow (by have := hV.out.lt (by rw [hbl.out]; omega); omega))
  unfold partCells f6 at hB6
  have e0 := hB6.cell 0 rfl
  have e1 := hB6.cell 1 rfl
  have e2 := hB6.cell 2 rfl
  have e3 := hB6.cell 3 rfl
  have e4 := hB6.cell 4 rfl
  have e5 := hB6.cell 5 rfl
  have e6 := hB6.cell 6 rfl
  have e7 := hB6.cell 7 rfl
  have r0 := hR6.cell 0 rfl
  have r1 := hR6.cell 1 rfl
  have r2 := hR6.cell 2 rfl
  have r3 := hR6.cell 3 rfl
  have r4 := hR6.cell 4 rfl
  have r5 := hR6.cell 5 rfl
  have r6 := hR6.cell 6 rfl
  have r7 := hR6.cell 7 rfl
  have q0 := hR6.frozen 0
  have q1 := hR6.frozen 1
  have q2 := hR6.frozen 2
  have q3 := hR6.frozen 3
  have q4 := hR6.frozen 4
  have q5 := hR6.frozen 5
  have q6 := hR6.frozen 6
  have q7 := hR6.frozen 7
  replace hB6 := Lib.hid hB6
  replace hR6 := Lib.hid hR6
  replace hW6 := Lib.hid hW6
  clear hB4 hR4 hV4 hz4 hK4 hkv hB2 hC2 hW3 hcl hkk hK2 hk02 hk03 hK3 hV hk2 hkW hB0 hk0 hw0 hz hk1 hW1 hv hl3 hlen
  obtain ⟨go, hgo⟩ : ∃ x, w.heap.size = x := ⟨_, rfl⟩
  rw [hgo] at r0 r1 r2 r3 r4 r5 r6 r7 q0 q1 q2 q3 q4 q5 q6 q7 hR6 hgr hgw ⊢
  have hgg : g ≠ go := by
    intro e
    subst e
    have h1 := hV6.out 0 (by rw [hbl.out]; omega) 0 _ rfl
    have h2 := hR6.out.cell 0 rfl
    rw [Nat.zero_mul, Nat.zero_add, h2] at h1
    cases h1
  go_wp2
  have hl9 : ∀ j, (⟨go, j, none⟩ : Addr).block ∈ ([] : List Nat) ∨ w.heap.size ≤ (⟨go, j, none⟩ : Addr).block := fun j => .inr (by show w.heap.size ≤ go; omega)
  have hB9 := (((((((hR6.out.set 0 (.slice (some ⟨g, 0, none⟩) 6 6)).set 1 (.func (.func K) #[] #[])).set 2 (.int .i64 (f6 [z0, z1, z2, z3, z4, z5]).a)).set 3 (.int .i64 (f6 [z0, z1, z2, z3, z4, z5]).b)).set 4 (.int .i64 (f6 [z0, z1, z2, z3, z4, z5]).c)).set 5 (.int .i64 (f6 [z0, z1, z2, z3, z4, z5]).d)).set 6 (.int .i64 (f6 [z0, z1, z2, z3, z4, z5]).e)).set 7 (.int .i64 (f6 [z0, z1, z2, z3, z4, z5]).f)
  have hV9 := (((((((hV6.out.set (p := ⟨go, 0, none⟩) hgg (.slice (some ⟨g, 0, none⟩) 6 6)).set (p := ⟨go, 1, none⟩) hgg (.func (.func K) #[] #[])).set (p := ⟨go, 2, none⟩) hgg (.int .i64 (f6 [z0, z1, z2, z3, z4, z5]).a)).set (p := ⟨go, 3, none⟩) hgg (.int .i64 (f6 [z0, z1, z2, z3, z4, z5]).b)).set (p := ⟨go, 4, none⟩) hgg (.int .i64 (f6 [z0, z1, z2, z3, z4, z5]).c)).set (p := ⟨go, 5, none⟩) hgg (.int .i64 (f6 [z0, z1, z2, z3, z4, z5]).d)).set (p := ⟨go, 6, none⟩) hgg (.int .i64 (f6 [z0, z1, z2, z3, z4, z5]).e)).set (p := ⟨go, 7, none⟩) hgg (.int .i64 (f6 [z0, z1, z2, z3, z4, z5]).f)
  exact bodyPost_ret (results_cell_tmp rfl _ _ go 67 _ (0, 0) _ rfl hB9 Try.underlying67 (by kernel_rfl)) rfl ⟨g, rfl, hV9, (((((((hK6.out.setCell (hl9 0) _).setCell (hl9 1) _).setCell (hl9 2) _).setCell (hl9 3) _).setCell (hl9 4) _).setCell (hl9 5) _).setCell (hl9 6) _).setCell (hl9 7) _⟩
end Go.Proofs.Ytieacfenoomaeaa
