import Derived.Test.YtieacfenoomaeaaQc3
import Derived.Deep.RegionLaw
set_option linter.unusedSimpArgs false
set_option linter.unusedVariables false
namespace Go.Proofs.Ytieacfenoomaeaa
open Go.RowKit

theorem name_no {k : ByteArray} {i : Nat} (h : k ≠ nmb i) : (k.toList == nm.getD i []) = false := by
  cases hb : (k.toList == nm.getD i [])
  · rfl
  · exfalso
    refine h ?_
    have e : k.toList = nm.getD i [] := by simpa using hb
    rw [ByteArray.toList_eq] at e
    refine Go.WideShapes.bytes_inj ?_
    rw [e]
    simp [nmb]
set_option maxRecDepth 100000 in
set_option maxHeartbeats 1000000 in
theorem one_c (n : ByteArray) (c k : Int) (w : World) : Calls Try.prog 36 #[.string n, .int .i64 c, .int .i64 k] w fun r w' => r = .returned (varV n c k) ∧ Kp [] w w' := by
  go_enter Try.func36, Try.ntmps36
  go_wp2
  exact bodyPost_ret (results_cell_row rfl _ _ w.heap.size 77 _ (0, 0) _ rfl (heap_alloc_new w _) Try.underlying77 rfl (by kernel_rfl)) rfl ⟨rfl, (Kp.refl [] w).alloc _⟩
def StdOk (n : Nat) (L : List (ByteArray × Int × Int)) (w : World) (r : Ending) (w' : World) : Prop := ∃ g, r = .returned (.tuple #[.slice (some ⟨g, 0, none⟩) n n, .bool true]) ∧ VarsAt w' g L ∧ Kp [] w w'
set_option maxRecDepth 100000 in
set_option maxHeartbeats 1000000 in
theorem rstd_ton (w : World) : Calls Try.prog 18 #[.string ⟨#[116, 111, 110]⟩] w (StdOk 6 timerL w) := by
  have h1 := Lib.hid (fun n c k W => one_c n c k W)
  unfold varV varL at h1
  go_enter Try.func18, Try.ntmps18
  go_wp2_with fail
  refine (h1.out _ _ _ _).mono ?_
  rintro r w0 ⟨rfl, k0⟩
  replace k0 := Lib.hid k0
  go_wp2_with fail
  refine (h1.out _ _ _ _).mono ?_
  rintro r w1 ⟨rfl, k1⟩
  replace k1 := Lib.hid (k0.out.trans k1)
  go_wp2_with fail
  refine (h1.out _ _ _ _).mono ?_
  rintro r w2 ⟨rfl, k2⟩
  replace k2 := Lib.hid (k1.out.trans k2)
  go_wp2_with fail
  refine (h1.out _ _ _ _).mono ?_
  rintro r w3 ⟨rfl, k3⟩
  replace k3 := Lib.hid (k2.out.trans k3)
  go_wp2_with fail
  refine (h1.out _ _ _ _).mono ?_
  rintro r w4 ⟨rfl, k4⟩
  replace k4 := Lib.hid (k3.out.trans k4)
  go_wp2_with fail
  refine (h1.out _ _ _ _).mono ?_
  rintro r w5 ⟨rfl, k5⟩
  replace k5 := Lib.hid (k4.out.trans k5)
  go_wp2_with fail
  go_ret2
  exact ⟨_, rfl, vars_of (L := timerL) (Blk.new w5 _ _) rfl, k5.out.alloc _⟩
set_option maxRecDepth 100000 in
set_option maxHeartbeats 1000000 in
theorem rstd_tof (w : World) : Calls Try.prog 18 #[.string ⟨#[116, 111, 102]⟩] w (StdOk 6 timerL w) := by
  have h1 := Lib.hid (fun n c k W => one_c n c k W)
  unfold varV varL at h1
  go_enter Try.func18, Try.ntmps18
  go_wp2_with fail
  refine (h1.out _ _ _ _).mono ?_
  rintro r w0 ⟨rfl, k0⟩
  replace k0 := Lib.hid k0
  go_wp2_with fail
  refine (h1.out _ _ _ _).mono ?_
  rintro r w1 ⟨rfl, k1⟩
  replace k1 := Lib.hid (k0.out.trans k1)
  go_wp2_with fail
  refine (h1.out _ _ _ _).mono ?_
  rintro r w2 ⟨rfl, k2⟩
  replace k2 := Lib.hid (k1.out.trans k2)
  go_wp2_with fail
  refine (h1.out _ _ _ _).mono ?_
  rintro r w3 ⟨rfl, k3⟩
  replace k3 := Lib.hid (k2.out.trans k3)
  go_wp2_with fail
  refine (h1.out _ _ _ _).mono ?_
  rintro r w4 ⟨rfl, k4⟩
  replace k4 := Lib.hid (k3.out.trans k4)
  go_wp2_with fail
  refine (h1.out _ _ _ _).mono ?_
  rintro r w5 ⟨rfl, k5⟩
  replace k5 := Lib.hid (k4.out.trans k5)
  go_wp2_with fail
  go_ret2
  exact ⟨_, rfl, vars_of (L := timerL) (Blk.new w5 _ _) rfl, k5.out.alloc _⟩
set_option maxRecDepth 100000 in
set_option maxHeartbeats 1000000 in
theorem rstd_tp (w : World) : Calls Try.prog 18 #[.string ⟨#[116, 112]⟩] w (StdOk 6 timerL w) := by
  have h1 := Lib.hid (fun n c k W => one_c n c k W)
  unfold varV varL at h1
  go_enter Try.func18, Try.ntmps18
  go_wp2_with fail
  refine (h1.out _ _ _ _).mono ?_
  rintro r w0 ⟨rfl, k0⟩
  replace k0 := Lib.hid k0
  go_wp2_with fail
  refine (h1.out _ _ _ _).mono ?_
  rintro r w1 ⟨rfl, k1⟩
  replace k1 := Lib.hid (k0.out.trans k1)
  go_wp2_with fail
  refine (h1.out _ _ _ _).mono ?_
  rintro r w2 ⟨rfl, k2⟩
  replace k2 := Lib.hid (k1.out.trans k2)
  go_wp2_with fail
  refine (h1.out _ _ _ _).mono ?_
  rintro r w3 ⟨rfl, k3⟩
  replace k3 := Lib.hid (k2.out.trans k3)
  go_wp2_with fail
  refine (h1.out _ _ _ _).mono ?_
  rintro r w4 ⟨rfl, k4⟩
  replace k4 := Lib.hid (k3.out.trans k4)
  go_wp2_with fail
  refine (h1.out _ _ _ _).mono ?_
  rintro r w5 ⟨rfl, k5⟩
  replace k5 := Lib.hid (k4.out.trans k5)
  go_wp2_with fail
  go_ret2
  exact ⟨_, rfl, vars_of (L := timerL) (Blk.new w5 _ _) rfl, k5.out.alloc _⟩
set_option maxRecDepth 100000 in
set_option maxHeartbeats 1000000 in
theorem rstd_ctu (w : World) : Calls Try.prog 18 #[.string ⟨#[99, 116, 117]⟩] w (StdOk 6 ctuL w) := by
  have h1 := Lib.hid (fun n c k W => one_c n c k W)
  unfold varV varL at h1
  go_enter Try.func18, Try.ntmps18
  go_wp2_with fail
  refine (h1.out _ _ _ _).mono ?_
  rintro r w0 ⟨rfl, k0⟩
  replace k0 := Lib.hid k0
  go_wp2_with fail
  refine (h1.out _ _ _ _).mono ?_
  rintro r w1 ⟨rfl, k1⟩
  replace k1 := Lib.hid (k0.out.trans k1)
  go_wp2_with fail
  refine (h1.out _ _ _ _).mono ?_
  rintro r w2 ⟨rfl, k2⟩
  replace k2 := Lib.hid (k1.out.trans k2)
  go_wp2_with fail
  refine (h1.out _ _ _ _).mono ?_
  rintro r w3 ⟨rfl, k3⟩
  replace k3 := Lib.hid (k2.out.trans k3)
  go_wp2_with fail
  refine (h1.out _ _ _ _).mono ?_
  rintro r w4 ⟨rfl, k4⟩
  replace k4 := Lib.hid (k3.out.trans k4)
  go_wp2_with fail
  refine (h1.out _ _ _ _).mono ?_
  rintro r w5 ⟨rfl, k5⟩
  replace k5 := Lib.hid (k4.out.trans k5)
  go_wp2_with fail
  go_ret2
  exact ⟨_, rfl, vars_of (L := ctuL) (Blk.new w5 _ _) rfl, k5.out.alloc _⟩
set_option maxRecDepth 100000 in
set_option maxHeartbeats 1000000 in
theorem rstd_ctd (w : World) : Calls Try.prog 18 #[.string ⟨#[99, 116, 100]⟩] w (StdOk 6 ctdL w) := by
  have h1 := Lib.hid (fun n c k W => one_c n c k W)
  unfold varV varL at h1
  go_enter Try.func18, Try.ntmps18
  go_wp2_with fail
  refine (h1.out _ _ _ _).mono ?_
  rintro r w0 ⟨rfl, k0⟩
  replace k0 := Lib.hid k0
  go_wp2_with fail
  refine (h1.out _ _ _ _).mono ?_
  rintro r w1 ⟨rfl, k1⟩
  replace k1 := Lib.hid (k0.out.trans k1)
  go_wp2_with fail
  refine (h1.out _ _ _ _).mono ?_
  rintro r w2 ⟨rfl, k2⟩
  replace k2 := Lib.hid (k1.out.trans k2)
  go_wp2_with fail
  refine (h1.out _ _ _ _).mono ?_
  rintro r w3 ⟨rfl, k3⟩
  replace k3 := Lib.hid (k2.out.trans k3)
  go_wp2_with fail
  refine (h1.out _ _ _ _).mono ?_
  rintro r w4 ⟨rfl, k4⟩
  replace k4 := Lib.hid (k3.out.trans k4)
  go_wp2_with fail
  refine (h1.out _ _ _ _).mono ?_
  rintro r w5 ⟨rfl, k5⟩
  replace k5 := Lib.hid (k4.out.trans k5)
  go_wp2_with fail
  go_ret2
  exact ⟨_, rfl, vars_of (L := ctdL) (Blk.new w5 _ _) rfl, k5.out.alloc _⟩
set_option maxRecDepth 100000 in
set_option maxHeartbeats 1000000 in
theorem rstd_sr (w : World) : Calls Try.prog 18 #[.string ⟨#[115, 114]⟩] w (StdOk 3 srL w) := by
  have h1 := Lib.hid (fun n c k W => one_c n c k W)
  unfold varV varL at h1
  go_enter Try.func18, Try.ntmps18
  go_wp2_with fail
  refine (h1.out _ _ _ _).mono ?_
  rintro r w0 ⟨rfl, k0⟩
  replace k0 := Lib.hid k0
  go_wp2_with fail
  refine (h1.out _ _ _ _).mono ?_
  rintro r w1 ⟨rfl, k1⟩
  replace k1 := Lib.hid (k0.out.trans k1)
  go_wp2_with fail
  refine (h1.out _ _ _ _).mono ?_
  rintro r w2 ⟨rfl, k2⟩
  replace k2 := Lib.hid (k1.out.trans k2)
  go_wp2_with fail
  go_ret2
  exact ⟨_, rfl, vars_of (L := srL) (Blk.new w2 _ _) rfl, k2.out.alloc _⟩
set_option maxRecDepth 100000 in
set_option maxHeartbeats 1000000 in
theorem rstd_rs (w : World) : Calls Try.prog 18 #[.string ⟨#[114, 115]⟩] w (StdOk 3 rsL w) := by
  have h1 := Lib.hid (fun n c k W => one_c n c k W)
  unfold varV varL at h1
  go_enter Try.func18, Try.ntmps18
  go_wp2_with fail
  refine (h1.out _ _ _ _).mono ?_
  rintro r w0 ⟨rfl, k0⟩
  replace k0 := Lib.hid k0
  go_wp2_with fail
  refine (h1.out _ _ _ _).mono ?_
  rintro r w1 ⟨rfl, k1⟩
  replace k1 := Lib.hid (k0.out.trans k1)
  go_wp2_with fail
  refine (h1.out _ _ _ _).mono ?_
  rintro r w2 ⟨rfl, k2⟩
  replace k2 := Lib.hid (k1.out.trans k2)
  go_wp2_with fail
  go_ret2
  exact ⟨_, rfl, vars_of (L := rsL) (Blk.new w2 _ _) rfl, k2.out.alloc _⟩
set_option maxRecDepth 100000 in
set_option maxHeartbeats 1000000 in
theorem rstd_rtrig (w : World) : Calls Try.prog 18 #[.string ⟨#[114, 116, 114, 105, 103]⟩] w (StdOk 3 edgeL w) := by
  have h1 := Lib.hid (fun n c k W => one_c n c k W)
  unfold varV varL at h1
  go_enter Try.func18, Try.ntmps18
  go_wp2_with fail
  refine (h1.out _ _ _ _).mono ?_
  rintro r w0 ⟨rfl, k0⟩
  replace k0 := Lib.hid k0
  go_wp2_with fail
  refine (h1.out _ _ _ _).mono ?_
  rintro r w1 ⟨rfl, k1⟩
  replace k1 := Lib.hid (k0.out.trans k1)
  go_wp2_with fail
  refine (h1.out _ _ _ _).mono ?_
  rintro r w2 ⟨rfl, k2⟩
  replace k2 := Lib.hid (k1.out.trans k2)
  go_wp2_with fail
  go_ret2
  exact ⟨_, rfl, vars_of (L := edgeL) (Blk.new w2 _ _) rfl, k2.out.alloc _⟩
set_option maxRecDepth 100000 in
set_option maxHeartbeats 1000000 in
theorem rstd_ftrig (w : World) : Calls Try.prog 18 #[.string ⟨#[102, 116, 114, 105, 103]⟩] w (StdOk 3 edgeL w) := by
  have h1 := Lib.hid (fun n c k W => one_c n c k W)
  unfold varV varL at h1
  go_enter Try.func18, Try.ntmps18
  go_wp2_with fail
  refine (h1.out _ _ _ _).mono ?_
  rintro r w0 ⟨rfl, k0⟩
  replace k0 := Lib.hid k0
  go_wp2_with fail
  refine (h1.out _ _ _ _).mono ?_
  rintro r w1 ⟨rfl, k1⟩
  replace k1 := Lib.hid (k0.out.trans k1)
  go_wp2_with fail
  refine (h1.out _ _ _ _).mono ?_
  rintro r w2 ⟨rfl, k2⟩
  replace k2 := Lib.hid (k1.out.trans k2)
  go_wp2_with fail
  go_ret2
  exact ⟨_, rfl, vars_of (L := edgeL) (Blk.new w2 _ _) rfl, k2.out.alloc _⟩
set_option maxRecDepth 100000 in
set_option maxHeartbeats 1000000 in
theorem rstd_no (k : ByteArray) (w : World) (h : ∀ i, i < 9 → k ≠ nmb i) : Calls Try.prog 18 #[.string k] w fun r w' => r = .returned (.tuple #[.slice none 0 0, .bool false]) ∧ w' = w := by
  have h0 : (k.toList == [116, 111, 110]) = false := name_no (h 0 (by omega))
  have h1 : (k.toList == [116, 111, 102]) = false := name_no (h 1 (by omega))
  have h2 : (k.toList == [116, 112]) = false := name_no (h 2 (by omega))
  have h3 : (k.toList == [99, 116, 117]) = false := name_no (h 3 (by omega))
  have h4 : (k.toList == [99, 116, 100]) = false := name_no (h 4 (by omega))
  have h5 : (k.toList == [115, 114]) = false := name_no (h 5 (by omega))
  have h6 : (k.toList == [114, 115]) = false := name_no (h 6 (by omega))
  have h7 : (k.toList == [114, 116, 114, 105, 103]) = false := name_no (h 7 (by omega))
  have h8 : (k.toList == [102, 116, 114, 105, 103]) = false := name_no (h 8 (by omega))
  replace h := Lib.hid h
  go_enter Try.func18, Try.ntmps18
  go_wp2
  go_ret2
  exact ⟨rfl, rfl⟩
/-- The cells of a cell's description. -/
def cellC (x : ByteArray × Int × Int) : List Value := [.string ⟨#[]⟩, .int .i64 x.2.2, .int .i64 x.2.1, .string ⟨#[]⟩, .int .i64 0]
theorem infoCell : (Try.prog.info? 52).map (fun i => (i.zero, i.size, i.bytes)) = some (some (.agg #[.string ⟨#[]⟩, .int .i64 0, .int .i64 0, .string ⟨#[]⟩, .int .i64 0]), 5, 56) := by kernel_rfl
theorem cell_one (x : ByteArray × Int × Int) : ∀ u ∈ cellC x, u.oneCell' = true := by
  intro u hu
  simp [cellC] at hu
  rcases hu with rfl | rfl | rfl | rfl | rfl <;> rfl
theorem cell_cells (W : World) (x : ByteArray × Int × Int) : ∀ j u, (cellC x)[j]? = some u → (W.alloc (.cells (cellC x).toArray 52)).cell? ((⟨W.heap.size, 0, none⟩ : Addr).add j) = some u := by
  intro j u hj
  have hb := Blk.new W 52 (cellC x).toArray
  have hlt : j < 5 := (List.getElem?_eq_some_iff.1 hj).1
  have e : (⟨W.heap.size, 0, none⟩ : Addr).add j = ⟨W.heap.size, j, none⟩ := by unfold Addr.add; split <;> simp_all
  rw [e]
  exact hb.cell j (by simpa using hj)
theorem step_append_own {P : Program} {ops : Array Oper} {o : Oper} {a : Act} {w : World} {K : Act → World → Prop} {Q : Exit → Act → World → Prop} {E : Prop} (hg : o.guard = none) (s x : Operand) (t : TypeId)
    (ho : o.op = .call { callee := .builtin .append, args := #[s, x], argTypes := #[t, t] })
    (base : Nat) (e : TypeId) (i : TypeInfo) (z : Value) (size bytes : Nat) (ht : P.underlying t = some (.slice e)) (hi : P.info? e = some i) (hz : i.zero = some z)
    (hsize : i.size = size) (hby : i.bytes = bytes) (hzs : z.cells.size = size) (hsz : 0 < size)
    (v : Value) (n : Nat) (xs : List Value) (hs : a.eval s = v) (hown : w.ownsRow base e size v n xs)
    (ad : Addr) (m c : Nat) (news : List Value) (hx : a.eval x = .slice (some ad) m c) (hl : news.length = m * size) (hnews : ∀ j u, news[j]? = some u → w.cell? (ad.add j) = some u) (h1 : ∀ u ∈ news, u.oneCell' = true)
    (h63 : n + m ≤ maxLen) (hbytes : (n + m) * bytes ≤ 140737488355328) (hbase : base ≤ w.heap.size)
    (h : ∀ v' w', w'.ownsRow base e size v' (n + m) (xs ++ news) → w.grownBy w' v.ownBlock → K (a.put o.dst v') w') :
    if Region.wanted o (yielded ops a.tmps) = true then Oper.wp P o a w K Q else E := by
  have hw : Region.wanted o (yielded ops a.tmps) = true := by simp [Region.wanted, hg]
  rw [if_pos hw]
  exact wp_append_own w s x t ho base e i z size bytes ht hi hz hsize hby hzs hsz v n xs hs hown ad m c news hx hl hnews h1 h63 hbytes hbase (fun v' w' a b _ => h v' w' a b)
def CelOk (n : Nat) (L : List (ByteArray × Int × Int)) (w : World) (r : Ending) (w' : World) : Prop := ∃ v, r = .returned (.tuple #[v, .bool true]) ∧ w'.ownsRow w.heap.size 52 5 v n (L.flatMap cellC) ∧ Kp [] w w'
set_option maxRecDepth 100000 in
set_option maxHeartbeats 2000000 in
theorem cells_gen (k : ByteArray) (n : Nat) (L : List (ByteArray × Int × Int)) (w : World) (hn : L.length = n) (h6 : n ≤ 6) (hS : Hid (∀ W, Calls Try.prog 18 #[.string k] W (StdOk n L W))) : Calls Try.prog 27 #[.string k] w (CelOk n L w) := by
  replace hn := Lib.hid hn
  go_enter Try.func27, Try.ntmps27
  go_wp2_with fail
  refine (hS.out _).mono ?_
  rintro r w1 ⟨g, rfl, hV, hk1⟩
  replace hV := Lib.hid hV
  replace hk1 := Lib.hid hk1
  go_wp2_with fail
  go_loopw [6, 7] (fun v i wr => ∃ (j : Nat), j ≤ n ∧ i = .int .i64 j ∧ Hid (wr.ownsRow w1.heap.size 52 5 v j ((L.take j).flatMap cellC)) ∧ Hid (Kp [] w1 wr)) (fun _ i _ => n - (intOf i).toNat)
  case atStart => exact ⟨0, Nat.zero_le _, rfl, World.ownsRow_nil _ _ _ _, Kp.refl _ _⟩
  case round =>
    obtain ⟨j, hj, rfl, hr, hK⟩ := hrel
    by_cases hlt : j < n
    · have hlt2 : j < L.length := by rw [hn.out]; exact hlt
      have hVj := hV.out.kp hK.out j hlt2
      have hst : Hid ((L.take (j + 1)).flatMap cellC = (L.take j).flatMap cellC ++ cellC L[j]) := by
        show _ = _
        rw [List.take_succ_eq_append_getElem hlt2, List.flatMap_append, List.flatMap_singleton]
      obtain ⟨⟨xn, xc, xk⟩, hx⟩ : ∃ y, L[j] = y := ⟨_, rfl⟩
      rw [hx] at hVj hst
      have e1 := hVj 1 _ rfl
      have e2 := hVj 2 _ rfl
      have e1d : wr.drew.cell? ⟨g, j * 7 + 1, none⟩ = some (.int .i64 xc) := e1
      have e2d : wr.drew.cell? ⟨g, j * 7 + 2, none⟩ = some (.int .i64 xk) := e2
      replace hx := Lib.hid hx
      clear hVj
      obtain ⟨i0, hi, hz0, hz1, hz2⟩ := info_parts infoCell
      obtain ⟨sv, hsv⟩ : ∃ z, (L.take j).flatMap cellC = z := ⟨_, rfl⟩
      rw [hsv] at hr hst
      replace hsv := Lib.hid hsv
      have hR2 := Lib.hid (World.ownsRow.alloc (show wr.drew.ownsRow w1.heap.size 52 5 u6 j sv from hr.out) (.cells (cellC (xn, xc, xk)).toArray 52))
      have hnew := Lib.hid (cell_cells wr.drew (xn, xc, xk))
      have hone := Lib.hid (cell_one (xn, xc, xk))
      have hbs : Hid (w1.heap.size ≤ (wr.drew.alloc (.cells (cellC (xn, xc, xk)).toArray 52)).heap.size) := by
        show _ ≤ _
        rw [World.size_alloc]
        have h1 := hk1.out.size
        have h2 := hK.out.size
        show w1.heap.size ≤ wr.heap.size + 1
        omega
      have hK2 := Lib.hid (hK.out.drew.alloc (.cells (cellC (xn, xc, xk)).toArray 52))
      unfold cellC at hR2 hnew hone hbs hK2
      go_wp2_with fail
      go_region_law (first
        | (refine step_append_own rfl (.tmp 19) (.tmp 32) 48 rfl w1.heap.size 52 i0 _ 5 56 Try.underlying48 hi hz0 hz1 hz2 rfl (by decide) u6 j sv rfl hR2.out ⟨wr.heap.size, 0, none⟩ 1 1 [.string ⟨#[]⟩, .int .i64 xk, .int .i64 xc, .string ⟨#[]⟩, .int .i64 0] rfl rfl hnew.out hone.out (by unfold maxLen; omega) (by omega) hbs.out ?_; intro v' w2 hown' hgrow; have hK3 := Lib.hid (hK2.out.grown hgrow (fun k hk => .inr (hR2.out.lt k hk).1)); replace hown' := Lib.hid hown'; clear hgrow))
      all_goals
        go_wp2_with fail
        go_roundw
        case rel => exact ⟨j + 1, by omega, by go_num, by show World.ownsRow _ _ _ _ _ _ _; rw [hst.out]; exact hown'.out, hK3.out⟩
        case measure => simp [intOf]; omega
    · obtain rfl : j = n := by omega
      go_wp2
      go_ret2
      refine ⟨_, rfl, ?_, hk1.out.trans hK.out⟩
      have h := hr.out
      rw [← hn.out, List.take_length] at h
      rw [← hn.out]
      exact own_base h hk1.out.size
end Go.Proofs.Ytieacfenoomaeaa
