import Derived.Test.YtgldbeacjacbcaaGreatTy9
set_option linter.unusedSimpArgs false
set_option linter.unusedVariables false
namespace Go.Proofs.YtgldbeacjacbcaaGreat
open Go.RowKit

theorem infoEx : (Tryz.prog.info? 24).map (fun i => (i.zero, i.size, i.bytes)) = some (some (.agg #[.int .i64 0, .int .i64 0, .int .i64 0, .string ⟨#[]⟩, .string ⟨#[]⟩, .slice none 0 0]), 6, 80) := by kernel_rfl
/-- The blocks that are new since w. -/
def Rg (w w' : World) : Nat → Prop := fun b => w.heap.size ≤ b ∧ b < w'.heap.size
def FoldRes (y : Ex) (w : World) (r : Ending) (w' : World) : Prop := ∃ u, r = .returned (exVal y u) ∧ Kp [] w w' ∧ exsSlB (Rg w w') w' u y.args
def FoldC (e : Ex) : Prop := ∀ (w : World) (v : Value), exsSl w v e.args → e.well = true → e.cnt ≤ 500 → Calls Tryz.prog 15 #[exVal e v] w (FoldRes (foldE e) w)
def ListC (es : List Ex) : Prop := ∀ (w : World) (v : Value), exsSl w v es → wellL es = true → cntL es ≤ 500 →
  Calls Tryz.prog 28 #[v, .func (.func 15) #[] #[]] w (fun r w' => ∃ u, r = .returned u ∧ Kp [] w w' ∧ exsSlB (Rg w w') w' u (foldL es))

theorem ex_cells (W : World) (a b c : Int) (s f : ByteArray) (v : Value) : ∀ j u, ([.int .i64 a, .int .i64 b, .int .i64 c, .string s, .string f, v] : List Value)[j]? = some u → (W.alloc (.cells #[.int .i64 a, .int .i64 b, .int .i64 c, .string s, .string f, v] 24)).cell? ((⟨W.heap.size, 0, none⟩ : Addr).add j) = some u := by
  intro j u hj
  have hb := Blk.new W 24 #[.int .i64 a, .int .i64 b, .int .i64 c, .string s, .string f, v]
  match j, hj with
  | 0, hj => exact hb.cell 0 hj
  | 1, hj => exact hb.cell 1 hj
  | 2, hj => exact hb.cell 2 hj
  | 3, hj => exact hb.cell 3 hj
  | 4, hj => exact hb.cell 4 hj
  | 5, hj => exact hb.cell 5 hj
  | j + 6, hj => simp at hj
theorem ex_one (a b c : Int) (s f : ByteArray) (q : Option Addr) (n m : Nat) : ∀ u ∈ ([.int .i64 a, .int .i64 b, .int .i64 c, .string s, .string f, .slice q n m] : List Value), u.oneCell' = true := by simp [Value.oneCell']

theorem foldL_take_succ {es : List Ex} {k : Nat} (hk : k < es.length) : foldL (es.take (k + 1)) = foldL (es.take k) ++ [foldE es[k]] := by
  induction es generalizing k with
  | nil => simp at hk
  | cons e es ih =>
    cases k with
    | zero => simp [foldL]
    | succ k => simp only [List.take_succ_cons, foldL, List.getElem_cons_succ, List.cons_append]; rw [ih (by simpa using hk)]
theorem flatten_snoc (L : List (List Value)) (c : List Value) : (L ++ [c]).flatten = L.flatten ++ c := by simp

/-- The row that List has made, as a slice of expressions. -/
theorem row_ex {w w' : World} {u : Value} {n : Nat} {es : List Ex} {L : List (List Value)} (hn : es.length = n) (ho : w'.ownsRow w.heap.size 24 6 u n L.flatten)
    (hE : exsAtB (fun b => w.heap.size ≤ b ∧ b < w'.heap.size ∧ u.ownBlock ≠ some b) w' es L) : exsSlB (Rg w w') w' u es := by
  refine ⟨L, ?_, exsAtB.move (fun b h => ⟨h.1, h.2.1⟩) (fun _ _ _ => rfl) es L hE⟩
  rcases ho.2 with ⟨rfl, h0⟩ | ⟨g, cap, cur, rfl, hb, hg, hnc, hcm, _⟩
  · exact ⟨none, 0, by rw [hn, h0], by omega, by omega, .inl (by omega)⟩
  · refine ⟨some ⟨g, 0, none⟩, cap, by rw [hn], by omega, by unfold maxLen at hcm; omega, .inr ⟨g, 0, rfl, ⟨hb, (Array.getElem?_eq_some_iff.1 hg).1⟩, fun j x hx => ?_⟩⟩
    have hc := ho.cells (g := g) rfl j x hx
    have ea : (⟨g, 0, none⟩ : Addr).add j = ⟨g, 0 + j, none⟩ := by unfold Addr.add; split <;> simp_all
    rw [ea] at hc
    exact hc

theorem row_kp {W W' : World} {base n : Nat} {T : TypeId} {v : Value} {xs : List Value} (h : W.ownsRow base T 6 v n xs) (k : Kp [] W W') : W'.ownsRow base T 6 v n xs := by
  refine h.kept (row := none) ⟨k.os, k.tape, k.output, k.size, fun i hi _ => k.block i hi (by simp)⟩ ?_
  cases v.ownBlock <;> simp

set_option maxRecDepth 100000 in
set_option maxHeartbeats 4000000 in
theorem list_c (es : List Ex) (IH : ∀ i (hi : i < es.length), FoldC es[i]) : ListC es := by
  intro w v hv hw hcnt
  obtain ⟨q, cap, rfl⟩ := hv.val
  obtain ⟨len, hlen⟩ : ∃ len, es.length = len := ⟨_, rfl⟩
  have hl5 : len ≤ 500 := by have := len_cntL es; omega
  rw [hlen] at hv ⊢
  obtain ⟨i0, hi, hz0, hz1, hz2⟩ := info_parts infoEx
  have hel : Hid (∀ i (hi : i < es.length), es[i].well = true ∧ es[i].cnt ≤ 500) := fun i hi => ⟨wellL_in hw (List.getElem_mem hi), by have := cnt_mem hi; omega⟩
  replace hv := Lib.hid hv
  replace hlen := Lib.hid hlen
  replace IH := Lib.hid IH
  clear hw hcnt
  go_enter Tryz.func28, Tryz.ntmps28
  go_wp2
  go_loopw [5, 10] (fun u i wr => ∃ (k : Nat) (L : List (List Value)), k ≤ len ∧ i = .int .i64 k ∧ Hid (wr.ownsRow w.heap.size 24 6 u k L.flatten) ∧
      Hid (exsAtB (fun b => w.heap.size ≤ b ∧ b < wr.heap.size ∧ u.ownBlock ≠ some b) wr (foldL (es.take k)) L) ∧ Hid (Kp [] w wr)) (fun _ i _ => len - (intOf i).toNat)
  case atStart => exact ⟨0, [], Nat.zero_le _, rfl, World.ownsRow_nil _ _ _ _, by show exsAtB _ _ (foldL []) []; rw [foldL, exsAtB], Kp.refl _ _⟩
  case round =>
    obtain ⟨k, L, hk, rfl, hu, hE, hK⟩ := hrel
    by_cases hlt : k < len
    · have hlt2 : k < es.length := by rw [hlen.out]; exact hlt
      obtain ⟨b, off, ux, rfl, hux, c0, c1, c2, c3, c4, c5⟩ := hv.out.at_in hK.out k hlt2
      have hcall := IH.out k hlt2
      have hts := Lib.hid (foldL_take_succ hlt2)
      have hwe := Lib.hid (hel.out k hlt2)
      obtain ⟨e, he⟩ : ∃ e, es[k] = e := ⟨_, rfl⟩
      rw [he] at c0 c1 c2 c3 c4 hcall hts hwe hux
      clear he
      obtain ⟨qu, cu, rfl⟩ := hux.val
      have hfold := Lib.hid (fun (W : World) (h : Kp [] w W) => hcall W _ (hux.kp h) hwe.out.1 hwe.out.2)
      clear hcall
      obtain ⟨lu, hlu⟩ : ∃ lu, e.args.length = lu := ⟨_, rfl⟩
      unfold exVal at hfold
      rw [hlu] at c5 hfold
      clear hlu hux
      obtain ⟨y, hy⟩ : ∃ y, foldE e = y := ⟨_, rfl⟩
      rw [hy] at hfold hts
      clear hy hwe
      have hul : Hid (∀ g, u5.ownBlock = some g → w.heap.size ≤ g ∧ g < wr.heap.size) := fun g hg => hu.out.lt g hg
      have hK1 := Lib.hid (hK.out.alloc (.cells #[.int .i64 e.op, .int .i64 e.kind, .int .i64 e.num, .string e.s, .string e.field, .slice qu lu cu] 24))
      go_wp2_with fail
      refine (hfold.out _ hK1.out).mono ?_
      rintro r w2 ⟨u1, rfl, hk2, hy⟩
      obtain ⟨qy, cy, rfl⟩ := hy.drop.val
      unfold exVal
      obtain ⟨ly, hly⟩ : ∃ ly, y.args.length = ly := ⟨_, rfl⟩
      rw [hly] at hy ⊢
      clear hly
      have hsz1 : wr.heap.size + 1 ≤ w2.heap.size := by have := hk2.size; rw [World.size_alloc] at this; exact this
      have hU2 := Lib.hid ((row_kp (hu.out.alloc _) hk2).alloc (.cells #[.int .i64 y.op, .int .i64 y.kind, .int .i64 y.num, .string y.s, .string y.field, .slice qy ly cy] 24))
      have hK2 := Lib.hid ((hK1.out.trans hk2).alloc (.cells #[.int .i64 y.op, .int .i64 y.kind, .int .i64 y.num, .string y.s, .string y.field, .slice qy ly cy] 24))
      have hwr : Hid (w.heap.size ≤ wr.heap.size) := hK.out.size
      have hbs : Hid (w.heap.size ≤ (w2.alloc (.cells #[.int .i64 y.op, .int .i64 y.kind, .int .i64 y.num, .string y.s, .string y.field, .slice qy ly cy] 24)).heap.size) := by show _ ≤ _; rw [World.size_alloc]; have := hwr.out; omega
      have hnew := Lib.hid (ex_cells w2 y.op y.kind y.num y.s y.field (.slice qy ly cy))
      have hone := Lib.hid (ex_one y.op y.kind y.num y.s y.field qy ly cy)
      have hkeep : Hid (∀ b, b < wr.heap.size → (w2.alloc (.cells #[.int .i64 y.op, .int .i64 y.kind, .int .i64 y.num, .string y.s, .string y.field, .slice qy ly cy] 24)).heap[b]? = wr.heap[b]?) := fun b hb => by
        have h1 := (((Kp.refl [] wr).alloc (.cells #[.int .i64 e.op, .int .i64 e.kind, .int .i64 e.num, .string e.s, .string e.field, .slice qu lu cu] 24)).trans hk2).alloc (.cells #[.int .i64 y.op, .int .i64 y.kind, .int .i64 y.num, .string y.s, .string y.field, .slice qy ly cy] 24)
        exact h1.block b hb (by simp)
      have hy2 := Lib.hid hy
      have hsz2 := Lib.hid hsz1
      replace hk2 := Lib.hid hk2
      clear hy hsz1
      go_wp2_with (at_builtin; refine wpList_append_own_at _ rfl (.tmp 14) (.tmp 18) 22 rfl w.heap.size 24 i0 _ 6 80 Tryz.underlying22 hi hz0 hz1 hz2 rfl (by decide) _ k _ rfl hU2.out ⟨w2.heap.size, 0, none⟩ 1 1 [.int .i64 y.op, .int .i64 y.kind, .int .i64 y.num, .string y.s, .string y.field, .slice qy ly cy] rfl rfl hnew.out hone.out (by unfold maxLen; omega) (by omega) hbs.out ?_; intro v' w3 hown' hgrow _ hat)
      have hg3 := hgrow.size
      rw [World.size_alloc] at hg3 hat
      have hE3 : Hid (exsAtB (fun b => w.heap.size ≤ b ∧ b < w3.heap.size ∧ v'.ownBlock ≠ some b) w3 (foldL (es.take (k + 1))) (L ++ [exV y (.slice qy ly cy)])) := by
        show exsAtB _ _ _ _
        rw [hts.out]
        have hsz1 := hsz2.out
        refine exsAtB.snoc (exsAtB.move ?_ ?_ _ L hE.out) (exAtB_mk (hy2.out.move ?_ ?_))
        · rintro b ⟨h1, h2, h3⟩
          refine ⟨h1, by omega, fun h4 => ?_⟩
          rcases hat with h5 | h5
          · exact h3 (h5 ▸ h4)
          · rw [h5] at h4; simp at h4; omega
        · rintro b ⟨h1, h2, h3⟩ hb
          rw [hgrow.block b (by rw [World.size_alloc]; omega) (fun h => h3 h.symm)]
          exact hkeep.out b h2
        · rintro b ⟨h1, h2⟩
          rw [World.size_alloc] at h1
          refine ⟨by have := hwr.out; omega, by omega, fun h4 => ?_⟩
          rcases hat with h5 | h5
          · rw [h5] at h4; have := (hul.out b h4).2; omega
          · rw [h5] at h4; simp at h4; omega
        · rintro b ⟨h1, h2⟩ hb
          rw [World.size_alloc] at h1
          rw [hgrow.block b (by rw [World.size_alloc]; omega) (fun h => by have := (hul.out b h.symm).2; omega)]
          exact ((Kp.refl [] w2).alloc _).block b hb (by simp)
      have hO3 : Hid (w3.ownsRow w.heap.size 24 6 v' (k + 1) (L ++ [exV y (.slice qy ly cy)]).flatten) := by
        show World.ownsRow _ _ _ _ _ _ _
        rw [flatten_snoc]; exact hown'
      have hK3 := Lib.hid (hK2.out.grown hgrow (fun j hj => .inr (hul.out j hj).1))
      clear hgrow hown' hat hg3
      go_roundw
      case rel => exact ⟨k + 1, L ++ [exV y (.slice qy ly cy)], by omega, by go_num, hO3, hE3, hK3⟩
      case measure => simp [intOf]; omega
    · obtain rfl : k = len := by omega
      have hfull : Hid (es.take k = es) := by show _ = _; exact List.take_of_length_le (by rw [hlen.out]; exact Nat.le_refl _)
      have hE2 := hE.out
      rw [hfull.out] at hE2
      have hres := Lib.hid (row_ex (by rw [foldL_len, hlen.out]) hu.out hE2)
      clear hE2
      go_wp2_with fail
      go_ret
      exact ⟨_, rfl, hK.out, hres.out⟩
end Go.Proofs.YtgldbeacjacbcaaGreat
