import Derived.Test.YtebmaclopkocgaaGreatDoorPwv
import Derived.Test.YtebmaclopkocgaaGreatDoorRows
import Derived.ReadAgain
import Derived.ChangeReads
import Derived.ChangeArms
import Derived.Deep.Slices
import Derived.Deep.Strs
import Derived.SizedLaws
set_option linter.unusedSimpArgs false
set_option linter.unusedVariables false
namespace Go.Proofs.YtebmaclopkocgaaGreatDoor
open Go.ChangeShapes Go.WideShapes Go.ChangeAt Go.RowKit

/-! What the bulk of a reading gives. -/
theorem bulk_part {H : Type} {d : DataW H} {l : List (DataW H)} (h : d ∈ l) : Rows.uptoBulk d ≤ Rows.uptoBulkAll l := by
  induction l with
  | nil => cases h
  | cons x r ih =>
    simp only [Rows.uptoBulkAll]
    cases List.mem_cons.1 h with
    | inl e => subst e; omega
    | inr e => have := ih e; omega

instance : Inhabited Ex := ⟨.mk 0 0 0 ⟨#[]⟩ ⟨#[]⟩ []⟩
set_option maxRecDepth 100000 in
theorem cellsEx : Tryz.prog.cellsOf 24 = 6 := by kernel_rfl
set_option maxRecDepth 100000 in
theorem cellsI : Tryz.prog.cellsOf 3 = 1 := by kernel_rfl
set_option maxRecDepth 100000 in
theorem cellsS : Tryz.prog.cellsOf 9 = 1 := by kernel_rfl
set_option maxRecDepth 100000 in
theorem cellsX : Tryz.prog.cellsOf 22 = 1 := by kernel_rfl

/-- A row of rows of six, place by place. -/
theorem row6 : ∀ (L : List (List Value)) (_ : ∀ c ∈ L, c.length = 6) (j : Nat) (u : Value), L.flatten[j]? = some u → ∃ i k c, L[i]? = some c ∧ c[k]? = some u ∧ j = i * 6 + k
  | [], _, j, u, h => by simp at h
  | c :: L, hl, j, u, h => by
    have hc := hl c (by simp)
    rw [List.flatten_cons] at h
    by_cases hj : j < 6
    · rw [List.getElem?_append_left (by omega)] at h
      exact ⟨0, j, c, rfl, h, by omega⟩
    · rw [List.getElem?_append_right (by omega), hc] at h
      obtain ⟨i, k, c', h1, h2, h3⟩ := row6 L (fun x hx => hl x (by simp [hx])) (j - 6) u h
      exact ⟨i + 1, k, c', by simpa using h1, h2, by omega⟩
theorem exsAt_map {W : World} {l : List Nat} {T : Nat → Ex × List Value} (h : ∀ i ∈ l, exAt W (T i).1 (T i).2) : exsAt W (l.map fun i => (T i).1) (l.map fun i => (T i).2) := by
  induction l with
  | nil => simp [exsAt]
  | cons a l ih =>
    rw [List.map_cons, List.map_cons, exsAt]
    exact ⟨_, _, rfl, h a (by simp), ih fun i hi => h i (by simp [hi])⟩
theorem wideL_map {l : List Nat} {T : Nat → Ex × List Value} (h : ∀ i ∈ l, (T i).1.wide) : wideL (l.map fun i => (T i).1) := by
  induction l with
  | nil => simp [wideL]
  | cons a l ih => rw [List.map_cons, wideL]; exact ⟨h a (by simp), ih fun i hi => h i (by simp [hi])⟩
theorem weightsAll_mem {H : Type} {P : Program} {e : TypeId} : ∀ {l : List (DataW H)} {d : DataW H}, d ∈ l → ∀ n ∈ d.weights P e, n ∈ DataW.weightsAll P e l
  | x :: r, d, hd, n, hn => by
    simp only [DataW.weightsAll, List.mem_append]
    rcases List.mem_cons.1 hd with rfl | hd
    · exact Or.inl hn
    · exact Or.inr (weightsAll_mem hd n hn)
set_option maxRecDepth 100000 in
theorem bytesEx : Tryz.prog.bytesOf 24 = 80 := by kernel_rfl
theorem fitsL_map {l : List Nat} {T : Nat → Ex × List Value} (h : ∀ i ∈ l, (T i).1.fits) : fitsL (l.map fun i => (T i).1) := by
  induction l with
  | nil => simp [fitsL]
  | cons a l ih => rw [List.map_cons, fitsL]; exact ⟨h a (by simp), ih fun i hi => h i (by simp [hi])⟩

theorem trod_struct6 {H : Type} {enc : TypeId × Value → H} {P : Program} {w : World} {base : Nat} {spare : Nat → Bool} {held : Bool} {t : TypeId} {f0 f1 f2 f3 f4 f5 : Field} {fuel : Nat} {cs : List Value} {x : DataW H × List MemPlace}
    (ht : P.underlying t = some (.struct #[f0, f1, f2, f3, f4, f5])) (h : DataW.trod enc P w base spare held fuel t cs = some x) :
    ∃ y0 y1 y2 y3 y4 y5 n, x = (.agg [y0.1, y1.1, y2.1, y3.1, y4.1, y5.1], y0.2 ++ (y1.2 ++ (y2.2 ++ (y3.2 ++ (y4.2 ++ y5.2))))) ∧ cs.length = P.cellsOf t ∧
      DataW.trod enc P w base spare held n f0.type ((cs.drop f0.offset).take (P.cellsOf f0.type)) = some y0 ∧ DataW.trod enc P w base spare held n f1.type ((cs.drop f1.offset).take (P.cellsOf f1.type)) = some y1 ∧
      DataW.trod enc P w base spare held n f2.type ((cs.drop f2.offset).take (P.cellsOf f2.type)) = some y2 ∧ DataW.trod enc P w base spare held n f3.type ((cs.drop f3.offset).take (P.cellsOf f3.type)) = some y3 ∧
      DataW.trod enc P w base spare held n f4.type ((cs.drop f4.offset).take (P.cellsOf f4.type)) = some y4 ∧ DataW.trod enc P w base spare held n f5.type ((cs.drop f5.offset).take (P.cellsOf f5.type)) = some y5 := by
  obtain ⟨xs, n, _, rfl, hl, hlen, hf⟩ := DataW.trod_struct ht h
  match xs, hlen with
  | [y0, y1, y2, y3, y4, y5], _ => exact ⟨y0, y1, y2, y3, y4, y5, n, by simp, hl, by simpa using hf 0 f0 rfl, by simpa using hf 1 f1 rfl, by simpa using hf 2 f2 rfl, by simpa using hf 3 f3 rfl, by simpa using hf 4 f4 rfl, by simpa using hf 5 f5 rfl⟩

set_option maxRecDepth 100000 in
/-- An argument that is an expression: the tree; no string and no list is longer than the reach. -/
theorem open_ex {H : Type} {enc : TypeId × Value → H} {W : World} : ∀ (N fuel : Nat) (cs : List Value) (x : DataW H × List MemPlace),
    DataW.trod enc Tryz.prog W 0 (fun _ => true) true fuel 24 cs = some x → Rows.uptoBulk x.1 < N → (∀ n ∈ x.1.weights Tryz.prog 24, n ≤ reachBytes) → ∃ e : Ex, exAt W e cs ∧ e.wide ∧ e.fits
  | 0, _, _, _, _, h, _ => absurd h (Nat.not_lt_zero _)
  | N + 1, fuel, cs, x, h, hN, hB => by
    have hr := reachBytes_lt
    obtain ⟨y0, y1, y2, y3, y4, y5, n, rfl, hl, g0, g1, g2, g3, g4, g5⟩ := trod_struct6 Tryz.underlying24 h
    rw [cellsEx] at hl
    match cs, hl with
    | [c0, c1, c2, c3, c4, c5], _ =>
    obtain ⟨a, e0, rfl, _⟩ := DataW.trod_int Tryz.underlying3 g0
    obtain ⟨b, e1, rfl, _⟩ := DataW.trod_int Tryz.underlying3 g1
    obtain ⟨c, e2, rfl, _⟩ := DataW.trod_int Tryz.underlying3 g2
    obtain ⟨s, e3, rfl, _⟩ := DataW.trod_string Tryz.underlying9 g3
    obtain ⟨f, e4, rfl, _⟩ := DataW.trod_string Tryz.underlying9 g4
    simp only [cellsI, cellsS, cellsX] at e0 e1 e2 e3 e4 g5
    simp at e0 e1 e2 e3 e4 g5
    subst e0 e1 e2 e3 e4
    simp only [Rows.uptoBulk, Rows.uptoBulkAll] at hN
    simp only [DataW.weights, Tryz.underlying24, DataW.weightsEach, List.map_cons, List.map_nil, List.nil_append, List.append_nil, List.mem_append, List.mem_singleton] at hB
    have hs1 := hB _ (.inl rfl)
    have hs2 := hB _ (.inr (.inl rfl))
    have hs : s.size = s.data.toList.length := rfl
    have hsf : f.size = f.data.toList.length := rfl
    have hS : okS (.mk a b c s f []) := ⟨by show s.size ≤ _; omega, by show f.size ≤ _; omega⟩
    rcases Go.Deep.open_slice Tryz.underlying22 g5 with ⟨h0, _⟩ | ⟨q, len, cap, m, n', D, Pl, hv, hb, hlc, hm, hmm, rfl, hx⟩
    · simp at h0
      subst h0
      refine ⟨.mk a b c s f [], exAt_iff.2 ⟨_, rfl, exsSl.nil W⟩, ?_, ?_⟩
      · rw [wide_eq]; exact ⟨by simp [Ex.args], by rw [Ex.args, wideL]; trivial⟩
      · rw [fits_eq]; exact ⟨hS, by rw [Ex.args, fitsL]; trivial⟩
    · simp at hv
      subst hv
      simp only [if_true] at hmm
      subst hmm
      rw [cellsEx] at hx
      simp only [Rows.uptoBulk] at hN
      have hB5 := fun n hn => hB n (.inr (.inr hn))
      simp only [DataW.weights, Tryz.underlying22, List.mem_cons, List.mem_append] at hB5
      have hlen5 := hB5 _ (.inl rfl)
      rw [bytesEx] at hlen5
      simp only [List.length_map, List.length_range] at hlen5
      obtain ⟨T, hT⟩ := Go.Deep.choose_lt (α := Ex × List Value) (n := len) (p := fun i T => W.cells? 0 (q.add (i * 6)) 6 = some T.2 ∧ exAt W T.1 T.2 ∧ T.1.wide ∧ T.1.fits) (fun i hi => by
        obtain ⟨cs', h1, h2⟩ := hx i (by omega)
        have hmi : D i ∈ (List.range len).map D := List.mem_map.2 ⟨i, List.mem_range.2 hi, rfl⟩
        have hp : Rows.uptoBulk (D i) ≤ Rows.uptoBulkAll ((List.range len).map D) := bulk_part hmi
        obtain ⟨e, h3, h4, h5⟩ := open_ex N _ _ _ h2 (by show Rows.uptoBulk (D i) < N; omega) (fun n hn => hB5 n (.inr (.inl (weightsAll_mem hmi n hn))))
        exact ⟨(e, cs'), h1, h3, h4, h5⟩)
      have hmem : ∀ i ∈ List.range len, i < len := fun i hi => List.mem_range.1 hi
      have hln : ((List.range len).map fun i => (T i).1).length = len := by simp
      refine ⟨.mk a b c s f ((List.range len).map fun i => (T i).1), exAt_iff.2 ⟨_, rfl, (List.range len).map fun i => (T i).2, ⟨some q, m, by rw [Ex.args, hln], by rw [Ex.args, hln]; exact hlc, by unfold maxLen at hm; omega, ?_⟩, ?_⟩, ?_, ?_⟩
      · rw [Ex.args, hln]
        by_cases h0 : len = 0
        · exact .inl h0
        right
        have hcell : ∀ i, i < len → ∀ k u, (T i).2[k]? = some u → W.cell? (q.add (i * 6 + k)) = some u := by
          intro i hi k u hk
          have hk6 : k < 6 := by have := (List.getElem?_eq_some_iff.1 hk).1; rw [exAt.len (hT i hi).2.1] at this; exact this
          obtain ⟨_, _, hc⟩ := World.cells?_some (hT i hi).1
          have := hc k hk6
          rw [Go.Deep.add_add] at this
          rw [this, hk]
        have hq : q.spot = none := by
          have hl6 := exAt.len (hT 0 (by omega)).2.1
          have h1 := hcell 0 (by omega) 0 ((T 0).2[0]'(by omega)) (List.getElem?_eq_getElem _)
          unfold World.cell? at h1
          split at h1
          · split at h1
            · cases h1
            · rename_i h2; simpa [Addr.add] using h2
          · cases h1
        refine ⟨q.block, q.off, by cases q; simp at hq; rw [hq], fun j u hj => ?_⟩
        obtain ⟨i, k, c', h1, h2, rfl⟩ := row6 _ (fun c' hc' => by obtain ⟨i, hi, rfl⟩ := List.mem_map.1 hc'; exact exAt.len (hT i (hmem i hi)).2.1) j u hj
        have hi : i < len := by have := (List.getElem?_eq_some_iff.1 h1).1; simpa using this
        have h3 := hcell i hi k u (by simp [hi] at h1; rw [h1]; exact h2)
        have h4 : q.add (i * 6 + k) = ⟨q.block, q.off + (i * 6 + k), none⟩ := by
          unfold Addr.add
          split
          · rename_i h5; cases q; simp at hq; simp [hq, h5]
          · rfl
        rw [h4] at h3
        exact h3
      · rw [Ex.args]; exact exsAt_map fun i hi => (hT i (hmem i hi)).2.1
      · rw [wide_eq]; exact ⟨by rw [Ex.args, hln]; omega, by rw [Ex.args]; exact wideL_map fun i hi => (hT i (hmem i hi)).2.2.1⟩
      · rw [fits_eq]; exact ⟨hS, by rw [Ex.args]; exact fitsL_map fun i hi => (hT i (hmem i hi)).2.2.2⟩
end Go.Proofs.YtebmaclopkocgaaGreatDoor
