import Derived.Test.YtbfmkehchddkoaaDoorLa3
import Derived.Test.YtbfmkehchddkoaaDoorJn8
import Derived.ReadAgain
import Derived.ChangeReads
import Derived.ChangeArms
import Derived.Deep.Slices
import Derived.Deep.Strs
import Derived.Handed
import Derived.SizedLaws
namespace Go.Proofs.YtbfmkehchddkoaaDoor
open Go.ChangeShapes Go.WideShapes Go.ChangeAt Go.WideMaps Go.WideElems Go.RowKit

set_option maxRecDepth 100000 in
theorem kids_of : Kids Tryd.prog (· < Tryd.prog.types.size) := kids_rows (by kernel_rfl) (by kernel_rfl)
set_option maxRecDepth 100000 in
theorem full_of : ∀ t e, t < Tryd.prog.types.size → Tryd.prog.underlying t = some (.slice e) → 0 < Tryd.prog.cellsOf e := slices_full_of _ (by kernel_rfl)

theorem kp_sameAt {W W' : World} (h : Kp [] W W') {p : MemPlace} (hp : p.block < W.heap.size) : W.sameAt W' p := by
  have hb := h.block p.block hp (by simp)
  cases p with
  | cell b off => exact World.cell?_of_block (w := W) hb
  | map b => exact hb

/-- An argument of whatever type reads as it did behind a call that kept the blocks. -/
theorem trod_kept {H : Type} {enc : TypeId × Value → H} {W W' : World} {t : TypeId} {v : Value} {d : DataW H} {ps : List MemPlace} (hT : t < Tryd.prog.types.size)
    (h : DataW.Trod enc Tryd.prog W 0 (fun _ => true) true t v d ps) (hk : Kp [] W W') (hin : ∀ p ∈ ps, p.block < W.heap.size) (sp : Nat → Bool) (hs : ∀ p ∈ ps, sp p.block = true) :
    DataW.Trod enc Tryd.prog W' 0 sp true t v d ps := by
  obtain ⟨n, hn⟩ := h.respare (spare' := sp) kids_of full_of hT hs
  exact ⟨n, DataW.trod_carry _ _ _ _ hn fun p hp => kp_sameAt hk (hin p hp)⟩

theorem weightsAll_mem {H : Type} {P : Program} {e : TypeId} : ∀ {l : List (DataW H)} {d : DataW H}, d ∈ l → ∀ n ∈ d.weights P e, n ∈ DataW.weightsAll P e l
  | x :: r, d, hd, n, hn => by
    simp only [DataW.weightsAll, List.mem_append]
    rcases List.mem_cons.1 hd with rfl | hd
    · exact Or.inl hn
    · exact Or.inr (weightsAll_mem hd n hn)

instance : Inhabited TI := ⟨⟨0, ⟨#[]⟩, 0⟩⟩
set_option maxRecDepth 100000 in
theorem cellsTok : Tryd.prog.cellsOf 46 = 3 := by kernel_rfl
set_option maxRecDepth 100000 in
theorem cellsInt : Tryd.prog.cellsOf 3 = 1 := by kernel_rfl
set_option maxRecDepth 100000 in
theorem cellsStr : Tryd.prog.cellsOf 9 = 1 := by kernel_rfl

set_option maxRecDepth 100000 in
/-- One token of an argument's slice. -/
theorem open_tok {H : Type} {enc : TypeId × Value → H} {W : World} {fuel : Nat} {cs : List Value} {x : DataW H × List MemPlace}
    (h : DataW.trod enc Tryd.prog W 0 (fun _ => true) true fuel 46 cs = some x) :
    ∃ y : TI, cs = tiC y ∧ x.1 = .agg [.lit (.int .i64 y.kind), .lit (.string y.text.data.toList), .lit (.int .i64 y.at_)] := by
  obtain ⟨y0, y1, y2, n, rfl, hl, g0, g1, g2⟩ := Go.Deep.trod_struct3 Tryd.underlying46 h
  rw [cellsTok] at hl
  match cs, hl with
  | [c0, c1, c2], _ =>
    obtain ⟨k, e0, rfl, _⟩ := DataW.trod_int Tryd.underlying3 g0
    obtain ⟨s, e1, rfl, _⟩ := DataW.trod_string Tryd.underlying9 g1
    obtain ⟨p, e2, rfl, _⟩ := DataW.trod_int Tryd.underlying3 g2
    simp only [cellsInt, cellsStr] at e0 e1 e2
    simp at e0 e1 e2
    subst e0 e1 e2
    exact ⟨⟨k, s, p⟩, rfl, rfl⟩

theorem open_toks {H : Type} {enc : TypeId × Value → H} {W : World} {fuel : Nat} {v : Value} {x : DataW H × List MemPlace}
    (h : DataW.trod enc Tryd.prog W 0 (fun _ => true) true fuel 23 [v] = some x) (hw : ∀ n ∈ x.1.weights Tryd.prog 23, n ≤ reachBytes) :
    v = .slice none 0 0 ∨ ∃ (a : Addr) (cap : Nat) (ts : List TI), v = .slice (some a) ts.length cap ∧ ts.length ≤ cap ∧ cap ≤ 9223372036854775807 ∧
      (∀ j u, (ts.flatMap tiC)[j]? = some u → W.cell? (a.add j) = some u) ∧ ∀ y ∈ ts, y.text.size ≤ 140737488355328 := by
  rcases Go.Deep.open_slice Tryd.underlying23 h with ⟨h0, _⟩ | ⟨a, len, cap, m, n, D, Pl, hv, hb, hl, hm, hmm, rfl, hx⟩
  · exact Or.inl (by simpa using h0)
  right
  have hv' : v = .slice (some a) len cap := by simpa using hv
  subst hv'
  simp only [if_true] at hmm
  subst hmm
  rw [cellsTok] at hx
  obtain ⟨T, hT⟩ := Go.Deep.choose_lt (α := TI) (n := len) (p := fun i y => (∀ k u, (tiC y)[k]? = some u → W.cell? (a.add (i * 3 + k)) = some u) ∧
      D i = .agg [.lit (.int .i64 y.kind), .lit (.string y.text.data.toList), .lit (.int .i64 y.at_)]) (fun i hi => by
    obtain ⟨cs', h1, h2⟩ := hx i (by omega)
    obtain ⟨y, rfl, hd⟩ := open_tok h2
    obtain ⟨_, _, hc⟩ := World.cells?_some h1
    refine ⟨y, fun k u hk => ?_, hd⟩
    have hk3 : k < 3 := (List.getElem?_eq_some_iff.1 hk).1
    have := hc k hk3
    rw [Go.Deep.add_add] at this
    rw [this, hk])
  have hts : ((List.range len).map T).length = len := by simp
  refine ⟨a, m, (List.range len).map T, by rw [hts], by rw [hts]; exact hl, by unfold maxLen at hm; omega, fun j u hj => ?_, fun y hy => ?_⟩
  · have hlt := (List.getElem?_eq_some_iff.1 hj).1
    rw [flat_len, hts] at hlt
    have hi : j / 3 < len := by omega
    have hj3 : j = j / 3 * 3 + j % 3 := by omega
    have := flat_ti ((List.range len).map T) (j / 3) (by rw [hts]; exact hi) (j % 3) (by omega)
    rw [← hj3, hj] at this
    have hg : ((List.range len).map T)[j / 3]'(by rw [hts]; exact hi) = T (j / 3) := by simp
    rw [hg] at this
    have h2 := (hT (j / 3) hi).1 (j % 3) u this.symm
    rwa [← hj3] at h2
  · obtain ⟨i, hi, rfl⟩ := List.mem_map.1 hy
    have hi := List.mem_range.1 hi
    have h1 : (T i).text.size ∈ (D i).weights Tryd.prog 46 := by
      rw [(hT i hi).2]
      simp only [DataW.weights, Tryd.underlying46, DataW.weightsEach, List.map_cons, List.map_nil]
      simp
    have h2 := weightsAll_mem (l := (List.range len).map D) (List.mem_map.2 ⟨i, List.mem_range.2 hi, rfl⟩) _ h1
    have h3 := hw (T i).text.size (by
      simp only [DataW.weights, Tryd.underlying23, List.mem_cons, List.mem_append]
      exact Or.inr (Or.inl h2))
    have := reachBytes_lt
    omega
end Go.Proofs.YtbfmkehchddkoaaDoor
