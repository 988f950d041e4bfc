import Derived.Test.YtebmaclopkocgaaGreatDoorCw1
import Derived.Test.YtebmaclopkocgaaGreatDoorPr1
import Derived.ChangeArms
set_option linter.unusedSimpArgs false
set_option linter.unusedVariables false
namespace Go.Proofs.YtebmaclopkocgaaGreatDoor
open Go.ChangeShapes Go.WideShapes Go.ChangeAt Go.WideMaps Go.WideElems Go.RowKit

/-! The reference's tables of operators, as the row lists them. -/
def opsRow (i : Nat) : DataW Unit := .slice ((List.range (cum (i + 1) - cum i)).map fun k => .lit (.int .i64 ((8 + cum i + k : Nat) : Int))) []
def sgnRow (i : Nat) : DataW Unit := .slice ((List.range (cum (i + 1) - cum i)).map fun k => .lit (.string (sgn ((8 + cum i + k : Nat) : Int)))) []
theorem dOps : (Rows.laid_winch_winchref02_ops : DataW Unit) = .agg ((List.range 7).map opsRow) := by kernel_rfl
theorem dSgs : (Rows.laid_winch_winchref02_signs : DataW Unit) = .agg ((List.range 7).map sgnRow) := by kernel_rfl
theorem gOps : Tryz.prog.globalNamed "winch/winchref02.ops" = some 0 := by kernel_rfl
theorem gSgs : Tryz.prog.globalNamed "winch/winchref02.signs" = some 1 := by kernel_rfl
theorem tOps : (Tryz.prog.globals[0]?).map (·.type) = some 75 := by kernel_rfl
theorem tSgs : (Tryz.prog.globals[1]?).map (·.type) = some 76 := by kernel_rfl

theorem row_of {W : World} {t e : TypeId} {fuel gl i n : Nat} {v : Value} {ds : List (DataW Unit)} {p : List MemPlace} {held : Bool} {enc : TypeId × Value → Unit}
    (ht : Tryz.prog.underlying t = some (.slice e)) (hc : Tryz.prog.cellsOf e = 1) (h : DataW.trod enc Tryz.prog W 0 (fun _ => true) held fuel t [v] = some (.slice ds [], p))
    (hcell : W.cell? ⟨gl, i, none⟩ = some v) (hn : ds.length = n) (hpos : 0 < n) (E : Nat → Value)
    (hE : ∀ k d v' m q, ds[k]? = some d → DataW.trod enc Tryz.prog W 0 (fun _ => true) held m e [v'] = some (d, q) → v' = E k) : RowAt W gl i n E := by
  subst hn
  obtain ⟨a, cap, hcs, hl, hel⟩ := open_row ht hc h
  rcases DataW.trod_slice ht h with ⟨h0, _⟩ | ⟨a', len, cap', elems, rest, m, _, hcs', _, _, _, hm, _⟩
  · rw [h0] at hcs; simp at hcs
  rw [hcs'] at hcs
  simp at hcs
  obtain ⟨rfl, rfl, rfl⟩ := hcs
  simp at hcs'
  subst hcs'
  have hcl : ∀ k, k < ds.length → W.cell? (a'.add k) = some (E k) := fun k hk => by
    obtain ⟨v', n', q', h1, h2⟩ := hel k ds[k] (by simp)
    rw [h1, hE k _ _ _ _ (by simp) h2]
  have hq : a'.spot = none := by
    have h1 := hcl 0 hpos
    unfold World.cell? at h1
    split at h1
    · split at h1
      · cases h1
      · rename_i h2; simpa [Addr.add] using h2
    · cases h1
  refine ⟨a'.block, a'.off, cap', ?_, hl, by unfold maxLen at hm; omega, fun k hk => ?_⟩
  · rw [hcell]; cases a'; simp at hq; subst hq; rfl
  · have h1 := hcl k hk
    have h4 : a'.add k = ⟨a'.block, a'.off + k, none⟩ := by
      unfold Addr.add
      split
      · rename_i h5; cases a'; simp at hq; simp [hq, h5]
      · rfl
    rw [h4] at h1
    exact h1

theorem rows_of {W : World} {t e : TypeId} {fuel g : Nat} {name : String} {cs : Array Value} {R : Nat → DataW Unit} {ps : List MemPlace} {held : Bool} {enc : TypeId × Value → Unit}
    (ht : Tryz.prog.underlying t = some (.array 7 e)) (he1 : Tryz.prog.cellsOf e = 1) (hct : Tryz.prog.cellsOf t = 7) (hg : Tryz.prog.globalNamed name = some g) (hv : W.var? Tryz.prog name = some cs)
    (hd : DataW.trod enc Tryz.prog W 0 (fun _ => true) held fuel t cs.toList = some (.agg ((List.range 7).map R), ps)) (i : Nat) (hi : i < 7) :
    ∃ v m p, W.cell? ⟨g, i, none⟩ = some v ∧ DataW.trod enc Tryz.prog W 0 (fun _ => true) held m e [v] = some (R i, p) := by
  obtain ⟨xs, m, _, hx, hl, hxl, hel⟩ := DataW.trod_array ht hd
  have h1 := hel i hi
  rw [he1, Nat.mul_one] at h1
  simp at hx
  obtain ⟨hx1, _⟩ := hx
  have h2 : xs[i]?.map (·.1) = some (R i) := by
    rw [← List.getElem?_map]
    first | rw [← hx1] | rw [hx1]
    rw [List.getElem?_map, List.getElem?_range hi]; rfl
  obtain ⟨y, hy⟩ : ∃ y, xs[i]? = some y := by
    cases hq : xs[i]? with
    | none => rw [hq] at h2; simp at h2
    | some y => exact ⟨y, rfl⟩
  rw [hy] at h1 h2
  simp at h2
  have hc := World.var?_cell hg hv i
  cases hcs : cs[i]? with
  | none =>
    exfalso
    have h3 := Array.getElem?_eq_none_iff.1 hcs
    rw [hct, Array.length_toList] at hl
    omega
  | some v =>
    rw [hcs] at hc
    have h3 : List.take 1 (List.drop i cs.toList) = [v] := by
      obtain ⟨hlt, hv2⟩ := Array.getElem?_eq_some_iff.1 hcs
      rw [List.drop_eq_getElem_cons (by simpa using hlt)]
      simp [hv2]
    rw [h3] at h1
    exact ⟨v, m, y.2, hc, by rw [h1, ← h2]⟩
theorem sgAt_of {W : World} {g1 g2 t1 t2 f1 f2 : Nat} {c1 c2 : Array Value} {p1 p2 : List MemPlace} {held : Bool} {enc : TypeId × Value → Unit}
    (hg1 : Tryz.prog.globalNamed "winch/winchref02.ops" = some g1) (ht1 : (Tryz.prog.globals[g1]?).map (·.type) = some t1) (hv1 : W.var? Tryz.prog "winch/winchref02.ops" = some c1)
    (hd1 : DataW.trod enc Tryz.prog W 0 (fun _ => true) held f1 t1 c1.toList = some (Rows.laid_winch_winchref02_ops, p1))
    (hg2 : Tryz.prog.globalNamed "winch/winchref02.signs" = some g2) (ht2 : (Tryz.prog.globals[g2]?).map (·.type) = some t2) (hv2 : W.var? Tryz.prog "winch/winchref02.signs" = some c2)
    (hd2 : DataW.trod enc Tryz.prog W 0 (fun _ => true) held f2 t2 c2.toList = some (Rows.laid_winch_winchref02_signs, p2)) : SgAt W := by
  obtain rfl := Option.some.inj (gOps.symm.trans hg1)
  obtain rfl := Option.some.inj (tOps.symm.trans ht1)
  obtain rfl := Option.some.inj (gSgs.symm.trans hg2)
  obtain rfl := Option.some.inj (tSgs.symm.trans ht2)
  rw [dOps] at hd1
  rw [dSgs] at hd2
  intro i hi
  have hpos : 0 < cum (i + 1) - cum i := by
    rcases (show i = 0 ∨ i = 1 ∨ i = 2 ∨ i = 3 ∨ i = 4 ∨ i = 5 ∨ i = 6 by omega) with rfl | rfl | rfl | rfl | rfl | rfl | rfl <;> decide
  obtain ⟨v, m, p, hc, hd⟩ := rows_of Tryz.underlying75 (by kernel_rfl) (by kernel_rfl) hg1 hv1 hd1 i hi
  obtain ⟨v', m', p', hc', hd'⟩ := rows_of Tryz.underlying76 (by kernel_rfl) (by kernel_rfl) hg2 hv2 hd2 i hi
  constructor
  · refine row_of Tryz.underlying74 (by kernel_rfl) hd hc (by simp) hpos _ ?_
    intro k d x n q hk hx
    obtain ⟨a, h1, h2, _⟩ := DataW.trod_int Tryz.underlying3 hx
    simp at h1 h2
    subst h1
    rw [List.getElem?_map] at hk
    by_cases hlt : k < cum (i + 1) - cum i
    · rw [List.getElem?_range hlt] at hk
      simp at hk
      rw [← hk] at h2
      have h3 := h2.1
      simp at h3
      rw [← h3]; simp
    · rw [List.getElem?_eq_none (by simpa using hlt)] at hk
      simp at hk
  · refine row_of Tryz.underlying37 (by kernel_rfl) hd' hc' (by simp) hpos _ ?_
    intro k d x n q hk hx
    obtain ⟨a, h1, h2, _⟩ := DataW.trod_string Tryz.underlying9 hx
    simp at h1 h2
    subst h1
    rw [List.getElem?_map] at hk
    by_cases hlt : k < cum (i + 1) - cum i
    · rw [List.getElem?_range hlt] at hk
      simp at hk
      rw [← hk] at h2
      have h3 := h2.1
      simp at h3
      show Value.string a = Value.string (st (sgn ((8 + cum i + k : Nat) : Int)))
      rw [show ((8 + cum i + k : Nat) : Int) = 8 + (cum i : Int) + k by omega, h3]
      rfl
    · rw [List.getElem?_eq_none (by simpa using hlt)] at hk
      simp at hk
end Go.Proofs.YtebmaclopkocgaaGreatDoor
