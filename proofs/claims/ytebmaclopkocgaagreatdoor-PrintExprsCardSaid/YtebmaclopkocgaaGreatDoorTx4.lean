import Derived.Test.YtebmaclopkocgaaGreatDoorTx3
import Derived.RegionTactic
set_option linter.unusedSimpArgs false
set_option linter.unusedVariables false
namespace Go.Proofs.YtebmaclopkocgaaGreatDoor
open Go.RowKit

/-- w' is w but for block g, new blocks and draws, and nothing more is frozen. -/
structure Gm (g : Nat) (w w' : World) : Prop where
  kp : Kp [g] w w'
  fz : ∀ a, w'.frozen? a = w.frozen? a
theorem Gm.refl (g : Nat) (w : World) : Gm g w w := ⟨Kp.refl _ _, fun _ => rfl⟩
theorem Gm.trans {g : Nat} {a b c : World} (h : Gm g a b) (k : Gm g b c) : Gm g a c := ⟨h.kp.trans k.kp, fun x => (k.fz x).trans (h.fz x)⟩
theorem Gm.drew {g : Nat} {a w : World} (h : Gm g a w) : Gm g a w.drew := ⟨h.kp.drew, h.fz⟩
theorem Gm.drewN {g : Nat} {a w : World} (h : Gm g a w) (n : Nat) : Gm g a (w.drewN n) := ⟨h.kp.drewN n, h.fz⟩
theorem Gm.cells {g : Nat} {a w : World} (h : Gm g a w) (c : Array Value) (t : TypeId) : Gm g a (w.alloc (.cells c t)) :=
  ⟨h.kp.alloc _, fun x => (frozen?_alloc_cells _ _ _ x).trans (h.fz x)⟩
theorem Gm.setCell {g : Nat} {a w : World} (h : Gm g a w) (i : Nat) (u : Value) : Gm g a (w.setCell ⟨g, i, none⟩ u) :=
  ⟨h.kp.setCell (.inl (by simp)) u, fun x => (World.frozen?_setCell _ _ _ _).trans (h.fz x)⟩
theorem Gm.of_gr {g : Nat} {a w : World} (h : Gr a w) : Gm g a w := ⟨h.kp.any, h.fz⟩
/-- Block g is newer than all of w0: what lay in w0 is kept. -/
theorem Gm.old {g : Nat} {w0 a w : World} (h : Gm g a w) (k : Kp [] w0 a) (hg : w0.heap.size ≤ g) : Kp [] w0 w :=
  k.trans' h.kp (fun i hi hl => by simp at hi; omega)
theorem Gm.gr {g : Nat} {w0 a w : World} (h : Gm g a w) (k : Gr w0 a) (hg : w0.heap.size ≤ g) : Gr w0 w := ⟨h.old k.kp hg, fun x => (h.fz x).trans (k.fz x)⟩
/-- A meter: its nodes and its depth. -/
def Mt (w : World) (g : Nat) (n d : Int) : Prop := Blk w g 65 #[.int .i64 n, .int .i64 d]
theorem Mt.kp {w w' : World} {g : Nat} {n d : Int} (h : Mt w g n d) (k : Kp [] w w') : Mt w' g n d := Blk.kp h k (by simp)
theorem Mt.cells {w : World} {g : Nat} {n d : Int} (h : Mt w g n d) (o : Obj) : Mt (w.alloc o) g n d := h.kp ((Kp.refl [] w).alloc o)

set_option maxRecDepth 100000 in
theorem enter_c (g : Nat) (n dp d : Int) (w : World) (h : Mt w g n dp) (hn : 0 ≤ n) (hn2 : n ≤ 1000000) :
    Calls Tryz.prog 47 #[.pointer (some ⟨g, 0, none⟩), .int .i64 d] w fun e w' => e = .returned (.bool (decide (n + 1 ≤ 500) && decide (max dp d ≤ 14))) ∧ Mt w' g (n + 1) (max dp d) ∧ Gm g w w' := by
  have c0 := Blk.cell h 0 (v := .int .i64 n) rfl
  have c1 := Blk.cell h 1 (v := .int .i64 dp) rfl
  have f0 := Blk.frozen h 0
  have f1 := Blk.frozen h 1
  replace h := Lib.hid h
  go_enter Tryz.func47, Tryz.ntmps47
  go_wp2
  all_goals
    go_ret
    refine ⟨ret_bool ?_, ?_, ((Gm.refl g w).setCell 0 _).setCell 1 _⟩
    · by_cases hh : n + 1 ≤ 500 <;> simp [hh] <;> omega
    · exact Blk.set (Blk.set h.out 0 (.int .i64 (n + 1))) 1 (.int .i64 (max dp d))

mutual
def Ex.well : Ex → Bool
  | .mk op kind n s f args => shpB (.mk op kind n s f args) && wellL args
def wellL : List Ex → Bool
  | [] => true
  | e :: es => e.well && wellL es
end
mutual
def Ex.hgt : Ex → Nat
  | .mk _ _ _ _ _ args => 1 + hgtL args
def hgtL : List Ex → Nat
  | [] => 0
  | e :: es => max e.hgt (hgtL es)
end
theorem well_eq (e : Ex) : e.well = (shpB e && wellL e.args) := by cases e; rw [Ex.well, Ex.args]
theorem hgt_eq (e : Ex) : e.hgt = 1 + hgtL e.args := by cases e; rw [Ex.hgt, Ex.args]
theorem cnt_eq (e : Ex) : e.cnt = 1 + cntL e.args := by cases e; rw [Ex.cnt, Ex.args]
/-- An expression at a depth, where n nodes are counted already, is well formed. -/
def okE (e : Ex) (d n : Int) : Bool := e.well && decide (n + e.cnt ≤ 500) && decide (d + e.hgt ≤ 15)
def okL (es : List Ex) (d n : Int) : Bool := wellL es && decide (n + cntL es ≤ 500) && decide (d + hgtL es ≤ 15)
theorem okE_eq (e : Ex) (d n : Int) : okE e d n = (decide (n + 1 ≤ 500) && decide (d ≤ 14) && shpB e && okL e.args (d + 1) (n + 1)) := by
  rw [Bool.eq_iff_iff]
  simp only [okE, okL, well_eq, hgt_eq, cnt_eq, Bool.and_eq_true, decide_eq_true_eq]
  constructor
  · rintro ⟨⟨⟨h1, h2⟩, h3⟩, h4⟩; exact ⟨⟨⟨by omega, by omega⟩, h1⟩, ⟨h2, by omega⟩, by omega⟩
  · rintro ⟨⟨⟨h1, h2⟩, h3⟩, ⟨h4, h5⟩, h6⟩; exact ⟨⟨⟨h3, h4⟩, by omega⟩, by omega⟩
theorem okL_cons (e : Ex) (es : List Ex) (d n : Int) : okL (e :: es) d n = (okE e d n && okL es d (n + e.cnt)) := by
  rw [Bool.eq_iff_iff]
  have hm1 : cntL (e :: es) = e.cnt + cntL es := by rw [cntL]
  have hm2 : hgtL (e :: es) = max e.hgt (hgtL es) := by rw [hgtL]
  simp only [okE, okL, wellL, Bool.and_eq_true, decide_eq_true_eq]
  constructor
  · rintro ⟨⟨⟨h1, h2⟩, h3⟩, h4⟩; exact ⟨⟨⟨h1, by omega⟩, by omega⟩, ⟨h2, by omega⟩, by omega⟩
  · rintro ⟨⟨⟨h1, h2⟩, h3⟩, ⟨h4, h5⟩, h6⟩; exact ⟨⟨⟨h1, h4⟩, by omega⟩, by omega⟩
/-- All strings fit. -/
def okT (e : Ex) : Prop := okS e
mutual
def Ex.fits : Ex → Prop
  | .mk op kind n s f args => okS (.mk op kind n s f args) ∧ fitsL args
def fitsL : List Ex → Prop
  | [] => True
  | e :: es => e.fits ∧ fitsL es
end
theorem fits_eq (e : Ex) : e.fits ↔ okS e ∧ fitsL e.args := by cases e; rw [Ex.fits, Ex.args]
theorem fitsL_get : ∀ {es : List Ex} (_ : fitsL es) (i : Nat) (hi : i < es.length), es[i].fits
  | e :: es, h, 0, _ => by rw [fitsL] at h; exact h.1
  | e :: es, h, i + 1, hi => by rw [fitsL] at h; exact fitsL_get h.2 i (by simpa using hi)
end Go.Proofs.YtebmaclopkocgaaGreatDoor
