import Derived.Test.YtgldbeacjacbcaaGreatEv10
import Derived.Laws.EntriesVeiled
namespace Go.Proofs.YtgldbeacjacbcaaGreat
open Go.RowKit

/-- The kinds of the inputs of the standard functions, in the order of the map. -/
def kindsL : List (List Int) := [[2], [2, 2], [2, 2], [2, 2, 2], [1, 2, 2], [2], [3], [2]]
/-- The standard functions lie at block g, and the kinds of their inputs in the blocks behind it. -/
structure Fns (g : Nat) (w : World) : Prop where
  map : w.heap[g]? = some (.map (fnE g) 8)
  sl : ∀ k, k < 8 → Blk w (g + (k + 1)) 3 ((kindsL.getD k []).map (Value.int .i64)).toArray
theorem Fns.gr {g : Nat} {w w' : World} (h : Fns g w) (k : Gr w w') : Fns g w' :=
  ⟨k.kp.heap h.map (by simp), fun i hi => (h.sl i hi).kp k.kp (by simp)⟩
theorem fns_gr (w : World) : Gr w (fnsW w) := ((((((((((Gr.refl w).map _ _).cells _ _).cells _ _).cells _ _).cells _ _).cells _ _).cells _ _).cells _ _).cells _ _)
theorem blk_at {w : World} {n : Nat} (h : n = w.heap.size) (t : TypeId) (cs : Array Value) : Blk (w.alloc (.cells cs t (0, 0))) n t cs := by subst h; exact Blk.new w t cs
theorem fns_at (w : World) : Fns w.heap.size (fnsW w) := by
  refine ⟨deep_map w [.cells #[.int .i64 2] 3, .cells #[.int .i64 2, .int .i64 2] 3, .cells #[.int .i64 2, .int .i64 2] 3, .cells #[.int .i64 2, .int .i64 2, .int .i64 2] 3, .cells #[.int .i64 1, .int .i64 2, .int .i64 2] 3, .cells #[.int .i64 2] 3, .cells #[.int .i64 3] 3, .cells #[.int .i64 2] 3] _, fun k hk => ?_⟩
  rcases (show k = 0 ∨ k = 1 ∨ k = 2 ∨ k = 3 ∨ k = 4 ∨ k = 5 ∨ k = 6 ∨ k = 7 by omega) with rfl | rfl | rfl | rfl | rfl | rfl | rfl | rfl
  · exact ((((((((blk_at (by simp) 3 _).alloc _).alloc _).alloc _).alloc _).alloc _).alloc _).alloc _)
  · exact (((((((blk_at (by simp) 3 _).alloc _).alloc _).alloc _).alloc _).alloc _).alloc _)
  · exact ((((((blk_at (by simp) 3 _).alloc _).alloc _).alloc _).alloc _).alloc _)
  · exact (((((blk_at (by simp) 3 _).alloc _).alloc _).alloc _).alloc _)
  · exact ((((blk_at (by simp) 3 _).alloc _).alloc _).alloc _)
  · exact (((blk_at (by simp) 3 _).alloc _).alloc _)
  · exact ((blk_at (by simp) 3 _).alloc _)
  · exact (blk_at (by simp) 3 _)
theorem fns_c (w : World) :
    Calls Tryz.prog 25 #[] w fun e w' => ∃ g, e = .returned (.map (some g)) ∧ Fns g w' ∧ Gr w w' :=
  (functions_c w).mono fun _ _ h => ⟨w.heap.size, h.1, h.2 ▸ fns_at w, h.2 ▸ fns_gr w⟩
theorem Fns.cell {g : Nat} {w : World} (h : Fns g w) (k : Nat) (hk : k < 8) (j : Nat) (hj : j < (kindsL.getD k []).length) : w.cell? ⟨g + (k + 1), j, none⟩ = some (.int .i64 ((kindsL.getD k []).getD j 0)) := by
  refine (h.sl k hk).cell j ?_
  have e : ((kindsL.getD k []).map (Value.int .i64)).toArray[j]? = ((kindsL.getD k [])[j]?).map (Value.int .i64) := by simp
  rw [e, List.getD_eq_getElem?_getD (l := kindsL.getD k []), List.getElem?_eq_getElem hj]
  rfl

set_option maxRecDepth 100000 in
theorem look_fn (W : World) (g : Nat) (x : ByteArray) (i : Nat) (v : Value) (hb : Fns g W) (h : Instr.findNow .string (.string x) (fnE g).toList 0 = some (some (i, v))) :
    (Instr.lookup 62 (.map (some g)) (.string x) true).run Tryz.prog W = .ok (.tuple #[v, .bool true]) W := by
  have hm : Tryz.prog.underlying 62 = some (.map 9 60) := Tryz.underlying62
  have hk : Tryz.prog.underlying 9 = some .string := Tryz.underlying9
  have hc : (Instr.checkKey (fnE g).isEmpty 10000 9 (.string x)).run Tryz.prog W = .ok () W := MapKept.run_checkKey (k := .string x) hk (by simp [MapKept.IsKey]) _ 9999
  have h1 := hb.map
  simp [Instr.lookup, run_underlying hm, MapKept.run_getObj_map h1, hc, MapKept.run_findKey hk h, Result.andThen]
def zeroF : Value := .agg #[.slice none 0 0, .int .i64 0, .nilFunc]
set_option maxRecDepth 100000 in
theorem look_none (W : World) (g : Nat) (x : ByteArray) (hb : Fns g W) (h : Instr.findNow .string (.string x) (fnE g).toList 0 = some none) :
    (Instr.lookup 62 (.map (some g)) (.string x) true).run Tryz.prog W = .ok (.tuple #[zeroF, .bool false]) W := by
  have hm : Tryz.prog.underlying 62 = some (.map 9 60) := Tryz.underlying62
  have hk : Tryz.prog.underlying 9 = some .string := Tryz.underlying9
  have hc : (Instr.checkKey (fnE g).isEmpty 10000 9 (.string x)).run Tryz.prog W = .ok () W := MapKept.run_checkKey (k := .string x) hk (by simp [MapKept.IsKey]) _ 9999
  have hz : ∀ w, (zeroValue 60).run Tryz.prog w = .ok zeroF w := fun w => by kernel_rfl
  have h1 := hb.map
  simp [Instr.lookup, run_underlying hm, MapKept.run_getObj_map h1, hc, MapKept.run_findKey hk h, hz, Result.andThen]

set_option maxRecDepth 100000 in
theorem call_ok (x : ByteArray) (i m K : Nat) (r rv : Int) (b off n c : Nat) (zs : List Int) (w : World) (hi : i < 8)
    (hK : ∀ (args : Array Value) (w : World), (callFunc K args).run Tryz.prog w = .ok (.enter K args) w)
    (hfind : Hid (∀ g, Instr.findNow .string (.string x) (fnE g).toList 0 = some (some (i, .agg #[.slice (some ⟨g + (i + 1), 0, none⟩) m m, .int .i64 r, .func (.func K) #[] #[]]))))
    (hm : Hid ((kindsL.getD i []).length = m)) (hlen : Hid ((kindsL.getD i []).length = zs.length)) (hn : Hid (zs.length = n)) (hbig : n ≤ 9223372036854775806)
    (hc : Hid (∀ w', Gr w w' → ∀ j, j < zs.length → w'.cell? ⟨b, off + j, none⟩ = some (.int .i64 (zs.getD j 0))))
    (hall : Hid (allB (kindsL.getD i []) zs = true))
    (hf : Hid (∀ w', Gr w w' → Calls Tryz.prog K #[.slice (some ⟨b, off, none⟩) n c] w' fun e w'' => e = .returned (.int .i64 rv) ∧ Gr w' w'')) :
    Calls Tryz.prog 11 #[.string x, .slice (some ⟨b, off, none⟩) n c] w fun e w' => e = .returned (.tuple #[.int .i64 (wrap32 rv), .int .i64 0]) ∧ Gr w w' := by
  go_enter Tryz.func11, Tryz.ntmps11
  go_wp2_with fail
  refine (fns_c _).mono ?_
  rintro e w1 ⟨g, rfl, hF, hg⟩
  have hl := look_fn w1 g x i _ hF (hfind.out g)
  go_wp2_with fail
  have hg2 : Gr w (w1.alloc (.cells #[.slice (some ⟨g + (i + 1), 0, none⟩) m m, .int .i64 r, .func (.func K) #[] #[]] 60)) := hg.cells _ _
  have hB := Blk.new w1 60 #[.slice (some ⟨g + (i + 1), 0, none⟩) m m, .int .i64 r, .func (.func K) #[] #[]]
  have hF2 := hF.gr ((Gr.refl w1).cells #[.slice (some ⟨g + (i + 1), 0, none⟩) m m, .int .i64 r, .func (.func K) #[] #[]] 60)
  have hc2 := Lib.hid (hc.out _ hg2)
  clear hl
  refine (takes_c (g + (i + 1)) b off n c m m r _ (kindsL.getD i []) zs _ hn.out hm.out hlen.out hbig (fun j hj => hF2.cell i hi j hj) hc2.out).mono ?_
  rintro e w3 ⟨rfl, hg3⟩
  rw [hall.out]
  have hB3 := hB.kp hg3.kp (by simp)
  have hcell := hB3.cell 2 (v := .func (.func K) #[] #[]) rfl
  clear hB hB3 hF2
  go_wp2_with fail
  refine (hf.out _ (hg2.trans hg3)).mono ?_
  rintro e w4 ⟨rfl, hg4⟩
  go_wp2_with fail
  refine (wrap_c rv _).mono ?_
  rintro e w' ⟨rfl, rfl⟩
  go_wp2_with fail
  go_ret2
  exact ⟨rfl, (hg2.trans hg3).trans hg4⟩
set_option maxRecDepth 100000 in
theorem call_bad (x : ByteArray) (i m K : Nat) (r : Int) (b off n c : Nat) (zs : List Int) (w : World) (hi : i < 8)
    (hfind : Hid (∀ g, Instr.findNow .string (.string x) (fnE g).toList 0 = some (some (i, .agg #[.slice (some ⟨g + (i + 1), 0, none⟩) m m, .int .i64 r, .func (.func K) #[] #[]]))))
    (hm : Hid ((kindsL.getD i []).length = m)) (hlen : Hid ((kindsL.getD i []).length = zs.length)) (hn : Hid (zs.length = n)) (hbig : n ≤ 9223372036854775806)
    (hc : Hid (∀ w', Gr w w' → ∀ j, j < zs.length → w'.cell? ⟨b, off + j, none⟩ = some (.int .i64 (zs.getD j 0))))
    (hall : Hid (allB (kindsL.getD i []) zs = false)) :
    Calls Tryz.prog 11 #[.string x, .slice (some ⟨b, off, none⟩) n c] w fun e w' => e = .returned (.tuple #[.int .i64 0, .int .i64 2]) ∧ Gr w w' := by
  go_enter Tryz.func11, Tryz.ntmps11
  go_wp2_with fail
  refine (fns_c _).mono ?_
  rintro e w1 ⟨g, rfl, hF, hg⟩
  have hl := look_fn w1 g x i _ hF (hfind.out g)
  go_wp2_with fail
  have hg2 : Gr w (w1.alloc (.cells #[.slice (some ⟨g + (i + 1), 0, none⟩) m m, .int .i64 r, .func (.func K) #[] #[]] 60)) := hg.cells _ _
  have hF2 := hF.gr ((Gr.refl w1).cells #[.slice (some ⟨g + (i + 1), 0, none⟩) m m, .int .i64 r, .func (.func K) #[] #[]] 60)
  have hc2 := Lib.hid (hc.out _ hg2)
  clear hl
  refine (takes_c (g + (i + 1)) b off n c m m r _ (kindsL.getD i []) zs _ hn.out hm.out hlen.out hbig (fun j hj => hF2.cell i hi j hj) hc2.out).mono ?_
  rintro e w3 ⟨rfl, hg3⟩
  rw [hall.out]
  clear hF2
  go_wp2_with fail
  go_ret2
  exact ⟨rfl, hg2.trans hg3⟩
set_option maxRecDepth 100000 in
theorem call_len (x : ByteArray) (i m K : Nat) (r : Int) (q : Option Addr) (n c : Nat) (w : World)
    (hfind : Hid (∀ g, Instr.findNow .string (.string x) (fnE g).toList 0 = some (some (i, .agg #[.slice (some ⟨g + (i + 1), 0, none⟩) m m, .int .i64 r, .func (.func K) #[] #[]]))))
    (hne : Hid (¬ (n : Int) = (m : Int))) (hbig : n ≤ 9223372036854775806) (hbm : m ≤ 9223372036854775806) :
    Calls Tryz.prog 11 #[.string x, .slice q n c] w fun e w' => e = .returned (.tuple #[.int .i64 0, .int .i64 2]) ∧ Gr w w' := by
  go_enter Tryz.func11, Tryz.ntmps11
  go_wp2_with fail
  refine (fns_c _).mono ?_
  rintro e w1 ⟨g, rfl, hF, hg⟩
  have hl := look_fn w1 g x i _ hF (hfind.out g)
  go_wp2_with fail
  have hg2 : Gr w (w1.alloc (.cells #[.slice (some ⟨g + (i + 1), 0, none⟩) m m, .int .i64 r, .func (.func K) #[] #[]] 60)) := hg.cells _ _
  clear hl
  refine (takes_len _ q n c m m r _ _ hne.out (by omega) (by omega)).mono ?_
  rintro e w3 ⟨rfl, hg3⟩
  go_wp2_with fail
  go_ret2
  exact ⟨rfl, hg2.trans hg3⟩
set_option maxRecDepth 100000 in
theorem call_none (x : ByteArray) (s : Value) (w : World)
    (hfind : Hid (∀ g, Instr.findNow .string (.string x) (fnE g).toList 0 = some none)) :
    Calls Tryz.prog 11 #[.string x, s] w fun e w' => e = .returned (.tuple #[.int .i64 0, .int .i64 6]) ∧ Gr w w' := by
  go_enter Tryz.func11, Tryz.ntmps11
  go_wp2_with fail
  refine (fns_c _).mono ?_
  rintro e w1 ⟨g, rfl, hF, hg⟩
  have hl := look_none w1 g x hF (hfind.out g)
  unfold zeroF at hl
  go_wp2_with fail
  go_ret2
  exact ⟨rfl, hg.cells _ _⟩
end Go.Proofs.YtgldbeacjacbcaaGreat
