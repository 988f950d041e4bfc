import Derived.Test.YtebmaclopkocgaaGreatDoorEvW
import Derived.Shelf.Strings.Builder1
import Derived.Test.YtebmaclopkocgaaGreatDoorShelf
import Derived.Laws.AppendOwn
import Derived.RangeFuncBox
namespace Go.Proofs.YtebmaclopkocgaaGreatDoor
open Go.RowKit Go.Shelf

/- strings.Builder, written on: its own functions walked, because no contract of the shelf lies at this translation. -/
theorem bsize : (Tryz.prog.info? 90).map (·.size) = some 2 := by kernel_rfl
theorem blies : liesAt Tryz.prog Tryz.prog.depth 90 (2 / Tryz.prog.cellsOf 90) 0 90 1 = true := by kernel_rfl
theorem binfo : (Tryz.prog.info? 5).map (fun i => (i.zero, i.size, i.bytes)) = some (some (.int .u8 0), 1, 1) := by kernel_rfl

/-- The builder in block b holds these bytes. -/
def Bld (B b : Nat) (l : List UInt8) (w : World) : Prop := Lib.IsBuilder 90 5 B b (Lib.byteCells l) w

set_option maxRecDepth 100000 in
theorem check_used (b : Nat) (w : World) (h0 : w.cell? ⟨b, 0, none⟩ = some (.pointer (some ⟨b, 0, none⟩))) :
    Calls Tryz.prog 61 #[.pointer (some ⟨b, 0, none⟩)] w fun e w' => e = .returned (.tuple #[]) ∧ w' = w := by
  obtain ⟨j, hj, _⟩ := Option.map_eq_some_iff.1 bsize
  replace hj := Lib.hid hj
  go_enter Tryz.func61, Tryz.ntmps61
  go_wp2_with fail
  rw [Lib.run_neq_ptr_same w _ Tryz.underlying88 hj.out]
  go_wp2_with fail
  go_end0
  exact ⟨rfl, rfl⟩

set_option maxRecDepth 100000 in
theorem check_fresh (b : Nat) (w : World) (h0 : w.cell? ⟨b, 0, none⟩ = some (.pointer none)) (hsh : w.shape? b = some (90, 2)) (hfz : w.frozen? ⟨b, 0, none⟩ = false) :
    Calls Tryz.prog 61 #[.pointer (some ⟨b, 0, none⟩)] w fun e w' => e = .returned (.tuple #[]) ∧ w' = w.setCell ⟨b, 0, none⟩ (.pointer (some ⟨b, 0, none⟩)) := by
  obtain ⟨j, hj, hjs⟩ := Option.map_eq_some_iff.1 bsize
  have hj0 : j.size ≠ 0 := by rw [hjs]; decide
  replace hj := Lib.hid hj
  replace hjs := Lib.hid hjs
  replace hsh := Lib.hid hsh
  go_enter Tryz.func61, Tryz.ntmps61
  go_wp2_with fail
  rw [Lib.run_to_unsafe w ⟨b, 0, none⟩ Tryz.underlying88 Tryz.underlying127 hj.out hj0 hsh.out (Nat.zero_lt_succ 1)]
  simp only [Result.andThen]
  rw [Oper.upon_value]
  go_wp2_with fail
  rw [run_callFunc_extern Tryz.func77 (by kernel_rfl) (by kernel_rfl) (by kernel_rfl) (e := Extern.AbiNoEscape.same) (by kernel_rfl)]
  rw [Lib.run_noEscape]
  simp only [Result.andThen]
  rw [Oper.upon_value]
  go_wp2_with fail
  rw [Lib.run_from_unsafe w ⟨b, 0, none⟩ Tryz.underlying127 Tryz.underlying88 hj.out hsh.out blies]
  simp only [Result.andThen]
  rw [Oper.upon_value]
  have c2 : (w.setCell ⟨b, 0, none⟩ (.pointer (some ⟨b, 0, none⟩))).cell? ⟨b, 0, none⟩ = some (.pointer (some ⟨b, 0, none⟩)) := by simp [go_sem, h0]
  go_wp2_with fail
  go_end0
  exact ⟨rfl, rfl⟩

/-- Whatever is no row of bytes and not block b is as it was. -/
def Oth (b : Nat) (w w' : World) : Prop := ∀ (g : Nat) (T : TypeId) (cs : Array Value), T ≠ 5 → g ≠ b → Blk w g T cs → Blk w' g T cs
theorem Oth.refl (b : Nat) (w : World) : Oth b w w := fun _ _ _ _ _ h => h
theorem Oth.trans {b : Nat} {w w' w'' : World} (h : Oth b w w') (k : Oth b w' w'') : Oth b w w'' := fun g T cs h1 h2 hb => k g T cs h1 h2 (h g T cs h1 h2 hb)
theorem Oth.set {b : Nat} (w : World) (i : Nat) (v : Value) : Oth b w (w.setCell ⟨b, i, none⟩ v) := fun _ _ _ _ h2 hb => Blk.other hb h2 v
theorem Oth.alloc {b : Nat} (w : World) (o : Obj) : Oth b w (w.alloc o) := fun _ _ _ _ _ hb => Blk.alloc hb o
theorem Oth.grown {b B n : Nat} {w w' : World} {v : Value} {xs : List Value} (hg : w.grownBy w' v.ownBlock) (hr : w.ownsRow B 5 1 v n xs) : Oth b w w' := by
  intro g T cs h1 _ hb
  refine (hg.block g hb.lt ?_).trans hb
  rcases hr.2 with ⟨rfl, _⟩ | ⟨g', cap, cur, rfl, _, hh, _⟩
  · simp [Value.ownBlock]
  · intro e
    simp [Value.ownBlock] at e
    subst e
    unfold Blk at hb
    rw [hb] at hh
    simp at hh
    exact h1 hh.2

/-- Behind copyCheck the builder is in use, and holds what it held. -/
theorem check_c (B b : Nat) (l : List UInt8) (w : World) (h : Bld B b l w) :
    Calls Tryz.prog 61 #[.pointer (some ⟨b, 0, none⟩)] w fun e w' => e = .returned (.tuple #[]) ∧ Lib.BuilderAt 90 5 B b (.pointer (some ⟨b, 0, none⟩)) (Lib.byteCells l) w' ∧ Below B w w' ∧ Oth b w w' := by
  rcases h with h | h
  · refine (check_fresh b w h.cell0 h.shape h.frozen0).mono ?_
    rintro e w' ⟨rfl, rfl⟩
    exact ⟨rfl, h.used _, (Below.refl B w).setCell (p := ⟨b, 0, none⟩) h.1 _, Oth.set _ _ _⟩
  · refine (check_used b w h.cell0).mono ?_
    rintro e w' ⟨rfl, rfl⟩
    exact ⟨rfl, h, Below.refl B _, Oth.refl _ _⟩

theorem slice_of {W : World} {base n size : Nat} {T : TypeId} {v : Value} {xs : List Value} (h : W.ownsRow base T size v n xs) : ∃ a k cap, v = .slice a k cap := by
  rcases h.2 with ⟨rfl, _⟩ | ⟨g, cap, cur, rfl, _⟩
  · exact ⟨_, _, _, rfl⟩
  · exact ⟨_, _, _, rfl⟩
theorem blk_grown {w1 w2 : World} {b : Nat} {O : Obj} {r : Option Nat} (hbk : w1.heap[b]? = some O) (hgrow : w1.grownBy w2 r) (hne : r ≠ some b) : w2.heap[b]? = some O :=
  (hgrow.block b (Array.getElem?_eq_some_iff.1 hbk).1 (fun e => hne e.symm)).trans hbk
theorem blk_alloc {w1 : World} {b : Nat} {O o : Obj} (hbk : w1.heap[b]? = some O) : (w1.alloc o).heap[b]? = some O :=
  (Below.heap_alloc _ _ _ (Array.getElem?_eq_some_iff.1 hbk).1).trans hbk

set_option maxRecDepth 100000 in
theorem wstr_c (B b : Nat) (l : List UInt8) (s : ByteArray) (w : World) (h : Bld B b l w) (hlen : l.length + s.size ≤ 140737488355328) (hBw : B ≤ w.heap.size) :
    Calls Tryz.prog 42 #[.pointer (some ⟨b, 0, none⟩), .string s] w fun e w' => e = .returned (.tuple #[.int .i64 s.size, .nilIface]) ∧ Bld B b (l ++ s.data.toList) w' ∧ Below B w w' ∧ Oth b w w' := by
  obtain ⟨i0, hi, hz0, hz1, hz2⟩ := info_parts binfo
  have hbl := Lib.byteCells_length l
  have hbc : Lib.byteCells l ++ Lib.strCells s = Lib.byteCells (l ++ s.data.toList) := by rw [Lib.byteCells_append, Lib.strCells_eq]
  replace hbc := Lib.hid hbc
  go_enter Tryz.func42, Tryz.ntmps42
  go_wp2_with fail
  refine (check_c B b l _ h).mono ?_
  rintro e w1 ⟨rfl, h1, hb1, ho1⟩
  obtain ⟨hB, v, hbk, hown, hne⟩ := h1
  have c0 : w1.cell? ⟨b, 0, none⟩ = some (.pointer (some ⟨b, 0, none⟩)) := by simp [World.cell?, hbk]
  have c1 : w1.cell? ⟨b, 1, none⟩ = some v := by simp [World.cell?, hbk]
  have hsz := hb1.size
  have hbs : Hid (B ≤ w1.heap.size) := by show _ ≤ _; omega
  replace hown := Lib.hid hown
  replace hbk := Lib.hid hbk
  go_wp2_with (at_builtin; refine Lib.wpList_append_own_string _ rfl _ _ 78 9 rfl B 5 i0 Tryz.underlying78 Tryz.underlying9 hi hz0 hz1 hz2 _ _ _ rfl hown.out s rfl (by unfold maxLen; omega) (by omega) hbs.out ?_; intro v' w2 hown' hgrow _; have hb2 := blk_grown hbk.out hgrow hne; obtain ⟨a', n', cap', rfl⟩ := slice_of hown'; have d1 : w2.cell? ⟨b, 1, none⟩ = some v := (by simp [World.cell?, hb2]); have f1 : w2.frozen? ⟨b, 1, none⟩ = false := (by simp [World.frozen?, hb2]); replace hb2 := Lib.hid hb2; replace hown' := Lib.hid hown')
  go_ret2
  refine ⟨rfl, .inr ?_, ?_, ?_⟩
  · rw [← hbc.out]
    exact Lib.BuilderAt.put hB hb2.out (by simpa [Lib.strCells_eq, Lib.byteCells_length] using hown'.out) (by decide)
  · exact (hb1.grown hgrow (by omega) (fun k hk => (hown.out.lt k hk).1)).setCell (p := ⟨b, 1, none⟩) hB _
  · exact (ho1.trans (Oth.grown hgrow hown.out)).trans (Oth.set _ _ _)

theorem ownsRow_kp' {W W' : World} {base n size : Nat} {T : TypeId} {v : Value} {xs : List Value} (h : W.ownsRow base T size v n xs) (k : Kp [] W W') : W'.ownsRow base T size v n xs := by
  refine h.kept (row := none) ⟨k.os, k.tape, k.output, k.size, fun i hi _ => k.block i hi (by simp)⟩ ?_
  cases v.ownBlock <;> simp

theorem Bld.kp {B b : Nat} {l : List UInt8} {w w' : World} (h : Bld B b l w) (k : Kp [] w w') : Bld B b l w' := by
  rcases h with ⟨hB, v, hb, hr, hn⟩ | ⟨hB, v, hb, hr, hn⟩
  · exact .inl ⟨hB, v, k.heap hb (by simp), ownsRow_kp' hr k, hn⟩
  · exact .inr ⟨hB, v, k.heap hb (by simp), ownsRow_kp' hr k, hn⟩

theorem bld_new (w : World) : Bld w.heap.size w.heap.size [] (w.alloc (.cells #[.pointer none, .slice none 0 0] 90)) :=
  .inl ⟨Nat.le_refl _, _, Blk.new w _ _, World.ownsRow_nil _ _ _ _, by simp [Value.ownBlock]⟩

theorem bstr_c (B b : Nat) (l : List UInt8) (w : World) (h : Bld B b l w) (hBw : B ≤ w.heap.size) :
    Calls Tryz.prog 43 #[.pointer (some ⟨b, 0, none⟩)] w fun e w' => e = .returned (.string ⟨l.toArray⟩) ∧ Below B w w' :=
  Tryz.Builder_String_any B b l w h hBw
theorem Kp.below_trans {w a b : World} (h : Kp [] w a) (k : Below w.heap.size a b) : Kp [] w b := Kp.of_below (h.below.trans k)
theorem Bld.lt {B b : Nat} {l : List UInt8} {w : World} (h : Bld B b l w) : b < w.heap.size := by
  rcases h with h | h
  · exact h.lt
  · exact h.lt
end Go.Proofs.YtebmaclopkocgaaGreatDoor
