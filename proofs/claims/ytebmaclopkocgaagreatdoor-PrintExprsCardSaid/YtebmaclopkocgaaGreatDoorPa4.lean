import Derived.Test.YtebmaclopkocgaaGreatDoorPa3
import Derived.Test.YtebmaclopkocgaaGreatDoorPb1
import Derived.Test.YtebmaclopkocgaaGreatDoorShelfC
import Derived.Shelf.Strings.SlTrimAscii
import Derived.Deep.RegionLaw
set_option linter.unusedSimpArgs false
set_option linter.unusedVariables false
namespace Go.Proofs.YtebmaclopkocgaaGreatDoor
open Go.RowKit

set_option maxRecDepth 100000 in
theorem trim_c (s : ByteArray) (hs : Lib.trimLeftS s.data.toList [32, 32] = s.data.toList) (w : World) :
    Calls Tryz.prog 26 #[.string s, .string ⟨#[32, 32]⟩] w fun e w' => e = .returned (.string s) ∧ Kp [] w w' := by
  refine (Any.strings_TrimLeft_laid Tryz.lays161 (by kernel_rfl) s ⟨#[32, 32]⟩ w (by decide) ?_).mono ?_
  · intro j b hb
    match j, hb with
    | 0, hb => cases hb; decide
    | 1, hb => cases hb; decide
    | j + 2, hb => simp at hb
  · rintro e w' ⟨rfl, hb⟩
    have h2 : Lib.trimLeftS s.data.toList (⟨#[32, 32]⟩ : ByteArray).data.toList = s.data.toList := hs
    rw [h2]
    exact ⟨rfl, Kp.of_below hb⟩
theorem short1_c (s : ByteArray) (hs : Lib.trimLeftS s.data.toList [32, 32] = s.data.toList) (w : World) :
    Calls Tryz.prog 25 #[.string s] w fun e w' => e = .returned (.string s) ∧ Kp [] w w' := by
  have ht := Lib.hid (fun W => trim_c s hs W)
  clear hs
  go_enter Tryz.func25, Tryz.ntmps25
  go_wp2_with fail
  refine (ht.out _).mono ?_
  rintro r w2 ⟨rfl, hk⟩
  go_wp2_with fail
  go_ret
  exact ⟨rfl, hk⟩

/-- Whatever is no row of strings and not block b is as it was. -/
def Ots (b : Nat) (w w' : World) : Prop := ∀ (g : Nat) (T : TypeId) (cs : Array Value), T ≠ 9 → g ≠ b → Blk w g T cs → Blk w' g T cs
theorem Ots.refl (b : Nat) (w : World) : Ots b w w := fun _ _ _ _ _ h => h
theorem Ots.trans {b : Nat} {w w' w'' : World} (h : Ots b w w') (k : Ots b w' w'') : Ots b w w'' := fun g T cs h1 h2 hb => k g T cs h1 h2 (h g T cs h1 h2 hb)
theorem Ots.set {b : Nat} (w : World) (i : Nat) (v : Value) : Ots b w (w.setCell ⟨b, i, none⟩ v) := fun _ _ _ _ h2 hb => Blk.other hb h2 v
theorem Ots.kp {b : Nat} {w w' : World} (k : Kp [] w w') : Ots b w w' := fun _ _ _ _ _ hb => Blk.kp hb k (by simp)
theorem Ots.grown {b B n : Nat} {w w' : World} {v : Value} {xs : List Value} (hg : w.grownBy w' v.ownBlock) (hr : w.ownsRow B 9 1 v n xs) : Ots b w w' := by
  intro g T cs h1 _ hb
  refine (hg.block g hb.lt ?_).trans hb
  rcases hr.2 with ⟨rfl, _⟩ | ⟨g', cap, cur, rfl, _, hh, _⟩
  · simp [Value.ownBlock]
  · intro e
    simp [Value.ownBlock] at e
    subst e
    unfold Blk at hb
    rw [hb] at hh
    simp at hh
    exact h1 hh.2
theorem sinfo : (Tryz.prog.info? 9).map (fun i => (i.zero, i.size, i.bytes)) = some (some (.string ⟨#[]⟩), 1, 16) := by kernel_rfl
/-- The lines so far. -/
structure Lns (B ga : Nat) (v : Value) (n : Nat) (xs : List Value) (w : World) : Prop where
  blk : Blk w ga 37 #[v]
  row : w.ownsRow B 9 1 v n xs
  ne : v.ownBlock ≠ some ga
  lo : B ≤ ga
theorem Lns.kp {B ga n : Nat} {v : Value} {xs : List Value} {w w' : World} (h : Lns B ga v n xs w) (k : Kp [] w w') : Lns B ga v n xs w' :=
  ⟨h.blk.kp k (by simp), ownsRow_kp' h.row k, h.ne, h.lo⟩
theorem rep_c (w : World) : Calls Tryz.prog 45 #[.string ⟨#[32, 32]⟩, .int .i64 0] w fun e w' => e = .returned (.string ⟨#[]⟩) ∧ w' = w :=
  Tryz.strings_Repeat_zero _ w

theorem step_append_own {P : Program} {ops : Array Oper} {o : Oper} {a : Act} {w : World} {K : Act → World → Prop} {Q : Exit → Act → World → Prop} {E : Prop} (hg : o.guard = none) (s x : Operand) (t : TypeId)
    (ho : o.op = .call { callee := .builtin .append, args := #[s, x], argTypes := #[t, t] })
    (base : Nat) (e : TypeId) (i : TypeInfo) (z : Value) (size bytes : Nat) (ht : P.underlying t = some (.slice e)) (hi : P.info? e = some i) (hz : i.zero = some z)
    (hsize : i.size = size) (hby : i.bytes = bytes) (hzs : z.cells.size = size) (hsz : 0 < size)
    (v : Value) (n : Nat) (xs : List Value) (hs : a.eval s = v) (hown : w.ownsRow base e size v n xs)
    (ad : Addr) (m c : Nat) (news : List Value) (hx : a.eval x = .slice (some ad) m c) (hl : news.length = m * size) (hnews : ∀ j u, news[j]? = some u → w.cell? (ad.add j) = some u) (h1 : ∀ u ∈ news, u.oneCell' = true)
    (h63 : n + m ≤ maxLen) (hbytes : (n + m) * bytes ≤ 140737488355328) (hbase : base ≤ w.heap.size)
    (h : ∀ v' w', w'.ownsRow base e size v' (n + m) (xs ++ news) → w.grownBy w' v.ownBlock → K (a.put o.dst v') w') :
    if Region.wanted o (yielded ops a.tmps) = true then Oper.wp P o a w K Q else E := by
  have hw : Region.wanted o (yielded ops a.tmps) = true := by simp [Region.wanted, hg]
  rw [if_pos hw]
  exact wp_append_own w s x t ho base e i z size bytes ht hi hz hsize hby hzs hsz v n xs hs hown ad m c news hx hl hnews h1 h63 hbytes hbase (fun v' w' a b _ => h v' w' a b)

set_option maxRecDepth 100000 in
set_option maxHeartbeats 4000000 in
theorem collect_c (B ga n : Nat) (v : Value) (xs : List Value) (t : ByteArray) (w : World) (h : Lns B ga v n xs w) (hn : n ≤ 10) (ht : t.size ≤ 100) :
    Calls Tryz.prog 44 #[.int .i64 0, .string t, .pointer (some ⟨ga, 0, none⟩)] w fun e w' => e = .returned (.tuple #[]) ∧ (∃ v', Lns B ga v' (n + 1) (xs ++ [.string t]) w') ∧ Below B w w' ∧ Ots ga w w' := by
  obtain ⟨i0, hi, hz0, hz1, hz2⟩ := info_parts sinfo
  have hvs := slice_of h.row
  obtain ⟨va, vk, vc, rfl⟩ := hvs
  have c0 := h.blk.cell 0 (v := .slice va vk vc) rfl
  have f0 := h.blk.frozen 0
  have c1 := (h.blk.alloc (.cells #[.string t] 9)).cell 0 (v := .slice va vk vc) rfl
  have c2 : (w.alloc (.cells #[.string t] 9)).drew.cell? ⟨ga, 0, none⟩ = some (.slice va vk vc) := c1
  replace h := Lib.hid h
  have he : (⟨#[]⟩ : ByteArray) ++ t = t := by
    apply ByteArray.ext
    simp [ByteArray.data_append]
  have hR : Hid ((w.drew.alloc (.cells #[.string t] 9)).ownsRow B 9 1 (.slice va vk vc) n xs) := World.ownsRow.alloc (show w.drew.ownsRow B 9 1 (.slice va vk vc) n xs from h.out.row) _
  have hnew : Hid (∀ (j : Nat) (u : Value), ([.string t] : List Value)[j]? = some u → (w.drew.alloc (.cells #[.string t] 9)).cell? ((⟨w.heap.size, 0, none⟩ : Addr).add j) = some u) := by
    show ∀ _ _, _
    intro j u hj
    match j, hj with
    | 0, hj => exact (Blk.new w.drew 9 #[.string t]).cell 0 hj
    | j + 1, hj => simp at hj
  have hone : Hid (∀ u ∈ ([.string t] : List Value), u.oneCell' = true) := by
    show ∀ _ _, _
    simp [Value.oneCell']
  have hBw : Hid (B ≤ (w.drew.alloc (.cells #[.string t] 9)).heap.size) := by
    show _ ≤ _
    have h1 := h.out.lo; have h2 := h.out.blk.lt
    rw [World.size_alloc]
    show B ≤ w.heap.size + 1
    omega
  have hbk : Hid ((w.drew.alloc (.cells #[.string t] 9)).heap[ga]? = some (.cells #[.slice va vk vc] 37 (0, 0))) := blk_alloc (show w.drew.heap[ga]? = _ from h.out.blk)
  have hne : Hid ((Value.slice va vk vc).ownBlock ≠ some ga) := h.out.ne
  have hsz : t.size ≤ 9223372036854775807 := by omega
  have hq : ¬ 9223372036854775807 < t.size := by omega
  go_enter Tryz.func44, Tryz.ntmps44
  go_wp2_with fail
  go_region_law (first
    | (refine step_append_own rfl (.tmp 5) (.tmp 10) 37 rfl B 9 i0 _ 1 16 Tryz.underlying37 hi hz0 hz1 hz2 rfl (by decide) (.slice va vk vc) n xs rfl hR.out ⟨w.heap.size, 0, none⟩ 1 1 [.string t] rfl rfl hnew.out hone.out (by unfold maxLen; omega) (by omega) hBw.out ?_; intro v' w2 hown' hgrow; obtain ⟨a', n', c', rfl⟩ := slice_of hown'; have hb2 := blk_grown hbk.out hgrow hne.out; have d1 : w2.cell? ⟨ga, 0, none⟩ = some (.slice va vk vc) := (by simp [World.cell?, hb2]); have f1 : w2.frozen? ⟨ga, 0, none⟩ = false := (by simp [World.frozen?, hb2]); replace hb2 := Lib.hid hb2; replace hown' := Lib.hid hown'; replace hgrow := Lib.hid hgrow)
    | (go_simp; go_at_call 45; refine (rep_c _).mono ?_; rintro r w' ⟨rfl, rfl⟩))
  all_goals
    go_wp2_with fail
    go_end0
    have hne2 := Lib.ownBlock_ne hown'.out hb2.out (by decide : (37 : TypeId) ≠ 9)
    refine ⟨rfl, ⟨_, Blk.set hb2.out 0 _, ?_, hne2, h.out.lo⟩, ?_, ?_⟩
    · exact hown'.out.kept (row := some ga) ⟨rfl, rfl, rfl, by simp [World.setCell], fun k _ hk => Below.heap_setCell _ _ _ _ (fun e => hk (by simp [e]))⟩ (Or.inr hne2)
    · exact ((((Below.refl B w).drew).alloc (by have h1 := h.out.lo; have h2 := h.out.blk.lt; show B ≤ w.heap.size; omega) _).grown hgrow.out hBw.out (fun k hk => (hR.out.lt k hk).1)).setCell (p := ⟨ga, 0, none⟩) h.out.lo _
    · exact ((Ots.kp (((Kp.refl [] w).drew).alloc _)).trans (Ots.grown hgrow.out hR.out)).trans (Ots.set _ _ _)
end Go.Proofs.YtebmaclopkocgaaGreatDoor
