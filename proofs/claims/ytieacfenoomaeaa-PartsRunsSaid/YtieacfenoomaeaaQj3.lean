import Derived.Test.YtieacfenoomaeaaQj2
import Derived.Test.YtieacfenoomaeaaQg7
set_option linter.unusedSimpArgs false
set_option linter.unusedVariables false
namespace Go.Proofs.Ytieacfenoomaeaa
open Go.RowKit Go.Shelf

/-- A block by its number: what partOf gives for it, and what its execution does. -/
structure Part (i K n : Nat) (L : List (ByteArray × Int × Int)) : Prop where
  enters : ∀ (args : Array Value) (w : World), (callFunc K args).run Try.prog w = .ok (.enter K args) w
  len : L.length = n
  le : n ≤ 6
  ins : kindsF [1] L = kinIn i
  io : (kindsF [1, 2] L).length = ioN i
  of : ∀ zs, areV (kin i) zs = true → ∀ W v, Is W v zs → Calls Try.prog 30 #[.string (nmb i), v] W fun r w' => ∃ g, r = .returned (.tuple #[partV g n K (f6 zs), .int .i64 0]) ∧ VarsAt w' g L ∧ Kp [] W w'
  run : ∀ zs now, areV (kin i) zs = true → isT now = true → ∀ W, Calls Try.prog K #[(f6 zs).v, .int .i64 now] W (FrRes (stF i (f6 zs) now) W)
theorem part_ton : Part 0 49 6 timerL :=
  ⟨fun _ _ => by kernel_rfl, rfl, by decide, rfl, rfl, fun zs hv W v hz => partOf_6 ⟨#[116, 111, 110]⟩ 0 49 78 timerL kind_ton zs hv rfl W v hz, fun zs now hv ht W => run_ton hv ht W⟩
theorem part_tof : Part 1 50 6 timerL :=
  ⟨fun _ _ => by kernel_rfl, rfl, by decide, rfl, rfl, fun zs hv W v hz => partOf_6 ⟨#[116, 111, 102]⟩ 1 50 78 timerL kind_tof zs hv rfl W v hz, fun zs now hv ht W => run_tof hv ht W⟩
theorem part_tp : Part 2 51 6 timerL :=
  ⟨fun _ _ => by kernel_rfl, rfl, by decide, rfl, rfl, fun zs hv W v hz => partOf_6 ⟨#[116, 112]⟩ 2 51 78 timerL kind_tp zs hv rfl W v hz, fun zs now hv ht W => run_tp hv ht W⟩
theorem part_ctu : Part 3 52 6 ctuL :=
  ⟨fun _ _ => by kernel_rfl, rfl, by decide, rfl, rfl, fun zs hv W v hz => partOf_6 ⟨#[99, 116, 117]⟩ 3 52 79 ctuL kind_ctu zs hv rfl W v hz, fun zs now hv ht W => run_ctu hv ht W⟩
theorem part_ctd : Part 4 53 6 ctdL :=
  ⟨fun _ _ => by kernel_rfl, rfl, by decide, rfl, rfl, fun zs hv W v hz => partOf_6 ⟨#[99, 116, 100]⟩ 4 53 80 ctdL kind_ctd zs hv rfl W v hz, fun zs now hv ht W => run_ctd hv ht W⟩
theorem part_sr : Part 5 54 3 srL :=
  ⟨fun _ _ => by kernel_rfl, rfl, by decide, rfl, rfl, fun zs hv W v hz => partOf_3 ⟨#[115, 114]⟩ 5 54 81 srL kind_sr zs hv rfl W v hz, fun zs now hv ht W => run_sr hv ht W⟩
theorem part_rs : Part 6 55 3 rsL :=
  ⟨fun _ _ => by kernel_rfl, rfl, by decide, rfl, rfl, fun zs hv W v hz => partOf_3 ⟨#[114, 115]⟩ 6 55 82 rsL kind_rs zs hv rfl W v hz, fun zs now hv ht W => run_rs hv ht W⟩
theorem part_rtrig : Part 7 56 3 edgeL :=
  ⟨fun _ _ => by kernel_rfl, rfl, by decide, rfl, rfl, fun zs hv W v hz => partOf_3 ⟨#[114, 116, 114, 105, 103]⟩ 7 56 83 edgeL kind_rtrig zs hv rfl W v hz, fun zs now hv ht W => run_rtrig hv ht W⟩
theorem part_ftrig : Part 8 57 3 edgeL :=
  ⟨fun _ _ => by kernel_rfl, rfl, by decide, rfl, rfl, fun zs hv W v hz => partOf_3 ⟨#[102, 116, 114, 105, 103]⟩ 8 57 83 edgeL kind_ftrig zs hv rfl W v hz, fun zs now hv ht W => run_ftrig hv ht W⟩
theorem part_c (i : Nat) (hi : i < 9) : ∃ K n L, Part i K n L := by
  rcases (show i = 0 ∨ i = 1 ∨ i = 2 ∨ i = 3 ∨ i = 4 ∨ i = 5 ∨ i = 6 ∨ i = 7 ∨ i = 8 by omega) with rfl | rfl | rfl | rfl | rfl | rfl | rfl | rfl | rfl
  · exact ⟨_, _, _, part_ton⟩
  · exact ⟨_, _, _, part_tof⟩
  · exact ⟨_, _, _, part_tp⟩
  · exact ⟨_, _, _, part_ctu⟩
  · exact ⟨_, _, _, part_ctd⟩
  · exact ⟨_, _, _, part_sr⟩
  · exact ⟨_, _, _, part_rs⟩
  · exact ⟨_, _, _, part_rtrig⟩
  · exact ⟨_, _, _, part_ftrig⟩
/-- A frame of a block, behind an execution. -/
theorem f6_list (x : F6) : f6 x.list = x := rfl
theorem f6_stp {i : Nat} (hi : i < 9) {zs : List Int} (hv : areV (kin i) zs = true) (t : Int) : f6 (stp i zs t) = stF i (f6 zs) t := by
  rcases (show i = 0 ∨ i = 1 ∨ i = 2 ∨ i = 3 ∨ i = 4 ∨ i = 5 ∨ i = 6 ∨ i = 7 ∨ i = 8 by omega) with rfl | rfl | rfl | rfl | rfl | rfl | rfl | rfl | rfl
  all_goals first | rfl | (obtain ⟨z0, z1, z2, rfl, -, -, -⟩ := three_of (show areV [1, 1, 1] zs = true from hv); rfl)
theorem six_len {zs : List Int} (h : zs.length = 6) : ∃ a b c d e f, zs = [a, b, c, d, e, f] := by
  match zs, h with
  | [a, b, c, d, e, f], _ => exact ⟨a, b, c, d, e, f, rfl⟩
theorem three_len {zs : List Int} (h : zs.length = 3) : ∃ a b c, zs = [a, b, c] := by
  match zs, h with
  | [a, b, c], _ => exact ⟨a, b, c, rfl⟩
theorem kin_len {i : Nat} (hi : i < 9) : (kin i).length = 6 ∨ (kin i).length = 3 := by
  by_cases h : i < 5
  · exact .inl (kin6 h)
  · rw [kin3 (by omega)]; exact .inr rfl
theorem inN_le {i : Nat} (hi : i < 9) : 0 < inN i ∧ inN i ≤ 3 ∧ inN i ≤ ioN i ∧ ioN i ≤ (kin i).length := by
  rcases (show i = 0 ∨ i = 1 ∨ i = 2 ∨ i = 3 ∨ i = 4 ∨ i = 5 ∨ i = 6 ∨ i = 7 ∨ i = 8 by omega) with rfl | rfl | rfl | rfl | rfl | rfl | rfl | rfl | rfl <;> decide
/-- A row of inputs laid over a frame. -/
theorem f6_over {row zk : List Int} (hr : row.length ≤ 3) (hz : zk.length = 6 ∨ zk.length = 3) : row.map (Value.int .i64) ++ (f6 zk).cells.toList.drop row.length = (f6 (row ++ zk.drop row.length)).cells.toList := by
  match row, hr with
  | [], _ => rfl
  | [a], _ => rcases hz with h | h; · obtain ⟨_, _, _, _, _, _, rfl⟩ := six_len h; rfl
              · obtain ⟨_, _, _, rfl⟩ := three_len h; rfl
  | [a, b], _ => rcases hz with h | h; · obtain ⟨_, _, _, _, _, _, rfl⟩ := six_len h; rfl
                 · obtain ⟨_, _, _, rfl⟩ := three_len h; rfl
  | [a, b, c], _ => rcases hz with h | h; · obtain ⟨_, _, _, _, _, _, rfl⟩ := six_len h; rfl
                    · obtain ⟨_, _, _, rfl⟩ := three_len h; rfl
/-- The outputs, as they lie in a frame. -/
theorem out_frame {i : Nat} (hi : i < 9) {zk : List Int} (h : zk.length = (kin i).length) : ((f6 zk).list.drop (inN i)).take (ioN i - inN i) = outN i zk := by
  obtain ⟨h1, h2, h3, h4⟩ := inN_le hi
  have hl : (f6 zk).list.take zk.length = zk := by
    rcases kin_len hi with h5 | h5
    · obtain ⟨_, _, _, _, _, _, rfl⟩ := six_len (h.trans h5); rfl
    · obtain ⟨_, _, _, rfl⟩ := three_len (h.trans h5); rfl
  unfold outN
  rw [← List.drop_take, ← List.drop_take]
  have : (f6 zk).list.take (ioN i) = zk.take (ioN i) := by
    conv => rhs; rw [← hl, List.take_take, Nat.min_eq_left (by omega)]
  rw [this]

/-- What Run gives where there is an error. -/
def RunErr (n : Int) (w : World) (r : Ending) (w' : World) : Prop := r = .returned (.tuple #[.slice none 0 0, .int .i64 n]) ∧ Kp [] w w'
set_option maxRecDepth 100000 in
set_option maxHeartbeats 1000000 in
theorem run_err_no (k : ByteArray) (v vI vT : Value) (w : World) (hP : Hid (Calls Try.prog 30 #[.string k, v] w fun r w' => r = .returned (.tuple #[noPart, .int .i64 6]) ∧ Kp [] w w')) :
    Calls Try.prog 24 #[.string k, v, vI, vT] w (RunErr 6 w) := by
  go_enter Try.func24, Try.ntmps24
  go_wp2_with fail
  refine hP.out.mono ?_
  rintro r w1 ⟨rfl, hk1⟩
  unfold noPart
  go_wp2
  go_ret2
  exact ⟨rfl, hk1.alloc _⟩
set_option maxRecDepth 100000 in
set_option maxHeartbeats 1000000 in
theorem run_err_bad (k : ByteArray) (v vI vT : Value) (w : World) (hP : Hid (Calls Try.prog 30 #[.string k, v] w fun r w' => r = .returned (.tuple #[noPart, .int .i64 2]) ∧ Kp [] w w')) :
    Calls Try.prog 24 #[.string k, v, vI, vT] w (RunErr 2 w) := by
  go_enter Try.func24, Try.ntmps24
  go_wp2_with fail
  refine hP.out.mono ?_
  rintro r w1 ⟨rfl, hk1⟩
  unfold noPart
  go_wp2
  go_ret2
  exact ⟨rfl, hk1.alloc _⟩
end Go.Proofs.Ytieacfenoomaeaa
