import Derived.Test.YtkdommlojboknaaEv16
namespace Go.Proofs.Ytkdommlojboknaa
open Go.RowKit

structure CallsYes (x : ByteArray) (m : Nat) (r R : Int) (ks : List Int) (q : Option Addr) (n c : Nat) (w : World) : Prop where
  len : ks.length = m
  small : m ≤ 10
  kinds : ∀ w : World, Calls Try.prog 17 #[.string x] w fun e w' => ∃ g, e = .returned (.tuple #[.slice (some ⟨g, 0, none⟩) m m, .int .i64 r, .int .i64 0]) ∧ Blk w' g 3 (ks.map (Value.int .i64)).toArray ∧ Gr w w'
  call : ∀ w', Gr w w' → Calls Try.prog 18 #[.string x, .slice q n c] w' fun e w'' => e = .returned (.tuple #[.int .i64 R, .int .i64 0]) ∧ Gr w' w''
  rkinds : ∀ w : World, Calls Try.prog 19 #[.string x] w fun e w' => ∃ h, e = .returned (.tuple #[.slice (some ⟨h, 0, none⟩) m m, .int .i64 r, .bool true]) ∧ Blk w' h 3 (ks.map (Value.int .i64)).toArray ∧ Gr w w'
  right : ∀ w' h, Gr w w' → Blk w' h 3 (ks.map (Value.int .i64)).toArray → Calls Try.prog 21 #[.slice (some ⟨h, 0, none⟩) m m, .slice q n c] w' fun e w'' => e = .returned (.bool true) ∧ w'' = w'
  rcall : ∀ w', Gr w w' → Calls Try.prog 22 #[.string x, .slice q n c] w' fun e w'' => e = .returned (.int .i64 R) ∧ Gr w' w''
structure CallsNo (x : ByteArray) (m : Nat) (r : Int) (ks : List Int) (q : Option Addr) (n c : Nat) (w : World) : Prop where
  len : ks.length = m
  small : m ≤ 10
  kinds : ∀ w : World, Calls Try.prog 17 #[.string x] w fun e w' => ∃ g, e = .returned (.tuple #[.slice (some ⟨g, 0, none⟩) m m, .int .i64 r, .int .i64 0]) ∧ Blk w' g 3 (ks.map (Value.int .i64)).toArray ∧ Gr w w'
  call : ∀ w', Gr w w' → Calls Try.prog 18 #[.string x, .slice q n c] w' fun e w'' => e = .returned (.tuple #[.int .i64 0, .int .i64 2]) ∧ Gr w' w''
  rkinds : ∀ w : World, Calls Try.prog 19 #[.string x] w fun e w' => ∃ h, e = .returned (.tuple #[.slice (some ⟨h, 0, none⟩) m m, .int .i64 r, .bool true]) ∧ Blk w' h 3 (ks.map (Value.int .i64)).toArray ∧ Gr w w'
  right : ∀ w' h, Gr w w' → Blk w' h 3 (ks.map (Value.int .i64)).toArray → Calls Try.prog 21 #[.slice (some ⟨h, 0, none⟩) m m, .slice q n c] w' fun e w'' => e = .returned (.bool false) ∧ w'' = w'
theorem blk_ints {w : World} {g n : Nat} {ks : List Int} (h : Blk w g 3 (ks.map (Value.int .i64)).toArray) (hn : ks.length = n) (w' : World) (k : Gr w w') (j : Nat) (hj : j < n) : w'.cell? ⟨g, j, none⟩ = some (.int .i64 (ks.getD j 0)) := by
  subst hn
  refine (h.kp k.kp (by simp)).cell j ?_
  simp [List.getD_eq_getElem?_getD, hj]

set_option maxRecDepth 100000 in
set_option maxHeartbeats 1000000 in
theorem calls_yes (x : ByteArray) (m : Nat) (r R : Int) (ks : List Int) (q : Option Addr) (N n c : Nat) (w : World) (_ : N ≤ c) (_ : c ≤ 9223372036854775807) (hmin : min (N : Int) 10 = (n : Int)) (hnc : n ≤ c) (H : CallsYes x m r R ks q n c w) :
    Calls Try.prog 4 #[.string x, .slice q N c] w fun e w' => e = .returned (.bool true) ∧ Gr w w' := by
  obtain ⟨hlen, hsm, hk, hca, hrk, hri, hrc⟩ := H
  replace hlen := Lib.hid hlen
  replace hk := Lib.hid hk
  replace hca := Lib.hid hca
  replace hrk := Lib.hid hrk
  replace hri := Lib.hid hri
  replace hrc := Lib.hid hrc
  go_enter Try.func4, Try.ntmps4
  go_wp2_with fail
  refine (hk.out _).mono ?_
  rintro e w1 ⟨g, rfl, hB1, hg1⟩
  replace hB1 := Lib.hid hB1
  go_wp2_with fail
  refine (hca.out _ hg1).mono ?_
  rintro e w2 ⟨rfl, hg2⟩
  go_wp2_with fail
  refine (hrk.out _).mono ?_
  rintro e w3 ⟨h, rfl, hB3, hg3⟩
  replace hB3 := Lib.hid hB3
  have hB13 := Lib.hid (hB1.out.kp (hg2.trans hg3).kp (by simp))
  go_wp2_with fail
  refine (sameInts_c g h m m m ks _ hlen (by omega) (blk_ints hB13.out hlen.out) (blk_ints hB3.out hlen.out)).mono ?_
  rintro e w4 ⟨rfl, hg4⟩
  go_wp2_with fail
  refine (hri.out _ h (((hg1.trans hg2).trans hg3).trans hg4) (hB3.out.kp hg4.kp (by simp))).mono ?_
  rintro e w' ⟨rfl, rfl⟩
  go_wp2_with fail
  refine (hrc.out _ (((hg1.trans hg2).trans hg3).trans hg4)).mono ?_
  rintro e w5 ⟨rfl, hg5⟩
  go_wp2_with fail
  refine (awake_c _).mono ?_
  rintro e w6 ⟨rfl, hg6⟩
  go_wp2_with fail
  go_ret
  exact ⟨rfl, ((((hg1.trans hg2).trans hg3).trans hg4).trans hg5).trans hg6⟩
set_option maxRecDepth 100000 in
set_option maxHeartbeats 1000000 in
theorem calls_no (x : ByteArray) (m : Nat) (r : Int) (ks : List Int) (q : Option Addr) (N n c : Nat) (w : World) (_ : N ≤ c) (_ : c ≤ 9223372036854775807) (hmin : min (N : Int) 10 = (n : Int)) (hnc : n ≤ c) (H : CallsNo x m r ks q n c w) :
    Calls Try.prog 4 #[.string x, .slice q N c] w fun e w' => e = .returned (.bool true) ∧ Gr w w' := by
  obtain ⟨hlen, hsm, hk, hca, hrk, hri⟩ := H
  replace hlen := Lib.hid hlen
  replace hk := Lib.hid hk
  replace hca := Lib.hid hca
  replace hrk := Lib.hid hrk
  replace hri := Lib.hid hri
  go_enter Try.func4, Try.ntmps4
  go_wp2_with fail
  refine (hk.out _).mono ?_
  rintro e w1 ⟨g, rfl, hB1, hg1⟩
  replace hB1 := Lib.hid hB1
  go_wp2_with fail
  refine (hca.out _ hg1).mono ?_
  rintro e w2 ⟨rfl, hg2⟩
  go_wp2_with fail
  refine (hrk.out _).mono ?_
  rintro e w3 ⟨h, rfl, hB3, hg3⟩
  replace hB3 := Lib.hid hB3
  have hB13 := Lib.hid (hB1.out.kp (hg2.trans hg3).kp (by simp))
  go_wp2_with fail
  refine (sameInts_c g h m m m ks _ hlen (by omega) (blk_ints hB13.out hlen.out) (blk_ints hB3.out hlen.out)).mono ?_
  rintro e w4 ⟨rfl, hg4⟩
  go_wp2_with fail
  refine (hri.out _ h (((hg1.trans hg2).trans hg3).trans hg4) (hB3.out.kp hg4.kp (by simp))).mono ?_
  rintro e w' ⟨rfl, rfl⟩
  go_wp2_with fail
  refine (awake_c _).mono ?_
  rintro e w6 ⟨rfl, hg6⟩
  go_wp2_with fail
  go_ret
  exact ⟨rfl, (((hg1.trans hg2).trans hg3).trans hg4).trans hg6⟩
set_option maxRecDepth 100000 in
set_option maxHeartbeats 1000000 in
theorem calls_none (x : ByteArray) (q : Option Addr) (N n c : Nat) (w : World) (_ : N ≤ c) (_ : c ≤ 9223372036854775807) (hmin : min (N : Int) 10 = (n : Int)) (hnc : n ≤ c)
    (hk : Hid (∀ w : World, Calls Try.prog 17 #[.string x] w fun e w' => e = .returned (.tuple #[.slice none 0 0, .int .i64 0, .int .i64 6]) ∧ Gr w w'))
    (hca : Hid (∀ w : World, Calls Try.prog 18 #[.string x, .slice q n c] w fun e w' => e = .returned (.tuple #[.int .i64 0, .int .i64 6]) ∧ Gr w w'))
    (hrk : Hid (∀ w : World, Calls Try.prog 19 #[.string x] w fun e w' => e = .returned (.tuple #[.slice none 0 0, .int .i64 0, .bool false]) ∧ w' = w)) :
    Calls Try.prog 4 #[.string x, .slice q N c] w fun e w' => e = .returned (.bool true) ∧ Gr w w' := by
  go_enter Try.func4, Try.ntmps4
  go_wp2_with fail
  refine (hk.out _).mono ?_
  rintro e w1 ⟨rfl, hg1⟩
  go_wp2_with fail
  refine (hca.out _).mono ?_
  rintro e w2 ⟨rfl, hg2⟩
  go_wp2_with fail
  refine (hrk.out _).mono ?_
  rintro e w3 ⟨rfl, rfl⟩
  go_wp2_with fail
  refine (awake_c _).mono ?_
  rintro e w6 ⟨rfl, hg6⟩
  go_wp2_with fail
  go_ret
  exact ⟨rfl, (hg1.trans hg2).trans hg6⟩
end Go.Proofs.Ytkdommlojboknaa
