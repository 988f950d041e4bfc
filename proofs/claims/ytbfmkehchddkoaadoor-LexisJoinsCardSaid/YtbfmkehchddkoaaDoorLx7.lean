import Derived.Test.YtbfmkehchddkoaaDoorLx6
namespace Go.Proofs.YtbfmkehchddkoaaDoor
open Go.RowKit

def parseS (s : ByteArray) (lim : Nat) : Bool := match Lib.parseUintB 64 s.data.toList with | .ok u => decide (u ≤ lim) | _ => false
def isNumS (s : ByteArray) (lim : Nat) : Bool := !(decide (1 < s.size) && s.data.toList.head? == some 48) && parseS s lim

theorem parse_ok (s : ByteArray) (u : Nat) (w : World) (hs : s.size ≤ 140737488355328) (h : Lib.parseUintB 64 s.data.toList = .ok u) :
    Calls Tryd.prog 66 #[.string s, .int .i64 10, .int .i64 64] w fun e w' => e = .returned (.tuple #[.int .u64 u, .nilIface]) ∧ Kp [] w w' := by
  refine (Tryd.strconv_ParseUint_10_at64_ok s (by omega) u h w).mono fun e w' ⟨he, hw⟩ => ⟨he, ?_⟩
  rcases hw with rfl | rfl
  · exact Kp.refl _ _
  · exact Kp.of_below (Lib.bytesWorld_below _ _ _)
theorem parse_no (s : ByteArray) (w : World) (hA : Amb w) (hs : s.size ≤ 140737488355328) (h : ∀ u, Lib.parseUintB 64 s.data.toList ≠ .ok u) :
    Calls Tryd.prog 66 #[.string s, .int .i64 10, .int .i64 64] w fun e w' => ∃ (u : Nat) (T : TypeId) (p : Value), e = .returned (.tuple #[.int .u64 u, .iface T p]) ∧ Kp [] w w' := by
  obtain ⟨_, ⟨t1, p1, h1⟩, ⟨t2, p2, h2⟩, _⟩ := hA
  cases hp : Lib.parseUintB 64 s.data.toList
  all_goals first
    | exact absurd hp (h _)
    | exact (Tryd.strconv_ParseUint_10_at64_range s (by omega) hp _ w h2 (.inr ⟨_, _, rfl⟩)).mono fun e w' ⟨N, he, _, _, hb⟩ => ⟨18446744073709551615, _, _, he, Kp.of_below hb⟩
    | exact (Any.strconv_ParseUint_10_at64_syntax Tryd.laysPu14 s (by omega) hp _ w h1 (.inr ⟨_, _, rfl⟩)).mono fun e w' ⟨N, he, _, _, hb⟩ => ⟨0, _, _, he, Kp.of_below hb⟩

theorem parse_cases (s : ByteArray) : (∃ u, Lib.parseUintB 64 s.data.toList = .ok u) ∨ ∀ u, Lib.parseUintB 64 s.data.toList ≠ .ok u := by
  cases hp : Lib.parseUintB 64 s.data.toList
  all_goals first
    | exact .inl ⟨_, rfl⟩
    | exact .inr (fun u e => by cases e)
theorem parseS_ok {s : ByteArray} {u : Nat} (lim : Nat) (h : Lib.parseUintB 64 s.data.toList = .ok u) : parseS s lim = decide (u ≤ lim) := by rw [parseS, h]
theorem parseS_no {s : ByteArray} (lim : Nat) (h : ∀ u, Lib.parseUintB 64 s.data.toList ≠ .ok u) : parseS s lim = false := by
  rw [parseS]; split
  · exact absurd ‹_› (h _)
  · rfl

theorem numeral_c (s : ByteArray) (lim : Nat) (w : World) (hA : Amb w) (hs : s.size ≤ 140737488355328) :
    Calls Tryd.prog 48 #[.string s, .int .u64 lim] w fun e w' => e = .returned (.bool (isNumS s lim)) ∧ Kp [] w w' := by
  by_cases h1 : 1 < s.size
  · have g1 : decide ((1 : Int) < (s.size : Int)) = true := by simp; omega
    have hc : s.data.toList.head? = some s[0] := by rw [list_head s (by omega)]; rfl
    have hc := Lib.hid hc
    cases hz : ((s[0].toNat : Int) == 48)
    · have hN : Hid (isNumS s lim = parseS s lim) := by
        show _ = _
        rw [isNumS, hc.out]
        have : (some s[0] == some (48 : UInt8)) = false := by
          simp at hz ⊢
          intro e; rw [e] at hz; simp at hz
        simp [this]
      rcases parse_cases s with ⟨u, hp⟩ | hp
      · have hN2 := Lib.hid (hN.out.trans (parseS_ok lim hp))
        have hp := Lib.hid hp
        go_enter Tryd.func48, Tryd.ntmps48
        go_wp2_with (go_at_call 66; refine (parse_ok s u _ hs hp.out).mono ?_; rintro e w' ⟨rfl, hk⟩)
        go_ret
        exact ⟨ret_bool hN2.out.symm, hk⟩
      · have hN2 := Lib.hid (hN.out.trans (parseS_no lim hp))
        have hp := Lib.hid hp
        go_enter Tryd.func48, Tryd.ntmps48
        go_wp2_with (go_at_call 66; refine (parse_no s _ hA hs hp.out).mono ?_; rintro e w' ⟨u, T, p, rfl, hk⟩)
        go_ret
        exact ⟨ret_bool hN2.out.symm, hk⟩
    · have hN : Hid (isNumS s lim = false) := by
        show _ = _
        rw [isNumS, hc.out]
        have : s[0] = 48 := UInt8.toNat_inj.1 (by simp at hz; show s[0].toNat = 48; omega)
        simp [this, h1]
      go_enter Tryd.func48, Tryd.ntmps48
      go_wp2_with fail
      go_ret
      exact ⟨ret_bool hN.out.symm, Kp.refl _ _⟩
  · have g1 : decide ((1 : Int) < (s.size : Int)) = false := by simp; omega
    have hN : Hid (isNumS s lim = parseS s lim) := by show _ = _; simp [isNumS, h1]
    rcases parse_cases s with ⟨u, hp⟩ | hp
    · have hN2 := Lib.hid (hN.out.trans (parseS_ok lim hp))
      have hp := Lib.hid hp
      go_enter Tryd.func48, Tryd.ntmps48
      go_wp2_with (go_at_call 66; refine (parse_ok s u _ hs hp.out).mono ?_; rintro e w' ⟨rfl, hk⟩)
      go_ret
      exact ⟨ret_bool hN2.out.symm, hk⟩
    · have hN2 := Lib.hid (hN.out.trans (parseS_no lim hp))
      have hp := Lib.hid hp
      go_enter Tryd.func48, Tryd.ntmps48
      go_wp2_with (go_at_call 66; refine (parse_no s _ hA hs hp.out).mono ?_; rintro e w' ⟨u, T, p, rfl, hk⟩)
      go_ret
      exact ⟨ret_bool hN2.out.symm, hk⟩

def isAddrS (s : ByteArray) : Bool :=
  match s.data.toList with
  | c :: d :: _ => ((c.toNat : Int) == 37) && (((d.toNat : Int) == 105) || ((d.toNat : Int) == 113) || ((d.toNat : Int) == 109)) && isNumS (s.extract 2 s.size) 63
  | _ => false

theorem list_two' (l : List UInt8) (h : 2 ≤ l.length) : l = l[0] :: l[1] :: l.drop 2 := by
  match l, h with
  | c :: d :: l, _ => rfl
theorem list_two (s : ByteArray) (h : 2 ≤ s.size) : s.data.toList = s[0] :: s[1] :: s.data.toList.drop 2 := by
  have hl : 2 ≤ s.data.toList.length := by simpa using h
  exact list_two' _ hl
theorem addrS_two {s : ByteArray} (h : 2 ≤ s.size) : isAddrS s = (((s[0].toNat : Int) == 37) && (((s[1].toNat : Int) == 105) || ((s[1].toNat : Int) == 113) || ((s[1].toNat : Int) == 109)) && isNumS (s.extract 2 s.size) 63) := by
  rw [isAddrS, list_two s h]
theorem addrS_one {s : ByteArray} (h : s.size < 2) : isAddrS s = false := by
  have hl : s.data.toList.length < 2 := by simpa using h
  rw [isAddrS]
  generalize s.data.toList = l at hl
  match l, hl with
  | [], _ => rfl
  | [c], _ => rfl

theorem addr_c (s : ByteArray) (w : World) (hA : Amb w) (hs : s.size ≤ 140737488355328) :
    Calls Tryd.prog 26 #[.string s] w fun e w' => e = .returned (.bool (isAddrS s)) ∧ Kp [] w w' := by
  by_cases h1 : s.size < 2
  · have g1 : decide ((s.size : Int) < 2) = true := by simp; omega
    have hN := Lib.hid (addrS_one h1)
    go_enter Tryd.func26, Tryd.ntmps26
    go_wp2_with fail
    go_ret
    exact ⟨ret_bool hN.out.symm, Kp.refl _ _⟩
  · have g1 : decide ((s.size : Int) < 2) = false := by simp; omega
    have l2 : 2 ≤ s.size := by omega
    have hN := Lib.hid (addrS_two l2)
    have hx : (s.extract 2 s.size).size ≤ 140737488355328 := by simp; omega
    go_enter Tryd.func26, Tryd.ntmps26
    go_wp2_with (go_at_call 48; refine (numeral_c _ 63 _ hA hx).mono ?_; rintro e w' ⟨rfl, hk⟩)
    all_goals go_ret
    all_goals first
      | exact ⟨ret_bool (by rw [hN.out]; simp_all), hk⟩
      | exact ⟨ret_bool (by rw [hN.out]; simp_all), Kp.refl _ _⟩
end Go.Proofs.YtbfmkehchddkoaaDoor
