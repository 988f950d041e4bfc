import Derived.Test.YtebmaclopkocgaaGreatDoorSz6
import Derived.Test.YtebmaclopkocgaaGreatDoorTx6
import Derived.LoopTactic
set_option linter.unusedSimpArgs false
set_option linter.unusedVariables false
namespace Go.Proofs.YtebmaclopkocgaaGreatDoor
open Go.RowKit

/- The shape of an expression as the reference asks for it. -/
theorem shp_2 (kind m : Int) (s f : ByteArray) (args : List Ex) : shpB (.mk 2 kind m s f args) = (((args.length : Int) == 0 && (kind == 0 && m == 0)) && isNameS s && emB f) := by
  simp only [shpB, Ex.op, Ex.kind, Ex.num, Ex.s, Ex.field, Ex.args]
  rw [nat_eq0]
  generalize (kind == 0) = a
  generalize (m == 0) = b
  generalize isNameS s = c
  generalize isNameS f = c'
  generalize emB f = x
  generalize emB s = x'
  generalize (args.length == 0) = y
  cases a <;> cases b <;> cases c <;> cases c' <;> cases x <;> cases x' <;> cases y <;> simp
theorem shp_3 (kind m : Int) (s f : ByteArray) (args : List Ex) : shpB (.mk 3 kind m s f args) = (((args.length : Int) == 0 && (kind == 0 && m == 0)) && isNameS s && isNameS f) := by
  simp only [shpB, Ex.op, Ex.kind, Ex.num, Ex.s, Ex.field, Ex.args]
  rw [nat_eq0]
  generalize (kind == 0) = a
  generalize (m == 0) = b
  generalize isNameS s = c
  generalize isNameS f = c'
  generalize emB f = x
  generalize emB s = x'
  generalize (args.length == 0) = y
  cases a <;> cases b <;> cases c <;> cases c' <;> cases x <;> cases x' <;> cases y <;> simp
theorem shp_4 (kind m : Int) (s f : ByteArray) (args : List Ex) : shpB (.mk 4 kind m s f args) = (((args.length : Int) == 1 && (kind == 0 && m == 0)) && isNameS s && emB f) := by
  simp only [shpB, Ex.op, Ex.kind, Ex.num, Ex.s, Ex.field, Ex.args]
  rw [nat_eq1]
  generalize (kind == 0) = a
  generalize (m == 0) = b
  generalize isNameS s = c
  generalize isNameS f = c'
  generalize emB f = x
  generalize emB s = x'
  generalize (args.length == 1) = y
  cases a <;> cases b <;> cases c <;> cases c' <;> cases x <;> cases x' <;> cases y <;> simp
theorem shp_6 (kind m : Int) (s f : ByteArray) (args : List Ex) : shpB (.mk 6 kind m s f args) = (((args.length : Int) == 1 && (kind == 0 && m == 0)) && emB s && emB f) := by
  simp only [shpB, Ex.op, Ex.kind, Ex.num, Ex.s, Ex.field, Ex.args]
  rw [nat_eq1]
  generalize (kind == 0) = a
  generalize (m == 0) = b
  generalize isNameS s = c
  generalize isNameS f = c'
  generalize emB f = x
  generalize emB s = x'
  generalize (args.length == 1) = y
  cases a <;> cases b <;> cases c <;> cases c' <;> cases x <;> cases x' <;> cases y <;> simp
theorem shp_7 (kind m : Int) (s f : ByteArray) (args : List Ex) : shpB (.mk 7 kind m s f args) = (((args.length : Int) == 1 && (kind == 0 && m == 0)) && emB s && emB f) := by
  simp only [shpB, Ex.op, Ex.kind, Ex.num, Ex.s, Ex.field, Ex.args]
  rw [nat_eq1]
  generalize (kind == 0) = a
  generalize (m == 0) = b
  generalize isNameS s = c
  generalize isNameS f = c'
  generalize emB f = x
  generalize emB s = x'
  generalize (args.length == 1) = y
  cases a <;> cases b <;> cases c <;> cases c' <;> cases x <;> cases x' <;> cases y <;> simp
theorem shp_5 (kind m : Int) (s f : ByteArray) (args : List Ex) : shpB (.mk 5 kind m s f args) = (((args.length : Int) == (args.length : Int) && (kind == 0 && m == 0)) && isNameS s && emB f) := by
  simp only [shpB, Ex.op, Ex.kind, Ex.num, Ex.s, Ex.field, Ex.args]
  rw [beq_self_eq_true]
  generalize (kind == 0) = a
  generalize (m == 0) = b
  generalize isNameS s = c
  generalize emB f = x
  cases a <;> cases b <;> cases c <;> cases x <;> simp
theorem shp_two (op kind m : Int) (h8 : 8 ≤ op) (h21 : op ≤ 21) (s f : ByteArray) (args : List Ex) : shpB (.mk op kind m s f args) = (true && (((args.length : Int) == 2 && (kind == 0 && m == 0)) && emB s && emB f)) := by
  have h1 : ¬ op = 1 := by omega
  have h2 : ¬ op = 2 := by omega
  have h3 : ¬ op = 3 := by omega
  have h4 : ¬ op = 4 := by omega
  have h5 : ¬ op = 5 := by omega
  have h6a : ¬ op = 6 := by omega
  have h6b : ¬ op = 7 := by omega
  have h6 : ¬ (op = 6 ∨ op = 7) := by omega
  have h7 : 8 ≤ op ∧ op ≤ 21 := ⟨h8, h21⟩
  have b3 : (op == 3) = false := by simpa using h3
  simp only [shpB, Ex.op, Ex.kind, Ex.num, Ex.s, Ex.field, Ex.args, if_neg h1, if_neg h2, if_neg h3, if_neg h4, if_neg h5, if_neg h6, if_pos h7, b3]
  rw [nat_eq2]
  generalize (kind == 0) = a
  generalize (m == 0) = b
  generalize emB f = x
  generalize emB s = x'
  generalize (args.length == 2) = y
  cases a <;> cases b <;> cases x <;> cases x' <;> cases y <;> simp [h2, h3, h4, h5, h6a, h6b, h8, h21]
theorem shp_none (op kind m : Int) (h : op < 1 ∨ 21 < op) (s f : ByteArray) (args : List Ex) (c : Bool) : shpB (.mk op kind m s f args) = (false && c) := by
  have h1 : ¬ op = 1 := by omega
  have h2 : ¬ op = 2 := by omega
  have h3 : ¬ op = 3 := by omega
  have h4 : ¬ op = 4 := by omega
  have h5 : ¬ op = 5 := by omega
  have h6a : ¬ op = 6 := by omega
  have h6b : ¬ op = 7 := by omega
  have h7 : 8 ≤ op → ¬ op ≤ 21 := by omega
  simp [shpB, Ex.op, Ex.kind, Ex.num, Ex.s, Ex.field, Ex.args, h1, h2, h3, h4, h5, h6a, h6b]
  intros; exact if_neg (by omega)
theorem shp_1 (kind m : Int) (s f : ByteArray) (args : List Ex) (b : Bool) (hb : conB kind m = b) : shpB (.mk 1 kind m s f args) = (b && (((args.length : Int) == 0) && emB s && emB f)) := by
  rw [nat_eq0, ← hb]
  show (conB kind m && emB s && emB f && args.length == 0) = _
  generalize emB f = x
  generalize emB s = x'
  generalize (args.length == 0) = y
  generalize conB kind m = z
  cases z <;> cases x <;> cases x' <;> cases y <;> simp

def SzC (e : Ex) : Prop := ∀ (w0 w : World) (g : Nat) (n dp d : Int) (v : Value), exsSl w0 v e.args → Kp [] w0 w → w0.heap.size ≤ g → Sz w g n dp false → 0 ≤ n → n ≤ 500 → 0 ≤ d → d ≤ 15 → e.fits →
  Calls Tryz.prog 16 #[.pointer (some ⟨g, 0, none⟩), exVal e v, .int .i64 d] w (SzRes g (okE e d n) (n + e.cnt) w)
def SzLC (es : List Ex) : Prop := ∀ (w0 w : World) (g : Nat) (n dp d : Int) (v : Value), exsSl w0 v es → Kp [] w0 w → w0.heap.size ≤ g → Sz w g n dp false → 0 ≤ n → n ≤ 500 → 0 ≤ d → d ≤ 15 → fitsL es →
  Calls Tryz.prog 35 #[.pointer (some ⟨g, 0, none⟩), v, .int .i64 d] w (SzRes g (okL es d n) (n + cntL es) w)

set_option maxRecDepth 100000 in
theorem exprsWrong_c (g : Nat) (n dp d : Int) (q : Option Addr) (len cap : Nat) (w : World) (hS : Sz w g n dp true) :
    Calls Tryz.prog 35 #[.pointer (some ⟨g, 0, none⟩), .slice q len cap, .int .i64 d] w (fun r w' => r = .returned (.tuple #[]) ∧ w' = w) := by
  have c2 := Blk.cell hS 2 (v := .bool true) rfl
  replace hS := Lib.hid hS
  go_enter Tryz.func35, Tryz.ntmps35
  go_wp2
  go_loopw [6] (fun i wr => i = .int .i64 0 ∧ wr = w) (fun _ _ => 0)
  case atStart => exact ⟨rfl, rfl⟩
  case round =>
    obtain ⟨rfl, rfl⟩ := hrel
    by_cases h : 0 < len
    · go_wp2_with fail
      go_end0
      exact ⟨rfl, rfl⟩
    · go_wp2_with fail
      go_end0
      exact ⟨rfl, rfl⟩
end Go.Proofs.YtebmaclopkocgaaGreatDoor
