/-
  No cell of these rows narrows 'for every input' (looked for: loops, veiled, ifaces, maps, wideKeys, modest, calm, conditions, laid).
  DERIVED. THE GIVEN ROWS OF THIS SEAT. 7 by the template 'for every input the law returns true; each argument reads behind the call as it read before'; 0 by the template 'total and deterministic' (their statements: YtieacfenoomaeaaTotals.lean).
  GIVEN WITH THE SEED: the statements are not yours to turn. If you find one false, say at which input.
  Laid BY PROGRAM, IN A SANDBOX (cutbox-rows.mjs): the forced cells as the released guide's own fill.sh prints them over the translation 615d555cda9cf60d… (all of the seat's roots in one cut). By AI agents, Wed Nov 11 2026. No macro, syntax, notation, axiom, sorry.
-/
import Derived.Test.YtieacfenoomaeaaChecked
import GoSem.Claim
import GoSem.ClaimJoined
import GoSem.ClaimMapViews
import Derived.JoinedTies
import Derived.KernelRfl
namespace Go.Proofs.Ytieacfenoomaeaa
/- THE CELL 'sum', in the pinned program and in every row, IS THE sha256 OF THE DUMP (.gsa) THAT YtieacfenoomaeaaProg.lean LOADS. Nothing in Lean hashes anything: it is a label: what it is worth is what the hold of that sum in a sandbox is worth. -/
noncomputable def Try.pinned : Pinned := { name := "ytieacfenoomaeaa", sum := "615d555cda9cf60d8a42e54f4247100ca0cccb4407bf6be4e4d84961a8ea7cbc", checked := Try.checked }
namespace Rows
def none {H : Type} : Left H := { results := [], args := [] }

/-- 'winchlaw12.PartsScans': WHATEVER THE INPUT: true; the input reads as it did. -/
def partsScansSpec : ChangeSpec := { name := "partsScans", fn := fun _ => fun
  | [d1, d2, d3] => { results := [.lit (.bool true)], args := [d1, d2, d3] }
  | _ => none }
def partsScansRow : OpenClaim := { program := "ytieacfenoomaeaa", sum := "615d555cda9cf60d8a42e54f4247100ca0cccb4407bf6be4e4d84961a8ea7cbc", func := "winch/winchlaw12.PartsScans", spec := "partsScans", unfollowed := true, recurses := true, apart := false }
def PartsScansSaid : Prop := partsScansRow.holds Try.pinned (OpenSpec.ofChange partsScansSpec)

/-- ITS FALSE NEIGHBOUR: 'it returns false'. Refute it at one input. -/
def partsScansWrong : ChangeSpec := { name := "partsScans", fn := fun _ => fun
  | [d1, d2, d3] => { results := [.lit (.bool false)], args := [d1, d2, d3] }
  | _ => none }
def PartsScansWrongFalsely : Prop := partsScansRow.holds Try.pinned (OpenSpec.ofChange partsScansWrong)

/-- 'winchlaw12.PartsRuns': WHATEVER THE INPUT: true; the input reads as it did. -/
def partsRunsSpec : ChangeSpec := { name := "partsRuns", fn := fun _ => fun
  | [d1, d2, d3, d4] => { results := [.lit (.bool true)], args := [d1, d2, d3, d4] }
  | _ => none }
def partsRunsRow : OpenClaim := { program := "ytieacfenoomaeaa", sum := "615d555cda9cf60d8a42e54f4247100ca0cccb4407bf6be4e4d84961a8ea7cbc", func := "winch/winchlaw12.PartsRuns", spec := "partsRuns", unfollowed := true, recurses := true, apart := false }
def PartsRunsSaid : Prop := partsRunsRow.holds Try.pinned (OpenSpec.ofChange partsRunsSpec)

/-- ITS FALSE NEIGHBOUR: 'it returns false'. Refute it at one input. -/
def partsRunsWrong : ChangeSpec := { name := "partsRuns", fn := fun _ => fun
  | [d1, d2, d3, d4] => { results := [.lit (.bool false)], args := [d1, d2, d3, d4] }
  | _ => none }
def PartsRunsWrongFalsely : Prop := partsRunsRow.holds Try.pinned (OpenSpec.ofChange partsRunsWrong)

/-- 'winchlaw12.PartsTwice': WHATEVER THE INPUT: true; the input reads as it did. -/
def partsTwiceSpec : ChangeSpec := { name := "partsTwice", fn := fun _ => fun
  | [d1, d2, d3] => { results := [.lit (.bool true)], args := [d1, d2, d3] }
  | _ => none }
def partsTwiceRow : OpenClaim := { program := "ytieacfenoomaeaa", sum := "615d555cda9cf60d8a42e54f4247100ca0cccb4407bf6be4e4d84961a8ea7cbc", func := "winch/winchlaw12.PartsTwice", spec := "partsTwice", unfollowed := true, recurses := true, apart := false }
def PartsTwiceSaid : Prop := partsTwiceRow.holds Try.pinned (OpenSpec.ofChange partsTwiceSpec)

/-- ITS FALSE NEIGHBOUR: 'it returns false'. Refute it at one input. -/
def partsTwiceWrong : ChangeSpec := { name := "partsTwice", fn := fun _ => fun
  | [d1, d2, d3] => { results := [.lit (.bool false)], args := [d1, d2, d3] }
  | _ => none }
def PartsTwiceWrongFalsely : Prop := partsTwiceRow.holds Try.pinned (OpenSpec.ofChange partsTwiceWrong)

/-- 'winchlaw12.PartsTimers': WHATEVER THE INPUT: true; the input reads as it did. -/
def partsTimersSpec : ChangeSpec := { name := "partsTimers", fn := fun _ => fun
  | [d1, d2, d3] => { results := [.lit (.bool true)], args := [d1, d2, d3] }
  | _ => none }
def partsTimersRow : OpenClaim := { program := "ytieacfenoomaeaa", sum := "615d555cda9cf60d8a42e54f4247100ca0cccb4407bf6be4e4d84961a8ea7cbc", func := "winch/winchlaw12.PartsTimers", spec := "partsTimers", unfollowed := true, recurses := true, apart := false }
def PartsTimersSaid : Prop := partsTimersRow.holds Try.pinned (OpenSpec.ofChange partsTimersSpec)

/-- ITS FALSE NEIGHBOUR: 'it returns false'. Refute it at one input. -/
def partsTimersWrong : ChangeSpec := { name := "partsTimers", fn := fun _ => fun
  | [d1, d2, d3] => { results := [.lit (.bool false)], args := [d1, d2, d3] }
  | _ => none }
def PartsTimersWrongFalsely : Prop := partsTimersRow.holds Try.pinned (OpenSpec.ofChange partsTimersWrong)

/-- 'winchlaw12.PartsDelay': WHATEVER THE INPUT: true; the input reads as it did. -/
def partsDelaySpec : ChangeSpec := { name := "partsDelay", fn := fun _ => fun
  | [d1, d2] => { results := [.lit (.bool true)], args := [d1, d2] }
  | _ => none }
def partsDelayRow : OpenClaim := { program := "ytieacfenoomaeaa", sum := "615d555cda9cf60d8a42e54f4247100ca0cccb4407bf6be4e4d84961a8ea7cbc", func := "winch/winchlaw12.PartsDelay", spec := "partsDelay", unfollowed := true, recurses := true, apart := false }
def PartsDelaySaid : Prop := partsDelayRow.holds Try.pinned (OpenSpec.ofChange partsDelaySpec)

/-- ITS FALSE NEIGHBOUR: 'it returns false'. Refute it at one input. -/
def partsDelayWrong : ChangeSpec := { name := "partsDelay", fn := fun _ => fun
  | [d1, d2] => { results := [.lit (.bool false)], args := [d1, d2] }
  | _ => none }
def PartsDelayWrongFalsely : Prop := partsDelayRow.holds Try.pinned (OpenSpec.ofChange partsDelayWrong)

/-- 'winchlaw12.PartsCounts': WHATEVER THE INPUT: true; the input reads as it did. -/
def partsCountsSpec : ChangeSpec := { name := "partsCounts", fn := fun _ => fun
  | [d1, d2] => { results := [.lit (.bool true)], args := [d1, d2] }
  | _ => none }
def partsCountsRow : OpenClaim := { program := "ytieacfenoomaeaa", sum := "615d555cda9cf60d8a42e54f4247100ca0cccb4407bf6be4e4d84961a8ea7cbc", func := "winch/winchlaw12.PartsCounts", spec := "partsCounts", unfollowed := true, recurses := true, apart := false }
def PartsCountsSaid : Prop := partsCountsRow.holds Try.pinned (OpenSpec.ofChange partsCountsSpec)

/-- ITS FALSE NEIGHBOUR: 'it returns false'. Refute it at one input. -/
def partsCountsWrong : ChangeSpec := { name := "partsCounts", fn := fun _ => fun
  | [d1, d2] => { results := [.lit (.bool false)], args := [d1, d2] }
  | _ => none }
def PartsCountsWrongFalsely : Prop := partsCountsRow.holds Try.pinned (OpenSpec.ofChange partsCountsWrong)

/-- 'winchlaw12.PartsWakes': WHATEVER THE INPUT: true; the input reads as it did. -/
def partsWakesSpec : ChangeSpec := { name := "partsWakes", fn := fun _ => fun
  | [d1, d2, d3, d4] => { results := [.lit (.bool true)], args := [d1, d2, d3, d4] }
  | _ => none }
def partsWakesRow : OpenClaim := { program := "ytieacfenoomaeaa", sum := "615d555cda9cf60d8a42e54f4247100ca0cccb4407bf6be4e4d84961a8ea7cbc", func := "winch/winchlaw12.PartsWakes", spec := "partsWakes", unfollowed := true, recurses := true, apart := false }
def PartsWakesSaid : Prop := partsWakesRow.holds Try.pinned (OpenSpec.ofChange partsWakesSpec)

/-- ITS FALSE NEIGHBOUR: 'it returns false'. Refute it at one input. -/
def partsWakesWrong : ChangeSpec := { name := "partsWakes", fn := fun _ => fun
  | [d1, d2, d3, d4] => { results := [.lit (.bool false)], args := [d1, d2, d3, d4] }
  | _ => none }
def PartsWakesWrongFalsely : Prop := partsWakesRow.holds Try.pinned (OpenSpec.ofChange partsWakesWrong)

/- THE SECOND FORM. 'bulk': how many values and letters a reading holds, each counted each time it is reached (what is shared counts as often as it is met; a slice's spare places count too). A statement '..UptoSaid' is the law's where the arguments, and the package variables that the reading takes, are together of bulk at most 1048576: NARROWER than '..Said'. Prove '..Said' where nothing that the law and all that it calls make is longer than what came in: it says more and counts as full. Else prove '..UptoSaid'. A law counts once. -/
mutual
def uptoBulk {H : Type} : DataW H → Nat
  | .lit (.string bytes) => bytes.length + 1
  | .lit _ => 1
  | .nil => 1
  | .ptr d => uptoBulk d + 1
  | .slice elems spare => uptoBulkAll elems + uptoBulkAll spare + 1
  | .agg parts => uptoBulkAll parts + 1
  | .iface _ d => uptoBulk d + 1
  | .map entries => uptoBulkEntries entries + 1
  | .held _ => 1
def uptoBulkAll {H : Type} : List (DataW H) → Nat
  | [] => 0
  | d :: r => uptoBulk d + uptoBulkAll r
def uptoBulkEntries {H : Type} : List (Lit × DataW H) → Nat
  | [] => 0
  | x :: r => uptoBulkEntry x + uptoBulkEntries r
def uptoBulkEntry {H : Type} : Lit × DataW H → Nat
  | (.string bytes, d) => bytes.length + uptoBulk d + 1
  | (_, d) => uptoBulk d + 1
 end
def uptoSmall : (H : Type) → List (DataW H) → Bool := fun _ ds => decide (uptoBulkAll ds ≤ 1048576)
def OpenSpec.upto (s : _root_.Go.ChangeSpec) : _root_.Go.OpenSpec := { _root_.Go.OpenSpec.ofChange s with cond := some uptoSmall }

/-- 'winchlaw12.PartsScans', WHERE WHAT IT READS IS OF BULK AT MOST 1048576: true; the input reads as it did. -/
def partsScansUptoRow : OpenClaim := { program := "ytieacfenoomaeaa", sum := "615d555cda9cf60d8a42e54f4247100ca0cccb4407bf6be4e4d84961a8ea7cbc", func := "winch/winchlaw12.PartsScans", spec := "partsScans", unfollowed := true, recurses := true, apart := false, narrowed := true }
def PartsScansUptoSaid : Prop := partsScansUptoRow.holds Try.pinned (OpenSpec.upto partsScansSpec)

/-- 'winchlaw12.PartsRuns', WHERE WHAT IT READS IS OF BULK AT MOST 1048576: true; the input reads as it did. -/
def partsRunsUptoRow : OpenClaim := { program := "ytieacfenoomaeaa", sum := "615d555cda9cf60d8a42e54f4247100ca0cccb4407bf6be4e4d84961a8ea7cbc", func := "winch/winchlaw12.PartsRuns", spec := "partsRuns", unfollowed := true, recurses := true, apart := false, narrowed := true }
def PartsRunsUptoSaid : Prop := partsRunsUptoRow.holds Try.pinned (OpenSpec.upto partsRunsSpec)

/-- 'winchlaw12.PartsTwice', WHERE WHAT IT READS IS OF BULK AT MOST 1048576: true; the input reads as it did. -/
def partsTwiceUptoRow : OpenClaim := { program := "ytieacfenoomaeaa", sum := "615d555cda9cf60d8a42e54f4247100ca0cccb4407bf6be4e4d84961a8ea7cbc", func := "winch/winchlaw12.PartsTwice", spec := "partsTwice", unfollowed := true, recurses := true, apart := false, narrowed := true }
def PartsTwiceUptoSaid : Prop := partsTwiceUptoRow.holds Try.pinned (OpenSpec.upto partsTwiceSpec)

/-- 'winchlaw12.PartsTimers', WHERE WHAT IT READS IS OF BULK AT MOST 1048576: true; the input reads as it did. -/
def partsTimersUptoRow : OpenClaim := { program := "ytieacfenoomaeaa", sum := "615d555cda9cf60d8a42e54f4247100ca0cccb4407bf6be4e4d84961a8ea7cbc", func := "winch/winchlaw12.PartsTimers", spec := "partsTimers", unfollowed := true, recurses := true, apart := false, narrowed := true }
def PartsTimersUptoSaid : Prop := partsTimersUptoRow.holds Try.pinned (OpenSpec.upto partsTimersSpec)

/-- 'winchlaw12.PartsDelay', WHERE WHAT IT READS IS OF BULK AT MOST 1048576: true; the input reads as it did. -/
def partsDelayUptoRow : OpenClaim := { program := "ytieacfenoomaeaa", sum := "615d555cda9cf60d8a42e54f4247100ca0cccb4407bf6be4e4d84961a8ea7cbc", func := "winch/winchlaw12.PartsDelay", spec := "partsDelay", unfollowed := true, recurses := true, apart := false, narrowed := true }
def PartsDelayUptoSaid : Prop := partsDelayUptoRow.holds Try.pinned (OpenSpec.upto partsDelaySpec)

/-- 'winchlaw12.PartsCounts', WHERE WHAT IT READS IS OF BULK AT MOST 1048576: true; the input reads as it did. -/
def partsCountsUptoRow : OpenClaim := { program := "ytieacfenoomaeaa", sum := "615d555cda9cf60d8a42e54f4247100ca0cccb4407bf6be4e4d84961a8ea7cbc", func := "winch/winchlaw12.PartsCounts", spec := "partsCounts", unfollowed := true, recurses := true, apart := false, narrowed := true }
def PartsCountsUptoSaid : Prop := partsCountsUptoRow.holds Try.pinned (OpenSpec.upto partsCountsSpec)

/-- 'winchlaw12.PartsWakes', WHERE WHAT IT READS IS OF BULK AT MOST 1048576: true; the input reads as it did. -/
def partsWakesUptoRow : OpenClaim := { program := "ytieacfenoomaeaa", sum := "615d555cda9cf60d8a42e54f4247100ca0cccb4407bf6be4e4d84961a8ea7cbc", func := "winch/winchlaw12.PartsWakes", spec := "partsWakes", unfollowed := true, recurses := true, apart := false, narrowed := true }
def PartsWakesUptoSaid : Prop := partsWakesUptoRow.holds Try.pinned (OpenSpec.upto partsWakesSpec)

end Rows
end Go.Proofs.Ytieacfenoomaeaa
