/-
  No cell of these rows narrows 'for every input' (looked for: loops, veiled, ifaces, maps, wideKeys, modest, calm, conditions, laid).
  DERIVED. THE GIVEN ROWS OF THIS SEAT. 6 by the template 'for every input the law returns true; each argument reads behind the call as it read before'; 0 by the template 'total and deterministic' (their statements: YtmbkbbephmblmaaTotals.lean).
  GIVEN WITH THE SEED: the statements are not yours to turn. If you find one false, say at which input.
  Laid BY PROGRAM, IN A SANDBOX (cutbox-rows.mjs): the forced cells as the released guide's own fill.sh prints them over the translation 86e05e8d35a966e9… (all of the seat's roots in one cut). By AI agents, Wed Nov 11 2026. No macro, syntax, notation, axiom, sorry.
-/
import Derived.Test.YtmbkbbephmblmaaChecked
import GoSem.Claim
import GoSem.ClaimJoined
import GoSem.ClaimMapViews
import Derived.JoinedTies
import Derived.KernelRfl
namespace Go.Proofs.Ytmbkbbephmblmaa
/- THE CELL 'sum', in the pinned program and in every row, IS THE sha256 OF THE DUMP (.gsa) THAT YtmbkbbephmblmaaProg.lean LOADS. Nothing in Lean hashes anything: it is a label: what it is worth is what the hold of that sum in a sandbox is worth. -/
noncomputable def Try.pinned : Pinned := { name := "ytmbkbbephmblmaa", sum := "86e05e8d35a966e99be3d6dae39fa60e12ccb079314a92d863a074e29ab3614c", checked := Try.checked }
namespace Rows
def none {H : Type} : Left H := { results := [], args := [] }

/-- 'laws.FnMeets': WHATEVER THE INPUT: true; the input reads as it did. -/
def fnMeetsSpec : ChangeSpec := { name := "fnMeets", fn := fun _ => fun
  | [d] => { results := [.lit (.bool true)], args := [d] }
  | _ => none }
def fnMeetsRow : OpenClaim := { program := "ytmbkbbephmblmaa", sum := "86e05e8d35a966e99be3d6dae39fa60e12ccb079314a92d863a074e29ab3614c", func := "loop.example/g00205/laws.FnMeets", spec := "fnMeets", apart := false }
def FnMeetsSaid : Prop := fnMeetsRow.holds Try.pinned (OpenSpec.ofChange fnMeetsSpec)

/-- ITS FALSE NEIGHBOUR: 'it returns false'. Refute it at one input. -/
def fnMeetsWrong : ChangeSpec := { name := "fnMeets", fn := fun _ => fun
  | [d] => { results := [.lit (.bool false)], args := [d] }
  | _ => none }
def FnMeetsWrongFalsely : Prop := fnMeetsRow.holds Try.pinned (OpenSpec.ofChange fnMeetsWrong)

/-- 'laws.FnWithin': WHATEVER THE INPUT: true; the input reads as it did. -/
def fnWithinSpec : ChangeSpec := { name := "fnWithin", fn := fun _ => fun
  | [d] => { results := [.lit (.bool true)], args := [d] }
  | _ => none }
def fnWithinRow : OpenClaim := { program := "ytmbkbbephmblmaa", sum := "86e05e8d35a966e99be3d6dae39fa60e12ccb079314a92d863a074e29ab3614c", func := "loop.example/g00205/laws.FnWithin", spec := "fnWithin", apart := false }
def FnWithinSaid : Prop := fnWithinRow.holds Try.pinned (OpenSpec.ofChange fnWithinSpec)

/-- ITS FALSE NEIGHBOUR: 'it returns false'. Refute it at one input. -/
def fnWithinWrong : ChangeSpec := { name := "fnWithin", fn := fun _ => fun
  | [d] => { results := [.lit (.bool false)], args := [d] }
  | _ => none }
def FnWithinWrongFalsely : Prop := fnWithinRow.holds Try.pinned (OpenSpec.ofChange fnWithinWrong)

/-- 'laws.FnNarrows': WHATEVER THE INPUT: true; the input reads as it did. -/
def fnNarrowsSpec : ChangeSpec := { name := "fnNarrows", fn := fun _ => fun
  | [d] => { results := [.lit (.bool true)], args := [d] }
  | _ => none }
def fnNarrowsRow : OpenClaim := { program := "ytmbkbbephmblmaa", sum := "86e05e8d35a966e99be3d6dae39fa60e12ccb079314a92d863a074e29ab3614c", func := "loop.example/g00205/laws.FnNarrows", spec := "fnNarrows", apart := false }
def FnNarrowsSaid : Prop := fnNarrowsRow.holds Try.pinned (OpenSpec.ofChange fnNarrowsSpec)

/-- ITS FALSE NEIGHBOUR: 'it returns false'. Refute it at one input. -/
def fnNarrowsWrong : ChangeSpec := { name := "fnNarrows", fn := fun _ => fun
  | [d] => { results := [.lit (.bool false)], args := [d] }
  | _ => none }
def FnNarrowsWrongFalsely : Prop := fnNarrowsRow.holds Try.pinned (OpenSpec.ofChange fnNarrowsWrong)

/-- 'laws.FnExactSelFault': WHATEVER THE INPUT: true; the input reads as it did. -/
def fnExactSelFaultSpec : ChangeSpec := { name := "fnExactSelFault", fn := fun _ => fun
  | [d] => { results := [.lit (.bool true)], args := [d] }
  | _ => none }
def fnExactSelFaultRow : OpenClaim := { program := "ytmbkbbephmblmaa", sum := "86e05e8d35a966e99be3d6dae39fa60e12ccb079314a92d863a074e29ab3614c", func := "loop.example/g00205/laws.FnExactSelFault", spec := "fnExactSelFault", apart := false }
def FnExactSelFaultSaid : Prop := fnExactSelFaultRow.holds Try.pinned (OpenSpec.ofChange fnExactSelFaultSpec)

/-- ITS FALSE NEIGHBOUR: 'it returns false'. Refute it at one input. -/
def fnExactSelFaultWrong : ChangeSpec := { name := "fnExactSelFault", fn := fun _ => fun
  | [d] => { results := [.lit (.bool false)], args := [d] }
  | _ => none }
def FnExactSelFaultWrongFalsely : Prop := fnExactSelFaultRow.holds Try.pinned (OpenSpec.ofChange fnExactSelFaultWrong)

/-- 'laws.FnExactHolds': WHATEVER THE INPUT: true; the input reads as it did. -/
def fnExactHoldsSpec : ChangeSpec := { name := "fnExactHolds", fn := fun _ => fun
  | [d1, d2] => { results := [.lit (.bool true)], args := [d1, d2] }
  | _ => none }
def fnExactHoldsRow : OpenClaim := { program := "ytmbkbbephmblmaa", sum := "86e05e8d35a966e99be3d6dae39fa60e12ccb079314a92d863a074e29ab3614c", func := "loop.example/g00205/laws.FnExactHolds", spec := "fnExactHolds", apart := false }
def FnExactHoldsSaid : Prop := fnExactHoldsRow.holds Try.pinned (OpenSpec.ofChange fnExactHoldsSpec)

/-- ITS FALSE NEIGHBOUR: 'it returns false'. Refute it at one input. -/
def fnExactHoldsWrong : ChangeSpec := { name := "fnExactHolds", fn := fun _ => fun
  | [d1, d2] => { results := [.lit (.bool false)], args := [d1, d2] }
  | _ => none }
def FnExactHoldsWrongFalsely : Prop := fnExactHoldsRow.holds Try.pinned (OpenSpec.ofChange fnExactHoldsWrong)

/-- 'laws.FnExactMeetSels': WHATEVER THE INPUT: true; the input reads as it did. -/
def fnExactMeetSelsSpec : ChangeSpec := { name := "fnExactMeetSels", fn := fun _ => fun
  | [d1, d2] => { results := [.lit (.bool true)], args := [d1, d2] }
  | _ => none }
def fnExactMeetSelsRow : OpenClaim := { program := "ytmbkbbephmblmaa", sum := "86e05e8d35a966e99be3d6dae39fa60e12ccb079314a92d863a074e29ab3614c", func := "loop.example/g00205/laws.FnExactMeetSels", spec := "fnExactMeetSels", apart := false }
def FnExactMeetSelsSaid : Prop := fnExactMeetSelsRow.holds Try.pinned (OpenSpec.ofChange fnExactMeetSelsSpec)

/-- ITS FALSE NEIGHBOUR: 'it returns false'. Refute it at one input. -/
def fnExactMeetSelsWrong : ChangeSpec := { name := "fnExactMeetSels", fn := fun _ => fun
  | [d1, d2] => { results := [.lit (.bool false)], args := [d1, d2] }
  | _ => none }
def FnExactMeetSelsWrongFalsely : Prop := fnExactMeetSelsRow.holds Try.pinned (OpenSpec.ofChange fnExactMeetSelsWrong)

/- THE SECOND FORM. 'bulk': how many values and letters a reading holds, each counted each time it is reached (what is shared counts as often as it is met; a slice's spare places count too). A statement '..UptoSaid' is the law's where the arguments, and the package variables that the reading takes, are together of bulk at most 1048576: NARROWER than '..Said'. Prove '..Said' where nothing that the law and all that it calls make is longer than what came in: it says more and counts as full. Else prove '..UptoSaid'. A law counts once. -/
mutual
def uptoBulk {H : Type} : DataW H → Nat
  | .lit (.string bytes) => bytes.length + 1
  | .lit _ => 1
  | .nil => 1
  | .ptr d => uptoBulk d + 1
  | .slice elems spare => uptoBulkAll elems + uptoBulkAll spare + 1
  | .agg parts => uptoBulkAll parts + 1
  | .iface _ d => uptoBulk d + 1
  | .map entries => uptoBulkEntries entries + 1
  | .held _ => 1
def uptoBulkAll {H : Type} : List (DataW H) → Nat
  | [] => 0
  | d :: r => uptoBulk d + uptoBulkAll r
def uptoBulkEntries {H : Type} : List (Lit × DataW H) → Nat
  | [] => 0
  | x :: r => uptoBulkEntry x + uptoBulkEntries r
def uptoBulkEntry {H : Type} : Lit × DataW H → Nat
  | (.string bytes, d) => bytes.length + uptoBulk d + 1
  | (_, d) => uptoBulk d + 1
 end
def uptoSmall : (H : Type) → List (DataW H) → Bool := fun _ ds => decide (uptoBulkAll ds ≤ 1048576)
def OpenSpec.upto (s : _root_.Go.ChangeSpec) : _root_.Go.OpenSpec := { _root_.Go.OpenSpec.ofChange s with cond := some uptoSmall }

/-- 'laws.FnMeets', WHERE WHAT IT READS IS OF BULK AT MOST 1048576: true; the input reads as it did. -/
def fnMeetsUptoRow : OpenClaim := { program := "ytmbkbbephmblmaa", sum := "86e05e8d35a966e99be3d6dae39fa60e12ccb079314a92d863a074e29ab3614c", func := "loop.example/g00205/laws.FnMeets", spec := "fnMeets", apart := false, narrowed := true }
def FnMeetsUptoSaid : Prop := fnMeetsUptoRow.holds Try.pinned (OpenSpec.upto fnMeetsSpec)

/-- 'laws.FnWithin', WHERE WHAT IT READS IS OF BULK AT MOST 1048576: true; the input reads as it did. -/
def fnWithinUptoRow : OpenClaim := { program := "ytmbkbbephmblmaa", sum := "86e05e8d35a966e99be3d6dae39fa60e12ccb079314a92d863a074e29ab3614c", func := "loop.example/g00205/laws.FnWithin", spec := "fnWithin", apart := false, narrowed := true }
def FnWithinUptoSaid : Prop := fnWithinUptoRow.holds Try.pinned (OpenSpec.upto fnWithinSpec)

/-- 'laws.FnNarrows', WHERE WHAT IT READS IS OF BULK AT MOST 1048576: true; the input reads as it did. -/
def fnNarrowsUptoRow : OpenClaim := { program := "ytmbkbbephmblmaa", sum := "86e05e8d35a966e99be3d6dae39fa60e12ccb079314a92d863a074e29ab3614c", func := "loop.example/g00205/laws.FnNarrows", spec := "fnNarrows", apart := false, narrowed := true }
def FnNarrowsUptoSaid : Prop := fnNarrowsUptoRow.holds Try.pinned (OpenSpec.upto fnNarrowsSpec)

/-- 'laws.FnExactSelFault', WHERE WHAT IT READS IS OF BULK AT MOST 1048576: true; the input reads as it did. -/
def fnExactSelFaultUptoRow : OpenClaim := { program := "ytmbkbbephmblmaa", sum := "86e05e8d35a966e99be3d6dae39fa60e12ccb079314a92d863a074e29ab3614c", func := "loop.example/g00205/laws.FnExactSelFault", spec := "fnExactSelFault", apart := false, narrowed := true }
def FnExactSelFaultUptoSaid : Prop := fnExactSelFaultUptoRow.holds Try.pinned (OpenSpec.upto fnExactSelFaultSpec)

/-- 'laws.FnExactHolds', WHERE WHAT IT READS IS OF BULK AT MOST 1048576: true; the input reads as it did. -/
def fnExactHoldsUptoRow : OpenClaim := { program := "ytmbkbbephmblmaa", sum := "86e05e8d35a966e99be3d6dae39fa60e12ccb079314a92d863a074e29ab3614c", func := "loop.example/g00205/laws.FnExactHolds", spec := "fnExactHolds", apart := false, narrowed := true }
def FnExactHoldsUptoSaid : Prop := fnExactHoldsUptoRow.holds Try.pinned (OpenSpec.upto fnExactHoldsSpec)

/-- 'laws.FnExactMeetSels', WHERE WHAT IT READS IS OF BULK AT MOST 1048576: true; the input reads as it did. -/
def fnExactMeetSelsUptoRow : OpenClaim := { program := "ytmbkbbephmblmaa", sum := "86e05e8d35a966e99be3d6dae39fa60e12ccb079314a92d863a074e29ab3614c", func := "loop.example/g00205/laws.FnExactMeetSels", spec := "fnExactMeetSels", apart := false, narrowed := true }
def FnExactMeetSelsUptoSaid : Prop := fnExactMeetSelsUptoRow.holds Try.pinned (OpenSpec.upto fnExactMeetSelsSpec)

end Rows
end Go.Proofs.Ytmbkbbephmblmaa
