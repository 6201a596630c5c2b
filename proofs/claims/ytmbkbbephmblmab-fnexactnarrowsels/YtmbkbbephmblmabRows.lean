/-
  No cell of these rows narrows 'for every input' (looked for: loops, veiled, ifaces, maps, wideKeys, modest, calm, conditions, laid).
  DERIVED. THE GIVEN ROWS OF THIS SEAT. 6 by the template 'for every input the law returns true; each argument reads behind the call as it read before'; 0 by the template 'total and deterministic' (their statements: YtmbkbbephmblmabTotals.lean).
  GIVEN WITH THE SEED: the statements are not yours to turn. If you find one false, say at which input.
  Laid BY PROGRAM, IN A SANDBOX (cutbox-rows.mjs): the forced cells as the released guide's own fill.sh prints them over the translation 0b53bfcb15a200b2… (all of the seat's roots in one cut). By AI agents, Wed Nov 11 2026. No macro, syntax, notation, axiom, sorry.
-/
import Derived.Test.YtmbkbbephmblmabChecked
import GoSem.Claim
import GoSem.ClaimJoined
import GoSem.ClaimMapViews
import Derived.JoinedTies
import Derived.KernelRfl
namespace Go.Proofs.Ytmbkbbephmblmab
/- THE CELL 'sum', in the pinned program and in every row, IS THE sha256 OF THE DUMP (.gsa) THAT YtmbkbbephmblmabProg.lean LOADS. Nothing in Lean hashes anything: it is a label: what it is worth is what the hold of that sum in a sandbox is worth. -/
noncomputable def Try.pinned : Pinned := { name := "ytmbkbbephmblmab", sum := "0b53bfcb15a200b2480cba09af857bd8e5e376c49e1d781efc7837ed3e35227d", checked := Try.checked }
namespace Rows
def none {H : Type} : Left H := { results := [], args := [] }

/-- 'laws.FnExactWithinSel': WHATEVER THE INPUT: true; the input reads as it did. -/
def fnExactWithinSelSpec : ChangeSpec := { name := "fnExactWithinSel", fn := fun _ => fun
  | [d1, d2] => { results := [.lit (.bool true)], args := [d1, d2] }
  | _ => none }
def fnExactWithinSelRow : OpenClaim := { program := "ytmbkbbephmblmab", sum := "0b53bfcb15a200b2480cba09af857bd8e5e376c49e1d781efc7837ed3e35227d", func := "loop.example/g00205/laws.FnExactWithinSel", spec := "fnExactWithinSel", apart := false }
def FnExactWithinSelSaid : Prop := fnExactWithinSelRow.holds Try.pinned (OpenSpec.ofChange fnExactWithinSelSpec)

/-- ITS FALSE NEIGHBOUR: 'it returns false'. Refute it at one input. -/
def fnExactWithinSelWrong : ChangeSpec := { name := "fnExactWithinSel", fn := fun _ => fun
  | [d1, d2] => { results := [.lit (.bool false)], args := [d1, d2] }
  | _ => none }
def FnExactWithinSelWrongFalsely : Prop := fnExactWithinSelRow.holds Try.pinned (OpenSpec.ofChange fnExactWithinSelWrong)

/-- 'laws.FnExactSelsFault': WHATEVER THE INPUT: true; the input reads as it did. -/
def fnExactSelsFaultSpec : ChangeSpec := { name := "fnExactSelsFault", fn := fun _ => fun
  | [d] => { results := [.lit (.bool true)], args := [d] }
  | _ => none }
def fnExactSelsFaultRow : OpenClaim := { program := "ytmbkbbephmblmab", sum := "0b53bfcb15a200b2480cba09af857bd8e5e376c49e1d781efc7837ed3e35227d", func := "loop.example/g00205/laws.FnExactSelsFault", spec := "fnExactSelsFault", apart := false }
def FnExactSelsFaultSaid : Prop := fnExactSelsFaultRow.holds Try.pinned (OpenSpec.ofChange fnExactSelsFaultSpec)

/-- ITS FALSE NEIGHBOUR: 'it returns false'. Refute it at one input. -/
def fnExactSelsFaultWrong : ChangeSpec := { name := "fnExactSelsFault", fn := fun _ => fun
  | [d] => { results := [.lit (.bool false)], args := [d] }
  | _ => none }
def FnExactSelsFaultWrongFalsely : Prop := fnExactSelsFaultRow.holds Try.pinned (OpenSpec.ofChange fnExactSelsFaultWrong)

/-- 'laws.FnExactHoldsAny': WHATEVER THE INPUT: true; the input reads as it did. -/
def fnExactHoldsAnySpec : ChangeSpec := { name := "fnExactHoldsAny", fn := fun _ => fun
  | [d1, d2] => { results := [.lit (.bool true)], args := [d1, d2] }
  | _ => none }
def fnExactHoldsAnyRow : OpenClaim := { program := "ytmbkbbephmblmab", sum := "0b53bfcb15a200b2480cba09af857bd8e5e376c49e1d781efc7837ed3e35227d", func := "loop.example/g00205/laws.FnExactHoldsAny", spec := "fnExactHoldsAny", apart := false }
def FnExactHoldsAnySaid : Prop := fnExactHoldsAnyRow.holds Try.pinned (OpenSpec.ofChange fnExactHoldsAnySpec)

/-- ITS FALSE NEIGHBOUR: 'it returns false'. Refute it at one input. -/
def fnExactHoldsAnyWrong : ChangeSpec := { name := "fnExactHoldsAny", fn := fun _ => fun
  | [d1, d2] => { results := [.lit (.bool false)], args := [d1, d2] }
  | _ => none }
def FnExactHoldsAnyWrongFalsely : Prop := fnExactHoldsAnyRow.holds Try.pinned (OpenSpec.ofChange fnExactHoldsAnyWrong)

/-- 'laws.FnExactNarrowSels': WHATEVER THE INPUT: true; the input reads as it did. -/
def fnExactNarrowSelsSpec : ChangeSpec := { name := "fnExactNarrowSels", fn := fun _ => fun
  | [d1, d2] => { results := [.lit (.bool true)], args := [d1, d2] }
  | _ => none }
def fnExactNarrowSelsRow : OpenClaim := { program := "ytmbkbbephmblmab", sum := "0b53bfcb15a200b2480cba09af857bd8e5e376c49e1d781efc7837ed3e35227d", func := "loop.example/g00205/laws.FnExactNarrowSels", spec := "fnExactNarrowSels", apart := false }
def FnExactNarrowSelsSaid : Prop := fnExactNarrowSelsRow.holds Try.pinned (OpenSpec.ofChange fnExactNarrowSelsSpec)

/-- ITS FALSE NEIGHBOUR: 'it returns false'. Refute it at one input. -/
def fnExactNarrowSelsWrong : ChangeSpec := { name := "fnExactNarrowSels", fn := fun _ => fun
  | [d1, d2] => { results := [.lit (.bool false)], args := [d1, d2] }
  | _ => none }
def FnExactNarrowSelsWrongFalsely : Prop := fnExactNarrowSelsRow.holds Try.pinned (OpenSpec.ofChange fnExactNarrowSelsWrong)

/-- 'laws.FnExactReverseSel': WHATEVER THE INPUT: true; the input reads as it did. -/
def fnExactReverseSelSpec : ChangeSpec := { name := "fnExactReverseSel", fn := fun _ => fun
  | [d] => { results := [.lit (.bool true)], args := [d] }
  | _ => none }
def fnExactReverseSelRow : OpenClaim := { program := "ytmbkbbephmblmab", sum := "0b53bfcb15a200b2480cba09af857bd8e5e376c49e1d781efc7837ed3e35227d", func := "loop.example/g00205/laws.FnExactReverseSel", spec := "fnExactReverseSel", apart := false }
def FnExactReverseSelSaid : Prop := fnExactReverseSelRow.holds Try.pinned (OpenSpec.ofChange fnExactReverseSelSpec)

/-- ITS FALSE NEIGHBOUR: 'it returns false'. Refute it at one input. -/
def fnExactReverseSelWrong : ChangeSpec := { name := "fnExactReverseSel", fn := fun _ => fun
  | [d] => { results := [.lit (.bool false)], args := [d] }
  | _ => none }
def FnExactReverseSelWrongFalsely : Prop := fnExactReverseSelRow.holds Try.pinned (OpenSpec.ofChange fnExactReverseSelWrong)

/-- 'laws.FnExactAnySel': WHATEVER THE INPUT: true; the input reads as it did. -/
def fnExactAnySelSpec : ChangeSpec := { name := "fnExactAnySel", fn := fun _ => fun
  | [d] => { results := [.lit (.bool true)], args := [d] }
  | _ => none }
def fnExactAnySelRow : OpenClaim := { program := "ytmbkbbephmblmab", sum := "0b53bfcb15a200b2480cba09af857bd8e5e376c49e1d781efc7837ed3e35227d", func := "loop.example/g00205/laws.FnExactAnySel", spec := "fnExactAnySel", apart := false }
def FnExactAnySelSaid : Prop := fnExactAnySelRow.holds Try.pinned (OpenSpec.ofChange fnExactAnySelSpec)

/-- ITS FALSE NEIGHBOUR: 'it returns false'. Refute it at one input. -/
def fnExactAnySelWrong : ChangeSpec := { name := "fnExactAnySel", fn := fun _ => fun
  | [d] => { results := [.lit (.bool false)], args := [d] }
  | _ => none }
def FnExactAnySelWrongFalsely : Prop := fnExactAnySelRow.holds Try.pinned (OpenSpec.ofChange fnExactAnySelWrong)

/- THE SECOND FORM. 'bulk': how many values and letters a reading holds, each counted each time it is reached (what is shared counts as often as it is met; a slice's spare places count too). A statement '..UptoSaid' is the law's where the arguments, and the package variables that the reading takes, are together of bulk at most 1048576: NARROWER than '..Said'. Prove '..Said' where nothing that the law and all that it calls make is longer than what came in: it says more and counts as full. Else prove '..UptoSaid'. A law counts once. -/
mutual
def uptoBulk {H : Type} : DataW H → Nat
  | .lit (.string bytes) => bytes.length + 1
  | .lit _ => 1
  | .nil => 1
  | .ptr d => uptoBulk d + 1
  | .slice elems spare => uptoBulkAll elems + uptoBulkAll spare + 1
  | .agg parts => uptoBulkAll parts + 1
  | .iface _ d => uptoBulk d + 1
  | .map entries => uptoBulkEntries entries + 1
  | .held _ => 1
def uptoBulkAll {H : Type} : List (DataW H) → Nat
  | [] => 0
  | d :: r => uptoBulk d + uptoBulkAll r
def uptoBulkEntries {H : Type} : List (Lit × DataW H) → Nat
  | [] => 0
  | x :: r => uptoBulkEntry x + uptoBulkEntries r
def uptoBulkEntry {H : Type} : Lit × DataW H → Nat
  | (.string bytes, d) => bytes.length + uptoBulk d + 1
  | (_, d) => uptoBulk d + 1
 end
def uptoSmall : (H : Type) → List (DataW H) → Bool := fun _ ds => decide (uptoBulkAll ds ≤ 1048576)
def OpenSpec.upto (s : _root_.Go.ChangeSpec) : _root_.Go.OpenSpec := { _root_.Go.OpenSpec.ofChange s with cond := some uptoSmall }

/-- 'laws.FnExactWithinSel', WHERE WHAT IT READS IS OF BULK AT MOST 1048576: true; the input reads as it did. -/
def fnExactWithinSelUptoRow : OpenClaim := { program := "ytmbkbbephmblmab", sum := "0b53bfcb15a200b2480cba09af857bd8e5e376c49e1d781efc7837ed3e35227d", func := "loop.example/g00205/laws.FnExactWithinSel", spec := "fnExactWithinSel", apart := false, narrowed := true }
def FnExactWithinSelUptoSaid : Prop := fnExactWithinSelUptoRow.holds Try.pinned (OpenSpec.upto fnExactWithinSelSpec)

/-- 'laws.FnExactSelsFault', WHERE WHAT IT READS IS OF BULK AT MOST 1048576: true; the input reads as it did. -/
def fnExactSelsFaultUptoRow : OpenClaim := { program := "ytmbkbbephmblmab", sum := "0b53bfcb15a200b2480cba09af857bd8e5e376c49e1d781efc7837ed3e35227d", func := "loop.example/g00205/laws.FnExactSelsFault", spec := "fnExactSelsFault", apart := false, narrowed := true }
def FnExactSelsFaultUptoSaid : Prop := fnExactSelsFaultUptoRow.holds Try.pinned (OpenSpec.upto fnExactSelsFaultSpec)

/-- 'laws.FnExactHoldsAny', WHERE WHAT IT READS IS OF BULK AT MOST 1048576: true; the input reads as it did. -/
def fnExactHoldsAnyUptoRow : OpenClaim := { program := "ytmbkbbephmblmab", sum := "0b53bfcb15a200b2480cba09af857bd8e5e376c49e1d781efc7837ed3e35227d", func := "loop.example/g00205/laws.FnExactHoldsAny", spec := "fnExactHoldsAny", apart := false, narrowed := true }
def FnExactHoldsAnyUptoSaid : Prop := fnExactHoldsAnyUptoRow.holds Try.pinned (OpenSpec.upto fnExactHoldsAnySpec)

/-- 'laws.FnExactNarrowSels', WHERE WHAT IT READS IS OF BULK AT MOST 1048576: true; the input reads as it did. -/
def fnExactNarrowSelsUptoRow : OpenClaim := { program := "ytmbkbbephmblmab", sum := "0b53bfcb15a200b2480cba09af857bd8e5e376c49e1d781efc7837ed3e35227d", func := "loop.example/g00205/laws.FnExactNarrowSels", spec := "fnExactNarrowSels", apart := false, narrowed := true }
def FnExactNarrowSelsUptoSaid : Prop := fnExactNarrowSelsUptoRow.holds Try.pinned (OpenSpec.upto fnExactNarrowSelsSpec)

/-- 'laws.FnExactReverseSel', WHERE WHAT IT READS IS OF BULK AT MOST 1048576: true; the input reads as it did. -/
def fnExactReverseSelUptoRow : OpenClaim := { program := "ytmbkbbephmblmab", sum := "0b53bfcb15a200b2480cba09af857bd8e5e376c49e1d781efc7837ed3e35227d", func := "loop.example/g00205/laws.FnExactReverseSel", spec := "fnExactReverseSel", apart := false, narrowed := true }
def FnExactReverseSelUptoSaid : Prop := fnExactReverseSelUptoRow.holds Try.pinned (OpenSpec.upto fnExactReverseSelSpec)

/-- 'laws.FnExactAnySel', WHERE WHAT IT READS IS OF BULK AT MOST 1048576: true; the input reads as it did. -/
def fnExactAnySelUptoRow : OpenClaim := { program := "ytmbkbbephmblmab", sum := "0b53bfcb15a200b2480cba09af857bd8e5e376c49e1d781efc7837ed3e35227d", func := "loop.example/g00205/laws.FnExactAnySel", spec := "fnExactAnySel", apart := false, narrowed := true }
def FnExactAnySelUptoSaid : Prop := fnExactAnySelUptoRow.holds Try.pinned (OpenSpec.upto fnExactAnySelSpec)

end Rows
end Go.Proofs.Ytmbkbbephmblmab
