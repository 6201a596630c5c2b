/-
  No cell of these rows narrows 'for every input' (looked for: loops, veiled, ifaces, maps, wideKeys, modest, calm, conditions, laid).
  DERIVED. THE GIVEN ROWS OF THIS SEAT. 9 by the template 'for every input the law returns true; each argument reads behind the call as it read before'; 0 by the template 'total and deterministic' (their statements: YthaaompkcomfcaaTotals.lean).
  GIVEN WITH THE SEED: the statements are not yours to turn. If you find one false, say at which input.
  Laid BY PROGRAM, IN A SANDBOX (cutbox-rows.mjs): the forced cells as the released guide's own fill.sh prints them over the translation f5f76c79d056f1ff… (all of the seat's roots in one cut). By AI agents, Wed Nov 11 2026. No macro, syntax, notation, axiom, sorry.
-/
import Derived.Test.YthaaompkcomfcaaChecked
import GoSem.Claim
import GoSem.ClaimJoined
import GoSem.ClaimMapViews
import Derived.JoinedTies
import Derived.KernelRfl
namespace Go.Proofs.Ythaaompkcomfcaa
/- THE CELL 'sum', in the pinned program and in every row, IS THE sha256 OF THE DUMP (.gsa) THAT YthaaompkcomfcaaProg.lean LOADS. Nothing in Lean hashes anything: it is a label: what it is worth is what the hold of that sum in a sandbox is worth. -/
noncomputable def Try.pinned : Pinned := { name := "ythaaompkcomfcaa", sum := "f5f76c79d056f1ffc421e56088314fc5a753fde5821998b6c00efba1dd8b7616", checked := Try.checked }
namespace Rows
def none {H : Type} : Left H := { results := [], args := [] }

/-- 'laws.FnSuites': WHATEVER THE INPUT: true; the input reads as it did. -/
def fnSuitesSpec : ChangeSpec := { name := "fnSuites", fn := fun _ => fun
  | [d] => { results := [.lit (.bool true)], args := [d] }
  | _ => none }
def fnSuitesRow : OpenClaim := { program := "ythaaompkcomfcaa", sum := "f5f76c79d056f1ffc421e56088314fc5a753fde5821998b6c00efba1dd8b7616", func := "loop.example/g00205/laws.FnSuites", spec := "fnSuites", inPlace := ["math.Float64frombits"], unfollowed := true, recurses := true, apart := false }
def FnSuitesSaid : Prop := fnSuitesRow.holds Try.pinned (OpenSpec.ofChange fnSuitesSpec)

/-- ITS FALSE NEIGHBOUR: 'it returns false'. Refute it at one input. -/
def fnSuitesWrong : ChangeSpec := { name := "fnSuites", fn := fun _ => fun
  | [d] => { results := [.lit (.bool false)], args := [d] }
  | _ => none }
def FnSuitesWrongFalsely : Prop := fnSuitesRow.holds Try.pinned (OpenSpec.ofChange fnSuitesWrong)

/-- 'laws.FnExactSuiteFault': WHATEVER THE INPUT: true; the input reads as it did. -/
def fnExactSuiteFaultSpec : ChangeSpec := { name := "fnExactSuiteFault", fn := fun _ => fun
  | [d] => { results := [.lit (.bool true)], args := [d] }
  | _ => none }
def fnExactSuiteFaultRow : OpenClaim := { program := "ythaaompkcomfcaa", sum := "f5f76c79d056f1ffc421e56088314fc5a753fde5821998b6c00efba1dd8b7616", func := "loop.example/g00205/laws.FnExactSuiteFault", spec := "fnExactSuiteFault", apart := false }
def FnExactSuiteFaultSaid : Prop := fnExactSuiteFaultRow.holds Try.pinned (OpenSpec.ofChange fnExactSuiteFaultSpec)

/-- ITS FALSE NEIGHBOUR: 'it returns false'. Refute it at one input. -/
def fnExactSuiteFaultWrong : ChangeSpec := { name := "fnExactSuiteFault", fn := fun _ => fun
  | [d] => { results := [.lit (.bool false)], args := [d] }
  | _ => none }
def FnExactSuiteFaultWrongFalsely : Prop := fnExactSuiteFaultRow.holds Try.pinned (OpenSpec.ofChange fnExactSuiteFaultWrong)

/-- 'laws.FnExactSuitesFault': WHATEVER THE INPUT: true; the input reads as it did. -/
def fnExactSuitesFaultSpec : ChangeSpec := { name := "fnExactSuitesFault", fn := fun _ => fun
  | [d] => { results := [.lit (.bool true)], args := [d] }
  | _ => none }
def fnExactSuitesFaultRow : OpenClaim := { program := "ythaaompkcomfcaa", sum := "f5f76c79d056f1ffc421e56088314fc5a753fde5821998b6c00efba1dd8b7616", func := "loop.example/g00205/laws.FnExactSuitesFault", spec := "fnExactSuitesFault", apart := false }
def FnExactSuitesFaultSaid : Prop := fnExactSuitesFaultRow.holds Try.pinned (OpenSpec.ofChange fnExactSuitesFaultSpec)

/-- ITS FALSE NEIGHBOUR: 'it returns false'. Refute it at one input. -/
def fnExactSuitesFaultWrong : ChangeSpec := { name := "fnExactSuitesFault", fn := fun _ => fun
  | [d] => { results := [.lit (.bool false)], args := [d] }
  | _ => none }
def FnExactSuitesFaultWrongFalsely : Prop := fnExactSuitesFaultRow.holds Try.pinned (OpenSpec.ofChange fnExactSuitesFaultWrong)

/-- 'laws.FnExactChooseSuite': WHATEVER THE INPUT: true; the input reads as it did. -/
def fnExactChooseSuiteSpec : ChangeSpec := { name := "fnExactChooseSuite", fn := fun _ => fun
  | [d1, d2] => { results := [.lit (.bool true)], args := [d1, d2] }
  | _ => none }
def fnExactChooseSuiteRow : OpenClaim := { program := "ythaaompkcomfcaa", sum := "f5f76c79d056f1ffc421e56088314fc5a753fde5821998b6c00efba1dd8b7616", func := "loop.example/g00205/laws.FnExactChooseSuite", spec := "fnExactChooseSuite", apart := false }
def FnExactChooseSuiteSaid : Prop := fnExactChooseSuiteRow.holds Try.pinned (OpenSpec.ofChange fnExactChooseSuiteSpec)

/-- ITS FALSE NEIGHBOUR: 'it returns false'. Refute it at one input. -/
def fnExactChooseSuiteWrong : ChangeSpec := { name := "fnExactChooseSuite", fn := fun _ => fun
  | [d1, d2] => { results := [.lit (.bool false)], args := [d1, d2] }
  | _ => none }
def FnExactChooseSuiteWrongFalsely : Prop := fnExactChooseSuiteRow.holds Try.pinned (OpenSpec.ofChange fnExactChooseSuiteWrong)

/-- 'laws.FnExactCommonSuites': WHATEVER THE INPUT: true; the input reads as it did. -/
def fnExactCommonSuitesSpec : ChangeSpec := { name := "fnExactCommonSuites", fn := fun _ => fun
  | [d1, d2] => { results := [.lit (.bool true)], args := [d1, d2] }
  | _ => none }
def fnExactCommonSuitesRow : OpenClaim := { program := "ythaaompkcomfcaa", sum := "f5f76c79d056f1ffc421e56088314fc5a753fde5821998b6c00efba1dd8b7616", func := "loop.example/g00205/laws.FnExactCommonSuites", spec := "fnExactCommonSuites", apart := false }
def FnExactCommonSuitesSaid : Prop := fnExactCommonSuitesRow.holds Try.pinned (OpenSpec.ofChange fnExactCommonSuitesSpec)

/-- ITS FALSE NEIGHBOUR: 'it returns false'. Refute it at one input. -/
def fnExactCommonSuitesWrong : ChangeSpec := { name := "fnExactCommonSuites", fn := fun _ => fun
  | [d1, d2] => { results := [.lit (.bool false)], args := [d1, d2] }
  | _ => none }
def FnExactCommonSuitesWrongFalsely : Prop := fnExactCommonSuitesRow.holds Try.pinned (OpenSpec.ofChange fnExactCommonSuitesWrong)

/-- 'laws.FnExactWeakerSuite': WHATEVER THE INPUT: true; the input reads as it did. -/
def fnExactWeakerSuiteSpec : ChangeSpec := { name := "fnExactWeakerSuite", fn := fun _ => fun
  | [d1, d2] => { results := [.lit (.bool true)], args := [d1, d2] }
  | _ => none }
def fnExactWeakerSuiteRow : OpenClaim := { program := "ythaaompkcomfcaa", sum := "f5f76c79d056f1ffc421e56088314fc5a753fde5821998b6c00efba1dd8b7616", func := "loop.example/g00205/laws.FnExactWeakerSuite", spec := "fnExactWeakerSuite", inPlace := ["math.Float64frombits"], apart := false }
def FnExactWeakerSuiteSaid : Prop := fnExactWeakerSuiteRow.holds Try.pinned (OpenSpec.ofChange fnExactWeakerSuiteSpec)

/-- ITS FALSE NEIGHBOUR: 'it returns false'. Refute it at one input. -/
def fnExactWeakerSuiteWrong : ChangeSpec := { name := "fnExactWeakerSuite", fn := fun _ => fun
  | [d1, d2] => { results := [.lit (.bool false)], args := [d1, d2] }
  | _ => none }
def FnExactWeakerSuiteWrongFalsely : Prop := fnExactWeakerSuiteRow.holds Try.pinned (OpenSpec.ofChange fnExactWeakerSuiteWrong)

/-- 'laws.FnExactStrongestOf': WHATEVER THE INPUT: true; the input reads as it did. -/
def fnExactStrongestOfSpec : ChangeSpec := { name := "fnExactStrongestOf", fn := fun _ => fun
  | [d] => { results := [.lit (.bool true)], args := [d] }
  | _ => none }
def fnExactStrongestOfRow : OpenClaim := { program := "ythaaompkcomfcaa", sum := "f5f76c79d056f1ffc421e56088314fc5a753fde5821998b6c00efba1dd8b7616", func := "loop.example/g00205/laws.FnExactStrongestOf", spec := "fnExactStrongestOf", inPlace := ["math.Float64frombits"], unfollowed := true, recurses := true, apart := false }
def FnExactStrongestOfSaid : Prop := fnExactStrongestOfRow.holds Try.pinned (OpenSpec.ofChange fnExactStrongestOfSpec)

/-- ITS FALSE NEIGHBOUR: 'it returns false'. Refute it at one input. -/
def fnExactStrongestOfWrong : ChangeSpec := { name := "fnExactStrongestOf", fn := fun _ => fun
  | [d] => { results := [.lit (.bool false)], args := [d] }
  | _ => none }
def FnExactStrongestOfWrongFalsely : Prop := fnExactStrongestOfRow.holds Try.pinned (OpenSpec.ofChange fnExactStrongestOfWrong)

/-- 'laws.FnExactEncodeSuites': WHATEVER THE INPUT: true; the input reads as it did. -/
def fnExactEncodeSuitesSpec : ChangeSpec := { name := "fnExactEncodeSuites", fn := fun _ => fun
  | [d] => { results := [.lit (.bool true)], args := [d] }
  | _ => none }
def fnExactEncodeSuitesRow : OpenClaim := { program := "ythaaompkcomfcaa", sum := "f5f76c79d056f1ffc421e56088314fc5a753fde5821998b6c00efba1dd8b7616", func := "loop.example/g00205/laws.FnExactEncodeSuites", spec := "fnExactEncodeSuites", apart := false }
def FnExactEncodeSuitesSaid : Prop := fnExactEncodeSuitesRow.holds Try.pinned (OpenSpec.ofChange fnExactEncodeSuitesSpec)

/-- ITS FALSE NEIGHBOUR: 'it returns false'. Refute it at one input. -/
def fnExactEncodeSuitesWrong : ChangeSpec := { name := "fnExactEncodeSuites", fn := fun _ => fun
  | [d] => { results := [.lit (.bool false)], args := [d] }
  | _ => none }
def FnExactEncodeSuitesWrongFalsely : Prop := fnExactEncodeSuitesRow.holds Try.pinned (OpenSpec.ofChange fnExactEncodeSuitesWrong)

/-- 'laws.FnExactDecodeSuites': WHATEVER THE INPUT: true; the input reads as it did. -/
def fnExactDecodeSuitesSpec : ChangeSpec := { name := "fnExactDecodeSuites", fn := fun _ => fun
  | [d] => { results := [.lit (.bool true)], args := [d] }
  | _ => none }
def fnExactDecodeSuitesRow : OpenClaim := { program := "ythaaompkcomfcaa", sum := "f5f76c79d056f1ffc421e56088314fc5a753fde5821998b6c00efba1dd8b7616", func := "loop.example/g00205/laws.FnExactDecodeSuites", spec := "fnExactDecodeSuites", apart := false }
def FnExactDecodeSuitesSaid : Prop := fnExactDecodeSuitesRow.holds Try.pinned (OpenSpec.ofChange fnExactDecodeSuitesSpec)

/-- ITS FALSE NEIGHBOUR: 'it returns false'. Refute it at one input. -/
def fnExactDecodeSuitesWrong : ChangeSpec := { name := "fnExactDecodeSuites", fn := fun _ => fun
  | [d] => { results := [.lit (.bool false)], args := [d] }
  | _ => none }
def FnExactDecodeSuitesWrongFalsely : Prop := fnExactDecodeSuitesRow.holds Try.pinned (OpenSpec.ofChange fnExactDecodeSuitesWrong)

/- THE SECOND FORM. 'bulk': how many values and letters a reading holds, each counted each time it is reached (what is shared counts as often as it is met; a slice's spare places count too). A statement '..UptoSaid' is the law's where the arguments, and the package variables that the reading takes, are together of bulk at most 1048576: NARROWER than '..Said'. Prove '..Said' where nothing that the law and all that it calls make is longer than what came in: it says more and counts as full. Else prove '..UptoSaid'. A law counts once. -/
mutual
def uptoBulk {H : Type} : DataW H → Nat
  | .lit (.string bytes) => bytes.length + 1
  | .lit _ => 1
  | .nil => 1
  | .ptr d => uptoBulk d + 1
  | .slice elems spare => uptoBulkAll elems + uptoBulkAll spare + 1
  | .agg parts => uptoBulkAll parts + 1
  | .iface _ d => uptoBulk d + 1
  | .map entries => uptoBulkEntries entries + 1
  | .held _ => 1
def uptoBulkAll {H : Type} : List (DataW H) → Nat
  | [] => 0
  | d :: r => uptoBulk d + uptoBulkAll r
def uptoBulkEntries {H : Type} : List (Lit × DataW H) → Nat
  | [] => 0
  | x :: r => uptoBulkEntry x + uptoBulkEntries r
def uptoBulkEntry {H : Type} : Lit × DataW H → Nat
  | (.string bytes, d) => bytes.length + uptoBulk d + 1
  | (_, d) => uptoBulk d + 1
 end
def uptoSmall : (H : Type) → List (DataW H) → Bool := fun _ ds => decide (uptoBulkAll ds ≤ 1048576)
def OpenSpec.upto (s : _root_.Go.ChangeSpec) : _root_.Go.OpenSpec := { _root_.Go.OpenSpec.ofChange s with cond := some uptoSmall }

/-- 'laws.FnSuites', WHERE WHAT IT READS IS OF BULK AT MOST 1048576: true; the input reads as it did. -/
def fnSuitesUptoRow : OpenClaim := { program := "ythaaompkcomfcaa", sum := "f5f76c79d056f1ffc421e56088314fc5a753fde5821998b6c00efba1dd8b7616", func := "loop.example/g00205/laws.FnSuites", spec := "fnSuites", inPlace := ["math.Float64frombits"], unfollowed := true, recurses := true, apart := false, narrowed := true }
def FnSuitesUptoSaid : Prop := fnSuitesUptoRow.holds Try.pinned (OpenSpec.upto fnSuitesSpec)

/-- 'laws.FnExactSuiteFault', WHERE WHAT IT READS IS OF BULK AT MOST 1048576: true; the input reads as it did. -/
def fnExactSuiteFaultUptoRow : OpenClaim := { program := "ythaaompkcomfcaa", sum := "f5f76c79d056f1ffc421e56088314fc5a753fde5821998b6c00efba1dd8b7616", func := "loop.example/g00205/laws.FnExactSuiteFault", spec := "fnExactSuiteFault", apart := false, narrowed := true }
def FnExactSuiteFaultUptoSaid : Prop := fnExactSuiteFaultUptoRow.holds Try.pinned (OpenSpec.upto fnExactSuiteFaultSpec)

/-- 'laws.FnExactSuitesFault', WHERE WHAT IT READS IS OF BULK AT MOST 1048576: true; the input reads as it did. -/
def fnExactSuitesFaultUptoRow : OpenClaim := { program := "ythaaompkcomfcaa", sum := "f5f76c79d056f1ffc421e56088314fc5a753fde5821998b6c00efba1dd8b7616", func := "loop.example/g00205/laws.FnExactSuitesFault", spec := "fnExactSuitesFault", apart := false, narrowed := true }
def FnExactSuitesFaultUptoSaid : Prop := fnExactSuitesFaultUptoRow.holds Try.pinned (OpenSpec.upto fnExactSuitesFaultSpec)

/-- 'laws.FnExactChooseSuite', WHERE WHAT IT READS IS OF BULK AT MOST 1048576: true; the input reads as it did. -/
def fnExactChooseSuiteUptoRow : OpenClaim := { program := "ythaaompkcomfcaa", sum := "f5f76c79d056f1ffc421e56088314fc5a753fde5821998b6c00efba1dd8b7616", func := "loop.example/g00205/laws.FnExactChooseSuite", spec := "fnExactChooseSuite", apart := false, narrowed := true }
def FnExactChooseSuiteUptoSaid : Prop := fnExactChooseSuiteUptoRow.holds Try.pinned (OpenSpec.upto fnExactChooseSuiteSpec)

/-- 'laws.FnExactCommonSuites', WHERE WHAT IT READS IS OF BULK AT MOST 1048576: true; the input reads as it did. -/
def fnExactCommonSuitesUptoRow : OpenClaim := { program := "ythaaompkcomfcaa", sum := "f5f76c79d056f1ffc421e56088314fc5a753fde5821998b6c00efba1dd8b7616", func := "loop.example/g00205/laws.FnExactCommonSuites", spec := "fnExactCommonSuites", apart := false, narrowed := true }
def FnExactCommonSuitesUptoSaid : Prop := fnExactCommonSuitesUptoRow.holds Try.pinned (OpenSpec.upto fnExactCommonSuitesSpec)

/-- 'laws.FnExactWeakerSuite', WHERE WHAT IT READS IS OF BULK AT MOST 1048576: true; the input reads as it did. -/
def fnExactWeakerSuiteUptoRow : OpenClaim := { program := "ythaaompkcomfcaa", sum := "f5f76c79d056f1ffc421e56088314fc5a753fde5821998b6c00efba1dd8b7616", func := "loop.example/g00205/laws.FnExactWeakerSuite", spec := "fnExactWeakerSuite", inPlace := ["math.Float64frombits"], apart := false, narrowed := true }
def FnExactWeakerSuiteUptoSaid : Prop := fnExactWeakerSuiteUptoRow.holds Try.pinned (OpenSpec.upto fnExactWeakerSuiteSpec)

/-- 'laws.FnExactStrongestOf', WHERE WHAT IT READS IS OF BULK AT MOST 1048576: true; the input reads as it did. -/
def fnExactStrongestOfUptoRow : OpenClaim := { program := "ythaaompkcomfcaa", sum := "f5f76c79d056f1ffc421e56088314fc5a753fde5821998b6c00efba1dd8b7616", func := "loop.example/g00205/laws.FnExactStrongestOf", spec := "fnExactStrongestOf", inPlace := ["math.Float64frombits"], unfollowed := true, recurses := true, apart := false, narrowed := true }
def FnExactStrongestOfUptoSaid : Prop := fnExactStrongestOfUptoRow.holds Try.pinned (OpenSpec.upto fnExactStrongestOfSpec)

/-- 'laws.FnExactEncodeSuites', WHERE WHAT IT READS IS OF BULK AT MOST 1048576: true; the input reads as it did. -/
def fnExactEncodeSuitesUptoRow : OpenClaim := { program := "ythaaompkcomfcaa", sum := "f5f76c79d056f1ffc421e56088314fc5a753fde5821998b6c00efba1dd8b7616", func := "loop.example/g00205/laws.FnExactEncodeSuites", spec := "fnExactEncodeSuites", apart := false, narrowed := true }
def FnExactEncodeSuitesUptoSaid : Prop := fnExactEncodeSuitesUptoRow.holds Try.pinned (OpenSpec.upto fnExactEncodeSuitesSpec)

/-- 'laws.FnExactDecodeSuites', WHERE WHAT IT READS IS OF BULK AT MOST 1048576: true; the input reads as it did. -/
def fnExactDecodeSuitesUptoRow : OpenClaim := { program := "ythaaompkcomfcaa", sum := "f5f76c79d056f1ffc421e56088314fc5a753fde5821998b6c00efba1dd8b7616", func := "loop.example/g00205/laws.FnExactDecodeSuites", spec := "fnExactDecodeSuites", apart := false, narrowed := true }
def FnExactDecodeSuitesUptoSaid : Prop := fnExactDecodeSuitesUptoRow.holds Try.pinned (OpenSpec.upto fnExactDecodeSuitesSpec)

end Rows
end Go.Proofs.Ythaaompkcomfcaa
