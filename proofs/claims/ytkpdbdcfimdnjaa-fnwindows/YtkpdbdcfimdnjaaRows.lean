/-
  No cell of these rows narrows 'for every input' (looked for: loops, veiled, ifaces, maps, wideKeys, modest, calm, conditions, laid).
  DERIVED. THE GIVEN ROWS OF THIS SEAT. 9 by the template 'for every input the law returns true; each argument reads behind the call as it read before'; 0 by the template 'total and deterministic' (their statements: YtkpdbdcfimdnjaaTotals.lean).
  GIVEN WITH THE SEED: the statements are not yours to turn. If you find one false, say at which input.
  Laid BY PROGRAM, IN A SANDBOX (cutbox-rows.mjs): the forced cells as the released guide's own fill.sh prints them over the translation 52c38d3943aeb93c… (all of the seat's roots in one cut). By AI agents, Wed Nov 11 2026. No macro, syntax, notation, axiom, sorry.
-/
import Derived.Test.YtkpdbdcfimdnjaaChecked
import GoSem.Claim
import GoSem.ClaimJoined
import GoSem.ClaimMapViews
import Derived.JoinedTies
import Derived.KernelRfl
namespace Go.Proofs.Ytkpdbdcfimdnjaa
/- THE CELL 'sum', in the pinned program and in every row, IS THE sha256 OF THE DUMP (.gsa) THAT YtkpdbdcfimdnjaaProg.lean LOADS. Nothing in Lean hashes anything: it is a label: what it is worth is what the hold of that sum in a sandbox is worth. -/
noncomputable def Try.pinned : Pinned := { name := "ytkpdbdcfimdnjaa", sum := "52c38d3943aeb93c789af5b7cf52b612f5a6428a8d02e580674348f438e9c3ab", checked := Try.checked }
namespace Rows
def none {H : Type} : Left H := { results := [], args := [] }

/-- 'laws.FnWindows': WHATEVER THE INPUT: true; the input reads as it did. -/
def fnWindowsSpec : ChangeSpec := { name := "fnWindows", fn := fun _ => fun
  | [d] => { results := [.lit (.bool true)], args := [d] }
  | _ => none }
def fnWindowsRow : OpenClaim := { program := "ytkpdbdcfimdnjaa", sum := "52c38d3943aeb93c789af5b7cf52b612f5a6428a8d02e580674348f438e9c3ab", func := "loop.example/g00205/laws.FnWindows", spec := "fnWindows", apart := false }
def FnWindowsSaid : Prop := fnWindowsRow.holds Try.pinned (OpenSpec.ofChange fnWindowsSpec)

/-- ITS FALSE NEIGHBOUR: 'it returns false'. Refute it at one input. -/
def fnWindowsWrong : ChangeSpec := { name := "fnWindows", fn := fun _ => fun
  | [d] => { results := [.lit (.bool false)], args := [d] }
  | _ => none }
def FnWindowsWrongFalsely : Prop := fnWindowsRow.holds Try.pinned (OpenSpec.ofChange fnWindowsWrong)

/-- 'laws.FnGuesses': WHATEVER THE INPUT: true; the input reads as it did. -/
def fnGuessesSpec : ChangeSpec := { name := "fnGuesses", fn := fun _ => fun
  | [d] => { results := [.lit (.bool true)], args := [d] }
  | _ => none }
def fnGuessesRow : OpenClaim := { program := "ytkpdbdcfimdnjaa", sum := "52c38d3943aeb93c789af5b7cf52b612f5a6428a8d02e580674348f438e9c3ab", func := "loop.example/g00205/laws.FnGuesses", spec := "fnGuesses", apart := false }
def FnGuessesSaid : Prop := fnGuessesRow.holds Try.pinned (OpenSpec.ofChange fnGuessesSpec)

/-- ITS FALSE NEIGHBOUR: 'it returns false'. Refute it at one input. -/
def fnGuessesWrong : ChangeSpec := { name := "fnGuesses", fn := fun _ => fun
  | [d] => { results := [.lit (.bool false)], args := [d] }
  | _ => none }
def FnGuessesWrongFalsely : Prop := fnGuessesRow.holds Try.pinned (OpenSpec.ofChange fnGuessesWrong)

/-- 'laws.FnExactWindowFault': WHATEVER THE INPUT: true; the input reads as it did. -/
def fnExactWindowFaultSpec : ChangeSpec := { name := "fnExactWindowFault", fn := fun _ => fun
  | [d] => { results := [.lit (.bool true)], args := [d] }
  | _ => none }
def fnExactWindowFaultRow : OpenClaim := { program := "ytkpdbdcfimdnjaa", sum := "52c38d3943aeb93c789af5b7cf52b612f5a6428a8d02e580674348f438e9c3ab", func := "loop.example/g00205/laws.FnExactWindowFault", spec := "fnExactWindowFault", apart := false }
def FnExactWindowFaultSaid : Prop := fnExactWindowFaultRow.holds Try.pinned (OpenSpec.ofChange fnExactWindowFaultSpec)

/-- ITS FALSE NEIGHBOUR: 'it returns false'. Refute it at one input. -/
def fnExactWindowFaultWrong : ChangeSpec := { name := "fnExactWindowFault", fn := fun _ => fun
  | [d] => { results := [.lit (.bool false)], args := [d] }
  | _ => none }
def FnExactWindowFaultWrongFalsely : Prop := fnExactWindowFaultRow.holds Try.pinned (OpenSpec.ofChange fnExactWindowFaultWrong)

/-- 'laws.FnExactSeenIn': WHATEVER THE INPUT: true; the input reads as it did. -/
def fnExactSeenInSpec : ChangeSpec := { name := "fnExactSeenIn", fn := fun _ => fun
  | [d1, d2] => { results := [.lit (.bool true)], args := [d1, d2] }
  | _ => none }
def fnExactSeenInRow : OpenClaim := { program := "ytkpdbdcfimdnjaa", sum := "52c38d3943aeb93c789af5b7cf52b612f5a6428a8d02e580674348f438e9c3ab", func := "loop.example/g00205/laws.FnExactSeenIn", spec := "fnExactSeenIn", apart := false }
def FnExactSeenInSaid : Prop := fnExactSeenInRow.holds Try.pinned (OpenSpec.ofChange fnExactSeenInSpec)

/-- ITS FALSE NEIGHBOUR: 'it returns false'. Refute it at one input. -/
def fnExactSeenInWrong : ChangeSpec := { name := "fnExactSeenIn", fn := fun _ => fun
  | [d1, d2] => { results := [.lit (.bool false)], args := [d1, d2] }
  | _ => none }
def FnExactSeenInWrongFalsely : Prop := fnExactSeenInRow.holds Try.pinned (OpenSpec.ofChange fnExactSeenInWrong)

/-- 'laws.FnExactTakeSeq': WHATEVER THE INPUT: true; the input reads as it did. -/
def fnExactTakeSeqSpec : ChangeSpec := { name := "fnExactTakeSeq", fn := fun _ => fun
  | [d1, d2] => { results := [.lit (.bool true)], args := [d1, d2] }
  | _ => none }
def fnExactTakeSeqRow : OpenClaim := { program := "ytkpdbdcfimdnjaa", sum := "52c38d3943aeb93c789af5b7cf52b612f5a6428a8d02e580674348f438e9c3ab", func := "loop.example/g00205/laws.FnExactTakeSeq", spec := "fnExactTakeSeq", apart := false }
def FnExactTakeSeqSaid : Prop := fnExactTakeSeqRow.holds Try.pinned (OpenSpec.ofChange fnExactTakeSeqSpec)

/-- ITS FALSE NEIGHBOUR: 'it returns false'. Refute it at one input. -/
def fnExactTakeSeqWrong : ChangeSpec := { name := "fnExactTakeSeq", fn := fun _ => fun
  | [d1, d2] => { results := [.lit (.bool false)], args := [d1, d2] }
  | _ => none }
def FnExactTakeSeqWrongFalsely : Prop := fnExactTakeSeqRow.holds Try.pinned (OpenSpec.ofChange fnExactTakeSeqWrong)

/-- 'laws.FnExactGuessSeq': WHATEVER THE INPUT: true; the input reads as it did. -/
def fnExactGuessSeqSpec : ChangeSpec := { name := "fnExactGuessSeq", fn := fun _ => fun
  | [d1, d2] => { results := [.lit (.bool true)], args := [d1, d2] }
  | _ => none }
def fnExactGuessSeqRow : OpenClaim := { program := "ytkpdbdcfimdnjaa", sum := "52c38d3943aeb93c789af5b7cf52b612f5a6428a8d02e580674348f438e9c3ab", func := "loop.example/g00205/laws.FnExactGuessSeq", spec := "fnExactGuessSeq", apart := false }
def FnExactGuessSeqSaid : Prop := fnExactGuessSeqRow.holds Try.pinned (OpenSpec.ofChange fnExactGuessSeqSpec)

/-- ITS FALSE NEIGHBOUR: 'it returns false'. Refute it at one input. -/
def fnExactGuessSeqWrong : ChangeSpec := { name := "fnExactGuessSeq", fn := fun _ => fun
  | [d1, d2] => { results := [.lit (.bool false)], args := [d1, d2] }
  | _ => none }
def FnExactGuessSeqWrongFalsely : Prop := fnExactGuessSeqRow.holds Try.pinned (OpenSpec.ofChange fnExactGuessSeqWrong)

/-- 'laws.FnExactTakeLow': WHATEVER THE INPUT: true; the input reads as it did. -/
def fnExactTakeLowSpec : ChangeSpec := { name := "fnExactTakeLow", fn := fun _ => fun
  | [d1, d2] => { results := [.lit (.bool true)], args := [d1, d2] }
  | _ => none }
def fnExactTakeLowRow : OpenClaim := { program := "ytkpdbdcfimdnjaa", sum := "52c38d3943aeb93c789af5b7cf52b612f5a6428a8d02e580674348f438e9c3ab", func := "loop.example/g00205/laws.FnExactTakeLow", spec := "fnExactTakeLow", apart := false }
def FnExactTakeLowSaid : Prop := fnExactTakeLowRow.holds Try.pinned (OpenSpec.ofChange fnExactTakeLowSpec)

/-- ITS FALSE NEIGHBOUR: 'it returns false'. Refute it at one input. -/
def fnExactTakeLowWrong : ChangeSpec := { name := "fnExactTakeLow", fn := fun _ => fun
  | [d1, d2] => { results := [.lit (.bool false)], args := [d1, d2] }
  | _ => none }
def FnExactTakeLowWrongFalsely : Prop := fnExactTakeLowRow.holds Try.pinned (OpenSpec.ofChange fnExactTakeLowWrong)

/-- 'laws.FnExactTakeAll': WHATEVER THE INPUT: true; the input reads as it did. -/
def fnExactTakeAllSpec : ChangeSpec := { name := "fnExactTakeAll", fn := fun _ => fun
  | [d1, d2] => { results := [.lit (.bool true)], args := [d1, d2] }
  | _ => none }
def fnExactTakeAllRow : OpenClaim := { program := "ytkpdbdcfimdnjaa", sum := "52c38d3943aeb93c789af5b7cf52b612f5a6428a8d02e580674348f438e9c3ab", func := "loop.example/g00205/laws.FnExactTakeAll", spec := "fnExactTakeAll", apart := false }
def FnExactTakeAllSaid : Prop := fnExactTakeAllRow.holds Try.pinned (OpenSpec.ofChange fnExactTakeAllSpec)

/-- ITS FALSE NEIGHBOUR: 'it returns false'. Refute it at one input. -/
def fnExactTakeAllWrong : ChangeSpec := { name := "fnExactTakeAll", fn := fun _ => fun
  | [d1, d2] => { results := [.lit (.bool false)], args := [d1, d2] }
  | _ => none }
def FnExactTakeAllWrongFalsely : Prop := fnExactTakeAllRow.holds Try.pinned (OpenSpec.ofChange fnExactTakeAllWrong)

/-- 'laws.FnExactMissingIn': WHATEVER THE INPUT: true; the input reads as it did. -/
def fnExactMissingInSpec : ChangeSpec := { name := "fnExactMissingIn", fn := fun _ => fun
  | [d] => { results := [.lit (.bool true)], args := [d] }
  | _ => none }
def fnExactMissingInRow : OpenClaim := { program := "ytkpdbdcfimdnjaa", sum := "52c38d3943aeb93c789af5b7cf52b612f5a6428a8d02e580674348f438e9c3ab", func := "loop.example/g00205/laws.FnExactMissingIn", spec := "fnExactMissingIn", apart := false }
def FnExactMissingInSaid : Prop := fnExactMissingInRow.holds Try.pinned (OpenSpec.ofChange fnExactMissingInSpec)

/-- ITS FALSE NEIGHBOUR: 'it returns false'. Refute it at one input. -/
def fnExactMissingInWrong : ChangeSpec := { name := "fnExactMissingIn", fn := fun _ => fun
  | [d] => { results := [.lit (.bool false)], args := [d] }
  | _ => none }
def FnExactMissingInWrongFalsely : Prop := fnExactMissingInRow.holds Try.pinned (OpenSpec.ofChange fnExactMissingInWrong)

/- THE SECOND FORM. 'bulk': how many values and letters a reading holds, each counted each time it is reached (what is shared counts as often as it is met; a slice's spare places count too). A statement '..UptoSaid' is the law's where the arguments, and the package variables that the reading takes, are together of bulk at most 1048576: NARROWER than '..Said'. Prove '..Said' where nothing that the law and all that it calls make is longer than what came in: it says more and counts as full. Else prove '..UptoSaid'. A law counts once. -/
mutual
def uptoBulk {H : Type} : DataW H → Nat
  | .lit (.string bytes) => bytes.length + 1
  | .lit _ => 1
  | .nil => 1
  | .ptr d => uptoBulk d + 1
  | .slice elems spare => uptoBulkAll elems + uptoBulkAll spare + 1
  | .agg parts => uptoBulkAll parts + 1
  | .iface _ d => uptoBulk d + 1
  | .map entries => uptoBulkEntries entries + 1
  | .held _ => 1
def uptoBulkAll {H : Type} : List (DataW H) → Nat
  | [] => 0
  | d :: r => uptoBulk d + uptoBulkAll r
def uptoBulkEntries {H : Type} : List (Lit × DataW H) → Nat
  | [] => 0
  | x :: r => uptoBulkEntry x + uptoBulkEntries r
def uptoBulkEntry {H : Type} : Lit × DataW H → Nat
  | (.string bytes, d) => bytes.length + uptoBulk d + 1
  | (_, d) => uptoBulk d + 1
 end
def uptoSmall : (H : Type) → List (DataW H) → Bool := fun _ ds => decide (uptoBulkAll ds ≤ 1048576)
def OpenSpec.upto (s : _root_.Go.ChangeSpec) : _root_.Go.OpenSpec := { _root_.Go.OpenSpec.ofChange s with cond := some uptoSmall }

/-- 'laws.FnWindows', WHERE WHAT IT READS IS OF BULK AT MOST 1048576: true; the input reads as it did. -/
def fnWindowsUptoRow : OpenClaim := { program := "ytkpdbdcfimdnjaa", sum := "52c38d3943aeb93c789af5b7cf52b612f5a6428a8d02e580674348f438e9c3ab", func := "loop.example/g00205/laws.FnWindows", spec := "fnWindows", apart := false, narrowed := true }
def FnWindowsUptoSaid : Prop := fnWindowsUptoRow.holds Try.pinned (OpenSpec.upto fnWindowsSpec)

/-- 'laws.FnGuesses', WHERE WHAT IT READS IS OF BULK AT MOST 1048576: true; the input reads as it did. -/
def fnGuessesUptoRow : OpenClaim := { program := "ytkpdbdcfimdnjaa", sum := "52c38d3943aeb93c789af5b7cf52b612f5a6428a8d02e580674348f438e9c3ab", func := "loop.example/g00205/laws.FnGuesses", spec := "fnGuesses", apart := false, narrowed := true }
def FnGuessesUptoSaid : Prop := fnGuessesUptoRow.holds Try.pinned (OpenSpec.upto fnGuessesSpec)

/-- 'laws.FnExactWindowFault', WHERE WHAT IT READS IS OF BULK AT MOST 1048576: true; the input reads as it did. -/
def fnExactWindowFaultUptoRow : OpenClaim := { program := "ytkpdbdcfimdnjaa", sum := "52c38d3943aeb93c789af5b7cf52b612f5a6428a8d02e580674348f438e9c3ab", func := "loop.example/g00205/laws.FnExactWindowFault", spec := "fnExactWindowFault", apart := false, narrowed := true }
def FnExactWindowFaultUptoSaid : Prop := fnExactWindowFaultUptoRow.holds Try.pinned (OpenSpec.upto fnExactWindowFaultSpec)

/-- 'laws.FnExactSeenIn', WHERE WHAT IT READS IS OF BULK AT MOST 1048576: true; the input reads as it did. -/
def fnExactSeenInUptoRow : OpenClaim := { program := "ytkpdbdcfimdnjaa", sum := "52c38d3943aeb93c789af5b7cf52b612f5a6428a8d02e580674348f438e9c3ab", func := "loop.example/g00205/laws.FnExactSeenIn", spec := "fnExactSeenIn", apart := false, narrowed := true }
def FnExactSeenInUptoSaid : Prop := fnExactSeenInUptoRow.holds Try.pinned (OpenSpec.upto fnExactSeenInSpec)

/-- 'laws.FnExactTakeSeq', WHERE WHAT IT READS IS OF BULK AT MOST 1048576: true; the input reads as it did. -/
def fnExactTakeSeqUptoRow : OpenClaim := { program := "ytkpdbdcfimdnjaa", sum := "52c38d3943aeb93c789af5b7cf52b612f5a6428a8d02e580674348f438e9c3ab", func := "loop.example/g00205/laws.FnExactTakeSeq", spec := "fnExactTakeSeq", apart := false, narrowed := true }
def FnExactTakeSeqUptoSaid : Prop := fnExactTakeSeqUptoRow.holds Try.pinned (OpenSpec.upto fnExactTakeSeqSpec)

/-- 'laws.FnExactGuessSeq', WHERE WHAT IT READS IS OF BULK AT MOST 1048576: true; the input reads as it did. -/
def fnExactGuessSeqUptoRow : OpenClaim := { program := "ytkpdbdcfimdnjaa", sum := "52c38d3943aeb93c789af5b7cf52b612f5a6428a8d02e580674348f438e9c3ab", func := "loop.example/g00205/laws.FnExactGuessSeq", spec := "fnExactGuessSeq", apart := false, narrowed := true }
def FnExactGuessSeqUptoSaid : Prop := fnExactGuessSeqUptoRow.holds Try.pinned (OpenSpec.upto fnExactGuessSeqSpec)

/-- 'laws.FnExactTakeLow', WHERE WHAT IT READS IS OF BULK AT MOST 1048576: true; the input reads as it did. -/
def fnExactTakeLowUptoRow : OpenClaim := { program := "ytkpdbdcfimdnjaa", sum := "52c38d3943aeb93c789af5b7cf52b612f5a6428a8d02e580674348f438e9c3ab", func := "loop.example/g00205/laws.FnExactTakeLow", spec := "fnExactTakeLow", apart := false, narrowed := true }
def FnExactTakeLowUptoSaid : Prop := fnExactTakeLowUptoRow.holds Try.pinned (OpenSpec.upto fnExactTakeLowSpec)

/-- 'laws.FnExactTakeAll', WHERE WHAT IT READS IS OF BULK AT MOST 1048576: true; the input reads as it did. -/
def fnExactTakeAllUptoRow : OpenClaim := { program := "ytkpdbdcfimdnjaa", sum := "52c38d3943aeb93c789af5b7cf52b612f5a6428a8d02e580674348f438e9c3ab", func := "loop.example/g00205/laws.FnExactTakeAll", spec := "fnExactTakeAll", apart := false, narrowed := true }
def FnExactTakeAllUptoSaid : Prop := fnExactTakeAllUptoRow.holds Try.pinned (OpenSpec.upto fnExactTakeAllSpec)

/-- 'laws.FnExactMissingIn', WHERE WHAT IT READS IS OF BULK AT MOST 1048576: true; the input reads as it did. -/
def fnExactMissingInUptoRow : OpenClaim := { program := "ytkpdbdcfimdnjaa", sum := "52c38d3943aeb93c789af5b7cf52b612f5a6428a8d02e580674348f438e9c3ab", func := "loop.example/g00205/laws.FnExactMissingIn", spec := "fnExactMissingIn", apart := false, narrowed := true }
def FnExactMissingInUptoSaid : Prop := fnExactMissingInUptoRow.holds Try.pinned (OpenSpec.upto fnExactMissingInSpec)

end Rows
end Go.Proofs.Ytkpdbdcfimdnjaa
