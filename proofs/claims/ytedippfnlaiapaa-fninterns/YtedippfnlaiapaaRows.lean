/-
  No cell of these rows narrows 'for every input' (looked for: loops, veiled, ifaces, maps, wideKeys, modest, calm, conditions, laid).
  DERIVED. THE GIVEN ROWS OF THIS SEAT. 10 by the template 'for every input the law returns true; each argument reads behind the call as it read before'; 0 by the template 'total and deterministic' (their statements: YtedippfnlaiapaaTotals.lean).
  GIVEN WITH THE SEED: the statements are not yours to turn. If you find one false, say at which input.
  Laid BY PROGRAM, IN A SANDBOX (cutbox-rows.mjs): the forced cells as the released guide's own fill.sh prints them over the translation df0ffa077f874bd1… (all of the seat's roots in one cut). By AI agents, Wed Nov 11 2026. No macro, syntax, notation, axiom, sorry.
-/
import Derived.Test.YtedippfnlaiapaaChecked
import GoSem.Claim
import GoSem.ClaimJoined
import GoSem.ClaimMapViews
import Derived.JoinedTies
import Derived.KernelRfl
namespace Go.Proofs.Ytedippfnlaiapaa
/- THE CELL 'sum', in the pinned program and in every row, IS THE sha256 OF THE DUMP (.gsa) THAT YtedippfnlaiapaaProg.lean LOADS. Nothing in Lean hashes anything: it is a label: what it is worth is what the hold of that sum in a sandbox is worth. -/
noncomputable def Try.pinned : Pinned := { name := "ytedippfnlaiapaa", sum := "df0ffa077f874bd1819ed04c2ad7c038af953b9d174f39f2a81c5fa262db3926", checked := Try.checked }
namespace Rows
def none {H : Type} : Left H := { results := [], args := [] }

/-- 'laws.FnInterns': WHATEVER THE INPUT: true; the input reads as it did. -/
def fnInternsSpec : ChangeSpec := { name := "fnInterns", fn := fun _ => fun
  | [d] => { results := [.lit (.bool true)], args := [d] }
  | _ => none }
def fnInternsRow : OpenClaim := { program := "ytedippfnlaiapaa", sum := "df0ffa077f874bd1819ed04c2ad7c038af953b9d174f39f2a81c5fa262db3926", func := "loop.example/g00205/laws.FnInterns", spec := "fnInterns", plainKeys := false, apart := false }
def FnInternsSaid : Prop := fnInternsRow.holds Try.pinned (OpenSpec.ofChange fnInternsSpec)

/-- ITS FALSE NEIGHBOUR: 'it returns false'. Refute it at one input. -/
def fnInternsWrong : ChangeSpec := { name := "fnInterns", fn := fun _ => fun
  | [d] => { results := [.lit (.bool false)], args := [d] }
  | _ => none }
def FnInternsWrongFalsely : Prop := fnInternsRow.holds Try.pinned (OpenSpec.ofChange fnInternsWrong)

/-- 'laws.FnExactTermsFault': WHATEVER THE INPUT: true; the input reads as it did. -/
def fnExactTermsFaultSpec : ChangeSpec := { name := "fnExactTermsFault", fn := fun _ => fun
  | [d] => { results := [.lit (.bool true)], args := [d] }
  | _ => none }
def fnExactTermsFaultRow : OpenClaim := { program := "ytedippfnlaiapaa", sum := "df0ffa077f874bd1819ed04c2ad7c038af953b9d174f39f2a81c5fa262db3926", func := "loop.example/g00205/laws.FnExactTermsFault", spec := "fnExactTermsFault", plainKeys := false, apart := false }
def FnExactTermsFaultSaid : Prop := fnExactTermsFaultRow.holds Try.pinned (OpenSpec.ofChange fnExactTermsFaultSpec)

/-- ITS FALSE NEIGHBOUR: 'it returns false'. Refute it at one input. -/
def fnExactTermsFaultWrong : ChangeSpec := { name := "fnExactTermsFault", fn := fun _ => fun
  | [d] => { results := [.lit (.bool false)], args := [d] }
  | _ => none }
def FnExactTermsFaultWrongFalsely : Prop := fnExactTermsFaultRow.holds Try.pinned (OpenSpec.ofChange fnExactTermsFaultWrong)

/-- 'laws.FnExactPutTerm': WHATEVER THE INPUT: true; the input reads as it did. -/
def fnExactPutTermSpec : ChangeSpec := { name := "fnExactPutTerm", fn := fun _ => fun
  | [d1, d2] => { results := [.lit (.bool true)], args := [d1, d2] }
  | _ => none }
def fnExactPutTermRow : OpenClaim := { program := "ytedippfnlaiapaa", sum := "df0ffa077f874bd1819ed04c2ad7c038af953b9d174f39f2a81c5fa262db3926", func := "loop.example/g00205/laws.FnExactPutTerm", spec := "fnExactPutTerm", plainKeys := false, apart := false }
def FnExactPutTermSaid : Prop := fnExactPutTermRow.holds Try.pinned (OpenSpec.ofChange fnExactPutTermSpec)

/-- ITS FALSE NEIGHBOUR: 'it returns false'. Refute it at one input. -/
def fnExactPutTermWrong : ChangeSpec := { name := "fnExactPutTerm", fn := fun _ => fun
  | [d1, d2] => { results := [.lit (.bool false)], args := [d1, d2] }
  | _ => none }
def FnExactPutTermWrongFalsely : Prop := fnExactPutTermRow.holds Try.pinned (OpenSpec.ofChange fnExactPutTermWrong)

/-- 'laws.FnExactPutBoth': WHATEVER THE INPUT: true; the input reads as it did. -/
def fnExactPutBothSpec : ChangeSpec := { name := "fnExactPutBoth", fn := fun _ => fun
  | [d1, d2, d3] => { results := [.lit (.bool true)], args := [d1, d2, d3] }
  | _ => none }
def fnExactPutBothRow : OpenClaim := { program := "ytedippfnlaiapaa", sum := "df0ffa077f874bd1819ed04c2ad7c038af953b9d174f39f2a81c5fa262db3926", func := "loop.example/g00205/laws.FnExactPutBoth", spec := "fnExactPutBoth", plainKeys := false, apart := false }
def FnExactPutBothSaid : Prop := fnExactPutBothRow.holds Try.pinned (OpenSpec.ofChange fnExactPutBothSpec)

/-- ITS FALSE NEIGHBOUR: 'it returns false'. Refute it at one input. -/
def fnExactPutBothWrong : ChangeSpec := { name := "fnExactPutBoth", fn := fun _ => fun
  | [d1, d2, d3] => { results := [.lit (.bool false)], args := [d1, d2, d3] }
  | _ => none }
def FnExactPutBothWrongFalsely : Prop := fnExactPutBothRow.holds Try.pinned (OpenSpec.ofChange fnExactPutBothWrong)

/-- 'laws.FnExactPutList': WHATEVER THE INPUT: true; the input reads as it did. -/
def fnExactPutListSpec : ChangeSpec := { name := "fnExactPutList", fn := fun _ => fun
  | [d1, d2] => { results := [.lit (.bool true)], args := [d1, d2] }
  | _ => none }
def fnExactPutListRow : OpenClaim := { program := "ytedippfnlaiapaa", sum := "df0ffa077f874bd1819ed04c2ad7c038af953b9d174f39f2a81c5fa262db3926", func := "loop.example/g00205/laws.FnExactPutList", spec := "fnExactPutList", recurses := true, plainKeys := false, apart := false }
def FnExactPutListSaid : Prop := fnExactPutListRow.holds Try.pinned (OpenSpec.ofChange fnExactPutListSpec)

/-- ITS FALSE NEIGHBOUR: 'it returns false'. Refute it at one input. -/
def fnExactPutListWrong : ChangeSpec := { name := "fnExactPutList", fn := fun _ => fun
  | [d1, d2] => { results := [.lit (.bool false)], args := [d1, d2] }
  | _ => none }
def FnExactPutListWrongFalsely : Prop := fnExactPutListRow.holds Try.pinned (OpenSpec.ofChange fnExactPutListWrong)

/-- 'laws.FnExactSizeOf': WHATEVER THE INPUT: true; the input reads as it did. -/
def fnExactSizeOfSpec : ChangeSpec := { name := "fnExactSizeOf", fn := fun _ => fun
  | [d1, d2] => { results := [.lit (.bool true)], args := [d1, d2] }
  | _ => none }
def fnExactSizeOfRow : OpenClaim := { program := "ytedippfnlaiapaa", sum := "df0ffa077f874bd1819ed04c2ad7c038af953b9d174f39f2a81c5fa262db3926", func := "loop.example/g00205/laws.FnExactSizeOf", spec := "fnExactSizeOf", plainKeys := false, apart := false }
def FnExactSizeOfSaid : Prop := fnExactSizeOfRow.holds Try.pinned (OpenSpec.ofChange fnExactSizeOfSpec)

/-- ITS FALSE NEIGHBOUR: 'it returns false'. Refute it at one input. -/
def fnExactSizeOfWrong : ChangeSpec := { name := "fnExactSizeOf", fn := fun _ => fun
  | [d1, d2] => { results := [.lit (.bool false)], args := [d1, d2] }
  | _ => none }
def FnExactSizeOfWrongFalsely : Prop := fnExactSizeOfRow.holds Try.pinned (OpenSpec.ofChange fnExactSizeOfWrong)

/-- 'laws.FnExactPartsOf': WHATEVER THE INPUT: true; the input reads as it did. -/
def fnExactPartsOfSpec : ChangeSpec := { name := "fnExactPartsOf", fn := fun _ => fun
  | [d1, d2] => { results := [.lit (.bool true)], args := [d1, d2] }
  | _ => none }
def fnExactPartsOfRow : OpenClaim := { program := "ytedippfnlaiapaa", sum := "df0ffa077f874bd1819ed04c2ad7c038af953b9d174f39f2a81c5fa262db3926", func := "loop.example/g00205/laws.FnExactPartsOf", spec := "fnExactPartsOf", inPlace := ["maps.clone"], recurses := true, plainKeys := false, apart := false }
def FnExactPartsOfSaid : Prop := fnExactPartsOfRow.holds Try.pinned (OpenSpec.ofChange fnExactPartsOfSpec)

/-- ITS FALSE NEIGHBOUR: 'it returns false'. Refute it at one input. -/
def fnExactPartsOfWrong : ChangeSpec := { name := "fnExactPartsOf", fn := fun _ => fun
  | [d1, d2] => { results := [.lit (.bool false)], args := [d1, d2] }
  | _ => none }
def FnExactPartsOfWrongFalsely : Prop := fnExactPartsOfRow.holds Try.pinned (OpenSpec.ofChange fnExactPartsOfWrong)

/-- 'laws.FnExactOccursIn': WHATEVER THE INPUT: true; the input reads as it did. -/
def fnExactOccursInSpec : ChangeSpec := { name := "fnExactOccursIn", fn := fun _ => fun
  | [d1, d2, d3] => { results := [.lit (.bool true)], args := [d1, d2, d3] }
  | _ => none }
def fnExactOccursInRow : OpenClaim := { program := "ytedippfnlaiapaa", sum := "df0ffa077f874bd1819ed04c2ad7c038af953b9d174f39f2a81c5fa262db3926", func := "loop.example/g00205/laws.FnExactOccursIn", spec := "fnExactOccursIn", inPlace := ["maps.clone"], recurses := true, plainKeys := false, apart := false }
def FnExactOccursInSaid : Prop := fnExactOccursInRow.holds Try.pinned (OpenSpec.ofChange fnExactOccursInSpec)

/-- ITS FALSE NEIGHBOUR: 'it returns false'. Refute it at one input. -/
def fnExactOccursInWrong : ChangeSpec := { name := "fnExactOccursIn", fn := fun _ => fun
  | [d1, d2, d3] => { results := [.lit (.bool false)], args := [d1, d2, d3] }
  | _ => none }
def FnExactOccursInWrongFalsely : Prop := fnExactOccursInRow.holds Try.pinned (OpenSpec.ofChange fnExactOccursInWrong)

/-- 'laws.FnExactMoveTerm': WHATEVER THE INPUT: true; the input reads as it did. -/
def fnExactMoveTermSpec : ChangeSpec := { name := "fnExactMoveTerm", fn := fun _ => fun
  | [d1, d2, d3] => { results := [.lit (.bool true)], args := [d1, d2, d3] }
  | _ => none }
def fnExactMoveTermRow : OpenClaim := { program := "ytedippfnlaiapaa", sum := "df0ffa077f874bd1819ed04c2ad7c038af953b9d174f39f2a81c5fa262db3926", func := "loop.example/g00205/laws.FnExactMoveTerm", spec := "fnExactMoveTerm", inPlace := ["maps.clone"], recurses := true, plainKeys := false, apart := false }
def FnExactMoveTermSaid : Prop := fnExactMoveTermRow.holds Try.pinned (OpenSpec.ofChange fnExactMoveTermSpec)

/-- ITS FALSE NEIGHBOUR: 'it returns false'. Refute it at one input. -/
def fnExactMoveTermWrong : ChangeSpec := { name := "fnExactMoveTerm", fn := fun _ => fun
  | [d1, d2, d3] => { results := [.lit (.bool false)], args := [d1, d2, d3] }
  | _ => none }
def FnExactMoveTermWrongFalsely : Prop := fnExactMoveTermRow.holds Try.pinned (OpenSpec.ofChange fnExactMoveTermWrong)

/-- 'laws.FnExactSameTerms': WHATEVER THE INPUT: true; the input reads as it did. -/
def fnExactSameTermsSpec : ChangeSpec := { name := "fnExactSameTerms", fn := fun _ => fun
  | [d1, d2, d3, d4] => { results := [.lit (.bool true)], args := [d1, d2, d3, d4] }
  | _ => none }
def fnExactSameTermsRow : OpenClaim := { program := "ytedippfnlaiapaa", sum := "df0ffa077f874bd1819ed04c2ad7c038af953b9d174f39f2a81c5fa262db3926", func := "loop.example/g00205/laws.FnExactSameTerms", spec := "fnExactSameTerms", plainKeys := false, apart := false }
def FnExactSameTermsSaid : Prop := fnExactSameTermsRow.holds Try.pinned (OpenSpec.ofChange fnExactSameTermsSpec)

/-- ITS FALSE NEIGHBOUR: 'it returns false'. Refute it at one input. -/
def fnExactSameTermsWrong : ChangeSpec := { name := "fnExactSameTerms", fn := fun _ => fun
  | [d1, d2, d3, d4] => { results := [.lit (.bool false)], args := [d1, d2, d3, d4] }
  | _ => none }
def FnExactSameTermsWrongFalsely : Prop := fnExactSameTermsRow.holds Try.pinned (OpenSpec.ofChange fnExactSameTermsWrong)

/- THE SECOND FORM. 'bulk': how many values and letters a reading holds, each counted each time it is reached (what is shared counts as often as it is met; a slice's spare places count too). A statement '..UptoSaid' is the law's where the arguments, and the package variables that the reading takes, are together of bulk at most 1048576: NARROWER than '..Said'. Prove '..Said' where nothing that the law and all that it calls make is longer than what came in: it says more and counts as full. Else prove '..UptoSaid'. A law counts once. -/
mutual
def uptoBulk {H : Type} : DataW H → Nat
  | .lit (.string bytes) => bytes.length + 1
  | .lit _ => 1
  | .nil => 1
  | .ptr d => uptoBulk d + 1
  | .slice elems spare => uptoBulkAll elems + uptoBulkAll spare + 1
  | .agg parts => uptoBulkAll parts + 1
  | .iface _ d => uptoBulk d + 1
  | .map entries => uptoBulkEntries entries + 1
  | .held _ => 1
def uptoBulkAll {H : Type} : List (DataW H) → Nat
  | [] => 0
  | d :: r => uptoBulk d + uptoBulkAll r
def uptoBulkEntries {H : Type} : List (Lit × DataW H) → Nat
  | [] => 0
  | x :: r => uptoBulkEntry x + uptoBulkEntries r
def uptoBulkEntry {H : Type} : Lit × DataW H → Nat
  | (.string bytes, d) => bytes.length + uptoBulk d + 1
  | (_, d) => uptoBulk d + 1
 end
def uptoSmall : (H : Type) → List (DataW H) → Bool := fun _ ds => decide (uptoBulkAll ds ≤ 1048576)
def OpenSpec.upto (s : _root_.Go.ChangeSpec) : _root_.Go.OpenSpec := { _root_.Go.OpenSpec.ofChange s with cond := some uptoSmall }

/-- 'laws.FnInterns', WHERE WHAT IT READS IS OF BULK AT MOST 1048576: true; the input reads as it did. -/
def fnInternsUptoRow : OpenClaim := { program := "ytedippfnlaiapaa", sum := "df0ffa077f874bd1819ed04c2ad7c038af953b9d174f39f2a81c5fa262db3926", func := "loop.example/g00205/laws.FnInterns", spec := "fnInterns", plainKeys := false, apart := false, narrowed := true }
def FnInternsUptoSaid : Prop := fnInternsUptoRow.holds Try.pinned (OpenSpec.upto fnInternsSpec)

/-- 'laws.FnExactTermsFault', WHERE WHAT IT READS IS OF BULK AT MOST 1048576: true; the input reads as it did. -/
def fnExactTermsFaultUptoRow : OpenClaim := { program := "ytedippfnlaiapaa", sum := "df0ffa077f874bd1819ed04c2ad7c038af953b9d174f39f2a81c5fa262db3926", func := "loop.example/g00205/laws.FnExactTermsFault", spec := "fnExactTermsFault", plainKeys := false, apart := false, narrowed := true }
def FnExactTermsFaultUptoSaid : Prop := fnExactTermsFaultUptoRow.holds Try.pinned (OpenSpec.upto fnExactTermsFaultSpec)

/-- 'laws.FnExactPutTerm', WHERE WHAT IT READS IS OF BULK AT MOST 1048576: true; the input reads as it did. -/
def fnExactPutTermUptoRow : OpenClaim := { program := "ytedippfnlaiapaa", sum := "df0ffa077f874bd1819ed04c2ad7c038af953b9d174f39f2a81c5fa262db3926", func := "loop.example/g00205/laws.FnExactPutTerm", spec := "fnExactPutTerm", plainKeys := false, apart := false, narrowed := true }
def FnExactPutTermUptoSaid : Prop := fnExactPutTermUptoRow.holds Try.pinned (OpenSpec.upto fnExactPutTermSpec)

/-- 'laws.FnExactPutBoth', WHERE WHAT IT READS IS OF BULK AT MOST 1048576: true; the input reads as it did. -/
def fnExactPutBothUptoRow : OpenClaim := { program := "ytedippfnlaiapaa", sum := "df0ffa077f874bd1819ed04c2ad7c038af953b9d174f39f2a81c5fa262db3926", func := "loop.example/g00205/laws.FnExactPutBoth", spec := "fnExactPutBoth", plainKeys := false, apart := false, narrowed := true }
def FnExactPutBothUptoSaid : Prop := fnExactPutBothUptoRow.holds Try.pinned (OpenSpec.upto fnExactPutBothSpec)

/-- 'laws.FnExactPutList', WHERE WHAT IT READS IS OF BULK AT MOST 1048576: true; the input reads as it did. -/
def fnExactPutListUptoRow : OpenClaim := { program := "ytedippfnlaiapaa", sum := "df0ffa077f874bd1819ed04c2ad7c038af953b9d174f39f2a81c5fa262db3926", func := "loop.example/g00205/laws.FnExactPutList", spec := "fnExactPutList", recurses := true, plainKeys := false, apart := false, narrowed := true }
def FnExactPutListUptoSaid : Prop := fnExactPutListUptoRow.holds Try.pinned (OpenSpec.upto fnExactPutListSpec)

/-- 'laws.FnExactSizeOf', WHERE WHAT IT READS IS OF BULK AT MOST 1048576: true; the input reads as it did. -/
def fnExactSizeOfUptoRow : OpenClaim := { program := "ytedippfnlaiapaa", sum := "df0ffa077f874bd1819ed04c2ad7c038af953b9d174f39f2a81c5fa262db3926", func := "loop.example/g00205/laws.FnExactSizeOf", spec := "fnExactSizeOf", plainKeys := false, apart := false, narrowed := true }
def FnExactSizeOfUptoSaid : Prop := fnExactSizeOfUptoRow.holds Try.pinned (OpenSpec.upto fnExactSizeOfSpec)

/-- 'laws.FnExactPartsOf', WHERE WHAT IT READS IS OF BULK AT MOST 1048576: true; the input reads as it did. -/
def fnExactPartsOfUptoRow : OpenClaim := { program := "ytedippfnlaiapaa", sum := "df0ffa077f874bd1819ed04c2ad7c038af953b9d174f39f2a81c5fa262db3926", func := "loop.example/g00205/laws.FnExactPartsOf", spec := "fnExactPartsOf", inPlace := ["maps.clone"], recurses := true, plainKeys := false, apart := false, narrowed := true }
def FnExactPartsOfUptoSaid : Prop := fnExactPartsOfUptoRow.holds Try.pinned (OpenSpec.upto fnExactPartsOfSpec)

/-- 'laws.FnExactOccursIn', WHERE WHAT IT READS IS OF BULK AT MOST 1048576: true; the input reads as it did. -/
def fnExactOccursInUptoRow : OpenClaim := { program := "ytedippfnlaiapaa", sum := "df0ffa077f874bd1819ed04c2ad7c038af953b9d174f39f2a81c5fa262db3926", func := "loop.example/g00205/laws.FnExactOccursIn", spec := "fnExactOccursIn", inPlace := ["maps.clone"], recurses := true, plainKeys := false, apart := false, narrowed := true }
def FnExactOccursInUptoSaid : Prop := fnExactOccursInUptoRow.holds Try.pinned (OpenSpec.upto fnExactOccursInSpec)

/-- 'laws.FnExactMoveTerm', WHERE WHAT IT READS IS OF BULK AT MOST 1048576: true; the input reads as it did. -/
def fnExactMoveTermUptoRow : OpenClaim := { program := "ytedippfnlaiapaa", sum := "df0ffa077f874bd1819ed04c2ad7c038af953b9d174f39f2a81c5fa262db3926", func := "loop.example/g00205/laws.FnExactMoveTerm", spec := "fnExactMoveTerm", inPlace := ["maps.clone"], recurses := true, plainKeys := false, apart := false, narrowed := true }
def FnExactMoveTermUptoSaid : Prop := fnExactMoveTermUptoRow.holds Try.pinned (OpenSpec.upto fnExactMoveTermSpec)

/-- 'laws.FnExactSameTerms', WHERE WHAT IT READS IS OF BULK AT MOST 1048576: true; the input reads as it did. -/
def fnExactSameTermsUptoRow : OpenClaim := { program := "ytedippfnlaiapaa", sum := "df0ffa077f874bd1819ed04c2ad7c038af953b9d174f39f2a81c5fa262db3926", func := "loop.example/g00205/laws.FnExactSameTerms", spec := "fnExactSameTerms", plainKeys := false, apart := false, narrowed := true }
def FnExactSameTermsUptoSaid : Prop := fnExactSameTermsUptoRow.holds Try.pinned (OpenSpec.upto fnExactSameTermsSpec)

end Rows
end Go.Proofs.Ytedippfnlaiapaa
