/-
  No cell of these rows narrows 'for every input' (looked for: loops, veiled, ifaces, maps, wideKeys, modest, calm, conditions, laid).
  DERIVED. THE GIVEN ROWS OF THIS SEAT. 6 by the template 'for every input the law returns true; each argument reads behind the call as it read before'; 0 by the template 'total and deterministic' (their statements: YtfldgeokigcokaaTotals.lean).
  GIVEN WITH THE SEED: the statements are not yours to turn. If you find one false, say at which input.
  Laid BY PROGRAM, IN A SANDBOX (cutbox-rows.mjs): the forced cells as the released guide's own fill.sh prints them over the translation 005220774f568ca1… (all of the seat's roots in one cut). By AI agents, Wed Nov 11 2026. No macro, syntax, notation, axiom, sorry.
-/
import Derived.Test.YtfldgeokigcokaaChecked
import GoSem.Claim
import GoSem.ClaimJoined
import GoSem.ClaimMapViews
import Derived.JoinedTies
import Derived.KernelRfl
namespace Go.Proofs.Ytfldgeokigcokaa
/- THE CELL 'sum', in the pinned program and in every row, IS THE sha256 OF THE DUMP (.gsa) THAT YtfldgeokigcokaaProg.lean LOADS. Nothing in Lean hashes anything: it is a label: what it is worth is what the hold of that sum in a sandbox is worth. -/
noncomputable def Try.pinned : Pinned := { name := "ytfldgeokigcokaa", sum := "005220774f568ca16b981c4bd6a800abe6760a7b3dca037a55c131b5a326aaec", checked := Try.checked }
namespace Rows
def none {H : Type} : Left H := { results := [], args := [] }

/-- 'laws.FnFrames': WHATEVER THE INPUT: true; the input reads as it did. -/
def fnFramesSpec : ChangeSpec := { name := "fnFrames", fn := fun _ => fun
  | [d] => { results := [.lit (.bool true)], args := [d] }
  | _ => none }
def fnFramesRow : OpenClaim := { program := "ytfldgeokigcokaa", sum := "005220774f568ca16b981c4bd6a800abe6760a7b3dca037a55c131b5a326aaec", func := "loop.example/g00205/laws.FnFrames", spec := "fnFrames", unfollowed := true, recurses := true, plainKeys := false, apart := false }
def FnFramesSaid : Prop := fnFramesRow.holds Try.pinned (OpenSpec.ofChange fnFramesSpec)

/-- ITS FALSE NEIGHBOUR: 'it returns false'. Refute it at one input. -/
def fnFramesWrong : ChangeSpec := { name := "fnFrames", fn := fun _ => fun
  | [d] => { results := [.lit (.bool false)], args := [d] }
  | _ => none }
def FnFramesWrongFalsely : Prop := fnFramesRow.holds Try.pinned (OpenSpec.ofChange fnFramesWrong)

/-- 'laws.FnExactEncodeTerm': WHATEVER THE INPUT: true; the input reads as it did. -/
def fnExactEncodeTermSpec : ChangeSpec := { name := "fnExactEncodeTerm", fn := fun _ => fun
  | [d1, d2] => { results := [.lit (.bool true)], args := [d1, d2] }
  | _ => none }
def fnExactEncodeTermRow : OpenClaim := { program := "ytfldgeokigcokaa", sum := "005220774f568ca16b981c4bd6a800abe6760a7b3dca037a55c131b5a326aaec", func := "loop.example/g00205/laws.FnExactEncodeTerm", spec := "fnExactEncodeTerm", unfollowed := true, recurses := true, plainKeys := false, apart := false }
def FnExactEncodeTermSaid : Prop := fnExactEncodeTermRow.holds Try.pinned (OpenSpec.ofChange fnExactEncodeTermSpec)

/-- ITS FALSE NEIGHBOUR: 'it returns false'. Refute it at one input. -/
def fnExactEncodeTermWrong : ChangeSpec := { name := "fnExactEncodeTerm", fn := fun _ => fun
  | [d1, d2] => { results := [.lit (.bool false)], args := [d1, d2] }
  | _ => none }
def FnExactEncodeTermWrongFalsely : Prop := fnExactEncodeTermRow.holds Try.pinned (OpenSpec.ofChange fnExactEncodeTermWrong)

/-- 'laws.FnExactDecodeTerm': WHATEVER THE INPUT: true; the input reads as it did. -/
def fnExactDecodeTermSpec : ChangeSpec := { name := "fnExactDecodeTerm", fn := fun _ => fun
  | [d1, d2] => { results := [.lit (.bool true)], args := [d1, d2] }
  | _ => none }
def fnExactDecodeTermRow : OpenClaim := { program := "ytfldgeokigcokaa", sum := "005220774f568ca16b981c4bd6a800abe6760a7b3dca037a55c131b5a326aaec", func := "loop.example/g00205/laws.FnExactDecodeTerm", spec := "fnExactDecodeTerm", inPlace := ["maps.clone"], unfollowed := true, recurses := true, plainKeys := false, apart := false }
def FnExactDecodeTermSaid : Prop := fnExactDecodeTermRow.holds Try.pinned (OpenSpec.ofChange fnExactDecodeTermSpec)

/-- ITS FALSE NEIGHBOUR: 'it returns false'. Refute it at one input. -/
def fnExactDecodeTermWrong : ChangeSpec := { name := "fnExactDecodeTerm", fn := fun _ => fun
  | [d1, d2] => { results := [.lit (.bool false)], args := [d1, d2] }
  | _ => none }
def FnExactDecodeTermWrongFalsely : Prop := fnExactDecodeTermRow.holds Try.pinned (OpenSpec.ofChange fnExactDecodeTermWrong)

/-- 'laws.FnExactDepthOf': WHATEVER THE INPUT: true; the input reads as it did. -/
def fnExactDepthOfSpec : ChangeSpec := { name := "fnExactDepthOf", fn := fun _ => fun
  | [d1, d2] => { results := [.lit (.bool true)], args := [d1, d2] }
  | _ => none }
def fnExactDepthOfRow : OpenClaim := { program := "ytfldgeokigcokaa", sum := "005220774f568ca16b981c4bd6a800abe6760a7b3dca037a55c131b5a326aaec", func := "loop.example/g00205/laws.FnExactDepthOf", spec := "fnExactDepthOf", unfollowed := true, recurses := true, plainKeys := false, apart := false }
def FnExactDepthOfSaid : Prop := fnExactDepthOfRow.holds Try.pinned (OpenSpec.ofChange fnExactDepthOfSpec)

/-- ITS FALSE NEIGHBOUR: 'it returns false'. Refute it at one input. -/
def fnExactDepthOfWrong : ChangeSpec := { name := "fnExactDepthOf", fn := fun _ => fun
  | [d1, d2] => { results := [.lit (.bool false)], args := [d1, d2] }
  | _ => none }
def FnExactDepthOfWrongFalsely : Prop := fnExactDepthOfRow.holds Try.pinned (OpenSpec.ofChange fnExactDepthOfWrong)

/-- 'laws.FnExactEncodeFrame': WHATEVER THE INPUT: true; the input reads as it did. -/
def fnExactEncodeFrameSpec : ChangeSpec := { name := "fnExactEncodeFrame", fn := fun _ => fun
  | [d1, d2, d3, d4, d5] => { results := [.lit (.bool true)], args := [d1, d2, d3, d4, d5] }
  | _ => none }
def fnExactEncodeFrameRow : OpenClaim := { program := "ytfldgeokigcokaa", sum := "005220774f568ca16b981c4bd6a800abe6760a7b3dca037a55c131b5a326aaec", func := "loop.example/g00205/laws.FnExactEncodeFrame", spec := "fnExactEncodeFrame", recurses := true, plainKeys := false, apart := false }
def FnExactEncodeFrameSaid : Prop := fnExactEncodeFrameRow.holds Try.pinned (OpenSpec.ofChange fnExactEncodeFrameSpec)

/-- ITS FALSE NEIGHBOUR: 'it returns false'. Refute it at one input. -/
def fnExactEncodeFrameWrong : ChangeSpec := { name := "fnExactEncodeFrame", fn := fun _ => fun
  | [d1, d2, d3, d4, d5] => { results := [.lit (.bool false)], args := [d1, d2, d3, d4, d5] }
  | _ => none }
def FnExactEncodeFrameWrongFalsely : Prop := fnExactEncodeFrameRow.holds Try.pinned (OpenSpec.ofChange fnExactEncodeFrameWrong)

/-- 'laws.FnExactDecodeFrame': WHATEVER THE INPUT: true; the input reads as it did. -/
def fnExactDecodeFrameSpec : ChangeSpec := { name := "fnExactDecodeFrame", fn := fun _ => fun
  | [d] => { results := [.lit (.bool true)], args := [d] }
  | _ => none }
def fnExactDecodeFrameRow : OpenClaim := { program := "ytfldgeokigcokaa", sum := "005220774f568ca16b981c4bd6a800abe6760a7b3dca037a55c131b5a326aaec", func := "loop.example/g00205/laws.FnExactDecodeFrame", spec := "fnExactDecodeFrame", unfollowed := true, recurses := true, plainKeys := false, apart := false }
def FnExactDecodeFrameSaid : Prop := fnExactDecodeFrameRow.holds Try.pinned (OpenSpec.ofChange fnExactDecodeFrameSpec)

/-- ITS FALSE NEIGHBOUR: 'it returns false'. Refute it at one input. -/
def fnExactDecodeFrameWrong : ChangeSpec := { name := "fnExactDecodeFrame", fn := fun _ => fun
  | [d] => { results := [.lit (.bool false)], args := [d] }
  | _ => none }
def FnExactDecodeFrameWrongFalsely : Prop := fnExactDecodeFrameRow.holds Try.pinned (OpenSpec.ofChange fnExactDecodeFrameWrong)

/- THE SECOND FORM. 'bulk': how many values and letters a reading holds, each counted each time it is reached (what is shared counts as often as it is met; a slice's spare places count too). A statement '..UptoSaid' is the law's where the arguments, and the package variables that the reading takes, are together of bulk at most 1048576: NARROWER than '..Said'. Prove '..Said' where nothing that the law and all that it calls make is longer than what came in: it says more and counts as full. Else prove '..UptoSaid'. A law counts once. -/
mutual
def uptoBulk {H : Type} : DataW H → Nat
  | .lit (.string bytes) => bytes.length + 1
  | .lit _ => 1
  | .nil => 1
  | .ptr d => uptoBulk d + 1
  | .slice elems spare => uptoBulkAll elems + uptoBulkAll spare + 1
  | .agg parts => uptoBulkAll parts + 1
  | .iface _ d => uptoBulk d + 1
  | .map entries => uptoBulkEntries entries + 1
  | .held _ => 1
def uptoBulkAll {H : Type} : List (DataW H) → Nat
  | [] => 0
  | d :: r => uptoBulk d + uptoBulkAll r
def uptoBulkEntries {H : Type} : List (Lit × DataW H) → Nat
  | [] => 0
  | x :: r => uptoBulkEntry x + uptoBulkEntries r
def uptoBulkEntry {H : Type} : Lit × DataW H → Nat
  | (.string bytes, d) => bytes.length + uptoBulk d + 1
  | (_, d) => uptoBulk d + 1
 end
def uptoSmall : (H : Type) → List (DataW H) → Bool := fun _ ds => decide (uptoBulkAll ds ≤ 1048576)
def OpenSpec.upto (s : _root_.Go.ChangeSpec) : _root_.Go.OpenSpec := { _root_.Go.OpenSpec.ofChange s with cond := some uptoSmall }

/-- 'laws.FnFrames', WHERE WHAT IT READS IS OF BULK AT MOST 1048576: true; the input reads as it did. -/
def fnFramesUptoRow : OpenClaim := { program := "ytfldgeokigcokaa", sum := "005220774f568ca16b981c4bd6a800abe6760a7b3dca037a55c131b5a326aaec", func := "loop.example/g00205/laws.FnFrames", spec := "fnFrames", unfollowed := true, recurses := true, plainKeys := false, apart := false, narrowed := true }
def FnFramesUptoSaid : Prop := fnFramesUptoRow.holds Try.pinned (OpenSpec.upto fnFramesSpec)

/-- 'laws.FnExactEncodeTerm', WHERE WHAT IT READS IS OF BULK AT MOST 1048576: true; the input reads as it did. -/
def fnExactEncodeTermUptoRow : OpenClaim := { program := "ytfldgeokigcokaa", sum := "005220774f568ca16b981c4bd6a800abe6760a7b3dca037a55c131b5a326aaec", func := "loop.example/g00205/laws.FnExactEncodeTerm", spec := "fnExactEncodeTerm", unfollowed := true, recurses := true, plainKeys := false, apart := false, narrowed := true }
def FnExactEncodeTermUptoSaid : Prop := fnExactEncodeTermUptoRow.holds Try.pinned (OpenSpec.upto fnExactEncodeTermSpec)

/-- 'laws.FnExactDecodeTerm', WHERE WHAT IT READS IS OF BULK AT MOST 1048576: true; the input reads as it did. -/
def fnExactDecodeTermUptoRow : OpenClaim := { program := "ytfldgeokigcokaa", sum := "005220774f568ca16b981c4bd6a800abe6760a7b3dca037a55c131b5a326aaec", func := "loop.example/g00205/laws.FnExactDecodeTerm", spec := "fnExactDecodeTerm", inPlace := ["maps.clone"], unfollowed := true, recurses := true, plainKeys := false, apart := false, narrowed := true }
def FnExactDecodeTermUptoSaid : Prop := fnExactDecodeTermUptoRow.holds Try.pinned (OpenSpec.upto fnExactDecodeTermSpec)

/-- 'laws.FnExactDepthOf', WHERE WHAT IT READS IS OF BULK AT MOST 1048576: true; the input reads as it did. -/
def fnExactDepthOfUptoRow : OpenClaim := { program := "ytfldgeokigcokaa", sum := "005220774f568ca16b981c4bd6a800abe6760a7b3dca037a55c131b5a326aaec", func := "loop.example/g00205/laws.FnExactDepthOf", spec := "fnExactDepthOf", unfollowed := true, recurses := true, plainKeys := false, apart := false, narrowed := true }
def FnExactDepthOfUptoSaid : Prop := fnExactDepthOfUptoRow.holds Try.pinned (OpenSpec.upto fnExactDepthOfSpec)

/-- 'laws.FnExactEncodeFrame', WHERE WHAT IT READS IS OF BULK AT MOST 1048576: true; the input reads as it did. -/
def fnExactEncodeFrameUptoRow : OpenClaim := { program := "ytfldgeokigcokaa", sum := "005220774f568ca16b981c4bd6a800abe6760a7b3dca037a55c131b5a326aaec", func := "loop.example/g00205/laws.FnExactEncodeFrame", spec := "fnExactEncodeFrame", recurses := true, plainKeys := false, apart := false, narrowed := true }
def FnExactEncodeFrameUptoSaid : Prop := fnExactEncodeFrameUptoRow.holds Try.pinned (OpenSpec.upto fnExactEncodeFrameSpec)

/-- 'laws.FnExactDecodeFrame', WHERE WHAT IT READS IS OF BULK AT MOST 1048576: true; the input reads as it did. -/
def fnExactDecodeFrameUptoRow : OpenClaim := { program := "ytfldgeokigcokaa", sum := "005220774f568ca16b981c4bd6a800abe6760a7b3dca037a55c131b5a326aaec", func := "loop.example/g00205/laws.FnExactDecodeFrame", spec := "fnExactDecodeFrame", unfollowed := true, recurses := true, plainKeys := false, apart := false, narrowed := true }
def FnExactDecodeFrameUptoSaid : Prop := fnExactDecodeFrameUptoRow.holds Try.pinned (OpenSpec.upto fnExactDecodeFrameSpec)

end Rows
end Go.Proofs.Ytfldgeokigcokaa
