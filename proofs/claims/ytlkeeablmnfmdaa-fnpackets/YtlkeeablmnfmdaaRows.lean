/-
  No cell of these rows narrows 'for every input' (looked for: loops, veiled, ifaces, maps, wideKeys, modest, calm, conditions, laid).
  DERIVED. THE GIVEN ROWS OF THIS SEAT. 6 by the template 'for every input the law returns true; each argument reads behind the call as it read before'; 0 by the template 'total and deterministic' (their statements: YtlkeeablmnfmdaaTotals.lean).
  GIVEN WITH THE SEED: the statements are not yours to turn. If you find one false, say at which input.
  Laid BY PROGRAM, IN A SANDBOX (cutbox-rows.mjs): the forced cells as the released guide's own fill.sh prints them over the translation 3f60f8e98a6b06e7… (all of the seat's roots in one cut). By AI agents, Wed Nov 11 2026. No macro, syntax, notation, axiom, sorry.
-/
import Derived.Test.YtlkeeablmnfmdaaChecked
import GoSem.Claim
import GoSem.ClaimJoined
import GoSem.ClaimMapViews
import Derived.JoinedTies
import Derived.KernelRfl
namespace Go.Proofs.Ytlkeeablmnfmdaa
/- THE CELL 'sum', in the pinned program and in every row, IS THE sha256 OF THE DUMP (.gsa) THAT YtlkeeablmnfmdaaProg.lean LOADS. Nothing in Lean hashes anything: it is a label: what it is worth is what the hold of that sum in a sandbox is worth. -/
noncomputable def Try.pinned : Pinned := { name := "ytlkeeablmnfmdaa", sum := "3f60f8e98a6b06e75e4fed5ff8eb748a96278b9bc44bdd3067635bb4e642d201", checked := Try.checked }
namespace Rows
def none {H : Type} : Left H := { results := [], args := [] }

/-- 'laws.FnPackets': WHATEVER THE INPUT: true; the input reads as it did. -/
def fnPacketsSpec : ChangeSpec := { name := "fnPackets", fn := fun _ => fun
  | [d] => { results := [.lit (.bool true)], args := [d] }
  | _ => none }
def fnPacketsRow : OpenClaim := { program := "ytlkeeablmnfmdaa", sum := "3f60f8e98a6b06e75e4fed5ff8eb748a96278b9bc44bdd3067635bb4e642d201", func := "loop.example/g00205/laws.FnPackets", spec := "fnPackets", unfollowed := true, recurses := true, apart := false }
def FnPacketsSaid : Prop := fnPacketsRow.holds Try.pinned (OpenSpec.ofChange fnPacketsSpec)

/-- ITS FALSE NEIGHBOUR: 'it returns false'. Refute it at one input. -/
def fnPacketsWrong : ChangeSpec := { name := "fnPackets", fn := fun _ => fun
  | [d] => { results := [.lit (.bool false)], args := [d] }
  | _ => none }
def FnPacketsWrongFalsely : Prop := fnPacketsRow.holds Try.pinned (OpenSpec.ofChange fnPacketsWrong)

/-- 'laws.FnTtls': WHATEVER THE INPUT: true; the input reads as it did. -/
def fnTtlsSpec : ChangeSpec := { name := "fnTtls", fn := fun _ => fun
  | [d] => { results := [.lit (.bool true)], args := [d] }
  | _ => none }
def fnTtlsRow : OpenClaim := { program := "ytlkeeablmnfmdaa", sum := "3f60f8e98a6b06e75e4fed5ff8eb748a96278b9bc44bdd3067635bb4e642d201", func := "loop.example/g00205/laws.FnTtls", spec := "fnTtls", unfollowed := true, recurses := true, apart := false }
def FnTtlsSaid : Prop := fnTtlsRow.holds Try.pinned (OpenSpec.ofChange fnTtlsSpec)

/-- ITS FALSE NEIGHBOUR: 'it returns false'. Refute it at one input. -/
def fnTtlsWrong : ChangeSpec := { name := "fnTtls", fn := fun _ => fun
  | [d] => { results := [.lit (.bool false)], args := [d] }
  | _ => none }
def FnTtlsWrongFalsely : Prop := fnTtlsRow.holds Try.pinned (OpenSpec.ofChange fnTtlsWrong)

/-- 'laws.FnExactPacketFault': WHATEVER THE INPUT: true; the input reads as it did. -/
def fnExactPacketFaultSpec : ChangeSpec := { name := "fnExactPacketFault", fn := fun _ => fun
  | [d] => { results := [.lit (.bool true)], args := [d] }
  | _ => none }
def fnExactPacketFaultRow : OpenClaim := { program := "ytlkeeablmnfmdaa", sum := "3f60f8e98a6b06e75e4fed5ff8eb748a96278b9bc44bdd3067635bb4e642d201", func := "loop.example/g00205/laws.FnExactPacketFault", spec := "fnExactPacketFault", apart := false }
def FnExactPacketFaultSaid : Prop := fnExactPacketFaultRow.holds Try.pinned (OpenSpec.ofChange fnExactPacketFaultSpec)

/-- ITS FALSE NEIGHBOUR: 'it returns false'. Refute it at one input. -/
def fnExactPacketFaultWrong : ChangeSpec := { name := "fnExactPacketFault", fn := fun _ => fun
  | [d] => { results := [.lit (.bool false)], args := [d] }
  | _ => none }
def FnExactPacketFaultWrongFalsely : Prop := fnExactPacketFaultRow.holds Try.pinned (OpenSpec.ofChange fnExactPacketFaultWrong)

/-- 'laws.FnExactBuildPacket': WHATEVER THE INPUT: true; the input reads as it did. -/
def fnExactBuildPacketSpec : ChangeSpec := { name := "fnExactBuildPacket", fn := fun _ => fun
  | [d] => { results := [.lit (.bool true)], args := [d] }
  | _ => none }
def fnExactBuildPacketRow : OpenClaim := { program := "ytlkeeablmnfmdaa", sum := "3f60f8e98a6b06e75e4fed5ff8eb748a96278b9bc44bdd3067635bb4e642d201", func := "loop.example/g00205/laws.FnExactBuildPacket", spec := "fnExactBuildPacket", apart := false }
def FnExactBuildPacketSaid : Prop := fnExactBuildPacketRow.holds Try.pinned (OpenSpec.ofChange fnExactBuildPacketSpec)

/-- ITS FALSE NEIGHBOUR: 'it returns false'. Refute it at one input. -/
def fnExactBuildPacketWrong : ChangeSpec := { name := "fnExactBuildPacket", fn := fun _ => fun
  | [d] => { results := [.lit (.bool false)], args := [d] }
  | _ => none }
def FnExactBuildPacketWrongFalsely : Prop := fnExactBuildPacketRow.holds Try.pinned (OpenSpec.ofChange fnExactBuildPacketWrong)

/-- 'laws.FnExactParsePacket': WHATEVER THE INPUT: true; the input reads as it did. -/
def fnExactParsePacketSpec : ChangeSpec := { name := "fnExactParsePacket", fn := fun _ => fun
  | [d] => { results := [.lit (.bool true)], args := [d] }
  | _ => none }
def fnExactParsePacketRow : OpenClaim := { program := "ytlkeeablmnfmdaa", sum := "3f60f8e98a6b06e75e4fed5ff8eb748a96278b9bc44bdd3067635bb4e642d201", func := "loop.example/g00205/laws.FnExactParsePacket", spec := "fnExactParsePacket", unfollowed := true, recurses := true, apart := false }
def FnExactParsePacketSaid : Prop := fnExactParsePacketRow.holds Try.pinned (OpenSpec.ofChange fnExactParsePacketSpec)

/-- ITS FALSE NEIGHBOUR: 'it returns false'. Refute it at one input. -/
def fnExactParsePacketWrong : ChangeSpec := { name := "fnExactParsePacket", fn := fun _ => fun
  | [d] => { results := [.lit (.bool false)], args := [d] }
  | _ => none }
def FnExactParsePacketWrongFalsely : Prop := fnExactParsePacketRow.holds Try.pinned (OpenSpec.ofChange fnExactParsePacketWrong)

/-- 'laws.FnExactTtlDown': WHATEVER THE INPUT: true; the input reads as it did. -/
def fnExactTtlDownSpec : ChangeSpec := { name := "fnExactTtlDown", fn := fun _ => fun
  | [d] => { results := [.lit (.bool true)], args := [d] }
  | _ => none }
def fnExactTtlDownRow : OpenClaim := { program := "ytlkeeablmnfmdaa", sum := "3f60f8e98a6b06e75e4fed5ff8eb748a96278b9bc44bdd3067635bb4e642d201", func := "loop.example/g00205/laws.FnExactTtlDown", spec := "fnExactTtlDown", unfollowed := true, recurses := true, apart := false }
def FnExactTtlDownSaid : Prop := fnExactTtlDownRow.holds Try.pinned (OpenSpec.ofChange fnExactTtlDownSpec)

/-- ITS FALSE NEIGHBOUR: 'it returns false'. Refute it at one input. -/
def fnExactTtlDownWrong : ChangeSpec := { name := "fnExactTtlDown", fn := fun _ => fun
  | [d] => { results := [.lit (.bool false)], args := [d] }
  | _ => none }
def FnExactTtlDownWrongFalsely : Prop := fnExactTtlDownRow.holds Try.pinned (OpenSpec.ofChange fnExactTtlDownWrong)

/- THE SECOND FORM. 'bulk': how many values and letters a reading holds, each counted each time it is reached (what is shared counts as often as it is met; a slice's spare places count too). A statement '..UptoSaid' is the law's where the arguments, and the package variables that the reading takes, are together of bulk at most 1048576: NARROWER than '..Said'. Prove '..Said' where nothing that the law and all that it calls make is longer than what came in: it says more and counts as full. Else prove '..UptoSaid'. A law counts once. -/
mutual
def uptoBulk {H : Type} : DataW H → Nat
  | .lit (.string bytes) => bytes.length + 1
  | .lit _ => 1
  | .nil => 1
  | .ptr d => uptoBulk d + 1
  | .slice elems spare => uptoBulkAll elems + uptoBulkAll spare + 1
  | .agg parts => uptoBulkAll parts + 1
  | .iface _ d => uptoBulk d + 1
  | .map entries => uptoBulkEntries entries + 1
  | .held _ => 1
def uptoBulkAll {H : Type} : List (DataW H) → Nat
  | [] => 0
  | d :: r => uptoBulk d + uptoBulkAll r
def uptoBulkEntries {H : Type} : List (Lit × DataW H) → Nat
  | [] => 0
  | x :: r => uptoBulkEntry x + uptoBulkEntries r
def uptoBulkEntry {H : Type} : Lit × DataW H → Nat
  | (.string bytes, d) => bytes.length + uptoBulk d + 1
  | (_, d) => uptoBulk d + 1
 end
def uptoSmall : (H : Type) → List (DataW H) → Bool := fun _ ds => decide (uptoBulkAll ds ≤ 1048576)
def OpenSpec.upto (s : _root_.Go.ChangeSpec) : _root_.Go.OpenSpec := { _root_.Go.OpenSpec.ofChange s with cond := some uptoSmall }

/-- 'laws.FnPackets', WHERE WHAT IT READS IS OF BULK AT MOST 1048576: true; the input reads as it did. -/
def fnPacketsUptoRow : OpenClaim := { program := "ytlkeeablmnfmdaa", sum := "3f60f8e98a6b06e75e4fed5ff8eb748a96278b9bc44bdd3067635bb4e642d201", func := "loop.example/g00205/laws.FnPackets", spec := "fnPackets", unfollowed := true, recurses := true, apart := false, narrowed := true }
def FnPacketsUptoSaid : Prop := fnPacketsUptoRow.holds Try.pinned (OpenSpec.upto fnPacketsSpec)

/-- 'laws.FnTtls', WHERE WHAT IT READS IS OF BULK AT MOST 1048576: true; the input reads as it did. -/
def fnTtlsUptoRow : OpenClaim := { program := "ytlkeeablmnfmdaa", sum := "3f60f8e98a6b06e75e4fed5ff8eb748a96278b9bc44bdd3067635bb4e642d201", func := "loop.example/g00205/laws.FnTtls", spec := "fnTtls", unfollowed := true, recurses := true, apart := false, narrowed := true }
def FnTtlsUptoSaid : Prop := fnTtlsUptoRow.holds Try.pinned (OpenSpec.upto fnTtlsSpec)

/-- 'laws.FnExactPacketFault', WHERE WHAT IT READS IS OF BULK AT MOST 1048576: true; the input reads as it did. -/
def fnExactPacketFaultUptoRow : OpenClaim := { program := "ytlkeeablmnfmdaa", sum := "3f60f8e98a6b06e75e4fed5ff8eb748a96278b9bc44bdd3067635bb4e642d201", func := "loop.example/g00205/laws.FnExactPacketFault", spec := "fnExactPacketFault", apart := false, narrowed := true }
def FnExactPacketFaultUptoSaid : Prop := fnExactPacketFaultUptoRow.holds Try.pinned (OpenSpec.upto fnExactPacketFaultSpec)

/-- 'laws.FnExactBuildPacket', WHERE WHAT IT READS IS OF BULK AT MOST 1048576: true; the input reads as it did. -/
def fnExactBuildPacketUptoRow : OpenClaim := { program := "ytlkeeablmnfmdaa", sum := "3f60f8e98a6b06e75e4fed5ff8eb748a96278b9bc44bdd3067635bb4e642d201", func := "loop.example/g00205/laws.FnExactBuildPacket", spec := "fnExactBuildPacket", apart := false, narrowed := true }
def FnExactBuildPacketUptoSaid : Prop := fnExactBuildPacketUptoRow.holds Try.pinned (OpenSpec.upto fnExactBuildPacketSpec)

/-- 'laws.FnExactParsePacket', WHERE WHAT IT READS IS OF BULK AT MOST 1048576: true; the input reads as it did. -/
def fnExactParsePacketUptoRow : OpenClaim := { program := "ytlkeeablmnfmdaa", sum := "3f60f8e98a6b06e75e4fed5ff8eb748a96278b9bc44bdd3067635bb4e642d201", func := "loop.example/g00205/laws.FnExactParsePacket", spec := "fnExactParsePacket", unfollowed := true, recurses := true, apart := false, narrowed := true }
def FnExactParsePacketUptoSaid : Prop := fnExactParsePacketUptoRow.holds Try.pinned (OpenSpec.upto fnExactParsePacketSpec)

/-- 'laws.FnExactTtlDown', WHERE WHAT IT READS IS OF BULK AT MOST 1048576: true; the input reads as it did. -/
def fnExactTtlDownUptoRow : OpenClaim := { program := "ytlkeeablmnfmdaa", sum := "3f60f8e98a6b06e75e4fed5ff8eb748a96278b9bc44bdd3067635bb4e642d201", func := "loop.example/g00205/laws.FnExactTtlDown", spec := "fnExactTtlDown", unfollowed := true, recurses := true, apart := false, narrowed := true }
def FnExactTtlDownUptoSaid : Prop := fnExactTtlDownUptoRow.holds Try.pinned (OpenSpec.upto fnExactTtlDownSpec)

end Rows
end Go.Proofs.Ytlkeeablmnfmdaa
