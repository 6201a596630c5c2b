/-
  DERIVED. GIVEN WITH THE SEED: THE CARDS: each row of YtngkahchhioncaaDoorRows.lean that lists a variable, with what it lists TIED to the program's text (the seventh form; the later family's looks); each row that meets fmt, with fmt's text TOLD by the authors' own Lean function (tested against real Go, not proved from fmt's source: count such statements apart). THE CARD IS WHAT COUNTS. Prove the row's statement (the work); the ties are given (YtngkahchhioncaaDoorTie.lean); close each card by the builder's one call (the guide's Derived/Test/ToyasCard.lean, 'card_holds'). Laid BY PROGRAM, IN A SANDBOX (cutbox-door.mjs). By AI agents, Wed Nov 11 2026. No macro, syntax, notation, axiom, sorry.
-/
import Derived.Test.YtngkahchhioncaaDoorRows
import GoSem.ClaimSeven
namespace Go.Proofs.YtngkahchhioncaaDoor
namespace Rows

/-- THE TIED CARD OF 'laws.FnFirst'. -/
def fnFirstCard : Claim7 := { stood := { row := fnFirstRow, standIns := [], harness := (true, "e2bd02363cb27be64d8002c86bd7ed27cf17304fc92b8f096f6041ba4102c74f"), looks := false }, kinds := [], alts := [], laidByText := true, laidKinds := [.data, .data, .data], laidTests := true, laidLooks := .later }
def FnFirstCardSaid : Prop := Claim7.holds Tryd.pinned (.plain (OpenSpec.ofChange fnFirstSpec)) fnFirstCard

/-- THE TIED CARD OF 'laws.FnTrims'. -/
def fnTrimsCard : Claim7 := { stood := { row := fnTrimsRow, standIns := [], harness := (true, "e2bd02363cb27be64d8002c86bd7ed27cf17304fc92b8f096f6041ba4102c74f"), looks := false }, kinds := [], alts := [], laidByText := true, laidKinds := [.data, .data, .data], laidTests := true, laidLooks := .later }
def FnTrimsCardSaid : Prop := Claim7.holds Tryd.pinned (.plain (OpenSpec.ofChange fnTrimsSpec)) fnTrimsCard

/-- THE TIED CARD OF 'laws.FnExactPolicyFault'. -/
def fnExactPolicyFaultCard : Claim7 := { stood := { row := fnExactPolicyFaultRow, standIns := [], harness := (true, "e2bd02363cb27be64d8002c86bd7ed27cf17304fc92b8f096f6041ba4102c74f"), looks := false }, kinds := [], alts := [], laidByText := true, laidKinds := [.data, .data, .data], laidTests := true, laidLooks := .later }
def FnExactPolicyFaultCardSaid : Prop := Claim7.holds Tryd.pinned (.plain (OpenSpec.ofChange fnExactPolicyFaultSpec)) fnExactPolicyFaultCard

/-- THE TIED CARD OF 'laws.FnExactFirstRule'. -/
def fnExactFirstRuleCard : Claim7 := { stood := { row := fnExactFirstRuleRow, standIns := [], harness := (true, "e2bd02363cb27be64d8002c86bd7ed27cf17304fc92b8f096f6041ba4102c74f"), looks := false }, kinds := [], alts := [], laidByText := true, laidKinds := [.data, .data, .data], laidTests := true, laidLooks := .later }
def FnExactFirstRuleCardSaid : Prop := Claim7.holds Tryd.pinned (.plain (OpenSpec.ofChange fnExactFirstRuleSpec)) fnExactFirstRuleCard

/-- THE TIED CARD OF 'laws.FnExactActionFor'. -/
def fnExactActionForCard : Claim7 := { stood := { row := fnExactActionForRow, standIns := [], harness := (true, "e2bd02363cb27be64d8002c86bd7ed27cf17304fc92b8f096f6041ba4102c74f"), looks := false }, kinds := [], alts := [], laidByText := true, laidKinds := [.data, .data, .data], laidTests := true, laidLooks := .later }
def FnExactActionForCardSaid : Prop := Claim7.holds Tryd.pinned (.plain (OpenSpec.ofChange fnExactActionForSpec)) fnExactActionForCard

/-- THE TIED CARD OF 'laws.FnExactShadowedRules'. -/
def fnExactShadowedRulesCard : Claim7 := { stood := { row := fnExactShadowedRulesRow, standIns := [], harness := (true, "e2bd02363cb27be64d8002c86bd7ed27cf17304fc92b8f096f6041ba4102c74f"), looks := false }, kinds := [], alts := [], laidByText := true, laidKinds := [.data, .data, .data], laidTests := true, laidLooks := .later }
def FnExactShadowedRulesCardSaid : Prop := Claim7.holds Tryd.pinned (.plain (OpenSpec.ofChange fnExactShadowedRulesSpec)) fnExactShadowedRulesCard

/-- THE TIED CARD OF 'laws.FnExactTrimPolicy'. -/
def fnExactTrimPolicyCard : Claim7 := { stood := { row := fnExactTrimPolicyRow, standIns := [], harness := (true, "e2bd02363cb27be64d8002c86bd7ed27cf17304fc92b8f096f6041ba4102c74f"), looks := false }, kinds := [], alts := [], laidByText := true, laidKinds := [.data, .data, .data], laidTests := true, laidLooks := .later }
def FnExactTrimPolicyCardSaid : Prop := Claim7.holds Tryd.pinned (.plain (OpenSpec.ofChange fnExactTrimPolicySpec)) fnExactTrimPolicyCard

/-- THE TIED CARD OF 'laws.FnExactSwapRules'. -/
def fnExactSwapRulesCard : Claim7 := { stood := { row := fnExactSwapRulesRow, standIns := [], harness := (true, "e2bd02363cb27be64d8002c86bd7ed27cf17304fc92b8f096f6041ba4102c74f"), looks := false }, kinds := [], alts := [], laidByText := true, laidKinds := [.data, .data, .data], laidTests := true, laidLooks := .later }
def FnExactSwapRulesCardSaid : Prop := Claim7.holds Tryd.pinned (.plain (OpenSpec.ofChange fnExactSwapRulesSpec)) fnExactSwapRulesCard

/-- THE TIED CARD OF 'laws.FnExactPolicyText'. -/
def fnExactPolicyTextCard : Claim7 := { stood := { row := fnExactPolicyTextRow, standIns := [], harness := (true, "e2bd02363cb27be64d8002c86bd7ed27cf17304fc92b8f096f6041ba4102c74f"), looks := false }, kinds := [], alts := [], laidByText := true, laidKinds := [.data, .data, .data], laidTests := true, laidLooks := .later }
def FnExactPolicyTextCardSaid : Prop := Claim7.holds Tryd.pinned (.plain (OpenSpec.ofChange fnExactPolicyTextSpec)) fnExactPolicyTextCard

/-- THE TIED CARD OF 'laws.FnExactRulesOf'. -/
def fnExactRulesOfCard : Claim7 := { stood := { row := fnExactRulesOfRow, standIns := [], harness := (true, "e2bd02363cb27be64d8002c86bd7ed27cf17304fc92b8f096f6041ba4102c74f"), looks := false }, kinds := [], alts := [], laidByText := true, laidKinds := [.data, .data, .data], laidTests := true, laidLooks := .later }
def FnExactRulesOfCardSaid : Prop := Claim7.holds Tryd.pinned (.plain (OpenSpec.ofChange fnExactRulesOfSpec)) fnExactRulesOfCard

/-- THE SECOND FORM's CARD OF 'laws.FnFirst'. -/
def fnFirstUptoCard : Claim7 := { stood := { row := fnFirstUptoRow, standIns := [], harness := (true, "e2bd02363cb27be64d8002c86bd7ed27cf17304fc92b8f096f6041ba4102c74f"), looks := false }, kinds := [], alts := [], laidByText := true, laidKinds := [.data, .data, .data], laidTests := true, laidLooks := .later }
def FnFirstUptoCardSaid : Prop := Claim7.holds Tryd.pinned (.plain (OpenSpec.upto fnFirstSpec)) fnFirstUptoCard

/-- THE SECOND FORM's CARD OF 'laws.FnTrims'. -/
def fnTrimsUptoCard : Claim7 := { stood := { row := fnTrimsUptoRow, standIns := [], harness := (true, "e2bd02363cb27be64d8002c86bd7ed27cf17304fc92b8f096f6041ba4102c74f"), looks := false }, kinds := [], alts := [], laidByText := true, laidKinds := [.data, .data, .data], laidTests := true, laidLooks := .later }
def FnTrimsUptoCardSaid : Prop := Claim7.holds Tryd.pinned (.plain (OpenSpec.upto fnTrimsSpec)) fnTrimsUptoCard

/-- THE SECOND FORM's CARD OF 'laws.FnExactPolicyFault'. -/
def fnExactPolicyFaultUptoCard : Claim7 := { stood := { row := fnExactPolicyFaultUptoRow, standIns := [], harness := (true, "e2bd02363cb27be64d8002c86bd7ed27cf17304fc92b8f096f6041ba4102c74f"), looks := false }, kinds := [], alts := [], laidByText := true, laidKinds := [.data, .data, .data], laidTests := true, laidLooks := .later }
def FnExactPolicyFaultUptoCardSaid : Prop := Claim7.holds Tryd.pinned (.plain (OpenSpec.upto fnExactPolicyFaultSpec)) fnExactPolicyFaultUptoCard

/-- THE SECOND FORM's CARD OF 'laws.FnExactFirstRule'. -/
def fnExactFirstRuleUptoCard : Claim7 := { stood := { row := fnExactFirstRuleUptoRow, standIns := [], harness := (true, "e2bd02363cb27be64d8002c86bd7ed27cf17304fc92b8f096f6041ba4102c74f"), looks := false }, kinds := [], alts := [], laidByText := true, laidKinds := [.data, .data, .data], laidTests := true, laidLooks := .later }
def FnExactFirstRuleUptoCardSaid : Prop := Claim7.holds Tryd.pinned (.plain (OpenSpec.upto fnExactFirstRuleSpec)) fnExactFirstRuleUptoCard

/-- THE SECOND FORM's CARD OF 'laws.FnExactActionFor'. -/
def fnExactActionForUptoCard : Claim7 := { stood := { row := fnExactActionForUptoRow, standIns := [], harness := (true, "e2bd02363cb27be64d8002c86bd7ed27cf17304fc92b8f096f6041ba4102c74f"), looks := false }, kinds := [], alts := [], laidByText := true, laidKinds := [.data, .data, .data], laidTests := true, laidLooks := .later }
def FnExactActionForUptoCardSaid : Prop := Claim7.holds Tryd.pinned (.plain (OpenSpec.upto fnExactActionForSpec)) fnExactActionForUptoCard

/-- THE SECOND FORM's CARD OF 'laws.FnExactShadowedRules'. -/
def fnExactShadowedRulesUptoCard : Claim7 := { stood := { row := fnExactShadowedRulesUptoRow, standIns := [], harness := (true, "e2bd02363cb27be64d8002c86bd7ed27cf17304fc92b8f096f6041ba4102c74f"), looks := false }, kinds := [], alts := [], laidByText := true, laidKinds := [.data, .data, .data], laidTests := true, laidLooks := .later }
def FnExactShadowedRulesUptoCardSaid : Prop := Claim7.holds Tryd.pinned (.plain (OpenSpec.upto fnExactShadowedRulesSpec)) fnExactShadowedRulesUptoCard

/-- THE SECOND FORM's CARD OF 'laws.FnExactTrimPolicy'. -/
def fnExactTrimPolicyUptoCard : Claim7 := { stood := { row := fnExactTrimPolicyUptoRow, standIns := [], harness := (true, "e2bd02363cb27be64d8002c86bd7ed27cf17304fc92b8f096f6041ba4102c74f"), looks := false }, kinds := [], alts := [], laidByText := true, laidKinds := [.data, .data, .data], laidTests := true, laidLooks := .later }
def FnExactTrimPolicyUptoCardSaid : Prop := Claim7.holds Tryd.pinned (.plain (OpenSpec.upto fnExactTrimPolicySpec)) fnExactTrimPolicyUptoCard

/-- THE SECOND FORM's CARD OF 'laws.FnExactSwapRules'. -/
def fnExactSwapRulesUptoCard : Claim7 := { stood := { row := fnExactSwapRulesUptoRow, standIns := [], harness := (true, "e2bd02363cb27be64d8002c86bd7ed27cf17304fc92b8f096f6041ba4102c74f"), looks := false }, kinds := [], alts := [], laidByText := true, laidKinds := [.data, .data, .data], laidTests := true, laidLooks := .later }
def FnExactSwapRulesUptoCardSaid : Prop := Claim7.holds Tryd.pinned (.plain (OpenSpec.upto fnExactSwapRulesSpec)) fnExactSwapRulesUptoCard

/-- THE SECOND FORM's CARD OF 'laws.FnExactPolicyText'. -/
def fnExactPolicyTextUptoCard : Claim7 := { stood := { row := fnExactPolicyTextUptoRow, standIns := [], harness := (true, "e2bd02363cb27be64d8002c86bd7ed27cf17304fc92b8f096f6041ba4102c74f"), looks := false }, kinds := [], alts := [], laidByText := true, laidKinds := [.data, .data, .data], laidTests := true, laidLooks := .later }
def FnExactPolicyTextUptoCardSaid : Prop := Claim7.holds Tryd.pinned (.plain (OpenSpec.upto fnExactPolicyTextSpec)) fnExactPolicyTextUptoCard

/-- THE SECOND FORM's CARD OF 'laws.FnExactRulesOf'. -/
def fnExactRulesOfUptoCard : Claim7 := { stood := { row := fnExactRulesOfUptoRow, standIns := [], harness := (true, "e2bd02363cb27be64d8002c86bd7ed27cf17304fc92b8f096f6041ba4102c74f"), looks := false }, kinds := [], alts := [], laidByText := true, laidKinds := [.data, .data, .data], laidTests := true, laidLooks := .later }
def FnExactRulesOfUptoCardSaid : Prop := Claim7.holds Tryd.pinned (.plain (OpenSpec.upto fnExactRulesOfSpec)) fnExactRulesOfUptoCard
end Rows
end Go.Proofs.YtngkahchhioncaaDoor
