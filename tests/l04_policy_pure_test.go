package tests

import (
	"math"
	"math/rand"
	"slices"
	"testing"

	"loop.example/g00205/impl"
)

// policies are ones without a fault, of every kind that chapter 4 tells apart, and ones with each fault.
func policies() [][]impl.Rule {
	r := rand.New(rand.NewSource(43))
	list := [][]impl.Rule{
		nil, {}, {{}}, {passOf(wholeSel(0))}, {dropOf(wholeSel(-1))}, {dropOf(impl.Sel{Proto: 1})}, {sealOf(wholeSel(0), 10)},
		{{Sel: wholeSel(0), Action: 4}}, {dropOf(selTo(0, 3, 5)), dropOf(wholeSel(0)), passOf(wholeSel(6)), sealOf(wholeSel(6), 1)},
		sealsOf(apart(12), 1), sealsOf(apart(20), 9), sealsOf(apart(21), 1), sealsOf(repeated(wholeSel(17), 20), 2),
		append(sealsOf(apart(19), 1), impl.Rule{Sel: wholeSel(0)}),
	}
	for n := 0; n <= 20; n++ {
		list = append(list, someRules(r, n))
	}
	return list
}

// roomyRules has room behind its end, so that an append to the copy would write into memory that the test sees.
func roomyRules(rules []impl.Rule) []impl.Rule {
	return append(make([]impl.Rule, 0, len(rules)+30), rules...)
}

func answersOfPolicy(rules []impl.Rule, p impl.Packet) []any {
	all := []any{
		impl.PolicyFault(rules), impl.FirstRule(rules, p), impl.ActionFor(rules, p),
		impl.ShadowedRules(rules), impl.TrimPolicy(rules), impl.PolicyText(rules),
	}
	for _, at := range placesAround(rules) {
		all = append(all, impl.SwapRules(rules, at))
	}
	for _, peer := range edgePeers {
		all = append(all, impl.RulesOf(rules, peer))
	}
	return all
}

func TestPolicyFunctionsChangeNoArgument(t *testing.T) {
	for _, rules := range policies() {
		for _, length := range []int{0, 1, 200, 201} {
			given, p := roomyRules(rules), udpPacket()
			p.Load = roomyCopy(filled(length, 7))
			answersOfPolicy(given, p)
			room := given[len(given):cap(given)]
			if !slices.Equal(given, rules) || !slices.Equal(room, make([]impl.Rule, len(room))) {
				t.Error("the rules changed:", rules)
			}
			behind := p.Load[len(p.Load):cap(p.Load)]
			if !slices.Equal(p.Load, filled(length, 7)) || !slices.Equal(behind, make([]byte, len(behind))) {
				t.Error("the load changed:", length)
			}
		}
	}
}

// overwrite writes over each list, as far as its memory goes.
func overwrite[T any](with T, lists ...[]T) {
	for _, list := range lists {
		whole := list[:cap(list)]
		for i := range whole {
			whole[i] = with
		}
	}
}

func TestPolicyAnswersAreNewMemory(t *testing.T) {
	wrong := impl.Rule{Sel: impl.Sel{Proto: 99}, Action: 99, Peer: 99}
	for _, rules := range policies() {
		given := roomyRules(rules)
		trimmed, trimmedAgain := impl.TrimPolicy(given), impl.TrimPolicy(given)
		swapped, swappedAgain := impl.SwapRules(given, 0), impl.SwapRules(given, 0)
		sels, selsAgain := impl.RulesOf(given, 1), impl.RulesOf(given, 1)
		places, placesAgain := impl.ShadowedRules(given), impl.ShadowedRules(given)
		first := impl.FirstRule(given, udpPacket())
		// What is held stays, whatever becomes of the arguments and of another answer, as far as their memory goes.
		overwrite(wrong, given, trimmedAgain.Rules, swappedAgain.Rules)
		overwrite(wrong.Sel, selsAgain.Sels)
		overwrite(99, placesAgain.List)
		for range 2 {
			wantRules(t, "trimmed", trimmed, wantedTrim(rules))
			wantRules(t, "changed", swapped, wantedSwap(rules, 0))
			wantSels(t, "of a peer", sels, wantedRulesOf(rules, 1))
			wantPlaces(t, "shadowed", places, wantedShadowed(rules))
			if first != wantedFirst(rules, udpPacket()) {
				t.Error("the first one changed:", rules, first)
			}
			// And what is asked anew is as it was.
			trimmed, swapped = impl.TrimPolicy(rules), impl.SwapRules(rules, 0)
			sels, places = impl.RulesOf(rules, 1), impl.ShadowedRules(rules)
		}
	}
}

func TestPolicyAnswersHangOnTheArgumentsAlone(t *testing.T) {
	list := policies()
	packets := []impl.Packet{udpPacket(), icmpPacket(), {Proto: 6, Ttl: 1}, {}}
	wantSameAgain(t, len(list), func(i int, roomy bool) []any {
		var all []any
		for _, p := range packets {
			rules := list[i]
			if roomy {
				rules = roomyRules(rules)
			}
			all = append(all, answersOfPolicy(rules, p)...)
		}
		return all
	})
}

func TestPolicyFunctionsAnswerAtTheEndsOfEveryFieldAtOnce(t *testing.T) {
	x := impl.Rule{}
	var fill func(field int)
	fill = func(field int) {
		if field < len(ruleFields) {
			for _, n := range []int64{math.MinInt64, 0, math.MaxInt64} {
				*ruleFields[field].of(&x) = n
				fill(field + 1)
			}
			return
		}
		code, rules := wantedRuleFault(x), []impl.Rule{x}
		if impl.PolicyFault(rules) != code || impl.FirstRule(rules, icmpPacket()).Code != code || impl.ActionFor(rules, icmpPacket()).Code != code ||
			impl.ShadowedRules(rules).Code != code || impl.TrimPolicy(rules).Code != code || impl.SwapRules(rules, 0).Code != code ||
			impl.PolicyText(rules).Code != code || impl.RulesOf(rules, 1).Code != code {
			t.Error(x)
		}
	}
	fill(0)
}
