package tests

import (
	"fmt"
	"math"
	"math/rand"
	"net/netip"
	"reflect"
	"slices"
	"strings"
	"testing"

	"loop.example/g00205/impl"
)

// ruleFields names every number of a rule.
var ruleFields = []struct {
	name string
	of   func(x *impl.Rule) *int64
}{
	{"From.Low", func(x *impl.Rule) *int64 { return &x.Sel.From.Low }},
	{"From.High", func(x *impl.Rule) *int64 { return &x.Sel.From.High }},
	{"To.Low", func(x *impl.Rule) *int64 { return &x.Sel.To.Low }},
	{"To.High", func(x *impl.Rule) *int64 { return &x.Sel.To.High }},
	{"FromP.Low", func(x *impl.Rule) *int64 { return &x.Sel.FromP.Low }},
	{"FromP.High", func(x *impl.Rule) *int64 { return &x.Sel.FromP.High }},
	{"ToP.Low", func(x *impl.Rule) *int64 { return &x.Sel.ToP.Low }},
	{"ToP.High", func(x *impl.Rule) *int64 { return &x.Sel.ToP.High }},
	{"Proto", func(x *impl.Rule) *int64 { return &x.Sel.Proto }},
	{"Action", func(x *impl.Rule) *int64 { return &x.Action }},
	{"Peer", func(x *impl.Rule) *int64 { return &x.Peer }},
}

var edgePeers = []int64{math.MinInt64, -1, 0, 1, 2, 5, 8, 9, 10, 11, math.MaxInt64}

func dropOf(x impl.Sel) impl.Rule {
	return impl.Rule{Sel: x, Action: 1}
}

func passOf(x impl.Sel) impl.Rule {
	return impl.Rule{Sel: x, Action: 2}
}

func sealOf(x impl.Sel, peer int64) impl.Rule {
	return impl.Rule{Sel: x, Action: 3, Peer: peer}
}

func sealsOf(list []impl.Sel, peer int64) []impl.Rule {
	var rules []impl.Rule
	for _, x := range list {
		rules = append(rules, sealOf(x, peer))
	}
	return rules
}

func joined(lists ...[]impl.Rule) []impl.Rule {
	return slices.Concat(lists...)
}

func packetTo(to int64) impl.Packet {
	return impl.Packet{To: to, Proto: 1, Ttl: 1}
}

func wantedRuleFault(x impl.Rule) int64 {
	if code := wantedSelFault(x.Sel); code != impl.OK {
		return code
	}
	switch {
	case x.Action == 1 || x.Action == 2:
		if x.Peer != 0 {
			return impl.ErrForm
		}
	case x.Action == 3:
		if x.Peer < 1 || x.Peer > 9 {
			return impl.ErrForm
		}
	default:
		return impl.ErrRange
	}
	return impl.OK
}

func wantedPolicyFault(rules []impl.Rule) int64 {
	if len(rules) > 20 {
		return impl.ErrMany
	}
	for _, x := range rules {
		if code := wantedRuleFault(x); code != impl.OK {
			return code
		}
	}
	return impl.OK
}

func wantedFirst(rules []impl.Rule, p impl.Packet) impl.RuleResult {
	if code := wantedPolicyFault(rules); code != impl.OK {
		return impl.RuleResult{Code: code}
	}
	if code := wantedFault(p); code != impl.OK {
		return impl.RuleResult{Code: code}
	}
	at := slices.IndexFunc(rules, func(x impl.Rule) bool { return wantedHolds(x.Sel, p) })
	if at < 0 {
		return impl.RuleResult{Code: impl.ErrNone}
	}
	return impl.RuleResult{At: int64(at), Rule: rules[at]}
}

func wantedAction(rules []impl.Rule, p impl.Packet) impl.IntResult {
	first := wantedFirst(rules, p)
	if first.Code == impl.ErrNone {
		return impl.IntResult{Value: 1}
	}
	return impl.IntResult{Code: first.Code, Value: first.Rule.Action}
}

// wantedShadowed goes through each two places, the later one first.
func wantedShadowed(rules []impl.Rule) impl.IntsResult {
	if code := wantedPolicyFault(rules); code != impl.OK {
		return impl.IntsResult{Code: code}
	}
	var places []int64
	for at := len(rules) - 1; at >= 0; at-- {
		within := func(ahead impl.Rule) bool { return wantedWithin(rules[at].Sel, ahead.Sel) }
		if slices.ContainsFunc(rules[:at], within) {
			places = append(places, int64(at))
		}
	}
	slices.Reverse(places)
	return impl.IntsResult{List: places}
}

func wantedTrim(rules []impl.Rule) impl.RulesResult {
	shadowed := wantedShadowed(rules)
	if shadowed.Code != impl.OK {
		return impl.RulesResult{Code: shadowed.Code}
	}
	kept := slices.Clone(rules)
	for i := len(shadowed.List) - 1; i >= 0; i-- {
		kept = slices.Delete(kept, int(shadowed.List[i]), int(shadowed.List[i])+1)
	}
	return impl.RulesResult{Rules: kept}
}

func wantedSwap(rules []impl.Rule, at int64) impl.RulesResult {
	if code := wantedPolicyFault(rules); code != impl.OK {
		return impl.RulesResult{Code: code}
	}
	for i := 1; i < len(rules); i++ {
		if int64(i) != at+1 {
			continue
		}
		a, b := rules[i-1], rules[i]
		if wantedMeet(a.Sel, b.Sel).Code == impl.OK && [2]int64{a.Action, a.Peer} != [2]int64{b.Action, b.Peer} {
			return impl.RulesResult{Code: impl.ErrForm}
		}
		return impl.RulesResult{Rules: joined(rules[:i-1], []impl.Rule{b, a}, rules[i+1:])}
	}
	return impl.RulesResult{Code: impl.ErrRange}
}

func wantedText(rules []impl.Rule) impl.TextResult {
	if code := wantedPolicyFault(rules); code != impl.OK {
		return impl.TextResult{Code: code}
	}
	dotted := func(a int64) netip.Addr {
		return netip.AddrFrom4([4]byte{byte(a >> 24), byte(a >> 16), byte(a >> 8), byte(a)})
	}
	text := ""
	for _, x := range rules {
		s := x.Sel
		text += fmt.Sprintf("%s %v-%v %v-%v %d %d-%d", []string{"", "drop", "pass", "seal"}[x.Action],
			dotted(s.From.Low), dotted(s.From.High), dotted(s.To.Low), dotted(s.To.High), s.Proto, s.ToP.Low, s.ToP.High)
		if x.Action == 3 {
			text += fmt.Sprint(" ", x.Peer)
		}
		text += "\n"
	}
	return impl.TextResult{Text: text}
}

func wantedRulesOf(rules []impl.Rule, peer int64) impl.SelsResult {
	if code := wantedPolicyFault(rules); code != impl.OK {
		return impl.SelsResult{Code: code}
	}
	if peer < 1 || peer > 9 {
		return impl.SelsResult{Code: impl.ErrRange}
	}
	var sels []impl.Sel
	for _, x := range rules {
		if x.Action == 3 && x.Peer == peer {
			sels = append(sels, x.Sel)
		}
	}
	return impl.SelsResult{Sels: sels[:min(12, len(sels))]}
}

// wantRules fails the test unless got is want; no list and an empty one are the same.
func wantRules(t *testing.T, what string, got impl.RulesResult, want impl.RulesResult) {
	t.Helper()
	if got.Code != want.Code || !slices.Equal(got.Rules, want.Rules) {
		t.Errorf("%s: %v, want %v", what, got, want)
	}
}

func wantPlaces(t *testing.T, what string, got impl.IntsResult, want impl.IntsResult) {
	t.Helper()
	if got.Code != want.Code || !slices.Equal(got.List, want.List) {
		t.Errorf("%s: %v, want %v", what, got, want)
	}
}

// wantPolicy asks every function of chapter 4, at each place and for each peer, and at ones that there are not.
func wantPolicy(t *testing.T, what string, rules []impl.Rule, packets ...impl.Packet) {
	t.Helper()
	if got, want := impl.PolicyFault(rules), wantedPolicyFault(rules); got != want {
		t.Errorf("%s: %v: fault %d, want %d", what, rules, got, want)
	}
	for _, p := range packets {
		if got, want := impl.FirstRule(rules, p), wantedFirst(rules, p); got != want {
			t.Errorf("%s: %v: first for %v: %v, want %v", what, rules, p, got, want)
		}
		if got, want := impl.ActionFor(rules, p), wantedAction(rules, p); got != want {
			t.Errorf("%s: %v: action for %v: %v, want %v", what, rules, p, got, want)
		}
	}
	wantPlaces(t, what+", shadowed", impl.ShadowedRules(rules), wantedShadowed(rules))
	wantRules(t, what+", trimmed", impl.TrimPolicy(rules), wantedTrim(rules))
	for _, at := range placesAround(rules) {
		wantRules(t, fmt.Sprint(what, ", changed at ", at), impl.SwapRules(rules, at), wantedSwap(rules, at))
	}
	if got, want := impl.PolicyText(rules), wantedText(rules); got != want {
		t.Errorf("%s: %v, want %v", what, got, want)
	}
	for _, peer := range edgePeers {
		wantSels(t, fmt.Sprint(what, ", of peer ", peer), impl.RulesOf(rules, peer), wantedRulesOf(rules, peer))
	}
}

// placesAround are those of the list, those next to them, and the ends of int64.
func placesAround[T any](list []T) []int64 {
	places := []int64{math.MinInt64, math.MinInt64 + 1, math.MaxInt64 - 1, math.MaxInt64, 1 << 32}
	for at := int64(-2); at <= int64(len(list))+1; at++ {
		places = append(places, at)
	}
	return places
}

// wantAllCodes fails the test unless every function tells the code, and nothing beside it, whatever else it is given.
func wantAllCodes(t *testing.T, what string, rules []impl.Rule, code int64) {
	t.Helper()
	if got := impl.PolicyFault(rules); got != code {
		t.Errorf("%s: fault %d, want %d", what, got, code)
	}
	for _, p := range []impl.Packet{icmpPacket(), udpPacket(), {}, {Proto: 1, Ttl: 1, ToP: 1}} {
		if got := impl.FirstRule(rules, p); got != (impl.RuleResult{Code: code}) {
			t.Errorf("%s: first %v, want code %d", what, got, code)
		}
		if got := impl.ActionFor(rules, p); got != (impl.IntResult{Code: code}) {
			t.Errorf("%s: action %v, want code %d", what, got, code)
		}
	}
	wantPlaces(t, what+", shadowed", impl.ShadowedRules(rules), impl.IntsResult{Code: code})
	wantRules(t, what+", trimmed", impl.TrimPolicy(rules), impl.RulesResult{Code: code})
	for _, at := range placesAround(rules) {
		wantRules(t, what+", changed", impl.SwapRules(rules, at), impl.RulesResult{Code: code})
	}
	if got := impl.PolicyText(rules); got != (impl.TextResult{Code: code}) {
		t.Errorf("%s: %v, want code %d", what, got, code)
	}
	for _, peer := range edgePeers {
		wantSels(t, what+", of a peer", impl.RulesOf(rules, peer), impl.SelsResult{Code: code})
	}
}

// someRule has no fault; few actions and peers, so that two of them are often the same.
func someRule(r *rand.Rand) impl.Rule {
	x := impl.Rule{Sel: someSel(r), Action: 1 + r.Int63n(3)}
	if x.Action == 3 {
		x.Peer = 1 + r.Int63n(2)
	}
	return x
}

func someRules(r *rand.Rand, n int) []impl.Rule {
	rules := make([]impl.Rule, n)
	for i := range rules {
		rules[i] = someRule(r)
		if i > 0 && r.Intn(6) == 0 {
			rules[i].Sel = rules[r.Intn(i)].Sel
		}
	}
	return rules
}

func selsOf(rules []impl.Rule) []impl.Sel {
	var list []impl.Sel
	for _, x := range rules {
		list = append(list, x.Sel)
	}
	return list
}

func packetsNear(r *rand.Rand, rules []impl.Rule, n int) []impl.Packet {
	near := append(selsOf(rules), wholeSel(0))
	packets := make([]impl.Packet, n)
	for i := range packets {
		packets[i] = packetNear(r, near...)
	}
	return packets
}

func TestNumbersOfThePolicyAreThoseOfTheDocument(t *testing.T) {
	numbers := []int64{impl.ActionDrop, impl.ActionPass, impl.ActionSeal, impl.MaxRules}
	if !slices.Equal(numbers, []int64{1, 2, 3, 20}) {
		t.Error(numbers)
	}
}

func TestPolicyFaultOfEveryLength(t *testing.T) {
	for length := 0; length <= 50; length++ {
		rules := slices.Repeat([]impl.Rule{passOf(wholeSel(0))}, length)
		if length > 20 {
			wantAllCodes(t, fmt.Sprint(length, " rules"), rules, impl.ErrMany)
			continue
		}
		wantPolicy(t, fmt.Sprint(length, " rules"), rules, icmpPacket(), impl.Packet{})
	}
	wantPolicy(t, "no list", nil, icmpPacket(), impl.Packet{})
}

func TestEveryActionWithEveryPeer(t *testing.T) {
	right := map[[2]int64]bool{{1, 0}: true, {2, 0}: true}
	for peer := int64(1); peer <= 9; peer++ {
		right[[2]int64{3, peer}] = true
	}
	for _, action := range []int64{math.MinInt64, -3, -1, 0, 1, 2, 3, 4, 5, 1 + 1<<32, math.MaxInt64} {
		for _, peer := range append(edgePeers, 3, 4, 6, 7, 1+1<<32) {
			code := int64(impl.OK)
			switch {
			case action < 1 || action > 3:
				code = impl.ErrRange
			case !right[[2]int64{action, peer}]:
				code = impl.ErrForm
			}
			rules := []impl.Rule{{Sel: wholeSel(0), Action: action, Peer: peer}}
			if code != impl.OK {
				wantAllCodes(t, fmt.Sprint("action ", action, " with peer ", peer), rules, code)
				continue
			}
			wantPolicy(t, "an action with its peer", rules, icmpPacket())
			if got := impl.ActionFor(rules, icmpPacket()); got != (impl.IntResult{Value: action}) {
				t.Errorf("action %d: %v", action, got)
			}
		}
	}
}

func TestPolicyFaultOfTwoFaultsIsTheFirstNamed(t *testing.T) {
	good, outOf, form := wholeSel(0), wholeSel(256), impl.Sel{Proto: 1}
	cases := []struct {
		what string
		x    impl.Rule
		code int64
	}{
		{"the selector's range, and no action", impl.Rule{Sel: outOf}, impl.ErrRange},
		{"the selector's form ahead of the action's range", impl.Rule{Sel: form, Action: 4}, impl.ErrForm},
		{"the selector's form, no action, and a peer", impl.Rule{Sel: form, Action: 0, Peer: 10}, impl.ErrForm},
		{"the selector's range ahead of the peer", impl.Rule{Sel: outOf, Action: 3, Peer: 0}, impl.ErrRange},
		{"the action ahead of the peer", impl.Rule{Sel: good, Action: 0, Peer: 1}, impl.ErrRange},
		{"an action above, with the peer of none", impl.Rule{Sel: good, Action: 4, Peer: 10}, impl.ErrRange},
		{"the peer alone", impl.Rule{Sel: good, Action: 3, Peer: 10}, impl.ErrForm},
		{"the action alone", impl.Rule{Sel: good, Action: 4}, impl.ErrRange},
		{"the zero value", impl.Rule{}, impl.ErrRange},
	}
	for _, c := range cases {
		wantAllCodes(t, c.what, []impl.Rule{c.x}, c.code)
	}
}

func TestPolicyFaultGoesRuleByRule(t *testing.T) {
	good := slices.Repeat([]impl.Rule{dropOf(wholeSel(0))}, 18)
	outOf, form := dropOf(wholeSel(-1)), dropOf(impl.Sel{Proto: 1})
	noAction, noSealPeer, dropPeer := impl.Rule{Sel: wholeSel(0)}, sealOf(wholeSel(0), 0), impl.Rule{Sel: wholeSel(0), Action: 1, Peer: 1}
	faults := []struct {
		what string
		x    impl.Rule
		code int64
	}{
		{"a selector out of its range", outOf, impl.ErrRange},
		{"a selector of no form", form, impl.ErrForm},
		{"no action", noAction, impl.ErrRange},
		{"a seal for no peer", noSealPeer, impl.ErrForm},
		{"a drop for a peer", dropPeer, impl.ErrForm},
	}
	for _, first := range faults {
		wantAllCodes(t, first.what+", alone", []impl.Rule{first.x}, first.code)
		wantAllCodes(t, first.what+", the first", joined([]impl.Rule{first.x}, good), first.code)
		wantAllCodes(t, first.what+", the last", joined(good, good[:1], []impl.Rule{first.x}), first.code)
		for _, second := range faults {
			what := first.what + " ahead of " + second.what
			wantAllCodes(t, what, []impl.Rule{first.x, second.x}, first.code)
			wantAllCodes(t, what+", at both ends", joined([]impl.Rule{first.x}, good, []impl.Rule{second.x}), first.code)
			wantAllCodes(t, what+", one too many", joined([]impl.Rule{first.x}, good, good[:1], []impl.Rule{second.x}), impl.ErrMany)
		}
	}
}

func TestPolicyFaultAtTheEndsOfEveryField(t *testing.T) {
	ends := []int64{math.MinInt64, math.MinInt64 + 1, -1 << 32, -1, 0, 1, 3, 4, 9, 10, 255, 256, 65535, 65536, 4294967295, 4294967296, math.MaxInt64 - 1, math.MaxInt64}
	good := []impl.Rule{passOf(selTo(6, 0, 9)), sealOf(selTo(1, 0, 9), 9)}
	codes := map[int64]int{}
	for _, base := range []impl.Rule{sealOf(wholeSel(6), 3), dropOf(wholeSel(1)), passOf(wholeSel(0))} {
		for _, field := range ruleFields {
			for _, n := range ends {
				x := base
				*field.of(&x) = n
				code := wantedRuleFault(x)
				codes[code]++
				for at := 0; at <= len(good); at++ {
					rules := slices.Insert(slices.Clone(good), at, x)
					what := fmt.Sprint(field.name, " ", n, " in the rule ", at)
					if code != impl.OK {
						wantAllCodes(t, what, rules, code)
						continue
					}
					wantPolicy(t, what, rules, icmpPacket(), udpPacket())
				}
			}
		}
	}
	if codes[impl.OK] < 50 || codes[impl.ErrRange] < 50 || codes[impl.ErrForm] < 10 {
		t.Error("not every code was asked for:", codes)
	}
}

func TestTheFirstRuleThatHoldsAPacketDecides(t *testing.T) {
	rules := []impl.Rule{
		sealOf(selTo(0, 0, 9), 4),
		passOf(selTo(0, 5, 19)),
		dropOf(selTo(0, 0, 29)),
		sealOf(selTo(0, 40, 49), 5),
	}
	cases := []struct {
		what string
		to   int64
		at   int64
	}{
		{"the first and the third", 0, 0},
		{"the first three", 5, 0},
		{"the last one of the first", 9, 0},
		{"the second and the third", 10, 1},
		{"the third alone", 20, 2},
		{"the last alone", 40, 3},
		{"the last one of the last", 49, 3},
		{"none, between two", 30, -1},
		{"none, behind all", 50, -1},
		{"none, the last address", topAddress, -1},
	}
	for _, c := range cases {
		first, action := impl.RuleResult{Code: impl.ErrNone}, impl.IntResult{Value: 1}
		if c.at >= 0 {
			first, action = impl.RuleResult{At: c.at, Rule: rules[c.at]}, impl.IntResult{Value: rules[c.at].Action}
		}
		if got := impl.FirstRule(rules, packetTo(c.to)); got != first {
			t.Errorf("%s: %v, want %v", c.what, got, first)
		}
		if got := impl.ActionFor(rules, packetTo(c.to)); got != action {
			t.Errorf("%s: %v, want %v", c.what, got, action)
		}
	}
}

func TestEachOfTwentyRulesIsReached(t *testing.T) {
	for length := 1; length <= 20; length++ {
		var rules []impl.Rule
		for i, x := range apart(length) {
			rules = append(rules, impl.Rule{Sel: x, Action: 2 - int64(i%2)})
		}
		for i := 0; i <= 20; i++ {
			want := impl.RuleResult{Code: impl.ErrNone}
			if i < length {
				want = impl.RuleResult{At: int64(i), Rule: rules[i]}
			}
			if got := impl.FirstRule(rules, packetTo(int64(10*i+4))); got != want {
				t.Errorf("the rule %d of %d: %v", i, length, got)
			}
		}
	}
}

func TestWhereNoRuleHoldsNothingPasses(t *testing.T) {
	for _, rules := range [][]impl.Rule{nil, {}, {passOf(selTo(0, 5, 5))}, {passOf(wholeSel(6)), sealOf(wholeSel(17), 1), passOf(selWithPorts(0, span(1, topPort), span(0, topPort)))}} {
		if got := impl.FirstRule(rules, icmpPacket()); got != (impl.RuleResult{Code: impl.ErrNone}) {
			t.Errorf("%v: %v", rules, got)
		}
		if got := impl.ActionFor(rules, icmpPacket()); got != (impl.IntResult{Code: impl.OK, Value: impl.ActionDrop}) {
			t.Errorf("%v: %v", rules, got)
		}
	}
}

func TestAPacketsFaultIsToldBehindThePolicys(t *testing.T) {
	all := []impl.Rule{passOf(wholeSel(0))}
	for _, p := range edgePackets() {
		code := wantedFault(p)
		for _, rules := range [][]impl.Rule{nil, all, {dropOf(selTo(0, 7, 7))}} {
			wantPolicy(t, "a packet at an edge", rules, p)
			if code == impl.OK {
				continue
			}
			if got := impl.FirstRule(rules, p); got != (impl.RuleResult{Code: code}) {
				t.Errorf("%v: %v, want code %d", p, got, code)
			}
			if got := impl.ActionFor(rules, p); got != (impl.IntResult{Code: code}) {
				t.Errorf("%v: %v, want code %d", p, got, code)
			}
		}
	}
}

func TestShadowedRulesOfKnownPolicies(t *testing.T) {
	narrow, wide, tcp := selTo(0, 3, 5), selTo(0, 0, 9), selTo(6, 3, 5)
	cases := []struct {
		what   string
		rules  []impl.Rule
		places []int64
	}{
		{"no rule", nil, nil},
		{"one rule", []impl.Rule{dropOf(wide)}, nil},
		{"within the one ahead", []impl.Rule{dropOf(wide), passOf(narrow)}, []int64{1}},
		{"within the one behind", []impl.Rule{passOf(narrow), dropOf(wide)}, nil},
		{"within one far ahead", []impl.Rule{dropOf(wide), passOf(selTo(0, 20, 29)), passOf(selTo(0, 40, 49)), sealOf(narrow, 1)}, []int64{3}},
		{"the same selector twice", []impl.Rule{passOf(narrow), dropOf(narrow)}, []int64{1}},
		{"the same selector three times", []impl.Rule{passOf(narrow), sealOf(narrow, 1), dropOf(narrow)}, []int64{1, 2}},
		{"the same rule three times, one between", []impl.Rule{passOf(narrow), passOf(narrow), dropOf(wide), passOf(narrow)}, []int64{1, 3}},
		{"within a shadowed one", []impl.Rule{dropOf(wide), passOf(narrow), sealOf(tcp, 9)}, []int64{1, 2}},
		{"a protocol within any", []impl.Rule{passOf(narrow), sealOf(tcp, 2)}, []int64{1}},
		{"any within no protocol", []impl.Rule{sealOf(tcp, 2), passOf(narrow)}, nil},
		{"two protocols", []impl.Rule{passOf(wholeSel(6)), passOf(wholeSel(17)), passOf(wholeSel(1))}, nil},
		{"all behind all of any", joined([]impl.Rule{dropOf(wholeSel(0))}, sealsOf(apart(19), 3)), []int64{1, 2, 3, 4, 5, 6, 7, 8, 9, 10, 11, 12, 13, 14, 15, 16, 17, 18, 19}},
		{"the last of twenty", joined(sealsOf(apart(19), 3), []impl.Rule{passOf(selTo(0, 180, 184))}), []int64{19}},
		{"within two ahead together, and neither alone", []impl.Rule{dropOf(selTo(0, 0, 4)), dropOf(selTo(0, 5, 9)), passOf(narrow)}, nil},
		{"one address more than the one ahead", []impl.Rule{dropOf(narrow), passOf(selTo(0, 3, 6))}, nil},
	}
	for _, c := range cases {
		wantPlaces(t, c.what, impl.ShadowedRules(c.rules), impl.IntsResult{List: c.places})
		var kept []impl.Rule
		for at, x := range c.rules {
			if !slices.Contains(c.places, int64(at)) {
				kept = append(kept, x)
			}
		}
		wantRules(t, c.what+", trimmed", impl.TrimPolicy(c.rules), impl.RulesResult{Rules: kept})
	}
}

func TestSwapRulesAtEachPlace(t *testing.T) {
	for length := 0; length <= 20; length++ {
		rules := sealsOf(apart(length), 7)
		for _, at := range placesAround(rules) {
			want := impl.RulesResult{Code: impl.ErrRange}
			if at >= 0 && at <= int64(length-2) {
				want = impl.RulesResult{Rules: slices.Clone(rules)}
				want.Rules[at], want.Rules[at+1] = rules[at+1], rules[at]
			}
			wantRules(t, fmt.Sprint(length, " rules, changed at ", at), impl.SwapRules(rules, at), want)
		}
	}
}

func TestSwapRulesLooksAtTheTwoAlone(t *testing.T) {
	near, other := selTo(0, 5, 9), selTo(0, 9, 20)
	beside := selTo(0, 10, 20)
	portZero := selWithPorts(0, span(0, topPort), span(1, 5))
	cases := []struct {
		what string
		a    impl.Rule
		b    impl.Rule
		code int64
	}{
		{"meet, the same action", passOf(near), passOf(other), impl.OK},
		{"meet, the same action and peer", sealOf(near, 3), sealOf(other, 3), impl.OK},
		{"meet, another action", passOf(near), dropOf(other), impl.ErrForm},
		{"meet, an action with a peer", passOf(near), sealOf(other, 1), impl.ErrForm},
		{"meet, another peer", sealOf(near, 3), sealOf(other, 4), impl.ErrForm},
		{"the same selector, another action", dropOf(near), passOf(near), impl.ErrForm},
		{"the same rule", sealOf(near, 9), sealOf(near, 9), impl.OK},
		{"meet not, another action", passOf(near), dropOf(beside), impl.OK},
		{"meet not, another peer", sealOf(near, 3), sealOf(beside, 4), impl.OK},
		{"meet not, the same action", dropOf(near), dropOf(beside), impl.OK},
		{"two protocols, another action", passOf(wholeSel(6)), sealOf(wholeSel(17), 1), impl.OK},
		{"a protocol and any, another action", passOf(wholeSel(6)), sealOf(wholeSel(0), 1), impl.ErrForm},
		{"without ports and the port 0 not in the other", passOf(wholeSel(1)), dropOf(portZero), impl.OK},
		{"ports and what has such ports", passOf(wholeSel(6)), dropOf(portZero), impl.ErrForm},
	}
	for _, c := range cases {
		for _, two := range [][2]impl.Rule{{c.a, c.b}, {c.b, c.a}} {
			want := impl.RulesResult{Code: c.code}
			if c.code == impl.OK {
				want.Rules = []impl.Rule{two[1], two[0]}
			}
			wantRules(t, c.what, impl.SwapRules(two[:], 0), want)
			// What meets all of them ahead and behind says nothing of the two.
			all := joined([]impl.Rule{sealOf(wholeSel(0), 8)}, two[:], []impl.Rule{sealOf(wholeSel(0), 9)})
			if c.code == impl.OK {
				want.Rules = []impl.Rule{all[0], two[1], two[0], all[3]}
			}
			wantRules(t, c.what+", between others", impl.SwapRules(all, 1), want)
			wantRules(t, c.what+", one place too far", impl.SwapRules(two[:], 1), impl.RulesResult{Code: impl.ErrRange})
		}
	}
}

func TestRulesThatAreNeverReachedMayGo(t *testing.T) {
	r := rand.New(rand.NewSource(41))
	gone := 0
	for round := 0; round < 3000; round++ {
		rules := someRules(r, r.Intn(21))
		packets := packetsNear(r, rules, 10)
		wantPolicy(t, "some rules", rules, packets...)
		trimmed := impl.TrimPolicy(rules)
		gone += len(rules) - len(trimmed.Rules)
		if impl.PolicyFault(trimmed.Rules) != impl.OK || len(impl.ShadowedRules(trimmed.Rules).List) != 0 {
			t.Fatal("what is trimmed is not so twice:", rules)
		}
		wantRules(t, "trimmed twice", impl.TrimPolicy(trimmed.Rules), trimmed)
		shadowed := impl.ShadowedRules(rules).List
		for _, p := range packets {
			whole, less := impl.FirstRule(rules, p), impl.FirstRule(trimmed.Rules, p)
			if slices.Contains(shadowed, whole.At) && whole.Code == impl.OK {
				t.Fatalf("%v: a rule that is never reached holds %v first: %v", rules, p, whole)
			}
			if whole.Code != less.Code || whole.Rule != less.Rule || impl.ActionFor(rules, p) != impl.ActionFor(trimmed.Rules, p) {
				t.Fatalf("%v trimmed: %v for %v, once %v", rules, less, p, whole)
			}
		}
	}
	if gone < 1000 {
		t.Error("only", gone, "went")
	}
}

func TestRulesThatHaveNothingInCommonMayChangePlaces(t *testing.T) {
	r := rand.New(rand.NewSource(42))
	codes := map[int64]int{}
	for round := 0; round < 3000; round++ {
		rules := someRules(r, 2+r.Intn(19))
		at := r.Intn(len(rules) - 1)
		got := impl.SwapRules(rules, int64(at))
		codes[got.Code]++
		if got.Code == impl.ErrForm {
			// Of the two by themselves a packet that both hold would be told otherwise.
			two := []impl.Rule{rules[at], rules[at+1]}
			p := impl.SampleOf(impl.MeetSels(two[0].Sel, two[1].Sel).Sel).Packet
			if a, b := impl.FirstRule(two, p), impl.FirstRule([]impl.Rule{two[1], two[0]}, p); a.Rule.Action == b.Rule.Action && a.Rule.Peer == b.Rule.Peer {
				t.Fatalf("%v may change: %v and %v", two, a, b)
			}
			continue
		}
		if back := impl.SwapRules(got.Rules, int64(at)); back.Code != impl.OK || !slices.Equal(back.Rules, rules) {
			t.Fatalf("%v changed back: %v", rules, back)
		}
		for _, p := range append(packetsNear(r, rules[at:at+2], 5), packetsNear(r, rules, 5)...) {
			once, then := impl.FirstRule(rules, p), impl.FirstRule(got.Rules, p)
			if once.Code != then.Code || once.Rule.Action != then.Rule.Action || once.Rule.Peer != then.Rule.Peer {
				t.Fatalf("%v changed at %d: %v for %v, once %v", rules, at, then, p, once)
			}
			if impl.MeetSels(rules[at].Sel, rules[at+1].Sel).Code != impl.OK && once.Rule != then.Rule {
				t.Fatalf("%v changed at %d: another rule for %v", rules, at, p)
			}
		}
	}
	if codes[impl.OK] < 300 || codes[impl.ErrForm] < 300 {
		t.Error("codes", codes)
	}
}

func TestPolicyTextOfKnownPolicies(t *testing.T) {
	first := impl.Sel{From: span(0, 0), To: span(topAddress, topAddress), FromP: span(7, 8), ToP: span(0, 0), Proto: 17}
	last := impl.Sel{From: span(167772161, 167772415), To: span(0, topAddress), FromP: span(0, topPort), ToP: span(topPort, topPort), Proto: 0}
	cases := []struct {
		what  string
		rules []impl.Rule
		text  string
	}{
		{"no rule", nil, ""},
		{"an empty list", []impl.Rule{}, ""},
		{"a drop", []impl.Rule{dropOf(first)}, "drop 0.0.0.0-0.0.0.0 255.255.255.255-255.255.255.255 17 0-0\n"},
		{"a pass", []impl.Rule{passOf(last)}, "pass 10.0.0.1-10.0.0.255 0.0.0.0-255.255.255.255 0 65535-65535\n"},
		{"a seal for the first peer", []impl.Rule{sealOf(first, 1)}, "seal 0.0.0.0-0.0.0.0 255.255.255.255-255.255.255.255 17 0-0 1\n"},
		{"a seal for the last peer", []impl.Rule{sealOf(last, 9)}, "seal 10.0.0.1-10.0.0.255 0.0.0.0-255.255.255.255 0 65535-65535 9\n"},
		{"all of the last protocol", []impl.Rule{passOf(wholeSel(255))}, "pass 0.0.0.0-255.255.255.255 0.0.0.0-255.255.255.255 255 0-65535\n"},
		{"one of each", []impl.Rule{sealOf(selTo(6, 5, 256), 2), passOf(selWithPorts(6, span(0, 0), span(80, 443))), dropOf(impl.Sel{})},
			"seal 0.0.0.0-255.255.255.255 0.0.0.5-0.0.1.0 6 0-65535 2\n" +
				"pass 0.0.0.0-255.255.255.255 0.0.0.0-255.255.255.255 6 80-443\n" +
				"drop 0.0.0.0-0.0.0.0 0.0.0.0-0.0.0.0 0 0-0\n"},
		{"twenty", slices.Repeat([]impl.Rule{dropOf(selTo(1, 9, 10))}, 20), strings.Repeat("drop 0.0.0.0-255.255.255.255 0.0.0.9-0.0.0.10 1 0-65535\n", 20)},
	}
	for _, c := range cases {
		if got := impl.PolicyText(c.rules); got != (impl.TextResult{Text: c.text}) {
			t.Errorf("%s: %q, want %q", c.what, got.Text, c.text)
		}
	}
}

func TestRulesOfTellsNoMoreThanTwelve(t *testing.T) {
	for length := 0; length <= 20; length++ {
		list := apart(length)
		rules := sealsOf(list, 4)
		wantSels(t, fmt.Sprint(length, " of one peer"), impl.RulesOf(rules, 4), impl.SelsResult{Sels: list[:min(length, 12)]})
		for _, peer := range []int64{1, 3, 5, 9} {
			wantSels(t, "none of another one", impl.RulesOf(rules, peer), impl.SelsResult{})
		}
		for _, peer := range []int64{math.MinInt64, -4, -1, 0, 10, 4 + 1<<32, math.MaxInt64} {
			wantSels(t, "no peer", impl.RulesOf(rules, peer), impl.SelsResult{Code: impl.ErrRange})
		}
	}
}

func TestRulesOfAreThoseOfThePeerInOrder(t *testing.T) {
	x := apart(6)
	rules := []impl.Rule{sealOf(x[5], 9), dropOf(x[0]), sealOf(x[3], 1), passOf(x[1]), sealOf(x[2], 9), sealOf(x[5], 9), sealOf(x[4], 1)}
	wantSels(t, "the last peer", impl.RulesOf(rules, 9), impl.SelsResult{Sels: []impl.Sel{x[5], x[2], x[5]}})
	wantSels(t, "the first peer", impl.RulesOf(rules, 1), impl.SelsResult{Sels: []impl.Sel{x[3], x[4]}})
	wantSels(t, "a peer of no rule", impl.RulesOf(rules, 2), impl.SelsResult{})
	wantSels(t, "no peer, though rules have none", impl.RulesOf(rules, 0), impl.SelsResult{Code: impl.ErrRange})
	wantSels(t, "above all peers", impl.RulesOf(rules, 10), impl.SelsResult{Code: impl.ErrRange})
	// The first twelve of the peer's, though rules of another one stand between.
	mixed := sealsOf(apart(20), 1)
	for i := 2; i < 20; i += 3 {
		mixed[i].Peer = 2
	}
	wantSels(t, "fourteen of twenty", impl.RulesOf(mixed, 1), wantedRulesOf(mixed, 1))
	if got := impl.RulesOf(mixed, 1).Sels; len(got) != 12 || got[11] != selTo(0, 160, 164) {
		t.Error("the first twelve:", got)
	}
}

func TestThePolicyOfTheDocumentsKind(t *testing.T) {
	web := selWithPorts(6, span(0, topPort), span(443, 443))
	rules := []impl.Rule{sealOf(web, 2), passOf(wholeSel(6)), dropOf(wholeSel(0)), passOf(wholeSel(17))}
	want := impl.RulesResult{Rules: rules[:3]}
	if got := impl.TrimPolicy(rules); !reflect.DeepEqual(got, want) {
		t.Error(got)
	}
	wantRules(t, "a seal behind a pass of the same", impl.SwapRules(rules, 0), impl.RulesResult{Code: impl.ErrForm})
	p := impl.SampleOf(web).Packet
	if got := impl.FirstRule(rules, p); got != (impl.RuleResult{At: 0, Rule: rules[0]}) {
		t.Error(got)
	}
	p.ToP = 80
	if got := impl.ActionFor(rules, p); got != (impl.IntResult{Value: impl.ActionPass}) {
		t.Error(got)
	}
}
