package tests

import (
	"fmt"
	"math"
	"slices"
	"testing"

	"loop.example/g00205/impl"
)

// gateScene is a gate among the terms that were said, and places that may be heard.
type gateScene struct {
	what   string
	table  []impl.Term
	gate   impl.Gate
	places []int64
}

// gateScenes have gates at every stage, with room in the table and without, and ones with each fault.
func gateScenes(t *testing.T) []gateScene {
	list := []gateScene{
		{"a new gate", nil, gateOf(1, 0), []int64{0, -1}},
		{"a gate that is none", talkTable(), gateOf(0, 0, knownTalk(1, 1)), []int64{0, 7}},
		{"a talk with a fault", talkTable(), gateOf(1, 2, knownTalk(1, 3), impl.Talk{}), []int64{0, 7}},
		{"too many talks", talkTable(), gateOf(1, 2, slices.Repeat([]impl.Talk{knownTalk(1, 3)}, 13)...), []int64{0}},
		{"a gate that is full", talkTable(), gateOf(1, 90, slices.Repeat([]impl.Talk{knownTalk(1, 3)}, 12)...), []int64{0}},
	}
	for _, faulty := range faultyTables {
		list = append(list, gateScene{faulty.what, faulty.table, gateOf(1, 0), []int64{0, 2}})
	}
	for kind := int64(11); kind <= 15; kind++ {
		m, hearer, at := readyFor(t, kind)
		table := m.table
		// A message that is not heard, too: it is for another talk.
		wrong := m.list(kind, m.name(1), m.name(2), at)
		for _, id := range []int64{hearer, 3 - hearer} {
			g := m.gates[id]
			what := fmt.Sprint(m.what, " for ", id)
			list = append(list, gateScene{what, table, g, []int64{at, 0}}, gateScene{what + ", another message", m.table, g, []int64{at, wrong}})
			for _, room := range []int{0, 5, 30} {
				full := behind(table, fillers(fullTable-len(table)-room)...)
				list = append(list, gateScene{fmt.Sprint(what, ", room for ", room), full, g, []int64{at, fullTable - 1}})
			}
		}
	}
	return list
}

// roomyTalks has room behind its end, so that an append to the copy would write into memory that the test sees.
func roomyTalks(g impl.Gate) impl.Gate {
	g.Talks = append(make([]impl.Talk, 0, len(g.Talks)+20), g.Talks...)
	return g
}

func unchangedTalks(given impl.Gate, g impl.Gate) bool {
	room := given.Talks[len(given.Talks):cap(given.Talks)]
	return given.Id == g.Id && given.Count == g.Count && slices.Equal(given.Talks, g.Talks) && slices.Equal(room, make([]impl.Talk, len(room)))
}

// gateCalls are those that answer a gate, at what the scene has for them.
func gateCalls(s gateScene) []func(table []impl.Term, g impl.Gate) impl.GateResult {
	calls := []func(table []impl.Term, g impl.Gate) impl.GateResult{
		func(table []impl.Term, g impl.Gate) impl.GateResult { return impl.BeginTalk(table, g, 2) },
		func(table []impl.Term, g impl.Gate) impl.GateResult { return impl.BeginTalk(table, g, 9) },
		func(table []impl.Term, g impl.Gate) impl.GateResult { return impl.BeginTalk(table, g, 10) },
		func(table []impl.Term, g impl.Gate) impl.GateResult { return impl.SendLoad(table, g, 0, 1) },
		func(table []impl.Term, g impl.Gate) impl.GateResult { return impl.SendLoad(table, g, -1, 1) },
	}
	for _, at := range s.places {
		calls = append(calls, func(table []impl.Term, g impl.Gate) impl.GateResult { return impl.HearTerm(table, g, at) })
	}
	return calls
}

func gateResultCopy(x impl.GateResult) impl.GateResult {
	x.Gate.Talks = slices.Clone(x.Gate.Talks)
	x.Table = slices.Clone(x.Table)
	return x
}

func answersOfGate(s gateScene, table []impl.Term, g impl.Gate) []any {
	all := []any{impl.GateFault(table, g), len(impl.DoneTalks(g).List)}
	for _, at := range impl.DoneTalks(g).List {
		all = append(all, at)
	}
	for _, x := range g.Talks {
		all = append(all, impl.TalkFault(table, x))
	}
	for _, at := range s.places {
		all = append(all, impl.KindOf(table, at))
	}
	for _, pair := range [][2]int64{{1, 2}, {2, 1}, {8, 9}, {1, 1}, {0, 1}} {
		got := impl.SharedOf(table, pair[0], pair[1])
		all = append(all, got.Code, got.At, len(got.Table))
	}
	for _, call := range gateCalls(s) {
		got := call(table, g)
		// No list and an empty one are the same.
		all = append(all, got.Code, got.Talk, got.Send, got.Load, got.Gate.Id, got.Gate.Count, len(got.Gate.Talks), len(got.Table))
		for _, x := range got.Gate.Talks {
			all = append(all, x)
		}
		for _, x := range got.Table {
			all = append(all, x)
		}
	}
	return all
}

func TestGateFunctionsChangeNoArgument(t *testing.T) {
	for _, s := range gateScenes(t) {
		table, g := roomyTerms(s.table), roomyTalks(s.gate)
		answersOfGate(s, table, g)
		if !unchangedTerms(table, s.table) || !unchangedTalks(g, s.gate) {
			t.Error(s.what, "was changed:", g, "was", s.gate)
		}
	}
}

func TestGateAnswersAreNewMemory(t *testing.T) {
	wrongTerm, wrongTalk := impl.Term{Op: 99, A: 99, B: 99, N: 99}, impl.Talk{Peer: 99, Role: 99}
	for _, s := range gateScenes(t) {
		for i, call := range gateCalls(s) {
			what := fmt.Sprint(s.what, ", call ", i)
			table, g := roomyTerms(s.table), roomyTalks(s.gate)
			first, second := call(table, g), call(table, g)
			want := gateResultCopy(first)
			// What is held stays, whatever becomes of the arguments and of another answer, as far as their memory goes.
			overwrite(wrongTerm, table, second.Table)
			overwrite(wrongTalk, g.Talks, second.Gate.Talks)
			wantGate(t, what+", held", first, want)
			// And what is asked anew is as it was.
			wantGate(t, what+", again", call(s.table, s.gate), want)
		}
		table := roomyTerms(s.table)
		shared, other := impl.SharedOf(table, 1, 2), impl.SharedOf(table, 1, 2)
		overwrite(wrongTerm, table, other.Table)
		wantTerm(t, s.what+", shared, held", shared, wantedShared(s.table, 1, 2))
		wantTerm(t, s.what+", shared, again", impl.SharedOf(s.table, 1, 2), wantedShared(s.table, 1, 2))
		done, doneAgain := impl.DoneTalks(s.gate), impl.DoneTalks(s.gate)
		overwrite(99, doneAgain.List)
		wantPlaces(t, s.what+", done, held", done, impl.IntsResult{List: wantedDone(s.gate)})
		wantPlaces(t, s.what+", done, again", impl.DoneTalks(s.gate), impl.IntsResult{List: wantedDone(s.gate)})
	}
	one, other := impl.NewGate(1), impl.NewGate(1)
	overwrite(wrongTalk, other.Gate.Talks)
	overwrite(wrongTerm, other.Table)
	wantGate(t, "a new gate, held", one, wantedNewGate(1))
}

func TestGateAnswersHangOnTheArgumentsAlone(t *testing.T) {
	scenes := gateScenes(t)
	wantSameAgain(t, len(scenes), func(i int, roomy bool) []any {
		s := scenes[i]
		if roomy {
			return answersOfGate(s, roomyTerms(s.table), roomyTalks(s.gate))
		}
		return answersOfGate(s, s.table, s.gate)
	})
}

func TestGateFunctionsAnswerAtTheEndsOfEveryNumber(t *testing.T) {
	ends := []int64{math.MinInt64, math.MinInt64 + 1, -1, 0, 1, 2, 3, 9, 12, 90, 10000, math.MaxInt64 - 1, math.MaxInt64}
	ask := func(what string, table []impl.Term, g impl.Gate) {
		if got, want := impl.GateFault(table, g), wantedGateFault(table, g); got != want {
			t.Errorf("%s: fault %d, want %d: %v", what, got, want, g)
		}
		for _, n := range ends {
			wantBegun(t, what, table, g, n)
			wantHeard(t, what, table, g, n)
			wantSent(t, what, table, g, n, 0)
			wantSent(t, what, table, g, 0, n)
			wantSent(t, what, table, g, n, n)
		}
	}
	m, _, _ := readyFor(t, 15)
	whole := m.gates[1].Talks[0]
	for _, n := range ends {
		ask("Id", m.table, gateOf(n, 1, whole))
		ask("Count", m.table, gateOf(1, n, whole))
		ask("no talk", nil, gateOf(n, n))
		ask("Top", m.table, gateOf(1, 1, withWindow(whole, window(n, 1))))
		ask("Bits", m.table, gateOf(1, 1, withWindow(whole, window(50, n))))
		all := whole
		for _, number := range talkNumbers {
			x := whole
			*number.of(&x), *number.of(&all) = n, n
			ask(number.name, m.table, gateOf(1, 1, x))
		}
		for _, place := range talkPlaces {
			x := whole
			*place.of(&x), *place.of(&all) = n, n
			ask(place.name, m.table, gateOf(1, 1, x))
		}
		ask("all at once", m.table, impl.Gate{Id: n, Count: n, Talks: []impl.Talk{all, withWindow(all, window(n, n))}})
	}
}

func withWindow(x impl.Talk, w impl.Window) impl.Talk {
	x.Got = w
	return x
}
