package tests

import (
	"fmt"
	"math"
	"slices"
	"testing"

	"loop.example/g00205/impl"
)

// gateEdges are numbers at the bounds of what gates and their talks tell of.
var gateEdges = []int64{
	math.MinInt64, math.MinInt64 + 1, -1 << 32, -10, -2, -1, 0, 1, 2, 3, 4, 5, 8, 9, 10, 11, 12, 13, 89, 90, 91, 400, 9998, 9999, 10000, 10001,
	1 << 32, 1<<32 + 1, math.MaxInt64 - 1, math.MaxInt64,
}

// talkTable has two secrets with their halves, and a place of its own for everything that a talk knows.
func talkTable() []impl.Term {
	return behind(twoSides(), fillers(12)...)
}

// knownTalk knows as much as one of its role and stage does, of the talkTable.
func knownTalk(role int64, stage int64) impl.Talk {
	x := newTalk(2, role, stage)
	if role == 2 && stage < 3 {
		x.Peer = 0
	}
	right := map[string]int64{"Own": 0, "Half": 3, "Ni": 4, "Nr": 5, "First": 6, "Second": 7, "Seed": 8, "Down": 9, "Ours": 10, "Back": 11, "In": 12, "Out": 13}
	for _, place := range talkPlaces {
		if stage >= place.stage {
			*place.of(&x) = right[place.name]
		}
	}
	return x
}

// eachTalk hands out a talk without a fault of each role and stage.
func eachTalk(ask func(what string, x impl.Talk)) {
	for _, x := range []impl.Talk{knownTalk(1, 1), knownTalk(1, 2), knownTalk(1, 3), knownTalk(2, 2), knownTalk(2, 3)} {
		ask(fmt.Sprint("role ", x.Role, " and stage ", x.Stage), x)
	}
}

func wantTalkFault(t *testing.T, what string, table []impl.Term, x impl.Talk, code int64) {
	t.Helper()
	if got := impl.TalkFault(table, x); got != code {
		t.Errorf("%s: fault %d, want %d: %v", what, got, code, x)
	}
	if want := wantedTalkFault(table, x); want != code {
		t.Errorf("%s: the document says %d, not %d: %v", what, want, code, x)
	}
}

func TestBoundsOfGatesAreThoseOfTheDocument(t *testing.T) {
	if impl.MaxTalks != 12 || impl.MaxCount != 90 || impl.RoleFirst != 1 || impl.RoleSecond != 2 {
		t.Error(impl.MaxTalks, impl.MaxCount, impl.RoleFirst, impl.RoleSecond)
	}
}

func TestTalksOfEachRoleAndStage(t *testing.T) {
	for role := int64(0); role <= 3; role++ {
		for stage := int64(0); stage <= 4; stage++ {
			for peer := int64(-1); peer <= 10; peer++ {
				x := knownTalk(role, stage)
				x.Peer = peer
				code := int64(impl.OK)
				switch {
				case role < 1 || role > 2 || stage < 1 || stage > 3 || peer < 0 || peer > 9:
					code = impl.ErrRange
				case role == 2 && stage == 1, peer == 0 && role == 1, peer == 0 && stage == 3, peer != 0 && role == 2 && stage == 2:
					code = impl.ErrForm
				}
				wantTalkFault(t, "of each role, stage and peer", talkTable(), x, code)
			}
		}
	}
}

func TestNumbersOfATalkJustWithinAndWithoutTheirBounds(t *testing.T) {
	for _, number := range talkNumbers {
		eachTalk(func(what string, x impl.Talk) {
			for _, n := range gateEdges {
				*number.of(&x) = n
				got := impl.TalkFault(talkTable(), x)
				if got != wantedTalkFault(talkTable(), x) {
					t.Errorf("%s, %s %d: fault %d, want %d", what, number.name, n, got, wantedTalkFault(talkTable(), x))
				}
				if (n < number.least || n > number.greatest) != (got == impl.ErrRange) && number.name != "Stage" {
					t.Errorf("%s, %s %d: fault %d", what, number.name, n, got)
				}
			}
		})
	}
	eachTalk(func(what string, x impl.Talk) {
		x.SpiI, x.SpiR = 9999, 9999
		wantTalkFault(t, what+", greatest spis", talkTable(), x, impl.OK)
		x.SpiI, x.SpiR = 0, 0
		wantTalkFault(t, what+", least spis", talkTable(), x, impl.OK)
	})
}

func TestPlacesOfATalkAreKnownByItsStage(t *testing.T) {
	table := talkTable()
	end := int64(len(table))
	for _, place := range talkPlaces {
		eachTalk(func(what string, x impl.Talk) {
			what = fmt.Sprint(what, ", ", place.name)
			if x.Stage < place.stage {
				for _, at := range []int64{0, 1, 2, 3, end - 1, end, -2, math.MinInt64, math.MaxInt64} {
					*place.of(&x) = at
					wantTalkFault(t, what+" is known and may not be", table, x, impl.ErrRange)
				}
				return
			}
			right := *place.of(&x)
			for _, at := range []int64{-1, -2, end, end + 1, 400, math.MinInt64, math.MaxInt64} {
				*place.of(&x) = at
				wantTalkFault(t, what+" is no place", table, x, impl.ErrRange)
			}
			*place.of(&x) = right
			wantTalkFault(t, what+" is the last place", table[:max(right+1, 14)], x, impl.OK)
			if place.name != "Own" && place.name != "Half" {
				for at := range end {
					*place.of(&x) = at
					wantTalkFault(t, what+" is any place", table, x, impl.OK)
				}
			}
		})
	}
	eachTalk(func(what string, x impl.Talk) {
		wantTalkFault(t, what+", no table", nil, x, impl.ErrRange)
	})
}

func TestOwnIsASecretAndHalfIsAHalf(t *testing.T) {
	// The last ones have no place in this table but the first eight, one of each kind.
	table := behind(oneOfEach(), fillers(6)...)
	eachTalk(func(what string, x impl.Talk) {
		x.Own = 2
		if x.Stage > 1 {
			x.Half = 6
		}
		wantTalkFault(t, what, table, x, impl.OK)
		for at := range int64(8) {
			code := int64(impl.ErrForm)
			if table[at].Op == 2 {
				code = impl.OK
			}
			other := x
			other.Own = at
			wantTalkFault(t, fmt.Sprint(what, ", own is of Op ", table[at].Op), table, other, code)
			code, other = impl.ErrForm, x
			if table[at].Op == 6 {
				code = impl.OK
			}
			if x.Stage == 1 {
				code = impl.ErrRange
			}
			other.Half = at
			wantTalkFault(t, fmt.Sprint(what, ", half is of Op ", table[at].Op), table, other, code)
		}
	})
}

func TestNothingIsSentOrGotAheadOfTheEnd(t *testing.T) {
	eachTalk(func(what string, x impl.Talk) {
		code := int64(impl.ErrForm)
		if x.Stage == 3 {
			code = impl.OK
		}
		for _, sent := range []int64{1, 9999} {
			other := x
			other.Sent = sent
			wantTalkFault(t, what+", sent", talkTable(), other, code)
		}
		for _, w := range edgeWindows()[1:] {
			other := x
			other.Got = w
			wantTalkFault(t, what+", got", talkTable(), other, code)
			other.Sent = 7
			wantTalkFault(t, what+", sent and got", talkTable(), other, code)
		}
		for _, w := range faultyWindows() {
			other := x
			other.Got = w
			wantTalkFault(t, what+", a window with a fault", talkTable(), other, wantedWindowFault(w))
		}
	})
}

func TestOfTwoFaultsOfATalkTheFirstNamedIsTold(t *testing.T) {
	faults := []struct {
		what string
		code int64
		make func(x *impl.Talk)
	}{
		{"a number", impl.ErrRange, func(x *impl.Talk) { x.SpiR = 10000 }},
		{"a window that is none", impl.ErrRange, func(x *impl.Talk) { x.Got = window(-1, 0) }},
		{"a window that is not right", impl.ErrForm, func(x *impl.Talk) { x.Got = window(5, 2) }},
		{"a peer too few or too many", impl.ErrForm, func(x *impl.Talk) { x.Peer = map[bool]int64{true: 3, false: 0}[x.Peer == 0] }},
		{"a place that is none", impl.ErrRange, func(x *impl.Talk) { x.First = 400 }},
		{"one known too early", impl.ErrRange, func(x *impl.Talk) { x.Out = -2 }},
		{"no secret", impl.ErrForm, func(x *impl.Talk) { x.Own = 2 }},
	}
	eachTalk(func(what string, x impl.Talk) {
		for i, one := range faults {
			for k, other := range faults[i:] {
				y := x
				if k > 0 {
					other.make(&y)
				}
				one.make(&y)
				wantTalkFault(t, what+", "+one.what+" and "+other.what, talkTable(), y, one.code)
			}
		}
	})
}

func TestTalkFaultAsksNoFaultOfTheTable(t *testing.T) {
	// The chapter names no TermsFault here: only the kinds of Own and Half are asked.
	for _, faulty := range faultyTables {
		eachTalk(func(what string, x impl.Talk) {
			table := behind(talkTable(), faulty.table...)
			wantTalkFault(t, what+", "+faulty.what, table, x, impl.OK)
			x.First = int64(len(table)) - 1
			wantTalkFault(t, what+", "+faulty.what+", its last place", table, x, impl.OK)
			x.First++
			wantTalkFault(t, what+", "+faulty.what+", behind its last place", table, x, impl.ErrRange)
		})
	}
}

func wantGateFault(t *testing.T, what string, table []impl.Term, g impl.Gate, code int64) {
	t.Helper()
	if got := impl.GateFault(table, g); got != code {
		t.Errorf("%s: fault %d, want %d: %v", what, got, code, g)
	}
	if want := wantedGateFault(table, g); want != code {
		t.Errorf("%s: the document says %d, not %d: %v", what, want, code, g)
	}
	if code == impl.OK {
		return
	}
	// Those that ask it first tell it, whatever else they are given.
	for _, n := range []int64{0, 1, g.Id, 2, 10, -1, math.MinInt64, math.MaxInt64} {
		wantGate(t, what+", begun", impl.BeginTalk(table, g, n), gateCode(code))
		wantGate(t, what+", heard", impl.HearTerm(table, g, n), gateCode(code))
		wantGate(t, what+", sent", impl.SendLoad(table, g, n, 0), gateCode(code))
		wantGate(t, what+", sent", impl.SendLoad(table, g, 0, n), gateCode(code))
	}
}

func gateOf(id int64, count int64, talks ...impl.Talk) impl.Gate {
	return impl.Gate{Id: id, Count: count, Talks: talks}
}

func TestGateFaultAtItsBounds(t *testing.T) {
	for _, n := range gateEdges {
		code := int64(impl.ErrRange)
		if n >= 1 && n <= 9 {
			code = impl.OK
		}
		wantGateFault(t, fmt.Sprint("Id ", n), talkTable(), gateOf(n, 0), code)
		wantGateFault(t, fmt.Sprint("Id ", n, " with a talk"), talkTable(), gateOf(n, 1, knownTalk(1, 1)), code)
		code = impl.ErrRange
		if n >= 0 && n <= 90 {
			code = impl.OK
		}
		wantGateFault(t, fmt.Sprint("Count ", n), nil, gateOf(4, n), code)
		wantGateFault(t, fmt.Sprint("Count ", n, " with a talk"), talkTable(), gateOf(4, n, knownTalk(1, 1)), code)
	}
	for n := range 16 {
		code := int64(impl.OK)
		if n > 12 {
			code = impl.ErrMany
		}
		wantGateFault(t, fmt.Sprint(n, " talks"), talkTable(), gateOf(3, 0, slices.Repeat([]impl.Talk{knownTalk(2, 2)}, n)...), code)
	}
	wantGateFault(t, "a peer that is the gate itself is none", talkTable(), gateOf(2, 1, knownTalk(1, 1), knownTalk(1, 2), knownTalk(2, 3)), impl.OK)
}

func TestGateFaultOfATalkBehindGoodOnes(t *testing.T) {
	good := []impl.Talk{knownTalk(1, 3), knownTalk(2, 2), knownTalk(1, 1), knownTalk(2, 3), knownTalk(1, 2)}
	wrong := []struct {
		code int64
		talk impl.Talk
	}{
		{impl.ErrRange, impl.Talk{}},
		{impl.ErrRange, newTalk(2, 1, 1)},
		{impl.ErrForm, knownTalk(2, 1)},
	}
	half := knownTalk(1, 2)
	half.Half = 0
	wrong = append(wrong, struct {
		code int64
		talk impl.Talk
	}{impl.ErrForm, half})
	for at := range len(good) + 1 {
		for _, one := range wrong {
			talks := slices.Insert(slices.Clone(good), at, one.talk)
			wantGateFault(t, fmt.Sprint("at ", at), talkTable(), gateOf(1, 5, talks...), one.code)
			for _, other := range wrong {
				wantGateFault(t, fmt.Sprint("at ", at, " and at the end"), talkTable(), gateOf(1, 5, append(talks, other.talk)...), one.code)
			}
		}
	}
}

func TestOfTwoFaultsOfAGateTheFirstNamedIsTold(t *testing.T) {
	many := slices.Repeat([]impl.Talk{{}}, 13)
	for _, faulty := range faultyTables {
		wantGateFault(t, faulty.what, faulty.table, gateOf(1, 0), faulty.code)
		wantGateFault(t, faulty.what+", no Id", faulty.table, gateOf(0, 0), faulty.code)
		wantGateFault(t, faulty.what+", many talks", faulty.table, gateOf(1, 91, many...), faulty.code)
		if faulty.code != impl.ErrMany {
			wantGateFault(t, faulty.what+", a good talk", behind(talkTable(), faulty.table...), gateOf(1, 1, knownTalk(1, 1)), wantedTermsFault(behind(talkTable(), faulty.table...)))
		}
	}
	wantGateFault(t, "no Id and many talks", nil, gateOf(10, 0, many...), impl.ErrRange)
	wantGateFault(t, "Count and many talks", nil, gateOf(1, 91, many...), impl.ErrRange)
	wantGateFault(t, "many talks with faults", nil, gateOf(1, 0, many...), impl.ErrMany)
	wantGateFault(t, "no Id and a talk with a fault of its form", talkTable(), gateOf(0, 0, knownTalk(2, 1)), impl.ErrRange)
}

func TestNewGateOfEachNumber(t *testing.T) {
	for _, n := range gateEdges {
		got := impl.NewGate(n)
		wantGate(t, fmt.Sprint("new gate ", n), got, wantedNewGate(n))
		if (got.Code == impl.OK) != (n >= 1 && n <= 9) || got.Code == impl.OK && impl.GateFault(nil, got.Gate) != impl.OK {
			t.Errorf("new gate %d: %v", n, got)
		}
	}
}

func TestSharedOfTwoGates(t *testing.T) {
	full := behind(nil, fillers(400)...)
	for a := int64(-1); a <= 11; a++ {
		for b := int64(-1); b <= 11; b++ {
			what := fmt.Sprint("shared of ", a, " and ", b)
			want := impl.TermResult{Table: tableOf(freshTerm(9000 + 10*min(a, b) + max(a, b)))}
			switch {
			case min(a, b) < 1 || max(a, b) > 9:
				want = impl.TermResult{Code: impl.ErrRange}
			case a == b:
				want = impl.TermResult{Code: impl.ErrForm}
			}
			got := impl.SharedOf(nil, a, b)
			wantTerm(t, what, got, want)
			wantTerm(t, what+", the other way round", impl.SharedOf(nil, b, a), want)
			for _, table := range [][]impl.Term{talkTable(), full, full[:399], behind(full[:398], got.Table...), behind(got.Table, full[1:]...)} {
				wantTerm(t, what+" in a table", impl.SharedOf(table, a, b), wantedShared(table, a, b))
			}
			for _, faulty := range faultyTables {
				wantTerm(t, what+", "+faulty.what, impl.SharedOf(faulty.table, a, b), impl.TermResult{Code: faulty.code})
			}
			if want.Code != impl.OK {
				continue
			}
			wantTerm(t, what+", no room", impl.SharedOf(full, a, b), impl.TermResult{Code: impl.ErrMany})
			there := behind(full[:399], got.Table...)
			wantTerm(t, what+", there already", impl.SharedOf(there, a, b), impl.TermResult{At: 399, Table: there})
		}
	}
	for _, n := range gateEdges {
		for _, m := range []int64{n, 1, 9, 0, 10} {
			wantTerm(t, "shared at the edges", impl.SharedOf(nil, n, m), wantedShared(nil, n, m))
			wantTerm(t, "shared at the edges", impl.SharedOf(nil, m, n), wantedShared(nil, m, n))
		}
	}
}

func TestNoTwoPairsOfGatesShareTheSame(t *testing.T) {
	seen := map[int64]bool{}
	for a := int64(1); a <= 9; a++ {
		for b := a + 1; b <= 9; b++ {
			n := impl.SharedOf(nil, b, a).Table[0].N
			if seen[n] || n < 9011 || n > 9099 {
				t.Errorf("%d and %d share %d", a, b, n)
			}
			seen[n] = true
		}
	}
	if got := impl.SharedOf(nil, 2, 1).Table[0]; got != freshTerm(9012) {
		t.Error(got)
	}
}

func TestDoneTalksAskNoFault(t *testing.T) {
	done, begun := knownTalk(1, 3), knownTalk(1, 1)
	cases := []struct {
		what string
		gate impl.Gate
		want []int64
	}{
		{"no talks", gateOf(1, 0), nil},
		{"none of them", gateOf(1, 2, begun, knownTalk(2, 2), knownTalk(1, 2)), nil},
		{"one", gateOf(1, 1, done), []int64{0}},
		{"some of them", gateOf(1, 5, begun, done, begun, begun, knownTalk(2, 3)), []int64{1, 4}},
		{"all of them", gateOf(1, 3, done, done, done), []int64{0, 1, 2}},
		{"of a gate that is none", gateOf(-1, 1000, done, impl.Talk{}, done), []int64{0, 2}},
		{"of talks with faults", gateOf(1, 1, impl.Talk{Stage: 3}, impl.Talk{Stage: 4}, impl.Talk{Stage: -3}, impl.Talk{Stage: 2}, impl.Talk{Stage: 3, Role: 9}), []int64{0, 4}},
		{"of more than there may be", gateOf(1, 1, slices.Repeat([]impl.Talk{done}, 100)...), upTo(100)},
	}
	for _, c := range cases {
		wantPlaces(t, c.what, impl.DoneTalks(c.gate), impl.IntsResult{List: c.want})
		wantPlaces(t, c.what+", as the document says", impl.DoneTalks(c.gate), impl.IntsResult{List: wantedDone(c.gate)})
	}
}

func TestKindOfTerms(t *testing.T) {
	kinds := []int64{0, 1, 9, 10, 11, 12, 13, 14, 15, 16, 17, 111, 9999}
	for _, n := range kinds {
		table := tableOf(nameTerm(n), freshTerm(n), pairTerm(0, 1), pairTerm(1, 0), pairTerm(2, 0), prfTerm(0, 1), sealTerm(0, 1), pairTerm(0, 0),
			halfTerm(1), bothTerm(1, 1), pairTerm(0, 4))
		for at := range int64(len(table)) {
			want := impl.IntResult{Code: impl.ErrForm}
			if slices.Contains([]int64{2, 7, 10}, at) && n >= 11 && n <= 15 {
				want = impl.IntResult{Value: n}
			}
			if got := impl.KindOf(table, at); got != want {
				t.Errorf("name %d, at %d: %v, want %v", n, at, got, want)
			}
			if got := wantedKind(table, at); got != want {
				t.Errorf("name %d, at %d: the document says %v, not %v", n, at, got, want)
			}
		}
		for _, at := range append([]int64{11, 12, 400}, farPlaces...) {
			if at >= 0 && at < 11 {
				continue
			}
			if got := impl.KindOf(table, at); got != (impl.IntResult{Code: impl.ErrRange}) {
				t.Errorf("no place %d: %v", at, got)
			}
		}
	}
	for _, faulty := range faultyTables {
		for _, at := range placesAround(faulty.table) {
			if got := impl.KindOf(faulty.table, at); got != (impl.IntResult{Code: faulty.code}) {
				t.Errorf("%s, at %d: %v", faulty.what, at, got)
			}
		}
	}
}

func TestBeginTalkOfKnownGates(t *testing.T) {
	got := wantBegun(t, "gate 1", nil, gateOf(1, 0), 2)
	x := newTalk(2, 1, 1)
	x.SpiI, x.Own, x.Ni, x.First = 100, 2, 4, 7
	wantGate(t, "gate 1 with 2", got, impl.GateResult{Talk: 0, Send: 7, Load: -1, Gate: gateOf(1, 1, x), Table: tableOf(
		nameTerm(11), nameTerm(100), freshTerm(500), halfTerm(2), freshTerm(501), pairTerm(3, 4), pairTerm(1, 5), pairTerm(0, 6),
	)})
	if text := impl.TermText(got.Table, got.Send); text.Text != "(n11,(n100,(g(s500),s501)))" {
		t.Error(text)
	}
	again := wantBegun(t, "gate 1 again", got.Table, got.Gate, 9)
	y := newTalk(9, 1, 1)
	y.SpiI, y.Own, y.Ni, y.First = 101, 9, 11, 14
	wantGate(t, "gate 1 with 9", again, impl.GateResult{Talk: 1, Send: 14, Load: -1, Gate: gateOf(1, 2, x, y), Table: behind(got.Table,
		nameTerm(101), freshTerm(502), halfTerm(9), freshTerm(503), pairTerm(10, 11), pairTerm(8, 12), pairTerm(0, 13),
	)})
	last := wantBegun(t, "gate 9 at its last", nil, gateOf(9, 89), 1)
	z := newTalk(1, 1, 1)
	z.SpiI, z.Own, z.Ni, z.First = 989, 2, 4, 7
	wantGate(t, "gate 9 with 1", last, impl.GateResult{Talk: 0, Send: 7, Load: -1, Gate: gateOf(9, 90, z), Table: tableOf(
		nameTerm(11), nameTerm(989), freshTerm(4678), halfTerm(2), freshTerm(4679), pairTerm(3, 4), pairTerm(1, 5), pairTerm(0, 6),
	)})
}

func TestBeginTalkWithEachPeer(t *testing.T) {
	for id := int64(1); id <= 9; id++ {
		for _, peer := range append([]int64{6, 7}, gateEdges...) {
			code := int64(impl.OK)
			switch {
			case peer < 1 || peer > 9:
				code = impl.ErrRange
			case peer == id:
				code = impl.ErrForm
			}
			if got := wantBegun(t, fmt.Sprint(id, " with ", peer), nil, gateOf(id, 7), peer); got.Code != code {
				t.Errorf("%d with %d: code %d, want %d", id, peer, got.Code, code)
			}
		}
	}
}

func TestAGateBeginsWithMany(t *testing.T) {
	m := meetingOf(t, "many", nil, nil)
	for n := range int64(12) {
		got := m.must(m.begin(5, 1+n%4))
		if got.Talk != n || got.Gate.Count != n+1 || got.Gate.Talks[n].SpiI != 500+n || m.text(got.Send) != fmt.Sprintf("(n11,(n%d,(g(s%d),s%d)))", 500+n, 2500+2*n, 2501+2*n) {
			t.Errorf("talk %d: %v, %s", n, got.Gate.Talks[n], m.text(got.Send))
		}
	}
	for _, peer := range []int64{1, 9} {
		wantGate(t, "a 13th", m.begin(5, peer), gateCode(impl.ErrMany))
	}
	wantGate(t, "a 13th with nobody", m.begin(5, 0), gateCode(impl.ErrRange))
	wantGate(t, "a 13th with itself", m.begin(5, 5), gateCode(impl.ErrForm))
	if fault := impl.GateFault(m.table, m.gates[5]); fault != impl.OK || len(m.gates[5].Talks) != 12 {
		t.Error("12 talks:", fault)
	}
	eleven := m.gates[5]
	eleven.Talks = eleven.Talks[:11]
	if got := wantBegun(t, "a 12th", m.table, eleven, 1); got.Code != impl.OK || got.Talk != 11 || got.Gate.Count != 13 {
		t.Error("a 12th:", got.Code, got.Talk, got.Gate.Count)
	}
	for _, count := range []int64{88, 89, 90} {
		got := wantBegun(t, fmt.Sprint("Count ", count), nil, gateOf(5, count), 1)
		if (got.Code == impl.OK) != (count < 90) || count == 90 && got.Code != impl.ErrMany || count < 90 && got.Gate.Count != count+1 {
			t.Errorf("Count %d: %v", count, got)
		}
	}
	wantGate(t, "Count 90 with nobody", impl.BeginTalk(nil, gateOf(5, 90), 10), gateCode(impl.ErrRange))
	wantGate(t, "Count 90 with itself", impl.BeginTalk(nil, gateOf(5, 90), 5), gateCode(impl.ErrForm))
}

func TestNoSecretOfTwoTalksIsTheSame(t *testing.T) {
	seen := map[int64]string{}
	take := func(what string, n int64) {
		if other, is := seen[n]; is {
			t.Errorf("%s and %s have the secret %d", what, other, n)
		}
		seen[n] = what
	}
	spis := map[int64]bool{}
	for id := int64(1); id <= 9; id++ {
		for count := range int64(90) {
			what := fmt.Sprint("talk ", count, " of gate ", id)
			got := impl.BeginTalk(nil, gateOf(id, count), id%9+1)
			if got.Code != impl.OK {
				t.Fatal(what, got.Code)
			}
			x := got.Gate.Talks[0]
			take(what, got.Table[x.Own].N)
			take(what+", its nonce", got.Table[x.Ni].N)
			if spis[x.SpiI] || x.SpiI != 100*id+count {
				t.Errorf("%s: its number %d", what, x.SpiI)
			}
			spis[x.SpiI] = true
		}
	}
}

// roomForGate asks a call with each number of places left in the table, down from one more than it wants, and
// with as many of its terms there ahead.
func roomForGate(t *testing.T, what string, table []impl.Term, wants int, ask func(what string, table []impl.Term) impl.GateResult) {
	t.Helper()
	roomy := ask(what+", roomy", table)
	if roomy.Code != impl.OK {
		t.Fatal(what, "code", roomy.Code)
	}
	news := roomy.Table[len(table):]
	if len(news) != wants {
		t.Fatalf("%s: %d terms are put, not %d", what, len(news), wants)
	}
	for there := range wants + 1 {
		ahead := behind(table, news[:there]...)
		for room := range wants + 2 {
			given := behind(ahead, fillers(fullTable-len(ahead)-room)...)
			got := ask(fmt.Sprint(what, ", room for ", room, ", ", there, " are there"), given)
			code := int64(impl.ErrMany)
			if room >= wants-there {
				code = impl.OK
			}
			if got.Code != code {
				t.Errorf("%s, room for %d, %d of %d are there: code %d, want %d", what, room, there, wants, got.Code, code)
			}
			if code == impl.OK && len(got.Table) != fullTable-room+wants-there {
				t.Errorf("%s: %d terms", what, len(got.Table))
			}
		}
	}
}

func TestRoomForWhatAGateSays(t *testing.T) {
	begin := func(g impl.Gate) func(what string, table []impl.Term) impl.GateResult {
		return func(what string, table []impl.Term) impl.GateResult { return wantBegun(t, what, table, g, 2) }
	}
	roomForGate(t, "a first message", nil, 8, begin(gateOf(1, 0)))
	m := meetingOf(t, "room", nil, nil)
	m.must(m.begin(1, 2))
	roomForGate(t, "a first message again", m.table, 7, begin(m.gates[1]))
	m = meetingOf(t, "room", nil, nil)
	f := m.toStage(1, 2, 4)
	load := m.put(freshTerm(7000))
	send := func(what string, table []impl.Term) impl.GateResult {
		return wantSent(t, what, table, m.gates[2], 0, load)
	}
	roomForGate(t, "a first load", m.table, 6, send)
	m.must(m.send(2, f.there, load))
	roomForGate(t, "a second load", m.table, 5, send)
}

func TestSendLoadCodes(t *testing.T) {
	m := meetingOf(t, "codes", nil, nil)
	m.toStage(1, 2, 4)
	m.toStage(1, 3, 0)
	m.toStage(1, 4, 2)
	m.toStage(5, 1, 1)
	end := int64(len(m.table))
	g := m.gates[1]
	for _, talk := range placesAround(g.Talks) {
		for _, load := range []int64{math.MinInt64, -1, 0, 1, end - 1, end, math.MaxInt64} {
			code := int64(impl.OK)
			switch {
			case talk < 0 || talk > 3 || load < 0 || load >= end:
				code = impl.ErrRange
			case talk > 0:
				code = impl.ErrBusy
			}
			if got := wantSent(t, fmt.Sprint("talk ", talk, ", load ", load), m.table, g, talk, load); got.Code != code {
				t.Errorf("talk %d, load %d: code %d, want %d", talk, load, got.Code, code)
			}
		}
	}
	wantGate(t, "no talk", impl.SendLoad(m.table, gateOf(1, 0), 0, 0), gateCode(impl.ErrRange))
	wantGate(t, "no table", impl.SendLoad(nil, gateOf(1, 0), 0, 0), gateCode(impl.ErrRange))
	// No room is told behind all of these.
	full := behind(m.table, fillers(fullTable-len(m.table))...)
	wantGate(t, "full, no talk", impl.SendLoad(full, g, 4, 0), gateCode(impl.ErrRange))
	wantGate(t, "full, not done", impl.SendLoad(full, g, 1, 0), gateCode(impl.ErrBusy))
	wantGate(t, "full", impl.SendLoad(full, g, 0, 0), gateCode(impl.ErrMany))
}

func TestSendLoadCountsWhatWasSent(t *testing.T) {
	for _, sent := range []int64{0, 1, 41, 9997, 9998, 9999} {
		m := meetingOf(t, "sent", nil, nil)
		m.toStage(1, 2, 4)
		load := m.put(freshTerm(7003))
		for _, id := range []int64{1, 2} {
			m.gates[id].Talks[0].Sent = sent
			got := m.send(id, 0, load)
			if sent == 9999 {
				wantGate(t, "too many sent", got, gateCode(impl.ErrMany))
				continue
			}
			out := m.text(m.gates[id].Talks[0].Out)
			if m.must(got).Gate.Talks[0].Sent != sent+1 || got.Load != -1 || got.Talk != 0 || m.text(got.Send) != fmt.Sprintf("(n15,(n100,(n200,{(n%d,s7003)}%s)))", sent+1, out) {
				t.Errorf("behind %d of gate %d: %v, %s", sent, id, got.Gate.Talks[0], m.text(got.Send))
			}
		}
	}
}

func TestFourMessagesOfTwoGates(t *testing.T) {
	m := meetingOf(t, "two gates", nil, nil)
	f := m.toStage(1, 2, 4)
	first, second := "(n11,(n100,(g(s500),s501)))", "(n12,(n100,(n200,(g(s1000),s1001))))"
	seed := "f((s501,s1001),g(s500,s1000))"
	key := func(n int) string { return fmt.Sprintf("f(%s,(n%d,(n100,n200)))", seed, n) }
	proofs := []string{
		"f(f(s9012,n9),(" + first + ",(s1001,f(" + key(2) + ",n1))))",
		"f(f(s9012,n9),(" + second + ",(s501,f(" + key(3) + ",n2))))",
	}
	third := "(n13,(n100,(n200,{(n1," + proofs[0] + ")}" + key(2) + ")))"
	fourth := "(n14,(n100,(n200,{(n2," + proofs[1] + ")}" + key(3) + ")))"
	for i, at := range []int64{f.first, f.second, f.third, f.fourth} {
		if got := m.text(at); got != []string{first, second, third, fourth}[i] {
			t.Errorf("message %d: %s, want %s", i+1, got, []string{first, second, third, fourth}[i])
		}
		if kind := impl.KindOf(m.table, at); kind != (impl.IntResult{Value: int64(11 + i)}) {
			t.Errorf("message %d: kind %v", i+1, kind)
		}
	}
	one, other := m.gates[1].Talks[0], m.gates[2].Talks[0]
	out, back := "f("+key(1)+",(s501,(s1001,(n4,(n100,n200)))))", "f("+key(1)+",(s501,(s1001,(n5,(n100,n200)))))"
	for what, at := range map[string][2]int64{
		seed: {one.Keys.Seed, other.Keys.Seed}, key(1): {one.Keys.Down, other.Keys.Down}, key(2): {one.Keys.Ours, other.Keys.Ours}, key(3): {one.Keys.Back, other.Keys.Back},
		"s501": {one.Ni, other.Ni}, "s1001": {one.Nr, other.Nr}, first: {one.First, other.First}, second: {one.Second, other.Second}, out: {one.Out, other.In}, back: {one.In, other.Out},
	} {
		if m.text(at[0]) != what || m.text(at[1]) != what {
			t.Errorf("%s and %s, want %s", m.text(at[0]), m.text(at[1]), what)
		}
	}
	if m.text(one.Own) != "s500" || m.text(one.Half) != "g(s1000)" || m.text(other.Own) != "s1000" || m.text(other.Half) != "g(s500)" {
		t.Error(m.text(one.Own), m.text(one.Half), m.text(other.Own), m.text(other.Half))
	}
	if one.Peer != 2 || one.Role != 1 || one.Stage != 3 || one.SpiI != 100 || one.SpiR != 200 || other.Peer != 1 || other.Role != 2 || other.Stage != 3 || other.SpiI != 100 || other.SpiR != 200 {
		t.Error(one, other)
	}
}

func TestWhatIsToldAtEachMessage(t *testing.T) {
	m := meetingOf(t, "each message", nil, map[int64]int64{1: 3, 2: 4})
	begun := m.must(m.begin(1, 2))
	if x := begun.Gate.Talks[0]; begun.Talk != 0 || begun.Load != -1 || begun.Send != x.First || x.Stage != 1 || x.Peer != 2 || x.SpiI != 103 || x.SpiR != 0 {
		t.Error("begun:", begun)
	}
	heard := m.must(m.hear(2, begun.Send))
	if x := heard.Gate.Talks[0]; heard.Talk != 0 || heard.Load != -1 || heard.Send != x.Second || x.First != begun.Send || x.Stage != 2 || x.Role != 2 || x.Peer != 0 || x.SpiI != 103 || x.SpiR != 204 || heard.Gate.Count != 5 || x.In != -1 || x.Out != -1 {
		t.Error("a first message:", heard)
	}
	third := m.must(m.hear(1, heard.Send))
	if x := third.Gate.Talks[0]; third.Talk != 0 || third.Load != -1 || x.Second != heard.Send || x.Stage != 2 || x.Peer != 2 || x.SpiR != 204 || third.Gate.Count != 4 || x.In != -1 || x.Out != -1 || third.Send != int64(len(m.table))-1 {
		t.Error("a second message:", third)
	}
	fourth := m.must(m.hear(2, third.Send))
	if x := fourth.Gate.Talks[0]; fourth.Talk != 0 || fourth.Load != -1 || x.Stage != 3 || x.Peer != 1 || fourth.Send != int64(len(m.table))-1 || fourth.Gate.Count != 5 {
		t.Error("a third message:", fourth)
	}
	terms := len(m.table)
	end := m.must(m.hear(1, fourth.Send))
	if x := end.Gate.Talks[0]; end.Talk != 0 || end.Load != -1 || end.Send != -1 || x.Stage != 3 || x.Peer != 2 || len(m.table) != terms {
		t.Error("a fourth message:", end)
	}
	// The keys of loads were put, as the second one made them.
	sent := m.must(m.send(1, 0, 5))
	load := m.must(m.hear(2, sent.Send))
	if load.Talk != 0 || load.Send != -1 || load.Load != 5 || load.Gate.Talks[0].Got != windowOf(1) || load.Gate.Talks[0].Sent != 0 || sent.Gate.Talks[0].Got != (impl.Window{}) {
		t.Error("a load:", load)
	}
}

// wantSameKeys fails the test unless both gates are done with the same keys, and each with the other one as its peer.
func (m *meeting) wantSameKeys(one int64, at int64, other int64, there int64) {
	m.t.Helper()
	x, y := m.gates[one].Talks[at], m.gates[other].Talks[there]
	if x.Stage != 3 || y.Stage != 3 || x.Peer != other || y.Peer != one || x.Role != 1 || y.Role != 2 || x.Keys != y.Keys || x.In != y.Out || x.Out != y.In || x.In == x.Out {
		m.t.Errorf("%s: %d and %d have %v and %v", m.what, one, other, x, y)
	}
	if x.SpiI != y.SpiI || x.SpiR != y.SpiR || x.Ni != y.Ni || x.Nr != y.Nr || x.First != y.First || x.Second != y.Second || x.Own == y.Own || x.Half == y.Half {
		m.t.Errorf("%s: %d and %d speak of %v and %v", m.what, one, other, x, y)
	}
}

func TestAnyTwoGatesComeToAnEndWithTheSameKeys(t *testing.T) {
	for one := int64(1); one <= 9; one++ {
		for other := int64(1); other <= 9; other++ {
			if one == other {
				continue
			}
			for _, counts := range [][2]int64{{0, 0}, {89, 0}, {0, 89}, {89, 89}, {7, 50}} {
				m := meetingOf(t, fmt.Sprint(one, " and ", other, " behind ", counts), nil, map[int64]int64{one: counts[0], other: counts[1]})
				f := m.toStage(one, other, 4)
				m.wantSameKeys(one, f.at, other, f.there)
				wantPlaces(t, m.what, impl.DoneTalks(m.gates[one]), impl.IntsResult{List: []int64{0}})
				wantPlaces(t, m.what, impl.DoneTalks(m.gates[other]), impl.IntsResult{List: []int64{0}})
			}
		}
	}
}

func TestAStrangerWhoHearsAllLearnsNoKey(t *testing.T) {
	m := meetingOf(t, "heard by all", nil, nil)
	f := m.toStage(3, 8, 4)
	load := m.put(freshTerm(7000))
	sent := m.must(m.send(3, f.at, load))
	heard := []int64{f.first, f.second, f.third, f.fourth, sent.Send}
	slices.Sort(heard)
	x := m.gates[3].Talks[0]
	for _, at := range []int64{x.Own, m.gates[8].Talks[0].Own, x.Keys.Seed, x.Keys.Down, x.Keys.Ours, x.Keys.Back, x.In, x.Out, load} {
		if impl.Derives(m.table, heard, at) {
			t.Error("follows from what was heard:", m.text(at))
		}
	}
	if !impl.Derives(m.table, heard, x.Ni) || !impl.Derives(m.table, heard, x.Nr) {
		t.Error("the nonces were said to all")
	}
}

func TestLoadsGoBothWays(t *testing.T) {
	m := meetingOf(t, "both ways", nil, nil)
	f := m.toStage(4, 2, 4)
	for n := int64(1); n <= 20; n++ {
		for _, way := range [][2]int64{{4, 2}, {2, 4}} {
			load := m.put(freshTerm(7000 + n))
			sent := m.must(m.send(way[0], f.at, load))
			got := m.must(m.hear(way[1], sent.Send))
			if got.Load != load || got.Send != -1 || got.Talk != f.there || got.Gate.Talks[0].Got.Top != n || sent.Gate.Talks[0].Sent != n {
				t.Errorf("load %d from %d to %d: %v", n, way[0], way[1], got)
			}
			wantGate(t, "the same load again", m.hear(way[1], sent.Send), gateCode(impl.ErrTaken))
			wantGate(t, "one's own load", m.hear(way[0], sent.Send), gateCode(impl.ErrNone))
		}
	}
	m.wantSameKeys(4, f.at, 2, f.there)
}

func TestThreeGatesWithSeveralTalksAtOnce(t *testing.T) {
	m := meetingOf(t, "three gates", nil, nil)
	pairs := [][2]int64{{1, 2}, {2, 3}, {3, 1}, {2, 1}, {1, 2}}
	var talks []four
	for _, pair := range pairs {
		got := m.must(m.begin(pair[0], pair[1]))
		talks = append(talks, four{first: got.Send, at: got.Talk})
	}
	// The last one begun is heard first.
	for i := len(pairs) - 1; i >= 0; i-- {
		got := m.must(m.hear(pairs[i][1], talks[i].first))
		talks[i].second, talks[i].there = got.Send, got.Talk
	}
	for i, pair := range pairs {
		got := m.must(m.hear(pair[0], talks[i].second))
		if talks[i].third = got.Send; got.Talk != talks[i].at {
			t.Error("talk", i, "went on as", got.Talk)
		}
	}
	for i := len(pairs) - 1; i >= 0; i-- {
		got := m.must(m.hear(pairs[i][1], talks[i].third))
		if talks[i].fourth = got.Send; got.Talk != talks[i].there {
			t.Error("talk", i, "went on there as", got.Talk)
		}
	}
	for _, i := range []int{2, 0, 4, 1, 3} {
		if got := m.must(m.hear(pairs[i][0], talks[i].fourth)); got.Talk != talks[i].at {
			t.Error("talk", i, "came to an end as", got.Talk)
		}
	}
	for i, pair := range pairs {
		m.wantSameKeys(pair[0], talks[i].at, pair[1], talks[i].there)
		got := m.must(m.hear(pair[0], m.must(m.send(pair[1], talks[i].there, int64(i))).Send))
		if got.Talk != talks[i].at || got.Load != int64(i) {
			t.Error("a load of talk", i, "came to", got.Talk, "as", got.Load)
		}
	}
	for id := int64(1); id <= 3; id++ {
		wantPlaces(t, fmt.Sprint("done of ", id), impl.DoneTalks(m.gates[id]), impl.IntsResult{List: upTo(len(m.gates[id].Talks))})
	}
	if len(m.gates[1].Talks) != 4 || len(m.gates[2].Talks) != 4 || len(m.gates[3].Talks) != 2 {
		t.Error("talks:", len(m.gates[1].Talks), len(m.gates[2].Talks), len(m.gates[3].Talks))
	}
}
