package tests

import (
	"fmt"
	"math"
	"math/rand"
	"slices"
	"testing"

	"loop.example/g00205/impl"
)

func wantedKnownFault(table []impl.Term, known []int64) int64 {
	if code := wantedTermsFault(table); code != impl.OK {
		return code
	}
	if len(known) > 400 {
		return impl.ErrMany
	}
	for i, at := range known {
		if at < 0 || at >= int64(len(table)) {
			return impl.ErrRange
		}
		if i > 0 && known[i-1] >= at {
			return impl.ErrForm
		}
	}
	return impl.OK
}

// maker goes by the words of CanMake, from a term to what it is made of, and keeps what it was told.
type maker struct {
	table []impl.Term
	known []int64
	told  map[int64]bool
}

func makerOf(table []impl.Term, known []int64) maker {
	return maker{table: table, known: known, told: map[int64]bool{}}
}

func (m maker) makes(at int64) bool {
	if at < 0 || at >= int64(len(m.table)) {
		return false
	}
	made, asked := m.told[at]
	if !asked {
		made = slices.Contains(m.known, at) || m.makesOfParts(m.table[at])
		m.told[at] = made
	}
	return made
}

func (m maker) makesOfParts(x impl.Term) bool {
	switch x.Op {
	case 1:
		return true
	case 3, 4, 5:
		return m.makes(x.A) && m.makes(x.B)
	case 6:
		return m.makes(x.A)
	case 7:
		return m.makes(x.A) && (m.makes(x.B) || m.makes(m.halfOf(x.B))) ||
			m.makes(x.B) && (m.makes(x.A) || m.makes(m.halfOf(x.A)))
	}
	return false
}

// halfOf is -1, no place, where the table has it not.
func (m maker) halfOf(secret int64) int64 {
	return int64(slices.Index(m.table, halfTerm(secret)))
}

// wantedOpen goes by the words of OpenAll: as long as something comes of it.
func wantedOpen(table []impl.Term, known []int64) []int64 {
	open := slices.Clone(known)
	for before := -1; before < len(open); {
		before = len(open)
		then := makerOf(table, slices.Clone(open))
		for _, at := range then.known {
			x := table[at]
			if x.Op == 3 {
				open = append(open, x.A, x.B)
			}
			if x.Op == 5 && then.makes(x.A) {
				open = append(open, x.B)
			}
		}
		slices.Sort(open)
		open = slices.Compact(open)
	}
	return open
}

func wantedDerived(table []impl.Term, known []int64) []int64 {
	m := makerOf(table, wantedOpen(table, known))
	var derived []int64
	for at := range table {
		if m.makes(int64(at)) {
			derived = append(derived, int64(at))
		}
	}
	return derived
}

// closedKnown goes another way: whatever follows from anything that follows is taken in, opened or made,
// until nothing follows that is not there.
func closedKnown(table []impl.Term, known []int64) []int64 {
	in := make([]bool, len(table))
	for _, at := range known {
		in[at] = true
	}
	half := func(secret int64) bool {
		at := slices.Index(table, halfTerm(secret))
		return at >= 0 && in[at]
	}
	for grown := true; grown; {
		grown = false
		take := func(at int64) {
			grown = grown || !in[at]
			in[at] = true
		}
		for i, x := range table {
			at, parts := int64(i), partsNamed(x)
			held := !slices.ContainsFunc(parts, func(part int64) bool { return !in[part] })
			switch {
			case x.Op == 3 && in[at]:
				take(x.A)
				take(x.B)
			case x.Op == 5 && in[at] && in[x.A]:
				take(x.B)
			case x.Op != 2 && held:
				take(at)
			case x.Op == 7 && (in[x.A] && half(x.B) || in[x.B] && half(x.A)):
				take(at)
			}
		}
	}
	var all []int64
	for at, is := range in {
		if is {
			all = append(all, int64(at))
		}
	}
	return all
}

// wantKnown asks every function of chapter 6, at each place and at ones that there are not.
func wantKnown(t *testing.T, what string, table []impl.Term, known []int64) {
	t.Helper()
	if code := wantedKnownFault(table, known); code != impl.OK {
		wantAllKnownCodes(t, what, table, known, code)
		return
	}
	if got := impl.KnownFault(table, known); got != impl.OK {
		t.Errorf("%s: %v of %v: fault %d", what, known, table, got)
	}
	m, derived := makerOf(table, known), wantedDerived(table, known)
	wantPlaces(t, fmt.Sprint(what, ": ", table, " opened of ", known), impl.OpenAll(table, known), impl.IntsResult{List: wantedOpen(table, known)})
	wantPlaces(t, fmt.Sprint(what, ": ", table, " derived of ", known), impl.DerivesSome(table, known), impl.IntsResult{List: derived})
	for _, at := range placesAsked(table) {
		wantAtKnown(t, what, table, known, at, m.makes(at), slices.Contains(derived, at))
	}
}

// placesAsked are all of a table, and such as are none; of a great table some of them.
func placesAsked(table []impl.Term) []int64 {
	last := int64(len(table)) - 1
	if last < 40 {
		return placesAround(table)
	}
	places := []int64{math.MinInt64, -1, last - 2, last - 1, last, last + 1, 1 << 32, math.MaxInt64}
	for at := int64(0); at < last; at += 17 {
		places = append(places, at)
	}
	return places
}

// wantAtKnown fails the test unless what is told of the place is that it can be made, and derived.
func wantAtKnown(t *testing.T, what string, table []impl.Term, known []int64, at int64, makes bool, derives bool) {
	t.Helper()
	if got := impl.CanMake(table, known, at); got != makes {
		t.Errorf("%s: %v of %v: %d can be made: %v", what, known, table, at, got)
	}
	if got := impl.Derives(table, known, at); got != derives {
		t.Errorf("%s: %v of %v: %d is derived: %v", what, known, table, at, got)
	}
	secret := at >= 0 && at < int64(len(table)) && !derives
	if got := impl.IsSecret(table, known, at); got != secret {
		t.Errorf("%s: %v of %v: %d is a secret: %v", what, known, table, at, got)
	}
}

// wantAllKnownCodes fails the test unless every function tells the code, and nothing beside it.
func wantAllKnownCodes(t *testing.T, what string, table []impl.Term, known []int64, code int64) {
	t.Helper()
	if got := impl.KnownFault(table, known); got != code {
		t.Errorf("%s: fault %d, want %d", what, got, code)
	}
	wantPlaces(t, what+", opened", impl.OpenAll(table, known), impl.IntsResult{Code: code})
	wantPlaces(t, what+", derived", impl.DerivesSome(table, known), impl.IntsResult{Code: code})
	last := int64(len(table)) - 1
	for _, at := range []int64{math.MinInt64, -1, 0, 1, 2, last - 1, last, last + 1, 400, math.MaxInt64} {
		if impl.CanMake(table, known, at) || impl.Derives(table, known, at) || impl.IsSecret(table, known, at) {
			t.Error(what, "has a fault, and something is so of", at)
		}
	}
}

// upTo are the places of n terms.
func upTo(n int) []int64 {
	places := make([]int64, n)
	for i := range places {
		places[i] = int64(i)
	}
	return places
}

// eachKnown hands every list of places of a table over: 2 to the power of its length of them.
func eachKnown(table []impl.Term, ask func(known []int64)) {
	for marks := 0; marks < 1<<len(table); marks++ {
		var known []int64
		for at := range table {
			if marks>>at&1 == 1 {
				known = append(known, int64(at))
			}
		}
		ask(known)
	}
}

// someKnown are some places of a table, each one with a chance of one in so many.
func someKnown(r *rand.Rand, table []impl.Term, in int) []int64 {
	var known []int64
	for at := range table {
		if r.Intn(in) == 0 {
			known = append(known, int64(at))
		}
	}
	return known
}

// isAllIn is so where each of a list is in the other one.
func isAllIn(some []int64, all []int64) bool {
	return !slices.ContainsFunc(some, func(at int64) bool { return !slices.Contains(all, at) })
}

// chained is a chain of seals: each secret but the first one is sealed with the one ahead of it. The seals
// stand behind the secrets, in the order of the chain or, turned, the other way round.
func chained(secrets int, turned bool) []impl.Term {
	var table, seals []impl.Term
	for n := range int64(secrets) {
		table = append(table, freshTerm(n))
		if n > 0 {
			seals = append(seals, sealTerm(n-1, n))
		}
	}
	if turned {
		slices.Reverse(seals)
	}
	return behind(table, seals...)
}

// nested is a term in n seals, one within the other, all with the secret at the place 0.
func nested(n int) []impl.Term {
	table := tableOf(freshTerm(0), freshTerm(1))
	for range n {
		table = append(table, sealTerm(0, int64(len(table))-1))
	}
	return table
}

func TestBoundOfWhatIsKnownIsThatOfTheDocument(t *testing.T) {
	if impl.MaxKnown != 400 {
		t.Error(impl.MaxKnown)
	}
}

func TestKnownFaultOfEveryLength(t *testing.T) {
	for _, length := range []int{0, 1, 2, 399, 400} {
		for _, count := range []int{0, 1, 2, 398, 399, 400, 401, 402, 1000} {
			what := fmt.Sprint(count, " known of ", length)
			for _, table := range [][]impl.Term{names(length), doubled(length)} {
				switch {
				case count > 400:
					wantAllKnownCodes(t, what, table, upTo(count), impl.ErrMany)
					wantAllKnownCodes(t, what+", all alike", table, make([]int64, count), impl.ErrMany)
					wantAllKnownCodes(t, what+", no places", table, slices.Repeat([]int64{-1}, count), impl.ErrMany)
				case count > length:
					wantAllKnownCodes(t, what, table, upTo(count), impl.ErrRange)
				default:
					wantKnown(t, what, table, upTo(count))
				}
			}
		}
	}
	for _, count := range []int{0, 1, 400, 401} {
		wantAllKnownCodes(t, fmt.Sprint(count, " known of 401"), names(401), upTo(count), impl.ErrMany)
	}
	for _, known := range [][]int64{nil, {}} {
		if impl.KnownFault(nil, known) != impl.OK || impl.KnownFault([]impl.Term{}, known) != impl.OK {
			t.Error("nothing known of nothing")
		}
		wantKnown(t, "nothing known of nothing", nil, known)
		wantKnown(t, "nothing known of one", tableOf(freshTerm(1)), known)
	}
	// All but one of 400 are known, whichever it is.
	for _, at := range []int{0, 1, 200, 398, 399} {
		wantKnown(t, "all but one", doubled(400), slices.Delete(upTo(400), at, at+1))
	}
}

func TestWhatIsKnownIsAPlace(t *testing.T) {
	for _, length := range []int64{1, 2, 5, 400} {
		table := names(int(length))
		for _, at := range []int64{0, length - 1} {
			wantKnown(t, "a place at an end", table, []int64{at})
		}
		for _, at := range []int64{math.MinInt64, math.MinInt64 + 1, -400, -1, length, length + 1, 401, 1 << 32, 1<<32 + 1, math.MaxInt64} {
			what := fmt.Sprint(at, " known of ", length)
			wantAllKnownCodes(t, what, table, []int64{at}, impl.ErrRange)
			wantAllKnownCodes(t, what+", the first", table, []int64{at, 0}, impl.ErrRange)
			wantAllKnownCodes(t, what+", the last", table, []int64{0, at}, impl.ErrRange)
			wantAllKnownCodes(t, what+", among others", table, []int64{0, at, length - 1}, impl.ErrRange)
			wantAllKnownCodes(t, what+", behind all", table, append(upTo(int(length))[:min(length, 399)], at), impl.ErrRange)
		}
	}
	for _, at := range []int64{math.MinInt64, -1, 0, 1, math.MaxInt64} {
		wantAllKnownCodes(t, fmt.Sprint(at, " known of an empty table"), nil, []int64{at}, impl.ErrRange)
	}
}

func TestWhatIsKnownRises(t *testing.T) {
	table := tableOf(freshTerm(1), freshTerm(2), nameTerm(3), pairTerm(0, 1), sealTerm(0, 3))
	cases := []struct {
		what  string
		known []int64
		code  int64
	}{
		{"two alike, the first", []int64{0, 0}, impl.ErrForm},
		{"two alike, the last", []int64{4, 4}, impl.ErrForm},
		{"two alike at the end", []int64{0, 2, 2}, impl.ErrForm},
		{"two alike at the beginning", []int64{2, 2, 4}, impl.ErrForm},
		{"two alike, not next to one another", []int64{0, 1, 0}, impl.ErrForm},
		{"two that fall", []int64{1, 0}, impl.ErrForm},
		{"two that fall far", []int64{4, 0}, impl.ErrForm},
		{"two that fall at the end", []int64{0, 2, 4, 3}, impl.ErrForm},
		{"two that fall at the beginning", []int64{3, 2, 4}, impl.ErrForm},
		{"all fall", []int64{4, 3, 2, 1, 0}, impl.ErrForm},
		{"two that fall, ahead of no place", []int64{1, 0, 5}, impl.ErrForm},
		{"two alike, ahead of no place", []int64{1, 1, -1}, impl.ErrForm},
		{"no place, ahead of two that fall", []int64{5, 1, 0}, impl.ErrRange},
		{"no place, and it falls", []int64{0, -1}, impl.ErrRange},
		{"no place, and it is alike", []int64{5, 5}, impl.ErrRange},
		{"no place, ahead of two alike", []int64{0, math.MaxInt64, 2, 2}, impl.ErrRange},
		{"the least number, ahead of two alike", []int64{math.MinInt64, 0, 0}, impl.ErrRange},
	}
	for _, c := range cases {
		wantAllKnownCodes(t, c.what, table, c.known, c.code)
	}
	// Lists of three, of whatever numbers.
	for a := int64(-1); a <= 5; a++ {
		for b := int64(-1); b <= 5; b++ {
			for c := int64(-1); c <= 5; c++ {
				known := []int64{a, b, c}
				if got, want := impl.KnownFault(table, known), wantedKnownFault(table, known); got != want {
					t.Errorf("%v known: fault %d, want %d", known, got, want)
				}
			}
		}
	}
	full := upTo(400)
	full[399] = 398
	wantAllKnownCodes(t, "the last two of 400 alike", names(400), full, impl.ErrForm)
	full[399] = 400
	wantAllKnownCodes(t, "the last one of 400 behind the table", names(400), full, impl.ErrRange)
	full[0] = 1
	wantAllKnownCodes(t, "the first two of 400 alike", names(400), full, impl.ErrForm)
}

func TestTheTablesFaultIsToldFirst(t *testing.T) {
	for _, fault := range faultyTables {
		for _, known := range [][]int64{nil, {0}, {0, 1}, {1, 0}, {0, 0}, {-1}, {400}, {math.MinInt64}, {math.MaxInt64}, upTo(400), upTo(401), make([]int64, 401)} {
			wantAllKnownCodes(t, fmt.Sprint(fault.what, ", ", len(known), " known"), fault.table, known, fault.code)
		}
	}
	// Where the table has none, too many are told ahead of what is wrong with one.
	for _, known := range [][]int64{make([]int64, 401), slices.Repeat([]int64{math.MinInt64}, 401), slices.Repeat([]int64{math.MaxInt64}, 5000)} {
		wantAllKnownCodes(t, "too many, and each one wrong", names(400), known, impl.ErrMany)
		wantAllKnownCodes(t, "too many, of an empty table", nil, known, impl.ErrMany)
	}
}

func TestNamesAreMadeByAllAndSecretsByWhoKnowsThem(t *testing.T) {
	table := tableOf(nameTerm(0), freshTerm(0), nameTerm(9999), freshTerm(9999))
	eachKnown(table, func(known []int64) {
		for at := range int64(4) {
			can := at%2 == 0 || slices.Contains(known, at)
			wantAtKnown(t, "names and secrets", table, known, at, can, can)
		}
		// A name that is not known is made, not opened.
		wantPlaces(t, "names and secrets", impl.OpenAll(table, known), impl.IntsResult{List: known})
	})
	of := tableOf(nameTerm(1), nameTerm(2), pairTerm(0, 1), prfTerm(1, 0), sealTerm(2, 3), pairTerm(4, 4))
	wantPlaces(t, "nothing of names", impl.OpenAll(of, nil), impl.IntsResult{})
	wantPlaces(t, "all of names", impl.DerivesSome(of, nil), impl.IntsResult{List: upTo(6)})
}

func TestWhatIsMadeOfTwoPartsWantsBothOrIsKnownItself(t *testing.T) {
	for op := int64(3); op <= 5; op++ {
		table := tableOf(freshTerm(1), freshTerm(2), impl.Term{Op: op, A: 0, B: 1}, impl.Term{Op: op, A: 1, B: 0}, impl.Term{Op: op, A: 0, B: 0})
		eachKnown(table, func(known []int64) {
			a, b := slices.Contains(known, 0), slices.Contains(known, 1)
			for at, can := range []bool{a, b, a && b, a && b, a} {
				// Nothing is opened here.
				can = can || slices.Contains(known, int64(at))
				if got := impl.CanMake(table, known, int64(at)); got != can {
					t.Errorf("%v of %v: %d can be made: %v", known, table, at, got)
				}
			}
			wantKnown(t, "of two parts", table, known)
		})
		// A name is the one part, or stands in it.
		named := tableOf(nameTerm(7), freshTerm(1), impl.Term{Op: op, A: 0, B: 1}, impl.Term{Op: op, A: 1, B: 0}, impl.Term{Op: op, A: 2, B: 0})
		for at := int64(2); at <= 4; at++ {
			if impl.CanMake(named, nil, at) || impl.CanMake(named, []int64{0}, at) || !impl.CanMake(named, []int64{1}, at) || !impl.CanMake(named, []int64{at}, at) {
				t.Error("op", op, "of a name and a secret at", at)
			}
		}
		if !impl.CanMake(named, []int64{2}, 4) || impl.CanMake(named, []int64{4}, 2) || impl.CanMake(named, []int64{3}, 4) {
			t.Error("op", op, "of one that is known itself")
		}
		eachKnown(named, func(known []int64) { wantKnown(t, "of a name and a secret", named, known) })
	}
}

func TestAHalfIsMadeOfItsSecretAndTellsItNot(t *testing.T) {
	table := tableOf(freshTerm(1), freshTerm(2), halfTerm(0), halfTerm(1))
	eachKnown(table, func(known []int64) {
		a, b := slices.Contains(known, 0), slices.Contains(known, 1)
		for at, can := range []bool{a, b, a || slices.Contains(known, 2), b || slices.Contains(known, 3)} {
			wantAtKnown(t, "halves", table, known, int64(at), can, can)
		}
		wantPlaces(t, "halves are not opened", impl.OpenAll(table, known), impl.IntsResult{List: known})
	})
}

func TestABothIsMadeOfOneSecretAndTheOtherOnesHalf(t *testing.T) {
	one, two := freshTerm(1), freshTerm(2)
	// Each table with the places of the two halves in it (-1: it has it not), and of the both.
	tables := []struct {
		what              string
		table             []impl.Term
		halfA, halfB, own int64
	}{
		{"both halves ahead", tableOf(one, two, halfTerm(0), halfTerm(1), bothTerm(0, 1)), 2, 3, 4},
		{"both halves behind", tableOf(one, two, bothTerm(0, 1), halfTerm(0), halfTerm(1)), 3, 4, 2},
		{"both halves behind, turned", tableOf(one, two, bothTerm(0, 1), halfTerm(1), halfTerm(0)), 4, 3, 2},
		{"one ahead and one behind", tableOf(one, two, halfTerm(0), bothTerm(0, 1), halfTerm(1)), 2, 4, 3},
		{"one behind and one ahead", tableOf(one, two, halfTerm(1), bothTerm(0, 1), halfTerm(0)), 4, 2, 3},
		{"a half ahead of the other secret", tableOf(one, halfTerm(0), two, halfTerm(2), bothTerm(0, 2)), 1, 3, 4},
		{"the half of A ahead, the other is not there", tableOf(one, two, halfTerm(0), bothTerm(0, 1)), 2, -1, 3},
		{"the half of B ahead, the other is not there", tableOf(one, two, halfTerm(1), bothTerm(0, 1)), -1, 2, 3},
		{"the half of A behind, the other is not there", tableOf(one, two, bothTerm(0, 1), halfTerm(0)), 3, -1, 2},
		{"the half of B behind, the other is not there", tableOf(one, two, bothTerm(0, 1), halfTerm(1)), -1, 3, 2},
		{"no half", tableOf(one, two, bothTerm(0, 1)), -1, -1, 2},
		{"a third one's half", tableOf(one, two, freshTerm(3), halfTerm(2), bothTerm(0, 1), halfTerm(1)), -1, 5, 4},
	}
	for _, c := range tables {
		a, b := c.table[c.own].A, c.table[c.own].B
		eachKnown(c.table, func(known []int64) {
			has := func(at int64) bool { return slices.Contains(known, at) }
			can := has(c.own) || has(a) && has(b) || has(a) && has(c.halfB) || has(b) && has(c.halfA)
			wantAtKnown(t, c.what, c.table, known, c.own, can, can)
			// What two halves make tells neither secret.
			wantAtKnown(t, c.what, c.table, known, a, has(a), has(a))
			wantAtKnown(t, c.what, c.table, known, b, has(b), has(b))
			wantPlaces(t, c.what, impl.OpenAll(c.table, known), impl.IntsResult{List: known})
			wantKnown(t, c.what, c.table, known)
		})
	}
}

func TestABothOfOneSecretTwiceWantsTheSecret(t *testing.T) {
	for _, table := range [][]impl.Term{
		tableOf(freshTerm(1), halfTerm(0), bothTerm(0, 0)),
		tableOf(freshTerm(1), bothTerm(0, 0), halfTerm(0)),
		tableOf(freshTerm(1), bothTerm(0, 0)),
		tableOf(freshTerm(1), freshTerm(2), halfTerm(1), halfTerm(0), bothTerm(0, 0)),
	} {
		own := int64(slices.Index(table, bothTerm(0, 0)))
		eachKnown(table, func(known []int64) {
			can := slices.Contains(known, 0) || slices.Contains(known, own)
			wantAtKnown(t, "one secret twice", table, known, own, can, can)
			wantKnown(t, "one secret twice", table, known)
		})
	}
}

// knownCases are what is known of a table, with all that is opened and derived of it.
var knownCases = []struct {
	what    string
	table   []impl.Term
	known   []int64
	open    []int64
	derived []int64
}{
	{"nothing known", tableOf(nameTerm(0), freshTerm(1), pairTerm(0, 1)), nil, nil, []int64{0}},
	{"all known", tableOf(freshTerm(1), pairTerm(0, 0), sealTerm(0, 1)), upTo(3), upTo(3), upTo(3)},
	{"a pair", tableOf(freshTerm(1), freshTerm(2), freshTerm(3), pairTerm(0, 2)), []int64{3}, []int64{0, 2, 3}, []int64{0, 2, 3}},
	{"a pair within a pair, the first part", tableOf(freshTerm(1), freshTerm(2), freshTerm(3), pairTerm(0, 1), pairTerm(3, 2)), []int64{4}, upTo(5), upTo(5)},
	{"a pair within a pair, the second part", tableOf(freshTerm(1), freshTerm(2), freshTerm(3), pairTerm(0, 1), pairTerm(2, 3)), []int64{4}, upTo(5), upTo(5)},
	{"a pair that is not known", tableOf(freshTerm(1), freshTerm(2), pairTerm(0, 1), pairTerm(0, 2)), []int64{2}, []int64{0, 1, 2}, upTo(4)},
	{"what comes of a key tells nothing", tableOf(freshTerm(1), freshTerm(2), prfTerm(0, 1)), []int64{2}, []int64{2}, []int64{2}},
	{"what comes of a key tells not the pair in it", tableOf(freshTerm(1), pairTerm(0, 0), prfTerm(1, 1)), []int64{2}, []int64{2}, []int64{2}},
	{"a half tells nothing", tableOf(freshTerm(1), halfTerm(0)), []int64{1}, []int64{1}, []int64{1}},
	{"a both tells nothing", tableOf(freshTerm(1), freshTerm(2), halfTerm(0), bothTerm(0, 1)), []int64{3}, []int64{3}, []int64{3}},
	{"a seal alone", tableOf(freshTerm(1), freshTerm(2), sealTerm(0, 1)), []int64{2}, []int64{2}, []int64{2}},
	{"a seal and its key", tableOf(freshTerm(1), freshTerm(2), sealTerm(0, 1)), []int64{0, 2}, upTo(3), upTo(3)},
	{"a seal and what is in it, which tells not the key", tableOf(freshTerm(1), freshTerm(2), sealTerm(0, 1)), []int64{1, 2}, []int64{1, 2}, []int64{1, 2}},
	{"a seal and another key", tableOf(freshTerm(1), freshTerm(2), freshTerm(3), sealTerm(0, 1)), []int64{2, 3}, []int64{2, 3}, []int64{2, 3}},
	{"the key without the seal", tableOf(freshTerm(1), freshTerm(2), sealTerm(0, 1)), []int64{0}, []int64{0}, []int64{0}},
	{"a seal whose key is a name", tableOf(nameTerm(1), freshTerm(2), sealTerm(0, 1)), []int64{2}, []int64{1, 2}, upTo(3)},
	{"a seal in which a name is", tableOf(freshTerm(1), nameTerm(2), sealTerm(0, 1)), []int64{0, 2}, upTo(3), upTo(3)},
	{"a seal of its own key", tableOf(freshTerm(1), sealTerm(0, 0)), []int64{1}, []int64{1}, []int64{1}},
	{"a seal of its own key, which is known", tableOf(freshTerm(1), sealTerm(0, 0)), []int64{0, 1}, upTo(2), upTo(2)},
	{"a seal of its own key, a name", tableOf(nameTerm(1), sealTerm(0, 0)), []int64{1}, upTo(2), upTo(2)},
	{"a seal of its own key within a pair", tableOf(freshTerm(1), freshTerm(2), pairTerm(0, 1), sealTerm(0, 2)), []int64{3}, []int64{3}, []int64{3}},
	{"a seal whose key is a pair, made and not known", tableOf(freshTerm(1), nameTerm(2), pairTerm(0, 1), freshTerm(3), sealTerm(2, 3)), []int64{0, 4}, []int64{0, 3, 4}, upTo(5)},
	{"a seal whose key comes of a key, made and not known", tableOf(freshTerm(1), freshTerm(2), nameTerm(3), prfTerm(0, 2), sealTerm(3, 1)), []int64{0, 4}, []int64{0, 1, 4}, upTo(5)},
	{"a seal whose key is a seal, made and not known", tableOf(freshTerm(1), nameTerm(2), sealTerm(0, 1), freshTerm(3), sealTerm(2, 3)), []int64{0, 4}, []int64{0, 3, 4}, upTo(5)},
	{"a seal whose key is a seal that is known and stays shut", tableOf(freshTerm(1), freshTerm(2), sealTerm(0, 1), freshTerm(3), sealTerm(2, 3)), []int64{2, 4}, []int64{2, 3, 4}, []int64{2, 3, 4}},
	{"a seal whose key is a half that is known", tableOf(freshTerm(1), halfTerm(0), freshTerm(2), sealTerm(1, 2)), []int64{1, 3}, []int64{1, 2, 3}, []int64{1, 2, 3}},
	{"a seal whose key is a half that is made", tableOf(freshTerm(1), halfTerm(0), freshTerm(2), sealTerm(1, 2)), []int64{0, 3}, []int64{0, 2, 3}, upTo(4)},
	{"a seal whose key is a both, of a secret and a half", tableOf(freshTerm(1), freshTerm(2), bothTerm(0, 1), freshTerm(3), sealTerm(2, 3), halfTerm(1)), []int64{0, 4, 5}, []int64{0, 3, 4, 5}, []int64{0, 2, 3, 4, 5}},
	{"a seal whose key is a both, of two halves", tableOf(freshTerm(1), freshTerm(2), bothTerm(0, 1), freshTerm(3), sealTerm(2, 3), halfTerm(1), halfTerm(0)), []int64{4, 5, 6}, []int64{4, 5, 6}, []int64{4, 5, 6}},
	{"a seal whose key is a pair that is known", tableOf(freshTerm(1), freshTerm(2), pairTerm(0, 1), freshTerm(3), sealTerm(2, 3)), []int64{2, 4}, upTo(5), upTo(5)},
	{"a key out of a seal that stands ahead", tableOf(freshTerm(1), freshTerm(2), freshTerm(3), sealTerm(0, 1), sealTerm(1, 2)), []int64{0, 3, 4}, upTo(5), upTo(5)},
	{"a key out of a seal that stands behind", tableOf(freshTerm(1), freshTerm(2), freshTerm(3), sealTerm(1, 2), sealTerm(0, 1)), []int64{0, 3, 4}, upTo(5), upTo(5)},
	{"a key out of a pair that stands ahead", tableOf(freshTerm(1), freshTerm(2), pairTerm(0, 0), sealTerm(0, 1)), []int64{2, 3}, upTo(4), upTo(4)},
	{"a key out of a pair that stands behind", tableOf(freshTerm(1), freshTerm(2), sealTerm(0, 1), pairTerm(0, 0)), []int64{2, 3}, upTo(4), upTo(4)},
	{"a part of a key out of a seal", tableOf(freshTerm(1), freshTerm(2), freshTerm(3), prfTerm(0, 1), sealTerm(0, 1), sealTerm(3, 2)), []int64{0, 4, 5}, []int64{0, 1, 2, 4, 5}, upTo(6)},
	{"a half out of a pair", tableOf(freshTerm(1), freshTerm(2), halfTerm(1), bothTerm(0, 1), nameTerm(4), pairTerm(2, 4)), []int64{0, 5}, []int64{0, 2, 4, 5}, []int64{0, 2, 3, 4, 5}},
	{"a half out of a seal, for the key of another one", tableOf(freshTerm(1), freshTerm(2), halfTerm(1), bothTerm(0, 1), sealTerm(3, 1), sealTerm(0, 2)), []int64{0, 4, 5}, []int64{0, 1, 2, 4, 5}, upTo(6)},
	{"two seals, each with the other one's key", tableOf(freshTerm(1), freshTerm(2), sealTerm(0, 1), sealTerm(1, 0)), []int64{2, 3}, []int64{2, 3}, []int64{2, 3}},
	{"two seals, each with the other one's key, and one of these", tableOf(freshTerm(1), freshTerm(2), sealTerm(0, 1), sealTerm(1, 0)), []int64{1, 2, 3}, upTo(4), upTo(4)},
	{"a seal within a seal, the key of the outer one", tableOf(freshTerm(1), freshTerm(2), freshTerm(3), sealTerm(1, 2), sealTerm(0, 3)), []int64{0, 4}, []int64{0, 3, 4}, []int64{0, 3, 4}},
	{"a seal within a seal, the key of the inner one", tableOf(freshTerm(1), freshTerm(2), freshTerm(3), sealTerm(1, 2), sealTerm(0, 3)), []int64{1, 4}, []int64{1, 4}, []int64{1, 4}},
	{"a seal within a seal, both keys", tableOf(freshTerm(1), freshTerm(2), freshTerm(3), sealTerm(1, 2), sealTerm(0, 3)), []int64{0, 1, 4}, upTo(5), upTo(5)},
	{"a seal within a seal, one key for both", tableOf(freshTerm(1), freshTerm(2), sealTerm(0, 1), sealTerm(0, 2)), []int64{0, 3}, upTo(4), upTo(4)},
	{"a seal within a pair within a seal", tableOf(freshTerm(1), freshTerm(2), sealTerm(0, 1), pairTerm(2, 0), freshTerm(3), sealTerm(4, 3)), []int64{4, 5}, upTo(6), upTo(6)},
	{"a seal that is made and not known", tableOf(freshTerm(1), freshTerm(2), sealTerm(0, 1)), []int64{0, 1}, []int64{0, 1}, upTo(3)},
}

func TestOpenedAndDerivedOfWhatIsKnown(t *testing.T) {
	for _, c := range knownCases {
		wantPlaces(t, c.what+", opened", impl.OpenAll(c.table, c.known), impl.IntsResult{List: c.open})
		wantPlaces(t, c.what+", derived", impl.DerivesSome(c.table, c.known), impl.IntsResult{List: c.derived})
		for at := range int64(len(c.table)) {
			derives := slices.Contains(c.derived, at)
			if impl.Derives(c.table, c.known, at) != derives || impl.IsSecret(c.table, c.known, at) == derives {
				t.Error(c.what, "at", at)
			}
		}
		// And with whatever else is known of it.
		eachKnown(c.table, func(known []int64) { wantKnown(t, c.what, c.table, known) })
	}
}

func TestAPairIsOpenedToDeriveAndNotToMake(t *testing.T) {
	table := tableOf(freshTerm(1), freshTerm(2), pairTerm(0, 1), prfTerm(0, 1))
	for at, makes := range []bool{false, false, true, false} {
		wantAtKnown(t, "a pair is known", table, []int64{2}, int64(at), makes, true)
	}
	sealed := tableOf(freshTerm(1), freshTerm(2), sealTerm(0, 1), halfTerm(1))
	for at, makes := range []bool{true, false, true, false} {
		wantAtKnown(t, "a seal and its key are known", sealed, []int64{0, 2}, int64(at), makes, true)
	}
}

func TestAPlaceThatIsNoneIsNothing(t *testing.T) {
	for _, table := range [][]impl.Term{nil, names(1), doubled(5), names(400), chained(200, false)} {
		for _, known := range [][]int64{nil, upTo(len(table)), upTo(len(table))[len(table)/2:]} {
			n := int64(len(table))
			for _, at := range []int64{math.MinInt64, math.MinInt64 + 1, -n, -1, n, n + 1, 401, 1 << 32, 1<<32 + n - 1, math.MaxInt64 - 1, math.MaxInt64} {
				if at == 0 {
					continue
				}
				wantAtKnown(t, "no place", table, known, at, false, false)
			}
		}
	}
}

func TestWhatIsOpenedInManyRounds(t *testing.T) {
	for _, turned := range []bool{false, true} {
		table := chained(200, turned)
		seals := upTo(399)[200:]
		for _, first := range []int64{0, 1, 100, 198, 199} {
			known := append([]int64{first}, seals...)
			open := slices.Concat(upTo(200)[first:], seals)
			wantPlaces(t, fmt.Sprint("a chain from ", first), impl.OpenAll(table, known), impl.IntsResult{List: open})
			wantPlaces(t, fmt.Sprint("a chain from ", first), impl.DerivesSome(table, known), impl.IntsResult{List: open})
			wantKnown(t, "a chain", table, known)
		}
		wantPlaces(t, "a chain without a key", impl.OpenAll(table, seals), impl.IntsResult{List: seals})
		// The chain ends where a seal is missing.
		for _, missing := range []int64{200, 201, 300, 398} {
			known := append([]int64{0}, slices.DeleteFunc(slices.Clone(seals), func(at int64) bool { return at == missing })...)
			wantPlaces(t, fmt.Sprint("a chain without ", missing), impl.OpenAll(table, known),
				impl.IntsResult{List: slices.Concat(upTo(int(table[missing].B)), known[1:])})
			wantKnown(t, "a chain without a seal", table, known)
		}
	}
}

func TestWhatIsOpenedIsAsDeepAsTheTable(t *testing.T) {
	// Pairs within pairs: all of it comes of the last one, and the last one of the first.
	for _, n := range []int{2, 3, 399, 400} {
		table, last := doubled(n), int64(n)-1
		wantPlaces(t, "all of the last one", impl.OpenAll(table, []int64{last}), impl.IntsResult{List: upTo(n)})
		wantPlaces(t, "nothing of the first one", impl.OpenAll(table, []int64{0}), impl.IntsResult{List: []int64{0}})
		wantPlaces(t, "all made of the first one", impl.DerivesSome(table, []int64{0}), impl.IntsResult{List: upTo(n)})
		if !impl.CanMake(table, []int64{0}, last) || impl.CanMake(table, []int64{last}, 0) || impl.CanMake(table, nil, last) || !impl.Derives(table, []int64{last}, 0) {
			t.Error("of", n, "pairs within pairs")
		}
		wantKnown(t, "pairs within pairs", table, []int64{last})
		wantKnown(t, "pairs within pairs, the middle", table, []int64{last / 2})
	}
	for _, n := range []int{1, 2, 398} {
		table, last := nested(n), int64(n)+1
		wantPlaces(t, "seals within seals, with the key", impl.OpenAll(table, []int64{0, last}), impl.IntsResult{List: upTo(n + 2)})
		wantPlaces(t, "seals within seals, without it", impl.OpenAll(table, []int64{last}), impl.IntsResult{List: []int64{last}})
		wantPlaces(t, "the key alone", impl.DerivesSome(table, []int64{0}), impl.IntsResult{List: []int64{0}})
		wantKnown(t, "seals within seals", table, []int64{0, last})
		wantKnown(t, "seals within seals, what is in them", table, []int64{0, 1})
	}
}

func TestWhatIsOpenedOnceIsOpen(t *testing.T) {
	r := rand.New(rand.NewSource(61))
	opened, unsealed := 0, 0
	for round := 0; round < 900; round++ {
		table := someTerms(r, r.Intn(40))
		known := someKnown(r, table, 3+r.Intn(6))
		open := impl.OpenAll(table, known)
		wantPlaces(t, "opened", open, impl.IntsResult{List: wantedOpen(table, known)})
		wantPlaces(t, fmt.Sprint("opened twice: ", known, " of ", table), impl.OpenAll(table, open.List), open)
		if impl.KnownFault(table, open.List) != impl.OK || !isAllIn(known, open.List) {
			t.Fatal(known, "opened", open, "of", table)
		}
		// Nothing that is opened was not derived, and nothing more is derived of it.
		derived := impl.DerivesSome(table, known)
		wantPlaces(t, "derived of what is opened", impl.DerivesSome(table, open.List), derived)
		if !isAllIn(open.List, derived.List) {
			t.Fatal(known, "opened", open, "derived", derived, "of", table)
		}
		opened += len(open.List) - len(known)
		for _, at := range open.List {
			if x := table[at]; x.Op == 5 && !slices.Contains(known, x.B) && slices.Contains(open.List, x.B) {
				unsealed++
			}
		}
	}
	if opened < 1000 || unsealed < 200 {
		t.Error("only", opened, "were opened, and", unsealed, "were in seals")
	}
}

func TestWhatIsDerivedIsClosed(t *testing.T) {
	r := rand.New(rand.NewSource(62))
	derivedOnly, kept := 0, 0
	for round := 0; round < 600; round++ {
		table := someTerms(r, r.Intn(40))
		if round%100 == 0 {
			table = someTerms(r, 400)
		}
		known := someKnown(r, table, 2+r.Intn(9))
		derived := impl.DerivesSome(table, known)
		// Just what follows follows: no less and no more than what is closed under all the ways to open and to make.
		wantPlaces(t, fmt.Sprint("derived: ", known, " of ", table), derived, impl.IntsResult{List: closedKnown(table, known)})
		wantPlaces(t, "derived twice", impl.DerivesSome(table, derived.List), derived)
		wantPlaces(t, "opened of what is derived", impl.OpenAll(table, derived.List), derived)
		for at := range int64(len(table)) {
			is := slices.Contains(derived.List, at)
			if len(table) < 50 && (impl.CanMake(table, derived.List, at) != is || impl.Derives(table, derived.List, at) != is || impl.IsSecret(table, derived.List, at) == is) {
				t.Fatal(known, "of", table, "derived", derived, "and not closed at", at)
			}
		}
		derivedOnly += len(derived.List) - len(known)
		kept += len(table) - len(derived.List)
	}
	if derivedOnly < 2000 || kept < 2000 {
		t.Error("only", derivedOnly, "were derived, and", kept, "kept secret")
	}
}

func TestWhoKnowsMoreDerivesNoLess(t *testing.T) {
	r := rand.New(rand.NewSource(63))
	grown := 0
	for round := 0; round < 500; round++ {
		table := someTerms(r, 1+r.Intn(30))
		more := someKnown(r, table, 2+r.Intn(3))
		less := slices.DeleteFunc(slices.Clone(more), func(int64) bool { return r.Intn(3) == 0 })
		few, many := impl.DerivesSome(table, less), impl.DerivesSome(table, more)
		if !isAllIn(few.List, many.List) || !isAllIn(impl.OpenAll(table, less).List, impl.OpenAll(table, more).List) {
			t.Fatalf("%v: of %v %v, of %v %v", table, less, few, more, many)
		}
		for at := range int64(len(table)) {
			if impl.CanMake(table, less, at) && !impl.CanMake(table, more, at) || impl.Derives(table, less, at) && !impl.Derives(table, more, at) ||
				impl.IsSecret(table, more, at) && !impl.IsSecret(table, less, at) {
				t.Fatalf("%v: %d of %v, and not of %v", table, at, less, more)
			}
		}
		grown += len(many.List) - len(few.List)
	}
	if grown < 500 {
		t.Error("only", grown, "more were derived")
	}
}

func TestWhatIsDerivedHangsNotOnTheOrderOfTheTable(t *testing.T) {
	r := rand.New(rand.NewSource(64))
	for round := 0; round < 300; round++ {
		table := someTerms(r, 1+r.Intn(25))
		other, places := shuffled(r, table)
		moved := func(list []int64) []int64 {
			var there []int64
			for _, at := range list {
				there = append(there, places[at])
			}
			slices.Sort(there)
			return there
		}
		known := someKnown(r, table, 2+r.Intn(3))
		what := fmt.Sprint(known, " of ", table, " in another order")
		wantPlaces(t, what, impl.OpenAll(other, moved(known)), impl.IntsResult{List: moved(impl.OpenAll(table, known).List)})
		wantPlaces(t, what, impl.DerivesSome(other, moved(known)), impl.IntsResult{List: moved(impl.DerivesSome(table, known).List)})
	}
}

func TestEveryFunctionOfWhatIsKnownAtEveryPlace(t *testing.T) {
	r := rand.New(rand.NewSource(65))
	for round := 0; round < 60; round++ {
		table := someTerms(r, r.Intn(8))
		eachKnown(table, func(known []int64) { wantKnown(t, "some table", table, known) })
	}
	for round := 0; round < 300; round++ {
		table := someTerms(r, r.Intn(35))
		wantKnown(t, "some greater table", table, someKnown(r, table, 1+r.Intn(6)))
	}
	for _, table := range [][]impl.Term{names(400), doubled(400), someTerms(r, 399), someTerms(r, 400)} {
		for _, in := range []int{1, 2, 4, 20, 1000} {
			wantKnown(t, "a great table", table, someKnown(r, table, in))
		}
	}
}

func TestWhatIsKnownOfTheDocumentsKind(t *testing.T) {
	// Two halves; known are the one secret and the other half: what they make can be made.
	table := tableOf(freshTerm(1), freshTerm(2), halfTerm(0), halfTerm(1), bothTerm(0, 1))
	wantAtKnown(t, "the document's example", table, []int64{0, 3}, 4, true, true)
	wantAtKnown(t, "the halves alone", table, []int64{2, 3}, 4, false, false)
}
