package tests

import (
	"math"
	"math/rand"
	"slices"
	"testing"

	"loop.example/g00205/impl"
)

// termTables are ones without a fault, of every kind that chapter 5 tells apart, and ones with each fault.
func termTables() [][]impl.Term {
	r := rand.New(rand.NewSource(55))
	list := [][]impl.Term{
		nil, {}, {{}}, {{Op: 8}}, {nameTerm(0)}, {nameTerm(-1)}, {freshTerm(10000)}, {{Op: 1, B: 1}}, {freshTerm(1), nameTerm(1), freshTerm(1)},
		{freshTerm(1), freshTerm(2), bothTerm(0, 1), bothTerm(1, 1)}, {freshTerm(1), freshTerm(2), bothTerm(1, 0)}, {nameTerm(1), halfTerm(0)},
		{freshTerm(2), freshTerm(1), halfTerm(1), bothTerm(0, 1), sealTerm(2, 3), pairTerm(4, 0), prfTerm(5, 5)},
		{nameTerm(0), pairTerm(0, 1)}, names(399), names(400), names(401), doubled(399), doubled(400), doubled(401),
	}
	for n := 0; n <= 20; n++ {
		list = append(list, someTerms(r, n))
	}
	return append(list, someTerms(r, 400))
}

// roomyTerms has room behind its end, so that an append to the copy would write into memory that the test sees.
func roomyTerms(table []impl.Term) []impl.Term {
	return append(make([]impl.Term, 0, len(table)+500), table...)
}

func unchangedTerms(given []impl.Term, table []impl.Term) bool {
	room := given[len(given):cap(given)]
	return slices.Equal(given, table) && slices.Equal(room, make([]impl.Term, len(room)))
}

// somePlaces are those at the edges of a table.
func somePlaces(table []impl.Term) []int64 {
	last := int64(len(table)) - 1
	return []int64{math.MinInt64, -1, 0, 1, last / 2, last - 1, last, last + 1, 400, math.MaxInt64}
}

func answersOfTerms(table []impl.Term, list []int64) []any {
	all := []any{impl.TermsFault(table), impl.PutList(table, list), impl.PutList(table, nil)}
	for _, x := range []impl.Term{nameTerm(0), freshTerm(1), pairTerm(0, 0), bothTerm(0, 1), halfTerm(1), {}, {Op: 2, A: 1}} {
		all = append(all, impl.PutTerm(table, x))
	}
	for _, x := range somePlaces(table) {
		all = append(all, impl.SizeOf(table, x), impl.PartsOf(table, x), impl.TermText(table, x))
		for _, y := range []int64{-1, 0, 1, x} {
			all = append(all, impl.PutBoth(table, x, y), impl.OccursIn(table, y, x))
		}
	}
	return all
}

func answersOfTwoTables(from []impl.Term, to []impl.Term) []any {
	var all []any
	for _, x := range somePlaces(from) {
		all = append(all, impl.MoveTerm(from, x, to), impl.SameTerms(from, x, to, 0), impl.SameTerms(to, 1, from, x))
	}
	return all
}

func TestTermFunctionsChangeNoArgument(t *testing.T) {
	tables := termTables()
	for _, table := range tables {
		given, list := roomyTerms(table), append(make([]int64, 0, 60), 0, 1, 0, 2)
		answersOfTerms(given, list)
		if !unchangedTerms(given, table) {
			t.Error("a table changed:", len(table), "terms")
		}
		if !slices.Equal(list[:cap(list)], append([]int64{0, 1, 0, 2}, make([]int64, 56)...)) {
			t.Error("a list changed:", list[:cap(list)])
		}
		for _, to := range [][]impl.Term{nil, tables[4], tables[9], tables[12], names(398), doubled(400)} {
			givenTo := roomyTerms(to)
			answersOfTwoTables(given, givenTo)
			if !unchangedTerms(given, table) || !unchangedTerms(givenTo, to) {
				t.Error("a table changed:", len(table), "terms, and", len(to))
			}
		}
	}
}

func TestTermAnswersAreNewMemory(t *testing.T) {
	wrong := impl.Term{Op: 99, A: 99, B: 99, N: 99}
	into := tableOf(nameTerm(0), freshTerm(2), freshTerm(1))
	for _, table := range termTables() {
		last := int64(len(table)) - 1
		calls := map[string]func(table []impl.Term, into []impl.Term) impl.TermResult{
			"PutTerm":             func(table []impl.Term, _ []impl.Term) impl.TermResult { return impl.PutTerm(table, nameTerm(77)) },
			"PutTerm of the last": func(table []impl.Term, _ []impl.Term) impl.TermResult { return impl.PutTerm(table, lastOf(table)) },
			"PutBoth":             func(table []impl.Term, _ []impl.Term) impl.TermResult { return impl.PutBoth(table, 1, 0) },
			"PutList": func(table []impl.Term, _ []impl.Term) impl.TermResult {
				return impl.PutList(table, []int64{0, 0, last})
			},
			"PutList of one":    func(table []impl.Term, _ []impl.Term) impl.TermResult { return impl.PutList(table, []int64{last}) },
			"PutList of none":   func(table []impl.Term, _ []impl.Term) impl.TermResult { return impl.PutList(table, nil) },
			"MoveTerm":          func(table []impl.Term, into []impl.Term) impl.TermResult { return impl.MoveTerm(table, last, into) },
			"MoveTerm into it":  func(table []impl.Term, into []impl.Term) impl.TermResult { return impl.MoveTerm(into, 1, table) },
			"MoveTerm into its": func(table []impl.Term, _ []impl.Term) impl.TermResult { return impl.MoveTerm(table, last, table) },
		}
		for name, call := range calls {
			given, givenInto := roomyTerms(table), roomyTerms(into)
			first, second := call(given, givenInto), call(given, givenInto)
			want := slices.Clone(first.Table)
			// What is held stays, whatever becomes of the arguments and of another answer, as far as their memory goes.
			overwrite(wrong, given, givenInto, second.Table)
			if !slices.Equal(first.Table, want) {
				t.Error(name, "shares memory:", len(table), "terms")
			}
			// And what is asked anew is as it was.
			wantTerm(t, name+" again", call(table, into), impl.TermResult{Code: first.Code, At: first.At, Table: want})
		}
		parts, other := impl.PartsOf(table, last), impl.PartsOf(table, last)
		overwrite(99, other.List)
		wantPlaces(t, "parts", parts, wantedParts(table, last))
		wantPlaces(t, "parts again", impl.PartsOf(table, last), wantedParts(table, last))
	}
}

// lastOf is the last term of a table, or a wrong one, if there is none.
func lastOf(table []impl.Term) impl.Term {
	if len(table) == 0 {
		return impl.Term{}
	}
	return table[len(table)-1]
}

func TestTermAnswersHangOnTheArgumentsAlone(t *testing.T) {
	tables := termTables()
	wantSameAgain(t, len(tables), func(i int, roomy bool) []any {
		table, list, to := tables[i], []int64{0, 1, 2, 0}, tables[(i*7+12)%len(tables)]
		if roomy {
			table, to = roomyTerms(table), roomyTerms(to)
			list = append(make([]int64, 0, 60), list...)
		}
		return append(answersOfTerms(table, list), answersOfTwoTables(table, to)...)
	})
}

func TestTermFunctionsAnswerAtTheEndsOfEveryFieldAtOnce(t *testing.T) {
	ahead := tableOf(freshTerm(1), freshTerm(2), nameTerm(3))
	x, codes := impl.Term{}, map[int64]int{}
	var fill func(field int)
	fill = func(field int) {
		if field < len(termFields) {
			ends := []int64{math.MinInt64, math.MinInt64 + 1, -1, 0, 1, 2, 3, 9999, 10000, math.MaxInt64}
			if field == 0 {
				ends = []int64{math.MinInt64, -1, 0, 1, 2, 3, 4, 5, 6, 7, 8, math.MaxInt64}
			}
			for _, n := range ends {
				*termFields[field].of(&x) = n
				fill(field + 1)
			}
			return
		}
		table := behind(ahead, x)
		code := wantedTermsFault(table)
		codes[code]++
		if impl.TermsFault(table) != code || impl.PutTerm(table, nameTerm(9)).Code != code || impl.PutList(table, nil).Code != code ||
			impl.PutBoth(table, 0, 1).Code != code || impl.SizeOf(table, 3).Code != code || impl.PartsOf(table, 3).Code != code ||
			impl.OccursIn(table, 3, 3) != (code == impl.OK) || impl.SameTerms(table, 3, table, 3) != (code == impl.OK) ||
			impl.MoveTerm(table, 3, nil).Code != code || impl.MoveTerm(ahead, 2, table).Code != code || impl.TermText(table, 3).Code != code {
			t.Error("a function tells not", code, "of", x)
		}
		wantTerm(t, "put", impl.PutTerm(ahead, x), wantedPut(ahead, x))
	}
	fill(0)
	for _, code := range []int64{impl.OK, impl.ErrForm, impl.ErrRange, impl.ErrText, impl.ErrTaken} {
		if codes[code] == 0 {
			t.Error("code", code, "was not asked for:", codes)
		}
	}
}
