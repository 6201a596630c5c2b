package tests

import (
	"math"
	"math/rand"
	"slices"
	"testing"

	"loop.example/g00205/impl"
)

// knownLists are of every kind that chapter 6 tells apart, of a table of that many terms.
func knownLists(r *rand.Rand, table []impl.Term) [][]int64 {
	last := int64(len(table)) - 1
	list := [][]int64{
		nil, {}, {0}, {last}, {0, last}, {-1}, {last + 1}, {0, 0}, {1, 0}, {math.MinInt64}, {math.MaxInt64}, {0, math.MaxInt64},
		upTo(len(table)), upTo(400), upTo(401), make([]int64, 401),
	}
	for _, in := range []int{2, 3, 5} {
		list = append(list, someKnown(r, table, in))
	}
	return list
}

// roomyPlaces has room behind its end, so that an append to the copy would write into memory that the test sees.
func roomyPlaces(known []int64) []int64 {
	return append(make([]int64, 0, len(known)+500), known...)
}

func unchangedPlaces(given []int64, known []int64) bool {
	room := given[len(given):cap(given)]
	return slices.Equal(given, known) && slices.Equal(room, make([]int64, len(room)))
}

func answersOfKnown(table []impl.Term, known []int64) []any {
	all := []any{impl.KnownFault(table, known), impl.OpenAll(table, known), impl.DerivesSome(table, known)}
	for _, at := range somePlaces(table) {
		all = append(all, impl.CanMake(table, known, at), impl.Derives(table, known, at), impl.IsSecret(table, known, at))
	}
	return all
}

// knownTables are those of the terms, and ones in which much is opened.
func knownTables() [][]impl.Term {
	list := termTables()
	for _, c := range knownCases {
		list = append(list, c.table)
	}
	return append(list, chained(200, false), chained(20, true), nested(30))
}

func TestKnownFunctionsChangeNoArgument(t *testing.T) {
	r := rand.New(rand.NewSource(66))
	for _, table := range knownTables() {
		for _, known := range knownLists(r, table) {
			given, givenKnown := roomyTerms(table), roomyPlaces(known)
			answersOfKnown(given, givenKnown)
			if !unchangedTerms(given, table) {
				t.Error("a table changed:", len(table), "terms, known", known)
			}
			if !unchangedPlaces(givenKnown, known) {
				t.Error("what is known changed:", givenKnown[:cap(givenKnown)], "want", known)
			}
		}
	}
}

func TestKnownAnswersAreNewMemory(t *testing.T) {
	r := rand.New(rand.NewSource(67))
	calls := map[string]func(table []impl.Term, known []int64) impl.IntsResult{"OpenAll": impl.OpenAll, "DerivesSome": impl.DerivesSome}
	for _, table := range knownTables() {
		for _, known := range knownLists(r, table) {
			for name, call := range calls {
				given, givenKnown := roomyTerms(table), roomyPlaces(known)
				first, second := call(given, givenKnown), call(given, givenKnown)
				want := slices.Clone(first.List)
				// What is held stays, whatever becomes of the arguments and of another answer, as far as their memory goes.
				overwrite(impl.Term{Op: 99, A: 99, B: 99, N: 99}, given)
				overwrite(99, givenKnown, second.List)
				if !slices.Equal(first.List, want) {
					t.Error(name, "shares memory:", first.List, "want", want)
				}
				// And what is asked anew is as it was.
				wantPlaces(t, name+" again", call(table, known), impl.IntsResult{Code: first.Code, List: want})
			}
		}
	}
}

func TestKnownAnswersHangOnTheArgumentsAlone(t *testing.T) {
	r := rand.New(rand.NewSource(68))
	tables := knownTables()
	var lists [][][]int64
	for _, table := range tables {
		lists = append(lists, knownLists(r, table))
	}
	wantSameAgain(t, len(tables), func(i int, roomy bool) []any {
		var all []any
		for _, known := range lists[i] {
			table := tables[i]
			if roomy {
				table, known = roomyTerms(table), roomyPlaces(known)
			}
			all = append(all, answersOfKnown(table, known)...)
		}
		return all
	})
}

func TestKnownFunctionsAnswerAtTheEndsOfEveryNumberAtOnce(t *testing.T) {
	ahead := tableOf(freshTerm(1), freshTerm(2), nameTerm(3))
	ends := []int64{math.MinInt64, math.MinInt64 + 1, -1, 0, 1, 2, 3, 4, math.MaxInt64 - 1, math.MaxInt64}
	codes := map[int64]int{}
	for _, op := range []int64{math.MinInt64, 0, 1, 2, 3, 4, 5, 6, 7, 8, math.MaxInt64} {
		for _, a := range ends {
			for _, b := range ends {
				table := behind(ahead, impl.Term{Op: op, A: a, B: b})
				for _, known := range [][]int64{nil, {a}, {b}, {a, b}, {0, 3}, {0, 1, a}} {
					code := wantedKnownFault(table, known)
					codes[code]++
					if impl.KnownFault(table, known) != code || impl.OpenAll(table, known).Code != code || impl.DerivesSome(table, known).Code != code {
						t.Error("a function tells not", code, "of", known, "of", table)
					}
					for _, at := range ends {
						can, derives, secret := impl.CanMake(table, known, at), impl.Derives(table, known, at), impl.IsSecret(table, known, at)
						if code != impl.OK && (can || derives || secret) || can && !derives || (derives || secret) != (code == impl.OK && at >= 0 && at <= 3) || derives && secret {
							t.Error(at, "of", known, "of", table, "is made, derived, secret:", can, derives, secret)
						}
					}
				}
			}
		}
	}
	for _, code := range []int64{impl.OK, impl.ErrForm, impl.ErrRange, impl.ErrText} {
		if codes[code] == 0 {
			t.Error("code", code, "was not asked for:", codes)
		}
	}
}
