package tests

import (
	"fmt"
	"math"
	"math/rand"
	"slices"
	"testing"

	"loop.example/g00205/impl"
)

// keyTables are those of the terms, and ones of which keys and proofs are made, with room and without.
func keyTables() [][]impl.Term {
	list := append(termTables(), twoSides(), oneOfEach(), behind(twoSides(), fillers(394)...), behind(twoSides(), fillers(384)...))
	for _, c := range makingCalls {
		whole := c.want(twoSides(), rightNumbers[c.name]).table
		list = append(list, whole, behind(whole, fillers(fullTable-len(whole))...))
	}
	return list
}

// keyNumbers are some lists of numbers for the function.
func keyNumbers(c keyCall, table []impl.Term) [][]int64 {
	r := rand.New(rand.NewSource(94))
	list := [][]int64{slices.Repeat([]int64{0}, len(c.kinds)), slices.Repeat([]int64{-1}, len(c.kinds)), slices.Repeat([]int64{2}, len(c.kinds))}
	if c.name == "PutNames" {
		list = append(list, []int64{0}, []int64{7, 8, 7}, upTo(21), []int64{9999, -1})
	}
	if right := rightNumbers[c.name]; right != nil {
		list = append(list, right)
	}
	for range 4 {
		list = append(list, someNumbers(r, c, table))
	}
	return list
}

func TestKeyFunctionsChangeNoArgument(t *testing.T) {
	for _, table := range keyTables() {
		given := roomyTerms(table)
		for _, c := range keyCalls {
			for _, x := range keyNumbers(c, table) {
				givenNumbers := roomyPlaces(x)
				c.call(given, givenNumbers)
				if !unchangedTerms(given, table) {
					t.Fatal(c.name, "changed a table of", len(table), "terms, given", x)
				}
				if !unchangedPlaces(givenNumbers, x) {
					t.Error(c.name, "changed its numbers:", givenNumbers[:cap(givenNumbers)], "want", x)
				}
			}
		}
	}
}

func TestKeyAnswersAreNewMemory(t *testing.T) {
	wrong := impl.Term{Op: 99, A: 99, B: 99, N: 99}
	for _, table := range keyTables() {
		for _, c := range keyCalls {
			for _, x := range keyNumbers(c, table) {
				given, givenNumbers := roomyTerms(table), roomyPlaces(x)
				first, second := c.call(given, givenNumbers), c.call(given, givenNumbers)
				want := made{first.code, slices.Clone(first.numbers), slices.Clone(first.table)}
				// What is held stays, whatever becomes of the arguments and of another answer, as far as their memory goes.
				overwrite(wrong, given, second.table)
				overwrite(99, givenNumbers, second.numbers)
				wantMade(t, fmt.Sprint(c.name, " of ", x, " held"), first, want)
				// And what is asked anew is as it was.
				wantMade(t, fmt.Sprint(c.name, " of ", x, " again"), c.call(table, x), want)
			}
		}
	}
}

func TestKeyAnswersHangOnTheArgumentsAlone(t *testing.T) {
	tables := keyTables()
	wantSameAgain(t, len(tables), func(i int, roomy bool) []any {
		var all []any
		for _, c := range keyCalls {
			for _, x := range keyNumbers(c, tables[i]) {
				table := tables[i]
				if roomy {
					table, x = roomyTerms(table), roomyPlaces(x)
				}
				got := c.call(table, x)
				// No list and an empty one are the same.
				all = append(all, got.code, len(got.numbers), len(got.table))
				for _, n := range got.numbers {
					all = append(all, n)
				}
				for _, term := range got.table {
					all = append(all, term)
				}
			}
		}
		return all
	})
}

func TestKeyFunctionsAnswerAtTheEndsOfEveryNumberAtOnce(t *testing.T) {
	table := oneOfEach()
	ends := []int64{math.MinInt64, -1, 0, 2, 5, 6, 8, 10000, math.MaxInt64}
	for _, c := range append(slices.Clone(keyCalls), keyCall{"PutNames", "nnn", 1, putNamesCall.call, putNamesCall.wanted}) {
		x := make([]int64, len(c.kinds))
		var fill func(at int)
		fill = func(at int) {
			if at == len(x) {
				wantKeyCall(t, "at the ends", c, table, x...)
				return
			}
			some := ends
			if len(x) > 4 {
				some = []int64{math.MinInt64, 2, 6, 8, math.MaxInt64}
			}
			for _, n := range some {
				x[at] = n
				fill(at + 1)
			}
		}
		fill(0)
	}
	// Terms that are none, and places of every kind at once.
	for _, op := range []int64{math.MinInt64, -1, 0, 1, 2, 3, 5, 6, 7, 8, math.MaxInt64} {
		for _, n := range []int64{math.MinInt64, -1, 0, 1, 7, 8, 9999, math.MaxInt64} {
			faulty := behind(table, impl.Term{Op: op, A: n, B: n, N: n})
			for _, c := range keyCalls {
				for _, at := range []int64{math.MinInt64, 0, 8, n, math.MaxInt64} {
					wantKeyCall(t, "behind what may be no term", c, faulty, slices.Repeat([]int64{at}, len(c.kinds))...)
				}
			}
		}
	}
}
