package tests

import (
	"bytes"
	"math"
	"math/rand"
	"slices"
	"testing"

	"loop.example/g00205/impl"
)

// suiteLists are ones without a fault, of every length, and ones with each fault.
func suiteLists() [][]impl.Suite {
	r := rand.New(rand.NewSource(87))
	a, b := suite(2, 192, 2, 3), suite(1, 128, 1, 1)
	list := [][]impl.Suite{
		nil, {}, {{}}, {a}, {b}, {a, b}, {b, a}, {a, a}, {a, b, a}, {a, {}}, {{Cipher: 5, Bits: 128, Mix: 1, Group: 1}, a},
		allSuites()[:10], allSuites()[:11], allSuites(), make([]impl.Suite, 11),
		{{Cipher: math.MinInt64, Bits: math.MaxInt64, Mix: math.MinInt64, Group: math.MaxInt64}},
	}
	near := someSuites(r, 12)
	for length := 1; length <= 10; length++ {
		list = append(list, someSuites(r, length), mixedSuites(r, near)[:length])
	}
	return list
}

// suiteTexts are bytes of suites, and of none.
func suiteTexts() [][]byte {
	list := [][]byte{nil, {}, {1}, {1, 2, 1}, {1, 2, 1, 1}, {1, 2, 1, 1, 1}, {0, 0, 0, 0}, {1, 2, 1, 1, 1, 2, 1, 1}, {4, 5, 3, 6}, filled(40, 2), filled(44, 2), filled(4000, 1)}
	for _, suites := range suiteLists() {
		if data := wantedSuiteBytes(suites).Bytes; data != nil {
			list = append(list, data, data[:len(data)-1])
		}
	}
	return list
}

// roomySuites has room behind its end, so that an append to the copy would write into memory that the test sees.
func roomySuites(list []impl.Suite) []impl.Suite {
	return append(make([]impl.Suite, 0, len(list)+12), list...)
}

func unchangedSuites(given []impl.Suite, list []impl.Suite) bool {
	room := given[len(given):cap(given)]
	return slices.Equal(given, list) && slices.Equal(room, make([]impl.Suite, len(room)))
}

func answersOfSuites(list []impl.Suite) []any {
	all := []any{impl.SuitesFault(list), impl.StrongestOf(list), impl.EncodeSuites(list)}
	for _, x := range list {
		all = append(all, impl.SuiteFault(x), impl.WeakerSuite(x, list[0]), impl.WeakerSuite(list[0], x))
	}
	return all
}

func answersOfTwoSuiteLists(offered []impl.Suite, mine []impl.Suite) []any {
	return []any{impl.ChooseSuite(offered, mine), impl.CommonSuites(offered, mine)}
}

func TestProposalFunctionsChangeNoArgument(t *testing.T) {
	for _, offered := range suiteLists() {
		given := roomySuites(offered)
		answersOfSuites(given)
		for _, mine := range suiteLists() {
			givenMine := roomySuites(mine)
			answersOfTwoSuiteLists(given, givenMine)
			if !unchangedSuites(givenMine, mine) {
				t.Error("what is mine changed:", givenMine, "want", mine)
			}
		}
		answersOfTwoSuiteLists(given, given)
		if !unchangedSuites(given, offered) {
			t.Error("a list changed:", given, "want", offered)
		}
	}
	for _, data := range suiteTexts() {
		given := roomyCopy(data)
		impl.DecodeSuites(given)
		if !unchangedBytes(given, data) {
			t.Errorf("bytes changed: %x, want %x", given, data)
		}
	}
}

func TestSuitesInCommonAreNewMemory(t *testing.T) {
	wrong := suite(99, 99, 99, 99)
	for _, offered := range suiteLists() {
		for _, mine := range suiteLists() {
			given, givenMine := roomySuites(offered), roomySuites(mine)
			first, second := impl.CommonSuites(given, givenMine), impl.CommonSuites(given, givenMine)
			chosen := impl.ChooseSuite(given, givenMine)
			// What is held stays, whatever becomes of the arguments and of another answer, as far as their memory goes.
			overwrite(wrong, given, givenMine, second.Suites)
			wantSuites(t, "held", first, wantedCommon(offered, mine))
			wantSuite(t, "held", chosen, wantedChoice(offered, mine))
			// And what is asked anew is as it was.
			wantSuites(t, "again", impl.CommonSuites(offered, mine), wantedCommon(offered, mine))
		}
		// All that is in common with itself is no piece of it either.
		given := roomySuites(offered)
		same := impl.CommonSuites(given, given)
		overwrite(wrong, given)
		wantSuites(t, "with itself", same, wantedCommon(offered, offered))
	}
}

func TestBytesOfSuitesAreNewMemory(t *testing.T) {
	wrong := suite(99, 99, 99, 99)
	for _, list := range suiteLists() {
		given := roomySuites(list)
		first, second := impl.EncodeSuites(given), impl.EncodeSuites(given)
		strongest := impl.StrongestOf(given)
		want := wantedSuiteBytes(list)
		overwrite(wrong, given)
		overwrite(99, second.Bytes)
		wantBytes(t, "held", first, want.Code, want.Bytes)
		wantSuite(t, "held", strongest, wantedStrongest(list))
		wantBytes(t, "again", impl.EncodeSuites(list), want.Code, want.Bytes)
	}
	for _, data := range suiteTexts() {
		given := bytes.Clone(data)
		first, second := impl.DecodeSuites(given), impl.DecodeSuites(given)
		overwrite(99, given)
		overwrite(wrong, second.Suites)
		wantSuites(t, "read, held", first, wantedSuitesRead(data))
		wantSuites(t, "read again", impl.DecodeSuites(data), wantedSuitesRead(data))
	}
}

func TestProposalAnswersHangOnTheArgumentsAlone(t *testing.T) {
	lists, texts := suiteLists(), suiteTexts()
	wantSameAgain(t, len(lists), func(i int, roomy bool) []any {
		list, room := lists[i], func(data []byte) []byte { return data }
		if roomy {
			list, room = roomySuites(list), roomyCopy
		}
		all := answersOfSuites(list)
		for _, other := range lists {
			all = append(all, answersOfTwoSuiteLists(list, other)...)
			all = append(all, answersOfTwoSuiteLists(other, list)...)
		}
		for _, data := range texts {
			all = append(all, impl.DecodeSuites(room(data)))
		}
		return all
	})
}

func TestProposalFunctionsAnswerAtTheEndsOfEveryNumberAtOnce(t *testing.T) {
	x, right := impl.Suite{}, suites(suite(4, 256, 3, 6), suite(1, 128, 1, 1))
	var fill func(field int)
	fill = func(field int) {
		if field < len(suiteFields) {
			for _, n := range []int64{math.MinInt64, -1, 0, 1, 256, math.MaxInt64} {
				*suiteFields[field].of(&x) = n
				fill(field + 1)
			}
			return
		}
		code := wantedSuiteFault(x)
		if impl.SuiteFault(x) != code {
			t.Error(x)
		}
		wantProposals(t, "at the ends", suites(x))
		wantProposals(t, "at the ends", append(suites(x), right...))
		wantChosen(t, "at the ends", suites(x), right)
		wantChosen(t, "at the ends", right, suites(x))
		for _, y := range append(right, x, impl.Suite{}) {
			if impl.WeakerSuite(x, y) != wantedWeaker(x, y) || impl.WeakerSuite(y, x) != wantedWeaker(y, x) {
				t.Error(x, "and", y)
			}
		}
	}
	fill(0)
}
