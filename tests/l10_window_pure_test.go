package tests

import (
	"fmt"
	"math"
	"math/rand"
	"slices"
	"testing"

	"loop.example/g00205/impl"
)

// windowsAsked are some without a fault, and all of the faulty ones.
func windowsAsked() []impl.Window {
	r := rand.New(rand.NewSource(107))
	list := append(edgeWindows(), faultyWindows()...)
	for range 50 {
		list = append(list, someWindow(r))
	}
	return list
}

// numbersFor are lists of numbers at the window, of every kind that TakeAll tells apart.
func numbersFor(w impl.Window) [][]int64 {
	r := rand.New(rand.NewSource(108))
	var some []int64
	for range 60 {
		some = append(some, seqNear(r, w))
	}
	top := min(max(w.Top, 0), greatestSeq-9)
	return [][]int64{
		nil, {}, {0}, {top + 1}, {top + 1, top + 2, top + 3}, {top + 3, top + 2, top + 1}, {top + 1, top + 1}, {0, -1, greatestSeq + 1},
		some, make([]int64, 100), make([]int64, 101), {math.MinInt64, math.MaxInt64},
	}
}

func answersOfWindow(w impl.Window) []any {
	all := []any{impl.WindowFault(w)}
	for _, n := range append(slices.Clone(sequenceEdges), w.Top, w.Bits) {
		all = append(all, impl.SeenIn(w, n), impl.TakeSeq(w, n), impl.GuessSeq(w, n), impl.TakeLow(w, n))
	}
	return append(all, impl.MissingIn(w))
}

func TestWindowFunctionsChangeNoArgument(t *testing.T) {
	for _, w := range windowsAsked() {
		for _, list := range numbersFor(w) {
			given := roomyPlaces(list)
			impl.TakeAll(w, given)
			if !unchangedPlaces(given, list) {
				t.Error("the numbers changed:", given, "want", list)
			}
		}
	}
}

func TestWindowAnswersAreNewMemory(t *testing.T) {
	for _, w := range windowsAsked() {
		for _, list := range numbersFor(w) {
			given := roomyPlaces(list)
			first, second := impl.TakeAll(w, given), impl.TakeAll(w, given)
			// What is held stays, whatever becomes of the argument and of another answer, as far as their memory goes.
			overwrite(99, given, second.List)
			wantPlaces(t, fmt.Sprint(list, " from ", w, " held"), first, wantedTakeAll(w, list))
			wantPlaces(t, fmt.Sprint(list, " from ", w, " again"), impl.TakeAll(w, list), wantedTakeAll(w, list))
		}
		first, second := impl.MissingIn(w), impl.MissingIn(w)
		overwrite(99, second.List)
		wantPlaces(t, fmt.Sprint("missing in ", w, " held"), first, wantedMissing(w))
		wantPlaces(t, fmt.Sprint("missing in ", w, " again"), impl.MissingIn(w), wantedMissing(w))
	}
}

func TestWindowAnswersHangOnTheArgumentsAlone(t *testing.T) {
	windows := windowsAsked()
	wantSameAgain(t, len(windows), func(i int, roomy bool) []any {
		all := answersOfWindow(windows[i])
		for _, list := range numbersFor(windows[i]) {
			if roomy {
				list = roomyPlaces(list)
			}
			all = append(all, impl.TakeAll(windows[i], list))
		}
		return all
	})
}

func TestWindowFunctionsAnswerAtTheEndsOfEveryNumberAtOnce(t *testing.T) {
	ends := []int64{math.MinInt64, math.MinInt64 + 32, -1, 0, 1, 32, allBits, lowHalves, greatestSeq, greatestSeq + 1, math.MaxInt64 - 32, math.MaxInt64}
	for _, top := range ends {
		for _, bits := range ends {
			w := window(top, bits)
			wantAlone(t, "at the ends", w)
			for _, n := range ends {
				wantSeq(t, "at the ends", w, n)
				wantLow(t, "at the ends", w, n)
				for _, m := range ends {
					wantPlaces(t, "at the ends", impl.TakeAll(w, []int64{n, m, n}), wantedTakeAll(w, []int64{n, m, n}))
				}
			}
		}
	}
}
