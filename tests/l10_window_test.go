package tests

import (
	"fmt"
	"math"
	"math/rand"
	"slices"
	"testing"

	"loop.example/g00205/impl"
)

const greatestSeq = 1 << 40
const lowHalves = 1 << 32
const allBits = 1<<32 - 1

// sequenceEdges are numbers at the bounds of what windows tell of.
var sequenceEdges = []int64{
	math.MinInt64, math.MinInt64 + 1, -1 << 40, -1 << 32, -33, -32, -31, -1, 0, 1, 2, 5, 30, 31, 32, 33, 34, 62, 63, 64, 65, 95, 96, 97,
	1<<31 - 1, 1 << 31, 1<<31 + 1, 1<<32 - 34, 1<<32 - 33, 1<<32 - 32, 1<<32 - 31, 1<<32 - 1, 1 << 32, 1<<32 + 1, 1<<32 + 5,
	1<<32 + 30, 1<<32 + 31, 1<<32 + 32, 1<<32 + 33, 1<<33 - 32, 1<<33 - 1, 1 << 33, 1<<33 + 1, 7<<32 - 31, 7 << 32, 7<<32 + 32,
	greatestSeq - lowHalves - 1, greatestSeq - lowHalves, greatestSeq - lowHalves + 31, greatestSeq - lowHalves + 32, greatestSeq - lowHalves + 33,
	greatestSeq - 33, greatestSeq - 32, greatestSeq - 31, greatestSeq - 1, greatestSeq, greatestSeq + 1, greatestSeq + 32, greatestSeq + lowHalves,
	1 << 48, math.MaxInt64 - 31, math.MaxInt64 - 1, math.MaxInt64,
}

func window(top int64, bits int64) impl.Window {
	return impl.Window{Top: top, Bits: bits}
}

// takenIn are the numbers of which the bits say that they were taken, the greatest one first: the bits are halved, not shifted.
func takenIn(w impl.Window) []int64 {
	var list []int64
	seq := w.Top
	for rest := w.Bits; rest > 0; rest /= 2 {
		if rest%2 == 1 {
			list = append(list, seq)
		}
		seq--
	}
	return list
}

// windowOf is the window behind these numbers, whatever their order.
func windowOf(taken ...int64) impl.Window {
	if len(taken) == 0 {
		return impl.Window{}
	}
	w, worth := window(slices.Max(taken), 0), int64(1)
	for seq := w.Top; seq > w.Top-32; seq-- {
		if slices.Contains(taken, seq) {
			w.Bits += worth
		}
		worth *= 2
	}
	return w
}

func wantedWindowFault(w impl.Window) int64 {
	if w.Top < 0 || w.Top > greatestSeq || w.Bits < 0 || w.Bits >= lowHalves {
		return impl.ErrRange
	}
	taken := takenIn(w)
	if w.Top == 0 && len(taken) > 0 || w.Top > 0 && !slices.Contains(taken, w.Top) || slices.ContainsFunc(taken, func(seq int64) bool { return seq < 1 }) {
		return impl.ErrForm
	}
	return impl.OK
}

func wantedSeen(w impl.Window, seq int64) bool {
	return wantedWindowFault(w) != impl.OK || seq < 1 || seq <= w.Top-32 || slices.Contains(takenIn(w), seq)
}

func wantedTake(w impl.Window, seq int64) impl.WindowResult {
	code := wantedWindowFault(w)
	switch {
	case code != impl.OK:
		return impl.WindowResult{Code: code}
	case seq < 1 || seq > greatestSeq:
		return impl.WindowResult{Code: impl.ErrRange}
	case seq <= w.Top-32:
		return impl.WindowResult{Code: impl.ErrOld}
	case slices.Contains(takenIn(w), seq):
		return impl.WindowResult{Code: impl.ErrTaken}
	}
	return impl.WindowResult{Seq: seq, Window: windowOf(append(takenIn(w), seq)...)}
}

// wantedGuess goes through all numbers with the low half, from the least one on.
func wantedGuess(w impl.Window, low int64) impl.IntResult {
	if code := wantedWindowFault(w); code != impl.OK {
		return impl.IntResult{Code: code}
	}
	if low < 0 || low >= lowHalves {
		return impl.IntResult{Code: impl.ErrRange}
	}
	for seq := low; seq <= greatestSeq; seq += lowHalves {
		if seq >= 1 && seq > w.Top-32 {
			return impl.IntResult{Value: seq}
		}
	}
	return impl.IntResult{Code: impl.ErrRange}
}

func wantedTakeLow(w impl.Window, low int64) impl.WindowResult {
	guess := wantedGuess(w, low)
	if guess.Code != impl.OK {
		return impl.WindowResult{Code: guess.Code}
	}
	return wantedTake(w, guess.Value)
}

func wantedTakeAll(w impl.Window, list []int64) impl.IntsResult {
	if code := wantedWindowFault(w); code != impl.OK {
		return impl.IntsResult{Code: code}
	}
	if len(list) > 100 {
		return impl.IntsResult{Code: impl.ErrMany}
	}
	var taken []int64
	for _, seq := range list {
		if wantedTake(w, seq).Code == impl.OK {
			taken = append(taken, seq)
			w = windowOf(append(takenIn(w), seq)...)
		}
	}
	return impl.IntsResult{List: taken}
}

func wantedMissing(w impl.Window) impl.IntsResult {
	if code := wantedWindowFault(w); code != impl.OK {
		return impl.IntsResult{Code: code}
	}
	var missing []int64
	for below := int64(31); below >= 1; below-- {
		if seq := w.Top - below; seq >= 1 && !slices.Contains(takenIn(w), seq) {
			missing = append(missing, seq)
		}
	}
	return impl.IntsResult{List: missing}
}

func wantTaken(t *testing.T, what string, got impl.WindowResult, want impl.WindowResult) {
	t.Helper()
	if got != want {
		t.Errorf("%s: %v, want %v", what, got, want)
	}
}

// wantSeq asks a window all that is told of one number, and tells the code of its being taken.
func wantSeq(t *testing.T, what string, w impl.Window, seq int64) int64 {
	t.Helper()
	if got := impl.SeenIn(w, seq); got != wantedSeen(w, seq) {
		t.Errorf("%s: %d seen in %v: %v", what, seq, w, got)
	}
	took := impl.TakeSeq(w, seq)
	wantTaken(t, fmt.Sprint(what, ": ", seq, " from ", w), took, wantedTake(w, seq))
	return took.Code
}

// wantLow asks a window all that is told of one low half, and tells the code of its being taken.
func wantLow(t *testing.T, what string, w impl.Window, low int64) int64 {
	t.Helper()
	if got, want := impl.GuessSeq(w, low), wantedGuess(w, low); got != want {
		t.Errorf("%s: guess of %d from %v: %v, want %v", what, low, w, got, want)
	}
	took := impl.TakeLow(w, low)
	wantTaken(t, fmt.Sprint(what, ": low ", low, " from ", w), took, wantedTakeLow(w, low))
	return took.Code
}

// wantAlone asks what is told of a window by itself.
func wantAlone(t *testing.T, what string, w impl.Window) {
	t.Helper()
	if got, want := impl.WindowFault(w), wantedWindowFault(w); got != want {
		t.Errorf("%s: fault of %v: %d, want %d", what, w, got, want)
	}
	wantPlaces(t, fmt.Sprint(what, ": missing in ", w), impl.MissingIn(w), wantedMissing(w))
}

// edgeWindows have no fault, and stand at every bound that the chapter names.
func edgeWindows() []impl.Window {
	list := []impl.Window{{}}
	for _, top := range sequenceEdges {
		for _, bits := range []int64{1, 2, 3, 5, 21, 1<<31 + 1, 1<<30 + 1, 1<<31 + 3, allBits, allBits - 2, allBits >> 1} {
			if w := window(top, bits); wantedWindowFault(w) == impl.OK {
				list = append(list, w)
			}
		}
	}
	return list
}

// faultyWindows have each fault that the chapter names.
func faultyWindows() []impl.Window {
	list := []impl.Window{
		{Top: 0, Bits: 1}, {Top: 0, Bits: 2}, {Top: 0, Bits: allBits}, {Top: 1, Bits: 0}, {Top: 1, Bits: 2}, {Top: 1, Bits: 3}, {Top: 31, Bits: 1<<31 + 1},
		{Top: 31, Bits: allBits}, {Top: 32, Bits: allBits - 1}, {Top: 40, Bits: 0}, {Top: greatestSeq, Bits: 0}, {Top: greatestSeq, Bits: allBits - 1},
	}
	for _, n := range []int64{math.MinInt64, math.MinInt64 + 1, -1 << 32, -32, -1, greatestSeq + 1, greatestSeq + 2, 1 << 41, math.MaxInt64 - 1, math.MaxInt64} {
		list = append(list, window(n, 1), window(n, 0), window(n, allBits), window(n, n), window(50, n), window(0, n))
	}
	return append(list, window(50, lowHalves), window(50, lowHalves+1), window(0, lowHalves), window(1<<40, 1<<33-1))
}

// someWindow has no fault.
func someWindow(r *rand.Rand) impl.Window {
	if r.Intn(20) == 0 {
		return impl.Window{}
	}
	top := []int64{1 + r.Int63n(70), 1<<32 - 40 + r.Int63n(80), r.Int63n(200)<<32 + r.Int63n(70) + 1, 1 + r.Int63n(greatestSeq), greatestSeq - r.Int63n(70)}[r.Intn(5)]
	taken := []int64{top}
	for range r.Intn(40) {
		taken = append(taken, max(1, top-r.Int63n(32)))
	}
	return windowOf(taken...)
}

// seqNear is most often a number at the window, now and then one that is far away or none.
func seqNear(r *rand.Rand, w impl.Window) int64 {
	switch r.Intn(12) {
	case 0:
		return r.Int63n(greatestSeq) + 1
	case 1:
		return sequenceEdges[r.Intn(len(sequenceEdges))]
	case 2:
		return w.Top + lowHalves*(r.Int63n(3)-1) + r.Int63n(100) - 50
	}
	return w.Top + r.Int63n(80) - 45
}

func TestBoundsOfWindowsAreThoseOfTheDocument(t *testing.T) {
	if impl.WindowSize != 32 || impl.MaxSeq != 1099511627776 {
		t.Error(impl.WindowSize, impl.MaxSeq)
	}
}

func TestWindowFaultOfKnownWindows(t *testing.T) {
	cases := []struct {
		what      string
		top, bits int64
		code      int64
	}{
		{"nothing was taken", 0, 0, impl.OK},
		{"nothing was taken, and the bit 0", 0, 1, impl.ErrForm},
		{"nothing was taken, and the bit 1", 0, 2, impl.ErrForm},
		{"nothing was taken, and the last bit", 0, 1 << 31, impl.ErrForm},
		{"nothing was taken, and all bits", 0, allBits, impl.ErrForm},
		{"nothing was taken, and a bit too many", 0, lowHalves, impl.ErrRange},
		{"1, without a bit", 1, 0, impl.ErrForm},
		{"1", 1, 1, impl.OK},
		{"1, and 0 alone", 1, 2, impl.ErrForm},
		{"1, and 0", 1, 3, impl.ErrForm},
		{"1, and all bits", 1, allBits, impl.ErrForm},
		{"2", 2, 1, impl.OK},
		{"2, and just 1", 2, 3, impl.OK},
		{"2, without itself", 2, 2, impl.ErrForm},
		{"2, and 0", 2, 5, impl.ErrForm},
		{"31, without a bit", 31, 0, impl.ErrForm},
		{"31", 31, 1, impl.OK},
		{"31, and just 1", 31, 1<<30 + 1, impl.OK},
		{"31, and all from 1 on", 31, 1<<31 - 1, impl.OK},
		{"31, and 0", 31, 1<<31 + 1, impl.ErrForm},
		{"31, and all bits", 31, allBits, impl.ErrForm},
		{"32, without a bit", 32, 0, impl.ErrForm},
		{"32", 32, 1, impl.OK},
		{"32, and just 1", 32, 1<<31 + 1, impl.OK},
		{"32, just 1 alone", 32, 1 << 31, impl.ErrForm},
		{"32, and all bits", 32, allBits, impl.OK},
		{"32, and all bits but its own", 32, allBits - 1, impl.ErrForm},
		{"32, and a bit too many", 32, lowHalves + 1, impl.ErrRange},
		{"33, and all bits", 33, allBits, impl.OK},
		{"33, and a bit too many", 33, lowHalves, impl.ErrRange},
		{"33, all bits and one too many", 33, 2*lowHalves - 1, impl.ErrRange},
		{"above 2^32", 1<<32 + 1, 3, impl.OK},
		{"above 2^32, without its bit", 1<<32 + 1, 2, impl.ErrForm},
		{"the greatest one, without a bit", greatestSeq, 0, impl.ErrForm},
		{"the greatest one", greatestSeq, 1, impl.OK},
		{"the greatest one, and all bits", greatestSeq, allBits, impl.OK},
		{"the greatest one, and a bit too many", greatestSeq, lowHalves, impl.ErrRange},
		{"above the greatest one", greatestSeq + 1, 1, impl.ErrRange},
		{"above the greatest one, without a bit", greatestSeq + 1, 0, impl.ErrRange},
		{"below 0", -1, 0, impl.ErrRange},
		{"below 0, with a bit", -1, 1, impl.ErrRange},
		{"bits below 0", 5, -1, impl.ErrRange},
		{"bits below 0, of nothing", 0, -1, impl.ErrRange},
		{"the least Top", math.MinInt64, 1, impl.ErrRange},
		{"the greatest Top", math.MaxInt64, 1, impl.ErrRange},
		{"the least Bits", 40, math.MinInt64, impl.ErrRange},
		{"the greatest Bits", 40, math.MaxInt64, impl.ErrRange},
	}
	for _, c := range cases {
		w := window(c.top, c.bits)
		if got := impl.WindowFault(w); got != c.code {
			t.Errorf("%s: %v: %d, want %d", c.what, w, got, c.code)
		}
		wantAlone(t, c.what, w)
	}
}

func TestWindowFaultAtEveryEdge(t *testing.T) {
	for _, top := range sequenceEdges {
		for _, bits := range append(slices.Clone(sequenceEdges), 3, 21, 1<<30+1, 1<<31+3, allBits-1, allBits-2, 1<<33-1) {
			wantAlone(t, "at the edges", window(top, bits))
		}
	}
}

func TestEachBitSpeaksOfOneNumber(t *testing.T) {
	for top := int64(0); top <= 70; top++ {
		for bit := range 40 {
			for _, own := range []int64{0, 1} {
				wantAlone(t, "a bit", window(top, own|1<<bit))
			}
			// With its own bit a window may speak of every number from 1 on, up to 31 below Top, and of no other one.
			right := top > 0 && int64(bit) < min(top, 32)
			if got := impl.WindowFault(window(top, 1|1<<bit)) == impl.OK; got != right {
				t.Error("Top", top, "and the bit", bit, "without a fault:", got)
			}
		}
	}
}

func TestNumbersTakenFromKnownWindows(t *testing.T) {
	small, of32, late := window(5, 21), window(32, 1<<31+3), window(greatestSeq, 1<<4+1)
	high := window(1<<32+5, 5)
	cases := []struct {
		w     impl.Window
		seq   int64
		code  int64
		after impl.Window
	}{
		{window(0, 0), -32, impl.ErrRange, window(0, 0)},
		{window(0, 0), -31, impl.ErrRange, window(0, 0)},
		{window(0, 0), -1, impl.ErrRange, window(0, 0)},
		{window(0, 0), 0, impl.ErrRange, window(0, 0)},
		{window(0, 0), 1, impl.OK, window(1, 1)},
		{window(0, 0), 31, impl.OK, window(31, 1)},
		{window(0, 0), 32, impl.OK, window(32, 1)},
		{window(0, 0), 33, impl.OK, window(33, 1)},
		{window(0, 0), greatestSeq, impl.OK, window(greatestSeq, 1)},
		{window(0, 0), greatestSeq + 1, impl.ErrRange, window(0, 0)},
		{small, -27, impl.ErrRange, window(0, 0)},
		{small, -26, impl.ErrRange, window(0, 0)},
		{small, -1, impl.ErrRange, window(0, 0)},
		{small, 0, impl.ErrRange, window(0, 0)},
		{small, 1, impl.ErrTaken, window(0, 0)},
		{small, 2, impl.OK, window(5, 29)},
		{small, 3, impl.ErrTaken, window(0, 0)},
		{small, 4, impl.OK, window(5, 23)},
		{small, 5, impl.ErrTaken, window(0, 0)},
		{small, 6, impl.OK, window(6, 43)},
		{small, 7, impl.OK, window(7, 85)},
		{small, 34, impl.OK, window(34, 1<<31+1<<29+1)},
		{small, 35, impl.OK, window(35, 1<<30+1)},
		{small, 36, impl.OK, window(36, 1<<31+1)},
		{small, 37, impl.OK, window(37, 1)},
		{small, 38, impl.OK, window(38, 1)},
		{small, 69, impl.OK, window(69, 1)},
		{small, lowHalves + 5, impl.OK, window(lowHalves+5, 1)},
		{small, lowHalves + 6, impl.OK, window(lowHalves+6, 1)},
		{small, greatestSeq, impl.OK, window(greatestSeq, 1)},
		{small, greatestSeq + 1, impl.ErrRange, window(0, 0)},
		{of32, -1, impl.ErrRange, window(0, 0)},
		{of32, 0, impl.ErrRange, window(0, 0)},
		{of32, 1, impl.ErrTaken, window(0, 0)},
		{of32, 2, impl.OK, window(32, 1<<31+1<<30+3)},
		{of32, 31, impl.ErrTaken, window(0, 0)},
		{of32, 32, impl.ErrTaken, window(0, 0)},
		{of32, 33, impl.OK, window(33, 7)},
		{of32, 63, impl.OK, window(63, 1<<31+1)},
		{of32, 64, impl.OK, window(64, 1)},
		{of32, 65, impl.OK, window(65, 1)},
		{of32, greatestSeq, impl.OK, window(greatestSeq, 1)},
		{of32, greatestSeq + 1, impl.ErrRange, window(0, 0)},
		{window(32, 1), 1, impl.OK, window(32, 1<<31+1)},
		{window(32, 1), 31, impl.OK, window(32, 3)},
		{window(33, 1), 1, impl.ErrOld, window(0, 0)},
		{window(33, 1), 2, impl.OK, window(33, 1<<31+1)},
		{window(33, allBits), 1, impl.ErrOld, window(0, 0)},
		{window(33, allBits), 34, impl.OK, window(34, allBits)},
		{window(50, 1), 18, impl.ErrOld, window(0, 0)},
		{window(50, 1), 19, impl.OK, window(50, 1<<31+1)},
		{high, 5, impl.ErrOld, window(0, 0)},
		{high, 1<<32 - 27, impl.ErrOld, window(0, 0)},
		{high, 1<<32 - 26, impl.OK, window(1<<32+5, 1<<31+5)},
		{high, 1<<32 - 1, impl.OK, window(1<<32+5, 1<<6+5)},
		{high, 1 << 32, impl.OK, window(1<<32+5, 1<<5+5)},
		{high, 1<<32 + 3, impl.ErrTaken, window(0, 0)},
		{high, 1<<32 + 4, impl.OK, window(1<<32+5, 7)},
		{high, 1<<32 + 5, impl.ErrTaken, window(0, 0)},
		{high, 1<<32 + 6, impl.OK, window(1<<32+6, 11)},
		{high, 1<<33 + 5, impl.OK, window(1<<33+5, 1)},
		{late, -1, impl.ErrRange, window(0, 0)},
		{late, 0, impl.ErrRange, window(0, 0)},
		{late, 1, impl.ErrOld, window(0, 0)},
		{late, greatestSeq - 32, impl.ErrOld, window(0, 0)},
		{late, greatestSeq - 31, impl.OK, window(greatestSeq, 1<<31+1<<4+1)},
		{late, greatestSeq - 4, impl.ErrTaken, window(0, 0)},
		{late, greatestSeq - 1, impl.OK, window(greatestSeq, 1<<4+3)},
		{late, greatestSeq, impl.ErrTaken, window(0, 0)},
		{late, greatestSeq + 1, impl.ErrRange, window(0, 0)},
		{late, greatestSeq + 31, impl.ErrRange, window(0, 0)},
		{late, greatestSeq + 32, impl.ErrRange, window(0, 0)},
		{late, greatestSeq + 33, impl.ErrRange, window(0, 0)},
		{window(greatestSeq-1, 1), greatestSeq, impl.OK, window(greatestSeq, 3)},
	}
	for _, c := range cases {
		what := fmt.Sprint(c.seq, " from ", c.w)
		want := impl.WindowResult{Code: c.code}
		if c.code == impl.OK {
			want = impl.WindowResult{Seq: c.seq, Window: c.after}
		}
		wantTaken(t, what, impl.TakeSeq(c.w, c.seq), want)
		// What is above every window can't be taken, and was never taken.
		seen := c.code != impl.OK && c.seq <= greatestSeq
		if got := impl.SeenIn(c.w, c.seq); got != seen {
			t.Errorf("%s: seen: %v", what, got)
		}
		if c.code == impl.OK {
			wantTaken(t, what+", a second time", impl.TakeSeq(c.after, c.seq), impl.WindowResult{Code: impl.ErrTaken})
			if !impl.SeenIn(c.after, c.seq) {
				t.Error(what, "is not seen behind it")
			}
		}
	}
}

func TestNumbersAtTheEdgesOfWindows(t *testing.T) {
	for _, w := range edgeWindows() {
		wantAlone(t, "an edge", w)
		for _, seq := range sequenceEdges {
			wantSeq(t, "an edge", w, seq)
		}
		for ahead := int64(-70); ahead <= 70; ahead++ {
			wantSeq(t, "near an edge", w, w.Top+ahead)
			wantSeq(t, "near an edge, 2^32 on", w, w.Top+ahead+lowHalves)
		}
	}
}

func TestWhatIsSeenCanNotBeTaken(t *testing.T) {
	for _, w := range edgeWindows() {
		for ahead := int64(-70); ahead <= 70; ahead++ {
			seq := w.Top + ahead
			took := impl.TakeSeq(w, seq)
			if seq <= greatestSeq && impl.SeenIn(w, seq) != (took.Code != impl.OK) {
				t.Error(seq, "from", w, took)
			}
			if took.Code != impl.OK {
				continue
			}
			// All that was seen stays seen, and the others stay as they were, but what is behind the window now.
			if impl.WindowFault(took.Window) != impl.OK || took.Window.Top != max(w.Top, seq) {
				t.Error(seq, "from", w, took)
			}
			for other := w.Top - 70; other <= w.Top+70; other++ {
				want := impl.SeenIn(w, other) || other == seq || other <= seq-32
				if got := impl.SeenIn(took.Window, other); got != want {
					t.Error(other, "behind", seq, "from", w, "seen:", got)
				}
			}
		}
	}
}

func TestNoNumberIsTakenTwice(t *testing.T) {
	r := rand.New(rand.NewSource(101))
	codes := map[int64]int{}
	for range 60 {
		w, start := impl.Window{}, impl.Window{}
		if r.Intn(3) > 0 {
			w = someWindow(r)
			start = w
		}
		ever := map[int64]int{}
		for _, seq := range takenIn(start) {
			ever[seq]++
		}
		for range 400 {
			seq := seqNear(r, w)
			var took impl.WindowResult
			if r.Intn(3) == 0 {
				seq = (seq%lowHalves + lowHalves) % lowHalves
				wantLow(t, "a walk", w, seq)
				took = impl.TakeLow(w, seq)
			} else {
				wantSeq(t, "a walk", w, seq)
				took = impl.TakeSeq(w, seq)
			}
			codes[took.Code]++
			if took.Code != impl.OK {
				continue
			}
			ever[took.Seq]++
			if ever[took.Seq] > 1 {
				t.Fatal(took.Seq, "is taken twice, from", w)
			}
			w = took.Window
			wantAlone(t, "a walk", w)
		}
		for seq := range ever {
			if !impl.SeenIn(w, seq) {
				t.Error(seq, "was taken, and is not seen in", w)
			}
		}
	}
	for code, least := range map[int64]int{impl.OK: 3000, impl.ErrTaken: 1000, impl.ErrOld: 1000, impl.ErrRange: 500} {
		if codes[code] < least {
			t.Error("codes", codes)
		}
	}
}

func TestNumbersTakenInAnyOrderLeaveTheSameWindow(t *testing.T) {
	r := rand.New(rand.NewSource(102))
	for _, start := range []int64{1, 2, 1<<32 - 16, 1 << 32, greatestSeq - 31} {
		for range 100 {
			var list []int64
			for _, at := range r.Perm(32)[:1+r.Intn(32)] {
				list = append(list, start+int64(at))
			}
			w := impl.Window{}
			for _, seq := range list {
				w = impl.TakeSeq(w, seq).Window
			}
			if w != windowOf(list...) {
				t.Error(list, "leave", w)
			}
			wantPlaces(t, "at once", impl.TakeAll(impl.Window{}, list), impl.IntsResult{List: list})
		}
	}
}

func TestGuessesFromKnownWindows(t *testing.T) {
	cases := []struct {
		top, low, seq int64 // seq 0: ErrRange
	}{
		{0, 0, 1 << 32}, {0, 1, 1}, {0, 2, 2}, {0, 1<<32 - 1, 1<<32 - 1}, {0, 1 << 32, 0}, {0, -1, 0},
		{1, 0, 1 << 32}, {1, 1, 1}, {1, 2, 2}, {1, 1<<32 - 1, 1<<32 - 1}, {1, 1 << 32, 0},
		{5, 0, 1 << 32}, {5, 1, 1}, {5, 5, 5}, {5, 6, 6}, {5, 1<<32 - 1, 1<<32 - 1}, {5, 1 << 32, 0},
		{31, 0, 1 << 32}, {31, 1, 1}, {31, 31, 31}, {32, 0, 1 << 32}, {32, 1, 1}, {32, 32, 32},
		{33, 0, 1 << 32}, {33, 1, 1<<32 + 1}, {33, 2, 2}, {33, 33, 33}, {33, 34, 34}, {33, 1<<32 - 1, 1<<32 - 1},
		{1<<32 - 1, 0, 1 << 32}, {1<<32 - 1, 1, 1<<32 + 1}, {1<<32 - 1, 1<<32 - 1, 1<<32 - 1}, {1<<32 - 1, 1<<32 - 32, 1<<32 - 32},
		{1<<32 - 1, 1<<32 - 33, 1<<33 - 33}, {1<<32 - 1, 1 << 32, 0},
		{1 << 32, 0, 1 << 32}, {1 << 32, 1, 1<<32 + 1}, {1 << 32, 1<<32 - 1, 1<<32 - 1}, {1 << 32, 1<<32 - 31, 1<<32 - 31}, {1 << 32, 1<<32 - 32, 1<<33 - 32},
		{1<<32 + 1, 0, 1 << 32}, {1<<32 + 1, 1, 1<<32 + 1}, {1<<32 + 1, 1<<32 - 30, 1<<32 - 30}, {1<<32 + 1, 1<<32 - 31, 1<<33 - 31},
		{1<<32 + 30, 1<<32 - 1, 1<<32 - 1}, {1<<32 + 31, 1<<32 - 1, 1<<33 - 1}, {1<<32 + 31, 0, 1 << 32}, {1<<32 + 32, 0, 1 << 33}, {1<<32 + 32, 1, 1<<32 + 1},
		{7 << 32, 0, 7 << 32}, {7 << 32, 1, 7<<32 + 1}, {7 << 32, 1<<32 - 1, 7<<32 - 1}, {7 << 32, 1<<32 - 31, 7<<32 - 31}, {7 << 32, 1<<32 - 32, 8<<32 - 32},
		{7<<32 + 9, 9, 7<<32 + 9}, {7<<32 + 9, 8, 7<<32 + 8}, {7<<32 + 90, 59, 7<<32 + 59}, {7<<32 + 90, 58, 8<<32 + 58},
		{greatestSeq - lowHalves, 0, greatestSeq - lowHalves}, {greatestSeq - lowHalves, 1, greatestSeq - lowHalves + 1},
		{greatestSeq - lowHalves, 1<<32 - 32, greatestSeq - 32}, {greatestSeq - lowHalves + 31, 0, greatestSeq - lowHalves},
		{greatestSeq - lowHalves + 32, 0, greatestSeq}, {greatestSeq - lowHalves + 32, 1, greatestSeq - lowHalves + 1},
		{greatestSeq - lowHalves + 33, 0, greatestSeq}, {greatestSeq - lowHalves + 33, 1, 0}, {greatestSeq - lowHalves + 33, 2, greatestSeq - lowHalves + 2},
		{greatestSeq - 1, 0, greatestSeq}, {greatestSeq - 1, 1, 0}, {greatestSeq - 1, 1<<32 - 1, greatestSeq - 1}, {greatestSeq - 1, 1<<32 - 32, greatestSeq - 32},
		{greatestSeq - 1, 1<<32 - 33, 0}, {greatestSeq, 0, greatestSeq}, {greatestSeq, 1, 0}, {greatestSeq, 1<<32 - 1, greatestSeq - 1},
		{greatestSeq, 1<<32 - 31, greatestSeq - 31}, {greatestSeq, 1<<32 - 32, 0}, {greatestSeq, 1 << 32, 0}, {greatestSeq, -1, 0},
		{5, math.MinInt64, 0}, {5, math.MaxInt64, 0}, {1 << 32, -1 << 32, 0}, {1 << 32, 1<<33 - 1, 0},
	}
	for _, c := range cases {
		w, want := window(c.top, min(c.top, 1)), impl.IntResult{Value: c.seq}
		if c.seq == 0 {
			want = impl.IntResult{Code: impl.ErrRange}
		}
		if got := impl.GuessSeq(w, c.low); got != want {
			t.Errorf("%d from %v: %v, want %v", c.low, w, got, want)
		}
		took := impl.WindowResult{Seq: c.seq, Window: windowOf(append(takenIn(w), c.seq)...)}
		if c.seq == 0 {
			took = impl.WindowResult{Code: impl.ErrRange}
		} else if c.seq == c.top {
			took = impl.WindowResult{Code: impl.ErrTaken}
		}
		wantTaken(t, fmt.Sprint("low ", c.low, " from ", w), impl.TakeLow(w, c.low), took)
		wantLow(t, "known", w, c.low)
	}
}

func TestLowHalvesAtTheEdgesOfWindows(t *testing.T) {
	for _, w := range edgeWindows() {
		for _, low := range sequenceEdges {
			wantLow(t, "an edge", w, low)
			wantLow(t, "the low half of an edge", w, (low%lowHalves+lowHalves)%lowHalves)
		}
		for ahead := int64(-70); ahead <= 70; ahead++ {
			wantLow(t, "near an edge", w, (w.Top+ahead+lowHalves)%lowHalves)
		}
	}
}

// aheadOf is a number from 0 on, and less than 2^32, most often near one of these ends.
func aheadOf(r *rand.Rand) int64 {
	return []int64{r.Int63n(70), lowHalves - 1 - r.Int63n(70), r.Int63n(lowHalves), 0, 31, 32, lowHalves - 1}[r.Intn(7)]
}

func TestANumberIsGuessedByItsLowHalf(t *testing.T) {
	r := rand.New(rand.NewSource(103))
	windows := edgeWindows()
	for range 300 {
		windows = append(windows, someWindow(r))
	}
	for _, w := range windows {
		begin := max(1, w.Top-31)
		for range 60 {
			seq := begin + aheadOf(r)
			want := impl.IntResult{Value: seq}
			if seq > greatestSeq {
				want = impl.IntResult{Code: impl.ErrRange}
			}
			if got := impl.GuessSeq(w, seq%lowHalves); got != want {
				t.Errorf("%d from %v: %v", seq, w, got)
			}
		}
		// What is behind the window, and what is 2^32 ahead of its beginning, is taken for another one.
		if got := impl.GuessSeq(w, (begin-1)%lowHalves).Value; got != 0 && got != begin-1+lowHalves {
			t.Error("just behind", w, got)
		}
		if got := impl.GuessSeq(w, (begin+lowHalves)%lowHalves).Value; got != begin {
			t.Error("too far ahead of", w, got)
		}
	}
}

func TestAGuessThatWasTakenIsNotTakenAgain(t *testing.T) {
	for _, w := range edgeWindows() {
		for _, seq := range takenIn(w) {
			wantTaken(t, fmt.Sprint(seq, " again"), impl.TakeLow(w, seq%lowHalves), impl.WindowResult{Code: impl.ErrTaken})
		}
		for _, seq := range impl.MissingIn(w).List {
			took := impl.TakeLow(w, seq%lowHalves)
			if took.Code != impl.OK || took.Seq != seq || took.Window.Top != w.Top {
				t.Error(seq, "is missing in", w, took)
			}
			wantTaken(t, fmt.Sprint(seq, " again"), impl.TakeLow(took.Window, seq%lowHalves), impl.WindowResult{Code: impl.ErrTaken})
		}
	}
}

func TestNumbersOfWhichSomeAreLostAreTakenByTheirLowHalves(t *testing.T) {
	r := rand.New(rand.NewSource(104))
	for _, start := range []int64{1, 1<<32 - 500, 3<<32 - 10, greatestSeq - 999} {
		w := impl.Window{}
		if start > 1 {
			w = impl.TakeSeq(w, start-1).Window
		}
		// Every number comes at most 20 late, and some come not at all.
		for at := start; at+20 < start+1000; at += 20 {
			for _, i := range r.Perm(20)[:1+r.Intn(20)] {
				seq := at + int64(i)
				took := impl.TakeLow(w, seq%lowHalves)
				if took.Code != impl.OK || took.Seq != seq {
					t.Fatal(seq, "from", w, took)
				}
				w = took.Window
			}
		}
	}
}

func TestTakeAllOfKnownLists(t *testing.T) {
	hundred := upTo(101)[1:]
	falling := slices.Clone(hundred)
	slices.Reverse(falling)
	cases := []struct {
		what  string
		w     impl.Window
		list  []int64
		taken []int64
	}{
		{"no number", window(5, 21), nil, nil},
		{"no number, of an empty list", window(0, 0), []int64{}, nil},
		{"one number", window(0, 0), []int64{7}, []int64{7}},
		{"the same one twice", window(0, 0), []int64{7, 7}, []int64{7}},
		{"the same one twice, another one between", window(0, 0), []int64{7, 9, 7}, []int64{7, 9}},
		{"the same two twice", window(5, 21), []int64{4, 6, 4, 6}, []int64{4, 6}},
		{"one that was taken ahead", window(5, 21), []int64{3}, nil},
		{"rising", window(0, 0), []int64{1, 2, 40, 72, 200}, []int64{1, 2, 40, 72, 200}},
		{"falling", window(0, 0), []int64{40, 39, 9, 8, 7}, []int64{40, 39, 9}},
		{"in no order", window(5, 21), []int64{9, 2, 8, 4, 7}, []int64{9, 2, 8, 4, 7}},
		{"none between good ones", window(5, 21), []int64{6, 0, 7, -1, 8, greatestSeq + 1, 9}, []int64{6, 7, 8, 9}},
		{"taken ones between good ones", window(5, 21), []int64{6, 3, 7, 5, 8, 7, 9}, []int64{6, 7, 8, 9}},
		{"old ones between good ones", window(60, 1), []int64{29, 28, 61, 29, 30, 62, 1}, []int64{29, 61, 30, 62}},
		{"old behind one far ahead", window(5, 21), []int64{6, 1 << 32, 7, 1<<32 - 31, 1<<32 - 32, 1<<32 + 1}, []int64{6, 1 << 32, 1<<32 - 31, 1<<32 + 1}},
		{"all old behind the greatest one", window(0, 0), []int64{1, greatestSeq, 2, greatestSeq - 31, greatestSeq - 32}, []int64{1, greatestSeq, greatestSeq - 31}},
		{"the ends of all numbers", window(0, 0), []int64{math.MinInt64, 1, math.MaxInt64, 2}, []int64{1, 2}},
		{"a hundred, rising", window(0, 0), hundred, hundred},
		{"a hundred, falling", window(0, 0), falling, falling[:32]},
		{"a hundred times one", window(0, 0), slices.Repeat([]int64{9}, 100), []int64{9}},
		{"a hundred that are none", window(0, 0), make([]int64, 100), nil},
	}
	for _, c := range cases {
		wantPlaces(t, c.what, impl.TakeAll(c.w, c.list), impl.IntsResult{List: c.taken})
		wantPlaces(t, c.what, impl.TakeAll(c.w, c.list), wantedTakeAll(c.w, c.list))
	}
	many := impl.IntsResult{Code: impl.ErrMany}
	for _, list := range [][]int64{upTo(102)[1:], make([]int64, 101), slices.Repeat([]int64{9}, 101), make([]int64, 1000)} {
		wantPlaces(t, "more than a hundred", impl.TakeAll(window(0, 0), list), many)
		wantPlaces(t, "more than a hundred", impl.TakeAll(window(5, 21), list), many)
	}
}

func TestTakeAllTakesOneBehindTheOther(t *testing.T) {
	r := rand.New(rand.NewSource(105))
	for range 1000 {
		w := someWindow(r)
		var list, taken []int64
		for range r.Intn(101) {
			list = append(list, seqNear(r, w))
		}
		wantPlaces(t, "some", impl.TakeAll(w, list), wantedTakeAll(w, list))
		next := w
		for _, seq := range list {
			if took := impl.TakeSeq(next, seq); took.Code == impl.OK {
				next, taken = took.Window, append(taken, seq)
			}
		}
		wantPlaces(t, "one behind the other", impl.TakeAll(w, list), impl.IntsResult{List: taken})
		// Nothing of it is taken a second time.
		if again := impl.TakeAll(next, taken); again.Code != impl.OK || len(again.List) != 0 {
			t.Error(taken, "behind themselves:", again)
		}
	}
}

func TestMissingInKnownWindows(t *testing.T) {
	cases := []struct {
		top, bits int64
		missing   []int64
	}{
		{0, 0, nil},
		{1, 1, nil},
		{2, 1, []int64{1}},
		{2, 3, nil},
		{3, 5, []int64{2}},
		{5, 5, []int64{1, 2, 4}},
		{31, 1, upTo(31)[1:]},
		{31, 1<<31 - 1, nil},
		{32, 1, upTo(32)[1:]},
		{32, 1<<31 + 1, upTo(32)[2:]},
		{32, allBits, nil},
		{33, 1, upTo(33)[2:]},
		{33, 1<<31 + 1, upTo(33)[3:]},
		{33, allBits, nil},
		{33, allBits - 1<<31, []int64{2}},
		{33, allBits - 2, []int64{32}},
		{64, allBits - 1<<31 - 1<<16, []int64{33, 48}},
		{1<<32 + 1, allBits - 6, []int64{1<<32 - 1, 1 << 32}},
		{greatestSeq, allBits, nil},
		{greatestSeq, allBits - 1<<31 - 2, []int64{greatestSeq - 31, greatestSeq - 1}},
	}
	for _, c := range cases {
		wantPlaces(t, fmt.Sprint(c.top, " ", c.bits), impl.MissingIn(window(c.top, c.bits)), impl.IntsResult{List: c.missing})
	}
	alone := impl.MissingIn(window(greatestSeq, 1))
	if alone.Code != impl.OK || len(alone.List) != 31 || alone.List[0] != greatestSeq-31 || alone.List[30] != greatestSeq-1 {
		t.Error("the bit 0 alone of the greatest one:", alone)
	}
}

func TestWhatIsMissingIsJustWhatMayStillCome(t *testing.T) {
	r := rand.New(rand.NewSource(106))
	windows := edgeWindows()
	for range 2000 {
		windows = append(windows, someWindow(r))
	}
	for _, w := range windows {
		var open []int64
		for seq := w.Top - 70; seq < w.Top; seq++ {
			if !impl.SeenIn(w, seq) {
				open = append(open, seq)
			}
		}
		got := impl.MissingIn(w)
		wantPlaces(t, fmt.Sprint("in ", w), got, impl.IntsResult{List: open})
		wantPlaces(t, fmt.Sprint("in ", w), got, wantedMissing(w))
		// All of them come, and nothing is missing any more.
		wantPlaces(t, "all of them", impl.TakeAll(w, open), impl.IntsResult{List: open})
		for _, seq := range open {
			w = impl.TakeSeq(w, seq).Window
		}
		wantPlaces(t, "behind all of them", impl.MissingIn(w), impl.IntsResult{})
	}
}

func TestAWindowsFaultIsToldFirst(t *testing.T) {
	lists := [][]int64{nil, {}, {1}, {0}, {51}, make([]int64, 101)}
	for _, w := range faultyWindows() {
		code := wantedWindowFault(w)
		if code == impl.OK || impl.WindowFault(w) != code {
			t.Error("the fault of", w, impl.WindowFault(w), "want", code)
		}
		for _, n := range append(slices.Clone(sequenceEdges), w.Top, w.Top+1, w.Top-1, w.Bits) {
			if !impl.SeenIn(w, n) {
				t.Error(n, "is not seen in", w)
			}
			wantTaken(t, fmt.Sprint(n, " from ", w), impl.TakeSeq(w, n), impl.WindowResult{Code: code})
			wantTaken(t, fmt.Sprint("low ", n, " from ", w), impl.TakeLow(w, n), impl.WindowResult{Code: code})
			if got := impl.GuessSeq(w, n); got != (impl.IntResult{Code: code}) {
				t.Error("guess of", n, "from", w, got)
			}
		}
		for _, list := range lists {
			wantPlaces(t, fmt.Sprint(list, " from ", w), impl.TakeAll(w, list), impl.IntsResult{Code: code})
		}
		wantPlaces(t, fmt.Sprint("missing in ", w), impl.MissingIn(w), impl.IntsResult{Code: code})
	}
}

func TestOfTwoCodesOfANumberTheFirstNamedIsTold(t *testing.T) {
	cases := []struct {
		what string
		w    impl.Window
		seq  int64
		code int64
	}{
		{"Top is too great, and its bit is 0", window(greatestSeq+1, 0), 1, impl.ErrRange},
		{"Bits are too great, and there is no Top", window(0, lowHalves), 1, impl.ErrRange},
		{"a fault of form, and a number that is none", window(0, 1), 0, impl.ErrForm},
		{"a fault of form, and one that is too great", window(31, allBits), greatestSeq + 1, impl.ErrForm},
		{"a fault of form, and one that is old", window(40, 0), 1, impl.ErrForm},
		{"a fault of form, and one that was taken", window(40, 2), 39, impl.ErrForm},
		{"none, and so far behind that it is old", window(50, 1), 0, impl.ErrRange},
		{"none at all, and so far behind that it is old", window(50, 1), math.MinInt64, impl.ErrRange},
		{"old, and taken once", impl.TakeSeq(impl.TakeSeq(impl.Window{}, 7).Window, 39).Window, 7, impl.ErrOld},
	}
	for _, c := range cases {
		wantTaken(t, c.what, impl.TakeSeq(c.w, c.seq), impl.WindowResult{Code: c.code})
	}
	wantPlaces(t, "too many, from a fault of form", impl.TakeAll(window(0, 1), make([]int64, 101)), impl.IntsResult{Code: impl.ErrForm})
	wantTaken(t, "a low half that is none, from a fault of form", impl.TakeLow(window(0, 1), -1), impl.WindowResult{Code: impl.ErrForm})
	wantTaken(t, "a low half that was taken once, behind the window now", impl.TakeLow(window(50, 1), 18), impl.WindowResult{Seq: lowHalves + 18, Window: window(lowHalves+18, 1)})
}
