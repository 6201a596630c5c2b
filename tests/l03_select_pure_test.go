package tests

import (
	"math"
	"math/rand"
	"slices"
	"testing"

	"loop.example/g00205/impl"
)

// selLists are lists that are narrowed to some, to none, to too many, and ones with faults.
func selLists() [][]impl.Sel {
	r := rand.New(rand.NewSource(37))
	list := [][]impl.Sel{
		nil, {}, {wholeSel(0)}, {wholeSel(1), wholeSel(6)}, {{}}, {{Proto: 1}}, {wholeSel(-1)}, {selTo(0, 6, 5)},
		apart(1), apart(12), apart(13), crossing(3), crossing(12), repeated(wholeSel(17), 12), append(apart(3), impl.Sel{Proto: 256}),
	}
	for round := 0; round < 10; round++ {
		list = append(list, someSels(r))
	}
	return list
}

// roomySels has room behind its end, so that an append to the copy would write into memory that the test sees.
func roomySels(list []impl.Sel) []impl.Sel {
	return append(make([]impl.Sel, 0, len(list)+30), list...)
}

func answersOfSels(mine []impl.Sel, theirs []impl.Sel) []any {
	all := []any{impl.NarrowSels(mine, theirs), impl.SelsFault(mine)}
	for _, p := range []impl.Packet{udpPacket(), icmpPacket(), {Proto: 6, Ttl: 1}, {}} {
		all = append(all, impl.HoldsAny(mine, p))
	}
	return all
}

func answersOfSel(x impl.Sel, y impl.Sel) []any {
	return []any{
		impl.SelFault(x), impl.MeetSels(x, y), impl.WithinSel(x, y), impl.ReverseSel(x),
		impl.SampleOf(x), impl.AnySel(x.Proto), impl.Holds(x, udpPacket()), impl.Holds(x, icmpPacket()),
	}
}

func TestSelectorFunctionsChangeNoArgument(t *testing.T) {
	unchanged := func(given []impl.Sel, list []impl.Sel) bool {
		room := given[len(given):cap(given)]
		return slices.Equal(given, list) && slices.Equal(room, make([]impl.Sel, len(room)))
	}
	for _, mine := range selLists() {
		for _, theirs := range selLists() {
			givenMine, givenTheirs := roomySels(mine), roomySels(theirs)
			answersOfSels(givenMine, givenTheirs)
			if !unchanged(givenMine, mine) || !unchanged(givenTheirs, theirs) {
				t.Error("a list changed:", mine, theirs)
			}
		}
	}
	for _, length := range []int{0, 1, 200, 201} {
		p := udpPacket()
		p.Load = roomyCopy(filled(length, 7))
		impl.Holds(wholeSel(0), p)
		impl.HoldsAny(apart(3), p)
		room := p.Load[len(p.Load):cap(p.Load)]
		if !slices.Equal(p.Load, filled(length, 7)) || !slices.Equal(room, make([]byte, len(room))) {
			t.Error("a load changed:", length)
		}
	}
}

func TestNarrowedListsAreNewMemory(t *testing.T) {
	for _, mine := range selLists() {
		for _, theirs := range selLists() {
			want := wantedNarrow(mine, theirs)
			givenMine, givenTheirs := roomySels(mine), roomySels(theirs)
			first, second := impl.NarrowSels(givenMine, givenTheirs), impl.NarrowSels(givenMine, givenTheirs)
			// What is held stays, whatever becomes of the arguments and of another answer, as far as their memory goes.
			for _, other := range [][]impl.Sel{second.Sels, givenMine, givenTheirs} {
				whole := other[:cap(other)]
				for i := range whole {
					whole[i] = impl.Sel{Proto: 99}
				}
			}
			wantSels(t, "held while others were written over", first, want)
			wantSels(t, "narrowed again", impl.NarrowSels(mine, theirs), want)
		}
	}
	// One list for both sides is no other case.
	both := apart(12)
	got := impl.NarrowSels(both, both)
	clear(both)
	wantSels(t, "one list for both", got, impl.SelsResult{Sels: apart(12)})
}

func TestSelectorAnswersHangOnTheArgumentsAlone(t *testing.T) {
	lists, sels := selLists(), edgeSels()[:400]
	wantSameAgain(t, len(lists)+len(sels), func(i int, roomy bool) []any {
		if i >= len(lists) {
			return answersOfSel(sels[i-len(lists)], sels[len(sels)-1-(i-len(lists))])
		}
		var all []any
		for _, theirs := range lists {
			mine := lists[i]
			if roomy {
				mine, theirs = roomySels(mine), roomySels(theirs)
			}
			all = append(all, answersOfSels(mine, theirs)...)
		}
		return all
	})
}

func TestSelectorFunctionsAnswerAtTheEndsOfEveryField(t *testing.T) {
	x := impl.Sel{}
	fields := []*int64{&x.From.Low, &x.From.High, &x.To.Low, &x.To.High, &x.FromP.Low, &x.FromP.High, &x.ToP.Low, &x.ToP.High, &x.Proto}
	var fill func(field int)
	fill = func(field int) {
		if field < len(fields) {
			for _, n := range []int64{math.MinInt64, 0, math.MaxInt64} {
				*fields[field] = n
				fill(field + 1)
			}
			return
		}
		code, holds := wantedSelFault(x), wantedHolds(x, icmpPacket())
		if impl.SelFault(x) != code || impl.ReverseSel(x).Code != code || impl.SampleOf(x).Code != code ||
			impl.SelsFault([]impl.Sel{x}) != code || impl.MeetSels(x, x).Code != code || impl.WithinSel(x, x) != (code == impl.OK) ||
			impl.Holds(x, icmpPacket()) != holds || impl.HoldsAny([]impl.Sel{x}, icmpPacket()) != holds ||
			impl.NarrowSels([]impl.Sel{x}, []impl.Sel{x}).Code != code {
			t.Error(x)
		}
	}
	fill(0)
}
