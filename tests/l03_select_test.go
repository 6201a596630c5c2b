package tests

import (
	"math"
	"math/rand"
	"reflect"
	"slices"
	"testing"

	"loop.example/g00205/impl"
)

const topAddress = 4294967295
const topPort = 65535

// selRanges names every range of a selector, with its greatest number and that of a packet which it is asked of.
var selRanges = []struct {
	name     string
	of       func(x *impl.Sel) *impl.Range
	in       func(p *impl.Packet) *int64
	greatest int64
}{
	{"From", func(x *impl.Sel) *impl.Range { return &x.From }, func(p *impl.Packet) *int64 { return &p.From }, topAddress},
	{"To", func(x *impl.Sel) *impl.Range { return &x.To }, func(p *impl.Packet) *int64 { return &p.To }, topAddress},
	{"FromP", func(x *impl.Sel) *impl.Range { return &x.FromP }, func(p *impl.Packet) *int64 { return &p.FromP }, topPort},
	{"ToP", func(x *impl.Sel) *impl.Range { return &x.ToP }, func(p *impl.Packet) *int64 { return &p.ToP }, topPort},
}

// Ends at and around the bounds of addresses and of ports, and the ends of int64.
var edgeEnds = []int64{
	math.MinInt64, math.MinInt64 + 1, -1, 0, 1, 5, 65534, 65535, 65536,
	4294967294, 4294967295, 4294967296, math.MaxInt64,
}

var edgeProtos = []int64{math.MinInt64, -1, 0, 1, 5, 6, 7, 16, 17, 18, 50, 254, 255, 256, 257, math.MaxInt64}

func span(low int64, high int64) impl.Range {
	return impl.Range{Low: low, High: high}
}

func wholeSel(proto int64) impl.Sel {
	return impl.Sel{From: span(0, topAddress), To: span(0, topAddress), FromP: span(0, topPort), ToP: span(0, topPort), Proto: proto}
}

func selWithPorts(proto int64, fromP impl.Range, toP impl.Range) impl.Sel {
	x := wholeSel(proto)
	x.FromP, x.ToP = fromP, toP
	return x
}

func selTo(proto int64, low int64, high int64) impl.Sel {
	x := wholeSel(proto)
	x.To = span(low, high)
	return x
}

// portlessProto is of one that is told and has no ports.
func portlessProto(proto int64) bool {
	return proto != 0 && !hasPorts(proto)
}

// wantedSelFault goes by the bounds of selRanges alone.
func wantedSelFault(x impl.Sel) int64 {
	for _, r := range selRanges {
		ends := *r.of(&x)
		if ends.Low < 0 || ends.Low > r.greatest || ends.High < 0 || ends.High > r.greatest || ends.Low > ends.High {
			return impl.ErrRange
		}
	}
	if x.Proto < 0 || x.Proto > 255 {
		return impl.ErrRange
	}
	if portlessProto(x.Proto) && (x.FromP != span(0, topPort) || x.ToP != span(0, topPort)) {
		return impl.ErrForm
	}
	return impl.OK
}

func wantedHolds(x impl.Sel, p impl.Packet) bool {
	if wantedSelFault(x) != impl.OK || wantedFault(p) != impl.OK {
		return false
	}
	for _, r := range selRanges {
		ends, n := *r.of(&x), *r.in(&p)
		if n < ends.Low || n > ends.High {
			return false
		}
	}
	return x.Proto == 0 || x.Proto == p.Proto
}

func wantedWithin(a impl.Sel, b impl.Sel) bool {
	for _, r := range selRanges {
		inner, outer := *r.of(&a), *r.of(&b)
		if inner.Low < outer.Low || inner.High > outer.High {
			return false
		}
	}
	return wantedSelFault(a) == impl.OK && wantedSelFault(b) == impl.OK && (b.Proto == 0 || b.Proto == a.Proto)
}

// wantedMeet is told by ends that are among the numbers of both, not by which end is the greater one.
func wantedMeet(a impl.Sel, b impl.Sel) impl.SelResult {
	for _, x := range []impl.Sel{a, b} {
		if code := wantedSelFault(x); code != impl.OK {
			return impl.SelResult{Code: code}
		}
	}
	var met impl.Sel
	for _, r := range selRanges {
		both := inBoth(*r.of(&a), *r.of(&b))
		if len(both) == 0 {
			return impl.SelResult{Code: impl.ErrNone}
		}
		*r.of(&met) = span(slices.Min(both), slices.Max(both))
	}
	switch {
	case a.Proto == b.Proto, b.Proto == 0:
		met.Proto = a.Proto
	case a.Proto == 0:
		met.Proto = b.Proto
	default:
		return impl.SelResult{Code: impl.ErrNone}
	}
	if portlessProto(met.Proto) {
		if met.FromP.Low > 0 || met.ToP.Low > 0 {
			return impl.SelResult{Code: impl.ErrNone}
		}
		met.FromP, met.ToP = span(0, topPort), span(0, topPort)
	}
	return impl.SelResult{Sel: met}
}

// inBoth are those of the four ends that lie in both ranges; what they have in common begins and ends with such.
func inBoth(a impl.Range, b impl.Range) []int64 {
	var both []int64
	for _, n := range []int64{a.Low, a.High, b.Low, b.High} {
		if a.Low <= n && n <= a.High && b.Low <= n && n <= b.High {
			both = append(both, n)
		}
	}
	return both
}

func wantedSelsFault(list []impl.Sel) int64 {
	if len(list) == 0 || len(list) > 12 {
		return impl.ErrMany
	}
	for _, x := range list {
		if code := wantedSelFault(x); code != impl.OK {
			return code
		}
	}
	return impl.OK
}

func wantedNarrow(mine []impl.Sel, theirs []impl.Sel) impl.SelsResult {
	for _, list := range [][]impl.Sel{mine, theirs} {
		if code := wantedSelsFault(list); code != impl.OK {
			return impl.SelsResult{Code: code}
		}
	}
	var list []impl.Sel
	for _, a := range mine {
		for _, b := range theirs {
			met := wantedMeet(a, b)
			there := func(x impl.Sel) bool { return wantedWithin(met.Sel, x) }
			if met.Code == impl.OK && !slices.ContainsFunc(list, there) {
				list = append(list, met.Sel)
			}
		}
	}
	switch {
	case len(list) == 0:
		return impl.SelsResult{Code: impl.ErrNone}
	case len(list) > 12:
		return impl.SelsResult{Code: impl.ErrMany}
	}
	return impl.SelsResult{Sels: list}
}

// wantSels fails the test unless got is want; no list and an empty one are the same.
func wantSels(t *testing.T, what string, got impl.SelsResult, want impl.SelsResult) {
	t.Helper()
	if got.Code != want.Code || !slices.Equal(got.Sels, want.Sels) {
		t.Errorf("%s: %v, want %v", what, got, want)
	}
}

// wantMeet asks both ways round, as what two have in common has no order where neither has a fault.
func wantMeet(t *testing.T, what string, a impl.Sel, b impl.Sel, want impl.SelResult) {
	t.Helper()
	if got := impl.MeetSels(a, b); got != want {
		t.Errorf("%s: %v and %v: %v, want %v", what, a, b, got, want)
	}
	if got := impl.MeetSels(b, a); got != want {
		t.Errorf("%s, the other way round: %v and %v: %v, want %v", what, b, a, got, want)
	}
}

// edgeSels have each range in turn at every two of the ends, and each Proto.
func edgeSels() []impl.Sel {
	var list []impl.Sel
	for _, proto := range []int64{0, 1, 6, 17, 255, 256} {
		for _, r := range selRanges {
			for _, low := range edgeEnds {
				for _, high := range edgeEnds {
					x := wholeSel(proto)
					*r.of(&x) = span(low, high)
					list = append(list, x)
				}
			}
		}
	}
	for _, base := range []impl.Sel{wholeSel(0), selTo(0, 5, 9), selWithPorts(0, span(1, 2), span(0, topPort)), {}} {
		for _, proto := range edgeProtos {
			base.Proto = proto
			list = append(list, base)
		}
	}
	return list
}

// someSel has no fault, and ends near one another and near the bounds, so that two of them often meet.
func someSel(r *rand.Rand) impl.Sel {
	x := wholeSel([]int64{0, 0, 1, 6, 6, 17, 255}[r.Intn(7)])
	for _, part := range selRanges {
		switch r.Intn(4) {
		case 0:
			low := r.Int63n(6)
			*part.of(&x) = span(low, low+r.Int63n(part.greatest-low+1)>>r.Intn(33))
		case 1:
			high := part.greatest - r.Int63n(6)
			*part.of(&x) = span(high-r.Int63n(high+1)>>r.Intn(33), high)
		}
	}
	if portlessProto(x.Proto) {
		x.FromP, x.ToP = span(0, topPort), span(0, topPort)
	}
	return x
}

// packetNear goes by ends of the selectors, and one beside them, so that each edge of theirs is met.
func packetNear(r *rand.Rand, near ...impl.Sel) impl.Packet {
	p := impl.Packet{Proto: []int64{1, 6, 6, 17, 255}[r.Intn(5)], Ttl: 1 + r.Int63n(255)}
	for _, part := range selRanges {
		ends := *part.of(&near[r.Intn(len(near))])
		n := []int64{ends.Low, ends.High}[r.Intn(2)]
		if r.Intn(8) == 0 {
			n += r.Int63n(3) - 1
		}
		*part.in(&p) = min(max(n, 0), part.greatest)
	}
	if !hasPorts(p.Proto) {
		p.FromP, p.ToP = 0, 0
	}
	return p
}

func someSels(r *rand.Rand) []impl.Sel {
	list := make([]impl.Sel, 1+r.Intn(4))
	for i := range list {
		list[i] = someSel(r)
	}
	return list
}

func repeated(x impl.Sel, n int) []impl.Sel {
	return slices.Repeat([]impl.Sel{x}, n)
}

// apart are n selectors of which no two have an address in common.
func apart(n int) []impl.Sel {
	list := make([]impl.Sel, n)
	for i := range list {
		list[i] = selTo(0, int64(10*i), int64(10*i+4))
	}
	return list
}

func TestBoundOfSelectorsIsThatOfTheDocument(t *testing.T) {
	if impl.MaxSels != 12 {
		t.Error("MaxSels is", impl.MaxSels)
	}
}

func TestSelFaultAtEveryEdge(t *testing.T) {
	seen := map[int64]int{}
	for _, x := range edgeSels() {
		want := wantedSelFault(x)
		seen[want]++
		if got := impl.SelFault(x); got != want {
			t.Errorf("%v: %d, want %d", x, got, want)
		}
	}
	if seen[impl.OK] == 0 || seen[impl.ErrRange] == 0 || seen[impl.ErrForm] == 0 {
		t.Error("not every code was asked for:", seen)
	}
}

func TestSelFaultOfKnownSelectors(t *testing.T) {
	cases := []struct {
		what string
		x    impl.Sel
		code int64
	}{
		{"all of any", wholeSel(0), impl.OK},
		{"all of one without ports", wholeSel(1), impl.OK},
		{"all of the last protocol", wholeSel(255), impl.OK},
		{"the zero value", impl.Sel{}, impl.OK},
		{"one port of any", selWithPorts(0, span(0, 0), span(65535, 65535)), impl.OK},
		{"one port of TCP", selWithPorts(6, span(80, 80), span(0, 65535)), impl.OK},
		{"one port of UDP", selWithPorts(17, span(0, 65535), span(53, 53)), impl.OK},
		{"the first and the last address", impl.Sel{From: span(0, 0), To: span(topAddress, topAddress)}, impl.OK},
		{"a protocol below 0", wholeSel(-1), impl.ErrRange},
		{"a protocol above 255", wholeSel(256), impl.ErrRange},
		{"a protocol that ends like TCP", wholeSel(6 + 256), impl.ErrRange},
		{"a Low one above its High", selTo(0, 6, 5), impl.ErrRange},
		{"the zero ports of one without ports", impl.Sel{Proto: 1}, impl.ErrForm},
		{"one From port fewer, without ports", selWithPorts(1, span(0, 65534), span(0, 65535)), impl.ErrForm},
		{"one From port fewer at the beginning", selWithPorts(50, span(1, 65535), span(0, 65535)), impl.ErrForm},
		{"one To port fewer, without ports", selWithPorts(255, span(0, 65535), span(0, 65534)), impl.ErrForm},
		{"one To port fewer at the beginning", selWithPorts(16, span(0, 65535), span(1, 65535)), impl.ErrForm},
	}
	for _, c := range cases {
		if got := impl.SelFault(c.x); got != c.code {
			t.Errorf("%s: %d, want %d", c.what, got, c.code)
		}
	}
}

func TestSelFaultOfTwoFaultsIsTheFirstNamed(t *testing.T) {
	badForm := selWithPorts(1, span(3, 4), span(0, topPort))
	for _, r := range selRanges {
		for _, ends := range []impl.Range{span(-1, 3), span(3, r.greatest+1), span(2, 1), span(math.MinInt64, math.MaxInt64), span(math.MaxInt64, math.MinInt64)} {
			x := badForm
			*r.of(&x) = ends
			if got := impl.SelFault(x); got != impl.ErrRange {
				t.Errorf("ports that are not whole, and %s %v: %d", r.name, ends, got)
			}
		}
	}
	badForm.Proto = 256
	if got := impl.SelFault(badForm); got != impl.ErrRange {
		t.Error("ports that are not whole, of no protocol:", got)
	}
}

func TestOnlyWhatHasPortsMayTellThem(t *testing.T) {
	for proto := int64(0); proto <= 255; proto++ {
		for _, x := range []impl.Sel{selWithPorts(proto, span(0, 0), span(0, topPort)), selWithPorts(proto, span(0, topPort), span(1, topPort))} {
			code := int64(impl.ErrForm)
			if proto == 0 || proto == 6 || proto == 17 {
				code = impl.OK
			}
			if got := impl.SelFault(x); got != code {
				t.Errorf("%v: %d, want %d", x, got, code)
			}
		}
	}
}

func TestRangesHaveBothTheirEndsInThem(t *testing.T) {
	for _, r := range selRanges {
		for _, ends := range []impl.Range{span(0, 0), span(0, 1), span(5, 5), span(5, 9), span(r.greatest-1, r.greatest), span(r.greatest, r.greatest), span(0, r.greatest)} {
			x := wholeSel(0)
			*r.of(&x) = ends
			for _, n := range []int64{0, 1, 4, 5, 7, 9, 10, r.greatest - 2, r.greatest - 1, r.greatest} {
				p := impl.Packet{From: 1, To: 2, Proto: 6, Ttl: 3, FromP: 4, ToP: 5}
				*r.in(&p) = n
				if got := impl.Holds(x, p); got != (n >= ends.Low && n <= ends.High) {
					t.Errorf("%s %v holds %d: %v", r.name, ends, n, got)
				}
			}
		}
	}
}

func TestHoldsGoesByTheProtocol(t *testing.T) {
	for of := int64(0); of <= 255; of++ {
		for _, proto := range []int64{1, 6, 17, 50, 255} {
			p := impl.Packet{Proto: proto, Ttl: 1}
			if got := impl.Holds(wholeSel(of), p); got != (of == 0 || of == proto) {
				t.Errorf("a selector of %d holds a packet of %d: %v", of, proto, got)
			}
		}
	}
}

func TestWhatHasNoPortsIsTakenAsOneWhosePortsAreNought(t *testing.T) {
	cases := []struct {
		fromP impl.Range
		toP   impl.Range
		holds bool
	}{
		{span(0, 0), span(0, 0), true},
		{span(0, 5), span(0, topPort), true},
		{span(1, topPort), span(0, 5), false},
		{span(0, 5), span(1, 1), false},
		{span(80, 80), span(80, 80), false},
	}
	for _, c := range cases {
		x := selWithPorts(0, c.fromP, c.toP)
		for _, proto := range []int64{1, 50, 255} {
			p := impl.Packet{Proto: proto, Ttl: 1}
			if got := impl.Holds(x, p); got != c.holds {
				t.Errorf("%v holds a packet of %d: %v", x, proto, got)
			}
			if got := impl.Holds(wholeSel(proto), p); !got {
				t.Errorf("all of %d does not hold a packet of it", proto)
			}
		}
	}
}

func TestWhatHasAFaultHoldsNothingAndIsNotHeld(t *testing.T) {
	for _, x := range edgeSels() {
		for _, p := range []impl.Packet{udpPacket(), icmpPacket(), {Proto: 6, Ttl: 1}, {From: topAddress, To: topAddress, Proto: 255, Ttl: 255}} {
			if got := impl.Holds(x, p); got != wantedHolds(x, p) {
				t.Errorf("%v holds %v: %v", x, p, got)
			}
		}
	}
	for _, p := range edgePackets() {
		for _, proto := range []int64{0, 1, 6, 17, 255} {
			x := wholeSel(proto)
			want := wantedFault(p) == impl.OK && (proto == 0 || proto == p.Proto)
			if impl.Holds(x, p) != want || impl.HoldsAny([]impl.Sel{x}, p) != want {
				t.Errorf("%v holds %v, want %v", x, p, want)
			}
		}
	}
}

func TestHoldsIsToldByEveryField(t *testing.T) {
	r := rand.New(rand.NewSource(31))
	held := 0
	for round := 0; round < 20000; round++ {
		x := someSel(r)
		p := packetNear(r, x)
		want := wantedHolds(x, p)
		if got := impl.Holds(x, p); got != want {
			t.Fatalf("%v holds %v: %v", x, p, got)
		}
		if want {
			held++
		}
	}
	if held < 500 || held > 19500 {
		t.Error(held, "were held")
	}
}

func TestMeetOfRangesAtTheirEnds(t *testing.T) {
	for _, r := range selRanges {
		top := r.greatest
		cases := []struct {
			what   string
			a      impl.Range
			b      impl.Range
			common impl.Range
			code   int64
		}{
			{"one number in common", span(0, 5), span(5, 9), span(5, 5), impl.OK},
			{"just missed", span(0, 4), span(5, 9), impl.Range{}, impl.ErrNone},
			{"two numbers in common", span(0, 6), span(5, 9), span(5, 6), impl.OK},
			{"one within the other", span(3, 7), span(0, 9), span(3, 7), impl.OK},
			{"the same", span(3, 7), span(3, 7), span(3, 7), impl.OK},
			{"one number each", span(7, 7), span(7, 7), span(7, 7), impl.OK},
			{"one number each, another one", span(7, 7), span(8, 8), impl.Range{}, impl.ErrNone},
			{"the first number", span(0, 0), span(0, top), span(0, 0), impl.OK},
			{"the last number", span(top, top), span(0, top), span(top, top), impl.OK},
			{"the first and the last number", span(0, 0), span(top, top), impl.Range{}, impl.ErrNone},
			{"both halves", span(0, top/2), span(top/2+1, top), impl.Range{}, impl.ErrNone},
			{"both halves and one", span(0, top/2+1), span(top/2+1, top), span(top/2+1, top/2+1), impl.OK},
		}
		for _, c := range cases {
			for _, proto := range []int64{0, 6, 17} {
				a, b, want := wholeSel(proto), wholeSel(proto), impl.SelResult{Code: c.code}
				*r.of(&a), *r.of(&b) = c.a, c.b
				if c.code == impl.OK {
					want.Sel = wholeSel(proto)
					*r.of(&want.Sel) = c.common
				}
				wantMeet(t, r.name+", "+c.what, a, b, want)
			}
		}
	}
}

func TestMeetGoesRangeByRange(t *testing.T) {
	a := impl.Sel{From: span(1, 10), To: span(20, 30), FromP: span(100, 200), ToP: span(300, 400), Proto: 6}
	b := impl.Sel{From: span(5, 15), To: span(10, 25), FromP: span(150, 160), ToP: span(0, topPort), Proto: 0}
	wantMeet(t, "four ranges", a, b, impl.SelResult{Sel: impl.Sel{From: span(5, 10), To: span(20, 25), FromP: span(150, 160), ToP: span(300, 400), Proto: 6}})
	b.ToP = span(401, 500)
	wantMeet(t, "the last range missed", a, b, impl.SelResult{Code: impl.ErrNone})
}

func TestMeetOfProtocols(t *testing.T) {
	for _, a := range []int64{0, 1, 6, 17, 50, 255} {
		for _, b := range []int64{0, 1, 6, 17, 50, 255} {
			want := impl.SelResult{Sel: wholeSel(max(a, b))}
			if a != 0 && b != 0 && a != b {
				want = impl.SelResult{Code: impl.ErrNone}
			}
			wantMeet(t, "all of each", wholeSel(a), wholeSel(b), want)
		}
	}
}

func TestMeetOfWhatHasNoPortsNeedsThePortNought(t *testing.T) {
	cases := []struct {
		what  string
		fromP impl.Range
		toP   impl.Range
		code  int64
	}{
		{"0 in both", span(0, 0), span(0, 0), impl.OK},
		{"0 and more in both", span(0, 80), span(0, topPort), impl.OK},
		{"0 in both, whole", span(0, topPort), span(0, topPort), impl.OK},
		{"0 not in FromP", span(1, topPort), span(0, 0), impl.ErrNone},
		{"0 not in ToP", span(0, 0), span(1, topPort), impl.ErrNone},
		{"0 in none", span(1, 1), span(topPort, topPort), impl.ErrNone},
	}
	for _, c := range cases {
		x := selWithPorts(0, c.fromP, c.toP)
		for _, proto := range []int64{1, 50, 255} {
			other := selTo(proto, 3, 9)
			want := impl.SelResult{Code: c.code}
			if c.code == impl.OK {
				want.Sel = other
			}
			wantMeet(t, c.what, x, other, want)
		}
		for _, proto := range []int64{6, 17} {
			wantMeet(t, c.what+", but with ports", x, wholeSel(proto), impl.SelResult{Sel: selWithPorts(proto, c.fromP, c.toP)})
		}
		wantMeet(t, c.what+", any with any", x, wholeSel(0), impl.SelResult{Sel: x})
		wantMeet(t, c.what+", any with itself", x, x, impl.SelResult{Sel: x})
	}
}

func TestMeetTellsTheFirstFault(t *testing.T) {
	good := wholeSel(0)
	form := selWithPorts(1, span(1, 1), span(0, topPort))
	outOf := wholeSel(-1)
	apartFrom := func(x impl.Sel) impl.Sel { x.To = span(9, 8); return x }
	cases := []struct {
		what string
		a    impl.Sel
		b    impl.Sel
		code int64
	}{
		{"the first one's", form, good, impl.ErrForm},
		{"the second one's", good, form, impl.ErrForm},
		{"the first one's ahead of the second one's", form, outOf, impl.ErrForm},
		{"so the other way round", outOf, form, impl.ErrRange},
		{"a Low above its High ahead of nothing in common", apartFrom(good), selTo(0, 1, 1), impl.ErrRange},
		{"the second one's, ahead of nothing in common", selTo(6, 1, 1), apartFrom(wholeSel(17)), impl.ErrRange},
	}
	for _, c := range cases {
		if got := impl.MeetSels(c.a, c.b); got != (impl.SelResult{Code: c.code}) {
			t.Errorf("%s: %v, want code %d", c.what, got, c.code)
		}
	}
	for _, x := range edgeSels() {
		for _, y := range []impl.Sel{good, form, outOf, selTo(6, 5, 5)} {
			for _, two := range [][2]impl.Sel{{x, y}, {y, x}} {
				if got, want := impl.MeetSels(two[0], two[1]), wantedMeet(two[0], two[1]); got != want {
					t.Errorf("%v: %v, want %v", two, got, want)
				}
			}
		}
	}
}

func TestWhatIsCommonHoldsJustWhatBothHold(t *testing.T) {
	r := rand.New(rand.NewSource(32))
	met, held := 0, 0
	for round := 0; round < 20000; round++ {
		a, b := someSel(r), someSel(r)
		got := impl.MeetSels(a, b)
		if got != wantedMeet(a, b) {
			t.Fatalf("%v and %v: %v, want %v", a, b, got, wantedMeet(a, b))
		}
		if got.Code == impl.OK {
			met++
			if impl.SelFault(got.Sel) != impl.OK {
				t.Fatalf("%v and %v make a fault: %v", a, b, got)
			}
		}
		for try := 0; try < 5; try++ {
			p := packetNear(r, a, b)
			both := wantedHolds(a, p) && wantedHolds(b, p)
			if holds := got.Code == impl.OK && impl.Holds(got.Sel, p); holds != both {
				t.Fatalf("%v of %v and %v holds %v: %v", got, a, b, p, holds)
			}
			if both {
				held++
			}
		}
	}
	if met < 1000 || held < 1000 {
		t.Error(met, "met,", held, "were held")
	}
}

func TestWithinGoesRangeByRange(t *testing.T) {
	for _, r := range selRanges {
		cases := []struct {
			what   string
			a      impl.Range
			b      impl.Range
			within bool
		}{
			{"the same", span(3, 7), span(3, 7), true},
			{"one fewer at each end", span(4, 6), span(3, 7), true},
			{"the first number", span(3, 3), span(3, 7), true},
			{"the last number", span(7, 7), span(3, 7), true},
			{"one below", span(2, 7), span(3, 7), false},
			{"one above", span(3, 8), span(3, 7), false},
			{"more at both ends", span(2, 8), span(3, 7), false},
			{"all", span(0, r.greatest), span(0, r.greatest), true},
			{"all but the first", span(0, r.greatest), span(1, r.greatest), false},
			{"all but the last", span(0, r.greatest), span(0, r.greatest-1), false},
			{"beside", span(8, 9), span(3, 7), false},
		}
		for _, c := range cases {
			a, b := wholeSel(6), wholeSel(6)
			*r.of(&a), *r.of(&b) = c.a, c.b
			if got := impl.WithinSel(a, b); got != c.within {
				t.Errorf("%s, %s: %v", r.name, c.what, got)
			}
		}
	}
}

func TestWithinGoesByTheProtocol(t *testing.T) {
	for _, a := range []int64{0, 1, 6, 17, 255} {
		for _, b := range []int64{0, 1, 6, 17, 255} {
			if got := impl.WithinSel(wholeSel(a), wholeSel(b)); got != (b == 0 || a == b) {
				t.Errorf("%d within %d: %v", a, b, got)
			}
		}
	}
	// It is the ranges that are asked, though what has no ports has none but 0.
	if impl.WithinSel(wholeSel(1), selWithPorts(0, span(0, 80), span(0, topPort))) {
		t.Error("whole ports within fewer")
	}
	if !impl.WithinSel(wholeSel(1), wholeSel(0)) {
		t.Error("whole ports not within whole ones")
	}
}

func TestNothingIsWithinWhatHasAFaultNorSuchWithinAnything(t *testing.T) {
	for _, x := range edgeSels() {
		for _, y := range []impl.Sel{wholeSel(0), wholeSel(6), wholeSel(1), selTo(0, 5, 5), selTo(0, 5, 4), wholeSel(-1), {}} {
			if got := impl.WithinSel(x, y); got != wantedWithin(x, y) {
				t.Errorf("%v within %v: %v", x, y, got)
			}
			if got := impl.WithinSel(y, x); got != wantedWithin(y, x) {
				t.Errorf("%v within %v: %v", y, x, got)
			}
		}
		if got := impl.WithinSel(x, x); got != (wantedSelFault(x) == impl.OK) {
			t.Errorf("%v within itself: %v", x, got)
		}
	}
}

func TestWhatIsWithinHoldsNothingThatTheOtherDoesNot(t *testing.T) {
	r := rand.New(rand.NewSource(33))
	within := 0
	for round := 0; round < 20000; round++ {
		a, b := someSel(r), someSel(r)
		if met := impl.MeetSels(a, b); round%2 == 0 && met.Code == impl.OK {
			a = met.Sel
		}
		got := impl.WithinSel(a, b)
		if got != wantedWithin(a, b) {
			t.Fatalf("%v within %v: %v", a, b, got)
		}
		if !got {
			continue
		}
		within++
		for try := 0; try < 5; try++ {
			if p := packetNear(r, a, b); impl.Holds(a, p) && !impl.Holds(b, p) {
				t.Fatalf("%v within %v holds %v alone", a, b, p)
			}
		}
	}
	if within < 1000 {
		t.Error("only", within, "were within")
	}
}

func TestSelsFaultOfEveryLength(t *testing.T) {
	for length := 0; length <= 30; length++ {
		code := int64(impl.OK)
		if length < 1 || length > 12 {
			code = impl.ErrMany
		}
		if got := impl.SelsFault(repeated(wholeSel(0), length)); got != code {
			t.Errorf("%d selectors: %d, want %d", length, got, code)
		}
	}
	if got := impl.SelsFault(nil); got != impl.ErrMany {
		t.Error("no list:", got)
	}
}

func TestSelsFaultGoesSelectorBySelector(t *testing.T) {
	good, outOf, form := wholeSel(0), wholeSel(256), impl.Sel{Proto: 1}
	cases := []struct {
		what string
		list []impl.Sel
		code int64
	}{
		{"the first one", append([]impl.Sel{outOf}, repeated(good, 11)...), impl.ErrRange},
		{"the last of twelve", append(repeated(good, 11), form), impl.ErrForm},
		{"a form ahead of a range", []impl.Sel{good, form, outOf}, impl.ErrForm},
		{"a range ahead of a form", []impl.Sel{good, outOf, form}, impl.ErrRange},
		{"too many ahead of all", append(repeated(outOf, 12), form), impl.ErrMany},
		{"the last of thirteen", append(repeated(good, 12), form), impl.ErrMany},
	}
	for _, c := range cases {
		if got := impl.SelsFault(c.list); got != c.code {
			t.Errorf("%s: %d, want %d", c.what, got, c.code)
		}
		if impl.HoldsAny(c.list, icmpPacket()) {
			t.Error(c.what, "holds a packet")
		}
		if got := impl.NarrowSels(c.list, []impl.Sel{good}); got.Code != c.code || len(got.Sels) != 0 {
			t.Errorf("%s narrowed: %v, want code %d", c.what, got, c.code)
		}
		if got := impl.NarrowSels([]impl.Sel{good}, c.list); got.Code != c.code || len(got.Sels) != 0 {
			t.Errorf("narrowed by %s: %v, want code %d", c.what, got, c.code)
		}
	}
}

func TestHoldsAnyLooksAtEachOfTheList(t *testing.T) {
	for length := 0; length <= 13; length++ {
		list := apart(length)
		for i := 0; i < 14; i++ {
			for _, to := range []int64{int64(10 * i), int64(10*i + 4), int64(10*i + 5)} {
				p := impl.Packet{To: to, Proto: 1, Ttl: 1}
				want := length <= 12 && i < length && to <= int64(10*i+4)
				if got := impl.HoldsAny(list, p); got != want {
					t.Errorf("%d selectors hold %v: %v", length, p, got)
				}
			}
		}
	}
	if impl.HoldsAny(nil, icmpPacket()) || impl.HoldsAny(repeated(wholeSel(0), 13), icmpPacket()) {
		t.Error("none or too many hold a packet")
	}
}

func TestNarrowSelsOfKnownLists(t *testing.T) {
	tcp80 := selWithPorts(6, span(0, topPort), span(80, 80))
	cases := []struct {
		what   string
		mine   []impl.Sel
		theirs []impl.Sel
		code   int64
		list   []impl.Sel
	}{
		{"one with one", []impl.Sel{selTo(0, 5, 9)}, []impl.Sel{tcp80}, impl.OK, []impl.Sel{{From: span(0, topAddress), To: span(5, 9), FromP: span(0, topPort), ToP: span(80, 80), Proto: 6}}},
		{"one number in common", []impl.Sel{selTo(0, 0, 5)}, []impl.Sel{selTo(0, 5, 9)}, impl.OK, []impl.Sel{selTo(0, 5, 5)}},
		{"just missed", []impl.Sel{selTo(0, 0, 4)}, []impl.Sel{selTo(0, 5, 9)}, impl.ErrNone, nil},
		{"none of many", repeated(selTo(6, 0, 9), 12), repeated(selTo(17, 0, 9), 12), impl.ErrNone, nil},
		{"the same again", repeated(selTo(6, 0, 9), 12), repeated(wholeSel(0), 12), impl.OK, []impl.Sel{selTo(6, 0, 9)}},
		{"within one that is there already", []impl.Sel{selTo(0, 0, 9), selTo(6, 2, 5)}, []impl.Sel{wholeSel(0)}, impl.OK, []impl.Sel{selTo(0, 0, 9)}},
		{"a wider one behind stays beside", []impl.Sel{selTo(6, 2, 5), selTo(0, 0, 9)}, []impl.Sel{wholeSel(0)}, impl.OK, []impl.Sel{selTo(6, 2, 5), selTo(0, 0, 9)}},
		{"within an earlier one of several", []impl.Sel{selTo(0, 0, 9), selTo(0, 20, 29), selTo(0, 3, 4)}, []impl.Sel{wholeSel(0)}, impl.OK, []impl.Sel{selTo(0, 0, 9), selTo(0, 20, 29)}},
		{"mine in order, then theirs", []impl.Sel{selTo(0, 50, 90), selTo(0, 0, 40)}, []impl.Sel{selTo(0, 70, 95), selTo(0, 30, 60), selTo(0, 0, 10)}, impl.OK,
			[]impl.Sel{selTo(0, 70, 90), selTo(0, 50, 60), selTo(0, 30, 40), selTo(0, 0, 10)}},
		{"without ports, the port 0 in it", []impl.Sel{wholeSel(1)}, []impl.Sel{selWithPorts(0, span(0, 0), span(0, 5))}, impl.OK, []impl.Sel{wholeSel(1)}},
		{"without ports, the port 0 not in it", []impl.Sel{wholeSel(1)}, []impl.Sel{selWithPorts(0, span(0, 0), span(1, 5))}, impl.ErrNone, nil},
		{"twelve with one", apart(12), []impl.Sel{wholeSel(6)}, impl.OK, withProto(apart(12), 6)},
		{"one with twelve", []impl.Sel{wholeSel(6)}, apart(12), impl.OK, withProto(apart(12), 6)},
		{"twelve with themselves", apart(12), apart(12), impl.OK, apart(12)},
		{"twelve with two, all within", apart(12), []impl.Sel{wholeSel(0), wholeSel(6)}, impl.OK, apart(12)},
		{"twelve with two, thirteen at least", apart(12), []impl.Sel{wholeSel(6), wholeSel(0)}, impl.ErrMany, nil},
		{"twelve with twelve, 144", apart(12), crossing(12), impl.ErrMany, nil},
		{"four with three", apart(4), crossing(3), impl.OK, wantedNarrow(apart(4), crossing(3)).Sels},
	}
	for _, c := range cases {
		wantSels(t, c.what, impl.NarrowSels(c.mine, c.theirs), impl.SelsResult{Code: c.code, Sels: c.list})
	}
	if got := impl.NarrowSels(apart(4), crossing(3)); len(got.Sels) != 12 {
		t.Error("four with three are twelve:", got)
	}
}

func TestNarrowSelsTellsThirteenBehindTwelve(t *testing.T) {
	// The thirteenth comes last of all, and a twelfth that is there already counts once.
	mine := append(apart(11), selTo(0, 200, 209))
	wantSels(t, "the last two of one", impl.NarrowSels(mine, []impl.Sel{selTo(0, 0, 204), selTo(0, 206, 209)}), impl.SelsResult{Code: impl.ErrMany})
	wantSels(t, "the last one within", impl.NarrowSels(mine, []impl.Sel{selTo(0, 0, 209), selTo(0, 206, 209)}), impl.SelsResult{Sels: mine})
}

// crossing are n selectors of which no two have a From address in common, and each meets all of apart.
func crossing(n int) []impl.Sel {
	list := make([]impl.Sel, n)
	for i := range list {
		list[i] = wholeSel(0)
		list[i].From = span(int64(10*i), int64(10*i+4))
	}
	return list
}

func withProto(list []impl.Sel, proto int64) []impl.Sel {
	for i := range list {
		list[i].Proto = proto
	}
	return list
}

func TestNarrowSelsTellsTheFirstFault(t *testing.T) {
	good, outOf, form := []impl.Sel{wholeSel(0)}, []impl.Sel{wholeSel(-1)}, []impl.Sel{{Proto: 1}}
	cases := []struct {
		what   string
		mine   []impl.Sel
		theirs []impl.Sel
		code   int64
	}{
		{"none of mine", nil, good, impl.ErrMany},
		{"none of theirs", good, nil, impl.ErrMany},
		{"none at all", nil, []impl.Sel{}, impl.ErrMany},
		{"too many of mine, and theirs a range", repeated(wholeSel(0), 13), outOf, impl.ErrMany},
		{"mine a range, and too many of theirs", outOf, repeated(wholeSel(0), 13), impl.ErrRange},
		{"mine a form, and theirs a range", form, outOf, impl.ErrForm},
		{"mine a range, and theirs a form", outOf, form, impl.ErrRange},
		{"mine a form, and none of theirs", form, nil, impl.ErrForm},
		{"theirs a form", good, form, impl.ErrForm},
		{"theirs a range behind what has nothing in common", []impl.Sel{selTo(0, 1, 1)}, []impl.Sel{selTo(0, 2, 2), selTo(0, 2, 1)}, impl.ErrRange},
	}
	for _, c := range cases {
		wantSels(t, c.what, impl.NarrowSels(c.mine, c.theirs), impl.SelsResult{Code: c.code})
	}
}

func TestNarrowedListsHoldJustWhatBothHold(t *testing.T) {
	r := rand.New(rand.NewSource(34))
	codes, held := map[int64]int{}, 0
	for round := 0; round < 5000; round++ {
		mine, theirs := someSels(r), someSels(r)
		if round%10 == 0 {
			mine, theirs = append(mine, apart(8)...), append(theirs, crossing(2)...)
		}
		got, want := impl.NarrowSels(mine, theirs), wantedNarrow(mine, theirs)
		wantSels(t, "narrowed", got, want)
		codes[got.Code]++
		if got.Code == impl.ErrMany {
			continue
		}
		for try := 0; try < 10; try++ {
			p := packetNear(r, append(slices.Clone(mine), theirs...)...)
			both := impl.HoldsAny(mine, p) && impl.HoldsAny(theirs, p)
			if impl.HoldsAny(got.Sels, p) != both {
				t.Fatalf("%v of %v and %v: %v held, want %v", got, mine, theirs, p, both)
			}
			if both {
				held++
			}
		}
	}
	if codes[impl.OK] < 100 || codes[impl.ErrNone] < 100 || codes[impl.ErrMany] < 100 || held < 500 {
		t.Error("codes", codes, "held", held)
	}
}

func TestReverseSelAtEveryEdge(t *testing.T) {
	for _, x := range append(edgeSels(), impl.Sel{From: span(1, 2), To: span(3, 4), FromP: span(5, 6), ToP: span(7, 8), Proto: 6}) {
		want := impl.SelResult{Code: wantedSelFault(x)}
		if want.Code == impl.OK {
			want.Sel = impl.Sel{From: x.To, To: x.From, FromP: x.ToP, ToP: x.FromP, Proto: x.Proto}
		}
		got := impl.ReverseSel(x)
		if got != want {
			t.Errorf("%v: %v, want %v", x, got, want)
		}
		if want.Code == impl.OK && impl.ReverseSel(got.Sel) != (impl.SelResult{Sel: x}) {
			t.Error("twice changed:", x)
		}
	}
}

func TestAReversedSelectorHoldsTheWayBack(t *testing.T) {
	r := rand.New(rand.NewSource(35))
	for round := 0; round < 5000; round++ {
		x := someSel(r)
		p := packetNear(r, x)
		if impl.Holds(impl.ReverseSel(x).Sel, impl.ReverseWay(p).Packet) != impl.Holds(x, p) {
			t.Fatalf("%v and %v", x, p)
		}
	}
}

func TestAnySelOfEveryProtocol(t *testing.T) {
	for proto := int64(-300); proto <= 300; proto++ {
		want := impl.SelResult{Sel: wholeSel(proto)}
		if proto < 0 || proto > 255 {
			want = impl.SelResult{Code: impl.ErrRange}
		}
		if got := impl.AnySel(proto); got != want {
			t.Errorf("%d: %v, want %v", proto, got, want)
		}
	}
	for _, proto := range []int64{math.MinInt64, math.MinInt64 + 6, 6 + 1<<32, math.MaxInt64} {
		if got := impl.AnySel(proto); got != (impl.SelResult{Code: impl.ErrRange}) {
			t.Errorf("%d: %v", proto, got)
		}
	}
}

func TestSampleOfIsThePacketOfTheLows(t *testing.T) {
	x := impl.Sel{From: span(1, 2), To: span(3, 4), FromP: span(5, 6), ToP: span(7, 8)}
	for want, proto := range map[int64]int64{6: 6, 17: 17} {
		x.Proto = proto
		wantPacket(t, "with ports", impl.SampleOf(x), impl.OK, impl.Packet{From: 1, To: 3, Proto: want, Ttl: 64, FromP: 5, ToP: 7})
	}
	x.Proto = 0
	wantPacket(t, "of any", impl.SampleOf(x), impl.OK, impl.Packet{From: 1, To: 3, Proto: 6, Ttl: 64, FromP: 5, ToP: 7})
	x.Proto, x.FromP, x.ToP = 1, span(0, topPort), span(0, topPort)
	wantPacket(t, "without ports", impl.SampleOf(x), impl.OK, impl.Packet{From: 1, To: 3, Proto: 1, Ttl: 64})
	x.FromP.Low = 1
	wantPacket(t, "without ports, and not whole ones", impl.SampleOf(x), impl.ErrForm, impl.Packet{})
}

func TestASampleIsHeldByItsSelector(t *testing.T) {
	r := rand.New(rand.NewSource(36))
	list := edgeSels()
	for round := 0; round < 3000; round++ {
		list = append(list, someSel(r))
	}
	for _, x := range list {
		got := impl.SampleOf(x)
		if code := wantedSelFault(x); code != impl.OK {
			wantPacket(t, "a selector with a fault", got, code, impl.Packet{})
			continue
		}
		if got.Code != impl.OK || impl.PacketFault(got.Packet) != impl.OK || !impl.Holds(x, got.Packet) || len(got.Packet.Load) != 0 {
			t.Errorf("%v: %v", x, got)
		}
	}
}

func TestSelectorsOfTheDocumentsKind(t *testing.T) {
	a, b := wholeSel(0), wholeSel(6)
	a.To, b.ToP = span(5, 9), span(80, 80)
	want := impl.Sel{From: span(0, topAddress), To: span(5, 9), FromP: span(0, topPort), ToP: span(80, 80), Proto: 6}
	wantMeet(t, "addresses and a port", a, b, impl.SelResult{Sel: want})
	wantMeet(t, "a port of what has none", b, wholeSel(1), impl.SelResult{Code: impl.ErrNone})
	if got := impl.NarrowSels([]impl.Sel{a}, []impl.Sel{b, b}); !reflect.DeepEqual(got, impl.SelsResult{Sels: []impl.Sel{want}}) {
		t.Error(got)
	}
}
