package tests

import (
	"bytes"
	"encoding/binary"
	"math"
	"math/rand"
	"net/netip"
	"reflect"
	"testing"

	"loop.example/g00205/impl"
)

const headSize = 20

// packetFields names every number of a packet, with the bounds that chapter 2 gives it.
var packetFields = []struct {
	name     string
	of       func(p *impl.Packet) *int64
	least    int64
	greatest int64
}{
	{"From", func(p *impl.Packet) *int64 { return &p.From }, 0, 4294967295},
	{"To", func(p *impl.Packet) *int64 { return &p.To }, 0, 4294967295},
	{"Proto", func(p *impl.Packet) *int64 { return &p.Proto }, 1, 255},
	{"Ttl", func(p *impl.Packet) *int64 { return &p.Ttl }, 1, 255},
	{"FromP", func(p *impl.Packet) *int64 { return &p.FromP }, 0, 65535},
	{"ToP", func(p *impl.Packet) *int64 { return &p.ToP }, 0, 65535},
}

func udpPacket() impl.Packet {
	return impl.Packet{From: 167772161, To: 3232235777, Proto: impl.ProtoUdp, Ttl: 64, FromP: 500, ToP: 4500, Load: []byte("load")}
}

func icmpPacket() impl.Packet {
	return impl.Packet{From: 1, To: 2, Proto: impl.ProtoIcmp, Ttl: 9, Load: []byte{7}}
}

func hasPorts(proto int64) bool {
	return proto == 6 || proto == 17
}

// wantedFault goes by the bounds of packetFields alone.
func wantedFault(p impl.Packet) int64 {
	for _, field := range packetFields {
		if n := *field.of(&p); n < field.least || n > field.greatest {
			return impl.ErrRange
		}
	}
	if !hasPorts(p.Proto) && (p.FromP != 0 || p.ToP != 0) {
		return impl.ErrForm
	}
	if len(p.Load) > 200 {
		return impl.ErrMany
	}
	return impl.OK
}

// wantedBytes lays a packet without a fault out by the library's own means.
func wantedBytes(p impl.Packet) []byte {
	data := []byte{69, 0, 0, 0, 0, 0, 64, 0, byte(p.Ttl), byte(p.Proto), 0, 0}
	data = binary.BigEndian.AppendUint32(data, uint32(p.From))
	data = binary.BigEndian.AppendUint32(data, uint32(p.To))
	if hasPorts(p.Proto) {
		data = binary.BigEndian.AppendUint16(data, uint16(p.FromP))
		data = binary.BigEndian.AppendUint16(data, uint16(p.ToP))
	}
	data = append(data, p.Load...)
	binary.BigEndian.PutUint16(data[2:], uint16(len(data)))
	return resummed(data)
}

// resummed sets the sum of the head to what is right for it.
func resummed(data []byte) []byte {
	data = bytes.Clone(data)
	sum := int64(0)
	for i := 0; i < headSize; i += 2 {
		if i != 10 {
			sum += int64(binary.BigEndian.Uint16(data[i:]))
		}
	}
	binary.BigEndian.PutUint16(data[10:], uint16(65535-folded(sum)))
	return data
}

func samePacket(a impl.Packet, b impl.Packet) bool {
	if !bytes.Equal(a.Load, b.Load) {
		return false
	}
	a.Load, b.Load = nil, nil
	return reflect.DeepEqual(a, b)
}

// wantPacket fails the test unless got is OK with this packet, or the code with the zero one.
func wantPacket(t *testing.T, what string, got impl.PacketResult, code int64, p impl.Packet) {
	t.Helper()
	if code != impl.OK {
		p = impl.Packet{}
	}
	if got.Code != code || !samePacket(got.Packet, p) {
		t.Errorf("%s: %v, want code %d, %v", what, got, code, p)
	}
}

// somePacket has no fault.
func somePacket(r *rand.Rand) impl.Packet {
	protos := []int64{1, 6, 6, 17, 17, 50, 255, 1 + r.Int63n(255)}
	p := impl.Packet{From: r.Int63n(1 << 32), To: r.Int63n(1 << 32), Proto: protos[r.Intn(len(protos))], Ttl: 1 + r.Int63n(255), Load: someBytes(r, r.Intn(201))}
	if hasPorts(p.Proto) {
		p.FromP, p.ToP = r.Int63n(65536), r.Int63n(65536)
	}
	return p
}

// edgePackets have each field in turn at and around its bounds and at the ends of int64, and loads at theirs.
func edgePackets() []impl.Packet {
	var list []impl.Packet
	for _, base := range []impl.Packet{udpPacket(), icmpPacket(), {Proto: impl.ProtoTcp, Ttl: 1}, {From: 4294967295, To: 4294967295, Proto: 255, Ttl: 255}, {}} {
		list = append(list, base)
		for _, field := range packetFields {
			for _, n := range []int64{math.MinInt64, math.MinInt64 + 1, -256, -1, 0, 1, 5, 6, 7, 16, 17, 18, 50, 254, 255, 256, 257, 65534, 65535, 65536, 4294967294, 4294967295, 4294967296, math.MaxInt64} {
				p := base
				*field.of(&p) = n
				list = append(list, p)
			}
		}
		for _, length := range []int{0, 1, 199, 200, 201, 400, 70000} {
			p := base
			p.Load = filled(length, 3)
			list = append(list, p)
		}
	}
	return list
}

func TestBoundsOfPacketsAreThoseOfTheDocument(t *testing.T) {
	numbers := []int64{impl.MaxAddress, impl.MaxPort, impl.ProtoAny, impl.ProtoIcmp, impl.ProtoTcp, impl.ProtoUdp, impl.ProtoEsp, impl.MaxLoad}
	if !reflect.DeepEqual(numbers, []int64{4294967295, 65535, 0, 1, 6, 17, 50, 200}) {
		t.Error(numbers)
	}
}

func TestHasPorts(t *testing.T) {
	for proto := int64(-300); proto <= 300; proto++ {
		if got := impl.HasPorts(proto); got != (proto == 6 || proto == 17) {
			t.Error(proto, got)
		}
	}
	for _, proto := range []int64{math.MinInt64, math.MaxInt64, 6 + 256, 17 - 256, 6 + 1<<32} {
		if impl.HasPorts(proto) {
			t.Error(proto)
		}
	}
}

func TestPacketFaultAtEveryEdge(t *testing.T) {
	for _, p := range edgePackets() {
		if got, want := impl.PacketFault(p), wantedFault(p); got != want {
			t.Errorf("%v: %d, want %d", p, got, want)
		}
	}
}

func TestPacketFaultOfTwoFaultsIsTheFirstNamed(t *testing.T) {
	many := filled(201, 1)
	cases := []struct {
		what string
		p    impl.Packet
		code int64
	}{
		{"a port of what has none", impl.Packet{Proto: 1, Ttl: 1, FromP: 1}, impl.ErrForm},
		{"the other port of what has none", impl.Packet{Proto: 50, Ttl: 1, ToP: 65535}, impl.ErrForm},
		{"a port out of bounds, of what has none", impl.Packet{Proto: 1, Ttl: 1, ToP: 65536}, impl.ErrRange},
		{"a port below 0, of what has none", impl.Packet{Proto: 1, Ttl: 1, FromP: -1}, impl.ErrRange},
		{"a port of no protocol", impl.Packet{Proto: 0, Ttl: 1, FromP: 1}, impl.ErrRange},
		{"a port of what has none, no Ttl", impl.Packet{Proto: 1, Ttl: 0, FromP: 1}, impl.ErrRange},
		{"too much, no Ttl", impl.Packet{Proto: 1, Ttl: 0, Load: many}, impl.ErrRange},
		{"too much, a port of what has none", impl.Packet{Proto: 1, Ttl: 1, ToP: 1, Load: many}, impl.ErrForm},
		{"too much", impl.Packet{Proto: 6, Ttl: 1, ToP: 1, Load: many}, impl.ErrMany},
		{"all of them", impl.Packet{From: -1, Proto: 1, Ttl: 1, ToP: 1, Load: many}, impl.ErrRange},
	}
	for _, c := range cases {
		if got := impl.PacketFault(c.p); got != c.code {
			t.Errorf("%s: %d, want %d", c.what, got, c.code)
		}
		wantBytes(t, c.what, impl.BuildPacket(c.p), c.code, nil)
		wantPacket(t, c.what, impl.ReverseWay(c.p), c.code, impl.Packet{})
	}
}

func TestBuildPacketOfKnownBytes(t *testing.T) {
	udp := impl.Packet{From: 167772161, To: 5, Proto: impl.ProtoUdp, Ttl: 64, FromP: 80, ToP: 65535, Load: []byte("hi")}
	wantBytes(t, "with ports", impl.BuildPacket(udp), impl.OK, []byte{69, 0, 0, 26, 0, 0, 64, 0, 64, 17, 0x30, 0xce, 10, 0, 0, 1, 0, 0, 0, 5, 0, 80, 255, 255, 'h', 'i'})
	esp := impl.Packet{From: 0, To: 4294967295, Proto: impl.ProtoEsp, Ttl: 255}
	wantBytes(t, "without ports or load", impl.BuildPacket(esp), impl.OK, []byte{69, 0, 0, 20, 0, 0, 64, 0, 255, 50, 0x7b, 0xb8, 0, 0, 0, 0, 255, 255, 255, 255})
}

func TestBuildPacketAtEveryEdge(t *testing.T) {
	for _, p := range edgePackets() {
		if code := wantedFault(p); code != impl.OK {
			wantBytes(t, "a packet with a fault", impl.BuildPacket(p), code, nil)
			continue
		}
		data := impl.BuildPacket(p)
		wantBytes(t, "a packet", data, impl.OK, wantedBytes(p))
		wantPacket(t, "a packet read back", impl.ParsePacket(data.Bytes), impl.OK, p)
	}
}

func TestPacketsAreReadBackFromTheirBytes(t *testing.T) {
	r := rand.New(rand.NewSource(21))
	for round := 0; round < 3000; round++ {
		p := somePacket(r)
		data := impl.BuildPacket(p)
		wantBytes(t, "a packet", data, impl.OK, wantedBytes(p))
		got := impl.ParsePacket(data.Bytes)
		wantPacket(t, "a packet read back", got, impl.OK, p)
		if !impl.SamePacket(got.Packet, p) {
			t.Error("not the same:", got.Packet, p)
		}
	}
}

func TestEveryPacketSizeIsReadBack(t *testing.T) {
	for length := 0; length <= 200; length++ {
		for _, proto := range []int64{1, 6, 17, 255} {
			p := impl.Packet{From: 3, To: 4, Proto: proto, Ttl: 5, Load: filled(length, 69)}
			data := impl.BuildPacket(p)
			wantPacket(t, "a packet read back", impl.ParsePacket(data.Bytes), impl.OK, p)
			for _, wrong := range [][]byte{data.Bytes[:len(data.Bytes)-1], append(bytes.Clone(data.Bytes), 0)} {
				wantPacket(t, "a byte fewer or more", impl.ParsePacket(wrong), impl.ErrText, impl.Packet{})
			}
		}
	}
}

// headOf is the head of a packet without a fault, with the length and the sum of so many bytes in all.
func headOf(proto int64, ttl int64, length int) []byte {
	data := make([]byte, length)
	copy(data, []byte{69, 0, byte(length >> 8), byte(length), 0, 0, 64, 0, byte(ttl), byte(proto), 0, 0, 10, 0, 0, 1, 10, 0, 0, 2})
	return resummed(data)
}

func TestParsePacketOfEveryLength(t *testing.T) {
	for length := 0; length < 20; length++ {
		wantPacket(t, "too short for a head", impl.ParsePacket(headOf(1, 9, 20)[:length]), impl.ErrText, impl.Packet{})
		wantPacket(t, "noughts", impl.ParsePacket(make([]byte, length)), impl.ErrText, impl.Packet{})
	}
	for length := 20; length <= 500; length++ {
		for _, proto := range []int64{1, 5, 6, 17, 18, 255} {
			data := headOf(proto, 9, length)
			want := impl.Packet{From: 167772161, To: 167772162, Proto: proto, Ttl: 9}
			loadAt := 20
			if hasPorts(proto) {
				loadAt = 24
			}
			code := int64(impl.OK)
			switch {
			case length > 224 || length < loadAt:
				code = impl.ErrText
			case length-loadAt > 200:
				code = impl.ErrMany
			default:
				want.Load = data[loadAt:]
			}
			wantPacket(t, "a length", impl.ParsePacket(data), code, want)
		}
	}
}

func TestParsePacketLooksNotBehindTheEnd(t *testing.T) {
	for length := 20; length < 24; length++ {
		data := append(headOf(6, 9, length), filled(10, 7)...)[:length]
		wantPacket(t, "ports behind the end", impl.ParsePacket(data), impl.ErrText, impl.Packet{})
	}
}

func TestParsePacketHoldsEachFixedByte(t *testing.T) {
	for _, at := range []int{0, 1, 4, 5, 6, 7} {
		for turn := 1; turn < 256; turn++ {
			data := wantedBytes(udpPacket())
			data[at] ^= byte(turn)
			wantPacket(t, "a fixed byte turned", impl.ParsePacket(data), impl.ErrText, impl.Packet{})
			wantPacket(t, "a fixed byte turned, the sum right", impl.ParsePacket(resummed(data)), impl.ErrText, impl.Packet{})
		}
	}
}

func TestParsePacketHoldsTheLength(t *testing.T) {
	for _, p := range []impl.Packet{udpPacket(), icmpPacket(), {Proto: 50, Ttl: 1}} {
		right := wantedBytes(p)
		for length := 0; length < 65536; length += 1 + length%7 {
			data := bytes.Clone(right)
			binary.BigEndian.PutUint16(data[2:], uint16(length))
			code, want := int64(impl.ErrText), impl.Packet{}
			if length == len(right) {
				code, want = impl.OK, p
			}
			wantPacket(t, "a length in the head", impl.ParsePacket(resummed(data)), code, want)
		}
		for _, length := range []int{len(right) - 1, len(right), len(right) + 1, len(right) + 256} {
			data := bytes.Clone(right)
			binary.BigEndian.PutUint16(data[2:], uint16(length))
			if got := impl.ParsePacket(resummed(data)).Code; (got == impl.OK) != (length == len(right)) {
				t.Errorf("length %d of %d: %d", length, len(right), got)
			}
		}
	}
}

func TestParsePacketHoldsTheSum(t *testing.T) {
	right := wantedBytes(udpPacket())
	for _, at := range []int{8, 9, 10, 11, 12, 13, 14, 15, 16, 17, 18, 19} {
		for turn := 1; turn < 256; turn++ {
			data := bytes.Clone(right)
			data[at] ^= byte(turn)
			wantPacket(t, "a byte turned", impl.ParsePacket(data), impl.ErrSum, impl.Packet{})
		}
	}
	for at := 20; at < len(right); at++ {
		data := bytes.Clone(right)
		data[at] ^= 1
		if got := impl.ParsePacket(data); got.Code != impl.OK || samePacket(got.Packet, udpPacket()) {
			t.Error("the sum is of the head alone:", got)
		}
	}
}

// Where nought is the right sum, 65535 makes CheckWords hold as well, and it is CheckWords that is asked.
func TestParsePacketTakesTheOtherNought(t *testing.T) {
	data := impl.BuildPacket(impl.Packet{From: 0, To: 65535 - 69*256 - 20 - 64*256 - 9*256 - 1, Proto: 1, Ttl: 9}).Bytes
	if data[10] != 0 || data[11] != 0 {
		t.Fatal("the sum is not nought:", data)
	}
	want := impl.ParsePacket(data)
	other := bytes.Clone(data)
	other[10], other[11] = 255, 255
	wantPacket(t, "65535 for the sum", impl.ParsePacket(other), impl.OK, want.Packet)
	wantBytes(t, "a hop of it", impl.TtlDown(other), impl.OK, impl.TtlDown(data).Bytes)
}

func TestParsePacketOfTwoFaultsIsTheFirstNamed(t *testing.T) {
	turned := func(data []byte, at int, b byte) []byte {
		data = bytes.Clone(data)
		data[at] = b
		return data
	}
	cases := []struct {
		what string
		data []byte
		code int64
	}{
		{"no Ttl", headOf(1, 0, 30), impl.ErrRange},
		{"no protocol", headOf(0, 9, 30), impl.ErrRange},
		{"neither", headOf(0, 0, 30), impl.ErrRange},
		{"no Ttl, the sum not right", turned(wantedBytes(udpPacket()), 8, 0), impl.ErrSum},
		{"no protocol, the sum not right", turned(wantedBytes(udpPacket()), 9, 0), impl.ErrSum},
		{"a fixed byte and the sum", turned(wantedBytes(udpPacket()), 4, 1), impl.ErrText},
		{"no Ttl, a fixed byte", resummed(turned(headOf(1, 0, 30), 7, 1)), impl.ErrText},
		{"no Ttl, no ports", headOf(6, 0, 22), impl.ErrRange},
		{"no ports, the sum not right", turned(headOf(17, 9, 22), 11, 0), impl.ErrSum},
		{"no ports", headOf(17, 9, 22), impl.ErrText},
		{"no Ttl, too much", headOf(1, 0, 221), impl.ErrRange},
		{"no protocol, too much", headOf(0, 9, 224), impl.ErrRange},
		{"too much, the sum not right", turned(headOf(50, 9, 224), 19, 0), impl.ErrSum},
		{"too much", headOf(50, 9, 221), impl.ErrMany},
		{"too long, no Ttl", headOf(6, 0, 225), impl.ErrText},
		{"too long, the sum not right", turned(headOf(6, 9, 225), 19, 0), impl.ErrText},
	}
	for _, c := range cases {
		wantPacket(t, c.what, impl.ParsePacket(c.data), c.code, impl.Packet{})
		wantBytes(t, c.what, impl.TtlDown(c.data), c.code, nil)
	}
}

func TestWhatIsReadHasNoFaultAndIsBuiltAgain(t *testing.T) {
	r := rand.New(rand.NewSource(22))
	read := 0
	for round := 0; round < 20000; round++ {
		data := wantedBytes(somePacket(r))
		for turns := r.Intn(3); turns > 0; turns-- {
			data[r.Intn(len(data))] = byte(r.Intn(256))
		}
		if r.Intn(4) > 0 {
			data = resummed(data)
		}
		got := impl.ParsePacket(data)
		if got.Code != impl.OK {
			wantPacket(t, "what cannot be read", got, got.Code, impl.Packet{})
			continue
		}
		read++
		if wantedFault(got.Packet) != impl.OK || !bytes.Equal(wantedBytes(got.Packet), data) {
			t.Fatalf("%v read: %v", data, got)
		}
	}
	if read < 5000 {
		t.Error("only", read, "were read")
	}
}

func TestEachHopTakesOneOffAndNothingElse(t *testing.T) {
	r := rand.New(rand.NewSource(23))
	for round := 0; round < 50; round++ {
		p := somePacket(r)
		p.Ttl = 255
		data := impl.BuildPacket(p).Bytes
		for ttl := int64(254); ttl >= 1; ttl-- {
			p.Ttl = ttl
			down := impl.TtlDown(data)
			wantBytes(t, "a hop", down, impl.OK, wantedBytes(p))
			data = down.Bytes
		}
		wantPacket(t, "behind 254 hops", impl.ParsePacket(data), impl.OK, p)
		wantBytes(t, "one hop too many", impl.TtlDown(data), impl.ErrOld, nil)
	}
}

func TestTtlDownTellsTheCodeOfTheReading(t *testing.T) {
	last := udpPacket()
	last.Ttl = 1
	data := wantedBytes(last)
	wantBytes(t, "the last hop", impl.TtlDown(data), impl.ErrOld, nil)
	data[19] ^= 1
	wantBytes(t, "the last hop, the sum not right", impl.TtlDown(data), impl.ErrSum, nil)
	wantBytes(t, "no Ttl", impl.TtlDown(headOf(6, 0, 24)), impl.ErrRange, nil)
	wantBytes(t, "no ports, the last hop", impl.TtlDown(headOf(6, 1, 23)), impl.ErrText, nil)
	wantBytes(t, "too much, the last hop", impl.TtlDown(headOf(1, 1, 221)), impl.ErrMany, nil)
	wantBytes(t, "no bytes", impl.TtlDown(nil), impl.ErrText, nil)
}

func TestSamePacketHoldsEveryField(t *testing.T) {
	for _, p := range edgePackets() {
		q := p
		q.Load = bytes.Clone(p.Load)
		if !impl.SamePacket(p, q) {
			t.Error("not the same as itself:", p)
		}
		for _, field := range packetFields {
			q := p
			*field.of(&q) ^= 1 << 33
			if impl.SamePacket(p, q) || impl.SamePacket(q, p) {
				t.Error("another", field.name, p)
			}
		}
		q.Load = append(q.Load, 0)
		if impl.SamePacket(p, q) || impl.SamePacket(q, p) {
			t.Error("a longer load:", p)
		}
	}
	p, q := udpPacket(), udpPacket()
	q.Load[3] ^= 1
	if impl.SamePacket(p, q) {
		t.Error("another load")
	}
	p.FromP, p.ToP, p.From, p.To = 1, 2, 3, 4
	q = p
	q.FromP, q.ToP = 2, 1
	if impl.SamePacket(p, q) {
		t.Error("ports changed")
	}
	q = p
	q.From, q.To = 4, 3
	if impl.SamePacket(p, q) {
		t.Error("addresses changed")
	}
	if !impl.SamePacket(impl.Packet{Load: []byte{}}, impl.Packet{}) {
		t.Error("an empty load is no load")
	}
}

func TestReverseWayAtEveryEdge(t *testing.T) {
	for _, p := range edgePackets() {
		code := wantedFault(p)
		want := p
		want.From, want.To, want.FromP, want.ToP = p.To, p.From, p.ToP, p.FromP
		got := impl.ReverseWay(p)
		wantPacket(t, "a way back", got, code, want)
		if code == impl.OK {
			wantPacket(t, "and there again", impl.ReverseWay(got.Packet), impl.OK, p)
		}
	}
}

func TestAddressText(t *testing.T) {
	known := map[int64]string{0: "0.0.0.0", 1: "0.0.0.1", 256: "0.0.1.0", 167772161: "10.0.0.1", 3232235777: "192.168.1.1", 4294967294: "255.255.255.254", 4294967295: "255.255.255.255"}
	for a, want := range known {
		if got := impl.AddressText(a); got != (impl.TextResult{Text: want}) {
			t.Errorf("%d: %v, want %s", a, got, want)
		}
	}
	r := rand.New(rand.NewSource(24))
	for round := 0; round < 2000; round++ {
		a := r.Uint32() >> r.Intn(32)
		want := netip.AddrFrom4([4]byte(binary.BigEndian.AppendUint32(nil, a))).String()
		if got := impl.AddressText(int64(a)); got != (impl.TextResult{Text: want}) {
			t.Errorf("%d: %v, want %s", a, got, want)
		}
	}
	for _, a := range []int64{math.MinInt64, -4294967295, -1, 4294967296, 1 << 40, math.MaxInt64} {
		if got := impl.AddressText(a); got != (impl.TextResult{Code: impl.ErrRange}) {
			t.Errorf("%d: %v", a, got)
		}
	}
}
