package tests

import (
	"bytes"
	"math"
	"math/rand"
	"testing"

	"loop.example/g00205/impl"
)

// packetData are bytes of packets, right ones and ones of each fault.
func packetData() [][]byte {
	r := rand.New(rand.NewSource(25))
	list := [][]byte{nil, {}, {69}, headOf(6, 9, 20), headOf(6, 9, 24), headOf(1, 0, 30), headOf(1, 1, 30), headOf(1, 9, 221), headOf(6, 9, 224), headOf(6, 9, 225), filled(400, 69)}
	for round := 0; round < 30; round++ {
		data := wantedBytes(somePacket(r))
		list = append(list, data, data[:len(data)-1], someBytes(r, len(data)))
		turned := bytes.Clone(data)
		turned[r.Intn(headSize)] ^= 32
		list = append(list, turned)
	}
	return list
}

func answersOfPacketData(data []byte) []any {
	return []any{impl.ParsePacket(data), impl.TtlDown(data)}
}

func answersOfPacket(p impl.Packet) []any {
	return []any{
		impl.PacketFault(p), impl.BuildPacket(p), impl.ReverseWay(p), impl.SamePacket(p, p),
		impl.HasPorts(p.Proto), impl.AddressText(p.From), impl.AddressText(p.To),
	}
}

func TestPacketFunctionsChangeNoArgument(t *testing.T) {
	unchanged := func(given []byte, data []byte) bool {
		room := given[len(given):cap(given)]
		return bytes.Equal(given, data) && bytes.Equal(room, make([]byte, len(room)))
	}
	for _, data := range packetData() {
		given := roomyCopy(data)
		answersOfPacketData(given)
		if !unchanged(given, data) {
			t.Error("data changed:", data)
		}
	}
	for _, p := range edgePackets() {
		given := p
		given.Load = roomyCopy(p.Load)
		answersOfPacket(given)
		if !unchanged(given.Load, p.Load) {
			t.Error("load changed:", p)
		}
	}
}

func TestPacketAnswersAreNewMemory(t *testing.T) {
	p := udpPacket()
	data := wantedBytes(p)
	calls := map[string]func(p impl.Packet, data []byte) []byte{
		"BuildPacket": func(p impl.Packet, _ []byte) []byte { return impl.BuildPacket(p).Bytes },
		"ReverseWay":  func(p impl.Packet, _ []byte) []byte { return impl.ReverseWay(p).Packet.Load },
		"ParsePacket": func(_ impl.Packet, data []byte) []byte { return impl.ParsePacket(data).Packet.Load },
		"TtlDown":     func(_ impl.Packet, data []byte) []byte { return impl.TtlDown(data).Bytes },
	}
	for name, call := range calls {
		want := bytes.Clone(call(p, data))
		given, givenData := p, roomyCopy(data)
		given.Load = roomyCopy(p.Load)
		first, second := call(given, givenData), call(given, givenData)
		// What is held stays, whatever becomes of the arguments and of another answer, as far as their memory goes.
		for _, other := range [][]byte{second[:cap(second)], given.Load, givenData} {
			for i := range other {
				other[i] ^= 255
			}
			if !bytes.Equal(first, want) {
				t.Error(name, "shares memory:", first, want)
			}
		}
		if third := call(p, data); !bytes.Equal(third, want) {
			t.Error(name, "kept what was written into an answer:", third)
		}
	}
}

func TestPacketAnswersHangOnTheArgumentsAlone(t *testing.T) {
	list, packets := packetData(), edgePackets()
	wantSameAgain(t, len(list)+len(packets), func(i int, roomy bool) []any {
		switch {
		case i >= len(list):
			return answersOfPacket(packets[i-len(list)])
		case roomy:
			return answersOfPacketData(roomyCopy(list[i]))
		}
		return answersOfPacketData(list[i])
	})
}

func TestPacketFunctionsAnswerAtTheEndsOfEveryField(t *testing.T) {
	ends := []int64{math.MinInt64, -1, 0, 1, 6, math.MaxInt64}
	p := impl.Packet{}
	var fill func(field int)
	fill = func(field int) {
		if field < len(packetFields) {
			for _, n := range ends {
				*packetFields[field].of(&p) = n
				fill(field + 1)
			}
			return
		}
		code := wantedFault(p)
		if impl.PacketFault(p) != code || impl.BuildPacket(p).Code != code || impl.ReverseWay(p).Code != code || !impl.SamePacket(p, p) {
			t.Error(p)
		}
	}
	fill(0)
}
