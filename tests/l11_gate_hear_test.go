package tests

import (
	"fmt"
	"math"
	"math/rand"
	"slices"
	"testing"

	"loop.example/g00205/impl"
)

// wordPlaces are a message's words behind its name, taken apart.
func (m *meeting) wordPlaces(at int64, n int64) []int64 {
	m.t.Helper()
	split := impl.SplitList(m.table, at, n)
	if split.Code != impl.OK {
		m.t.Fatal(m.what, "no list of", n, "code", split.Code)
	}
	return split.List[1:]
}

// ofEachKind is a term of each Op, the Op's place its own, with the name 7.
func (m *meeting) ofEachKind() map[int64]int64 {
	secret := m.put(freshTerm(6000))
	name := m.name(7)
	return map[int64]int64{1: name, 2: secret, 3: m.pair(name, secret), 4: m.put(prfTerm(name, secret)), 5: m.seal(name, secret), 6: m.put(halfTerm(secret)), 7: m.put(bothTerm(secret, secret))}
}

// readyFor is a meeting in which gate 2 hears a message of the kind from gate 1, or gate 1 one from gate 2.
func readyFor(t *testing.T, kind int64) (m *meeting, hearer int64, at int64) {
	t.Helper()
	m = meetingOf(t, fmt.Sprint("kind ", kind), nil, nil)
	f := m.toStage(1, 2, int(min(kind-11, 4)))
	switch kind {
	case 11:
		return m, 2, f.first
	case 12:
		return m, 1, f.second
	case 13:
		return m, 2, f.third
	case 14:
		return m, 1, f.fourth
	}
	return m, 2, m.must(m.send(1, 0, 3)).Send
}

func TestEachPartOfAMessageIsOfItsKind(t *testing.T) {
	for kind := int64(11); kind <= 15; kind++ {
		m, hearer, at := readyFor(t, kind)
		ops := wordsAsked[kind]
		words := m.wordPlaces(at, int64(len(ops))+1)
		others := m.ofEachKind()
		if got := wantHeard(t, m.what, m.table, m.gates[hearer], at); got.Code != impl.OK {
			t.Errorf("%s: code %d", m.what, got.Code)
		}
		for i, op := range ops {
			for other, place := range others {
				changed := slices.Clone(words)
				changed[i] = place
				message := m.list(kind, changed...)
				if op != 0 && op != other {
					wantHearCode(t, fmt.Sprintf("%s, word %d of Op %d", m.what, i+1, other), impl.ErrForm, m.table, m.gates[hearer], message)
				}
				wantHeard(t, m.what+", another word", m.table, m.gates[hearer], message)
			}
		}
		// Two of them wrong, and a talk that is none beside.
		for i := range ops[:len(ops)-1] {
			changed := slices.Clone(words)
			changed[0], changed[i] = others[1], others[7]
			wantHearCode(t, m.what+", wrong words", impl.ErrForm, m.table, m.gates[hearer], m.list(kind, changed...))
			wantHearCode(t, m.what+", wrong words for a gate without talks", impl.ErrForm, m.table, gateOf(3, 90), m.list(kind, changed...))
		}
	}
}

func TestAMessageIsAListOfSoManyParts(t *testing.T) {
	for kind := int64(11); kind <= 15; kind++ {
		m, hearer, at := readyFor(t, kind)
		g := m.gates[hearer]
		words := m.wordPlaces(at, int64(len(wordsAsked[kind]))+1)
		last := len(words) - 1
		for n := 1; n < len(words); n++ {
			message := m.list(kind, words[:n]...)
			wantHearCode(t, fmt.Sprint(m.what, ", but the first ", n, " parts alone"), impl.ErrForm, m.table, g, message)
		}
		// Ended otherwise: what stands in the last pair is no pair there.
		for _, end := range []int64{words[last], m.name(0), words[0]} {
			wantHearCode(t, m.what+", ended ahead", impl.ErrForm, m.table, g, m.list(kind, append(slices.Clone(words[:last-1]), end)...))
		}
		wantHearCode(t, m.what+", the name alone", impl.ErrForm, m.table, g, m.name(kind))
		wantHearCode(t, m.what+", the name twice", impl.ErrForm, m.table, g, m.pair(m.name(kind), m.name(kind)))
		wantHearCode(t, m.what+", the name behind", impl.ErrForm, m.table, g, m.pair(at, m.name(kind)))
		wantHearCode(t, m.what+", what follows the name", impl.ErrForm, m.table, g, m.table[at].B)
		// One that goes on has a pair as its last part.
		long := m.list(kind, append(slices.Clone(words), m.name(0))...)
		code := map[int64]int64{11: impl.OK, 12: impl.OK, 13: impl.ErrKey, 14: impl.ErrKey, 15: impl.ErrNone}[kind]
		if got := wantHeard(t, m.what+", too long", m.table, g, long); got.Code != code {
			t.Errorf("%s, too long: code %d, want %d", m.what, got.Code, code)
		}
		for n := range int64(16) {
			if n != kind-1 {
				wantHeard(t, fmt.Sprint(m.what, " under the name ", n+1), m.table, g, m.list(n+1, words...))
			}
		}
	}
}

func TestWhatIsNoMessageIsNotHeard(t *testing.T) {
	m := meetingOf(t, "no message", nil, nil)
	m.toStage(1, 2, 2)
	for _, n := range []int64{0, 1, 10, 16, 17, 9999} {
		wantHearCode(t, fmt.Sprint("of the name ", n), impl.ErrForm, m.table, m.gates[2], m.list(n, m.name(100), m.name(200), 0))
	}
	end := int64(len(m.table))
	for _, at := range []int64{math.MinInt64, math.MinInt64 + 1, -2, -1, end, end + 1, 400, 401, math.MaxInt64} {
		wantHearCode(t, fmt.Sprint("at ", at), impl.ErrRange, m.table, m.gates[2], at)
		wantHearCode(t, fmt.Sprint("at ", at, " of no table"), impl.ErrRange, nil, gateOf(1, 0), at)
	}
	for at := range end {
		for id := int64(1); id <= 3; id++ {
			wantHeard(t, fmt.Sprint("at ", at), m.table, m.gates[id], at)
		}
	}
}

func TestAFirstMessageFromAnybody(t *testing.T) {
	m := meetingOf(t, "a first message", nil, map[int64]int64{7: 4})
	own := m.put(freshTerm(1))
	half := m.put(halfTerm(own))
	nonces := m.ofEachKind()
	for _, spi := range []int64{0, 1, 100, 9999} {
		for op, nonce := range nonces {
			m.gates[7] = gateOf(7, 4)
			got := m.must(m.hear(7, m.list(11, m.name(spi), half, nonce)))
			x := got.Gate.Talks[0]
			if x.Peer != 0 || x.Role != 2 || x.Stage != 2 || x.SpiI != spi || x.SpiR != 704 || x.Ni != nonce || x.Half != half || x.First == got.Send || x.Second != got.Send || got.Gate.Count != 5 {
				t.Errorf("spi %d, a nonce of Op %d: %v", spi, op, got)
			}
			if m.text(x.Own) != "s3508" || m.text(x.Nr) != "s3509" || m.text(x.Keys.Seed) != fmt.Sprintf("f((%s,s3509),g(s1,s3508))", m.text(nonce)) {
				t.Errorf("spi %d, a nonce of Op %d: own %s, nonce %s, %s", spi, op, m.text(x.Own), m.text(x.Nr), m.text(x.Keys.Seed))
			}
			if want := fmt.Sprintf("(n12,(n%d,(n704,(g(s3508),s3509))))", spi); m.text(got.Send) != want {
				t.Errorf("spi %d: %s, want %s", spi, m.text(got.Send), want)
			}
		}
	}
}

func TestAFirstMessageIsAnsweredEachTimeItComes(t *testing.T) {
	m := meetingOf(t, "again and again", nil, nil)
	f := m.toStage(1, 2, 0)
	for n := range int64(12) {
		got := m.hear(2, f.first)
		// The table may be full ahead of the gate.
		if got.Code == impl.ErrMany && len(m.table) > 380 {
			break
		}
		if m.must(got).Talk != n || got.Gate.Count != n+1 || got.Gate.Talks[n].SpiR != 200+n || got.Gate.Talks[n].First != f.first {
			t.Errorf("heard %d times: %v", n+1, got.Gate)
		}
	}
	// A gate hears its own one as any other, but nobody is shown by it.
	alone := meetingOf(t, "alone", nil, nil)
	begun := alone.must(alone.begin(1, 2))
	heard := alone.must(alone.hear(1, begun.Send))
	if heard.Talk != 1 || heard.Gate.Count != 2 || heard.Gate.Talks[1].SpiI != 100 || heard.Gate.Talks[1].SpiR != 101 {
		t.Error("its own first message:", heard)
	}
	third := alone.must(alone.hear(1, heard.Send))
	if third.Talk != 0 || third.Gate.Talks[0].Keys != third.Gate.Talks[1].Keys {
		t.Error("its own second message:", third)
	}
	wantHearCode(t, "its own third message", impl.ErrForm, alone.table, alone.gates[1], third.Send)
}

func TestAFullGateHearsNoFirstMessage(t *testing.T) {
	m := meetingOf(t, "a full gate", nil, nil)
	f := m.toStage(1, 2, 1)
	open := m.gates[2].Talks[0]
	for _, n := range []int{0, 10, 11, 12} {
		for _, count := range []int64{0, 88, 89, 90} {
			code := int64(impl.OK)
			if n == 12 || count == 90 {
				code = impl.ErrMany
			}
			g := gateOf(2, count, slices.Repeat([]impl.Talk{open}, n)...)
			got := wantHeard(t, fmt.Sprint(n, " talks, Count ", count), m.table, g, f.first)
			if got.Code != code || code == impl.OK && (got.Talk != int64(n) || got.Gate.Count != count+1) {
				t.Errorf("%d talks, Count %d: code %d, talk %d", n, count, got.Code, got.Talk)
			}
		}
	}
	// Its form is asked ahead of that.
	wantHearCode(t, "no half", impl.ErrForm, m.table, gateOf(2, 90), m.list(11, m.name(1), m.name(2), m.name(3)))
}

func TestAFullGateHearsAllOtherMessages(t *testing.T) {
	for kind := int64(12); kind <= 15; kind++ {
		m, hearer, at := readyFor(t, kind)
		g := m.gates[hearer]
		g.Count = 90
		for len(g.Talks) < 12 {
			x := knownTalk(2, 2)
			x.SpiI, x.Own, x.Half = 9999, g.Talks[0].Own, g.Talks[0].Half
			if x.Half < 0 {
				x = g.Talks[0]
				x.SpiI = 9999
			}
			g.Talks = append(g.Talks, x)
		}
		if got := wantHeard(t, m.what+", full", m.table, g, at); got.Code != impl.OK || got.Talk != 0 || got.Gate.Count != 90 || len(got.Gate.Talks) != 12 {
			t.Errorf("%s, full: %v", m.what, got)
		}
	}
}

func TestASecondMessageForATalkThatIsThere(t *testing.T) {
	m := meetingOf(t, "a second message", nil, nil)
	f := m.toStage(1, 2, 1)
	wantHearCode(t, "heard by the one who sent it", impl.ErrNone, m.table, m.gates[2], f.second)
	wantHearCode(t, "heard by another one", impl.ErrNone, m.table, m.gates[3], f.second)
	before := m.gates[1]
	m.must(m.hear(1, f.second))
	wantHearCode(t, "heard again", impl.ErrNone, m.table, m.gates[1], f.second)
	wantHearCode(t, "heard again, at the end", impl.ErrNone, m.table, m.gates[1], f.second)
	words := m.wordPlaces(f.second, 5)
	for _, spi := range []int64{0, 99, 101, 200, 9999} {
		other := m.list(12, m.name(spi), words[1], words[2], words[3])
		wantHearCode(t, fmt.Sprint("for the talk ", spi), impl.ErrNone, m.table, before, other)
	}
	// Whatever it says of itself is believed as yet.
	nonces := m.ofEachKind()
	for _, spi := range []int64{0, 100, 201, 9999} {
		for _, nonce := range nonces {
			m.table = impl.PutNames(m.table, []int64{spi}).Table
			got := wantHeard(t, "another answer", m.table, before, m.list(12, words[0], m.name(spi), nonces[6], nonce))
			if got.Code != impl.ErrRange && got.Code != impl.OK {
				t.Errorf("another answer: code %d", got.Code)
			}
		}
	}
}

func TestOfTwoTalksThatFitTheFirstOneGoesOn(t *testing.T) {
	for kind := int64(12); kind <= 15; kind++ {
		m, hearer, at := readyFor(t, kind)
		fits := m.gates[hearer].Talks[0]
		twin := fits
		if kind == 12 || kind == 14 {
			twin.Peer = 3
		}
		// Those that do not fit, each for one cause alone.
		var others []impl.Talk
		for _, change := range []func(x *impl.Talk){
			func(x *impl.Talk) { x.SpiI++ },
			func(x *impl.Talk) { x.SpiR++ },
			func(x *impl.Talk) { x.In-- },
			func(x *impl.Talk) { x.Role, x.Peer = 3-x.Role, map[int64]int64{1: 0, 2: 1}[x.Role] },
		} {
			other := fits
			change(&other)
			if impl.TalkFault(m.table, other) == impl.OK && !(kind == 12 && other.SpiI == fits.SpiI) && !(kind == 15 && other.Role != fits.Role) {
				others = append(others, other)
			}
		}
		if len(others) < map[int64]int{12: 1, 13: 3, 14: 3, 15: 3}[kind] {
			t.Fatal(m.what, "others:", others)
		}
		for _, talks := range [][]impl.Talk{
			{fits, twin}, {fits, fits, fits}, slices.Concat(others, []impl.Talk{fits, twin}), slices.Concat([]impl.Talk{fits}, others, []impl.Talk{twin}),
		} {
			place := slices.Index(talks, fits)
			got := wantHeard(t, m.what+", two fit", m.table, gateOf(hearer, 5, talks...), at)
			if got.Code != impl.OK || got.Talk != int64(place) {
				t.Errorf("%s: code %d, talk %d, want %d", m.what, got.Code, got.Talk, place)
				continue
			}
			for i, x := range got.Gate.Talks {
				if (x != talks[i]) != (i == place) {
					t.Errorf("%s: talk %d became %v, was %v", m.what, i, x, talks[i])
				}
			}
		}
		if got := wantHeard(t, m.what+", none fits", m.table, gateOf(hearer, 5, others...), at); got.Code != impl.ErrNone {
			t.Errorf("%s, none fits: code %d", m.what, got.Code)
		}
		// The first one is taken, though it is the second one that would do.
		if kind == 14 {
			wantHearCode(t, "a twin of another peer ahead", impl.ErrKey, m.table, gateOf(hearer, 5, twin, fits), at)
		}
		if kind == 13 || kind == 14 {
			twin = fits
			twin.Keys.Ours, twin.Keys.Back = fits.Keys.Down, fits.Keys.Down
			wantHearCode(t, m.what+", a twin with other keys ahead", impl.ErrKey, m.table, gateOf(hearer, 5, twin, fits), at)
		}
		if kind == 12 {
			got := wantHeard(t, "a twin of another peer ahead", m.table, gateOf(hearer, 5, twin, fits), at)
			if got.Code != impl.OK || got.Talk != 0 || got.Gate.Talks[0].Peer != 3 {
				t.Errorf("a twin of another peer ahead: %v", got)
			}
		}
	}
}

func TestATalkIsFoundByItsStage(t *testing.T) {
	m := meetingOf(t, "all messages", nil, nil)
	f := m.toStage(1, 2, 4)
	load, back := m.must(m.send(1, 0, 3)).Send, m.must(m.send(2, 0, 3)).Send
	// The hearers, and how many messages are heard when each may come.
	cases := []struct {
		what string
		id   int64
		at   int64
		when []int
	}{
		{"a second message", 1, f.second, []int{0, 1}}, {"a second message", 2, f.second, nil},
		{"a third message", 1, f.third, nil}, {"a third message", 2, f.third, []int{1, 2}},
		{"a fourth message", 1, f.fourth, []int{2, 3}}, {"a fourth message", 2, f.fourth, nil},
		{"a load", 1, load, nil}, {"a load", 2, load, []int{3, 4}},
		{"a load back", 1, back, []int{4}}, {"a load back", 2, back, nil},
	}
	for heard := range 5 {
		other := meetingOf(t, "some messages", nil, nil)
		other.toStage(1, 2, heard)
		// The other meeting's table is the beginning of this one's.
		if !slices.Equal(m.table[:len(other.table)], other.table) {
			t.Fatal("tables are not alike")
		}
		for _, c := range cases {
			code := int64(impl.ErrNone)
			if slices.Contains(c.when, heard) {
				code = impl.OK
			}
			if got := wantHeard(t, c.what, m.table, other.gates[c.id], c.at); got.Code != code {
				t.Errorf("%s by %d, %d are heard: code %d, want %d", c.what, c.id, heard, got.Code, code)
			}
		}
	}
}

// shutMessage is the third or the fourth message with other things in it.
func (m *meeting) shutMessage(kind int64, spiI int64, spiR int64, last int64) int64 {
	m.t.Helper()
	return m.list(kind, m.name(spiI), m.name(spiR), last)
}

func TestWhoIsShownByAThirdMessage(t *testing.T) {
	m := meetingOf(t, "a third message", nil, nil)
	f := m.toStage(1, 2, 2)
	x := m.gates[2].Talks[0]
	third := func(key int64, inside int64) int64 { return m.shutMessage(13, 100, 200, m.seal(key, inside)) }
	right := func(id int64) int64 { return m.proof(m.shared(id, 2), x.First, x.Nr, x.Keys.Ours, id) }
	if got := third(x.Keys.Ours, m.pair(m.name(1), right(1))); got != f.third {
		t.Errorf("the third message is another one: %s, want %s", m.text(got), m.text(f.third))
	}
	// Whoever shows to know what they share with it is believed to be the peer, whomever the first one meant.
	for _, id := range []int64{1, 3, 9} {
		got := wantHeard(t, "another one", m.table, m.gates[2], third(x.Keys.Ours, m.pair(m.name(id), right(id))))
		if got.Code != impl.OK || got.Gate.Talks[0].Peer != id || got.Gate.Talks[0].Stage != 3 {
			t.Errorf("shown to be %d: %v", id, got)
		}
	}
	proof := right(1)
	inside := m.pair(m.name(1), proof)
	for what, key := range map[string]int64{"down": x.Keys.Down, "back": x.Keys.Back, "seed": x.Keys.Seed, "a name": m.name(1), "a secret": x.Own} {
		wantHearCode(t, "sealed with another key, "+what, impl.ErrKey, m.table, m.gates[2], third(key, inside))
	}
	for op, at := range m.ofEachKind() {
		wantHearCode(t, fmt.Sprint("sealed with nothing, of Op ", op), impl.ErrKey, m.table, m.gates[2], m.shutMessage(13, 100, 200, at))
	}
	wantHearCode(t, "not sealed", impl.ErrKey, m.table, m.gates[2], m.shutMessage(13, 100, 200, inside))
	wantHearCode(t, "a prf in place of a seal", impl.ErrKey, m.table, m.gates[2], m.shutMessage(13, 100, 200, m.put(prfTerm(x.Keys.Ours, inside))))
	wantHearCode(t, "the key sealed with what was said", impl.ErrKey, m.table, m.gates[2], third(inside, x.Keys.Ours))
	for op, at := range m.ofEachKind() {
		code := int64(impl.ErrForm)
		if op == 3 {
			code = impl.ErrKey
		}
		wantHearCode(t, fmt.Sprint("in the seal is one of Op ", op), code, m.table, m.gates[2], third(x.Keys.Ours, at))
		if op != 1 {
			wantHearCode(t, fmt.Sprint("no name but one of Op ", op), impl.ErrForm, m.table, m.gates[2], third(x.Keys.Ours, m.pair(at, proof)))
		}
	}
	for _, id := range []int64{0, 2, 10, 11, 1000, 9999} {
		wantHearCode(t, fmt.Sprint("the name ", id), impl.ErrForm, m.table, m.gates[2], third(x.Keys.Ours, m.pair(m.name(id), proof)))
	}
	for _, id := range []int64{3, 4, 9} {
		wantHearCode(t, fmt.Sprint("the proof of 1 under the name ", id), impl.ErrKey, m.table, m.gates[2], third(x.Keys.Ours, m.pair(m.name(id), proof)))
	}
}

func TestAProofOfSomethingElseShowsNobody(t *testing.T) {
	m := meetingOf(t, "other proofs", nil, nil)
	m.toStage(1, 2, 2)
	x := m.gates[2].Talks[0]
	shared := m.shared(1, 2)
	for what, proof := range map[string]int64{
		"of another secret":               m.proof(m.shared(1, 3), x.First, x.Nr, x.Keys.Ours, 1),
		"of a secret of the stranger":     m.proof(m.put(freshTerm(3)), x.First, x.Nr, x.Keys.Ours, 1),
		"of another first message":        m.proof(shared, x.Second, x.Nr, x.Keys.Ours, 1),
		"of another nonce":                m.proof(shared, x.First, x.Ni, x.Keys.Ours, 1),
		"of another key":                  m.proof(shared, x.First, x.Nr, x.Keys.Back, 1),
		"of another gate":                 m.proof(shared, x.First, x.Nr, x.Keys.Ours, 3),
		"of the one who hears":            m.proof(shared, x.First, x.Nr, x.Keys.Ours, 2),
		"of the second one":               m.proof(shared, x.Second, x.Ni, x.Keys.Back, 2),
		"of the second one, of the first": m.proof(shared, x.Second, x.Ni, x.Keys.Back, 1),
		"that is a name":                  m.name(1),
		"that is the secret":              shared,
		"that is a key":                   x.Keys.Ours,
		"in a pair":                       m.pair(m.proof(shared, x.First, x.Nr, x.Keys.Ours, 1), m.name(0)),
	} {
		at := m.shutMessage(13, 100, 200, m.seal(x.Keys.Ours, m.pair(m.name(1), proof)))
		wantHearCode(t, "a proof "+what, impl.ErrKey, m.table, m.gates[2], at)
	}
	// And one for a talk that is not there shows nobody, whatever it has in it.
	proof := m.proof(shared, x.First, x.Nr, x.Keys.Ours, 1)
	for _, spis := range [][2]int64{{200, 100}, {100, 201}, {101, 200}, {0, 200}, {100, 0}, {100, 100}} {
		for _, key := range []int64{x.Keys.Ours, x.Keys.Down} {
			wantHearCode(t, fmt.Sprint("for the talk ", spis), impl.ErrNone, m.table, m.gates[2], m.shutMessage(13, spis[0], spis[1], m.seal(key, m.pair(m.name(1), proof))))
		}
	}
}

func TestAThirdMessageIsHeardOnce(t *testing.T) {
	m := meetingOf(t, "a third message", nil, nil)
	f := m.toStage(1, 2, 3)
	wantHearCode(t, "heard again", impl.ErrNone, m.table, m.gates[2], f.third)
	wantHearCode(t, "heard by the one who sent it", impl.ErrNone, m.table, m.gates[1], f.third)
	m.must(m.hear(1, f.fourth))
	wantHearCode(t, "heard again, at the end", impl.ErrNone, m.table, m.gates[2], f.third)
	wantHearCode(t, "a fourth one again", impl.ErrNone, m.table, m.gates[1], f.fourth)
	wantHearCode(t, "a fourth one by the one who sent it", impl.ErrNone, m.table, m.gates[2], f.fourth)
	wantHearCode(t, "a second one at the end", impl.ErrNone, m.table, m.gates[1], f.second)
}

func TestWhoIsShownByAFourthMessage(t *testing.T) {
	m := meetingOf(t, "a fourth message", nil, nil)
	f := m.toStage(1, 2, 3)
	x := m.gates[1].Talks[0]
	fourth := func(key int64, inside int64) int64 { return m.shutMessage(14, 100, 200, m.seal(key, inside)) }
	shared := m.shared(1, 2)
	proof := m.proof(shared, x.Second, x.Ni, x.Keys.Back, 2)
	inside := m.pair(m.name(2), proof)
	if got := fourth(x.Keys.Back, inside); got != f.fourth {
		t.Errorf("the fourth message is another one: %s, want %s", m.text(got), m.text(f.fourth))
	}
	for what, key := range map[string]int64{"down": x.Keys.Down, "ours": x.Keys.Ours, "seed": x.Keys.Seed, "a name": m.name(1), "the child": m.gates[2].Talks[0].Out} {
		wantHearCode(t, "sealed with another key, "+what, impl.ErrKey, m.table, m.gates[1], fourth(key, inside))
	}
	for op, at := range m.ofEachKind() {
		wantHearCode(t, fmt.Sprint("sealed with nothing, of Op ", op), impl.ErrKey, m.table, m.gates[1], m.shutMessage(14, 100, 200, at))
		code := int64(impl.ErrForm)
		if op == 3 {
			code = impl.ErrKey
		}
		wantHearCode(t, fmt.Sprint("in the seal is one of Op ", op), code, m.table, m.gates[1], fourth(x.Keys.Back, at))
		if op != 1 {
			wantHearCode(t, fmt.Sprint("no name but one of Op ", op), impl.ErrForm, m.table, m.gates[1], fourth(x.Keys.Back, m.pair(at, proof)))
		}
	}
	// Of another peer, even with the proof of that one; so, too, of a name that is no gate's.
	for _, id := range []int64{0, 1, 3, 9, 10, 9999} {
		wantHearCode(t, fmt.Sprint("of ", id, " with the proof of 2"), impl.ErrKey, m.table, m.gates[1], fourth(x.Keys.Back, m.pair(m.name(id), proof)))
		if id > 1 && id < 10 {
			other := m.proof(m.shared(1, id), x.Second, x.Ni, x.Keys.Back, id)
			wantHearCode(t, fmt.Sprint("of ", id), impl.ErrKey, m.table, m.gates[1], fourth(x.Keys.Back, m.pair(m.name(id), other)))
		}
	}
	for what, other := range map[string]int64{
		"of another secret":         m.proof(m.shared(1, 3), x.Second, x.Ni, x.Keys.Back, 2),
		"of another second message": m.proof(shared, x.First, x.Ni, x.Keys.Back, 2),
		"of another nonce":          m.proof(shared, x.Second, x.Nr, x.Keys.Back, 2),
		"of another key":            m.proof(shared, x.Second, x.Ni, x.Keys.Ours, 2),
		"of another gate":           m.proof(shared, x.Second, x.Ni, x.Keys.Back, 3),
		"of the one who hears":      m.proof(shared, x.Second, x.Ni, x.Keys.Back, 1),
		"of the first one":          m.proof(shared, x.First, x.Nr, x.Keys.Ours, 1),
		"that is a name":            m.name(2),
	} {
		wantHearCode(t, "a proof "+what, impl.ErrKey, m.table, m.gates[1], fourth(x.Keys.Back, m.pair(m.name(2), other)))
	}
	for _, spis := range [][2]int64{{200, 100}, {100, 201}, {101, 200}, {0, 200}, {100, 0}} {
		wantHearCode(t, fmt.Sprint("for the talk ", spis), impl.ErrNone, m.table, m.gates[1], m.shutMessage(14, spis[0], spis[1], m.seal(x.Keys.Back, inside)))
	}
	wantHearCode(t, "under the name of a third one", impl.ErrNone, m.table, m.gates[1], m.shutMessage(13, 100, 200, m.seal(x.Keys.Back, inside)))
}

func TestATalkWithTheGateItselfIsSharedWithNobody(t *testing.T) {
	// No gate begins so, but such a talk has no fault: what they share tells ErrForm.
	m := meetingOf(t, "with itself", nil, nil)
	f := m.toStage(1, 2, 3)
	x := m.gates[1].Talks[0]
	begun := newTalk(1, 1, 1)
	begun.SpiI, begun.Own, begun.Ni, begun.First = x.SpiI, x.Own, x.Ni, x.First
	wantHearCode(t, "a second message", impl.ErrForm, m.table, gateOf(1, 1, begun), f.second)
	x.Peer = 1
	wantHearCode(t, "a fourth message of 2", impl.ErrKey, m.table, gateOf(1, 1, x), f.fourth)
	own := m.shutMessage(14, 100, 200, m.seal(x.Keys.Back, m.pair(m.name(1), m.name(0))))
	wantHearCode(t, "a fourth message of itself", impl.ErrForm, m.table, gateOf(1, 1, x), own)
	full := behind(m.table, fillers(fullTable-len(m.table))...)
	wantHearCode(t, "a second message, no room", impl.ErrForm, full, gateOf(1, 1, begun), f.second)
}

func TestLoadsAreGotOnceAndForAWhile(t *testing.T) {
	m := meetingOf(t, "loads", nil, nil)
	m.toStage(1, 2, 4)
	x := m.gates[2].Talks[0]
	load := func(n int64) int64 {
		return m.shutMessage(15, 100, 200, m.seal(x.In, m.pair(m.name(n), 3)))
	}
	steps := []struct {
		n    int64
		code int64
	}{
		{5, impl.OK}, {5, impl.ErrTaken}, {3, impl.OK}, {3, impl.ErrTaken}, {0, impl.ErrRange}, {4, impl.OK}, {1, impl.OK}, {36, impl.OK},
		{4, impl.ErrOld}, {2, impl.ErrOld}, {5, impl.ErrTaken}, {6, impl.OK}, {37, impl.OK}, {6, impl.ErrTaken}, {5, impl.ErrOld}, {9998, impl.OK},
		{9967, impl.OK}, {9966, impl.ErrOld}, {9999, impl.OK}, {9999, impl.ErrTaken}, {9967, impl.ErrOld}, {9968, impl.OK}, {0, impl.ErrRange},
	}
	for i, step := range steps {
		before := m.gates[2].Talks[0].Got
		got := m.hear(2, load(step.n))
		if got.Code != step.code {
			t.Errorf("load %d, of number %d: code %d, want %d", i, step.n, got.Code, step.code)
		}
		want := wantedTake(before, step.n)
		if step.code != impl.OK {
			wantGate(t, "a load that is not taken", got, gateCode(step.code))
		} else if got.Load != 3 || got.Send != -1 || got.Talk != 0 || got.Gate.Talks[0].Got != want.Window || lasting(got.Gate.Talks[0]) != lasting(x) {
			t.Errorf("load %d, of number %d: %v", i, step.n, got)
		}
	}
	// A window that is far ahead: no name is a number that is not too late.
	g := m.gates[2]
	g.Talks = slices.Clone(g.Talks)
	g.Talks[0].Got = window(greatestSeq, 1)
	for _, n := range []int64{1, 9999} {
		wantHearCode(t, "far ahead", impl.ErrOld, m.table, g, load(n))
	}
}

func TestWhatIsALoad(t *testing.T) {
	m := meetingOf(t, "a load", nil, nil)
	m.toStage(1, 2, 4)
	x := m.gates[2].Talks[0]
	others := m.ofEachKind()
	for op, at := range others {
		got := wantHeard(t, "any load", m.table, m.gates[2], m.shutMessage(15, 100, 200, m.seal(x.In, m.pair(m.name(1), at))))
		if got.Code != impl.ErrRange && got.Code != impl.OK || got.Code == impl.OK && got.Load != at {
			t.Errorf("a load of Op %d: %v", op, got)
		}
		message := m.shutMessage(15, 100, 200, m.seal(x.In, m.pair(m.name(1), at)))
		if got := wantHeard(t, "any load", m.table, m.gates[2], message); got.Code != impl.OK || got.Load != at {
			t.Errorf("a load of Op %d: %v", op, got)
		}
		wantHearCode(t, fmt.Sprint("no seal but Op ", op), impl.ErrNone, m.table, m.gates[2], m.shutMessage(15, 100, 200, at))
		if op != 3 {
			wantHearCode(t, fmt.Sprint("no pair but Op ", op), impl.ErrForm, m.table, m.gates[2], m.shutMessage(15, 100, 200, m.seal(x.In, at)))
		}
		if op != 1 {
			wantHearCode(t, fmt.Sprint("no number but Op ", op), impl.ErrForm, m.table, m.gates[2], m.shutMessage(15, 100, 200, m.seal(x.In, m.pair(at, m.name(1)))))
		}
	}
	inside := m.pair(m.name(1), 3)
	for what, key := range map[string]int64{"out": x.Out, "down": x.Keys.Down, "ours": x.Keys.Ours, "back": x.Keys.Back, "a name": m.name(1)} {
		wantHearCode(t, "sealed with another key, "+what, impl.ErrNone, m.table, m.gates[2], m.shutMessage(15, 100, 200, m.seal(key, inside)))
	}
	wantHearCode(t, "a prf in place of a seal", impl.ErrNone, m.table, m.gates[2], m.shutMessage(15, 100, 200, m.put(prfTerm(x.In, inside))))
	wantHearCode(t, "not sealed", impl.ErrNone, m.table, m.gates[2], m.shutMessage(15, 100, 200, inside))
	wantHearCode(t, "the key sealed with the load", impl.ErrNone, m.table, m.gates[2], m.shutMessage(15, 100, 200, m.seal(inside, x.In)))
	for _, spis := range [][2]int64{{200, 100}, {100, 201}, {101, 200}, {0, 200}, {100, 0}} {
		wantHearCode(t, fmt.Sprint("for the talk ", spis), impl.ErrNone, m.table, m.gates[2], m.shutMessage(15, spis[0], spis[1], m.seal(x.In, inside)))
	}
}

func TestALoadForAnotherTalk(t *testing.T) {
	m := meetingOf(t, "two talks", nil, nil)
	one := m.toStage(1, 2, 4)
	other := m.toStage(1, 2, 4)
	for turn, f := range []four{other, one, one, other} {
		sent := m.must(m.send(1, f.at, int64(turn)))
		got := m.must(m.hear(2, sent.Send))
		if got.Talk != f.there || got.Load != int64(turn) {
			t.Errorf("a load of talk %d came to %d: %v", f.at, got.Talk, got)
		}
	}
	// One that is sealed for the first talk, with the numbers of the second one.
	x, y := m.gates[2].Talks[one.there], m.gates[2].Talks[other.there]
	wrong := m.shutMessage(15, y.SpiI, y.SpiR, m.seal(x.In, m.pair(m.name(9), 3)))
	wantHearCode(t, "sealed for another talk", impl.ErrNone, m.table, m.gates[2], wrong)
	// Both have the numbers of one: it is the key that tells them apart.
	g := m.gates[2]
	g.Talks = slices.Clone(g.Talks)
	g.Talks[one.there].SpiI, g.Talks[one.there].SpiR = y.SpiI, y.SpiR
	if got := wantHeard(t, "by its key", m.table, g, wrong); got.Code != impl.OK || got.Talk != one.there {
		t.Errorf("by its key: %v", got)
	}
	right := m.shutMessage(15, y.SpiI, y.SpiR, m.seal(y.In, m.pair(m.name(9), 3)))
	if got := wantHeard(t, "by its key", m.table, g, right); got.Code != impl.OK || got.Talk != other.there {
		t.Errorf("by its key: %v", got)
	}
	for _, x := range []impl.Talk{newTalk(2, 1, 1), y} {
		// Ahead of the end there are no keys of loads.
		x.Stage = min(x.Stage, 2)
		if x.Stage == 2 {
			x.Peer, x.In, x.Out, x.Sent, x.Got = 0, -1, -1, 0, impl.Window{}
		} else {
			x.SpiI, x.SpiR, x.Own, x.Ni, x.First = y.SpiI, y.SpiR, y.Own, y.Nr, y.First
		}
		wantHearCode(t, "ahead of the end", impl.ErrNone, m.table, gateOf(2, 1, x), right)
	}
}

func TestRoomForWhatAGateHears(t *testing.T) {
	wants := map[int64]int{11: 22, 12: 13, 13: 20, 14: 0, 15: 0}
	for kind := int64(11); kind <= 15; kind++ {
		m, hearer, at := readyFor(t, kind)
		roomForGate(t, m.what, m.table, wants[kind], func(what string, table []impl.Term) impl.GateResult {
			return wantHeard(t, what, table, m.gates[hearer], at)
		})
	}
}

func TestRoomForAProofThatIsWrong(t *testing.T) {
	for kind := int64(13); kind <= 14; kind++ {
		m, hearer, _ := readyFor(t, kind)
		x := m.gates[hearer].Talks[0]
		key, id := x.Keys.Ours, int64(5)
		if kind == 14 {
			key, id = x.Keys.Back, 2
			// The talk has another second message, so that no proof of it is there.
			m.gates[hearer].Talks[0].Second = x.First
		}
		wrong := m.shutMessage(kind, 100, 200, m.seal(key, m.pair(m.name(id), m.name(0))))
		wants := map[int64]int64{13: 6, 14: 2}[kind]
		for room := range int64(10) {
			given := behind(m.table, fillers(fullTable-len(m.table)-int(room))...)
			code := int64(impl.ErrMany)
			// The proof that it is held against is put as any other.
			if room >= wants {
				code = impl.ErrKey
			}
			wantHearCode(t, fmt.Sprint(m.what, ", a wrong proof, room for ", room), code, given, m.gates[hearer], wrong)
		}
	}
}

// someMessage is most often one that was said, now and then one that somebody might have changed.
func (m *meeting) someMessage(r *rand.Rand, said []int64) int64 {
	at := r.Int63n(int64(len(m.table)))
	if len(said) > 0 && r.Intn(10) > 0 {
		at = said[len(said)-1-r.Intn(min(len(said), 5))]
	}
	kind := impl.KindOf(m.table, at)
	if kind.Code != impl.OK || r.Intn(5) > 0 || len(m.table) > 380 {
		return at
	}
	words, right := wordsHeard(m.table, at, kind.Value)
	if !right {
		return at
	}
	last := len(words) - 1
	switch r.Intn(4) {
	case 0:
		words[r.Intn(len(words))] = r.Int63n(int64(len(m.table)))
	case 1:
		kind.Value = 11 + r.Int63n(5)
	case 2:
		words[0] = m.name(m.table[words[0]].N + 1)
	case 3:
		if seal := m.table[words[last]]; seal.Op == 5 && m.table[seal.B].Op == 3 {
			words[last] = m.seal(seal.A, m.pair(m.name(r.Int63n(4)), m.table[seal.B].B))
		}
	}
	return m.list(kind.Value, words...)
}

// someTurn lets some gate do something, and tells what became of it.
func (m *meeting) someTurn(r *rand.Rand, gates int64, said []int64, heard func(at int64, code int64)) impl.GateResult {
	m.t.Helper()
	id := 1 + r.Int63n(gates)
	done := impl.DoneTalks(m.gates[id]).List
	switch turn := r.Intn(16); {
	case len(said) == 0 || turn == 0:
		return m.begin(id, 1+r.Int63n(gates))
	case turn < 4 && len(done) > 0:
		return m.send(id, done[r.Intn(len(done))], r.Int63n(int64(len(m.table))))
	case turn == 4:
		return m.send(id, r.Int63n(4), r.Int63n(int64(len(m.table))+1))
	}
	at := m.someMessage(r, said)
	got := m.hear(id, at)
	heard(at, got.Code)
	return got
}

func TestWhateverAGateHearsItHasNoFault(t *testing.T) {
	r := rand.New(rand.NewSource(111))
	codes := map[int64]map[int64]int{}
	done := 0
	for turn := range 250 {
		counts := map[int64]int64{}
		if turn%5 == 0 {
			counts[1+r.Int63n(3)] = 86 + r.Int63n(5)
		}
		m := meetingOf(t, fmt.Sprint("turn ", turn), fillers(r.Intn(120)*(turn%3)), counts)
		var said []int64
		for range 70 {
			got := m.someTurn(r, int64(2+turn%2), said, func(at int64, code int64) {
				kind := impl.KindOf(m.table, at).Value
				if codes[kind] == nil {
					codes[kind] = map[int64]int{}
				}
				codes[kind][code]++
			})
			if got.Code == impl.OK && got.Send >= 0 {
				said = append(said, got.Send)
			}
		}
		for _, g := range m.gates {
			done += len(impl.DoneTalks(g).List)
		}
	}
	wants := map[int64][]int64{
		11: {impl.OK, impl.ErrForm, impl.ErrMany}, 12: {impl.OK, impl.ErrForm, impl.ErrNone, impl.ErrMany}, 13: {impl.OK, impl.ErrForm, impl.ErrNone, impl.ErrKey, impl.ErrMany},
		14: {impl.OK, impl.ErrForm, impl.ErrNone, impl.ErrKey}, 15: {impl.OK, impl.ErrForm, impl.ErrNone, impl.ErrTaken},
	}
	for kind, list := range wants {
		for _, code := range list {
			if codes[kind][code] == 0 {
				t.Error("of kind", kind, "told never", code, codes[kind])
			}
		}
	}
	if done < 100 {
		t.Error("talks that were done:", done)
	}
}
