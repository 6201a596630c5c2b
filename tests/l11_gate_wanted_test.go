package tests

import (
	"slices"
	"testing"

	"loop.example/g00205/impl"
)

// talkNumbers names every number of a talk that is no place, with its bounds.
var talkNumbers = []struct {
	name     string
	least    int64
	greatest int64
	of       func(x *impl.Talk) *int64
}{
	{"Peer", 0, 9, func(x *impl.Talk) *int64 { return &x.Peer }},
	{"Role", 1, 2, func(x *impl.Talk) *int64 { return &x.Role }},
	{"Stage", 1, 3, func(x *impl.Talk) *int64 { return &x.Stage }},
	{"SpiI", 0, 9999, func(x *impl.Talk) *int64 { return &x.SpiI }},
	{"SpiR", 0, 9999, func(x *impl.Talk) *int64 { return &x.SpiR }},
	{"Sent", 0, 9999, func(x *impl.Talk) *int64 { return &x.Sent }},
}

// talkPlaces names every place of a talk, with the stage from which on it is known.
var talkPlaces = []struct {
	name  string
	stage int64
	of    func(x *impl.Talk) *int64
}{
	{"Ni", 1, func(x *impl.Talk) *int64 { return &x.Ni }},
	{"Own", 1, func(x *impl.Talk) *int64 { return &x.Own }},
	{"First", 1, func(x *impl.Talk) *int64 { return &x.First }},
	{"Nr", 2, func(x *impl.Talk) *int64 { return &x.Nr }},
	{"Half", 2, func(x *impl.Talk) *int64 { return &x.Half }},
	{"Second", 2, func(x *impl.Talk) *int64 { return &x.Second }},
	{"Seed", 2, func(x *impl.Talk) *int64 { return &x.Keys.Seed }},
	{"Down", 2, func(x *impl.Talk) *int64 { return &x.Keys.Down }},
	{"Ours", 2, func(x *impl.Talk) *int64 { return &x.Keys.Ours }},
	{"Back", 2, func(x *impl.Talk) *int64 { return &x.Keys.Back }},
	{"In", 3, func(x *impl.Talk) *int64 { return &x.In }},
	{"Out", 3, func(x *impl.Talk) *int64 { return &x.Out }},
}

func wantedTalkFault(table []impl.Term, x impl.Talk) int64 {
	for _, number := range talkNumbers {
		if n := *number.of(&x); n < number.least || n > number.greatest {
			return impl.ErrRange
		}
	}
	if code := wantedWindowFault(x.Got); code != impl.OK {
		return code
	}
	switch {
	case x.Role == 2 && x.Stage == 1:
		return impl.ErrForm
	case x.Peer == 0 && (x.Role == 1 || x.Stage == 3):
		return impl.ErrForm
	case x.Peer != 0 && x.Role == 2 && x.Stage != 3:
		return impl.ErrForm
	case x.Stage != 3 && (x.Sent != 0 || len(takenIn(x.Got)) > 0):
		return impl.ErrForm
	}
	for _, place := range talkPlaces {
		at := *place.of(&x)
		if x.Stage < place.stage && at != -1 || x.Stage >= place.stage && (at < 0 || at >= int64(len(table))) {
			return impl.ErrRange
		}
	}
	if table[x.Own].Op != 2 || x.Stage > 1 && table[x.Half].Op != 6 {
		return impl.ErrForm
	}
	return impl.OK
}

func wantedGateFault(table []impl.Term, g impl.Gate) int64 {
	if code := wantedTermsFault(table); code != impl.OK {
		return code
	}
	if g.Id < 1 || g.Id > 9 || g.Count < 0 || g.Count > 90 {
		return impl.ErrRange
	}
	if len(g.Talks) > 12 {
		return impl.ErrMany
	}
	for _, x := range g.Talks {
		if code := wantedTalkFault(table, x); code != impl.OK {
			return code
		}
	}
	return impl.OK
}

func gateCode(code int64) impl.GateResult {
	return impl.GateResult{Code: code}
}

func wantedNewGate(id int64) impl.GateResult {
	if id < 1 || id > 9 {
		return gateCode(impl.ErrRange)
	}
	return impl.GateResult{Gate: impl.Gate{Id: id}}
}

// sharedNumber is that of the secret of two gates: a digit for each, the lesser one first.
func sharedNumber(a int64, b int64) int64 {
	if a > b {
		a, b = b, a
	}
	return 9000 + 10*a + b
}

func wantedShared(table []impl.Term, a int64, b int64) impl.TermResult {
	if code := wantedTermsFault(table); code != impl.OK {
		return impl.TermResult{Code: code}
	}
	if a < 1 || a > 9 || b < 1 || b > 9 {
		return impl.TermResult{Code: impl.ErrRange}
	}
	if a == b {
		return impl.TermResult{Code: impl.ErrForm}
	}
	return wantedPut(table, freshTerm(sharedNumber(a, b)))
}

func wantedDone(g impl.Gate) []int64 {
	var done []int64
	for at := range int64(len(g.Talks)) {
		if g.Talks[at].Stage == 3 {
			done = append(done, at)
		}
	}
	return done
}

func wantedKind(table []impl.Term, at int64) impl.IntResult {
	if code := wantedPlaceFault(table, at); code != impl.OK {
		return impl.IntResult{Code: code}
	}
	for kind := int64(11); kind <= 15; kind++ {
		if table[at].Op == 3 && table[table[at].A] == nameTerm(kind) {
			return impl.IntResult{Value: kind}
		}
	}
	return impl.IntResult{Code: impl.ErrForm}
}

// player does what a gate does, by the words, and puts terms as the scribe does.
type player struct {
	scribe
	gate impl.Gate
}

func playerOf(table []impl.Term, g impl.Gate) *player {
	p := &player{gate: g}
	p.table = slices.Clone(table)
	p.gate.Talks = slices.Clone(g.Talks)
	return p
}

func (p *player) told(talk int64, send int64, load int64) impl.GateResult {
	if p.code != impl.OK {
		return gateCode(p.code)
	}
	return impl.GateResult{Talk: talk, Send: send, Load: load, Gate: p.gate, Table: p.table}
}

// newTalk is one of which only the peer, the role and the stage are told.
func newTalk(peer int64, role int64, stage int64) impl.Talk {
	x := impl.Talk{Peer: peer, Role: role, Stage: stage}
	for _, place := range talkPlaces {
		*place.of(&x) = -1
	}
	return x
}

func (p *player) more(x impl.Talk) int64 {
	p.gate.Count++
	p.gate.Talks = append(p.gate.Talks, x)
	return int64(len(p.gate.Talks)) - 1
}

func wantedBegin(table []impl.Term, g impl.Gate, peer int64) impl.GateResult {
	code := wantedGateFault(table, g)
	switch {
	case code != impl.OK:
		return gateCode(code)
	case peer < 1 || peer > 9:
		return gateCode(impl.ErrRange)
	case peer == g.Id:
		return gateCode(impl.ErrForm)
	case len(g.Talks) == 12 || g.Count == 90:
		return gateCode(impl.ErrMany)
	}
	p, x := playerOf(table, g), newTalk(peer, 1, 1)
	x.SpiI = 100*g.Id + g.Count
	kind := p.put(nameTerm(11))
	spi := p.put(nameTerm(x.SpiI))
	x.Own = p.put(freshTerm(500*g.Id + 2*g.Count))
	half := p.put(halfTerm(x.Own))
	x.Ni = p.put(freshTerm(500*g.Id + 2*g.Count + 1))
	x.First = p.pairs(kind, spi, half, x.Ni)
	return p.told(p.more(x), x.First, -1)
}

// wordsAsked are the kinds of the terms behind the name of each message; 0 is any one.
var wordsAsked = map[int64][]int64{11: {1, 6, 0}, 12: {1, 1, 6, 0}, 13: {1, 1, 0}, 14: {1, 1, 0}, 15: {1, 1, 0}}

func wordsHeard(table []impl.Term, at int64, kind int64) ([]int64, bool) {
	ops := wordsAsked[kind]
	words, rest := []int64{}, table[at].B
	for len(words) < len(ops)-1 {
		if table[rest].Op != 3 {
			return nil, false
		}
		words, rest = append(words, table[rest].A), table[rest].B
	}
	words = append(words, rest)
	for i, op := range ops {
		if op != 0 && table[words[i]].Op != op {
			return nil, false
		}
	}
	return words, true
}

func wantedHear(table []impl.Term, g impl.Gate, at int64) impl.GateResult {
	if code := wantedGateFault(table, g); code != impl.OK {
		return gateCode(code)
	}
	kind := wantedKind(table, at)
	if kind.Code != impl.OK {
		return gateCode(kind.Code)
	}
	words, right := wordsHeard(table, at, kind.Value)
	if !right {
		return gateCode(impl.ErrForm)
	}
	p := playerOf(table, g)
	if kind.Value == 11 {
		return p.first(at, words)
	}
	spiI, spiR, last := table[words[0]].N, table[words[1]].N, table[words[len(words)-1]]
	for i, x := range p.gate.Talks {
		switch {
		case kind.Value == 12 && x.Role == 1 && x.Stage == 1 && x.SpiI == spiI:
			return p.second(int64(i), at, words)
		case kind.Value == 13 && x.Role == 2 && x.Stage == 2 && x.SpiI == spiI && x.SpiR == spiR:
			return p.third(int64(i), last)
		case kind.Value == 14 && x.Role == 1 && x.Stage == 2 && x.SpiI == spiI && x.SpiR == spiR:
			return p.fourth(int64(i), last)
		case kind.Value == 15 && x.Stage == 3 && x.SpiI == spiI && x.SpiR == spiR && last.Op == 5 && last.A == x.In:
			return p.loaded(int64(i), last)
		}
	}
	return gateCode(impl.ErrNone)
}

func (p *player) keysOf(x *impl.Talk) {
	told := makeKeysCall.wanted(&p.scribe, []int64{x.Ni, x.Nr, x.Own, x.Half, x.SpiI, x.SpiR})
	if p.code == impl.OK {
		x.Keys = impl.Keys{Seed: told[0], Down: told[1], Ours: told[2], Back: told[3]}
	}
}

// proofBy is the proof by which a gate shows to be there: the first one began the talk.
func (p *player) proofBy(x *impl.Talk, first bool, shared int64, id int64) int64 {
	if first {
		return makeProofCall.wanted(&p.scribe, []int64{shared, x.First, x.Nr, x.Keys.Ours, id})[0]
	}
	return makeProofCall.wanted(&p.scribe, []int64{shared, x.Second, x.Ni, x.Keys.Back, id})[0]
}

func (p *player) sharedWith(peer int64) int64 {
	if p.refuse(peer == p.gate.Id, impl.ErrForm) {
		return 0
	}
	return p.put(freshTerm(sharedNumber(p.gate.Id, peer)))
}

// sealed is a seal of a pair of a name, put here, and of what is put by then.
func (p *player) sealed(key int64, n int64, then func() int64) int64 {
	name := p.put(nameTerm(n))
	something := then()
	return p.put(sealTerm(key, p.put(pairTerm(name, something))))
}

func (p *player) threeNames(kind int64, x impl.Talk) []int64 {
	return []int64{p.put(nameTerm(kind)), p.put(nameTerm(x.SpiI)), p.put(nameTerm(x.SpiR))}
}

func (p *player) first(at int64, words []int64) impl.GateResult {
	if len(p.gate.Talks) >= 12 || p.gate.Count >= 90 {
		return gateCode(impl.ErrMany)
	}
	id, c := p.gate.Id, p.gate.Count
	x := newTalk(0, 2, 2)
	x.SpiI, x.SpiR, x.Half, x.Ni, x.First = p.table[words[0]].N, 100*id+c, words[1], words[2], at
	x.Own = p.put(freshTerm(500*id + 2*c))
	x.Nr = p.put(freshTerm(500*id + 2*c + 1))
	if p.code == impl.OK {
		p.keysOf(&x)
	}
	list := p.threeNames(12, x)
	list = append(list, p.put(halfTerm(x.Own)), x.Nr)
	x.Second = p.pairs(list...)
	return p.told(p.more(x), x.Second, -1)
}

func (p *player) second(i int64, at int64, words []int64) impl.GateResult {
	x := &p.gate.Talks[i]
	x.SpiR, x.Half, x.Nr, x.Second, x.Stage = p.table[words[1]].N, words[2], words[3], at, 2
	p.keysOf(x)
	shared := p.sharedWith(x.Peer)
	proof := p.proofBy(x, true, shared, p.gate.Id)
	list := p.threeNames(13, *x)
	list = append(list, p.sealed(x.Keys.Ours, p.gate.Id, func() int64 { return proof }))
	return p.told(i, p.pairs(list...), -1)
}

// inside is what a seal has in it: a name's number and something, if it is a pair of these.
func (p *player) inside(seal impl.Term) (int64, int64, bool) {
	pair := p.table[seal.B]
	if pair.Op != 3 || p.table[pair.A].Op != 1 {
		return 0, 0, false
	}
	return p.table[pair.A].N, pair.B, true
}

func (p *player) third(i int64, last impl.Term) impl.GateResult {
	x := &p.gate.Talks[i]
	if last.Op != 5 || last.A != x.Keys.Ours {
		return gateCode(impl.ErrKey)
	}
	n, something, right := p.inside(last)
	if !right || n < 1 || n > 9 || n == p.gate.Id {
		return gateCode(impl.ErrForm)
	}
	shared := p.sharedWith(n)
	if p.refuse(something != p.proofBy(x, true, shared, n), impl.ErrKey) {
		return gateCode(p.code)
	}
	x.Peer, x.Stage = n, 3
	child := makeChildCall.wanted(&p.scribe, []int64{x.Keys.Down, x.Ni, x.Nr, x.SpiI, x.SpiR})
	x.In, x.Out = child[0], child[1]
	list := p.threeNames(14, *x)
	list = append(list, p.sealed(x.Keys.Back, p.gate.Id, func() int64 { return p.proofBy(x, false, shared, p.gate.Id) }))
	return p.told(i, p.pairs(list...), -1)
}

func (p *player) fourth(i int64, last impl.Term) impl.GateResult {
	x := &p.gate.Talks[i]
	if last.Op != 5 || last.A != x.Keys.Back {
		return gateCode(impl.ErrKey)
	}
	n, something, right := p.inside(last)
	if !right {
		return gateCode(impl.ErrForm)
	}
	if n != x.Peer {
		return gateCode(impl.ErrKey)
	}
	shared := p.sharedWith(n)
	if p.refuse(something != p.proofBy(x, false, shared, n), impl.ErrKey) {
		return gateCode(p.code)
	}
	x.Stage = 3
	child := makeChildCall.wanted(&p.scribe, []int64{x.Keys.Down, x.Ni, x.Nr, x.SpiI, x.SpiR})
	x.In, x.Out = child[1], child[0]
	return p.told(i, -1, -1)
}

func (p *player) loaded(i int64, last impl.Term) impl.GateResult {
	x := &p.gate.Talks[i]
	n, something, right := p.inside(last)
	if !right {
		return gateCode(impl.ErrForm)
	}
	took := wantedTake(x.Got, n)
	if took.Code != impl.OK {
		return gateCode(took.Code)
	}
	x.Got = took.Window
	return p.told(i, -1, something)
}

func wantedSend(table []impl.Term, g impl.Gate, talk int64, load int64) impl.GateResult {
	code := wantedGateFault(table, g)
	switch {
	case code != impl.OK:
		return gateCode(code)
	case talk < 0 || talk >= int64(len(g.Talks)) || load < 0 || load >= int64(len(table)):
		return gateCode(impl.ErrRange)
	case g.Talks[talk].Stage != 3:
		return gateCode(impl.ErrBusy)
	case g.Talks[talk].Sent == 9999:
		return gateCode(impl.ErrMany)
	}
	p := playerOf(table, g)
	x := &p.gate.Talks[talk]
	x.Sent++
	list := p.threeNames(15, *x)
	list = append(list, p.sealed(x.Out, x.Sent, func() int64 { return load }))
	return p.told(talk, p.pairs(list...), -1)
}

// wantGate fails the test unless got is want; no list and an empty one are the same.
func wantGate(t *testing.T, what string, got impl.GateResult, want impl.GateResult) {
	t.Helper()
	if got.Code != want.Code || got.Talk != want.Talk || got.Send != want.Send || got.Load != want.Load {
		t.Errorf("%s: code %d, talk %d, send %d, load %d, want code %d, talk %d, send %d, load %d", what,
			got.Code, got.Talk, got.Send, got.Load, want.Code, want.Talk, want.Send, want.Load)
	}
	if got.Gate.Id != want.Gate.Id || got.Gate.Count != want.Gate.Count || !slices.Equal(got.Gate.Talks, want.Gate.Talks) {
		t.Errorf("%s: gate %v, want %v", what, got.Gate, want.Gate)
	}
	if !slices.Equal(got.Table, want.Table) {
		t.Errorf("%s: %d terms, want %d: %v, want %v", what, len(got.Table), len(want.Table), got.Table, want.Table)
	}
}

// lasting is what of a done talk never changes.
func lasting(x impl.Talk) impl.Talk {
	x.Sent, x.Got = 0, impl.Window{}
	return x
}

// wantSound fails the test unless the gate behind a call has no fault, and talks that were done stay so.
func wantSound(t *testing.T, what string, table []impl.Term, g impl.Gate, got impl.GateResult) {
	t.Helper()
	if got.Code != impl.OK {
		return
	}
	if fault := impl.GateFault(got.Table, got.Gate); fault != impl.OK {
		t.Errorf("%s: fault %d behind it: %v", what, fault, got.Gate)
	}
	if len(got.Table) < len(table) || !slices.Equal(got.Table[:len(table)], table) {
		t.Errorf("%s: the terms that were there are others", what)
	}
	if len(got.Gate.Talks) < len(g.Talks) || got.Gate.Id != g.Id {
		t.Fatalf("%s: gate %v became %v", what, g, got.Gate)
	}
	for i, x := range g.Talks {
		if x.Stage == 3 && lasting(got.Gate.Talks[i]) != lasting(x) {
			t.Errorf("%s: a talk that was done became another: %v, was %v", what, got.Gate.Talks[i], x)
		}
	}
}

func wantBegun(t *testing.T, what string, table []impl.Term, g impl.Gate, peer int64) impl.GateResult {
	t.Helper()
	got := impl.BeginTalk(table, g, peer)
	wantGate(t, what+", begun", got, wantedBegin(table, g, peer))
	wantSound(t, what+", begun", table, g, got)
	return got
}

func wantHeard(t *testing.T, what string, table []impl.Term, g impl.Gate, at int64) impl.GateResult {
	t.Helper()
	got := impl.HearTerm(table, g, at)
	wantGate(t, what+", heard", got, wantedHear(table, g, at))
	wantSound(t, what+", heard", table, g, got)
	return got
}

func wantSent(t *testing.T, what string, table []impl.Term, g impl.Gate, talk int64, load int64) impl.GateResult {
	t.Helper()
	got := impl.SendLoad(table, g, talk, load)
	wantGate(t, what+", sent", got, wantedSend(table, g, talk, load))
	wantSound(t, what+", sent", table, g, got)
	return got
}

// wantHearCode fails the test unless the gate tells the code, and nothing beside it.
func wantHearCode(t *testing.T, what string, code int64, table []impl.Term, g impl.Gate, at int64) {
	t.Helper()
	wantGate(t, what, impl.HearTerm(table, g, at), gateCode(code))
	wantHeard(t, what+", as the document says", table, g, at)
}

// meeting is some gates, by their Ids, and the table of all that they say.
type meeting struct {
	t     *testing.T
	what  string
	table []impl.Term
	gates [10]impl.Gate
}

func meetingOf(t *testing.T, what string, table []impl.Term, counts map[int64]int64) *meeting {
	m := &meeting{t: t, what: what, table: table}
	for id := int64(1); id <= 9; id++ {
		m.gates[id] = impl.Gate{Id: id, Count: counts[id]}
	}
	return m
}

// keep takes over what became of the gate, if it told no code.
func (m *meeting) keep(got impl.GateResult) impl.GateResult {
	if got.Code == impl.OK {
		m.table, m.gates[got.Gate.Id] = got.Table, got.Gate
	}
	return got
}

func (m *meeting) begin(id int64, peer int64) impl.GateResult {
	m.t.Helper()
	return m.keep(wantBegun(m.t, m.what, m.table, m.gates[id], peer))
}

func (m *meeting) hear(id int64, at int64) impl.GateResult {
	m.t.Helper()
	return m.keep(wantHeard(m.t, m.what, m.table, m.gates[id], at))
}

func (m *meeting) send(id int64, talk int64, load int64) impl.GateResult {
	m.t.Helper()
	return m.keep(wantSent(m.t, m.what, m.table, m.gates[id], talk, load))
}

// must fails the test at once, if there is a code.
func (m *meeting) must(got impl.GateResult) impl.GateResult {
	m.t.Helper()
	if got.Code != impl.OK {
		m.t.Fatal(m.what, "code", got.Code)
	}
	return got
}

// put is the place of the term.
func (m *meeting) put(x impl.Term) int64 {
	m.t.Helper()
	got := impl.PutTerm(m.table, x)
	if got.Code != impl.OK {
		m.t.Fatal(m.what, "no term:", x, "code", got.Code)
	}
	m.table = got.Table
	return got.At
}

func (m *meeting) name(n int64) int64 {
	m.t.Helper()
	return m.put(nameTerm(n))
}

func (m *meeting) pair(a int64, b int64) int64 {
	m.t.Helper()
	return m.put(pairTerm(a, b))
}

func (m *meeting) seal(key int64, b int64) int64 {
	m.t.Helper()
	return m.put(sealTerm(key, b))
}

// list is a message of these places, behind a name.
func (m *meeting) list(kind int64, places ...int64) int64 {
	m.t.Helper()
	got := impl.PutList(m.table, append([]int64{m.name(kind)}, places...))
	if got.Code != impl.OK {
		m.t.Fatal(m.what, "no list: code", got.Code)
	}
	m.table = got.Table
	return got.At
}

func (m *meeting) proof(shared int64, first int64, nonce int64, key int64, id int64) int64 {
	m.t.Helper()
	got := impl.MakeProof(m.table, shared, first, nonce, key, id)
	if got.Code != impl.OK {
		m.t.Fatal(m.what, "no proof: code", got.Code)
	}
	m.table = got.Table
	return got.At
}

func (m *meeting) shared(a int64, b int64) int64 {
	m.t.Helper()
	got := impl.SharedOf(m.table, a, b)
	if got.Code != impl.OK {
		m.t.Fatal(m.what, "nothing shared: code", got.Code)
	}
	m.table = got.Table
	return got.At
}

func (m *meeting) text(at int64) string {
	m.t.Helper()
	got := impl.TermText(m.table, at)
	if got.Code != impl.OK {
		m.t.Error(m.what, "no text: code", got.Code)
	}
	return got.Text
}

// four are the messages of a talk, and the places of the talk at both gates.
type four struct {
	first, second, third, fourth int64
	at, there                    int64
}

// toStage lets one gate begin with another, as far as n messages go that are heard.
func (m *meeting) toStage(one int64, other int64, n int) four {
	m.t.Helper()
	begun := m.must(m.begin(one, other))
	f := four{first: begun.Send, at: begun.Talk}
	if n > 0 {
		got := m.must(m.hear(other, f.first))
		f.second, f.there = got.Send, got.Talk
	}
	if n > 1 {
		f.third = m.must(m.hear(one, f.second)).Send
	}
	if n > 2 {
		f.fourth = m.must(m.hear(other, f.third)).Send
	}
	if n > 3 {
		m.must(m.hear(one, f.fourth))
	}
	return f
}
