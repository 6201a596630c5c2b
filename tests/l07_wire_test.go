package tests

import (
	"bytes"
	"encoding/binary"
	"encoding/hex"
	"fmt"
	"math"
	"math/rand"
	"slices"
	"testing"

	"loop.example/g00205/impl"
)

// farPlaces are none of any table.
var farPlaces = []int64{math.MinInt64, math.MinInt64 + 1, -1 << 32, -1, 400, 401, 1 << 32, 1<<32 + 1, math.MaxInt64 - 1, math.MaxInt64}

// wireTree is a term by itself, with its parts in place of their places.
type wireTree struct {
	op    int64
	n     int64
	parts []wireTree
}

func nameTree(n int64) wireTree {
	return wireTree{op: 1, n: n}
}

func freshTree(n int64) wireTree {
	return wireTree{op: 2, n: n}
}

func madeTree(op int64, parts ...wireTree) wireTree {
	return wireTree{op: op, parts: parts}
}

func (x wireTree) wire() []byte {
	if x.op <= 2 {
		return []byte{byte(x.op), byte(x.n >> 8), byte(x.n)}
	}
	data := []byte{byte(x.op)}
	for _, part := range x.parts {
		data = append(data, part.wire()...)
	}
	return data
}

func (x wireTree) depth() int {
	deepest := 0
	for _, part := range x.parts {
		deepest = max(deepest, part.depth())
	}
	return deepest + 1
}

func (x wireTree) size() int {
	size := 1
	for _, part := range x.parts {
		size += part.size()
	}
	return size
}

// putInto goes by the words: the parts ahead, the first one first.
func (x wireTree) putInto(table []impl.Term) impl.TermResult {
	t := impl.Term{Op: x.op, N: x.n}
	for i, part := range x.parts {
		put := part.putInto(table)
		if put.Code != impl.OK {
			return put
		}
		table = put.Table
		*[]*int64{&t.A, &t.B}[i] = put.At
	}
	if t.Op == 7 && t.A > t.B {
		t.A, t.B = t.B, t.A
	}
	if at := slices.Index(table, t); at >= 0 {
		return impl.TermResult{At: int64(at), Table: table}
	}
	if len(table) == fullTable {
		return impl.TermResult{Code: impl.ErrMany}
	}
	return impl.TermResult{At: int64(len(table)), Table: behind(table, t)}
}

// alone is the table that holds the term, its last one, and nothing else.
func (x wireTree) alone() []impl.Term {
	return x.putInto(nil).Table
}

// treeAt is for terms that are not too great to be gone through.
func treeAt(table []impl.Term, at int64) wireTree {
	t := table[at]
	x := wireTree{op: t.Op, n: t.N}
	for _, part := range partsNamed(t) {
		x.parts = append(x.parts, treeAt(table, part))
	}
	if t.Op == 7 && x.parts[0].n > x.parts[1].n {
		slices.Reverse(x.parts)
	}
	return x
}

// parsedTree takes one term off the front of the bytes, however deep and great.
func parsedTree(data []byte) (x wireTree, rest []byte, is bool) {
	if len(data) == 0 {
		return x, nil, false
	}
	x.op, rest = int64(data[0]), data[1:]
	switch x.op {
	case 1, 2:
		if len(rest) < 2 {
			return x, nil, false
		}
		x.n = int64(rest[0])*256 + int64(rest[1])
		return x, rest[2:], x.n <= 9999
	case 3, 4, 5, 6, 7:
	default:
		return x, nil, false
	}
	for range len(fieldsNamed[x.op]) {
		part, left, is := parsedTree(rest)
		if !is || x.op >= 6 && part.op != 2 {
			return x, nil, false
		}
		x.parts, rest = append(x.parts, part), left
	}
	return x, rest, x.op != 7 || x.parts[0].n <= x.parts[1].n
}

func depthsIn(table []impl.Term) []int64 {
	depths := make([]int64, len(table))
	for i, x := range table {
		for _, part := range partsNamed(x) {
			depths[i] = max(depths[i], depths[part])
		}
		depths[i]++
	}
	return depths
}

func wantedDepth(table []impl.Term, at int64) impl.IntResult {
	if code := wantedPlaceFault(table, at); code != impl.OK {
		return impl.IntResult{Code: code}
	}
	return impl.IntResult{Value: depthsIn(table)[at]}
}

func wantedTermBytes(table []impl.Term, at int64) impl.BytesResult {
	if code := wantedPlaceFault(table, at); code != impl.OK {
		return impl.BytesResult{Code: code}
	}
	if depthsIn(table)[at] > 30 || wantedSize(table, at).Value > 200 {
		return impl.BytesResult{Code: impl.ErrMany}
	}
	data := treeAt(table, at).wire()
	if len(data) > 400 {
		return impl.BytesResult{Code: impl.ErrMany}
	}
	return impl.BytesResult{Bytes: data}
}

func wantedDecoded(table []impl.Term, data []byte) impl.TermResult {
	if code := wantedTermsFault(table); code != impl.OK {
		return impl.TermResult{Code: code}
	}
	if len(data) > 400 {
		return impl.TermResult{Code: impl.ErrMany}
	}
	x, rest, is := parsedTree(data)
	if !is || len(rest) > 0 || x.depth() > 30 || x.size() > 200 {
		return impl.TermResult{Code: impl.ErrText}
	}
	return x.putInto(table)
}

// wantOnWire asks what is told of a place of a table, and that it is read back into each of the others.
func wantOnWire(t *testing.T, what string, table []impl.Term, at int64, others ...[]impl.Term) {
	t.Helper()
	if got, want := impl.DepthOf(table, at), wantedDepth(table, at); got != want {
		t.Errorf("%s: depth at %d: %v, want %v", what, at, got, want)
	}
	want := wantedTermBytes(table, at)
	got := impl.EncodeTerm(table, at)
	wantBytes(t, fmt.Sprint(what, ", bytes of ", at), got, want.Code, want.Bytes)
	if got.Code != impl.OK {
		return
	}
	wantTerm(t, fmt.Sprint(what, ", read back at ", at), impl.DecodeTerm(table, got.Bytes), impl.TermResult{At: at, Table: table})
	for _, other := range others {
		wantReadBack(t, what, table, at, got.Bytes, other)
	}
}

// wantReadBack fails the test unless the bytes of the term are read into the other table as the same term.
func wantReadBack(t *testing.T, what string, table []impl.Term, at int64, data []byte, other []impl.Term) {
	t.Helper()
	read := impl.DecodeTerm(other, data)
	wantTerm(t, fmt.Sprint(what, ", read back from ", at), read, wantedDecoded(other, data))
	if read.Code != impl.OK {
		return
	}
	if !impl.SameTerms(table, at, read.Table, read.At) || impl.TermsFault(read.Table) != impl.OK || !slices.Equal(read.Table[:len(other)], other) {
		t.Errorf("%s: another term than that at %d: %v", what, at, read)
	}
	wantBytes(t, what+", written again", impl.EncodeTerm(read.Table, read.At), impl.OK, data)
}

// wantRead fails the test unless the bytes are read into the table as the document says, and whatever is read
// is written as the same bytes.
func wantRead(t *testing.T, what string, table []impl.Term, data []byte) impl.TermResult {
	t.Helper()
	got := impl.DecodeTerm(table, data)
	wantTerm(t, fmt.Sprintf("%s, %x read", what, data), got, wantedDecoded(table, data))
	if got.Code == impl.OK {
		wantBytes(t, what+", written again", impl.EncodeTerm(got.Table, got.At), impl.OK, data)
	}
	return got
}

// wantAllWireCodes fails the test unless every function that is given a table tells the code, and nothing beside it.
func wantAllWireCodes(t *testing.T, what string, table []impl.Term, code int64) {
	t.Helper()
	last := int64(len(table)) - 1
	for _, at := range append([]int64{0, 1, last - 1, last, last + 1}, farPlaces...) {
		if got := impl.DepthOf(table, at); got != (impl.IntResult{Code: code}) {
			t.Errorf("%s: depth %v, want code %d", what, got, code)
		}
		wantBytes(t, what+", bytes", impl.EncodeTerm(table, at), code, nil)
	}
	for _, data := range [][]byte{nil, {}, {0}, {1}, {1, 0, 7}, {2, 0, 1}, {6, 2, 0, 1}, {6, 1, 0, 1}, {8, 0, 0}, {1, 39, 16}, filled(400, 3), filled(401, 3), filled(401, 0), filled(5000, 1)} {
		wantTerm(t, what+", read", impl.DecodeTerm(table, data), impl.TermResult{Code: code})
	}
}

func fromHex(t *testing.T, text string) []byte {
	t.Helper()
	data, err := hex.DecodeString(text)
	if err != nil {
		t.Fatal(err)
	}
	return data
}

// balanced is made of pairs of pairs, each half as great as the one that it stands in.
func balanced(trees []wireTree) wireTree {
	if len(trees) == 1 {
		return trees[0]
	}
	half := len(trees) / 2
	return madeTree(3, balanced(trees[:half]), balanced(trees[half:]))
}

// leafy is balanced, of that many names and secrets, so many of them in halves.
func leafy(leaves int, halves int) wireTree {
	trees := make([]wireTree, leaves)
	for i := range trees {
		trees[i] = nameTree(int64(i))
		if i < halves {
			trees[i] = madeTree(6, freshTree(int64(i)))
		}
	}
	return balanced(trees)
}

// deepTrees have that depth, each in another way.
func deepTrees(depth int) map[string]wireTree {
	left, right, seals, both, turns := nameTree(0), freshTree(9999), nameTree(1), madeTree(7, freshTree(1), freshTree(2)), madeTree(6, freshTree(3))
	for left.depth() < depth {
		left = madeTree(3, left, nameTree(5))
		right = madeTree(4, freshTree(6), right)
		seals = madeTree(5, nameTree(1), seals)
	}
	for both.depth() < depth {
		both = madeTree(3, both, freshTree(2))
		turns = madeTree(3+int64(depth%3), turns, nameTree(7))
		if turns.depth()%2 == 0 {
			slices.Reverse(turns.parts)
		}
	}
	return map[string]wireTree{"on the left": left, "on the right": right, "in seals": seals, "above a both": both, "by turns": turns}
}

// someTree is of that depth at most.
func someTree(r *rand.Rand, depth int) wireTree {
	op := 1 + r.Int63n(7)
	if depth == 1 {
		op = 1 + r.Int63n(2)
	}
	switch op {
	case 1, 2:
		return wireTree{op: op, n: someNumber(r)}
	case 6:
		return madeTree(6, freshTree(someNumber(r)))
	case 7:
		n, m := someNumber(r), someNumber(r)
		return madeTree(7, freshTree(min(n, m)), freshTree(max(n, m)))
	}
	return madeTree(op, someTree(r, depth-1), someTree(r, depth-1))
}

// steepTerms are n terms at most, each made of the one ahead of it, and mostly of another one.
func steepTerms(r *rand.Rand, n int) []impl.Term {
	table := tableOf(freshTerm(1), nameTerm(1), freshTerm(2), bothTerm(0, 2))
	for len(table) < n {
		parts := []int64{int64(len(table)) - 1, r.Int63n(int64(len(table)))}
		if r.Intn(3) > 0 {
			parts[1] = r.Int63n(4)
		}
		r.Shuffle(2, func(i int, j int) { parts[i], parts[j] = parts[j], parts[i] })
		table = append(table, impl.Term{Op: 3 + r.Int63n(3), A: parts[0], B: parts[1]})
	}
	return table
}

func TestBoundOfTheWireIsThatOfTheDocument(t *testing.T) {
	if impl.MaxDepth != 30 {
		t.Error(impl.MaxDepth)
	}
}

// wireCases are tables with the depth and the bytes of their last terms.
var wireCases = []struct {
	what  string
	table []impl.Term
	depth int64
	text  string
}{
	{"the name 0", tableOf(nameTerm(0)), 1, "010000"},
	{"the name 255", tableOf(nameTerm(255)), 1, "0100ff"},
	{"the name 256", tableOf(nameTerm(256)), 1, "010100"},
	{"the name 258", tableOf(nameTerm(258)), 1, "010102"},
	{"the name 9999", tableOf(nameTerm(9999)), 1, "01270f"},
	{"the secret 0", tableOf(freshTerm(0)), 1, "020000"},
	{"the secret 255", tableOf(freshTerm(255)), 1, "0200ff"},
	{"the secret 256", tableOf(freshTerm(256)), 1, "020100"},
	{"the secret 9999", tableOf(freshTerm(9999)), 1, "02270f"},
	{"a pair", tableOf(nameTerm(1), freshTerm(2), pairTerm(0, 1)), 2, "03010001020002"},
	{"a pair the other way", tableOf(nameTerm(1), freshTerm(2), pairTerm(1, 0)), 2, "03020002010001"},
	{"a pair of one twice", tableOf(nameTerm(258), pairTerm(0, 0)), 2, "03010102010102"},
	{"what comes of a key", tableOf(freshTerm(1), freshTerm(2), prfTerm(1, 0)), 2, "04020002020001"},
	{"a seal, its key first", tableOf(freshTerm(1), freshTerm(2), sealTerm(1, 0)), 2, "05020002020001"},
	{"a half", tableOf(freshTerm(0), freshTerm(9999), halfTerm(1)), 2, "0602270f"},
	{"a both, the lesser secret at A", tableOf(freshTerm(1), freshTerm(2), bothTerm(0, 1)), 2, "07020001020002"},
	{"a both, the greater secret at A", tableOf(freshTerm(2), freshTerm(1), bothTerm(0, 1)), 2, "07020001020002"},
	{"a both, its secrets unlike in the second byte alone", tableOf(freshTerm(255), freshTerm(256), bothTerm(0, 1)), 2, "070200ff020100"},
	{"a both, so, the greater secret at A", tableOf(freshTerm(256), freshTerm(255), bothTerm(0, 1)), 2, "070200ff020100"},
	{"a both of one secret twice", tableOf(freshTerm(3), bothTerm(0, 0)), 2, "07020003020003"},
	{"a both that ends at the greatest", tableOf(freshTerm(9999), freshTerm(0), bothTerm(0, 1)), 2, "0702000002270f"},
	{"other terms between", tableOf(nameTerm(9), freshTerm(1), nameTerm(8), halfTerm(1), nameTerm(7), pairTerm(2, 3)), 3, "030100080602" + "0001"},
	{"pairs in pairs", tableOf(nameTerm(1), pairTerm(0, 0), pairTerm(0, 1), pairTerm(2, 0)), 4, "03" + "03" + "010001" + "03010001010001" + "010001"},
	{"the deeper part behind", tableOf(nameTerm(1), pairTerm(0, 0), pairTerm(0, 1)), 3, "03" + "010001" + "03010001010001"},
	{"the deeper part ahead", tableOf(nameTerm(1), pairTerm(0, 0), pairTerm(1, 0)), 3, "03" + "03010001010001" + "010001"},
	{"one of every kind", tableOf(freshTerm(2), freshTerm(1), halfTerm(1), bothTerm(0, 1), sealTerm(2, 3), pairTerm(4, 0), nameTerm(300), prfTerm(6, 5)), 5,
		"04" + "01012c" + "03" + "05" + "06020001" + "07020001020002" + "020002"},
}

func TestDepthAndBytesOfKnownTerms(t *testing.T) {
	for _, c := range wireCases {
		last := int64(len(c.table)) - 1
		if got := impl.DepthOf(c.table, last); got != (impl.IntResult{Value: c.depth}) {
			t.Errorf("%s: depth %v, want %d", c.what, got, c.depth)
		}
		wantBytes(t, c.what, impl.EncodeTerm(c.table, last), impl.OK, fromHex(t, c.text))
		for at := range c.table {
			wantOnWire(t, c.what, c.table, int64(at), nil, names(10), c.table[:at/2])
		}
	}
}

func TestDepthIsAsGreatAsTheTable(t *testing.T) {
	table := doubled(400)
	for at := range table {
		if got := impl.DepthOf(table, int64(at)); got != (impl.IntResult{Value: int64(at) + 1}) {
			t.Errorf("depth at %d: %v", at, got)
		}
	}
	table = names(400)
	for _, at := range []int64{0, 1, 398, 399} {
		if got := impl.DepthOf(table, at); got != (impl.IntResult{Value: 1}) {
			t.Errorf("a name: depth %v", got)
		}
	}
}

func TestTermsAreThirtyDeepAtMost(t *testing.T) {
	for _, depth := range []int{2, 15, 29, 30, 31, 32, 60} {
		for what, x := range deepTrees(depth) {
			table := x.alone()
			last := int64(len(table)) - 1
			if got := impl.DepthOf(table, last); got != (impl.IntResult{Value: int64(depth)}) {
				t.Errorf("%d deep, %s: %v", depth, what, got)
			}
			got, read := impl.EncodeTerm(table, last), impl.DecodeTerm(nil, x.wire())
			if depth > 30 {
				wantBytes(t, what+", too deep", got, impl.ErrMany, nil)
				wantTerm(t, what+", too deep", read, impl.TermResult{Code: impl.ErrText})
				continue
			}
			wantBytes(t, fmt.Sprint(depth, " deep, ", what), got, impl.OK, x.wire())
			wantTerm(t, fmt.Sprint(depth, " deep, ", what), read, impl.TermResult{At: last, Table: table})
			wantOnWire(t, what, table, last, nil, names(30))
		}
	}
}

func TestTermsAreOfTwoHundredAtMost(t *testing.T) {
	cases := []struct {
		leaves, halves, size, length int
		is                           bool
	}{
		{100, 0, 199, 399, true},
		{100, 1, 200, 400, true},
		{99, 3, 200, 398, true},
		{68, 65, 200, 336, true},
		{67, 67, 200, 334, true},
		{101, 0, 201, 403, false},
		{100, 2, 201, 401, false},
		{99, 4, 201, 399, false},
		{68, 66, 201, 337, false},
		{80, 80, 239, 399, false},
		{80, 77, 236, 396, false},
		{150, 10, 309, 609, false},
	}
	for _, c := range cases {
		x := leafy(c.leaves, c.halves)
		what, table, data := fmt.Sprint(c.size, " terms, ", c.length, " bytes"), x.alone(), x.wire()
		last := int64(len(table)) - 1
		if x.size() != c.size || len(data) != c.length || impl.SizeOf(table, last).Value != int64(c.size) {
			t.Fatal("built", x.size(), len(data), "for", what)
		}
		wantRead(t, what, nil, data)
		if c.is {
			wantBytes(t, what, impl.EncodeTerm(table, last), impl.OK, data)
			wantOnWire(t, what, table, last, nil, names(60))
			continue
		}
		wantBytes(t, what, impl.EncodeTerm(table, last), impl.ErrMany, nil)
		code := int64(impl.ErrText)
		if c.length > 400 {
			code = impl.ErrMany
		}
		wantTerm(t, what, impl.DecodeTerm(nil, data), impl.TermResult{Code: code})
	}
}

func TestNoTermOfTwoHundredHasMoreThanFourHundredBytes(t *testing.T) {
	longest := 0
	for leaves := 1; leaves <= 101; leaves++ {
		for _, halves := range []int{0, min(leaves, 201-2*leaves)} {
			x := leafy(leaves, max(halves, 0))
			table, data := x.alone(), x.wire()
			got := impl.EncodeTerm(table, int64(len(table))-1)
			if x.size() > 200 {
				wantBytes(t, "too great", got, impl.ErrMany, nil)
				continue
			}
			wantBytes(t, fmt.Sprint(leaves, " leaves"), got, impl.OK, data)
			longest = max(longest, len(data))
		}
	}
	if longest != 400 {
		t.Error("the longest has", longest, "bytes")
	}
}

func TestATermThatStandsInManyOthers(t *testing.T) {
	table := doubled(400)
	for _, at := range []int64{0, 1, 5, 6, 7, 8, 29, 30, 31, 199, 398, 399} {
		wantOnWire(t, "doubled", table, at, nil, doubled(3), names(395))
	}
	// Seven deep there are 127 terms, eight deep 255.
	wantBytes(t, "eight deep", impl.EncodeTerm(table, 7), impl.ErrMany, nil)
	data := impl.EncodeTerm(table, 6).Bytes
	if want := slices.Repeat([]byte{2, 0, 7}, 2); len(data) != 255 || !bytes.HasPrefix(data, filled(6, 3)) || !bytes.HasSuffix(data, append([]byte{3}, want...)) {
		t.Errorf("seven deep: %x", data)
	}
	wantTerm(t, "seven deep", impl.DecodeTerm(nil, data), impl.TermResult{At: 6, Table: doubled(7)})
}

func TestAPlaceThatIsNoneHasNoDepthAndNoBytes(t *testing.T) {
	for _, table := range [][]impl.Term{nil, {}, names(1), names(5), doubled(40), names(400), doubled(400)} {
		length := int64(len(table))
		for _, at := range append([]int64{length, length + 1, -length - 1}, farPlaces...) {
			what := fmt.Sprint(at, " of ", length)
			if got := impl.DepthOf(table, at); got != (impl.IntResult{Code: impl.ErrRange}) {
				t.Errorf("%s: depth %v", what, got)
			}
			wantBytes(t, what, impl.EncodeTerm(table, at), impl.ErrRange, nil)
		}
	}
}

func TestTheTablesFaultIsToldFirstOnTheWire(t *testing.T) {
	for _, fault := range faultyTables {
		wantAllWireCodes(t, fault.what, fault.table, fault.code)
	}
}

// wrongWires are the bytes of no term.
func wrongWires() map[string][]byte {
	deep, great := deepTrees(31), leafy(80, 80)
	list := map[string][]byte{
		"no bytes":                         nil,
		"no bytes, not nil":                {},
		"an Op of 0":                       {0, 0, 1},
		"an Op of 0 in a pair":             {3, 1, 0, 1, 0, 0, 1},
		"an Op of 8":                       {8, 1, 0, 1, 1, 0, 1},
		"an Op of 8 in a pair":             {3, 8, 0, 1, 1, 0, 1},
		"an Op of 9":                       {9, 1, 0, 1},
		"an Op of 255":                     {255, 0, 1},
		"the name 10000":                   {1, 39, 16},
		"the name 65535":                   {1, 255, 255},
		"the secret 10000":                 {2, 39, 16},
		"the secret 10000 in a half":       {6, 2, 39, 16},
		"the secret 10000 in a both":       {7, 2, 0, 1, 2, 39, 16},
		"a both, the greater secret first": {7, 2, 0, 2, 2, 0, 1},
		"a both so, by the higher byte":    {7, 2, 1, 0, 2, 0, 255},
		"a both so, in a pair":             {3, 1, 0, 1, 7, 2, 0, 2, 2, 0, 1},
		"a half of a name":                 {6, 1, 0, 1},
		"a half of a half":                 {6, 6, 2, 0, 1},
		"a half of a pair":                 {6, 3, 2, 0, 1, 2, 0, 1},
		"a both of two names":              {7, 1, 0, 1, 1, 0, 2},
		"a both of a secret and a name":    {7, 2, 0, 1, 1, 0, 2},
		"a both of a name and a secret":    {7, 1, 0, 1, 2, 0, 2},
		"a both of halves":                 {7, 6, 2, 0, 1, 6, 2, 0, 2},
		"a both of a secret and a half":    {7, 2, 0, 1, 6, 2, 0, 2},
		"two names":                        {1, 0, 1, 1, 0, 2},
		"a name and a byte":                {1, 0, 1, 0},
		"a half and a byte":                {6, 2, 0, 1, 2},
		"too great":                        great.wire(),
		"201 terms":                        leafy(99, 4).wire(),
		"pairs without an end":             filled(400, 3),
		"halves without an end":            filled(400, 6),
		"boths without an end":             filled(400, 7),
		"400 bytes of 0":                   filled(400, 0),
		"400 bytes of 255":                 filled(400, 255),
		"a term of 399 bytes and one more": append(leafy(100, 0).wire(), 1),
	}
	for what, x := range deep {
		list["31 deep "+what] = x.wire()
	}
	return list
}

func TestBytesOfNoTermAreNotRead(t *testing.T) {
	tables := [][]impl.Term{nil, tableOf(freshTerm(1), nameTerm(1), freshTerm(2), bothTerm(0, 2)), names(399), names(400), doubled(400)}
	for what, data := range wrongWires() {
		for _, table := range tables {
			wantTerm(t, what, impl.DecodeTerm(table, data), impl.TermResult{Code: impl.ErrText})
			wantRead(t, what, table, data)
		}
	}
}

func TestBytesThatAreCutOrLongerAreNotRead(t *testing.T) {
	trees := []wireTree{leafy(99, 3), deepTrees(30)["by turns"], leafy(40, 20)}
	for _, c := range wireCases {
		trees = append(trees, treeAt(c.table, int64(len(c.table))-1))
	}
	for _, x := range trees {
		data := x.wire()
		table := x.alone()
		wantTerm(t, "whole", impl.DecodeTerm(nil, data), impl.TermResult{At: int64(len(table)) - 1, Table: table})
		for length := range data {
			// What is behind the end of a slice is none of it.
			wantTerm(t, fmt.Sprintf("%x cut", data[:length]), impl.DecodeTerm(table, data[:length]), impl.TermResult{Code: impl.ErrText})
		}
		for _, more := range []byte{0, 1, 2, 3, 6, 7, 255} {
			wantTerm(t, fmt.Sprintf("%x and %d", data, more), impl.DecodeTerm(table, append(bytes.Clone(data), more)), impl.TermResult{Code: impl.ErrText})
		}
		for ahead := byte(0); ahead <= 8; ahead++ {
			wantRead(t, "a byte ahead", nil, append([]byte{ahead}, data...))
		}
	}
}

func TestMoreThanFourHundredBytesAreTooMany(t *testing.T) {
	longest := leafy(100, 1)
	wantTerm(t, "400 bytes", impl.DecodeTerm(nil, longest.wire()), longest.putInto(nil))
	wantTerm(t, "400 bytes of no term", impl.DecodeTerm(nil, filled(400, 3)), impl.TermResult{Code: impl.ErrText})
	for _, table := range [][]impl.Term{nil, longest.alone(), names(400)} {
		for _, data := range [][]byte{append(longest.wire(), 0), leafy(100, 2).wire(), leafy(101, 0).wire(), filled(401, 0), filled(401, 3), filled(401, 255), filled(1<<20, 3), make([]byte, 402)} {
			wantTerm(t, fmt.Sprint(len(data), " bytes"), impl.DecodeTerm(table, data), impl.TermResult{Code: impl.ErrMany})
		}
	}
}

func TestATermIsPutBehindItsPartsInTheirOrder(t *testing.T) {
	cases := []struct {
		what  string
		table []impl.Term
		text  string
		want  impl.TermResult
	}{
		{"a name", nil, "010102", impl.TermResult{At: 0, Table: tableOf(nameTerm(258))}},
		{"a pair", nil, "03010002010001", impl.TermResult{At: 2, Table: tableOf(nameTerm(2), nameTerm(1), pairTerm(0, 1))}},
		{"a pair of one twice", nil, "03010002010002", impl.TermResult{At: 1, Table: tableOf(nameTerm(2), pairTerm(0, 0))}},
		{"a seal", nil, "05020002010001", impl.TermResult{At: 2, Table: tableOf(freshTerm(2), nameTerm(1), sealTerm(0, 1))}},
		{"what comes of a key", nil, "04020002010001", impl.TermResult{At: 2, Table: tableOf(freshTerm(2), nameTerm(1), prfTerm(0, 1))}},
		{"each with its own parts ahead", nil, "03" + "03010001010002" + "06020003",
			impl.TermResult{At: 5, Table: tableOf(nameTerm(1), nameTerm(2), pairTerm(0, 1), freshTerm(3), halfTerm(3), pairTerm(2, 4))}},
		{"a part that stood there ahead", nil, "03" + "010001" + "03010002010001",
			impl.TermResult{At: 3, Table: tableOf(nameTerm(1), nameTerm(2), pairTerm(1, 0), pairTerm(0, 2))}},
		{"a both", nil, "07020001020002", impl.TermResult{At: 2, Table: tableOf(freshTerm(1), freshTerm(2), bothTerm(0, 1))}},
		{"a both behind its greater secret", nil, "03" + "020002" + "07020001020002",
			impl.TermResult{At: 3, Table: tableOf(freshTerm(2), freshTerm(1), bothTerm(0, 1), pairTerm(0, 2))}},
		{"a both of one secret twice", nil, "07020001020001", impl.TermResult{At: 1, Table: tableOf(freshTerm(1), bothTerm(0, 0))}},
		{"a both, its greater secret there", tableOf(nameTerm(5), freshTerm(2)), "07020001020002",
			impl.TermResult{At: 3, Table: tableOf(nameTerm(5), freshTerm(2), freshTerm(1), bothTerm(1, 2))}},
		{"a both, its lesser secret there", tableOf(nameTerm(5), freshTerm(1)), "07020001020002",
			impl.TermResult{At: 3, Table: tableOf(nameTerm(5), freshTerm(1), freshTerm(2), bothTerm(1, 2))}},
		{"a both, both secrets there", tableOf(freshTerm(2), nameTerm(5), freshTerm(1)), "07020001020002",
			impl.TermResult{At: 3, Table: tableOf(freshTerm(2), nameTerm(5), freshTerm(1), bothTerm(0, 2))}},
		{"a both that is there", tableOf(freshTerm(2), freshTerm(1), bothTerm(0, 1), nameTerm(3)), "07020001020002",
			impl.TermResult{At: 2, Table: tableOf(freshTerm(2), freshTerm(1), bothTerm(0, 1), nameTerm(3))}},
		{"a name that is there", tableOf(freshTerm(7), nameTerm(7), nameTerm(8)), "010007",
			impl.TermResult{At: 1, Table: tableOf(freshTerm(7), nameTerm(7), nameTerm(8))}},
		{"a name, the secret of its number there", tableOf(freshTerm(7)), "010007", impl.TermResult{At: 1, Table: tableOf(freshTerm(7), nameTerm(7))}},
		{"some parts there", tableOf(nameTerm(2), pairTerm(0, 0)), "03" + "010001" + "03010002010002",
			impl.TermResult{At: 3, Table: tableOf(nameTerm(2), pairTerm(0, 0), nameTerm(1), pairTerm(2, 1))}},
		{"the half there, its secret sealed", tableOf(freshTerm(1), halfTerm(0)), "05" + "06020001" + "020001",
			impl.TermResult{At: 2, Table: tableOf(freshTerm(1), halfTerm(0), sealTerm(1, 0))}},
	}
	for _, c := range cases {
		data := fromHex(t, c.text)
		wantTerm(t, c.what, impl.DecodeTerm(c.table, data), c.want)
		wantRead(t, c.what, c.table, data)
		wantTerm(t, c.what+", read again", impl.DecodeTerm(c.want.Table, data), c.want)
	}
}

func TestATableThatIsFullHasNoRoom(t *testing.T) {
	full, butOne, butTwo := names(400), names(399), names(398)
	cases := []struct {
		what  string
		table []impl.Term
		text  string
		want  impl.TermResult
	}{
		{"full, a name that is there", full, "010005", impl.TermResult{At: 5, Table: full}},
		{"full, the last one", full, "01018f", impl.TermResult{At: 399, Table: full}},
		{"full, a name that is not there", full, "010190", impl.TermResult{Code: impl.ErrMany}},
		{"full, a secret", full, "020005", impl.TermResult{Code: impl.ErrMany}},
		{"full, a pair of what is there", full, "03010005010006", impl.TermResult{Code: impl.ErrMany}},
		{"full, a pair that is there", behind(butOne, pairTerm(5, 6)), "03010005010006", impl.TermResult{At: 399, Table: behind(butOne, pairTerm(5, 6))}},
		{"full, a pair the other way", behind(butOne, pairTerm(5, 6)), "03010006010005", impl.TermResult{Code: impl.ErrMany}},
		{"full but for one, a name", butOne, "010190", impl.TermResult{At: 399, Table: behind(butOne, nameTerm(400))}},
		{"full but for one, a name that is there", butOne, "010005", impl.TermResult{At: 5, Table: butOne}},
		{"full but for one, a pair of what is there", butOne, "03010005010006", impl.TermResult{At: 399, Table: behind(butOne, pairTerm(5, 6))}},
		{"full but for one, a pair of what is not there", butOne, "03010005010190", impl.TermResult{Code: impl.ErrMany}},
		{"full but for one, a half", butOne, "06020001", impl.TermResult{Code: impl.ErrMany}},
		{"full but for one, a half of what is there", behind(butTwo, freshTerm(1)), "06020001", impl.TermResult{At: 399, Table: behind(butTwo, freshTerm(1), halfTerm(398))}},
		{"full but for one, a both", behind(butTwo, freshTerm(1)), "07020001020002", impl.TermResult{Code: impl.ErrMany}},
		{"full but for two, a half", butTwo, "06020001", impl.TermResult{At: 399, Table: behind(butTwo, freshTerm(1), halfTerm(398))}},
		{"full but for two, a both", behind(names(397), freshTerm(2)), "07020001020002",
			impl.TermResult{At: 399, Table: behind(names(397), freshTerm(2), freshTerm(1), bothTerm(397, 398))}},
		{"full, bytes of no term", full, "08010005", impl.TermResult{Code: impl.ErrText}},
		{"full, bytes that begin with what is not there", full, "010190" + "00", impl.TermResult{Code: impl.ErrText}},
	}
	for _, c := range cases {
		data := fromHex(t, c.text)
		wantTerm(t, c.what, impl.DecodeTerm(c.table, data), c.want)
		wantRead(t, c.what, c.table, data)
	}
	// A great term finds just as much room as there is.
	x := leafy(100, 1)
	need := len(x.alone())
	for _, room := range []int{0, 1, 99, need - 1, need, need + 1} {
		table := make([]impl.Term, 0, 400)
		for n := int64(5000); len(table) < 400-room; n++ {
			table = append(table, nameTerm(n))
		}
		read := wantRead(t, fmt.Sprint("room for ", room), table, x.wire())
		if (read.Code == impl.OK) != (room >= need) || read.Code != impl.OK && read.Code != impl.ErrMany {
			t.Error("room for", room, "of", need, "code", read.Code)
		}
	}
}

// eachText hands all texts of a length over that are made of these bytes.
func eachText(letters []byte, length int, ask func(data []byte)) {
	data := make([]byte, length)
	var fill func(at int)
	fill = func(at int) {
		if at == length {
			ask(data)
			return
		}
		for _, letter := range letters {
			data[at] = letter
			fill(at + 1)
		}
	}
	fill(0)
}

func TestNoOtherBytesAreReadAsTerms(t *testing.T) {
	kinds := []struct {
		letters []byte
		length  int
		read    int
	}{
		// Of four bytes there are halves alone, of seven there are boths, and pairs (and so) of two names or secrets.
		{[]byte{0, 1, 2, 3, 4, 5, 6, 7, 8, 9, 15, 16, 39, 40, 255}, 1, 0},
		{[]byte{0, 1, 2, 3, 4, 5, 6, 7, 8, 9, 15, 16, 39, 40, 255}, 2, 0},
		{[]byte{0, 1, 2, 3, 4, 5, 6, 7, 8, 9, 15, 16, 39, 40, 255}, 3, 2 * (12*15 + 11)},
		{[]byte{0, 1, 2, 6, 7, 8, 15, 16, 39, 40}, 4, 8*10 + 7},
		{[]byte{0, 1, 2, 3, 6, 7, 8}, 5, 0},
		{[]byte{1, 2, 3, 6, 7}, 6, 0},
		{[]byte{1, 2, 3, 6, 7}, 7, 25*26/2 + 2*25*2*25},
	}
	for _, kind := range kinds {
		read := 0
		eachText(kind.letters, kind.length, func(data []byte) {
			got := impl.DecodeTerm(nil, data)
			if want := wantedDecoded(nil, data); got.Code != want.Code || got.At != want.At || !slices.Equal(got.Table, want.Table) {
				t.Errorf("%x: %v, want %v", data, got, want)
			}
			if got.Code == impl.OK {
				read++
				wantBytes(t, "written again", impl.EncodeTerm(got.Table, got.At), impl.OK, data)
			}
		})
		if read != kind.read {
			t.Errorf("of %d bytes of %v: %d read, want %d", kind.length, kind.letters, read, kind.read)
		}
	}
}

func TestTermsOfWhichOneByteIsTurned(t *testing.T) {
	read := 0
	for _, c := range wireCases {
		data := fromHex(t, c.text)
		for at := range data {
			for b := range 256 {
				turned := bytes.Clone(data)
				turned[at] = byte(b)
				if wantRead(t, c.what+", turned", c.table, turned).Code == impl.OK {
					read++
				}
			}
		}
	}
	if read < 5000 {
		t.Error("only", read, "were read")
	}
}

func TestTermsAreReadBackFromTheirBytes(t *testing.T) {
	r := rand.New(rand.NewSource(71))
	codes, read := map[int64]int{}, map[int64]int{}
	for round := 0; round < 400; round++ {
		table := someTerms(r, 1+r.Intn(60))
		if round%3 == 0 {
			table = steepTerms(r, 5+r.Intn(40))
		}
		other := tableBeside(r, round, table)
		at := int64(len(table)) - 1 - r.Int63n(min(5, int64(len(table))))
		wantOnWire(t, "some term", table, at, nil, other)
		data := impl.EncodeTerm(table, at)
		codes[data.Code]++
		if data.Code == impl.OK {
			read[impl.DecodeTerm(other, data.Bytes).Code]++
		}
	}
	if codes[impl.OK] < 250 || codes[impl.ErrMany] < 50 || read[impl.OK] < 200 || read[impl.ErrMany] < 20 {
		t.Error("codes", codes, "read", read)
	}
}

func TestTheSameTermHasTheSameBytesInEveryTable(t *testing.T) {
	r := rand.New(rand.NewSource(72))
	told := 0
	for round := 0; round < 80; round++ {
		table := someTerms(r, 1+r.Intn(25))
		other, places := shuffled(r, table)
		for x := range table {
			for y := range table {
				a, b := impl.EncodeTerm(table, int64(x)), impl.EncodeTerm(other, places[y])
				if a.Code != impl.OK || b.Code != impl.OK {
					continue
				}
				told++
				if bytes.Equal(a.Bytes, b.Bytes) != (x == y) {
					t.Fatalf("%v at %d and %v at %d: %x and %x", table, x, other, places[y], a.Bytes, b.Bytes)
				}
			}
		}
	}
	if told < 1000 {
		t.Error("only", told, "were told")
	}
}

func TestSomeTreesWithSomeFaults(t *testing.T) {
	r := rand.New(rand.NewSource(73))
	codes := map[int64]int{}
	for round := 0; round < 6000; round++ {
		data, table := someTree(r, 1+r.Intn(12)).wire(), someTerms(r, r.Intn(12))
		if round%20 == 0 {
			table = someTerms(r, 398+r.Intn(3))
		}
		for faults := r.Intn(3); faults > 0; faults-- {
			at := r.Intn(len(data))
			switch r.Intn(4) {
			case 0:
				data[at] = byte(r.Intn(9))
			case 1:
				data[at] = byte(r.Intn(256))
			case 2:
				data = slices.Insert(data, at, byte(r.Intn(9)))
			case 3:
				data = slices.Delete(data, at, min(at+1+r.Intn(4), len(data)))
				data = append(data, someTree(r, 2).wire()...)
			}
		}
		codes[wantRead(t, "some bytes", table, data).Code]++
	}
	if codes[impl.OK] < 1000 || codes[impl.ErrText] < 1000 || codes[impl.ErrMany] < 10 {
		t.Error("codes", codes)
	}
}

func TestEveryPlaceOnTheWire(t *testing.T) {
	r := rand.New(rand.NewSource(74))
	for round := 0; round < 80; round++ {
		table, other := someTerms(r, r.Intn(25)), someTerms(r, r.Intn(25))
		for _, at := range placesAround(table) {
			wantOnWire(t, "some table", table, at, nil, other)
		}
	}
	for _, table := range [][]impl.Term{names(400), doubled(400), someTerms(r, 399), someTerms(r, 400)} {
		for _, at := range []int64{math.MinInt64, -1, 0, 1, 6, 7, 199, 398, 399, 400, math.MaxInt64} {
			wantOnWire(t, "a great table", table, at, nil)
		}
	}
}

// wantedFrameBytes goes by the words of EncodeFrame.
func wantedFrameBytes(kind int64, spiA int64, spiB int64, number int64, body []byte) impl.BytesResult {
	if kind < 1 || kind > 9 {
		return impl.BytesResult{Code: impl.ErrRange}
	}
	data := []byte{32, byte(kind)}
	for _, n := range []int64{spiA, spiB, number} {
		if n < 0 || n > math.MaxUint32 {
			return impl.BytesResult{Code: impl.ErrRange}
		}
		data = binary.BigEndian.AppendUint32(data, uint32(n))
	}
	if len(body) > 300 {
		return impl.BytesResult{Code: impl.ErrMany}
	}
	data = binary.BigEndian.AppendUint16(data, uint16(len(body)))
	return impl.BytesResult{Bytes: append(data, body...)}
}

func wantedFrame(data []byte) impl.FrameResult {
	if len(data) < 16 || len(data) > 316 || data[0] != 32 || data[1] < 1 || data[1] > 9 || int(data[14])*256+int(data[15]) != len(data)-16 {
		return impl.FrameResult{Code: impl.ErrText}
	}
	four := func(at int) int64 { return int64(binary.BigEndian.Uint32(data[at:])) }
	return impl.FrameResult{Kind: int64(data[1]), SpiA: four(2), SpiB: four(6), Number: four(10), Body: data[16:]}
}

func sameFrame(a impl.FrameResult, b impl.FrameResult) bool {
	return a.Code == b.Code && a.Kind == b.Kind && a.SpiA == b.SpiA && a.SpiB == b.SpiB && a.Number == b.Number && bytes.Equal(a.Body, b.Body)
}

// wantFrame fails the test unless the frame is written as the document says, and read back where it is.
func wantFrame(t *testing.T, kind int64, spiA int64, spiB int64, number int64, body []byte) int64 {
	t.Helper()
	got, want := impl.EncodeFrame(kind, spiA, spiB, number, body), wantedFrameBytes(kind, spiA, spiB, number, body)
	wantBytes(t, fmt.Sprint("frame ", kind, " ", spiA, " ", spiB, " ", number, ", body of ", len(body)), got, want.Code, want.Bytes)
	if got.Code == impl.OK {
		whole := impl.FrameResult{Kind: kind, SpiA: spiA, SpiB: spiB, Number: number, Body: body}
		if read := impl.DecodeFrame(got.Bytes); !sameFrame(read, whole) {
			t.Error("read back", read, "want", whole)
		}
	}
	return got.Code
}

// wantFrameRead fails the test unless the bytes are read as the document says, and what is read is written as they are.
func wantFrameRead(t *testing.T, what string, data []byte) int64 {
	t.Helper()
	got := impl.DecodeFrame(data)
	if want := wantedFrame(data); !sameFrame(got, want) {
		t.Errorf("%s, %x: read %v, want %v", what, data, got, want)
	}
	if got.Code == impl.OK {
		wantBytes(t, what+", written again", impl.EncodeFrame(got.Kind, got.SpiA, got.SpiB, got.Number, got.Body), impl.OK, data)
	}
	return got.Code
}

func TestFramesOfKnownBytes(t *testing.T) {
	cases := []struct {
		kind, spiA, spiB, number int64
		body                     []byte
		text                     string
	}{
		{2, 5, 6, 7, []byte{9}, "2002" + "00000005" + "00000006" + "00000007" + "0001" + "09"},
		{1, 0, 0, 0, nil, "2001" + "00000000" + "00000000" + "00000000" + "0000"},
		{9, 1<<32 - 1, 1<<32 - 1, 1<<32 - 1, []byte{1, 2, 3}, "2009" + "ffffffff" + "ffffffff" + "ffffffff" + "0003" + "010203"},
		{5, 0x01020304, 0x05060708, 0x090a0b0c, []byte{0}, "2005" + "01020304" + "05060708" + "090a0b0c" + "0001" + "00"},
		{3, 1 << 24, 255, 65536, filled(256, 255), "2003" + "01000000" + "000000ff" + "00010000" + "0100" + hex.EncodeToString(filled(256, 255))},
		{3, 1, 2, 3, filled(300, 8), "2003" + "00000001" + "00000002" + "00000003" + "012c" + hex.EncodeToString(filled(300, 8))},
	}
	for _, c := range cases {
		data := fromHex(t, c.text)
		wantBytes(t, c.text, impl.EncodeFrame(c.kind, c.spiA, c.spiB, c.number, c.body), impl.OK, data)
		want := impl.FrameResult{Kind: c.kind, SpiA: c.spiA, SpiB: c.spiB, Number: c.number, Body: c.body}
		if got := impl.DecodeFrame(data); !sameFrame(got, want) {
			t.Error(c.text, "read as", got)
		}
	}
}

func TestFramesAtEveryEdge(t *testing.T) {
	numbers := []int64{math.MinInt64, math.MinInt64 + 1, -1 << 32, -1, 0, 1, 255, 65536, 1<<31 - 1, 1 << 31, 1<<32 - 1, 1 << 32, 1<<32 + 1, 1 << 40, math.MaxInt64 - 1, math.MaxInt64}
	codes := map[int64]int{}
	for _, length := range []int{0, 1, 300, 301, 5000} {
		body := filled(length, 77)
		for _, kind := range append([]int64{2, 3, 4, 5, 6, 7, 8, 9, 10, 11, 256, 257, 258}, numbers...) {
			for _, number := range numbers {
				codes[wantFrame(t, kind, number, 6, 7, body)]++
				codes[wantFrame(t, kind, 5, number, 7, body)]++
				codes[wantFrame(t, kind, 5, 6, number, body)]++
				codes[wantFrame(t, kind, number, number, number, body)]++
			}
		}
	}
	if codes[impl.OK] < 500 || codes[impl.ErrRange] < 5000 || codes[impl.ErrMany] < 500 || len(codes) != 3 {
		t.Error("codes", codes)
	}
	// A number out of its bounds is told ahead of a body that is too long.
	for _, length := range []int{301, 5000} {
		wantBytes(t, "two faults", impl.EncodeFrame(10, 5, 6, 7, filled(length, 1)), impl.ErrRange, nil)
		wantBytes(t, "two faults", impl.EncodeFrame(9, 5, 6, 1<<32, filled(length, 1)), impl.ErrRange, nil)
		wantBytes(t, "one fault", impl.EncodeFrame(9, 5, 6, 1<<32-1, filled(length, 1)), impl.ErrMany, nil)
	}
}

func TestBodiesOfEveryLength(t *testing.T) {
	r := rand.New(rand.NewSource(75))
	for length := 0; length <= 310; length++ {
		code := wantFrame(t, 1+r.Int63n(9), r.Int63n(1<<32), r.Int63n(1<<32), r.Int63n(1<<32), someBytes(r, length))
		if (code == impl.OK) != (length <= 300) || code != impl.OK && code != impl.ErrMany {
			t.Error("a body of", length, "code", code)
		}
	}
	for _, body := range [][]byte{nil, {}} {
		wantFrame(t, 4, 1, 2, 3, body)
	}
}

func TestFramesOfWhichOneByteIsTurned(t *testing.T) {
	for _, body := range [][]byte{nil, {9}, {1, 2, 3}, filled(255, 0), filled(256, 5), filled(300, 200)} {
		data := impl.EncodeFrame(2, 5, 1<<32-1, 0, body).Bytes
		for at := range data[:min(len(data), 20)] {
			for b := range 256 {
				turned := bytes.Clone(data)
				turned[at] = byte(b)
				is := byte(b) == data[at] || at != 0 && at < 14 || at >= 16
				if at == 1 {
					is = b >= 1 && b <= 9
				}
				if code := wantFrameRead(t, "turned", turned); (code == impl.OK) != is {
					t.Errorf("byte %d of %d turned to %d: code %d", at, len(data), b, code)
				}
			}
		}
	}
}

func TestFramesThatAreCutOrLongerAreNotRead(t *testing.T) {
	text := impl.FrameResult{Code: impl.ErrText}
	for _, length := range []int{0, 1, 2, 255, 256, 299, 300} {
		data := impl.EncodeFrame(2, 5, 6, 7, filled(length, 3)).Bytes
		if got := impl.DecodeFrame(data); got.Code != impl.OK {
			t.Error("whole: code", got.Code)
		}
		for cut := range data {
			if got := impl.DecodeFrame(data[:cut]); !sameFrame(got, text) {
				t.Errorf("%x cut: %v", data[:cut], got)
			}
		}
		for _, more := range []int{1, 2, 255, 256, 1 << 16, 1<<16 + 1, 1 << 20} {
			for _, b := range []byte{0, 3, 255} {
				if got := impl.DecodeFrame(append(bytes.Clone(data), filled(more, b)...)); !sameFrame(got, text) {
					t.Errorf("%x and %d more: %v", data, more, got)
				}
			}
		}
	}
	for _, data := range [][]byte{nil, {}, {32}, {32, 1}, filled(15, 0), filled(16, 0), filled(16, 32), filled(316, 32), filled(400, 0)} {
		if got := impl.DecodeFrame(data); !sameFrame(got, text) {
			t.Errorf("%x: %v", data, got)
		}
	}
}

func TestALengthThatIsNotTheBodysIsNotRead(t *testing.T) {
	text := impl.FrameResult{Code: impl.ErrText}
	for _, length := range []int{0, 1, 255, 256, 300, 301, 302, 512, 65535} {
		for _, told := range []int{0, 1, 2, 254, 255, 256, 257, 299, 300, 301, 302, 511, 512, 65535} {
			data := append(binary.BigEndian.AppendUint16(fromHex(t, "2002000000050000000600000007"), uint16(told)), filled(length, 9)...)
			got := impl.DecodeFrame(data)
			if (got.Code == impl.OK) != (told == length && length <= 300) || got.Code != impl.OK && !sameFrame(got, text) {
				t.Error("a body of", length, "told as", told, "is read with code", got.Code)
			}
		}
	}
}

func TestFramesAreReadBackAndNoOtherBytesAre(t *testing.T) {
	r := rand.New(rand.NewSource(76))
	codes := map[int64]int{}
	for round := 0; round < 20000; round++ {
		data := impl.EncodeFrame(1+r.Int63n(9), r.Int63n(1<<32), r.Int63n(1<<32), r.Int63n(1<<32), someBytes(r, r.Intn(301)>>r.Intn(9))).Bytes
		for faults := r.Intn(3); faults > 0; faults-- {
			at := r.Intn(min(len(data), 20))
			switch r.Intn(3) {
			case 0:
				data[at] = byte(r.Intn(256))
			case 1:
				data = slices.Insert(data, at, byte(r.Intn(256)))
			case 2:
				data = slices.Delete(data, at, at+1)
			}
		}
		codes[wantFrameRead(t, "some bytes", data)]++
	}
	if codes[impl.OK] < 5000 || codes[impl.ErrText] < 5000 || len(codes) != 2 {
		t.Error("codes", codes)
	}
}

func TestATermGoesInAFrame(t *testing.T) {
	table := tableOf(freshTerm(1), freshTerm(2), nameTerm(3), halfTerm(0), bothTerm(0, 1), pairTerm(2, 3), sealTerm(4, 5))
	frame := impl.EncodeFrame(1, 101, 0, 1, impl.EncodeTerm(table, 6).Bytes)
	read := impl.DecodeFrame(frame.Bytes)
	term := impl.DecodeTerm(names(20), read.Body)
	if read.Code != impl.OK || read.SpiA != 101 || term.Code != impl.OK || !impl.SameTerms(table, 6, term.Table, term.At) {
		t.Error(frame, read, term)
	}
}
