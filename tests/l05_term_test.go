package tests

import (
	"bytes"
	"crypto/sha256"
	"fmt"
	"math"
	"math/big"
	"math/rand"
	"slices"
	"strings"
	"testing"

	"loop.example/g00205/impl"
)

const fullTable = 400

// termFields names every number of a term.
var termFields = []struct {
	name string
	of   func(x *impl.Term) *int64
}{
	{"Op", func(x *impl.Term) *int64 { return &x.Op }},
	{"A", func(x *impl.Term) *int64 { return &x.A }},
	{"B", func(x *impl.Term) *int64 { return &x.B }},
	{"N", func(x *impl.Term) *int64 { return &x.N }},
}

// fieldsNamed are those that each Op names.
var fieldsNamed = map[int64]string{1: "N", 2: "N", 3: "AB", 4: "AB", 5: "AB", 6: "A", 7: "AB"}

func nameTerm(n int64) impl.Term {
	return impl.Term{Op: 1, N: n}
}

func freshTerm(n int64) impl.Term {
	return impl.Term{Op: 2, N: n}
}

func pairTerm(a int64, b int64) impl.Term {
	return impl.Term{Op: 3, A: a, B: b}
}

func prfTerm(a int64, b int64) impl.Term {
	return impl.Term{Op: 4, A: a, B: b}
}

func sealTerm(key int64, b int64) impl.Term {
	return impl.Term{Op: 5, A: key, B: b}
}

func halfTerm(a int64) impl.Term {
	return impl.Term{Op: 6, A: a}
}

func bothTerm(a int64, b int64) impl.Term {
	return impl.Term{Op: 7, A: a, B: b}
}

func tableOf(terms ...impl.Term) []impl.Term {
	return terms
}

// behind is a table with more terms, in memory of its own.
func behind(table []impl.Term, more ...impl.Term) []impl.Term {
	return slices.Concat(table, more)
}

// names are n terms, each one a name.
func names(n int) []impl.Term {
	table := make([]impl.Term, n)
	for i := range table {
		table[i] = nameTerm(int64(i))
	}
	return table
}

// doubled is a secret, a pair of it twice, a pair of that twice, and so on: n terms.
func doubled(n int) []impl.Term {
	table := tableOf(freshTerm(7))
	for at := int64(0); len(table) < n; at++ {
		table = append(table, pairTerm(at, at))
	}
	return table[:n]
}

// faultyTables have each fault that a table may have, told with its code.
var faultyTables = []struct {
	what  string
	table []impl.Term
	code  int64
}{
	{"no Op", tableOf(freshTerm(1), impl.Term{}), impl.ErrText},
	{"an Op of 8", tableOf(freshTerm(1), impl.Term{Op: 8}), impl.ErrText},
	{"a field too many", tableOf(freshTerm(1), impl.Term{Op: 1, A: 1}), impl.ErrForm},
	{"a number out of its range", tableOf(freshTerm(1), nameTerm(10000)), impl.ErrRange},
	{"a place behind it", tableOf(freshTerm(1), pairTerm(0, 1)), impl.ErrRange},
	{"a half of no secret", tableOf(nameTerm(1), halfTerm(0)), impl.ErrForm},
	{"a both with A behind B", tableOf(freshTerm(1), freshTerm(2), bothTerm(1, 0)), impl.ErrForm},
	{"one that is there", tableOf(freshTerm(1), nameTerm(7), freshTerm(1)), impl.ErrTaken},
	{"too many", names(401), impl.ErrMany},
	{"too many, deep", doubled(401), impl.ErrMany},
	{"the last one of 400 is there", behind(names(399), nameTerm(0)), impl.ErrTaken},
}

func wantedTermFault(ahead []impl.Term, x impl.Term) int64 {
	named, known := fieldsNamed[x.Op]
	if !known {
		return impl.ErrText
	}
	var places []int64
	for _, field := range termFields[1:] {
		n := *field.of(&x)
		switch {
		case !strings.Contains(named, field.name):
			if n != 0 {
				return impl.ErrForm
			}
		case field.name != "N":
			places = append(places, n)
		}
	}
	if x.N < 0 || x.N > 9999 {
		return impl.ErrRange
	}
	for _, at := range places {
		if at < 0 || at >= int64(len(ahead)) {
			return impl.ErrRange
		}
	}
	if x.Op == 6 && ahead[x.A].Op != 2 || x.Op == 7 && (ahead[x.A].Op != 2 || ahead[x.B].Op != 2 || x.B < x.A) {
		return impl.ErrForm
	}
	return impl.OK
}

func wantedTermsFault(table []impl.Term) int64 {
	if len(table) > fullTable {
		return impl.ErrMany
	}
	for i, x := range table {
		if code := wantedTermFault(table[:i], x); code != impl.OK {
			return code
		}
		if slices.Contains(table[:i], x) {
			return impl.ErrTaken
		}
	}
	return impl.OK
}

func wantedPlaceFault(table []impl.Term, at int64) int64 {
	if code := wantedTermsFault(table); code != impl.OK {
		return code
	}
	if at < 0 || at >= int64(len(table)) {
		return impl.ErrRange
	}
	return impl.OK
}

func wantedPut(table []impl.Term, x impl.Term) impl.TermResult {
	if code := wantedTermsFault(table); code != impl.OK {
		return impl.TermResult{Code: code}
	}
	if code := wantedTermFault(table, x); code != impl.OK {
		return impl.TermResult{Code: code}
	}
	if at := slices.Index(table, x); at >= 0 {
		return impl.TermResult{At: int64(at), Table: table}
	}
	if len(table) == fullTable {
		return impl.TermResult{Code: impl.ErrMany}
	}
	return impl.TermResult{At: int64(len(table)), Table: behind(table, x)}
}

func wantedBoth(table []impl.Term, x int64, y int64) impl.TermResult {
	if x > y {
		return wantedBoth(table, y, x)
	}
	return wantedPut(table, bothTerm(x, y))
}

func wantedList(table []impl.Term, list []int64) impl.TermResult {
	if code := wantedTermsFault(table); code != impl.OK {
		return impl.TermResult{Code: code}
	}
	for _, at := range list {
		if code := wantedPlaceFault(table, at); code != impl.OK {
			return impl.TermResult{Code: code}
		}
	}
	return wantedPairs(table, list)
}

// wantedPairs goes by the words: a pair of the first one and the list of the others.
func wantedPairs(table []impl.Term, list []int64) impl.TermResult {
	switch len(list) {
	case 0:
		return wantedPut(table, nameTerm(0))
	case 1:
		return impl.TermResult{At: list[0], Table: table}
	}
	others := wantedPairs(table, list[1:])
	if others.Code != impl.OK {
		return others
	}
	return wantedPut(others.Table, pairTerm(list[0], others.At))
}

// partsNamed are the places that a term without a fault names.
func partsNamed(x impl.Term) []int64 {
	switch fieldsNamed[x.Op] {
	case "A":
		return []int64{x.A}
	case "AB":
		return []int64{x.A, x.B}
	}
	return nil
}

// sizesIn are as great as they are, without an end.
func sizesIn(table []impl.Term) []*big.Int {
	sizes := make([]*big.Int, len(table))
	for i, x := range table {
		sizes[i] = big.NewInt(1)
		for _, part := range partsNamed(x) {
			sizes[i].Add(sizes[i], sizes[part])
		}
	}
	return sizes
}

func wantedSize(table []impl.Term, at int64) impl.IntResult {
	if code := wantedPlaceFault(table, at); code != impl.OK {
		return impl.IntResult{Code: code}
	}
	size := sizesIn(table)[at]
	if size.Cmp(big.NewInt(1000000)) > 0 {
		return impl.IntResult{Value: 1000000}
	}
	return impl.IntResult{Value: size.Int64()}
}

// wantedParts goes from the term back to the first one, and marks what the marked ones name.
func wantedParts(table []impl.Term, at int64) impl.IntsResult {
	if code := wantedPlaceFault(table, at); code != impl.OK {
		return impl.IntsResult{Code: code}
	}
	marked := make([]bool, len(table))
	marked[at] = true
	var parts []int64
	for i := at; i >= 0; i-- {
		if !marked[i] {
			continue
		}
		parts = append(parts, i)
		for _, part := range partsNamed(table[i]) {
			marked[part] = true
		}
	}
	slices.Reverse(parts)
	return impl.IntsResult{List: parts}
}

func wantedOccurs(table []impl.Term, small int64, big int64) bool {
	return slices.Contains(wantedParts(table, big).List, small)
}

func wantedMove(from []impl.Term, at int64, to []impl.Term) impl.TermResult {
	for _, table := range [][]impl.Term{from, to} {
		if code := wantedTermsFault(table); code != impl.OK {
			return impl.TermResult{Code: code}
		}
	}
	parts := wantedParts(from, at)
	if parts.Code != impl.OK {
		return impl.TermResult{Code: parts.Code}
	}
	moved := impl.TermResult{Table: to}
	places := map[int64]int64{}
	for _, part := range parts.List {
		x := from[part]
		switch {
		case x.Op == 7:
			moved = wantedBoth(moved.Table, places[x.A], places[x.B])
		case x.Op == 6:
			moved = wantedPut(moved.Table, halfTerm(places[x.A]))
		case x.Op > 2:
			moved = wantedPut(moved.Table, impl.Term{Op: x.Op, A: places[x.A], B: places[x.B]})
		default:
			moved = wantedPut(moved.Table, x)
		}
		if moved.Code != impl.OK {
			return impl.TermResult{Code: moved.Code}
		}
		places[part] = moved.At
	}
	return moved
}

// printsOf are as many bytes for each term, the same ones for what is made in the same way of the same.
func printsOf(table []impl.Term) [][]byte {
	prints := make([][]byte, len(table))
	for i, x := range table {
		var parts [][]byte
		for _, part := range partsNamed(x) {
			parts = append(parts, prints[part])
		}
		if x.Op == 7 {
			slices.SortFunc(parts, bytes.Compare)
		}
		sum := sha256.Sum256(fmt.Appendf(bytes.Join(parts, nil), "%d %d", x.Op, x.N))
		prints[i] = sum[:]
	}
	return prints
}

func wantedSame(a []impl.Term, x int64, b []impl.Term, y int64) bool {
	return wantedPlaceFault(a, x) == impl.OK && wantedPlaceFault(b, y) == impl.OK &&
		bytes.Equal(printsOf(a)[x], printsOf(b)[y])
}

func wantedTermText(table []impl.Term, at int64) impl.TextResult {
	if code := wantedPlaceFault(table, at); code != impl.OK {
		return impl.TextResult{Code: code}
	}
	if sizesIn(table)[at].Cmp(big.NewInt(200)) > 0 {
		return impl.TextResult{Code: impl.ErrMany}
	}
	return impl.TextResult{Text: spelt(table, at)}
}

func spelt(table []impl.Term, at int64) string {
	x := table[at]
	part := func(at int64) string { return spelt(table, at) }
	switch x.Op {
	case 1:
		return fmt.Sprint("n", x.N)
	case 2:
		return fmt.Sprint("s", x.N)
	case 3:
		return fmt.Sprintf("(%s,%s)", part(x.A), part(x.B))
	case 4:
		return fmt.Sprintf("f(%s,%s)", part(x.A), part(x.B))
	case 5:
		return fmt.Sprintf("{%s}%s", part(x.B), part(x.A))
	case 6:
		return fmt.Sprintf("g(%s)", part(x.A))
	}
	a, b := table[x.A].N, table[x.B].N
	return fmt.Sprintf("g(s%d,s%d)", min(a, b), max(a, b))
}

// wantTerm fails the test unless got is want; no table and an empty one are the same.
func wantTerm(t *testing.T, what string, got impl.TermResult, want impl.TermResult) {
	t.Helper()
	if got.Code != want.Code || got.At != want.At {
		t.Errorf("%s: code %d at %d, want code %d at %d", what, got.Code, got.At, want.Code, want.At)
	}
	if !slices.Equal(got.Table, want.Table) {
		same := 0
		for same < min(len(got.Table), len(want.Table)) && got.Table[same] == want.Table[same] {
			same++
		}
		t.Errorf("%s: %d terms, want %d, not the same from %d on", what, len(got.Table), len(want.Table), same)
	}
}

// wantAt asks what is told of a place of a table.
func wantAt(t *testing.T, what string, table []impl.Term, at int64) {
	t.Helper()
	if got, want := impl.SizeOf(table, at), wantedSize(table, at); got != want {
		t.Errorf("%s: size at %d: %v, want %v", what, at, got, want)
	}
	wantPlaces(t, fmt.Sprint(what, ", parts at ", at), impl.PartsOf(table, at), wantedParts(table, at))
	if got, want := impl.TermText(table, at), wantedTermText(table, at); got != want {
		t.Errorf("%s: text at %d: %v, want %v", what, at, got, want)
	}
}

// wantTwo asks what is told of two places of a table.
func wantTwo(t *testing.T, what string, table []impl.Term, x int64, y int64) {
	t.Helper()
	if got, want := impl.OccursIn(table, x, y), wantedOccurs(table, x, y); got != want {
		t.Errorf("%s: %v: %d occurs in %d: %v", what, table, x, y, got)
	}
	if got, want := impl.SameTerms(table, x, table, y), wantedSame(table, x, table, y); got != want {
		t.Errorf("%s: %v: %d and %d the same: %v", what, table, x, y, got)
	}
	wantTerm(t, fmt.Sprint(what, ", both of ", x, " and ", y), impl.PutBoth(table, x, y), wantedBoth(table, x, y))
	wantTerm(t, fmt.Sprint(what, ", list of ", x, " and ", y), impl.PutList(table, []int64{x, y}), wantedList(table, []int64{x, y}))
}

// wantMoved asks what is told of a place of one table and of another table.
func wantMoved(t *testing.T, what string, from []impl.Term, at int64, to []impl.Term) {
	t.Helper()
	got, want := impl.MoveTerm(from, at, to), wantedMove(from, at, to)
	wantTerm(t, fmt.Sprint(what, ", moved from ", at), got, want)
	if got.Code == impl.OK && !impl.SameTerms(from, at, got.Table, got.At) {
		t.Errorf("%s: %v: another one at %d than the one at %d: %v", what, got.Table, got.At, at, from)
	}
}

// wantAllTermCodes fails the test unless every function tells the code, and nothing beside it, whatever else it is given.
func wantAllTermCodes(t *testing.T, what string, table []impl.Term, code int64) {
	t.Helper()
	if got := impl.TermsFault(table); got != code {
		t.Errorf("%s: fault %d, want %d", what, got, code)
	}
	last := int64(len(table)) - 1
	told := impl.TermResult{Code: code}
	good := tableOf(freshTerm(1), freshTerm(2), nameTerm(0))
	for _, x := range []impl.Term{nameTerm(0), freshTerm(1), {}, {Op: 8}, nameTerm(10000), pairTerm(-1, 0), bothTerm(1, 0)} {
		wantTerm(t, what+", put", impl.PutTerm(table, x), told)
	}
	for _, at := range []int64{math.MinInt64, -1, 0, last - 1, last, last + 1, math.MaxInt64} {
		wantTerm(t, what+", both", impl.PutBoth(table, at, 0), told)
		wantTerm(t, what+", list of one", impl.PutList(table, []int64{at}), told)
		wantTerm(t, what+", moved", impl.MoveTerm(table, at, good), told)
		wantTerm(t, what+", moved into it", impl.MoveTerm(good, 2, table), told)
		wantTerm(t, what+", moved into itself", impl.MoveTerm(table, at, table), told)
		wantPlaces(t, what+", parts", impl.PartsOf(table, at), impl.IntsResult{Code: code})
		if got := impl.SizeOf(table, at); got != (impl.IntResult{Code: code}) {
			t.Errorf("%s: size %v, want code %d", what, got, code)
		}
		if got := impl.TermText(table, at); got != (impl.TextResult{Code: code}) {
			t.Errorf("%s: text %v, want code %d", what, got, code)
		}
		if impl.OccursIn(table, at, at) || impl.OccursIn(table, 0, at) {
			t.Error(what, "has a fault, and something occurs at", at)
		}
		if impl.SameTerms(table, at, table, at) || impl.SameTerms(table, at, good, 0) || impl.SameTerms(good, 0, table, at) {
			t.Error(what, "has a fault, and something is the same at", at)
		}
	}
	wantTerm(t, what+", empty list", impl.PutList(table, nil), told)
}

// someTerms are n terms without a fault; few names and secrets, so that parts often stand in several.
func someTerms(r *rand.Rand, n int) []impl.Term {
	var table []impl.Term
	for len(table) < n {
		x := impl.Term{Op: 1 + r.Int63n(7)}
		near := min(int64(len(table))+1, 40)
		for _, field := range termFields[1:] {
			switch {
			case !strings.Contains(fieldsNamed[x.Op], field.name):
			case field.name == "N":
				x.N = someNumber(r)
			default:
				*field.of(&x) = int64(len(table)) - 1 - r.Int63n(near)
			}
		}
		if x.Op >= 6 {
			x.A, x.B = secretOr(r, table, x.A), secretOr(r, table, x.B)
			if x.Op == 6 {
				x.B = 0
			} else if x.A > x.B {
				x.A, x.B = x.B, x.A
			}
		}
		if wantedTermFault(table, x) == impl.OK && !slices.Contains(table, x) {
			table = append(table, x)
		}
	}
	return table
}

// someNumber is mostly one of a few.
func someNumber(r *rand.Rand) int64 {
	if r.Intn(8) == 0 {
		return r.Int63n(10000)
	}
	return r.Int63n(6)
}

// secretOr is the place of some secret, or the other place, if there is none.
func secretOr(r *rand.Rand, table []impl.Term, other int64) int64 {
	var secrets []int64
	for at, x := range table {
		if x.Op == 2 {
			secrets = append(secrets, int64(at))
		}
	}
	if len(secrets) == 0 {
		return other
	}
	return secrets[r.Intn(len(secrets))]
}

// shuffled has the same terms in another order, with each one's new place.
func shuffled(r *rand.Rand, table []impl.Term) ([]impl.Term, []int64) {
	var other []impl.Term
	places := slices.Repeat([]int64{-1}, len(table))
	for len(other) < len(table) {
		at := r.Intn(len(table))
		x := table[at]
		ready := places[at] < 0
		for _, part := range partsNamed(x) {
			ready = ready && places[part] >= 0
		}
		if !ready {
			continue
		}
		switch parts := partsNamed(x); len(parts) {
		case 1:
			x.A = places[x.A]
		case 2:
			x.A, x.B = places[x.A], places[x.B]
			if x.Op == 7 && x.A > x.B {
				x.A, x.B = x.B, x.A
			}
		}
		places[at] = int64(len(other))
		other = append(other, x)
	}
	return other, places
}

// tableBeside is another table: one that is nearly full, or has some of the same terms, or any one, by turns.
func tableBeside(r *rand.Rand, turn int, table []impl.Term) []impl.Term {
	switch turn % 4 {
	case 0:
		return someTerms(r, 396+r.Intn(5))
	case 1:
		other, _ := shuffled(r, table)
		return other[:r.Intn(len(other)+1)]
	}
	return someTerms(r, r.Intn(40))
}

func TestNumbersOfTermsAreThoseOfTheDocument(t *testing.T) {
	numbers := []int64{impl.MaxTerms, impl.OpName, impl.OpFresh, impl.OpPair, impl.OpPrf, impl.OpSeal, impl.OpHalf, impl.OpBoth}
	if !slices.Equal(numbers, []int64{400, 1, 2, 3, 4, 5, 6, 7}) {
		t.Error(numbers)
	}
}

func TestTermsFaultOfEveryLength(t *testing.T) {
	for length := 0; length <= 410; length++ {
		want := int64(impl.OK)
		if length > 400 {
			want = impl.ErrMany
		}
		for _, table := range [][]impl.Term{names(length), doubled(length)} {
			if got := impl.TermsFault(table); got != want {
				t.Errorf("%d terms: fault %d, want %d", length, got, want)
			}
		}
	}
	for _, table := range [][]impl.Term{names(401), doubled(401), make([]impl.Term, 401), slices.Repeat(names(1), 1000)} {
		wantAllTermCodes(t, fmt.Sprint(len(table), " terms"), table, impl.ErrMany)
	}
	for _, table := range [][]impl.Term{nil, {}} {
		if got := impl.TermsFault(table); got != impl.OK {
			t.Error("no term: fault", got)
		}
	}
}

func TestEachOpNamesItsFields(t *testing.T) {
	ahead := tableOf(freshTerm(0), freshTerm(1), nameTerm(2))
	right := map[int64]impl.Term{1: {Op: 1, N: 5}, 2: {Op: 2, N: 5}, 3: {Op: 3, A: 2, B: 1}, 4: {Op: 4, A: 2, B: 1}, 5: {Op: 5, A: 2, B: 1}, 6: {Op: 6, A: 1}, 7: {Op: 7, A: 0, B: 1}}
	for _, op := range []int64{math.MinInt64, -1, 0, 1, 2, 3, 4, 5, 6, 7, 8, 9, 1 + 1<<32, math.MaxInt64} {
		x := right[op]
		x.Op = op
		if _, known := right[op]; !known {
			wantPutCode(t, "no Op", ahead, x, impl.ErrText)
			continue
		}
		wantPutCode(t, "what it names alone", ahead, x, impl.OK)
		for _, field := range termFields[1:] {
			if strings.Contains(fieldsNamed[op], field.name) {
				continue
			}
			for _, n := range []int64{math.MinInt64, -1, 1, 2, 9999, 1 << 32, math.MaxInt64} {
				more := x
				*field.of(&more) = n
				wantPutCode(t, fmt.Sprint("Op ", op, " with ", field.name, " ", n), ahead, more, impl.ErrForm)
			}
		}
	}
}

// wantPutCode fails the test unless the term behind the others has the code, as it stands there and as it is put.
func wantPutCode(t *testing.T, what string, ahead []impl.Term, x impl.Term, code int64) {
	t.Helper()
	table := behind(ahead, x)
	want := impl.TermResult{Code: code}
	if code == impl.OK {
		want = impl.TermResult{At: int64(len(ahead)), Table: table}
		if got := impl.TermsFault(table); got != impl.OK {
			t.Errorf("%s: %v: fault %d", what, x, got)
		}
	} else {
		wantAllTermCodes(t, fmt.Sprint(what, ": ", x), table, code)
	}
	wantTerm(t, fmt.Sprint(what, ": ", x, " put"), impl.PutTerm(ahead, x), want)
}

func TestNamesAndSecretsAreFromNoughtTo9999(t *testing.T) {
	for _, termOf := range []func(n int64) impl.Term{nameTerm, freshTerm} {
		for _, n := range []int64{0, 1, 5, 400, 9998, 9999} {
			wantPutCode(t, "a number", nil, termOf(n), impl.OK)
			wantPutCode(t, "a number behind others", tableOf(nameTerm(7), freshTerm(8), nameTerm(8)), termOf(n), impl.OK)
		}
		for _, n := range []int64{math.MinInt64, math.MinInt64 + 1, -9999, -1, 10000, 10001, 1 << 32, math.MaxInt64} {
			wantPutCode(t, "no number", nil, termOf(n), impl.ErrRange)
			wantPutCode(t, "no number behind others", tableOf(nameTerm(7), freshTerm(8)), termOf(n), impl.ErrRange)
		}
	}
}

func TestATermNamesOnlyTermsAheadOfIt(t *testing.T) {
	// The terms behind the one in the middle are there as well, but not ahead of it.
	ahead, rest := tableOf(freshTerm(0), freshTerm(1), freshTerm(2)), tableOf(freshTerm(3), freshTerm(4))
	for _, op := range []int64{3, 4, 5, 6, 7} {
		for _, a := range []int64{math.MinInt64, -1, 0, 1, 2, 3, 4, 5, 6, math.MaxInt64} {
			for _, b := range []int64{math.MinInt64, -1, 0, 1, 2, 3, 4, 5, 6, math.MaxInt64} {
				if op == 6 && b != 0 {
					continue
				}
				x := impl.Term{Op: op, A: a, B: b}
				code := int64(impl.OK)
				switch {
				case a < 0 || a > 2 || b < 0 || b > 2:
					code = impl.ErrRange
				case op == 7 && a > b:
					code = impl.ErrForm
				}
				if got := impl.TermsFault(behind(behind(ahead, x), rest...)); got != code {
					t.Errorf("%v among others: fault %d, want %d", x, got, code)
				}
				wantPutCode(t, "behind three", ahead, x, code)
			}
		}
	}
	// The first term has nothing ahead of it.
	for _, x := range tableOf(pairTerm(0, 0), prfTerm(0, 0), sealTerm(0, 0), halfTerm(0), bothTerm(0, 0), pairTerm(-1, -1)) {
		wantPutCode(t, "the first one", nil, x, impl.ErrRange)
	}
}

func TestHalvesAndBothsAreOfSecrets(t *testing.T) {
	ahead := tableOf(nameTerm(0), freshTerm(0), freshTerm(1), pairTerm(1, 2), prfTerm(1, 1), sealTerm(1, 2), halfTerm(1), bothTerm(1, 2), freshTerm(9999))
	for a, x := range ahead {
		code := int64(impl.ErrForm)
		if x.Op == 2 {
			code = impl.OK
		}
		if a != 1 {
			wantPutCode(t, "a half", ahead, halfTerm(int64(a)), code)
		}
		for b, y := range ahead {
			code := int64(impl.ErrForm)
			if x.Op == 2 && y.Op == 2 && a <= b {
				code = impl.OK
			}
			if a != 1 || b != 2 {
				wantPutCode(t, "a both", ahead, bothTerm(int64(a), int64(b)), code)
			}
		}
	}
	// What stands at the place 0 is asked only where it is named.
	wantPutCode(t, "a half, no secret at 0", ahead, halfTerm(2), impl.OK)
	wantPutCode(t, "a both of one secret twice", ahead, bothTerm(1, 1), impl.OK)
	wantPutCode(t, "a both of another one twice", ahead, bothTerm(8, 8), impl.OK)
	wantPutCode(t, "a both with A behind B", ahead, bothTerm(2, 1), impl.ErrForm)
	wantPutCode(t, "a both with A far behind B", ahead, bothTerm(8, 1), impl.ErrForm)
}

func TestATermIsThereOnce(t *testing.T) {
	table := tableOf(freshTerm(0), freshTerm(1), nameTerm(0), nameTerm(1), pairTerm(0, 1), pairTerm(1, 0), prfTerm(0, 1), sealTerm(0, 1), halfTerm(0), bothTerm(0, 1), bothTerm(0, 0))
	if got := impl.TermsFault(table); got != impl.OK {
		t.Fatal("terms that differ in one field are not the same:", got)
	}
	for at, x := range table {
		wantAllTermCodes(t, fmt.Sprint(x, " once more at the end"), behind(table, x), impl.ErrTaken)
		wantAllTermCodes(t, fmt.Sprint(x, " once more next to it"), slices.Insert(slices.Clone(table), at+1, x), wantedTermsFault(slices.Insert(slices.Clone(table), at+1, x)))
		wantTerm(t, fmt.Sprint(x, " put once more"), impl.PutTerm(table, x), impl.TermResult{At: int64(at), Table: table})
	}
	wantAllTermCodes(t, "the first one twice more", tableOf(nameTerm(5), nameTerm(6), nameTerm(5), nameTerm(5)), impl.ErrTaken)
	wantAllTermCodes(t, "among others", tableOf(nameTerm(5), nameTerm(6), nameTerm(6), nameTerm(7)), impl.ErrTaken)
	full := names(400)
	full[399] = nameTerm(0)
	wantAllTermCodes(t, "the first one of 400 as the last", full, impl.ErrTaken)
	full[399] = nameTerm(398)
	wantAllTermCodes(t, "the last but one of 400 as the last", full, impl.ErrTaken)
}

func TestTermsFaultOfTwoFaultsIsTheFirstNamed(t *testing.T) {
	ahead := tableOf(nameTerm(0), freshTerm(0), freshTerm(1))
	cases := []struct {
		what string
		x    impl.Term
		code int64
	}{
		{"no Op, and all fields", impl.Term{Op: 0, A: 1, B: 1, N: 1}, impl.ErrText},
		{"no Op, and nothing is in its range", impl.Term{Op: 8, A: -1, B: 9, N: 10000}, impl.ErrText},
		{"the zero value", impl.Term{}, impl.ErrText},
		{"a name with A, and N too great", impl.Term{Op: 1, A: 1, N: 10000}, impl.ErrForm},
		{"a secret with B, and N below 0", impl.Term{Op: 2, B: -1, N: -1}, impl.ErrForm},
		{"a pair with N, and A is no place", impl.Term{Op: 3, A: 9, B: 0, N: 1}, impl.ErrForm},
		{"a half with B, and A is no place", impl.Term{Op: 6, A: -1, B: 1}, impl.ErrForm},
		{"a half with N, and A is no place", impl.Term{Op: 6, A: 9, N: 1}, impl.ErrForm},
		{"a both of what is no secret and what is no place", bothTerm(0, 9), impl.ErrRange},
		{"a both of what is no place and what is no secret", bothTerm(-1, 0), impl.ErrRange},
		{"a both with A behind B, and no place", bothTerm(9, 0), impl.ErrRange},
		{"a both with A behind B, no secret", bothTerm(1, 0), impl.ErrForm},
		{"a pair of no places", pairTerm(3, -1), impl.ErrRange},
	}
	for _, c := range cases {
		wantPutCode(t, c.what, ahead, c.x, c.code)
	}
}

func TestTermsFaultGoesTermByTerm(t *testing.T) {
	faults := []struct {
		what string
		x    impl.Term
		code int64
	}{
		{"no Op", impl.Term{}, impl.ErrText},
		{"a field too many", impl.Term{Op: 1, A: 1, N: 1}, impl.ErrForm},
		{"a number out of its range", nameTerm(-1), impl.ErrRange},
		{"a place behind all", pairTerm(400, 400), impl.ErrRange},
		{"a half of no secret", halfTerm(0), impl.ErrForm},
		{"one that is there", nameTerm(0), impl.ErrTaken},
	}
	first, middle := names(1), names(398)[1:]
	for _, one := range faults {
		wantAllTermCodes(t, one.what+", the second", behind(first, one.x), one.code)
		wantAllTermCodes(t, one.what+", the second of 399", slices.Concat(first, tableOf(one.x), middle), one.code)
		wantAllTermCodes(t, one.what+", the last of 400", slices.Concat(names(399), tableOf(one.x)), one.code)
		wantAllTermCodes(t, one.what+", the last of 401", slices.Concat(names(400), tableOf(one.x)), impl.ErrMany)
		for _, two := range faults {
			what := one.what + " ahead of " + two.what
			wantAllTermCodes(t, what, slices.Concat(first, tableOf(one.x, two.x)), one.code)
			wantAllTermCodes(t, what+", far apart", slices.Concat(first, tableOf(one.x), middle, tableOf(two.x)), one.code)
		}
	}
	for _, one := range faults[:4] {
		wantAllTermCodes(t, one.what+", the first", behind(tableOf(one.x), names(20)...), one.code)
	}
}

func TestPutTermIntoATableThatIsFull(t *testing.T) {
	full := names(400)
	for _, at := range []int64{0, 1, 200, 398, 399} {
		wantTerm(t, "it is there", impl.PutTerm(full, full[at]), impl.TermResult{At: at, Table: full})
	}
	for _, x := range tableOf(nameTerm(400), freshTerm(0), pairTerm(0, 399), prfTerm(399, 399), sealTerm(0, 0)) {
		wantTerm(t, "it is not there", impl.PutTerm(full, x), impl.TermResult{Code: impl.ErrMany})
	}
	// What is wrong with the term is told ahead of that.
	cases := map[impl.Term]int64{{}: impl.ErrText, {Op: 1, B: 1}: impl.ErrForm, nameTerm(10000): impl.ErrRange, pairTerm(0, 400): impl.ErrRange, halfTerm(0): impl.ErrForm}
	for x, code := range cases {
		wantTerm(t, fmt.Sprint("wrong: ", x), impl.PutTerm(full, x), impl.TermResult{Code: code})
	}
	almost := full[:399:399]
	last := impl.PutTerm(almost, nameTerm(399))
	wantTerm(t, "the last one that finds room", last, impl.TermResult{At: 399, Table: full})
	wantTerm(t, "and one more", impl.PutTerm(last.Table, nameTerm(400)), impl.TermResult{Code: impl.ErrMany})
}

func TestPutBothTakesTheLesserOneFirst(t *testing.T) {
	table := tableOf(freshTerm(5), nameTerm(5), freshTerm(2), freshTerm(3))
	for _, x := range placesAround(table) {
		for _, y := range placesAround(table) {
			wantTerm(t, fmt.Sprint(x, " and ", y), impl.PutBoth(table, x, y), wantedBoth(table, x, y))
		}
	}
	for _, two := range [][2]int64{{0, 2}, {2, 0}} {
		got := impl.PutBoth(table, two[0], two[1])
		wantTerm(t, "below and above", got, impl.TermResult{At: 4, Table: behind(table, bothTerm(0, 2))})
		wantTerm(t, "the other way round", impl.PutBoth(got.Table, two[1], two[0]), got)
	}
	wantTerm(t, "one secret twice", impl.PutBoth(table, 3, 3), impl.TermResult{At: 4, Table: behind(table, bothTerm(3, 3))})
	for _, two := range [][2]int64{{0, 1}, {1, 0}, {1, 1}} {
		wantTerm(t, "no secret", impl.PutBoth(table, two[0], two[1]), impl.TermResult{Code: impl.ErrForm})
	}
	for _, two := range [][2]int64{{0, 4}, {4, 0}, {-1, 0}, {0, -1}, {1, 4}, {math.MaxInt64, math.MinInt64}} {
		wantTerm(t, "no place", impl.PutBoth(table, two[0], two[1]), impl.TermResult{Code: impl.ErrRange})
	}
	full := behind(tableOf(freshTerm(1), freshTerm(2), bothTerm(0, 1)), names(397)...)
	wantTerm(t, "there in a full table", impl.PutBoth(full, 1, 0), impl.TermResult{At: 2, Table: full})
	wantTerm(t, "not there in a full table", impl.PutBoth(full, 1, 1), impl.TermResult{Code: impl.ErrMany})
}

func TestPutListOfKnownLists(t *testing.T) {
	table := tableOf(freshTerm(1), freshTerm(2), nameTerm(3), nameTerm(0))
	less := table[:3]
	cases := []struct {
		what  string
		table []impl.Term
		list  []int64
		at    int64
		more  []impl.Term
	}{
		{"empty, the name 0 is there", table, nil, 3, nil},
		{"empty, the name 0 is not there", less, []int64{}, 3, tableOf(nameTerm(0))},
		{"empty, into an empty table", nil, nil, 0, tableOf(nameTerm(0))},
		{"of one place", table, []int64{1}, 1, nil},
		{"of the first place", table, []int64{0}, 0, nil},
		{"of the last place", table, []int64{3}, 3, nil},
		{"of two", table, []int64{1, 2}, 4, tableOf(pairTerm(1, 2))},
		{"of two, the other way round", table, []int64{2, 1}, 4, tableOf(pairTerm(2, 1))},
		{"of one twice", table, []int64{2, 2}, 4, tableOf(pairTerm(2, 2))},
		{"of three", table, []int64{0, 1, 2}, 5, tableOf(pairTerm(1, 2), pairTerm(0, 4))},
		{"of five", table, []int64{3, 3, 0, 1, 2}, 7, tableOf(pairTerm(1, 2), pairTerm(0, 4), pairTerm(3, 5), pairTerm(3, 6))},
		{"of three, whose end is there", behind(table, pairTerm(1, 2)), []int64{0, 1, 2}, 5, tableOf(pairTerm(0, 4))},
		{"of three, that is there", behind(table, pairTerm(1, 2), pairTerm(0, 4)), []int64{0, 1, 2}, 5, nil},
		{"whose last one is a pair", behind(table, pairTerm(1, 2)), []int64{0, 4}, 5, tableOf(pairTerm(0, 4))},
		{"whose first one is a pair", behind(table, pairTerm(1, 2)), []int64{4, 0}, 5, tableOf(pairTerm(4, 0))},
	}
	for _, c := range cases {
		wantTerm(t, c.what, impl.PutList(c.table, c.list), impl.TermResult{At: c.at, Table: behind(c.table, c.more...)})
	}
	for _, list := range [][]int64{{-1}, {4}, {0, 4}, {4, 0}, {0, 1, -1, 2}, {math.MinInt64}, {0, math.MaxInt64}, slices.Repeat([]int64{4}, 1000)} {
		wantTerm(t, "a place that is none", impl.PutList(table, list), impl.TermResult{Code: impl.ErrRange})
	}
	wantTerm(t, "the first place of an empty table", impl.PutList(nil, []int64{0}), impl.TermResult{Code: impl.ErrRange})
}

func TestPutListOfEveryLength(t *testing.T) {
	table := tableOf(nameTerm(1), nameTerm(2), freshTerm(3))
	for length := 0; length <= 420; length++ {
		if length > 20 && length < 390 && length%40 != 0 {
			continue
		}
		list := make([]int64, length)
		for i := range list {
			list[i] = int64(i*i) % 3
		}
		got := impl.PutList(table, list)
		wantTerm(t, fmt.Sprint("of ", length), got, wantedList(table, list))
		if length > 398 && got.Code != impl.ErrMany || length <= 398 && got.Code != impl.OK {
			t.Error("of", length, "code", got.Code)
		}
		if got.Code == impl.OK {
			wantTerm(t, fmt.Sprint("of ", length, " once more"), impl.PutList(got.Table, list), got)
		}
	}
	full := doubled(400)
	for _, list := range [][]int64{nil, {0}, {399}, {0, 0}, {0, 1}, {7, 7}, {399, 0}, {3, 2, 1, 0, 0}, {1, 0, 0}, {2, 1, 0, 0}} {
		wantTerm(t, fmt.Sprint("of ", list, " in a full table"), impl.PutList(full, list), wantedList(full, list))
	}
	wantTerm(t, "an empty list in a full table", impl.PutList(full, nil), impl.TermResult{Code: impl.ErrMany})
	wantTerm(t, "a list that is there in a full table", impl.PutList(full, []int64{2, 1, 0, 0}), impl.TermResult{At: 3, Table: full})
	wantTerm(t, "a list of a million", impl.PutList(full, make([]int64, 1000000)), impl.TermResult{Code: impl.ErrMany})
	wrong := make([]int64, 1000000)
	wrong[0] = 400
	wantTerm(t, "a list of a million, its first one no place", impl.PutList(full, wrong), impl.TermResult{Code: impl.ErrRange})
}

func TestSizeOfKnownTerms(t *testing.T) {
	table := tableOf(freshTerm(1), freshTerm(2), nameTerm(3), halfTerm(0), bothTerm(0, 1), bothTerm(1, 1), pairTerm(0, 2), pairTerm(6, 6), prfTerm(7, 4), sealTerm(8, 3))
	for at, want := range []int64{1, 1, 1, 2, 3, 3, 3, 7, 11, 14} {
		if got := impl.SizeOf(table, int64(at)); got != (impl.IntResult{Value: want}) {
			t.Errorf("size at %d: %v, want %d", at, got, want)
		}
	}
	// The sizes of what is doubled are 1, 3, 7 and so on.
	twice := doubled(400)
	for at := int64(0); at < 400; at++ {
		want := int64(1000000)
		if at < 19 {
			want = 1<<(at+1) - 1
		}
		if got := impl.SizeOf(twice, at); got != (impl.IntResult{Value: want}) {
			t.Errorf("doubled %d times: %v, want %d", at, got, want)
		}
	}
}

// sized is a table, and its last term has the size.
func sized(size int64) []impl.Term {
	table := tableOf(freshTerm(1), halfTerm(0))
	at := map[int64]int64{1: 0, 2: 1}
	var build func(size int64) int64
	build = func(size int64) int64 {
		if place, there := at[size]; there {
			return place
		}
		a := build((size - 1) / 2)
		b := build(size - 1 - (size-1)/2)
		table = append(table, pairTerm(a, b))
		at[size] = int64(len(table)) - 1
		return at[size]
	}
	return table[:max(build(size)+1, int64(len(table)))]
}

func TestSizeOfEndsAtAMillion(t *testing.T) {
	for _, size := range []int64{3, 4, 199, 200, 201, 499999, 500000, 999998, 999999, 1000000, 1000001, 1000002, 1999999, 2000001, 1 << 40} {
		table := sized(size)
		last := int64(len(table)) - 1
		if got := sizesIn(table)[last].Int64(); got != size {
			t.Fatal("built", got, "for", size)
		}
		if got := impl.SizeOf(table, last); got != (impl.IntResult{Value: min(size, 1000000)}) {
			t.Errorf("size %d: %v", size, got)
		}
	}
}

func TestPartsOfKnownTerms(t *testing.T) {
	table := tableOf(freshTerm(1), freshTerm(2), nameTerm(3), halfTerm(0), bothTerm(0, 1), bothTerm(1, 1), pairTerm(0, 2), pairTerm(6, 6), prfTerm(7, 4), nameTerm(4), sealTerm(3, 8))
	want := [][]int64{{0}, {1}, {2}, {0, 3}, {0, 1, 4}, {1, 5}, {0, 2, 6}, {0, 2, 6, 7}, {0, 1, 2, 4, 6, 7, 8}, {9}, {0, 1, 2, 3, 4, 6, 7, 8, 10}}
	for at, parts := range want {
		wantPlaces(t, fmt.Sprint("at ", at), impl.PartsOf(table, int64(at)), impl.IntsResult{List: parts})
		for small := range table {
			if got := impl.OccursIn(table, int64(small), int64(at)); got != slices.Contains(parts, int64(small)) {
				t.Errorf("%d occurs in %d: %v", small, at, got)
			}
		}
	}
	// What is doubled stands there more often than can be counted, and is told once.
	twice := doubled(400)
	var all []int64
	for at := int64(0); at < 400; at++ {
		all = append(all, at)
	}
	wantPlaces(t, "all of 400", impl.PartsOf(twice, 399), impl.IntsResult{List: all})
	wantPlaces(t, "half of 400", impl.PartsOf(twice, 199), impl.IntsResult{List: all[:200]})
}

func TestOccursInIsToldOfPlacesAlone(t *testing.T) {
	table := tableOf(freshTerm(0), nameTerm(0), pairTerm(0, 0), halfTerm(0), pairTerm(2, 1))
	for _, small := range placesAround(table) {
		for _, big := range placesAround(table) {
			if got, want := impl.OccursIn(table, small, big), wantedOccurs(table, small, big); got != want {
				t.Errorf("%d occurs in %d: %v", small, big, got)
			}
		}
	}
	for at := int64(0); at < 5; at++ {
		if !impl.OccursIn(table, at, at) {
			t.Error("a term occurs not in itself:", at)
		}
	}
	if impl.OccursIn(table, 2, 0) || impl.OccursIn(table, 3, 4) || impl.OccursIn(table, 1, 2) || !impl.OccursIn(table, 0, 4) {
		t.Error("what occurs where")
	}
}

func TestMoveTermOfKnownTables(t *testing.T) {
	from := tableOf(freshTerm(1), freshTerm(2), nameTerm(3), halfTerm(0), bothTerm(0, 1), pairTerm(2, 4), sealTerm(0, 5), bothTerm(1, 1), prfTerm(7, 0))
	// The same as at the place 6, its parts alone and in their order.
	alone := tableOf(freshTerm(1), freshTerm(2), nameTerm(3), bothTerm(0, 1), pairTerm(2, 3), sealTerm(0, 4))
	cases := []struct {
		what string
		at   int64
		to   []impl.Term
		want impl.TermResult
	}{
		{"into an empty table", 6, nil, impl.TermResult{At: 5, Table: alone}},
		{"into one that has it", 6, alone, impl.TermResult{At: 5, Table: alone}},
		{"into one that has it among others", 6, behind(alone, nameTerm(9), halfTerm(1)), impl.TermResult{At: 5, Table: behind(alone, nameTerm(9), halfTerm(1))}},
		{"into one that has a part of it", 6, tableOf(nameTerm(8), freshTerm(2), nameTerm(3)),
			impl.TermResult{At: 6, Table: tableOf(nameTerm(8), freshTerm(2), nameTerm(3), freshTerm(1), bothTerm(1, 3), pairTerm(2, 4), sealTerm(3, 5))}},
		{"into one that has the secrets in the other order", 6, tableOf(freshTerm(2), freshTerm(1)),
			impl.TermResult{At: 5, Table: tableOf(freshTerm(2), freshTerm(1), nameTerm(3), bothTerm(0, 1), pairTerm(2, 3), sealTerm(1, 4))}},
		{"into one that has the both in the other order", 4, tableOf(freshTerm(2), nameTerm(7), freshTerm(1), bothTerm(0, 2)),
			impl.TermResult{At: 3, Table: tableOf(freshTerm(2), nameTerm(7), freshTerm(1), bothTerm(0, 2))}},
		{"into its own table", 6, from, impl.TermResult{At: 6, Table: from}},
		{"a name into an empty table", 2, nil, impl.TermResult{At: 0, Table: tableOf(nameTerm(3))}},
		{"a secret into an empty table", 1, nil, impl.TermResult{At: 0, Table: tableOf(freshTerm(2))}},
		{"a half into an empty table", 3, nil, impl.TermResult{At: 1, Table: tableOf(freshTerm(1), halfTerm(0))}},
		{"a both of one secret twice", 7, tableOf(freshTerm(9)), impl.TermResult{At: 2, Table: tableOf(freshTerm(9), freshTerm(2), bothTerm(1, 1))}},
		{"a pseudo-random one", 8, nil, impl.TermResult{At: 3, Table: tableOf(freshTerm(1), freshTerm(2), bothTerm(1, 1), prfTerm(2, 0))}},
	}
	for _, c := range cases {
		wantTerm(t, c.what, impl.MoveTerm(from, c.at, c.to), c.want)
		wantMoved(t, c.what, from, c.at, c.to)
	}
}

func TestMoveTermIntoATableThatIsFull(t *testing.T) {
	from := tableOf(freshTerm(1), freshTerm(2), bothTerm(0, 1), pairTerm(2, 0))
	has := tableOf(freshTerm(2), freshTerm(1), bothTerm(0, 1), pairTerm(2, 1))
	full := behind(has, names(396)...)
	for at, place := range []int64{1, 0, 2, 3} {
		wantTerm(t, "all of it is there", impl.MoveTerm(from, int64(at), full), impl.TermResult{At: place, Table: full})
	}
	for kept := 0; kept < 4; kept++ {
		// Four terms are moved: those that the table lacks find room, or do not.
		for free := 0; free <= 5; free++ {
			to := behind(has[:kept], names(400-kept-free)...)
			got := impl.MoveTerm(from, 3, to)
			wantTerm(t, fmt.Sprint(kept, " there, room for ", free), got, wantedMove(from, 3, to))
			if (got.Code == impl.OK) != (free >= 4-kept) || got.Code != impl.OK && got.Code != impl.ErrMany {
				t.Error(kept, "there, room for", free, "code", got.Code)
			}
		}
	}
	wantMoved(t, "400 into an empty table", doubled(400), 399, nil)
	wantMoved(t, "400 into their own table", doubled(400), 399, doubled(400))
	wantTerm(t, "400 into one with another term", impl.MoveTerm(doubled(400), 399, names(1)), impl.TermResult{Code: impl.ErrMany})
	wantTerm(t, "399 into one with another term", impl.MoveTerm(doubled(400), 398, names(1)), wantedMove(doubled(400), 398, names(1)))
}

func TestMoveTermTellsTheFirstFault(t *testing.T) {
	good, text, form, full := tableOf(freshTerm(1), halfTerm(0)), tableOf(impl.Term{}), tableOf(nameTerm(1), halfTerm(0)), names(400)
	cases := []struct {
		what string
		from []impl.Term
		at   int64
		to   []impl.Term
		code int64
	}{
		{"a fault of both tables", text, 0, form, impl.ErrText},
		{"a fault of both tables, the other way round", form, 0, text, impl.ErrForm},
		{"a fault of the table to move from, and no place", form, 9, good, impl.ErrForm},
		{"a fault of the table to move into, and no place", good, 9, text, impl.ErrText},
		{"a fault of the table to move into", good, 1, form, impl.ErrForm},
		{"no place, and no room", good, 2, full, impl.ErrRange},
		{"a place below 0, and no room", good, -1, full, impl.ErrRange},
		{"a place of the other table", good, 5, full, impl.ErrRange},
		{"no room", good, 1, full, impl.ErrMany},
		{"no room, too many to move from", names(401), 0, full, impl.ErrMany},
		{"too many to move into", good, 0, names(401), impl.ErrMany},
		{"an empty table to move from", nil, 0, good, impl.ErrRange},
		{"two empty tables", nil, 0, nil, impl.ErrRange},
	}
	for _, c := range cases {
		wantTerm(t, c.what, impl.MoveTerm(c.from, c.at, c.to), impl.TermResult{Code: c.code})
	}
	for _, at := range []int64{math.MinInt64, -1, 2, 3, 1 << 32, math.MaxInt64} {
		wantTerm(t, "no place", impl.MoveTerm(good, at, nil), impl.TermResult{Code: impl.ErrRange})
	}
}

func TestSameTermsGoesByHowTheyAreMade(t *testing.T) {
	// Two tables whose last terms are made of the same: s1, s2 and n1 in other orders, and other terms between.
	a := tableOf(freshTerm(1), freshTerm(2), nameTerm(1), halfTerm(0), bothTerm(0, 1), pairTerm(2, 4), prfTerm(3, 5), sealTerm(6, 2))
	b := tableOf(nameTerm(1), nameTerm(2), freshTerm(2), freshTerm(1), bothTerm(2, 3), halfTerm(3), pairTerm(0, 4), prfTerm(5, 6), pairTerm(1, 1), sealTerm(7, 0))
	same := map[[2]int64]bool{{0, 3}: true, {1, 2}: true, {2, 0}: true, {3, 5}: true, {4, 4}: true, {5, 6}: true, {6, 7}: true, {7, 9}: true}
	for _, x := range placesAround(a) {
		for _, y := range placesAround(b) {
			want := same[[2]int64{x, y}]
			if impl.SameTerms(a, x, b, y) != want || impl.SameTerms(b, y, a, x) != want {
				t.Errorf("%d and %d: the same: %v", x, y, !want)
			}
		}
	}
	base := tableOf(freshTerm(1), freshTerm(2), nameTerm(1), halfTerm(0), bothTerm(0, 1), pairTerm(2, 3), sealTerm(4, 5))
	others := map[string][]impl.Term{
		"another name":             tableOf(freshTerm(1), freshTerm(2), nameTerm(2), halfTerm(0), bothTerm(0, 1), pairTerm(2, 3), sealTerm(4, 5)),
		"another secret":           tableOf(freshTerm(1), freshTerm(3), nameTerm(1), halfTerm(0), bothTerm(0, 1), pairTerm(2, 3), sealTerm(4, 5)),
		"a name for a secret":      tableOf(freshTerm(1), freshTerm(2), freshTerm(4), halfTerm(0), bothTerm(0, 1), pairTerm(2, 3), sealTerm(4, 5)),
		"what comes of it":         tableOf(freshTerm(1), freshTerm(2), nameTerm(1), halfTerm(0), bothTerm(0, 1), pairTerm(2, 3), prfTerm(4, 5)),
		"a pair":                   tableOf(freshTerm(1), freshTerm(2), nameTerm(1), halfTerm(0), bothTerm(0, 1), pairTerm(2, 3), pairTerm(4, 5)),
		"sealed the other way":     tableOf(freshTerm(1), freshTerm(2), nameTerm(1), halfTerm(0), bothTerm(0, 1), pairTerm(2, 3), sealTerm(5, 4)),
		"a pair the other way":     tableOf(freshTerm(1), freshTerm(2), nameTerm(1), halfTerm(0), bothTerm(0, 1), pairTerm(3, 2), sealTerm(4, 5)),
		"the half of the other":    tableOf(freshTerm(1), freshTerm(2), nameTerm(1), halfTerm(1), bothTerm(0, 1), pairTerm(2, 3), sealTerm(4, 5)),
		"a both of the one twice":  tableOf(freshTerm(1), freshTerm(2), nameTerm(1), halfTerm(0), bothTerm(0, 0), pairTerm(2, 3), sealTerm(4, 5)),
		"a both of the other":      tableOf(freshTerm(1), freshTerm(2), nameTerm(1), halfTerm(0), bothTerm(1, 1), pairTerm(2, 3), sealTerm(4, 5)),
		"a half for the both":      tableOf(freshTerm(1), freshTerm(2), nameTerm(1), halfTerm(0), halfTerm(1), pairTerm(2, 3), sealTerm(4, 5)),
		"the secret for its half":  tableOf(freshTerm(1), freshTerm(2), nameTerm(1), halfTerm(0), bothTerm(0, 1), pairTerm(2, 0), sealTerm(4, 5)),
		"the secrets' numbers new": tableOf(freshTerm(2), freshTerm(1), nameTerm(1), halfTerm(0), bothTerm(0, 1), pairTerm(2, 3), sealTerm(4, 5)),
	}
	for what, other := range others {
		if impl.TermsFault(other) != impl.OK || impl.SameTerms(base, 6, other, 6) || impl.SameTerms(other, 6, base, 6) {
			t.Error(what, "is the same")
		}
	}
	if !impl.SameTerms(base, 6, base, 6) || !impl.SameTerms(base, 4, others["the secrets' numbers new"], 4) {
		t.Error("what is the same is not")
	}
	if !impl.SameTerms(doubled(400), 399, doubled(400), 399) || impl.SameTerms(doubled(400), 399, doubled(400), 398) {
		t.Error("what is doubled")
	}
}

func TestSameTermsIsNotSoWhereThereIsAFault(t *testing.T) {
	good := tableOf(freshTerm(1), nameTerm(1))
	for _, wrong := range [][]impl.Term{nil, tableOf(impl.Term{}), behind(good, good[0]), behind(good, halfTerm(1)), names(401)} {
		for _, x := range []int64{-1, 0, 1, 2, 400, 401} {
			for _, y := range []int64{-1, 0, 1, 2, 400, 401} {
				if impl.SameTerms(good, x, wrong, y) || impl.SameTerms(wrong, x, good, y) || impl.SameTerms(wrong, x, wrong, y) {
					t.Error("the same:", x, y, "with", wrong)
				}
			}
		}
	}
}

func TestTermTextOfKnownTerms(t *testing.T) {
	table := tableOf(
		nameTerm(0), nameTerm(9999), freshTerm(0), freshTerm(10), freshTerm(9), pairTerm(0, 1), prfTerm(1, 2), sealTerm(3, 0),
		halfTerm(4), bothTerm(3, 4), bothTerm(2, 3), bothTerm(4, 4), pairTerm(5, 5), pairTerm(12, 2), sealTerm(9, 13), prfTerm(7, 6), pairTerm(2, 12),
	)
	want := []string{
		"n0", "n9999", "s0", "s10", "s9", "(n0,n9999)", "f(n9999,s0)", "{n0}s10",
		"g(s9)", "g(s9,s10)", "g(s0,s10)", "g(s9,s9)", "((n0,n9999),(n0,n9999))", "(((n0,n9999),(n0,n9999)),s0)",
		"{(((n0,n9999),(n0,n9999)),s0)}g(s9,s10)", "f({n0}s10,f(n9999,s0))", "(s0,((n0,n9999),(n0,n9999)))",
	}
	for at, text := range want {
		if got := impl.TermText(table, int64(at)); got != (impl.TextResult{Text: text}) {
			t.Errorf("at %d: %v, want %s", at, got, text)
		}
	}
	for _, at := range []int64{math.MinInt64, -1, 17, 18, math.MaxInt64} {
		if got := impl.TermText(table, at); got != (impl.TextResult{Code: impl.ErrRange}) {
			t.Errorf("at %d: %v", at, got)
		}
	}
}

func TestTermTextOfTwoHundred(t *testing.T) {
	for size := int64(1); size <= 400; size++ {
		table := sized(size)
		at := slices.IndexFunc(sizesIn(table), func(n *big.Int) bool { return n.Int64() == size })
		got := impl.TermText(table, int64(at))
		if size > 200 && got != (impl.TextResult{Code: impl.ErrMany}) {
			t.Errorf("of size %d: %v", size, got)
		}
		if size <= 200 && got != (impl.TextResult{Text: spelt(table, int64(at))}) {
			t.Errorf("of size %d: %v", size, got)
		}
	}
	// What is deep is told as what is wide.
	deep := tableOf(freshTerm(1))
	for at := int64(0); at < 150; at++ {
		deep = append(deep, pairTerm(0, at))
	}
	for at := int64(95); at < 105; at++ {
		wantAt(t, "deep", deep, at)
	}
	if got := impl.TermText(deep, 99); got.Code != impl.OK || strings.Count(got.Text, "(") != 99 {
		t.Error("deep:", got)
	}
}

func TestATermThatIsPutTwiceIsThereOnce(t *testing.T) {
	r := rand.New(rand.NewSource(51))
	met := 0
	for round := 0; round < 300; round++ {
		table := someTerms(r, r.Intn(30))
		for _, x := range behind(table, someTerms(r, 12)...) {
			once := impl.PutTerm(table, x)
			wantTerm(t, "once", once, wantedPut(table, x))
			if once.Code != impl.OK {
				continue
			}
			met++
			twice := impl.PutTerm(once.Table, x)
			if twice.Code != impl.OK || twice.At != once.At || !slices.Equal(twice.Table, once.Table) {
				t.Fatalf("%v put twice into %v: %v and %v", x, table, once, twice)
			}
			if impl.TermsFault(once.Table) != impl.OK || once.Table[once.At] != x || !slices.Equal(once.Table[:len(table)], table) {
				t.Fatalf("%v put into %v: %v", x, table, once)
			}
		}
	}
	if met < 1000 {
		t.Error("only", met, "were put")
	}
}

func TestATermThatIsMovedIsTheSame(t *testing.T) {
	r := rand.New(rand.NewSource(52))
	codes, kept := map[int64]int{}, 0
	for round := 0; round < 400; round++ {
		from := someTerms(r, 1+r.Intn(40))
		to := tableBeside(r, round, from)
		at := int64(len(from)) - 1 - r.Int63n(min(5, int64(len(from))))
		wantMoved(t, "some term", from, at, to)
		moved := impl.MoveTerm(from, at, to)
		codes[moved.Code]++
		if moved.Code != impl.OK {
			continue
		}
		if impl.TermsFault(moved.Table) != impl.OK || !slices.Equal(moved.Table[:len(to)], to) {
			t.Fatalf("%v moved into %v: %v", from, to, moved)
		}
		wantTerm(t, "moved twice", impl.MoveTerm(from, at, moved.Table), moved)
		back := impl.MoveTerm(moved.Table, moved.At, from)
		wantTerm(t, "moved back", back, impl.TermResult{At: at, Table: from})
		if impl.SizeOf(from, at) != impl.SizeOf(moved.Table, moved.At) || impl.TermText(from, at) != impl.TermText(moved.Table, moved.At) {
			t.Fatalf("%v moved into %v: another size or text", from, to)
		}
		if len(impl.PartsOf(from, at).List) != len(impl.PartsOf(moved.Table, moved.At).List) {
			t.Fatalf("%v moved into %v: other parts", from, to)
		}
		kept += len(to) + len(impl.PartsOf(from, at).List) - len(moved.Table)
	}
	if codes[impl.OK] < 200 || codes[impl.ErrMany] < 20 || kept < 100 {
		t.Error("codes", codes, "there already", kept)
	}
}

func TestWhatIsBuiltInAnotherOrderIsTheSame(t *testing.T) {
	r := rand.New(rand.NewSource(53))
	for round := 0; round < 60; round++ {
		table := someTerms(r, 1+r.Intn(25))
		other, places := shuffled(r, table)
		for x := range table {
			for y := range table {
				if got := impl.SameTerms(table, int64(x), other, places[y]); got != (x == y) {
					t.Fatalf("%v at %d and %v at %d: the same: %v", table, x, other, places[y], got)
				}
			}
			wantTerm(t, "moved into another order", impl.MoveTerm(table, int64(x), other), impl.TermResult{At: places[x], Table: other})
			if impl.TermText(table, int64(x)) != impl.TermText(other, places[x]) {
				t.Fatalf("%v at %d: another text in another order: %v", table, x, other)
			}
		}
	}
}

func TestEveryFunctionOfTermsAtEveryPlace(t *testing.T) {
	r := rand.New(rand.NewSource(54))
	for round := 0; round < 40; round++ {
		table, other := someTerms(r, r.Intn(16)), someTerms(r, r.Intn(16))
		if got := impl.TermsFault(table); got != impl.OK {
			t.Fatal(table, "fault", got)
		}
		for _, x := range placesAround(table) {
			wantAt(t, "some table", table, x)
			wantMoved(t, "into another table", table, x, other)
			wantTerm(t, "list of one", impl.PutList(table, []int64{x}), wantedList(table, []int64{x}))
			for _, y := range placesAround(table) {
				wantTwo(t, "some table", table, x, y)
			}
			for _, y := range placesAround(other) {
				if got, want := impl.SameTerms(table, x, other, y), wantedSame(table, x, other, y); got != want {
					t.Errorf("%v at %d and %v at %d: the same: %v", table, x, other, y, got)
				}
			}
		}
		list := make([]int64, r.Intn(8))
		for i := range list {
			list[i] = r.Int63n(int64(len(table))+1) - r.Int63n(2)
		}
		wantTerm(t, fmt.Sprint("list of ", list), impl.PutList(table, list), wantedList(table, list))
	}
	// Great tables are asked at some places.
	for _, table := range [][]impl.Term{names(400), doubled(400), someTerms(r, 399), someTerms(r, 400)} {
		for _, x := range []int64{math.MinInt64, -1, 0, 1, 7, 199, 398, 399, 400, math.MaxInt64} {
			wantAt(t, "a great table", table, x)
			wantMoved(t, "from a great table", table, x, names(30))
			wantMoved(t, "into its own table", table, x, table)
			for _, y := range []int64{-1, 0, 5, 398, 399, 400} {
				wantTwo(t, "a great table", table, x, y)
			}
		}
	}
}
