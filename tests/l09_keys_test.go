package tests

import (
	"fmt"
	"math"
	"math/rand"
	"slices"
	"strings"
	"testing"

	"loop.example/g00205/impl"
)

// made is what any function of chapter 9 answers: its code, its numbers in their order, and its table.
type made struct {
	code    int64
	numbers []int64
	table   []impl.Term
}

// scribe puts terms by the words, one after the other, until one finds no room.
type scribe struct {
	table []impl.Term
	code  int64
}

func (s *scribe) put(x impl.Term) int64 {
	if s.code != impl.OK {
		return 0
	}
	if at := slices.Index(s.table, x); at >= 0 {
		return int64(at)
	}
	if len(s.table) == fullTable {
		s.code = impl.ErrMany
		return 0
	}
	s.table = behind(s.table, x)
	return int64(len(s.table)) - 1
}

// pairs goes by the words of PutList: of the first and (so) the list of the others.
func (s *scribe) pairs(list ...int64) int64 {
	switch len(list) {
	case 0:
		return s.put(nameTerm(0))
	case 1:
		return list[0]
	}
	others := s.pairs(list[1:]...)
	return s.put(pairTerm(list[0], others))
}

func (s *scribe) names(list ...int64) int64 {
	var places []int64
	for _, n := range list {
		places = append(places, s.put(nameTerm(n)))
	}
	return s.pairs(places...)
}

func (s *scribe) refuse(is bool, code int64) bool {
	if is && s.code == impl.OK {
		s.code = code
	}
	return s.code != impl.OK
}

// keyCall is a function of chapter 9, told in one way for all of them.
type keyCall struct {
	name string
	// kinds has a letter for each number that the function is given: a place, a name, or how many.
	kinds string
	// width is how many numbers it tells, but for a list.
	width  int
	call   func(table []impl.Term, x []int64) made
	wanted func(s *scribe, x []int64) []int64
}

var makeKeysCall = keyCall{"MakeKeys", "ppppnn", 4,
	func(table []impl.Term, x []int64) made {
		got := impl.MakeKeys(table, x[0], x[1], x[2], x[3], x[4], x[5])
		return made{got.Code, []int64{got.Keys.Seed, got.Keys.Down, got.Keys.Ours, got.Keys.Back}, got.Table}
	},
	func(s *scribe, x []int64) []int64 {
		if s.refuse(s.table[x[2]].Op != 2 || s.table[x[3]].Op != 6, impl.ErrForm) {
			return nil
		}
		other := s.table[x[3]].A
		pair := s.put(pairTerm(x[0], x[1]))
		both := s.put(bothTerm(min(x[2], other), max(x[2], other)))
		told := []int64{s.put(prfTerm(pair, both))}
		for first := int64(1); first <= 3; first++ {
			list := s.names(first, x[4], x[5])
			told = append(told, s.put(prfTerm(told[0], list)))
		}
		return told
	},
}

var makeProofCall = keyCall{"MakeProof", "ppppn", 1,
	func(table []impl.Term, x []int64) made {
		return madeTerm(impl.MakeProof(table, x[0], x[1], x[2], x[3], x[4]))
	},
	func(s *scribe, x []int64) []int64 {
		nine := s.put(nameTerm(9))
		p := s.put(prfTerm(x[0], nine))
		id := s.put(nameTerm(x[4]))
		q := s.put(prfTerm(x[3], id))
		list := s.pairs(x[1], x[2], q)
		return []int64{s.put(prfTerm(p, list))}
	},
}

var makeChildCall = keyCall{"MakeChild", "pppnn", 2,
	func(table []impl.Term, x []int64) made {
		got := impl.MakeChild(table, x[0], x[1], x[2], x[3], x[4])
		return made{got.Code, []int64{got.Out, got.Back}, got.Table}
	},
	func(s *scribe, x []int64) []int64 {
		var told []int64
		for first := int64(4); first <= 5; first++ {
			list := s.names(first, x[3], x[4])
			list = s.pairs(x[1], x[2], list)
			told = append(told, s.put(prfTerm(x[0], list)))
		}
		return told
	},
}

var openSealCall = keyCall{"OpenSeal", "pp", 1,
	func(table []impl.Term, x []int64) made {
		return madeNumber(impl.OpenSeal(table, x[0], x[1]))
	},
	func(s *scribe, x []int64) []int64 {
		seal := s.table[x[0]]
		s.refuse(seal.Op != 5, impl.ErrForm)
		s.refuse(seal.A != x[1], impl.ErrKey)
		return []int64{seal.B}
	},
}

var splitListCall = keyCall{"SplitList", "pc", 0,
	func(table []impl.Term, x []int64) made {
		got := impl.SplitList(table, x[0], x[1])
		return made{code: got.Code, numbers: got.List}
	},
	func(s *scribe, x []int64) []int64 {
		if s.refuse(x[1] < 1 || x[1] > 20, impl.ErrRange) {
			return nil
		}
		if x[1] == 1 {
			return []int64{x[0]}
		}
		pair := s.table[x[0]]
		if s.refuse(pair.Op != 3, impl.ErrForm) {
			return nil
		}
		return append([]int64{pair.A}, splitListWanted(s, pair.B, x[1]-1)...)
	},
}

// splitListWanted is for what is left behind the first part.
func splitListWanted(s *scribe, at int64, n int64) []int64 {
	if n == 1 {
		return []int64{at}
	}
	pair := s.table[at]
	if s.refuse(pair.Op != 3, impl.ErrForm) {
		return nil
	}
	return append([]int64{pair.A}, splitListWanted(s, pair.B, n-1)...)
}

var putNamesCall = keyCall{"PutNames", "", 1,
	func(table []impl.Term, x []int64) made {
		return madeTerm(impl.PutNames(table, x))
	},
	func(s *scribe, x []int64) []int64 {
		return []int64{s.names(x...)}
	},
}

var nameAtCall = keyCall{"NameAt", "p", 1,
	func(table []impl.Term, x []int64) made {
		return madeNumber(impl.NameAt(table, x[0]))
	},
	func(s *scribe, x []int64) []int64 {
		s.refuse(s.table[x[0]].Op != 1, impl.ErrForm)
		return []int64{s.table[x[0]].N}
	},
}

var makingCalls = []keyCall{makeKeysCall, makeProofCall, makeChildCall}

var keyCalls = append(slices.Clone(makingCalls), openSealCall, splitListCall, putNamesCall, nameAtCall)

func madeTerm(got impl.TermResult) made {
	return made{got.Code, []int64{got.At}, got.Table}
}

func madeNumber(got impl.IntResult) made {
	return made{code: got.Code, numbers: []int64{got.Value}}
}

// kindsOf tells what each number is: a list of names may have any length.
func (c keyCall) kindsOf(x []int64) string {
	if c.name == "PutNames" {
		return strings.Repeat("n", len(x))
	}
	return c.kinds
}

// putsTerms is so of a function that answers a table.
func (c keyCall) putsTerms() bool {
	return strings.HasPrefix(c.name, "Make") || c.name == "PutNames"
}

func (c keyCall) refusal(code int64) made {
	return made{code: code, numbers: make([]int64, c.width)}
}

func (c keyCall) want(table []impl.Term, x []int64) made {
	s := &scribe{table: table, code: wantedTermsFault(table)}
	for i, kind := range c.kindsOf(x) {
		greatest := map[rune]int64{'p': int64(len(table)) - 1, 'n': 9999, 'c': math.MaxInt64}[kind]
		s.refuse(kind != 'c' && x[i] < 0 || x[i] > greatest, impl.ErrRange)
	}
	if s.code != impl.OK {
		return c.refusal(s.code)
	}
	told := c.wanted(s, x)
	if s.code != impl.OK {
		return c.refusal(s.code)
	}
	if !c.putsTerms() {
		return made{numbers: told}
	}
	return made{numbers: told, table: s.table}
}

// wantMade fails the test unless got is want; no list and an empty one are the same.
func wantMade(t *testing.T, what string, got made, want made) {
	t.Helper()
	if got.code != want.code || !slices.Equal(got.numbers, want.numbers) {
		t.Errorf("%s: code %d with %v, want code %d with %v", what, got.code, got.numbers, want.code, want.numbers)
	}
	if !slices.Equal(got.table, want.table) {
		t.Errorf("%s: %d terms, want %d: %v, want %v", what, len(got.table), len(want.table), got.table, want.table)
	}
}

// wantKeyCall asks the function for what the document says, and hands out what it answers.
func wantKeyCall(t *testing.T, what string, c keyCall, table []impl.Term, x ...int64) made {
	t.Helper()
	got := c.call(table, x)
	wantMade(t, fmt.Sprint(what, ", ", c.name, " of ", x, " and ", len(table), " terms"), got, c.want(table, x))
	return got
}

// wantKeyCode fails the test unless the function tells the code, and nothing beside it.
func wantKeyCode(t *testing.T, what string, code int64, c keyCall, table []impl.Term, x ...int64) {
	t.Helper()
	wantMade(t, fmt.Sprint(what, ", ", c.name, " of ", x, " and ", len(table), " terms"), c.call(table, x), c.refusal(code))
	wantKeyCall(t, what+", as the document says", c, table, x...)
}

// wantTexts fails the test unless the numbers are places of terms with these texts.
func wantTexts(t *testing.T, what string, got made, texts ...string) {
	t.Helper()
	if got.code != impl.OK || len(got.numbers) != len(texts) {
		t.Errorf("%s: %v", what, got)
		return
	}
	for i, at := range got.numbers {
		if told := impl.TermText(got.table, at); told != (impl.TextResult{Text: texts[i]}) {
			t.Errorf("%s: %v at %d, want %s", what, told, at, texts[i])
		}
	}
}

// twoSides are the secrets 1 and 2 and their halves, and two nonces.
func twoSides() []impl.Term {
	return tableOf(freshTerm(1), freshTerm(2), halfTerm(0), halfTerm(1), freshTerm(3), freshTerm(4))
}

// rightNumbers are those of calls without a code, for the table of twoSides and any table behind it.
var rightNumbers = map[string][]int64{
	"MakeKeys":  {4, 5, 0, 3, 105, 206},
	"MakeProof": {4, 2, 5, 0, 6},
	"MakeChild": {1, 4, 5, 105, 206},
}

// fillers are n terms that no call of these tests makes.
func fillers(n int) []impl.Term {
	table := make([]impl.Term, n)
	for i := range table {
		table[i] = freshTerm(int64(5000 + i))
	}
	return table
}

// oneOfEach has a term of each kind, its place that of its Op, and a name at 0.
func oneOfEach() []impl.Term {
	return tableOf(nameTerm(77), nameTerm(8), freshTerm(8), pairTerm(0, 1), prfTerm(2, 3), sealTerm(4, 3), halfTerm(2), bothTerm(2, 2))
}

func TestMakeKeysOfKnownTerms(t *testing.T) {
	got := makeKeysCall.call(twoSides(), rightNumbers["MakeKeys"])
	seed := "f((s3,s4),g(s1,s2))"
	wantTexts(t, "keys", got, seed, "f("+seed+",(n1,(n105,n206)))", "f("+seed+",(n2,(n105,n206)))", "f("+seed+",(n3,(n105,n206)))")
	wantMade(t, "keys", got, made{numbers: []int64{8, 14, 17, 20}, table: behind(twoSides(),
		pairTerm(4, 5), bothTerm(0, 1), prfTerm(6, 7),
		nameTerm(1), nameTerm(105), nameTerm(206), pairTerm(10, 11), pairTerm(9, 12), prfTerm(8, 13),
		nameTerm(2), pairTerm(15, 12), prfTerm(8, 16),
		nameTerm(3), pairTerm(18, 12), prfTerm(8, 19),
	)})
	wantKeyCall(t, "as the document says", makeKeysCall, twoSides(), rightNumbers["MakeKeys"]...)
}

func TestMakeProofOfKnownTerms(t *testing.T) {
	got := makeProofCall.call(twoSides(), rightNumbers["MakeProof"])
	wantTexts(t, "proof", got, "f(f(s3,n9),(g(s1),(s4,f(s1,n6))))")
	wantMade(t, "proof", got, made{numbers: []int64{12}, table: behind(twoSides(),
		nameTerm(9), prfTerm(4, 6), nameTerm(6), prfTerm(0, 8), pairTerm(5, 9), pairTerm(2, 10), prfTerm(7, 11),
	)})
	wantKeyCall(t, "as the document says", makeProofCall, twoSides(), rightNumbers["MakeProof"]...)
}

func TestMakeChildOfKnownTerms(t *testing.T) {
	got := makeChildCall.call(twoSides(), rightNumbers["MakeChild"])
	wantTexts(t, "child", got, "f(s2,(s3,(s4,(n4,(n105,n206)))))", "f(s2,(s3,(s4,(n5,(n105,n206)))))")
	wantMade(t, "child", got, made{numbers: []int64{13, 18}, table: behind(twoSides(),
		nameTerm(4), nameTerm(105), nameTerm(206), pairTerm(7, 8), pairTerm(6, 9), pairTerm(5, 10), pairTerm(4, 11), prfTerm(1, 12),
		nameTerm(5), pairTerm(14, 9), pairTerm(5, 15), pairTerm(4, 16), prfTerm(1, 17),
	)})
	wantKeyCall(t, "as the document says", makeChildCall, twoSides(), rightNumbers["MakeChild"]...)
}

// wantBothSides fails the test unless each side, with its own secret and the other's half, reckons the same keys.
func wantBothSides(t *testing.T, what string, table []impl.Term, ni int64, nr int64, secrets [2]int64, halves [2]int64, spiI int64, spiR int64) {
	t.Helper()
	one := wantKeyCall(t, what+", one side", makeKeysCall, table, ni, nr, secrets[0], halves[1], spiI, spiR)
	other := wantKeyCall(t, what+", the other", makeKeysCall, one.table, ni, nr, secrets[1], halves[0], spiI, spiR)
	if one.code != impl.OK {
		t.Errorf("%s: code %d", what, one.code)
		return
	}
	wantMade(t, what+", the other, nothing put", other, one)
	alone := impl.MakeKeys(table, ni, nr, secrets[1], halves[0], spiI, spiR)
	for i, at := range []int64{alone.Keys.Seed, alone.Keys.Down, alone.Keys.Ours, alone.Keys.Back} {
		if !impl.SameTerms(one.table, one.numbers[i], alone.Table, at) {
			t.Errorf("%s: another key %d of the other side by itself", what, i)
		}
	}
	told := slices.Clone(one.numbers)
	slices.Sort(told)
	if len(slices.Compact(told)) != 4 {
		t.Errorf("%s: two keys are the same: %v", what, one.numbers)
	}
}

func TestBothSidesReckonTheSameKeys(t *testing.T) {
	table := twoSides()
	for _, spis := range [][2]int64{{105, 206}, {206, 105}, {0, 0}, {0, 9999}, {9999, 0}, {9999, 9999}, {1, 2}, {3, 1}, {1, 1}, {2, 3}} {
		for _, nonces := range [][2]int64{{4, 5}, {5, 4}, {4, 4}, {2, 3}, {0, 0}, {0, 1}} {
			wantBothSides(t, "two sides", table, nonces[0], nonces[1], [2]int64{0, 1}, [2]int64{2, 3}, spis[0], spis[1])
			wantBothSides(t, "the sides changed", table, nonces[0], nonces[1], [2]int64{1, 0}, [2]int64{3, 2}, spis[0], spis[1])
			// Somebody may hear their own half: it is one as any other.
			wantBothSides(t, "with oneself", table, nonces[0], nonces[1], [2]int64{0, 0}, [2]int64{2, 2}, spis[0], spis[1])
		}
	}
	r := rand.New(rand.NewSource(90))
	for range 400 {
		table := someTerms(r, 2+r.Intn(60))
		s := &scribe{table: table}
		secrets := [2]int64{s.put(freshTerm(someNumber(r))), s.put(freshTerm(someNumber(r)))}
		halves := [2]int64{s.put(halfTerm(secrets[0])), s.put(halfTerm(secrets[1]))}
		n := int64(len(table))
		wantBothSides(t, "among others", s.table, r.Int63n(n), r.Int63n(n), secrets, halves, someNumber(r), someNumber(r))
	}
}

func TestKeysOfAnotherSecretAreOthers(t *testing.T) {
	// Who has the two halves and a secret of another one has none of the keys.
	table := behind(twoSides(), freshTerm(9), halfTerm(6))
	right := impl.MakeKeys(table, 4, 5, 0, 3, 105, 206)
	for _, x := range [][]int64{{6, 3}, {6, 2}, {0, 7}, {1, 7}, {0, 2}, {1, 3}} {
		other := impl.MakeKeys(right.Table, 4, 5, x[0], x[1], 105, 206)
		if other.Code != impl.OK || other.Keys.Seed == right.Keys.Seed || other.Keys.Down == right.Keys.Down || other.Keys.Ours == right.Keys.Ours || other.Keys.Back == right.Keys.Back {
			t.Errorf("the secret at %d and the half at %d: %v, want other keys than %v", x[0], x[1], other, right.Keys)
		}
	}
	// Nor has a stranger who heard the halves and the nonces.
	heard := []int64{2, 3, 4, 5, 6, 7}
	for _, at := range []int64{right.Keys.Seed, right.Keys.Down, right.Keys.Ours, right.Keys.Back} {
		if impl.Derives(right.Table, heard, at) || !impl.Derives(right.Table, append([]int64{0}, heard...), at) || !impl.Derives(right.Table, append([]int64{1}, heard...), at) {
			t.Errorf("the key at %d follows from halves alone, or not from a secret", at)
		}
	}
}

func TestMakeKeysTakesASecretAndAHalf(t *testing.T) {
	table := oneOfEach()
	for own, x := range table {
		for half, y := range table {
			code := int64(impl.ErrForm)
			if x.Op == 2 && y.Op == 6 {
				code = impl.OK
			}
			got := wantKeyCall(t, "of each kind", makeKeysCall, table, 0, 1, int64(own), int64(half), 5, 6)
			if got.code != code {
				t.Errorf("own %v and half %v: code %d, want %d", x, y, got.code, code)
			}
		}
	}
	for _, x := range [][]int64{{2, 0}, {3, 1}, {2, 2}, {0, 1}, {1, 0}, {0, 0}, {0, 4}, {4, 3}} {
		code := int64(impl.ErrForm)
		if x[0] == 4 {
			code = impl.OK
		}
		if got := impl.MakeKeys(twoSides(), 4, 5, x[0], x[1], 5, 6); got.Code != code {
			t.Errorf("own %d and half %d: code %d, want %d", x[0], x[1], got.Code, code)
		}
	}
	// A full table is asked for its forms first: no pair of these nonces is there, nor has room.
	full := behind(oneOfEach(), fillers(392)...)
	for _, x := range [][]int64{{6, 6}, {0, 6}, {3, 6}, {2, 2}, {2, 7}, {6, 2}, {8, 8}} {
		wantKeyCode(t, "no secret or no half, no room", impl.ErrForm, makeKeysCall, full, 1, 0, x[0], x[1], 5, 6)
	}
	wantKeyCode(t, "no room", impl.ErrMany, makeKeysCall, full, 1, 0, 2, 6, 5, 6)
}

// otherNumber is another one of the same kind, by the turn.
func otherNumber(kind byte, n int64, turn int64, places int64) int64 {
	if kind == 'p' {
		return (n + turn) % places
	}
	return []int64{n + 1, 0, 9999, n + 256, 9}[turn%5]
}

// wantOthers fails the test unless each number changed alone leads to other terms, and the same ones to the same.
func wantOthers(t *testing.T, c keyCall, table []impl.Term, right []int64) {
	t.Helper()
	first := wantKeyCall(t, "first", c, table, right...)
	again := wantKeyCall(t, "again", c, first.table, right...)
	if first.code != impl.OK {
		t.Fatal(c.name, right, first)
	}
	wantMade(t, c.name+" again, nothing put", again, first)
	for i := range right {
		for turn := int64(1); turn < 6; turn++ {
			x := slices.Clone(right)
			x[i] = otherNumber(c.kinds[i], x[i], turn, int64(len(table)))
			if x[i] == right[i] || c.name == "MakeKeys" && (i == 2 || i == 3) {
				continue
			}
			other := wantKeyCall(t, "changed", c, first.table, x...)
			if other.code != impl.OK {
				t.Errorf("%s of %v: code %d", c.name, x, other.code)
			}
			for k, at := range other.numbers {
				if slices.Contains(first.numbers, at) && !(c.name == "MakeKeys" && i > 3 && k == 0) {
					t.Errorf("%s: %v and %v lead to the same at %d", c.name, x, right, at)
				}
			}
		}
	}
}

func TestEachNumberChangedAloneLeadsToOtherTerms(t *testing.T) {
	for _, c := range makingCalls {
		wantOthers(t, c, twoSides(), rightNumbers[c.name])
		wantOthers(t, c, behind(twoSides(), fillers(60)...), rightNumbers[c.name])
	}
	// Of one place for all that is told by places, too.
	wantOthers(t, makeProofCall, twoSides(), []int64{0, 0, 0, 0, 9})
	wantOthers(t, makeProofCall, twoSides(), []int64{5, 5, 5, 5, 0})
	wantOthers(t, makeChildCall, twoSides(), []int64{3, 3, 3, 7, 7})
	wantOthers(t, makeChildCall, twoSides(), []int64{0, 0, 0, 4, 5})
	wantOthers(t, makeKeysCall, twoSides(), []int64{4, 4, 1, 2, 1, 1})
}

func TestTheSpisNameOnlyTheKeysBehindTheSeed(t *testing.T) {
	table := twoSides()
	one := impl.MakeKeys(table, 4, 5, 0, 3, 105, 206)
	other := impl.MakeKeys(one.Table, 4, 5, 0, 3, 206, 105)
	if other.Code != impl.OK || other.Keys.Seed != one.Keys.Seed || other.Keys.Down == one.Keys.Down || other.Keys.Ours == one.Keys.Ours || other.Keys.Back == one.Keys.Back {
		t.Error("the spis in the other order:", other.Keys, "and", one.Keys)
	}
	turned := impl.MakeKeys(one.Table, 5, 4, 0, 3, 105, 206)
	if turned.Code != impl.OK || turned.Keys.Seed == one.Keys.Seed {
		t.Error("the nonces in the other order:", turned.Keys, "and", one.Keys)
	}
}

func TestOutAndBackAreNeverTheSame(t *testing.T) {
	table := behind(twoSides(), nameTerm(4), nameTerm(5), pairTerm(6, 7))
	for down := range int64(9) {
		for ni := range int64(9) {
			for _, spis := range [][2]int64{{4, 5}, {5, 4}, {4, 4}, {5, 5}, {0, 9999}} {
				got := wantKeyCall(t, "two ways", makeChildCall, table, down, ni, 8-ni, spis[0], spis[1])
				if got.code != impl.OK || got.numbers[0] == got.numbers[1] {
					t.Errorf("down %d, ni %d, spis %v: %v", down, ni, spis, got.numbers)
				}
			}
		}
	}
}

func TestNoTwoListsOfNumbersHaveTheSameProof(t *testing.T) {
	table := twoSides()
	seen := map[string][]int64{}
	for n := range int64(2 * 4 * 4 * 4 * 4) {
		x := []int64{n / 2 % 4, n / 8 % 4, n / 32 % 4, n / 128, []int64{1, 9}[n%2]}
		proof := impl.MakeProof(table, x[0], x[1], x[2], x[3], x[4])
		if proof.Code != impl.OK {
			t.Fatal(x, proof)
		}
		print := string(printsOf(proof.Table)[proof.At])
		if other, is := seen[print]; is {
			t.Errorf("%v and %v have the same proof", x, other)
		}
		seen[print] = x
	}
}

func TestSpisAndIdsAreNames(t *testing.T) {
	table := twoSides()
	for _, c := range makingCalls {
		for i, kind := range c.kinds {
			if kind != 'n' {
				continue
			}
			x := slices.Clone(rightNumbers[c.name])
			for _, n := range []int64{0, 1, 2, 3, 4, 5, 9, 400, 9998, 9999} {
				x[i] = n
				if got := wantKeyCall(t, "a name", c, table, x...); got.code != impl.OK {
					t.Errorf("%s of %v: code %d", c.name, x, got.code)
				}
			}
			for _, n := range []int64{math.MinInt64, math.MinInt64 + 1, -9999, -1, 10000, 10001, 1 << 32, 1<<32 + 5, math.MaxInt64} {
				x[i] = n
				wantKeyCode(t, "no name", impl.ErrRange, c, table, x...)
			}
		}
	}
}

func TestPlacesThatAreNone(t *testing.T) {
	for _, table := range [][]impl.Term{twoSides(), oneOfEach(), behind(twoSides(), fillers(394)...), nil, tableOf(freshTerm(1))} {
		end := int64(len(table))
		wrong := append([]int64{end, end + 1, 9999}, farPlaces...)
		wrong = slices.DeleteFunc(wrong, func(at int64) bool { return at >= 0 && at < end })
		for _, c := range keyCalls {
			for i, kind := range c.kinds {
				if kind != 'p' {
					continue
				}
				for _, at := range wrong {
					x := slices.Repeat([]int64{1}, len(c.kinds))
					copy(x, rightNumbers[c.name])
					x[i] = at
					wantKeyCode(t, "no place", impl.ErrRange, c, table, x...)
				}
			}
		}
	}
}

func TestTablesFaultsAreToldFirst(t *testing.T) {
	for _, faulty := range faultyTables {
		for _, c := range keyCalls {
			for _, n := range []int64{0, 1, -1, 400, 401, 10000, math.MinInt64, math.MaxInt64} {
				wantKeyCode(t, faulty.what, faulty.code, c, faulty.table, slices.Repeat([]int64{n}, max(1, len(c.kinds)))...)
			}
		}
		wantTerm(t, faulty.what+", no name", impl.PutNames(faulty.table, nil), impl.TermResult{Code: faulty.code})
	}
}

func TestOfTwoCodesTheFirstNamedIsTold(t *testing.T) {
	table := oneOfEach()
	// Own or half is of another kind, and beside it there is a place that is none, or a number that is no name.
	for i, kind := range makeKeysCall.kinds {
		for _, forms := range [][2]int64{{0, 6}, {2, 0}, {6, 2}, {0, 0}} {
			x := []int64{0, 1, forms[0], forms[1], 5, 6}
			wantKeyCode(t, "a form alone", impl.ErrForm, makeKeysCall, table, x...)
			wrong := []int64{-1, 8, math.MinInt64, math.MaxInt64}
			if kind == 'n' {
				wrong[1] = 10000
			}
			for _, n := range wrong {
				y := slices.Clone(x)
				y[i] = n
				wantKeyCode(t, "a form and a range", impl.ErrRange, makeKeysCall, table, y...)
			}
		}
	}
	wantKeyCode(t, "no seal, and no place as a key", impl.ErrRange, openSealCall, table, 0, 8)
	wantKeyCode(t, "no seal, and not its A", impl.ErrForm, openSealCall, table, 3, 4)
	wantKeyCode(t, "no seal, but its A", impl.ErrForm, openSealCall, table, 3, 0)
	wantKeyCode(t, "no pair, and n 0", impl.ErrRange, splitListCall, table, 0, 0)
	wantKeyCode(t, "no pair, and n 21", impl.ErrRange, splitListCall, table, 0, 21)
	full := behind(twoSides(), fillers(394)...)
	for _, c := range makingCalls {
		right := rightNumbers[c.name]
		wantKeyCode(t, "no room", impl.ErrMany, c, full, right...)
		for i := range right {
			for _, n := range []int64{-1, 10000} {
				x := slices.Clone(right)
				x[i] = n
				wantKeyCode(t, "no room, and no place or no name", impl.ErrRange, c, full, x...)
			}
		}
	}
	wantKeyCode(t, "no room, and a name that is none", impl.ErrRange, putNamesCall, full, 1, 2, 3, -1)
}

// roomFor asks the call with each number of places left in the table, down from one more than it wants, and
// with as many of its terms there ahead.
func roomFor(t *testing.T, c keyCall, table []impl.Term, x []int64, wants int) {
	t.Helper()
	roomy := c.want(table, x)
	news := roomy.table[len(table):]
	if len(news) != wants {
		t.Fatalf("%s of %v puts %d terms, not %d", c.name, x, len(news), wants)
	}
	for there := range len(news) + 1 {
		ahead := behind(table, news[:there]...)
		for room := range wants + 2 {
			given := behind(ahead, fillers(fullTable-len(ahead)-room)...)
			got := wantKeyCall(t, fmt.Sprint("room for ", room, ", ", there, " are there"), c, given, x...)
			code := int64(impl.ErrMany)
			if room >= wants-there {
				code = impl.OK
			}
			if got.code != code {
				t.Errorf("%s of %v, room for %d, %d of %d are there: code %d, want %d", c.name, x, room, there, wants, got.code, code)
			}
			if code == impl.OK && len(got.table) != fullTable-room+wants-there {
				t.Errorf("%s of %v: %d terms", c.name, x, len(got.table))
			}
		}
	}
}

func TestATableThatIsFullOrNearlySo(t *testing.T) {
	roomFor(t, makeKeysCall, twoSides(), rightNumbers["MakeKeys"], 15)
	roomFor(t, makeKeysCall, twoSides(), []int64{4, 4, 1, 3, 7, 7}, 14)
	roomFor(t, makeKeysCall, twoSides(), []int64{4, 5, 1, 2, 1, 2}, 13)
	roomFor(t, makeProofCall, twoSides(), rightNumbers["MakeProof"], 7)
	roomFor(t, makeProofCall, twoSides(), []int64{0, 1, 2, 3, 9}, 6)
	roomFor(t, makeProofCall, twoSides(), []int64{0, 1, 2, 0, 9}, 5)
	roomFor(t, makeChildCall, twoSides(), rightNumbers["MakeChild"], 13)
	roomFor(t, makeChildCall, twoSides(), []int64{0, 0, 0, 4, 5}, 11)
	roomFor(t, putNamesCall, twoSides(), nil, 1)
	roomFor(t, putNamesCall, twoSides(), []int64{8}, 1)
	roomFor(t, putNamesCall, twoSides(), []int64{8, 9, 8}, 4)
	roomFor(t, putNamesCall, twoSides(), []int64{0, 0, 0, 0}, 4)
}

func TestTermsThatStandInTheTableArePutOnce(t *testing.T) {
	r := rand.New(rand.NewSource(91))
	for _, c := range makingCalls {
		x := rightNumbers[c.name]
		whole := c.want(twoSides(), x)
		for range 300 {
			// Some of the terms are there, in an order of their own, behind the table.
			other, places := shuffled(r, whole.table[:r.Intn(len(whole.table)+1)])
			moved := &scribe{}
			for at := range twoSides() {
				if at < len(places) {
					continue
				}
				places = append(places, -1)
			}
			for _, given := range [][]impl.Term{other, behind(other, fillers(5)...)} {
				moved.table = given
				for at, term := range twoSides() {
					if term.Op == 6 {
						term.A = places[term.A]
					}
					places[at] = moved.put(term)
				}
				y := slices.Clone(x)
				for i, kind := range c.kinds {
					if kind == 'p' {
						y[i] = places[x[i]]
					}
				}
				got := wantKeyCall(t, "some are there", c, moved.table, y...)
				for k, at := range got.numbers {
					if got.code != impl.OK || !impl.SameTerms(got.table, at, whole.table, whole.numbers[k]) {
						t.Errorf("%s of %v: another term at %d, code %d", c.name, y, at, got.code)
					}
				}
				if impl.TermsFault(got.table) != impl.OK || len(got.table) > len(whole.table)+5 {
					t.Errorf("%s of %v: %d terms, want %d, and fault %d", c.name, y, len(got.table), len(whole.table), impl.TermsFault(got.table))
				}
			}
		}
	}
}

func TestOpenSealWithItsKeyAlone(t *testing.T) {
	table := behind(oneOfEach(), sealTerm(3, 5), sealTerm(0, 0), sealTerm(8, 2), sealTerm(7, 9), sealTerm(1, 10))
	opened := map[[2]int64]int64{{5, 4}: 3, {8, 3}: 5, {9, 0}: 0, {10, 8}: 2, {11, 7}: 9, {12, 1}: 10}
	for at := range int64(13) {
		for key := range int64(13) {
			want := impl.IntResult{Code: impl.ErrKey}
			if table[at].Op != 5 {
				want = impl.IntResult{Code: impl.ErrForm}
			}
			if inner, is := opened[[2]int64{at, key}]; is {
				want = impl.IntResult{Value: inner}
			}
			if got := impl.OpenSeal(table, at, key); got != want {
				t.Errorf("the seal at %d with the key at %d: %v, want %v", at, key, got, want)
			}
			wantKeyCall(t, "as the document says", openSealCall, table, at, key)
		}
	}
}

func TestAListIsSplitIntoWhatItWas(t *testing.T) {
	r := rand.New(rand.NewSource(92))
	for n := int64(1); n <= 25; n++ {
		for range 20 {
			table := someTerms(r, 1+r.Intn(50))
			list := make([]int64, n)
			for i := range list {
				list[i] = r.Int63n(int64(len(table)))
			}
			put := impl.PutList(table, list)
			for parts := int64(-1); parts <= 26; parts++ {
				wantKeyCall(t, "a list", splitListCall, put.Table, put.At, parts)
			}
			if n > 20 {
				wantPlaces(t, "too many parts", impl.SplitList(put.Table, put.At, n), impl.IntsResult{Code: impl.ErrRange})
				continue
			}
			wantPlaces(t, fmt.Sprint("a list of ", n), impl.SplitList(put.Table, put.At, n), impl.IntsResult{List: list})
		}
	}
}

func TestWhereAListEnds(t *testing.T) {
	table := tableOf(freshTerm(0), nameTerm(1), freshTerm(2), halfTerm(0), sealTerm(0, 1), prfTerm(0, 1))
	three := impl.PutList(table, []int64{0, 1, 2})
	two := impl.PutList(three.Table, []int64{three.At, 3})
	last := impl.PutList(two.Table, []int64{3, three.At})
	long := impl.PutList(last.Table, slices.Repeat([]int64{0, 1, 2}, 7))
	inner := long.Table[three.At].B
	rest := func(n int) int64 {
		at := long.At
		for range n {
			at = long.Table[at].B
		}
		return at
	}
	twenty := slices.Repeat([]int64{0, 1, 2}, 7)
	cases := []struct {
		what string
		at   int64
		n    int64
		want impl.IntsResult
	}{
		{"n 0", three.At, 0, impl.IntsResult{Code: impl.ErrRange}},
		{"n -1", three.At, -1, impl.IntsResult{Code: impl.ErrRange}},
		{"n 21", three.At, 21, impl.IntsResult{Code: impl.ErrRange}},
		{"the least n", three.At, math.MinInt64, impl.IntsResult{Code: impl.ErrRange}},
		{"the greatest n", three.At, math.MaxInt64, impl.IntsResult{Code: impl.ErrRange}},
		{"n 1 of a list", three.At, 1, impl.IntsResult{List: []int64{three.At}}},
		{"fewer than it has", three.At, 2, impl.IntsResult{List: []int64{0, inner}}},
		{"just as many", three.At, 3, impl.IntsResult{List: []int64{0, 1, 2}}},
		{"one more than it has", three.At, 4, impl.IntsResult{Code: impl.ErrForm}},
		{"20 of three", three.At, 20, impl.IntsResult{Code: impl.ErrForm}},
		{"n 1 of a secret", 0, 1, impl.IntsResult{List: []int64{0}}},
		{"n 2 of a secret", 0, 2, impl.IntsResult{Code: impl.ErrForm}},
		{"n 2 of a name", 1, 2, impl.IntsResult{Code: impl.ErrForm}},
		{"n 2 of a half", 3, 2, impl.IntsResult{Code: impl.ErrForm}},
		{"n 1 of a seal", 4, 1, impl.IntsResult{List: []int64{4}}},
		{"n 2 of a seal", 4, 2, impl.IntsResult{Code: impl.ErrForm}},
		{"n 2 of a prf", 5, 2, impl.IntsResult{Code: impl.ErrForm}},
		{"n 20 of a prf", 5, 20, impl.IntsResult{Code: impl.ErrForm}},
		{"the first part is a pair", two.At, 2, impl.IntsResult{List: []int64{three.At, 3}}},
		{"the first part is a pair, and not gone into", two.At, 3, impl.IntsResult{Code: impl.ErrForm}},
		{"the last part is a pair", last.At, 2, impl.IntsResult{List: []int64{3, three.At}}},
		{"the last part is a pair, split as well", last.At, 3, impl.IntsResult{List: []int64{3, 0, inner}}},
		{"all of the last part", last.At, 4, impl.IntsResult{List: []int64{3, 0, 1, 2}}},
		{"more than the last part has", last.At, 5, impl.IntsResult{Code: impl.ErrForm}},
		{"20 of 21", long.At, 20, impl.IntsResult{List: append(slices.Clone(twenty[:19]), rest(19))}},
		{"21 of 21", long.At, 21, impl.IntsResult{Code: impl.ErrRange}},
		{"19 of 21", long.At, 19, impl.IntsResult{List: append(slices.Clone(twenty[:18]), rest(18))}},
		{"20 of the 20 behind the first", rest(1), 20, impl.IntsResult{List: twenty[1:]}},
		{"20 of 19", rest(2), 20, impl.IntsResult{Code: impl.ErrForm}},
	}
	for _, c := range cases {
		wantPlaces(t, c.what, impl.SplitList(long.Table, c.at, c.n), c.want)
		wantKeyCall(t, c.what, splitListCall, long.Table, c.at, c.n)
	}
}

func TestPutNamesOfKnownLists(t *testing.T) {
	cases := []struct {
		what  string
		table []impl.Term
		list  []int64
		want  impl.TermResult
	}{
		{"no name", nil, nil, impl.TermResult{Table: tableOf(nameTerm(0))}},
		{"no name, not nil", nil, []int64{}, impl.TermResult{Table: tableOf(nameTerm(0))}},
		{"no name, the name 0 is there", tableOf(freshTerm(0), nameTerm(0)), nil, impl.TermResult{At: 1, Table: tableOf(freshTerm(0), nameTerm(0))}},
		{"no name behind others", tableOf(freshTerm(0), nameTerm(1)), nil, impl.TermResult{At: 2, Table: tableOf(freshTerm(0), nameTerm(1), nameTerm(0))}},
		{"one", nil, []int64{7}, impl.TermResult{Table: tableOf(nameTerm(7))}},
		{"one that is there", tableOf(nameTerm(6), nameTerm(7)), []int64{7}, impl.TermResult{At: 1, Table: tableOf(nameTerm(6), nameTerm(7))}},
		{"the secret of that number is there", tableOf(freshTerm(7)), []int64{7}, impl.TermResult{At: 1, Table: tableOf(freshTerm(7), nameTerm(7))}},
		{"0", nil, []int64{0}, impl.TermResult{Table: tableOf(nameTerm(0))}},
		{"9999", nil, []int64{9999}, impl.TermResult{Table: tableOf(nameTerm(9999))}},
		{"two", nil, []int64{8, 7}, impl.TermResult{At: 2, Table: tableOf(nameTerm(8), nameTerm(7), pairTerm(0, 1))}},
		{"one twice", nil, []int64{7, 7}, impl.TermResult{At: 1, Table: tableOf(nameTerm(7), pairTerm(0, 0))}},
		{"one thrice", nil, []int64{7, 7, 7}, impl.TermResult{At: 2, Table: tableOf(nameTerm(7), pairTerm(0, 0), pairTerm(0, 1))}},
		{"three", nil, []int64{0, 9999, 5}, impl.TermResult{At: 4, Table: tableOf(nameTerm(0), nameTerm(9999), nameTerm(5), pairTerm(1, 2), pairTerm(0, 3))}},
		{"the first one again at the end", nil, []int64{3, 4, 3}, impl.TermResult{At: 3, Table: tableOf(nameTerm(3), nameTerm(4), pairTerm(1, 0), pairTerm(0, 2))}},
		{"the last one is there", tableOf(nameTerm(4)), []int64{3, 4}, impl.TermResult{At: 2, Table: tableOf(nameTerm(4), nameTerm(3), pairTerm(1, 0))}},
	}
	for _, c := range cases {
		wantTerm(t, c.what, impl.PutNames(c.table, c.list), c.want)
		wantKeyCall(t, c.what, putNamesCall, c.table, c.list...)
	}
	for _, n := range []int64{math.MinInt64, math.MinInt64 + 1, -1, 10000, 10001, 1 << 32, math.MaxInt64} {
		for _, list := range [][]int64{{n}, {n, 1}, {1, n}, {1, 2, n, 3}, {n, n}, append(upTo(21), n), {0, -n - 1, n}} {
			wantKeyCode(t, "no name", impl.ErrRange, putNamesCall, nil, list...)
			wantKeyCode(t, "no name", impl.ErrRange, putNamesCall, names(400), list...)
		}
	}
}

func TestPutNamesOfEveryLength(t *testing.T) {
	for n := 1; n <= 210; n++ {
		list := upTo(n)
		slices.Reverse(list)
		got := wantKeyCall(t, "others", putNamesCall, nil, list...)
		if (got.code == impl.OK) != (n <= 200) || n <= 200 && len(got.table) != 2*n-1 {
			t.Errorf("%d names: code %d, %d terms", n, got.code, len(got.table))
		}
		if got.code == impl.OK && n <= 20 {
			split := impl.SplitList(got.table, got.numbers[0], int64(n))
			for i, at := range split.List {
				if name := impl.NameAt(got.table, at); name != (impl.IntResult{Value: list[i]}) {
					t.Errorf("%d names: %v at %d, want %d", n, name, at, list[i])
				}
			}
			if len(split.List) != n {
				t.Errorf("%d names: %d parts", n, len(split.List))
			}
		}
	}
	for _, n := range []int{399, 400, 401, 402, 1000, 200000} {
		list := make([]int64, n)
		code := int64(impl.ErrMany)
		if n <= 400 {
			code = impl.OK
		}
		if got := impl.PutNames(nil, list); got.Code != code || code != impl.OK && (got.At != 0 || got.Table != nil) {
			t.Errorf("the name 0, %d times: code %d at %d", n, got.Code, got.At)
		}
		list[n-1] = 10000
		wantTerm(t, "no name at the end", impl.PutNames(nil, list), impl.TermResult{Code: impl.ErrRange})
	}
}

func TestNameAtOfEachKind(t *testing.T) {
	table := behind(oneOfEach(), nameTerm(0), nameTerm(9999))
	wants := map[int64]int64{0: 77, 1: 8, 8: 0, 9: 9999}
	for at := range int64(len(table)) {
		want := impl.IntResult{Code: impl.ErrForm}
		if n, is := wants[at]; is {
			want = impl.IntResult{Value: n}
		}
		if got := impl.NameAt(table, at); got != want {
			t.Errorf("the name at %d: %v, want %v", at, got, want)
		}
		wantKeyCall(t, "as the document says", nameAtCall, table, at)
	}
}

// someNumbers are mostly such as the function takes.
func someNumbers(r *rand.Rand, c keyCall, table []impl.Term) []int64 {
	kinds := c.kinds
	if c.name == "PutNames" {
		kinds = strings.Repeat("n", r.Intn(23))
	}
	x := make([]int64, len(kinds))
	for i, kind := range kinds {
		switch {
		case r.Intn(60) == 0:
			x[i] = []int64{math.MinInt64, -1, int64(len(table)), 10000, math.MaxInt64}[r.Intn(5)]
		case kind == 'p' && len(table) > 0:
			x[i] = r.Int63n(int64(len(table)))
		case kind == 'n':
			x[i] = someNumber(r)
		default:
			x[i] = r.Int63n(6)
		}
	}
	if c.name == "MakeKeys" && r.Intn(8) > 0 {
		x[2] = secretOr(r, table, x[2])
		x[3] = someOf(r, table, 6, x[3])
	}
	if c.name == "OpenSeal" && r.Intn(8) > 0 {
		x[0] = someOf(r, table, 5, x[0])
		if x[0] >= 0 && x[0] < int64(len(table)) && r.Intn(3) > 0 {
			x[1] = table[x[0]].A
		}
	}
	if c.name == "SplitList" && r.Intn(4) > 0 {
		x[0] = someOf(r, table, 3, x[0])
	}
	return x
}

// someOf is the place of some term of that Op, or the other place, if there is none.
func someOf(r *rand.Rand, table []impl.Term, op int64, other int64) int64 {
	var places []int64
	for at, x := range table {
		if x.Op == op {
			places = append(places, int64(at))
		}
	}
	if len(places) == 0 {
		return other
	}
	return places[r.Intn(len(places))]
}

func TestKeysAndProofsOfSomeTables(t *testing.T) {
	r := rand.New(rand.NewSource(93))
	codes := map[string]map[int64]int{}
	for turn := range 1500 {
		table := someTerms(r, r.Intn(60))
		if turn%5 == 0 {
			table = someTerms(r, 370+r.Intn(31))
		}
		for _, c := range keyCalls {
			if codes[c.name] == nil {
				codes[c.name] = map[int64]int{}
			}
			got := wantKeyCall(t, "some", c, table, someNumbers(r, c, table)...)
			codes[c.name][got.code]++
			if c.putsTerms() && got.code == impl.OK && (impl.TermsFault(got.table) != impl.OK || !slices.Equal(got.table[:len(table)], table)) {
				t.Errorf("%s: a table with a fault, or another one", c.name)
			}
		}
	}
	wants := map[string][]int64{
		"MakeKeys": {impl.OK, impl.ErrRange, impl.ErrForm, impl.ErrMany}, "MakeProof": {impl.OK, impl.ErrRange, impl.ErrMany},
		"MakeChild": {impl.OK, impl.ErrRange, impl.ErrMany}, "OpenSeal": {impl.OK, impl.ErrRange, impl.ErrForm, impl.ErrKey},
		"SplitList": {impl.OK, impl.ErrRange, impl.ErrForm}, "PutNames": {impl.OK, impl.ErrRange, impl.ErrMany}, "NameAt": {impl.OK, impl.ErrRange, impl.ErrForm},
	}
	for name, list := range wants {
		for _, code := range list {
			if codes[name][code] == 0 {
				t.Error(name, "told never", code, codes[name])
			}
		}
	}
}
