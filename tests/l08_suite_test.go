package tests

import (
	"bytes"
	"fmt"
	"math"
	"math/rand"
	"slices"
	"testing"

	"loop.example/g00205/impl"
)

// suiteFields names every number of a suite, with those that it may be and ones that it may not be.
var suiteFields = []struct {
	name  string
	of    func(x *impl.Suite) *int64
	right []int64
	wrong []int64
}{
	{"Cipher", func(x *impl.Suite) *int64 { return &x.Cipher }, []int64{1, 2, 3, 4}, []int64{0, 5, 6, 128, 1 + 256}},
	{"Bits", func(x *impl.Suite) *int64 { return &x.Bits }, []int64{128, 192, 256}, []int64{0, 1, 2, 3, 4, 63, 64, 65, 127, 129, 160, 191, 193, 224, 255, 257, 320, 384, 512, 128 + 1<<14}},
	{"Mix", func(x *impl.Suite) *int64 { return &x.Mix }, []int64{1, 2, 3}, []int64{0, 4, 5, 128, 3 + 256}},
	{"Group", func(x *impl.Suite) *int64 { return &x.Group }, []int64{1, 2, 3, 4, 5, 6}, []int64{0, 7, 8, 128, 6 + 256}},
}

// farNumbers are none of any suite.
var farNumbers = []int64{math.MinInt64, math.MinInt64 + 1, -1 << 32, -256, -192, -128, -64, -6, -3, -2, -1, 1<<32 + 1, 1<<32 + 128, 1 << 40, math.MaxInt64 - 1, math.MaxInt64}

func suite(cipher int64, bits int64, mix int64, group int64) impl.Suite {
	return impl.Suite{Cipher: cipher, Bits: bits, Mix: mix, Group: group}
}

func suites(list ...impl.Suite) []impl.Suite {
	return list
}

// allSuites are all that have no fault, in the order of their four numbers.
func allSuites() []impl.Suite {
	list := suites(impl.Suite{})
	for _, field := range suiteFields {
		var longer []impl.Suite
		for _, x := range list {
			for _, n := range field.right {
				*field.of(&x) = n
				longer = append(longer, x)
			}
		}
		list = longer
	}
	return list
}

// wrongSuites have one number that is not right, in each field by turns.
func wrongSuites() []impl.Suite {
	var list []impl.Suite
	for _, field := range suiteFields {
		for _, n := range slices.Concat(field.wrong, farNumbers) {
			x := suite(2, 192, 2, 3)
			*field.of(&x) = n
			list = append(list, x)
		}
	}
	return list
}

func someSuites(r *rand.Rand, n int) []impl.Suite {
	all := allSuites()
	var list []impl.Suite
	for _, at := range r.Perm(len(all))[:n] {
		list = append(list, all[at])
	}
	return list
}

// mixedSuites are the same ones in another order.
func mixedSuites(r *rand.Rand, list []impl.Suite) []impl.Suite {
	mixed := slices.Clone(list)
	r.Shuffle(len(mixed), func(i int, j int) { mixed[i], mixed[j] = mixed[j], mixed[i] })
	return mixed
}

func wantedSuiteFault(x impl.Suite) int64 {
	for _, field := range suiteFields {
		if !slices.Contains(field.right, *field.of(&x)) {
			return impl.ErrRange
		}
	}
	return impl.OK
}

func wantedSuitesFault(list []impl.Suite) int64 {
	if len(list) == 0 || len(list) > 10 {
		return impl.ErrMany
	}
	seen := map[impl.Suite]int{}
	for _, x := range list {
		if wantedSuiteFault(x) != impl.OK {
			return impl.ErrRange
		}
		seen[x]++
		if seen[x] > 1 {
			return impl.ErrTaken
		}
	}
	return impl.OK
}

// wantedCommon goes from the last one offered to the first one.
func wantedCommon(offered []impl.Suite, mine []impl.Suite) impl.SuitesResult {
	for _, list := range [][]impl.Suite{offered, mine} {
		if code := wantedSuitesFault(list); code != impl.OK {
			return impl.SuitesResult{Code: code}
		}
	}
	var common []impl.Suite
	for at := len(offered) - 1; at >= 0; at-- {
		for _, x := range mine {
			if x == offered[at] {
				common = append(suites(x), common...)
			}
		}
	}
	if common == nil {
		return impl.SuitesResult{Code: impl.ErrNone}
	}
	return impl.SuitesResult{Suites: common}
}

func wantedChoice(offered []impl.Suite, mine []impl.Suite) impl.SuiteResult {
	common := wantedCommon(offered, mine)
	if common.Code != impl.OK {
		return impl.SuiteResult{Code: common.Code}
	}
	at := 0
	for !slices.Contains(mine, offered[at]) {
		at++
	}
	return impl.SuiteResult{At: int64(at), Suite: offered[at]}
}

func wantedWeaker(a impl.Suite, b impl.Suite) bool {
	if wantedSuiteFault(a) != impl.OK || wantedSuiteFault(b) != impl.OK {
		return false
	}
	below := 0
	for _, field := range suiteFields {
		if *field.of(&a) > *field.of(&b) {
			return false
		}
		if *field.of(&a) < *field.of(&b) {
			below++
		}
	}
	return below > 0
}

// wantedStrongest leaves those with the most Bits, of these those with the greatest Group, and so on.
func wantedStrongest(list []impl.Suite) impl.SuiteResult {
	if code := wantedSuitesFault(list); code != impl.OK {
		return impl.SuiteResult{Code: code}
	}
	left := slices.Clone(list)
	for _, field := range []int{1, 3, 2, 0} {
		greatest := int64(0)
		for _, x := range left {
			greatest = max(greatest, *suiteFields[field].of(&x))
		}
		left = slices.DeleteFunc(left, func(x impl.Suite) bool { return *suiteFields[field].of(&x) < greatest })
	}
	return impl.SuiteResult{At: int64(slices.Index(list, left[0])), Suite: left[0]}
}

func fourBytes(x impl.Suite) []byte {
	return []byte{byte(x.Cipher), map[int64]byte{128: 2, 192: 3, 256: 4}[x.Bits], byte(x.Mix), byte(x.Group)}
}

// suitesOfBytes are all suites by their four bytes.
var suitesOfBytes = func() map[[4]byte]impl.Suite {
	all := map[[4]byte]impl.Suite{}
	for _, x := range allSuites() {
		all[[4]byte(fourBytes(x))] = x
	}
	return all
}()

func wantedSuiteBytes(list []impl.Suite) impl.BytesResult {
	if code := wantedSuitesFault(list); code != impl.OK {
		return impl.BytesResult{Code: code}
	}
	var data []byte
	for _, x := range list {
		data = append(data, fourBytes(x)...)
	}
	return impl.BytesResult{Bytes: data}
}

func wantedSuitesRead(data []byte) impl.SuitesResult {
	var list []impl.Suite
	for four := range slices.Chunk(data, 4) {
		if len(four) < 4 {
			return impl.SuitesResult{Code: impl.ErrText}
		}
		x, found := suitesOfBytes[[4]byte(four)]
		if !found || slices.Contains(list, x) || len(list) == 10 {
			return impl.SuitesResult{Code: impl.ErrText}
		}
		list = append(list, x)
	}
	if list == nil {
		return impl.SuitesResult{Code: impl.ErrText}
	}
	return impl.SuitesResult{Suites: list}
}

// wantSuites fails the test unless got is want; no list and an empty one are the same.
func wantSuites(t *testing.T, what string, got impl.SuitesResult, want impl.SuitesResult) {
	t.Helper()
	if got.Code != want.Code || !slices.Equal(got.Suites, want.Suites) {
		t.Errorf("%s: %v, want %v", what, got, want)
	}
}

func wantSuite(t *testing.T, what string, got impl.SuiteResult, want impl.SuiteResult) {
	t.Helper()
	if got != want {
		t.Errorf("%s: %v, want %v", what, got, want)
	}
}

// wantProposals asks every function of chapter 8 that is given one list.
func wantProposals(t *testing.T, what string, list []impl.Suite) int64 {
	t.Helper()
	code := impl.SuitesFault(list)
	if want := wantedSuitesFault(list); code != want {
		t.Errorf("%s: %v: fault %d, want %d", what, list, code, want)
	}
	wantSuite(t, fmt.Sprint(what, ", strongest of ", list), impl.StrongestOf(list), wantedStrongest(list))
	encoded, want := impl.EncodeSuites(list), wantedSuiteBytes(list)
	wantBytes(t, fmt.Sprint(what, ", bytes of ", list), encoded, want.Code, want.Bytes)
	if code == impl.OK {
		wantSuites(t, what+", read back", impl.DecodeSuites(encoded.Bytes), impl.SuitesResult{Suites: list})
	}
	return code
}

// wantChosen asks every function of chapter 8 that is given two lists, and whether promise 9 holds of what they tell.
func wantChosen(t *testing.T, what string, offered []impl.Suite, mine []impl.Suite) int64 {
	t.Helper()
	what = fmt.Sprint(what, ", offered ", offered, ", mine ", mine)
	chosen, common := impl.ChooseSuite(offered, mine), impl.CommonSuites(offered, mine)
	wantSuite(t, what+", chosen", chosen, wantedChoice(offered, mine))
	wantSuites(t, what+", common", common, wantedCommon(offered, mine))
	if chosen.Code != impl.OK {
		return chosen.Code
	}
	if offered[chosen.At] != chosen.Suite || !slices.Contains(mine, chosen.Suite) {
		t.Errorf("%s: chosen %v, which was not offered so, or is not wanted", what, chosen)
	}
	for _, ahead := range offered[:chosen.At] {
		if slices.Contains(mine, ahead) {
			t.Errorf("%s: chosen %v, though %v is ahead of it", what, chosen, ahead)
		}
	}
	return chosen.Code
}

// wantSuitesRead fails the test unless the bytes are read as the document says, and what is read is written as they are.
func wantSuitesRead(t *testing.T, what string, data []byte) int64 {
	t.Helper()
	got := impl.DecodeSuites(data)
	wantSuites(t, fmt.Sprintf("%s, %x read", what, data), got, wantedSuitesRead(data))
	if got.Code == impl.OK {
		wantBytes(t, what+", written again", impl.EncodeSuites(got.Suites), impl.OK, data)
	}
	return got.Code
}

// wantAllSuiteCodes fails the test unless every function tells the code for the list, and nothing beside it:
// of two lists too, if it is the first one, or the one ahead has no fault.
func wantAllSuiteCodes(t *testing.T, what string, list []impl.Suite, code int64) {
	t.Helper()
	if got := impl.SuitesFault(list); got != code {
		t.Errorf("%s: fault %d, want %d", what, got, code)
	}
	wantSuite(t, what+", strongest", impl.StrongestOf(list), impl.SuiteResult{Code: code})
	wantBytes(t, what+", bytes", impl.EncodeSuites(list), code, nil)
	right := suites(suite(2, 192, 2, 3), suite(1, 128, 1, 1))
	for _, other := range [][]impl.Suite{nil, {}, {{}}, right, right[1:], slices.Repeat(right, 2), slices.Repeat(right, 10), suites(suite(5, 1, 2, 3)), list} {
		wantSuite(t, what+", offered, chosen", impl.ChooseSuite(list, other), impl.SuiteResult{Code: code})
		wantSuites(t, what+", offered, common", impl.CommonSuites(list, other), impl.SuitesResult{Code: code})
	}
	for _, other := range [][]impl.Suite{right, right[1:], allSuites()[:10]} {
		wantSuite(t, what+", mine, chosen", impl.ChooseSuite(other, list), impl.SuiteResult{Code: code})
		wantSuites(t, what+", mine, common", impl.CommonSuites(other, list), impl.SuitesResult{Code: code})
	}
}

func TestBoundOfProposalsIsThatOfTheDocument(t *testing.T) {
	if impl.MaxOffers != 10 {
		t.Error(impl.MaxOffers)
	}
}

func TestSuiteFaultOfEveryNumber(t *testing.T) {
	for _, field := range suiteFields {
		for _, x := range allSuites() {
			if code := impl.SuiteFault(x); code != impl.OK {
				t.Errorf("%v: fault %d", x, code)
			}
			for _, n := range slices.Concat(field.wrong, farNumbers) {
				*field.of(&x) = n
				if code := impl.SuiteFault(x); code != impl.ErrRange {
					t.Errorf("%v: fault %d", x, code)
				}
			}
		}
		for n := int64(-300); n <= 600; n++ {
			x := suite(1, 128, 1, 1)
			*field.of(&x) = n
			if got, want := impl.SuiteFault(x), wantedSuiteFault(x); got != want {
				t.Errorf("%s, %v: fault %d, want %d", field.name, x, got, want)
			}
		}
	}
	if all := allSuites(); len(all) != 4*3*3*6 {
		t.Error("all suites:", len(all))
	}
}

func TestSuiteFaultAtTheEndsOfEveryNumberAtOnce(t *testing.T) {
	numbers := []int64{math.MinInt64, -1, 0, 1, 3, 4, 5, 6, 7, 128, 256, math.MaxInt64}
	codes := map[int64]int{}
	for _, cipher := range numbers {
		for _, bits := range append([]int64{127, 192, 257}, numbers...) {
			for _, mix := range numbers {
				for _, group := range numbers {
					x := suite(cipher, bits, mix, group)
					want := wantedSuiteFault(x)
					codes[want]++
					if got := impl.SuiteFault(x); got != want {
						t.Errorf("%v: fault %d, want %d", x, got, want)
					}
					if got := impl.SuitesFault(suites(x)); got != want {
						t.Errorf("%v alone: fault %d, want %d", x, got, want)
					}
				}
			}
		}
	}
	if codes[impl.OK] == 0 || codes[impl.ErrRange] == 0 || len(codes) != 2 {
		t.Error("codes", codes)
	}
}

func TestSuitesFaultOfEveryLength(t *testing.T) {
	all := allSuites()
	for length := 0; length <= 50; length++ {
		list := all[3 : 3+length]
		if length == 0 || length > 10 {
			wantAllSuiteCodes(t, fmt.Sprint(length, " suites"), list, impl.ErrMany)
			continue
		}
		if code := wantProposals(t, "of every length", list); code != impl.OK {
			t.Error(length, "suites: code", code)
		}
		wantChosen(t, "of every length", list, all[2+length:5+length])
	}
	wantAllSuiteCodes(t, "no list", nil, impl.ErrMany)
	wantAllSuiteCodes(t, "all suites", all, impl.ErrMany)
	for _, length := range []int{11, 12, 256 + 1, 1<<16 + 1} {
		wantAllSuiteCodes(t, "many of no suite", make([]impl.Suite, length), impl.ErrMany)
		wantAllSuiteCodes(t, "one suite many times", slices.Repeat(all[:1], length), impl.ErrMany)
	}
}

func TestSuitesThatStandMoreThanOnce(t *testing.T) {
	all := allSuites()
	for length := 2; length <= 10; length++ {
		for last := 1; last < length; last++ {
			for first := range last {
				list := slices.Clone(all[70 : 70+length])
				list[last] = list[first]
				wantAllSuiteCodes(t, fmt.Sprint(length, " suites, the same at ", first, " and ", last), list, impl.ErrTaken)
			}
		}
		wantAllSuiteCodes(t, fmt.Sprint("one suite ", length, " times"), slices.Repeat(all[5:6], length), impl.ErrTaken)
	}
	wantAllSuiteCodes(t, "three times", suites(all[0], all[1], all[0], all[2], all[0]), impl.ErrTaken)
	wantAllSuiteCodes(t, "two of them twice", suites(all[0], all[1], all[1], all[0]), impl.ErrTaken)
}

func TestSuitesThatDifferInOneNumberAreNotTheSame(t *testing.T) {
	for _, x := range allSuites() {
		for _, field := range suiteFields {
			for _, n := range field.right {
				y := x
				*field.of(&y) = n
				if y == x {
					continue
				}
				if code := wantProposals(t, field.name, suites(x, y)); code != impl.OK {
					t.Errorf("%v beside %v: code %d", x, y, code)
				}
				wantSuite(t, "one number else", impl.ChooseSuite(suites(x), suites(y)), impl.SuiteResult{Code: impl.ErrNone})
				wantSuites(t, "one number else", impl.CommonSuites(suites(x), suites(y)), impl.SuitesResult{Code: impl.ErrNone})
				wantSuite(t, "the second one", impl.ChooseSuite(suites(x, y), suites(y)), impl.SuiteResult{At: 1, Suite: y})
			}
		}
	}
}

func TestSuitesFaultGoesSuiteBySuite(t *testing.T) {
	all := allSuites()
	a, b := all[7], all[100]
	for _, wrong := range append(wrongSuites(), impl.Suite{}) {
		cases := []struct {
			what string
			list []impl.Suite
			code int64
		}{
			{"alone", suites(wrong), impl.ErrRange},
			{"the first of two", suites(wrong, a), impl.ErrRange},
			{"the last of two", suites(a, wrong), impl.ErrRange},
			{"the first of ten", append(suites(wrong), all[:9]...), impl.ErrRange},
			{"the last of ten", append(slices.Clone(all[:9]), wrong), impl.ErrRange},
			{"the last of eleven", append(slices.Clone(all[:10]), wrong), impl.ErrMany},
			{"the first of eleven", append(suites(wrong), all[:10]...), impl.ErrMany},
			{"ahead of one that stands twice", suites(a, wrong, a), impl.ErrRange},
			{"behind one that stands twice", suites(a, a, wrong), impl.ErrTaken},
			{"twice", suites(wrong, wrong), impl.ErrRange},
			{"two, and one that stands twice between them", suites(wrong, a, a, wrong), impl.ErrRange},
			{"two, and the second of two that are the same between them", suites(a, b, wrong, b, a, wrong), impl.ErrRange},
			{"the second and the last of two that are the same ahead", suites(a, b, b, wrong, a, wrong), impl.ErrTaken},
		}
		for _, c := range cases {
			wantAllSuiteCodes(t, fmt.Sprint(wrong, ", ", c.what), c.list, c.code)
		}
	}
}

func TestTheFaultOfWhatWasOfferedIsAskedFirst(t *testing.T) {
	a, b := suite(2, 192, 2, 3), suite(1, 128, 1, 1)
	lists := map[int64][][]impl.Suite{
		impl.OK:       {{a}, {a, b}, {b}, allSuites()[:10]},
		impl.ErrMany:  {nil, {}, allSuites()[:11], slices.Repeat(suites(a), 11), make([]impl.Suite, 11)},
		impl.ErrRange: {{{}}, {a, {}}, {suite(5, 128, 1, 1), a, a}, {suite(0, 128, 1, 1)}, {a, suite(1, 128, 1, math.MinInt64)}},
		impl.ErrTaken: {{a, a}, {a, b, a}, {b, a, a, {}}},
	}
	for first, firsts := range lists {
		for second, seconds := range lists {
			code := first
			if first == impl.OK {
				code = second
			}
			for _, offered := range firsts {
				for _, mine := range seconds {
					got := wantChosen(t, "two lists", offered, mine)
					if got != code && (code != impl.OK || got != impl.ErrNone) {
						t.Errorf("offered %v, mine %v: code %d, want %d", offered, mine, got, code)
					}
				}
			}
		}
	}
}

func TestTheOfferedListSaysTheOrder(t *testing.T) {
	a, b, c, d := suite(1, 128, 1, 1), suite(4, 256, 3, 6), suite(2, 192, 2, 3), suite(3, 128, 3, 2)
	cases := []struct {
		offered []impl.Suite
		mine    []impl.Suite
		at      int64
		common  []impl.Suite
	}{
		{suites(a), suites(a), 0, suites(a)},
		{suites(a, b), suites(b, a), 0, suites(a, b)},
		{suites(b, a), suites(a, b), 0, suites(b, a)},
		{suites(a, b, c), suites(c, b, a), 0, suites(a, b, c)},
		{suites(c, a, b), suites(a, b, c), 0, suites(c, a, b)},
		{suites(a, b, c), suites(c, b), 1, suites(b, c)},
		{suites(a, c, b), suites(b, c), 1, suites(c, b)},
		{suites(a, b, c, d), suites(d), 3, suites(d)},
		{suites(a, b, c, d), suites(a), 0, suites(a)},
		{suites(a, b, c, d), suites(d, b), 1, suites(b, d)},
		{suites(d), suites(a, b, c, d), 0, suites(d)},
		{suites(b, d), suites(a, d, c), 1, suites(d)},
	}
	for _, x := range cases {
		what := fmt.Sprint("offered ", x.offered, ", mine ", x.mine)
		wantSuite(t, what, impl.ChooseSuite(x.offered, x.mine), impl.SuiteResult{At: x.at, Suite: x.offered[x.at]})
		wantSuites(t, what, impl.CommonSuites(x.offered, x.mine), impl.SuitesResult{Suites: x.common})
	}
}

func TestSuitesOfWhichNoneIsInCommon(t *testing.T) {
	all := allSuites()
	for length := 1; length <= 10; length++ {
		offered := all[20 : 20+length]
		for _, mine := range [][]impl.Suite{all[20+length : 30+length], all[10:20], all[:1], all[215:]} {
			wantSuite(t, "none in common", impl.ChooseSuite(offered, mine), impl.SuiteResult{Code: impl.ErrNone})
			wantSuites(t, "none in common", impl.CommonSuites(offered, mine), impl.SuitesResult{Code: impl.ErrNone})
		}
	}
}

func TestOneInCommonAtEachTwoPlaces(t *testing.T) {
	all := allSuites()
	x := all[215]
	for length := 1; length <= 10; length++ {
		for at := range length {
			for there := range 10 {
				offered, mine := slices.Clone(all[:length]), slices.Clone(all[50:60])
				offered[at], mine[there] = x, x
				wantSuite(t, "one in common", impl.ChooseSuite(offered, mine), impl.SuiteResult{At: int64(at), Suite: x})
				wantSuites(t, "one in common", impl.CommonSuites(offered, mine), impl.SuitesResult{Suites: suites(x)})
			}
		}
	}
}

func TestTheSameSuitesInEveryOrder(t *testing.T) {
	r := rand.New(rand.NewSource(81))
	orders := [][]int{{0, 1, 2}, {0, 2, 1}, {1, 0, 2}, {1, 2, 0}, {2, 0, 1}, {2, 1, 0}}
	for range 20 {
		list := someSuites(r, 3)
		for _, first := range orders {
			for _, second := range orders {
				var offered, mine []impl.Suite
				for i := range 3 {
					offered, mine = append(offered, list[first[i]]), append(mine, list[second[i]])
				}
				wantSuite(t, "the same ones", impl.ChooseSuite(offered, mine), impl.SuiteResult{Suite: offered[0]})
				wantSuites(t, "the same ones", impl.CommonSuites(offered, mine), impl.SuitesResult{Suites: offered})
			}
		}
	}
}

func TestWhatIsChosenWasOfferedAndIsWanted(t *testing.T) {
	r := rand.New(rand.NewSource(82))
	codes := map[int64]int{}
	for range 5000 {
		near := someSuites(r, 1+r.Intn(20))
		draw := func() []impl.Suite { return mixedSuites(r, near)[:1+r.Intn(min(10, len(near)))] }
		offered, mine := draw(), draw()
		switch r.Intn(10) {
		case 0:
			offered[r.Intn(len(offered))] = offered[0]
		case 1:
			mine[r.Intn(len(mine))] = impl.Suite{}
		}
		codes[wantChosen(t, "some", offered, mine)]++
	}
	for code, least := range map[int64]int{impl.OK: 2000, impl.ErrNone: 200, impl.ErrRange: 200, impl.ErrTaken: 200} {
		if codes[code] < least {
			t.Error("codes", codes)
		}
	}
}

func TestWhatIsInCommonIsSoOfBothSides(t *testing.T) {
	r := rand.New(rand.NewSource(83))
	for range 1000 {
		near := someSuites(r, 12)
		a, b := mixedSuites(r, near)[:6], mixedSuites(r, near)[:8]
		ours, theirs := impl.CommonSuites(a, b), impl.CommonSuites(b, a)
		if ours.Code != theirs.Code || len(ours.Suites) != len(theirs.Suites) {
			t.Fatal(a, b, ours, theirs)
		}
		for _, x := range ours.Suites {
			if !slices.Contains(theirs.Suites, x) {
				t.Error(x, "is in common one way alone:", a, b)
			}
		}
		// Of what is in common all is in common again, in the order in which it was offered.
		if ours.Code == impl.OK {
			wantSuites(t, "again", impl.CommonSuites(ours.Suites, b), ours)
			wantSuites(t, "of the other side's", impl.CommonSuites(ours.Suites, theirs.Suites), ours)
			wantSuites(t, "the other way round", impl.CommonSuites(theirs.Suites, ours.Suites), theirs)
		}
	}
}

func TestWeakerSuites(t *testing.T) {
	least, middle, greatest := suite(1, 128, 1, 1), suite(2, 192, 2, 3), suite(4, 256, 3, 6)
	cases := []struct {
		what string
		a, b impl.Suite
		is   bool
	}{
		{"itself, the least", least, least, false},
		{"itself", middle, middle, false},
		{"itself, the greatest", greatest, greatest, false},
		{"all below", least, middle, true},
		{"all above", middle, least, false},
		{"the ends", least, greatest, true},
		{"the ends, the other way", greatest, least, false},
		{"the Cipher below", suite(1, 192, 2, 3), middle, true},
		{"the Bits below", suite(2, 128, 2, 3), middle, true},
		{"the Mix below", suite(2, 192, 1, 3), middle, true},
		{"the Group below", suite(2, 192, 2, 2), middle, true},
		{"the Cipher above", suite(3, 192, 2, 3), middle, false},
		{"the Bits above", suite(2, 256, 2, 3), middle, false},
		{"the Mix above", suite(2, 192, 3, 3), middle, false},
		{"the Group above", suite(2, 192, 2, 4), middle, false},
		{"the Bits below and the Cipher above", suite(3, 128, 2, 3), middle, false},
		{"the Bits below and the Mix above", suite(2, 128, 3, 3), middle, false},
		{"the Bits below and the Group above", suite(2, 128, 2, 4), middle, false},
		{"the Group below and the Mix above", suite(2, 192, 3, 2), middle, false},
		{"the Group below and the Cipher above", suite(3, 192, 2, 2), middle, false},
		{"the Mix below and the Cipher above", suite(3, 192, 1, 3), middle, false},
		{"the Cipher below and the Bits above", suite(1, 256, 2, 3), middle, false},
		{"all below but the Group", suite(1, 128, 1, 4), middle, false},
		{"all below, the Group the same", suite(1, 128, 1, 3), middle, true},
		{"a Cipher of 0", suite(0, 128, 1, 1), greatest, false},
		{"Bits of 0", suite(1, 0, 1, 1), greatest, false},
		{"Bits of 127", suite(1, 127, 1, 1), greatest, false},
		{"a Mix of 0", suite(1, 128, 0, 1), greatest, false},
		{"a Group of 0", suite(1, 128, 1, 0), greatest, false},
		{"than a Cipher of 5", least, suite(5, 256, 3, 6), false},
		{"than Bits of 257", least, suite(4, 257, 3, 6), false},
		{"than a Mix of 4", least, suite(4, 256, 4, 6), false},
		{"than a Group of 7", least, suite(4, 256, 3, 7), false},
		{"the zero value than itself", impl.Suite{}, impl.Suite{}, false},
		{"the zero value", impl.Suite{}, least, false},
	}
	for _, c := range cases {
		if got := impl.WeakerSuite(c.a, c.b); got != c.is {
			t.Errorf("%s: %v than %v: %v", c.what, c.a, c.b, got)
		}
	}
}

func TestWeakerOfEachTwoSuites(t *testing.T) {
	all, weaker := allSuites(), 0
	for _, a := range all {
		for _, b := range all {
			got := impl.WeakerSuite(a, b)
			if got != wantedWeaker(a, b) {
				t.Errorf("%v than %v: %v", a, b, got)
			}
			if got {
				weaker++
				wantSuite(t, "the stronger one", impl.StrongestOf(suites(a, b)), impl.SuiteResult{At: 1, Suite: b})
			}
		}
	}
	// Of each number the pairs of which the first is not above; less the pairs of which all are the same.
	if weaker != 10*6*6*21-216 {
		t.Error("pairs:", weaker)
	}
}

func TestNoSuiteIsWeakerBesideAFault(t *testing.T) {
	wrongs := append(wrongSuites(), impl.Suite{}, suite(math.MinInt64, math.MinInt64, math.MinInt64, math.MinInt64), suite(math.MaxInt64, math.MaxInt64, math.MaxInt64, math.MaxInt64))
	for _, wrong := range wrongs {
		for _, x := range allSuites() {
			if impl.WeakerSuite(wrong, x) || impl.WeakerSuite(x, wrong) {
				t.Errorf("%v beside %v", x, wrong)
			}
		}
		for _, other := range wrongs {
			if impl.WeakerSuite(wrong, other) {
				t.Errorf("%v beside %v", wrong, other)
			}
		}
	}
}

func TestStrongestOfKnownSuites(t *testing.T) {
	cases := []struct {
		what string
		list []impl.Suite
		at   int64
	}{
		{"alone", suites(suite(1, 128, 1, 1)), 0},
		{"the most Bits, and all else the least", suites(suite(4, 192, 3, 6), suite(1, 256, 1, 1), suite(4, 128, 3, 6)), 1},
		{"the most Bits of the least", suites(suite(1, 192, 1, 1), suite(4, 128, 3, 6)), 0},
		{"the greatest Group", suites(suite(4, 192, 3, 2), suite(1, 192, 1, 3)), 1},
		{"the greatest Group, first", suites(suite(1, 192, 1, 6), suite(4, 192, 3, 5)), 0},
		{"the greatest Group of those with the most Bits", suites(suite(4, 128, 3, 6), suite(1, 192, 1, 2), suite(4, 192, 3, 1)), 1},
		{"the greatest Mix", suites(suite(4, 256, 2, 4), suite(1, 256, 3, 4)), 1},
		{"the greatest Mix, first", suites(suite(1, 256, 2, 4), suite(4, 256, 1, 4)), 0},
		{"the greatest Mix of those with the greatest Group", suites(suite(4, 256, 3, 3), suite(1, 256, 2, 4), suite(4, 256, 1, 4)), 1},
		{"the greatest Cipher", suites(suite(1, 128, 2, 5), suite(3, 128, 2, 5), suite(2, 128, 2, 5)), 1},
		{"the greatest Cipher, last", suites(suite(1, 128, 2, 5), suite(3, 128, 2, 5), suite(4, 128, 2, 5)), 2},
		{"the greatest Cipher of those with the greatest Mix", suites(suite(4, 128, 1, 5), suite(1, 128, 2, 5), suite(2, 128, 2, 5)), 2},
	}
	for _, c := range cases {
		wantSuite(t, c.what, impl.StrongestOf(c.list), impl.SuiteResult{At: c.at, Suite: c.list[c.at]})
	}
}

func TestStrongestOfEachTwoSuites(t *testing.T) {
	all := allSuites()
	for i, a := range all {
		for _, b := range all[i+1:] {
			wantSuite(t, "two", impl.StrongestOf(suites(a, b)), wantedStrongest(suites(a, b)))
			wantSuite(t, "two", impl.StrongestOf(suites(b, a)), wantedStrongest(suites(b, a)))
		}
	}
}

func TestTheStrongestAtEachPlace(t *testing.T) {
	r := rand.New(rand.NewSource(84))
	for length := 1; length <= 10; length++ {
		for at := range length {
			for range 100 {
				list := someSuites(r, length)
				strongest := impl.StrongestOf(list).Suite
				list = slices.DeleteFunc(list, func(x impl.Suite) bool { return x == strongest })
				list = slices.Insert(list, at, strongest)
				wantSuite(t, "at each place", impl.StrongestOf(list), impl.SuiteResult{At: int64(at), Suite: strongest})
				wantSuite(t, "at each place", impl.StrongestOf(list), wantedStrongest(list))
			}
		}
	}
}

func TestSuitesOfKnownBytes(t *testing.T) {
	ten := suites(suite(1, 128, 1, 1), suite(2, 192, 2, 2), suite(3, 256, 3, 3), suite(4, 128, 1, 4), suite(1, 192, 2, 5),
		suite(2, 256, 3, 6), suite(3, 128, 1, 1), suite(4, 192, 2, 2), suite(1, 256, 3, 3), suite(2, 128, 1, 4))
	cases := []struct {
		list []impl.Suite
		text string
	}{
		{suites(suite(1, 256, 2, 1)), "01040201"},
		{suites(suite(1, 128, 1, 1)), "01020101"},
		{suites(suite(4, 256, 3, 6)), "04040306"},
		{suites(suite(3, 192, 2, 5)), "03030205"},
		{suites(suite(3, 192, 2, 5), suite(1, 256, 2, 1)), "03030205" + "01040201"},
		{ten, "01020101" + "02030202" + "03040303" + "04020104" + "01030205" + "02040306" + "03020101" + "04030202" + "01040303" + "02020104"},
	}
	for _, c := range cases {
		data := fromHex(t, c.text)
		wantBytes(t, c.text, impl.EncodeSuites(c.list), impl.OK, data)
		wantSuites(t, c.text, impl.DecodeSuites(data), impl.SuitesResult{Suites: c.list})
	}
}

func TestProposalsAreReadBack(t *testing.T) {
	r := rand.New(rand.NewSource(85))
	for _, x := range allSuites() {
		wantProposals(t, "alone", suites(x))
	}
	for round := range 2000 {
		list := someSuites(r, 1+round%10)
		if code := wantProposals(t, "some", list); code != impl.OK {
			t.Error("code", code)
		}
	}
}

func TestBytesOfNoSuites(t *testing.T) {
	text := impl.SuitesResult{Code: impl.ErrText}
	for _, data := range [][]byte{nil, {}, {1}, {1, 2}, {1, 2, 1}, {1, 2, 1, 1, 1}, {1, 2, 1, 1, 1, 2}, {1, 2, 1, 1, 1, 2, 1}, {0, 0, 0, 0}, {1, 128, 1, 1}} {
		wantSuites(t, fmt.Sprintf("%x", data), impl.DecodeSuites(data), text)
	}
	if got := impl.DecodeSuites([]byte{1, 2, 1, 1}); got.Code != impl.OK || len(got.Suites) != 1 {
		t.Error("four bytes:", got)
	}
	for length := range 100 {
		for _, b := range []byte{0, 1, 2, 3, 4, 255} {
			wantSuites(t, fmt.Sprint(length, " bytes ", b), impl.DecodeSuites(filled(length, b)), wantedSuitesRead(filled(length, b)))
		}
	}
}

func TestBytesOfSuitesThatAreCutOrLonger(t *testing.T) {
	all := allSuites()
	whole := wantedSuiteBytes(all[30:40]).Bytes
	for length := range 41 {
		code := wantSuitesRead(t, "cut", whole[:length])
		if (code == impl.OK) != (length > 0 && length%4 == 0) {
			t.Error(length, "bytes: code", code)
		}
		for b := range 256 {
			code := wantSuitesRead(t, "one more", append(slices.Clone(whole[:length]), byte(b)))
			if length%4 < 3 && code != impl.ErrText {
				t.Error(length, "bytes and", b, "more: code", code)
			}
		}
	}
	for _, more := range []int{1, 2, 3, 4, 5, 8, 40, 256 * 4, 1 << 18} {
		for _, b := range []byte{0, 1, 2, 255} {
			wantSuites(t, "more", impl.DecodeSuites(append(slices.Clone(whole), filled(more, b)...)), impl.SuitesResult{Code: impl.ErrText})
		}
	}
	eleven := whole
	for _, x := range all[40:50] {
		eleven = append(eleven[:40:40], fourBytes(x)...)
		wantSuites(t, "eleven suites", impl.DecodeSuites(eleven), impl.SuitesResult{Code: impl.ErrText})
		wantSuites(t, "ten of them", impl.DecodeSuites(eleven[4:]), impl.SuitesResult{Suites: append(slices.Clone(all[31:40]), x)})
	}
}

func TestBytesOfSuitesOfWhichOneIsTurned(t *testing.T) {
	right := [][]byte{{1, 2, 3, 4}, {2, 3, 4}, {1, 2, 3}, {1, 2, 3, 4, 5, 6}}
	for length := 1; length <= 10; length++ {
		whole := wantedSuiteBytes(allSuites()[100 : 100+length]).Bytes
		for at := range whole {
			for b := range 256 {
				turned := slices.Clone(whole)
				turned[at] = byte(b)
				code := wantSuitesRead(t, "turned", turned)
				if !slices.Contains(right[at%4], byte(b)) && code != impl.ErrText {
					t.Errorf("byte %d turned to %d: code %d", at, b, code)
				}
			}
		}
	}
}

func TestEveryFourBytesNearTheBounds(t *testing.T) {
	letters, read := []byte{0, 1, 2, 3, 4, 5, 6, 7, 66, 128, 192, 255}, 0
	eachText(letters, 4, func(data []byte) {
		if wantSuitesRead(t, "four bytes", data) == impl.OK {
			read++
		}
	})
	if read != 216 {
		t.Error("suites read:", read)
	}
}

func TestBytesWithOneSuiteTwice(t *testing.T) {
	all := allSuites()
	for length := 2; length <= 10; length++ {
		for last := 1; last < length; last++ {
			for first := range last {
				data := wantedSuiteBytes(all[150 : 150+length]).Bytes
				copy(data[4*last:4*last+4], data[4*first:])
				wantSuites(t, "one twice", impl.DecodeSuites(data), impl.SuitesResult{Code: impl.ErrText})
			}
		}
	}
	for times := 2; times <= 300; times++ {
		wantSuites(t, "one many times", impl.DecodeSuites(bytes.Repeat([]byte{1, 2, 1, 1}, times)), impl.SuitesResult{Code: impl.ErrText})
	}
}

func TestNoOtherBytesAreRead(t *testing.T) {
	r := rand.New(rand.NewSource(86))
	codes := map[int64]int{}
	for range 20000 {
		data := wantedSuiteBytes(someSuites(r, 1+r.Intn(10))).Bytes
		for faults := r.Intn(3); faults > 0 && len(data) > 0; faults-- {
			at := r.Intn(len(data))
			switch r.Intn(4) {
			case 0:
				data[at] = byte(r.Intn(8))
			case 1:
				data = slices.Insert(data, at, byte(r.Intn(8)))
			case 2:
				data = slices.Delete(data, at, at+1)
			case 3:
				data = slices.Concat(data, data[:4*r.Intn(len(data)/4+1)])
			}
		}
		codes[wantSuitesRead(t, "some bytes", data)]++
	}
	if codes[impl.OK] < 5000 || codes[impl.ErrText] < 5000 || len(codes) != 2 {
		t.Error("codes", codes)
	}
}

func TestASuiteIsAgreedOnOverBytes(t *testing.T) {
	offered := suites(suite(4, 256, 3, 6), suite(2, 192, 2, 3), suite(1, 128, 1, 1))
	mine := suites(suite(1, 128, 1, 1), suite(2, 192, 2, 3))
	heard := impl.DecodeSuites(impl.EncodeSuites(offered).Bytes)
	chosen := impl.ChooseSuite(heard.Suites, mine)
	wantSuite(t, "chosen", chosen, impl.SuiteResult{At: 1, Suite: suite(2, 192, 2, 3)})
	wantSuite(t, "strongest in common", impl.StrongestOf(impl.CommonSuites(heard.Suites, mine).Suites), impl.SuiteResult{Suite: chosen.Suite})
}
