package tests

import (
	"bytes"
	"encoding/hex"
	"math"
	"math/big"
	"math/rand"
	"reflect"
	"testing"

	"loop.example/g00205/impl"
)

// Numbers at and around every bound that chapter 1 names, and the ends of int64.
var edgeNumbers = []int64{
	math.MinInt64, math.MinInt64 + 1, -1 << 56, -65536, -256, -1, 0, 1, 2, 6, 7, 8, 9,
	255, 256, 257, 65535, 65536, 65537, 1<<24 - 1, 1 << 24, 1<<32 - 1, 1 << 32,
	1<<40 - 1, 1 << 40, 1<<48 - 1, 1 << 48, 1<<48 + 1, 1<<56 - 1, 1 << 56, 1<<56 + 1,
	math.MaxInt64 - 7, math.MaxInt64 - 1, math.MaxInt64,
}

// wantBytes fails the test unless got is OK with these bytes, or the code with none.
func wantBytes(t *testing.T, what string, got impl.BytesResult, code int64, data []byte) {
	t.Helper()
	if got.Code != code || !bytes.Equal(got.Bytes, data) {
		t.Errorf("%s: code %d, %d bytes %v; want code %d, %d bytes %v", what, got.Code, len(got.Bytes), got.Bytes, code, len(data), data)
	}
}

func someBytes(r *rand.Rand, n int) []byte {
	data := make([]byte, n)
	r.Read(data)
	return data
}

func filled(n int, b byte) []byte {
	return bytes.Repeat([]byte{b}, n)
}

func TestCodesAndBoundsAreThoseOfTheDocument(t *testing.T) {
	codes := []int64{impl.OK, impl.ErrForm, impl.ErrMany, impl.ErrRange, impl.ErrNone, impl.ErrText, impl.ErrSum, impl.ErrTaken, impl.ErrBusy, impl.ErrKey, impl.ErrOld}
	for want, code := range codes {
		if code != int64(want) {
			t.Errorf("code %d is %d", want, code)
		}
	}
	if impl.MaxBytes != 400 {
		t.Error("MaxBytes is", impl.MaxBytes)
	}
}

func TestPutNumberAtEveryEdge(t *testing.T) {
	for _, size := range edgeNumbers {
		for _, n := range edgeNumbers {
			got := impl.PutNumber(n, size)
			if size < 1 || size > 7 || n < 0 || big.NewInt(n).BitLen() > int(8*size) {
				wantBytes(t, "a number out of its bounds", got, impl.ErrRange, nil)
				continue
			}
			wantBytes(t, "a number", got, impl.OK, big.NewInt(n).FillBytes(make([]byte, size)))
		}
	}
}

func TestPutNumberHoldsTheGreatestOfEachSizeAndNoneAbove(t *testing.T) {
	for size := int64(1); size <= 7; size++ {
		greatest := int64(1)<<(8*size) - 1
		wantBytes(t, "the greatest", impl.PutNumber(greatest, size), impl.OK, filled(int(size), 255))
		wantBytes(t, "one above it", impl.PutNumber(greatest+1, size), impl.ErrRange, nil)
		wantBytes(t, "nought", impl.PutNumber(0, size), impl.OK, filled(int(size), 0))
		wantBytes(t, "one below it", impl.PutNumber(-1, size), impl.ErrRange, nil)
	}
	for _, size := range []int64{-1, 0, 8, 9} {
		wantBytes(t, "no size", impl.PutNumber(0, size), impl.ErrRange, nil)
	}
}

func TestNumbersAreTakenFromTheBytesTheyArePutInto(t *testing.T) {
	r := rand.New(rand.NewSource(1))
	for round := 0; round < 5000; round++ {
		size := int64(1 + r.Intn(7))
		n := r.Int63() >> (63 - 8*size)
		put := impl.PutNumber(n, size)
		at := r.Intn(20)
		data := append(append(someBytes(r, at), put.Bytes...), someBytes(r, r.Intn(20))...)
		got := impl.TakeNumber(data, int64(at), size)
		if put.Code != impl.OK || got != (impl.IntResult{Value: n}) {
			t.Fatalf("%d in %d bytes at %d: put %v, taken %v", n, size, at, put, got)
		}
	}
}

func TestTakeNumberAtEveryEdge(t *testing.T) {
	r := rand.New(rand.NewSource(2))
	for length := 0; length <= 10; length++ {
		data := someBytes(r, length)
		ats := append([]int64{3, 4, 5, 10, 11, int64(length) - 7, int64(length) - 1, int64(length), int64(length) + 1}, edgeNumbers...)
		for _, size := range edgeNumbers {
			for _, at := range ats {
				got := impl.TakeNumber(data, at, size)
				want := impl.IntResult{Code: impl.ErrRange}
				// Reckoned without bounds, so that at and size together can't overflow here either.
				end := new(big.Int).Add(big.NewInt(at), big.NewInt(size))
				if size >= 1 && size <= 7 && at >= 0 && end.Cmp(big.NewInt(int64(length))) <= 0 {
					want = impl.IntResult{Value: new(big.Int).SetBytes(data[at : at+size]).Int64()}
				}
				if got != want {
					t.Errorf("%v at %d size %d: %v, want %v", data, at, size, got, want)
				}
			}
		}
	}
}

func TestTakeNumberLooksNotBehindTheEnd(t *testing.T) {
	roomy := filled(10, 9)
	data := roomy[:3]
	if got := impl.TakeNumber(data, 1, 2); got != (impl.IntResult{Value: 9*256 + 9}) {
		t.Error("the last two bytes:", got)
	}
	if got := impl.TakeNumber(data, 2, 2); got != (impl.IntResult{Code: impl.ErrRange}) {
		t.Error("one byte behind the end:", got)
	}
	if got := impl.TakeNumber(data, 3, 1); got != (impl.IntResult{Code: impl.ErrRange}) {
		t.Error("at the end:", got)
	}
}

func TestFoldSumAtEveryEdge(t *testing.T) {
	known := map[int64]int64{0: 0, 1: 1, 65535: 65535, 65536: 1, 65537: 2, 131070: 65535, 131071: 1, 1 << 32: 1, 1<<48 - 1: 65535, 1 << 48: 1}
	for n, want := range known {
		if got := impl.FoldSum(n); got != (impl.IntResult{Value: want}) {
			t.Errorf("%d: %v, want %d", n, got, want)
		}
	}
	for _, n := range []int64{-1, 1<<48 + 1, 1 << 49, math.MinInt64, math.MaxInt64} {
		if got := impl.FoldSum(n); got != (impl.IntResult{Code: impl.ErrRange}) {
			t.Errorf("%d: %v", n, got)
		}
	}
}

// folded is what folding comes to: nought stays, all else keeps what 65535 leaves of it, and is not nought.
func folded(n int64) int64 {
	if n == 0 {
		return 0
	}
	return (n-1)%65535 + 1
}

func TestFoldSumKeepsWhat65535Leaves(t *testing.T) {
	r := rand.New(rand.NewSource(3))
	for round := 0; round < 5000; round++ {
		n := r.Int63n(1<<48+1) >> r.Intn(49)
		if got := impl.FoldSum(n); got != (impl.IntResult{Value: folded(n)}) {
			t.Fatalf("%d: %v, want %d", n, got, folded(n))
		}
	}
}

func TestSumWordsOfKnownBytes(t *testing.T) {
	cases := []struct {
		data []byte
		sum  int64
	}{
		{nil, 65535},
		{[]byte{}, 65535},
		{[]byte{0}, 65535},
		{[]byte{0, 0}, 65535},
		{[]byte{1}, 65535 - 256},
		{[]byte{255}, 255},
		{[]byte{0, 1}, 65534},
		{[]byte{1, 0}, 65535 - 256},
		{[]byte{1, 2, 3}, 64509},
		{[]byte{1, 2, 3, 0}, 64509},
		{[]byte{255, 255}, 0},
		{[]byte{255, 254, 0, 1}, 0},
		{[]byte{255, 255, 0, 1}, 65534},
		{[]byte{255, 255, 0, 0, 1}, 65535 - 256},
		{[]byte{255, 255, 255, 255}, 0},
		{[]byte{128, 0, 128, 0}, 65534},
		{[]byte{0x00, 0x01, 0xf2, 0x03, 0xf4, 0xf5, 0xf6, 0xf7}, 0x220d},
	}
	for _, c := range cases {
		if got := impl.SumWords(c.data); got != c.sum {
			t.Errorf("%v: %d, want %d", c.data, got, c.sum)
		}
		if got := impl.CheckWords(c.data); got != (c.sum == 0) {
			t.Errorf("%v: whole %v, sum %d", c.data, got, c.sum)
		}
	}
}

func TestSumWordsHasNoGreatestLength(t *testing.T) {
	r := rand.New(rand.NewSource(4))
	// The words of the longer ones come to more than 2^32 and would not fit 32 bits.
	for _, length := range []int{1, 2, 3, 4, 399, 400, 401, 402, 1001, 131076, 262144, 262145} {
		for _, data := range [][]byte{someBytes(r, length), filled(length, 255), filled(length, 0)} {
			sum := int64(0)
			for i, b := range data {
				sum += int64(b) << (8 * (1 - i%2))
			}
			if got := impl.SumWords(data); got != 65535-folded(sum) {
				t.Errorf("%d bytes from %d: %d, want %d", length, data[0], got, 65535-folded(sum))
			}
		}
	}
}

func TestEvenBytesWithTheirSumAreWhole(t *testing.T) {
	r := rand.New(rand.NewSource(5))
	for round := 0; round < 1000; round++ {
		data := someBytes(r, 2*r.Intn(300))
		if round < 10 {
			data = filled(2*round, byte(255*(round%2)))
		}
		whole := append(bytes.Clone(data), impl.PutNumber(impl.SumWords(data), 2).Bytes...)
		if len(whole) != len(data)+2 || !impl.CheckWords(whole) {
			t.Fatal("not whole:", whole)
		}
		// One byte turned changes its word by less than 65535, so the sum is never right.
		whole[r.Intn(len(whole))] ^= byte(1 + r.Intn(255))
		if impl.CheckWords(whole) {
			t.Fatal("whole, with one byte turned:", whole)
		}
	}
}

func TestAnOddLastByteIsTheHigherOne(t *testing.T) {
	r := rand.New(rand.NewSource(6))
	for length := 1; length < 50; length += 2 {
		data := someBytes(r, length)
		padded := append(bytes.Clone(data), 0)
		if impl.SumWords(data) != impl.SumWords(padded) {
			t.Error(data)
		}
		// What lies behind the end in memory is no part of the data.
		roomy := append(bytes.Clone(data), 77)
		if impl.SumWords(roomy[:length]) != impl.SumWords(padded) {
			t.Error("byte behind the end counted:", data)
		}
	}
}

func TestPutPartsAtEveryEdge(t *testing.T) {
	many := func(n int, size int) [][]byte {
		parts := make([][]byte, n)
		for i := range parts {
			parts[i] = filled(size, byte(i+1))
		}
		return parts
	}
	cases := []struct {
		what  string
		parts [][]byte
		code  int64
		size  int
	}{
		{"no list", nil, impl.OK, 0},
		{"an empty list", [][]byte{}, impl.OK, 0},
		{"a nil part", [][]byte{nil}, impl.OK, 1},
		{"an empty part", [][]byte{{}}, impl.OK, 1},
		{"20 empty parts", many(20, 0), impl.OK, 20},
		{"21 empty parts", many(21, 0), impl.ErrMany, 0},
		{"255 bytes", many(1, 255), impl.OK, 256},
		{"256 bytes", many(1, 256), impl.ErrMany, 0},
		{"256 bytes behind others", [][]byte{{1}, {2}, filled(256, 3)}, impl.ErrMany, 0},
		{"400 bytes in all", [][]byte{filled(255, 1), filled(143, 2)}, impl.OK, 400},
		{"401 bytes in all", [][]byte{filled(255, 1), filled(144, 2)}, impl.ErrMany, 0},
		{"400 bytes but for lengths", [][]byte{filled(200, 1), filled(200, 2)}, impl.ErrMany, 0},
		{"400 bytes in 20 parts", many(20, 19), impl.OK, 400},
		{"20 parts of 20", many(20, 20), impl.ErrMany, 0},
		{"401 bytes by an empty one", [][]byte{filled(255, 1), filled(143, 2), nil}, impl.ErrMany, 0},
	}
	for _, c := range cases {
		var want []byte
		for _, part := range c.parts {
			if c.code == impl.OK {
				want = append(append(want, byte(len(part))), part...)
			}
		}
		if len(want) != c.size {
			t.Fatal(c.what, "is", len(want), "bytes")
		}
		wantBytes(t, c.what, impl.PutParts(c.parts), c.code, want)
	}
}

// sameParts holds an empty part and a nil one for the same.
func sameParts(a [][]byte, b [][]byte) bool {
	if len(a) != len(b) {
		return false
	}
	for i := range a {
		if !bytes.Equal(a[i], b[i]) {
			return false
		}
	}
	return true
}

func TestPartsAreTakenApartAgain(t *testing.T) {
	r := rand.New(rand.NewSource(7))
	fit := 0
	for round := 0; round < 3000; round++ {
		parts := make([][]byte, r.Intn(23))
		for i := range parts {
			parts[i] = someBytes(r, r.Intn(1+400/len(parts)))
		}
		put := impl.PutParts(parts)
		if put.Code != impl.OK {
			continue
		}
		fit++
		if got := impl.TakeParts(put.Bytes); got.Code != impl.OK || !sameParts(got.Parts, parts) {
			t.Fatalf("%v taken apart: %v", parts, got)
		}
	}
	if fit < 1000 {
		t.Error("only", fit, "lists fit")
	}
}

func TestTakePartsAtEveryEdge(t *testing.T) {
	full := append(append([]byte{255}, filled(255, 1)...), append([]byte{143}, filled(143, 2)...)...)
	cases := []struct {
		what  string
		data  []byte
		code  int64
		parts [][]byte
	}{
		{"no bytes", nil, impl.OK, nil},
		{"an empty list", []byte{}, impl.OK, nil},
		{"an empty part", []byte{0}, impl.OK, [][]byte{nil}},
		{"a part and an empty one", []byte{1, 7, 0}, impl.OK, [][]byte{{7}, nil}},
		{"a length alone", []byte{1}, impl.ErrText, nil},
		{"a byte too few", []byte{2, 7}, impl.ErrText, nil},
		{"a byte too few behind others", []byte{1, 7, 0, 3, 1, 2}, impl.ErrText, nil},
		{"254 of 255 bytes", append([]byte{255}, filled(254, 1)...), impl.ErrText, nil},
		{"255 of 255 bytes", append([]byte{255}, filled(255, 1)...), impl.OK, [][]byte{filled(255, 1)}},
		{"20 empty parts", filled(20, 0), impl.OK, make([][]byte, 20)},
		{"21 empty parts", filled(21, 0), impl.ErrText, nil},
		{"20 parts and a wrong one", append(filled(20, 0), 9), impl.ErrText, nil},
		{"400 bytes", full, impl.OK, [][]byte{filled(255, 1), filled(143, 2)}},
		{"400 empty parts", filled(400, 0), impl.ErrText, nil},
		{"401 bytes", append(bytes.Clone(full), 0), impl.ErrMany, nil},
		{"401 bytes that are no parts", filled(401, 255), impl.ErrMany, nil},
		{"1000 bytes", filled(1000, 0), impl.ErrMany, nil},
	}
	for _, c := range cases {
		got := impl.TakeParts(c.data)
		if got.Code != c.code || !sameParts(got.Parts, c.parts) {
			t.Errorf("%s: %v, want code %d, %v", c.what, got, c.code, c.parts)
		}
	}
}

// With few kinds of bytes all short data can be gone through: what is taken is put again, and what is not is no PutParts.
func TestTakePartsAnswersJustWhatPutPartsMakes(t *testing.T) {
	made := map[string]bool{}
	var putAll func(parts [][]byte, room int)
	var words [][]byte
	kinds := []byte{0, 1, 2, 3, 9}
	level := [][]byte{nil}
	for size := 0; size <= 5; size++ {
		words = append(words, level...)
		var next [][]byte
		for _, word := range level {
			for _, b := range kinds {
				next = append(next, append(bytes.Clone(word), b))
			}
		}
		level = next
	}
	putAll = func(parts [][]byte, room int) {
		made[string(impl.PutParts(parts).Bytes)] = true
		for _, word := range words {
			if len(word) < room {
				putAll(append(parts[:len(parts):len(parts)], word), room-len(word)-1)
			}
		}
	}
	putAll(nil, 5)
	for _, data := range words {
		got := impl.TakeParts(data)
		if made[string(data)] {
			if back := impl.PutParts(got.Parts); got.Code != impl.OK || !bytes.Equal(back.Bytes, data) {
				t.Errorf("%v: %v, put again %v", data, got, back)
			}
		} else if !reflect.DeepEqual(got, impl.PartsResult{Code: impl.ErrText}) {
			t.Errorf("%v: %v", data, got)
		}
	}
}

func TestHexText(t *testing.T) {
	all := make([]byte, 256)
	for i := range all {
		all[i] = byte(i)
	}
	for _, data := range [][]byte{nil, {}, {0}, {15}, {16}, {255}, {1, 2, 171}, all, filled(400, 222)} {
		if got := impl.HexText(data); got != (impl.TextResult{Text: hex.EncodeToString(data)}) {
			t.Errorf("%v: %v", data, got)
		}
	}
	for _, length := range []int{401, 402, 10000} {
		if got := impl.HexText(filled(length, 1)); got != (impl.TextResult{Code: impl.ErrMany}) {
			t.Errorf("%d bytes: %v", length, got)
		}
	}
}
