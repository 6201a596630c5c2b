package tests

import (
	"bytes"
	"math"
	"slices"
	"testing"

	"loop.example/g00205/impl"
)

// wireTables are those of the terms, and those of which the bytes are known.
func wireTables() [][]impl.Term {
	list := termTables()
	for _, c := range wireCases {
		list = append(list, c.table)
	}
	return append(list, leafy(100, 1).alone(), leafy(101, 0).alone(), deepTrees(30)["in seals"].alone(), deepTrees(31)["in seals"].alone())
}

// wireTexts are bytes of terms and of frames, and of none.
func wireTexts() [][]byte {
	list := [][]byte{
		leafy(100, 1).wire(), leafy(101, 0).wire(), filled(401, 3),
		wantedFrameBytes(2, 5, 6, 7, nil).Bytes, wantedFrameBytes(1, 0, 1<<32-1, 9, []byte{1}).Bytes, wantedFrameBytes(9, 5, 6, 7, filled(300, 4)).Bytes,
		append(wantedFrameBytes(2, 5, 6, 7, []byte{1, 2}).Bytes, 3), filled(15, 32),
	}
	for _, c := range wireCases {
		list = append(list, treeAt(c.table, int64(len(c.table))-1).wire())
	}
	for _, name := range []string{"no bytes", "no bytes, not nil", "an Op of 8", "the name 10000", "a both, the greater secret first", "a name and a byte", "31 deep by turns"} {
		list = append(list, wrongWires()[name])
	}
	return list
}

func wireBodies() [][]byte {
	return [][]byte{nil, {}, {9}, filled(300, 7), filled(301, 7)}
}

func unchangedBytes(given []byte, data []byte) bool {
	room := given[len(given):cap(given)]
	return bytes.Equal(given, data) && bytes.Equal(room, make([]byte, len(room)))
}

func TestWireFunctionsChangeNoArgument(t *testing.T) {
	for _, table := range wireTables() {
		given := roomyTerms(table)
		for _, at := range somePlaces(table) {
			impl.DepthOf(given, at)
			impl.EncodeTerm(given, at)
		}
		for _, data := range wireTexts() {
			givenData := roomyCopy(data)
			impl.DecodeTerm(given, givenData)
			impl.DecodeFrame(givenData)
			if !unchangedBytes(givenData, data) {
				t.Errorf("bytes changed: %x, want %x", givenData[:cap(givenData)], data)
			}
		}
		if !unchangedTerms(given, table) {
			t.Error("a table changed:", len(table), "terms")
		}
	}
	for _, body := range wireBodies() {
		given := roomyCopy(body)
		impl.EncodeFrame(1, 2, 3, 4, given)
		if !unchangedBytes(given, body) {
			t.Errorf("a body changed: %x, want %x", given[:cap(given)], body)
		}
	}
}

func TestTermsOnTheWireAreNewMemory(t *testing.T) {
	wrong := impl.Term{Op: 99, A: 99, B: 99, N: 99}
	for _, table := range wireTables() {
		for _, at := range somePlaces(table) {
			given := roomyTerms(table)
			first, second := impl.EncodeTerm(given, at), impl.EncodeTerm(given, at)
			want := bytes.Clone(first.Bytes)
			// What is held stays, whatever becomes of the arguments and of another answer, as far as their memory goes.
			overwrite(wrong, given)
			overwrite(99, second.Bytes)
			wantBytes(t, "bytes held", first, first.Code, want)
			// And what is asked anew is as it was.
			wantBytes(t, "bytes again", impl.EncodeTerm(table, at), first.Code, want)
		}
		for _, data := range wireTexts() {
			given, givenData := roomyTerms(table), roomyCopy(data)
			first, second := impl.DecodeTerm(given, givenData), impl.DecodeTerm(given, givenData)
			want := slices.Clone(first.Table)
			overwrite(wrong, given, second.Table)
			overwrite(99, givenData)
			if !slices.Equal(first.Table, want) {
				t.Errorf("a table that was read shares memory: %d terms, %x", len(table), data)
			}
			wantTerm(t, "read again", impl.DecodeTerm(table, data), impl.TermResult{Code: first.Code, At: first.At, Table: want})
		}
	}
}

func TestFramesAreNewMemory(t *testing.T) {
	for _, body := range wireBodies() {
		given := roomyCopy(body)
		first, second := impl.EncodeFrame(1, 2, 3, 4, given), impl.EncodeFrame(1, 2, 3, 4, given)
		want := bytes.Clone(first.Bytes)
		overwrite(99, given, second.Bytes)
		wantBytes(t, "a frame held", first, first.Code, want)
		wantBytes(t, "a frame again", impl.EncodeFrame(1, 2, 3, 4, body), first.Code, want)
	}
	for _, data := range wireTexts() {
		given := roomyCopy(data)
		first, second := impl.DecodeFrame(given), impl.DecodeFrame(given)
		want := bytes.Clone(first.Body)
		overwrite(99, given, second.Body)
		if !bytes.Equal(first.Body, want) {
			t.Errorf("a body shares memory: %x, want %x", first.Body, want)
		}
		if again := impl.DecodeFrame(data); !sameFrame(again, first) {
			t.Error("another frame the second time:", again, "want", first)
		}
	}
}

func TestWireAnswersHangOnTheArgumentsAlone(t *testing.T) {
	tables, texts, bodies := wireTables(), wireTexts(), wireBodies()
	wantSameAgain(t, len(tables), func(i int, roomy bool) []any {
		table, room := tables[i], func(data []byte) []byte { return data }
		if roomy {
			table, room = roomyTerms(table), roomyCopy
		}
		var all []any
		for _, at := range somePlaces(table) {
			all = append(all, impl.DepthOf(table, at), impl.EncodeTerm(table, at))
		}
		for _, data := range texts {
			all = append(all, impl.DecodeTerm(table, room(data)), impl.DecodeFrame(room(data)))
		}
		for _, body := range bodies {
			all = append(all, impl.EncodeFrame(1, 2, 3, int64(i), room(body)))
		}
		return all
	})
}

func TestWireFunctionsAnswerAtTheEndsOfEveryNumberAtOnce(t *testing.T) {
	ahead := tableOf(freshTerm(2), freshTerm(1), nameTerm(3))
	ends := []int64{math.MinInt64, math.MinInt64 + 1, -1, 0, 1, 2, 3, 4, 9999, 10000, math.MaxInt64 - 1, math.MaxInt64}
	codes := map[int64]int{}
	for _, op := range []int64{math.MinInt64, -1, 0, 1, 2, 3, 4, 5, 6, 7, 8, math.MaxInt64} {
		for _, a := range ends {
			for _, b := range ends {
				for _, n := range []int64{math.MinInt64, -1, 0, 1, 9999, 10000, math.MaxInt64} {
					table := behind(ahead, impl.Term{Op: op, A: a, B: b, N: n})
					for _, at := range []int64{math.MinInt64, -1, 0, 3, 4, a, b, math.MaxInt64} {
						want := wantedTermBytes(table, at)
						codes[want.Code]++
						wantBytes(t, "bytes", impl.EncodeTerm(table, at), want.Code, want.Bytes)
						if got := impl.DepthOf(table, at); got != wantedDepth(table, at) {
							t.Error("depth at", at, "of", table, "is", got)
						}
					}
					want := wantedDecoded(table, []byte{6, 2, 0, 1})
					wantTerm(t, "read", impl.DecodeTerm(table, []byte{6, 2, 0, 1}), want)
				}
			}
		}
	}
	for _, code := range []int64{impl.OK, impl.ErrForm, impl.ErrRange, impl.ErrText} {
		if codes[code] == 0 {
			t.Error("code", code, "was not asked for:", codes)
		}
	}
	for _, kind := range ends {
		for _, spiA := range ends {
			for _, spiB := range ends {
				for _, number := range ends {
					wantFrame(t, kind, spiA, spiB, number, []byte{1})
				}
			}
		}
	}
}
