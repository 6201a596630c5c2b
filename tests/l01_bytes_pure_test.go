package tests

import (
	"bytes"
	"math/rand"
	"reflect"
	"sync"
	"testing"

	"loop.example/g00205/impl"
)

// roomyCopy has room behind its end, so that an append to the copy would write into memory that the test sees.
func roomyCopy(data []byte) []byte {
	return append(make([]byte, 0, len(data)+16), data...)
}

// bytesArguments are data of the kinds that chapter 1 tells apart.
func bytesArguments() [][]byte {
	r := rand.New(rand.NewSource(8))
	list := [][]byte{nil, {}, {0}, {1}, {255}, {1, 7, 0}, {3, 1, 2, 3, 2, 4, 5}, filled(20, 0), filled(21, 0), filled(401, 1), filled(400, 255)}
	for length := 1; length <= 400; length = length*3 + 1 {
		list = append(list, someBytes(r, length), impl.PutParts([][]byte{someBytes(r, length%200), {5}, nil, someBytes(r, length%9)}).Bytes)
	}
	return list
}

func partsArguments() [][][]byte {
	return [][][]byte{nil, {}, {nil}, {{}}, {{7}, nil}, {{1, 2}, {3}, filled(255, 4)}, {filled(256, 1)}, {filled(255, 1), filled(144, 2)}, make([][]byte, 20), make([][]byte, 21)}
}

// answersOf calls every function of chapter 1 that is given bytes, the numbers at the edges with it.
func answersOf(data []byte) []any {
	all := []any{impl.SumWords(data), impl.CheckWords(data), impl.TakeParts(data), impl.HexText(data)}
	for _, n := range edgeNumbers {
		all = append(all, impl.FoldSum(n))
		for size := int64(0); size <= 8; size++ {
			all = append(all, impl.TakeNumber(data, n, size), impl.PutNumber(n, size))
		}
	}
	return all
}

func TestBytesFunctionsChangeNoArgument(t *testing.T) {
	for _, data := range bytesArguments() {
		given := roomyCopy(data)
		answersOf(given)
		room := given[len(given):cap(given)]
		if !bytes.Equal(given, data) || !bytes.Equal(room, make([]byte, len(room))) {
			t.Error("data changed:", data)
		}
	}
	for _, parts := range partsArguments() {
		given := make([][]byte, len(parts), len(parts)+4)
		for i := range parts {
			given[i] = roomyCopy(parts[i])
		}
		impl.PutParts(given)
		if !sameParts(given, parts) || !sameParts(given[len(given):cap(given)], make([][]byte, 4)) {
			t.Error("parts changed:", parts)
		}
		for _, part := range given {
			if room := part[len(part):cap(part)]; !bytes.Equal(room, make([]byte, len(room))) {
				t.Error("memory behind a part changed:", part)
			}
		}
	}
}

func TestBytesAnswersAreNewMemory(t *testing.T) {
	for _, data := range bytesArguments() {
		given := roomyCopy(data)
		got := impl.TakeParts(given)
		want := impl.TakeParts(data)
		for i := range given {
			given[i] ^= 255
		}
		if !sameParts(got.Parts, want.Parts) {
			t.Error("a part is a piece of the data:", data)
		}
		// A part that is written over and added to, as far as its memory goes, may not touch its neighbours.
		for i, part := range got.Parts {
			whole := part[:cap(part)]
			for k := range whole {
				whole[k] = 99
			}
			got.Parts[i] = nil
			if i+1 < len(got.Parts) && !sameParts(got.Parts[i+1:], want.Parts[i+1:]) {
				t.Error("two parts share memory:", data)
			}
		}
	}
	for _, parts := range [][][]byte{{{7}}, {{1, 2}, {3}}, {filled(255, 4)}} {
		given := make([][]byte, len(parts))
		for i := range parts {
			given[i] = bytes.Clone(parts[i])
		}
		got, want := impl.PutParts(given), impl.PutParts(parts)
		for _, part := range given {
			clear(part)
		}
		wantBytes(t, "parts that were cleared behind the call", got, impl.OK, want.Bytes)
	}
}

func TestTwoAnswersShareNoMemory(t *testing.T) {
	// Each call is made twice with the first answer still held; the second one is then written over, as far as its memory goes.
	calls := map[string]func() [][]byte{
		"PutNumber": func() [][]byte { return [][]byte{impl.PutNumber(258, 3).Bytes} },
		"PutParts":  func() [][]byte { return [][]byte{impl.PutParts([][]byte{{7}, nil}).Bytes} },
		"TakeParts": func() [][]byte { return impl.TakeParts([]byte{1, 7, 0, 1, 8}).Parts },
	}
	wants := map[string][][]byte{"PutNumber": {{0, 1, 2}}, "PutParts": {{1, 7, 0}}, "TakeParts": {{7}, nil, {8}}}
	for name, call := range calls {
		first, second := call(), call()
		for i, part := range second {
			whole := part[:cap(part)]
			for k := range whole {
				whole[k] = 99
			}
			second[i] = filled(3, 99)
		}
		if !sameParts(first, wants[name]) {
			t.Error(name, "gave out the same memory twice:", first)
		}
		if third := call(); !sameParts(third, wants[name]) {
			t.Error(name, "kept what was written into an answer:", third)
		}
	}
}

// wantSameAgain asks each of n things, and then all of them again, the last one first and side by side.
// What is asked again has room behind its end, so that an answer that hangs on a capacity is seen.
func wantSameAgain(t *testing.T, n int, ask func(i int, roomy bool) []any) {
	t.Helper()
	first := make([][]any, n)
	for i := range first {
		first[i] = ask(i, false)
	}
	var all sync.WaitGroup
	for i := n - 1; i >= 0; i-- {
		all.Add(1)
		go func() {
			defer all.Done()
			if again := ask(i, true); !reflect.DeepEqual(again, first[i]) {
				t.Error("another answer the second time:", again, first[i])
			}
		}()
	}
	all.Wait()
}

func TestBytesAnswersHangOnTheArgumentsAlone(t *testing.T) {
	list := bytesArguments()
	wantSameAgain(t, len(list), func(i int, roomy bool) []any {
		if roomy {
			return answersOf(roomyCopy(list[i]))
		}
		return answersOf(list[i])
	})
	for _, parts := range partsArguments() {
		got, again := impl.PutParts(parts), impl.PutParts(append(make([][]byte, 0, 30), parts...))
		wantBytes(t, "parts put again", again, got.Code, got.Bytes)
	}
}
