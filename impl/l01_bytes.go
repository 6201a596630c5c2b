package impl

import "bytes"

const OK = 0
const ErrForm = 1
const ErrMany = 2
const ErrRange = 3
const ErrNone = 4
const ErrText = 5
const ErrSum = 6
const ErrTaken = 7
const ErrBusy = 8
const ErrKey = 9
const ErrOld = 10
const MaxBytes = 400

const maxNumberSize = 7
const maxSum = 1 << 48
const maxWord = 65535
const maxParts = 20
const maxPartBytes = 255
const hexDigits = "0123456789abcdef"

type IntResult struct {
	Code  int64
	Value int64
}
type IntsResult struct {
	Code int64
	List []int64
}
type BytesResult struct {
	Code  int64
	Bytes []byte
}
type TextResult struct {
	Code int64
	Text string
}
type PartsResult struct {
	Code  int64
	Parts [][]byte
}

func PutNumber(n int64, size int64) BytesResult {
	if !isNumberSize(size) || n < 0 || n > greatestNumber(size) {
		return BytesResult{Code: ErrRange}
	}
	data := make([]byte, size)
	rest := uint64(n)
	for i := size - 1; i >= 0; i-- {
		data[i] = byte(rest)
		rest >>= 8
	}
	return BytesResult{Bytes: data}
}

func TakeNumber(data []byte, at int64, size int64) IntResult {
	// The size is taken from the length, as at and size together might overflow.
	if !isNumberSize(size) || at < 0 || at > int64(len(data))-size {
		return IntResult{Code: ErrRange}
	}
	var n uint64
	for _, b := range data[at : at+size] {
		n = n<<8 | uint64(b)
	}
	return IntResult{Value: int64(n)}
}

func isNumberSize(size int64) bool {
	return size >= 1 && size <= maxNumberSize
}

func greatestNumber(size int64) int64 {
	return 1<<(8*size) - 1
}

func SumWords(data []byte) int64 {
	var sum uint64
	for i := 0; i < len(data); i += 2 {
		// Folding at each word comes to the same as folding the whole sum,
		// and no length of data overflows it.
		sum = foldWords(sum + uint64(wordAt(data, i)))
	}
	return maxWord - int64(sum)
}

func CheckWords(data []byte) bool {
	return SumWords(data) == 0
}

func FoldSum(n int64) IntResult {
	if n < 0 || n > maxSum {
		return IntResult{Code: ErrRange}
	}
	return IntResult{Value: int64(foldWords(uint64(n)))}
}

func foldWords(n uint64) uint64 {
	for n > maxWord {
		n = n%(maxWord+1) + n/(maxWord+1)
	}
	return n
}

func wordAt(data []byte, at int) uint16 {
	word := uint16(data[at]) << 8
	if at+1 < len(data) {
		word |= uint16(data[at+1])
	}
	return word
}

func PutParts(parts [][]byte) BytesResult {
	if !partsFit(parts...) {
		return BytesResult{Code: ErrMany}
	}
	return BytesResult{Bytes: joinParts(parts...)}
}

func partsFit(parts ...[]byte) bool {
	if len(parts) > maxParts {
		return false
	}
	all := 0
	for _, part := range parts {
		if len(part) > maxPartBytes {
			return false
		}
		all += 1 + len(part)
	}
	return all <= MaxBytes
}

func joinParts(parts ...[]byte) []byte {
	var data []byte
	for _, part := range parts {
		data = append(data, byte(len(part)))
		data = append(data, part...)
	}
	return data
}

func TakeParts(data []byte) PartsResult {
	if len(data) > MaxBytes {
		return PartsResult{Code: ErrMany}
	}
	var parts [][]byte
	for rest := data; len(rest) > 0; {
		end := 1 + int(rest[0])
		// PutParts makes no such data, so there are no parts that it comes of.
		if end > len(rest) || len(parts) == maxParts {
			return PartsResult{Code: ErrText}
		}
		parts = append(parts, bytes.Clone(rest[1:end]))
		rest = rest[end:]
	}
	return PartsResult{Parts: parts}
}

func HexText(data []byte) TextResult {
	if len(data) > MaxBytes {
		return TextResult{Code: ErrMany}
	}
	digits := make([]byte, 0, 2*len(data))
	for _, b := range data {
		digits = append(digits, hexDigits[b>>4], hexDigits[b&15])
	}
	return TextResult{Text: string(digits)}
}
