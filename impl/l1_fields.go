package impl

import (
	"iter"
	"strconv"
	"strings"
)

// FieldMax is the greatest number of fields of a record.
const FieldMax = 60

// RecordMax is the greatest number of bytes of a record.
const RecordMax = 2048

// NumMax is the greatest number in a field.
const NumMax = 999999999

// PackTop is the greatest number of bytes that are packed as one run.
const PackTop = 9

const (
	fieldSign  = ":"
	packSign   = '~'
	packLeast  = 4
	packSize   = 3
	sumModulus = 9973
)

// FieldsPut returns the text of a record, and true.
func FieldsPut(list []string) (string, bool) {
	if len(list) > FieldMax {
		return "", false
	}
	record := []byte{}
	for _, field := range list {
		record = strconv.AppendInt(record, int64(len(field)), 10)
		record = append(record, fieldSign...)
		// Asked ahead of the copy, so that a huge field is never copied.
		if len(field) > RecordMax-len(record) {
			return "", false
		}
		record = append(record, field...)
	}
	return string(record), true
}

// FieldsGet returns the record that a text is the text of, and true.
func FieldsGet(s string) ([]string, bool) {
	if len(s) > RecordMax {
		return nil, false
	}
	list := []string{}
	for s != "" {
		field, rest, ok := cutField(s)
		if !ok || len(list) == FieldMax {
			return nil, false
		}
		list = append(list, field)
		s = rest
	}
	return list, true
}

// cutField returns the first field of the text of a record, and what is behind it.
func cutField(s string) (string, string, bool) {
	size, rest, found := strings.Cut(s, fieldSign)
	n, ok := NumGet(size)
	if !found || !ok || n > len(rest) {
		return "", "", false
	}
	return rest[:n], rest[n:], true
}

// NumPut returns the number text of n, or the empty text if n is not in 0..NumMax.
func NumPut(n int) string {
	if n < 0 || n > NumMax {
		return ""
	}
	return strconv.Itoa(n)
}

// NumGet returns the number that a number text is of, and true.
func NumGet(s string) (int, bool) {
	n, err := strconv.Atoi(s)
	// Atoi reads signs and needless zeros, too: only what NumPut writes is a number text.
	if err != nil || NumPut(n) != s {
		return 0, false
	}
	return n, true
}

// numsGet returns the numbers that number texts are of, and true; it fails if one of the texts is none.
func numsGet(texts ...string) ([]int, bool) {
	list := []int{}
	for _, text := range texts {
		n, ok := NumGet(text)
		if !ok {
			return nil, false
		}
		list = append(list, n)
	}
	return list, true
}

// SumOf returns the checksum of a text.
func SumOf(s string) int {
	one, two := 1, 0
	for at := range len(s) {
		one = (one + int(s[at]) + 1) % sumModulus
		two = (one + two) % sumModulus
	}
	return one*sumModulus + two
}

// RunsPack returns a text packed.
func RunsPack(s string) string {
	packed := []byte{}
	for one, many := range runsOf(s) {
		if many >= packLeast || one == packSign {
			packed = append(packed, packSign, byte('0'+many), one)
			continue
		}
		// A run that is too short stays so from its second byte on, so all of it is written as it is.
		packed = appendRun(packed, one, many)
	}
	return string(packed)
}

// RunsOpen returns the text that is packed to p, and true.
func RunsOpen(p string) (string, bool) {
	text := []byte{}
	for rest := p; rest != ""; {
		one, many, used := openRun(rest)
		if used == 0 {
			return "", false
		}
		text = appendRun(text, one, many)
		rest = rest[used:]
	}
	s := string(text)
	// Other packings of s can be opened as well, but only one of them is that of RunsPack.
	if RunsPack(s) != p {
		return "", false
	}
	return s, true
}

// runsOf gives the byte and the length of each run of a text, from the left.
func runsOf(s string) iter.Seq2[byte, int] {
	return func(yield func(byte, int) bool) {
		for at := 0; at < len(s); {
			many := runLength(s[at:])
			if !yield(s[at], many) {
				return
			}
			at += many
		}
	}
}

// runLength returns how many bytes at the beginning of a text are equal, PackTop at most.
func runLength(s string) int {
	many := 1
	for many < len(s) && many < PackTop && s[many] == s[0] {
		many++
	}
	return many
}

// openRun returns the first run of a packed text that is not empty: its byte, its length, and how many bytes it is packed to, 0 if it is none.
func openRun(p string) (byte, int, int) {
	if p[0] != packSign {
		return p[0], 1, 1
	}
	if len(p) < packSize || p[1] < '1' || p[1] > '0'+PackTop {
		return 0, 0, 0
	}
	return p[2], int(p[1] - '0'), packSize
}

// appendRun returns a text with a run behind it.
func appendRun(text []byte, one byte, many int) []byte {
	for range many {
		text = append(text, one)
	}
	return text
}
