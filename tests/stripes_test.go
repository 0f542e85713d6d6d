package tests

import (
	"fmt"
	"math"
	"slices"
	"strings"
	"testing"

	"loop.example/poolfiles/impl"
)

// columnsByHand tells the columns of a block byte by byte.
func columnsByHand(block string) []string {
	half := 0
	for 2*half < len(block) {
		half++
	}
	parity := []byte{}
	for i := range half {
		b := block[i]
		if half+i < len(block) {
			b ^= block[half+i]
		}
		parity = append(parity, b)
	}
	return []string{block[:half], block[half:], string(parity)}
}

// columnSizes tells how many bytes the columns of a block of so many bytes have.
func columnSizes(size int) []int {
	second := 0
	for 2*(second+1) <= size {
		second++
	}
	return []int{size - second, second, size - second}
}

// joinByHand tells the text of a block byte by byte, from columns of which those but the lost one have the lengths that they must have.
func joinByHand(cols []string, size, lost int) string {
	sizes, text := columnSizes(size), []byte{}
	for number := range 2 {
		for i := range sizes[number] {
			if number != lost {
				text = append(text, cols[number][i])
				continue
			}
			b := cols[2][i]
			if i < sizes[1-number] {
				b ^= cols[1-number][i]
			}
			text = append(text, b)
		}
	}
	return string(text)
}

// scramble is a text of so many bytes without a plain order.
func scramble(size, seed int) string {
	text := make([]byte, size)
	for i := range text {
		seed = (seed*1103515245 + 12345) & math.MaxInt32
		text[i] = byte(seed >> 16)
	}
	return string(text)
}

// sizedBlocks returns blocks of each number of bytes that a block may have.
func sizedBlocks() []string {
	list := []string{}
	for size := 1; size <= 128; size++ {
		list = append(list, strings.Repeat("\x00", size), strings.Repeat("\xff", size), scramble(size, size), scramble(size, -size))
	}
	return list
}

func wrongSizes() []int {
	return []int{0, -1, 129, 130, 256, -128, 1 << 32, 1<<32 + 4, math.MinInt, math.MaxInt, math.MaxInt - 1}
}

func TestP30ColumnsOfBlocks(t *testing.T) {
	cases := []struct {
		block string
		cols  []string
	}{
		{"a", []string{"a", "", "a"}},
		{"\x00", []string{"\x00", "", "\x00"}},
		{"ab", []string{"a", "b", "\x03"}},
		{"aa", []string{"a", "a", "\x00"}},
		{"abc", []string{"ab", "c", "\x02b"}},
		{"abcd", []string{"ab", "cd", "\x02\x06"}},
		{"abcde", []string{"abc", "de", "\x05\x07c"}},
		{"\xff\x0f\xf0\x00", []string{"\xff\x0f", "\xf0\x00", "\x0f\x0f"}},
		{strings.Repeat("x", 127), []string{strings.Repeat("x", 64), strings.Repeat("x", 63), strings.Repeat("\x00", 63) + "x"}},
		{strings.Repeat("x", 128), []string{strings.Repeat("x", 64), strings.Repeat("x", 64), strings.Repeat("\x00", 64)}},
	}
	for _, c := range cases {
		if cols, ok := impl.StripeCut(c.block); !ok || !slices.Equal(cols, c.cols) {
			t.Errorf("StripeCut(%q) = %q, %v", c.block, cols, ok)
		}
	}
	for _, block := range append(blocks(), sizedBlocks()...) {
		if cols, ok := impl.StripeCut(block); !ok || !slices.Equal(cols, columnsByHand(block)) {
			t.Errorf("StripeCut(%q) = %q, %v", block, cols, ok)
		}
	}
}

func TestP30JustBlocksAreCut(t *testing.T) {
	for _, text := range noBlocks() {
		if cols, ok := impl.StripeCut(text); ok || len(cols) != 0 {
			t.Errorf("StripeCut of %d bytes = %q, %v", len(text), cols, ok)
		}
	}
}

func TestP30WhatIsCutIsJoinedByEachWay(t *testing.T) {
	for _, block := range append(blocks(), sizedBlocks()...) {
		cols, _ := impl.StripeCut(block)
		if !impl.StripeWhole(cols, len(block)) {
			t.Errorf("StripeWhole(%q, %d) is false", cols, len(block))
		}
		for _, lost := range []int{-1, 0, 1} {
			if text, ok := impl.StripeJoin(cols, len(block), lost); !ok || text != block {
				t.Errorf("StripeJoin(%q, %d, %d) = %q, %v", cols, len(block), lost, text, ok)
			}
		}
	}
}

func TestP30AColumnThatIsNotUsedMayBeAnything(t *testing.T) {
	instead := []string{"", "x", "\x00", strings.Repeat("y", 63), strings.Repeat("y", 64), strings.Repeat("z", 65), strings.Repeat("z", 1<<16)}
	for _, block := range sizedBlocks() {
		for _, lost := range []int{-1, 0, 1} {
			unused := lost
			if lost == -1 {
				unused = 2
			}
			for _, text := range instead {
				cols := columnsByHand(block)
				cols[unused] = text
				if joined, ok := impl.StripeJoin(cols, len(block), lost); !ok || joined != block {
					t.Errorf("StripeJoin of %q without column %d, which is %d bytes, = %q, %v", block, unused, len(text), joined, ok)
				}
			}
		}
	}
}

func TestP31JoinedTextsHaveTheSize(t *testing.T) {
	for size := 1; size <= 128; size++ {
		sizes := columnSizes(size)
		for seed := range 5 {
			cols := []string{scramble(sizes[0], seed), scramble(sizes[1], seed+50), scramble(sizes[2], seed+100)}
			for _, lost := range []int{-1, 0, 1} {
				text, ok := impl.StripeJoin(cols, size, lost)
				if !ok || len(text) != size || text != joinByHand(cols, size, lost) {
					t.Errorf("StripeJoin(%q, %d, %d) = %q, %v", cols, size, lost, text, ok)
				}
				if lost == -1 && text != cols[0]+cols[1] {
					t.Errorf("StripeJoin(%q, %d, -1) = %q, which is not the first two columns", cols, size, text)
				}
			}
		}
	}
}

func TestP31ColumnsThatDoNotBelongTogetherAreJoined(t *testing.T) {
	cases := []struct {
		cols []string
		size int
		want [3]string
	}{
		{[]string{"abc", "de", "\x00\x00\x00"}, 5, [3]string{"abcde", "de\x00de", "abcab"}},
		{[]string{"abc", "de", "\x00\x00z"}, 5, [3]string{"abcde", "dezde", "abcab"}},
		{[]string{"a", "b", "\x01"}, 2, [3]string{"ab", "cb", "a`"}},
		{[]string{"a", "", "z"}, 1, [3]string{"a", "z", "a"}},
	}
	for _, c := range cases {
		for i, want := range c.want {
			if text, ok := impl.StripeJoin(c.cols, c.size, i-1); !ok || text != want {
				t.Errorf("StripeJoin(%q, %d, %d) = %q, %v", c.cols, c.size, i-1, text, ok)
			}
		}
		if impl.StripeWhole(c.cols, c.size) {
			t.Errorf("StripeWhole(%q, %d) is true", c.cols, c.size)
		}
	}
}

// notJoined checks that columns are those of no text.
func notJoined(t *testing.T, cols []string, size, lost int) {
	t.Helper()
	if text, ok := impl.StripeJoin(cols, size, lost); ok || text != "" {
		t.Errorf("StripeJoin of %d columns, size %d, lost %d = %q, %v", len(cols), size, lost, text, ok)
	}
}

func TestP31ColumnsOfAnotherLength(t *testing.T) {
	lengths := []int{0, 1, 2, 3, 30, 63, 64, 65, 128, 200}
	for _, size := range []int{1, 2, 3, 4, 5, 6, 60, 127, 128} {
		sizes := columnSizes(size)
		for number := range 3 {
			for _, length := range append(lengths, sizes[number]-1, sizes[number]+1) {
				if length == sizes[number] || length < 0 {
					continue
				}
				cols := columnsByHand(scramble(size, 9))
				cols[number] = scramble(length, 9)
				for _, lost := range []int{-1, 0, 1} {
					if number == lost || lost == -1 && number == 2 {
						continue
					}
					notJoined(t, cols, size, lost)
				}
			}
		}
	}
}

func TestP31AWayMayFailAndAnotherOneNot(t *testing.T) {
	cases := []struct {
		cols []string
		size int
		fine [3]bool
	}{
		{[]string{"ab", "cd", "\x02\x06"}, 4, [3]bool{true, true, true}},
		{[]string{"a", "cd", "\x02\x06"}, 4, [3]bool{false, true, false}},
		{[]string{"ab", "c", "\x02\x06"}, 4, [3]bool{false, false, true}},
		{[]string{"ab", "cd", "\x02"}, 4, [3]bool{true, false, false}},
		{[]string{"a", "c", "\x02\x06"}, 4, [3]bool{false, false, false}},
		{[]string{"", "cd", ""}, 4, [3]bool{false, false, false}},
		{[]string{"ab", "c", "\x02b"}, 3, [3]bool{true, true, true}},
		{[]string{"ab", "c", "\x02b"}, 4, [3]bool{false, false, true}},
		{[]string{"ab", "cd", "\x02\x06"}, 3, [3]bool{false, false, true}},
		{[]string{"a", "", ""}, 1, [3]bool{true, false, false}},
		{[]string{"", "", "a"}, 1, [3]bool{false, true, false}},
		{[]string{"a", "b", "a"}, 1, [3]bool{false, false, true}},
	}
	for _, c := range cases {
		for i, fine := range c.fine {
			text, ok := impl.StripeJoin(c.cols, c.size, i-1)
			if ok != fine || ok != (len(text) == c.size) || !ok && text != "" {
				t.Errorf("StripeJoin(%q, %d, %d) = %q, %v", c.cols, c.size, i-1, text, ok)
			}
		}
	}
}

func TestP31OtherNumbersAreRefused(t *testing.T) {
	for _, block := range []string{"a", "ab", "abc", scramble(127, 1), scramble(128, 1)} {
		cols := columnsByHand(block)
		for _, lost := range []int{-2, 2, 3, 4, -3, 254, 255, 256, 1<<32 - 1, 1 << 32, math.MinInt, math.MaxInt} {
			notJoined(t, cols, len(block), lost)
		}
		for _, lost := range []int{-1, 0, 1} {
			for _, size := range wrongSizes() {
				notJoined(t, cols, size, lost)
				if impl.StripeWhole(cols, size) {
					t.Errorf("StripeWhole of size %d is true", size)
				}
			}
			for _, list := range manyColumns(cols) {
				notJoined(t, list, len(block), lost)
				if impl.StripeWhole(list, len(block)) {
					t.Errorf("StripeWhole of %d columns is true", len(list))
				}
			}
		}
	}
	for _, size := range wrongSizes() {
		for _, lost := range []int{-1, 0, 1} {
			notJoined(t, []string{"", "", ""}, size, lost)
		}
		if impl.StripeWhole([]string{"", "", ""}, size) {
			t.Errorf("StripeWhole of empty columns, size %d is true", size)
		}
	}
	for _, lost := range []int{-1, 0, 1} {
		long := strings.Repeat("x", 65)
		notJoined(t, []string{long, long[:64], long}, 129, lost)
		notJoined(t, []string{long, long, long}, 130, lost)
	}
}

// manyColumns returns lists that have more or fewer than three columns.
func manyColumns(cols []string) [][]string {
	return [][]string{nil, {}, cols[:1], cols[:2], cols[1:], slices.Concat(cols, cols[:1]), slices.Concat(cols, []string{""}), slices.Concat(cols, cols)}
}

func TestP32WholeColumnsAreThoseOfABlock(t *testing.T) {
	pieces := []string{"\x00", "\x01", "\x03"}
	whole := 0
	for first := range textsOver(pieces, 2) {
		for second := range textsOver(pieces, 2) {
			for parity := range textsOver(pieces, 2) {
				for size := -1; size <= 5; size++ {
					cols := []string{first, second, parity}
					want := size > 0 && slices.Equal(columnsByHand(first+second), cols) && len(first+second) == size
					if impl.StripeWhole(cols, size) != want {
						t.Errorf("StripeWhole(%q, %d) is not %v", cols, size, want)
					}
					if want {
						whole++
						sameByAllWays(t, cols, size)
					}
				}
			}
		}
	}
	if whole < 50 {
		t.Errorf("just %d columns are whole", whole)
	}
}

// sameByAllWays checks that whole columns give one block by each way, and that they are the columns of this block.
func sameByAllWays(t *testing.T, cols []string, size int) {
	t.Helper()
	for _, lost := range []int{-1, 0, 1} {
		text, ok := impl.StripeJoin(cols, size, lost)
		if !ok || text != cols[0]+cols[1] {
			t.Errorf("StripeJoin(%q, %d, %d) = %q, %v", cols, size, lost, text, ok)
		}
		if cut, ok := impl.StripeCut(text); !ok || !slices.Equal(cut, cols) {
			t.Errorf("StripeCut(%q) = %q, %v, not %q", text, cut, ok, cols)
		}
	}
}

func TestP32AByteThatIsAnotherOneMakesColumnsNotWhole(t *testing.T) {
	for _, size := range []int{1, 2, 3, 4, 5, 9, 10, 126, 127, 128} {
		block := scramble(size, 3)
		for number := range 3 {
			whole := columnsByHand(block)
			for _, text := range editsOf(whole[number], []string{"\x00", "\x01", "\xff", "x"}) {
				cols := slices.Clone(whole)
				cols[number] = text
				if impl.StripeWhole(cols, size) != (text == whole[number]) {
					t.Errorf("StripeWhole(%q, %d) is %v", cols, size, text != whole[number])
				}
			}
		}
		for other := -1; other <= 130; other++ {
			if impl.StripeWhole(columnsByHand(block), other) != (other == size) {
				t.Errorf("StripeWhole of the columns of %d bytes, size %d is %v", size, other, other != size)
			}
		}
	}
}

func TestStripesShareNoMemory(t *testing.T) {
	for _, block := range []string{"a", "ab", "abc", scramble(127, 1), scramble(128, 1)} {
		one, _ := impl.StripeCut(block)
		two, _ := impl.StripeCut(block)
		wide := append(make([]string, 0, 9), columnsByHand(block)...)
		for _, lost := range []int{-1, 0, 1} {
			impl.StripeJoin(wide, len(block), lost)
		}
		impl.StripeWhole(wide, len(block))
		if fmt.Sprint(wide[:9]) != fmt.Sprint(append(columnsByHand(block), make([]string, 6)...)) {
			t.Errorf("columns of %q were changed", block)
		}
		clear(one[:cap(one)])
		if !slices.Equal(two, columnsByHand(block)) {
			t.Errorf("two results of StripeCut(%q) share memory", block)
		}
	}
}
