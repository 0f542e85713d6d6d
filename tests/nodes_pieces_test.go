package tests

import (
	"math"
	"strings"
	"testing"

	"loop.example/poolfiles/impl"
)

func TestP78PiecesOfEachSize(t *testing.T) {
	for _, r := range kindRanges() {
		for size := 0; size <= 16*r.piece; size++ {
			many := impl.NodePieces(r.kind, size)
			// So many pieces hold it, and one less does not.
			if many != piecesCounted(r.piece, size) || many < 0 || many > 16 || many*r.piece < size || many > 0 && (many-1)*r.piece >= size {
				t.Errorf("NodePieces(%d, %d) = %d", r.kind, size, many)
			}
		}
	}
}

func TestP78SizesOfJustSoManyPieces(t *testing.T) {
	for many := 1; many <= 16; many++ {
		cases := map[[2]int]int{
			{impl.NodeFile, 12 * many}: many, {impl.NodeFile, 12*many - 1}: many, {impl.NodeFile, 12*many - 11}: many,
			{impl.NodeFolder, 128 * many}: many, {impl.NodeFolder, 128*many - 1}: many, {impl.NodeFolder, 128*many - 127}: many,
			{impl.NodeFile, 12*many - 12}: many - 1, {impl.NodeFolder, 128*many - 128}: many - 1,
		}
		for c, want := range cases {
			if got := impl.NodePieces(c[0], c[1]); got != want {
				t.Errorf("NodePieces(%d, %d) = %d instead of %d", c[0], c[1], got, want)
			}
		}
	}
}

func TestP78TheEndsOfTheRanges(t *testing.T) {
	cases := []struct{ kind, size, want int }{
		{impl.NodeFile, 0, 0}, {impl.NodeFile, 1, 1}, {impl.NodeFile, 12, 1}, {impl.NodeFile, 13, 2}, {impl.NodeFile, -1, -1},
		{impl.NodeFile, impl.TreeMax * impl.PieceMax, 16}, {impl.NodeFile, impl.TreeMax*impl.PieceMax + 1, -1}, {impl.NodeFile, impl.TreeMax * impl.BlockMax, -1},
		{impl.NodeFolder, 0, 0}, {impl.NodeFolder, 1, 1}, {impl.NodeFolder, 128, 1}, {impl.NodeFolder, 129, 2}, {impl.NodeFolder, -1, -1},
		{impl.NodeFolder, impl.TreeMax * impl.BlockMax, 16}, {impl.NodeFolder, impl.TreeMax*impl.BlockMax + 1, -1}, {impl.NodeFolder, 193, 2},
	}
	for _, c := range cases {
		if many := impl.NodePieces(c.kind, c.size); many != c.want {
			t.Errorf("NodePieces(%d, %d) = %d instead of %d", c.kind, c.size, many, c.want)
		}
	}
}

func TestP78SizesThatAreNone(t *testing.T) {
	for _, r := range kindRanges() {
		for _, size := range wrongNodeSizes(r) {
			if many := impl.NodePieces(r.kind, size); many != -1 {
				t.Errorf("NodePieces(%d, %d) = %d", r.kind, size, many)
			}
		}
		for more := 1; more <= 5000; more++ {
			if one, two := impl.NodePieces(r.kind, -more), impl.NodePieces(r.kind, 16*r.piece+more); one != -1 || two != -1 {
				t.Errorf("NodePieces of kind %d with %d bytes less than none, or more than all: %d, %d", r.kind, more, one, two)
			}
		}
	}
}

func TestP78KindsThatAreNone(t *testing.T) {
	for _, kind := range noKinds() {
		for _, r := range kindRanges() {
			for _, size := range append(pieceEdges(r), wrongNodeSizes(r)...) {
				if many := impl.NodePieces(kind, size); many != -1 {
					t.Errorf("NodePieces(%d, %d) = %d", kind, size, many)
				}
			}
		}
	}
}

// cutByBytes tells a piece without the zero bytes at its end, in another way than the program does: up to the last byte that is not zero.
func cutByBytes(s string) string {
	end := 0
	for i := range len(s) {
		if s[i] != 0 {
			end = i + 1
		}
	}
	return s[:end]
}

// filePieces returns pieces of a file: all of zero bytes and one other byte, and some of many bytes.
func filePieces() []string {
	list := []string{
		"é\x00", "日本\x00\x00", "\x000", "0\x00", "\x00\xff\x00", "\xff\x00", "\xc3\x00", "\x01\x00", " \x00 \x00", "\u0000a\u0000", "abcdefghijkl", "abcdefghijk\x00", "\x00bcdefghijkl",
		strings.Repeat("\xff", 12), strings.Repeat("0", 12), strings.Repeat(" ", 12), "\n\x00\n",
	}
	for s := range textsOver([]string{"\x00", "a"}, 12) {
		list = append(list, s)
	}
	for b := range 256 {
		one := string([]byte{byte(b)})
		list = append(list, one, one+"\x00", "\x00"+one, "a"+one, one+"a", "a\x00"+one+"\x00\x00", strings.Repeat(one, 12), strings.Repeat("\x00", 11)+one, one+strings.Repeat("\x00", 11))
	}
	return list
}

// longPieces returns texts that are longer than a piece of a file may be.
func longPieces() []string {
	return []string{
		"abcdefghijklm", strings.Repeat("\x00", 13), "a" + strings.Repeat("\x00", 12), strings.Repeat("\x00", 12) + "a", "abcdefghijkl\x00", strings.Repeat("a", 24),
		strings.Repeat("a", 128), strings.Repeat("\x00", 256), strings.Repeat("é", 7), strings.Repeat("a", 1<<16), strings.Repeat("\x00", 1<<16), strings.Repeat("\x00", 1<<20),
	}
}

func TestPiecesAreCut(t *testing.T) {
	cases := map[string]string{
		"": "", "\x00": "", "\x00\x00": "", "a": "a", "a\x00": "a", "a\x00\x00": "a", "\x00a": "\x00a", "a\x00b": "a\x00b", "a\x00b\x00": "a\x00b", "\x00a\x00": "\x00a", "0": "0", "a0": "a0",
		"abcdefghijkl": "abcdefghijkl", "abcdefghijk\x00": "abcdefghijk", strings.Repeat("\x00", 12): "", "a" + strings.Repeat("\x00", 11): "a",
	}
	for s, want := range cases {
		if cut, ok := impl.PieceCut(s); !ok || cut != want {
			t.Errorf("PieceCut(%q) = %q, %v instead of %q", s, cut, ok, want)
		}
	}
}

func TestP82PiecesAreCutAndFilled(t *testing.T) {
	for _, s := range filePieces() {
		cut, ok := impl.PieceCut(s)
		if !ok || cut != cutByBytes(s) {
			t.Errorf("PieceCut(%q) = %q, %v", s, cut, ok)
		}
		if whole, is := impl.PieceFill(cut, len(s)); !is || whole != s {
			t.Errorf("PieceFill(%q, %d) = %q, %v instead of %q", cut, len(s), whole, is, s)
		}
		if again, is := impl.PieceCut(cut); !is || again != cut {
			t.Errorf("PieceCut(%q) = %q, %v", cut, again, is)
		}
		if len(cut) > 0 && cut[len(cut)-1] == 0 || !strings.HasPrefix(s, cut) {
			t.Errorf("PieceCut(%q) = %q", s, cut)
		}
	}
}

func TestP82PiecesThatAreTooLong(t *testing.T) {
	for _, s := range longPieces() {
		if cut, ok := impl.PieceCut(s); ok || cut != "" {
			t.Errorf("PieceCut(%.20q) of %d bytes = %q, %v", s, len(s), cut, ok)
		}
	}
}

func TestPiecesAreFilled(t *testing.T) {
	cases := []struct {
		s    string
		n    int
		want string
	}{
		{"", 0, ""}, {"", 1, "\x00"}, {"", 12, strings.Repeat("\x00", 12)}, {"a", 1, "a"}, {"a", 3, "a\x00\x00"}, {"a", 12, "a" + strings.Repeat("\x00", 11)}, {"\x00", 1, "\x00"},
		{"\x00", 2, "\x00\x00"}, {"a\x00", 3, "a\x00\x00"}, {"\x00a", 2, "\x00a"}, {"abcdefghijk", 12, "abcdefghijk\x00"}, {"abcdefghijkl", 12, "abcdefghijkl"}, {"é", 3, "é\x00"},
	}
	for _, c := range cases {
		if whole, ok := impl.PieceFill(c.s, c.n); !ok || whole != c.want {
			t.Errorf("PieceFill(%q, %d) = %q, %v instead of %q", c.s, c.n, whole, ok, c.want)
		}
	}
}

func TestP83PiecesAreFilledToEachLength(t *testing.T) {
	for _, s := range filePieces() {
		for n := -2; n <= 14; n++ {
			whole, ok := impl.PieceFill(s, n)
			if ok != (n >= len(s) && n <= 12) {
				t.Errorf("PieceFill(%q, %d) = %q, %v", s, n, whole, ok)
			}
			if !ok {
				if whole != "" {
					t.Errorf("PieceFill(%q, %d) fails with %q", s, n, whole)
				}
				continue
			}
			if len(whole) != n || whole[:len(s)] != s || strings.Trim(whole[len(s):], "\x00") != "" {
				t.Errorf("PieceFill(%q, %d) = %q", s, n, whole)
			}
			one, oneOk := impl.PieceCut(whole)
			two, twoOk := impl.PieceCut(s)
			if !oneOk || !twoOk || one != two {
				t.Errorf("PieceCut of PieceFill(%q, %d) = %q, %v, and that of the piece %q, %v", s, n, one, oneOk, two, twoOk)
			}
		}
	}
}

func TestP83LengthsThatAreNone(t *testing.T) {
	lengths := []int{-1, -2, -12, 13, 14, 24, 128, 1 << 31, 1 << 32, 1<<32 + 12, -1<<32 + 12, math.MinInt, math.MinInt + 12, math.MaxInt, math.MaxInt - 12}
	for _, s := range []string{"", "a", "\x00", "abcdefghijk", "abcdefghijkl", strings.Repeat("\x00", 12)} {
		for _, n := range lengths {
			if whole, ok := impl.PieceFill(s, n); ok || whole != "" {
				t.Errorf("PieceFill(%q, %d) = %q, %v", s, n, whole, ok)
			}
		}
	}
	for _, s := range longPieces() {
		for _, n := range append(lengths, 0, 1, 11, 12, len(s)-1, len(s), len(s)+1) {
			if whole, ok := impl.PieceFill(s, n); ok || whole != "" {
				t.Errorf("PieceFill of %d bytes to %d = %d bytes, %v", len(s), n, len(whole), ok)
			}
		}
	}
}
