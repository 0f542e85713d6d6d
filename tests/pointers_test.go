package tests

import (
	"math"
	"regexp"
	"strconv"
	"strings"
	"testing"

	"loop.example/poolfiles/impl"
)

// pointerPart is a part of a pointer, with the range that it has if the pointer is valid and no hole.
type pointerPart struct {
	name       string
	least, top int
	of         func(p *impl.Ptr) *int
}

func pointerParts() []pointerPart {
	return []pointerPart{
		{"At", 8, 63, func(p *impl.Ptr) *int { return &p.At }},
		{"Birth", 1, 900, func(p *impl.Ptr) *int { return &p.Birth }},
		{"Size", 1, 128, func(p *impl.Ptr) *int { return &p.Size }},
		{"Sum", 0, sumGreatest, func(p *impl.Ptr) *int { return &p.Sum }},
		{"Level", 0, 2, func(p *impl.Ptr) *int { return &p.Level }},
	}
}

// edgePointers returns pointers that are valid and no holes: each part is its least, its greatest, or a number in between.
func edgePointers() []impl.Ptr {
	list := []impl.Ptr{{}}
	for _, part := range pointerParts() {
		next := []impl.Ptr{}
		for _, p := range list {
			for _, n := range []int{part.least, part.least + 1, part.top/2 + 1, part.top} {
				*part.of(&p) = n
				next = append(next, p)
			}
		}
		list = next
	}
	return list
}

// validPointers returns the hole, and behind it pointers that are valid, too.
func validPointers() []impl.Ptr {
	return append([]impl.Ptr{{}}, edgePointers()...)
}

// wrongPointers returns pointers that are not valid: with one part outside its range, and those that differ from the hole in one part alone.
func wrongPointers() []impl.Ptr {
	bases := []impl.Ptr{
		{At: 8, Birth: 1, Size: 1, Sum: 0, Level: 0},
		{At: 63, Birth: 900, Size: 128, Sum: sumGreatest, Level: 2},
		{At: 30, Birth: 450, Size: 64, Sum: 4711, Level: 1},
	}
	list := []impl.Ptr{}
	for _, part := range pointerParts() {
		for _, n := range []int{part.least - 1, part.top + 1, -1, -part.top, 1000000000, math.MinInt, math.MaxInt, math.MinInt32, math.MaxUint32 + 9} {
			for _, p := range bases {
				*part.of(&p) = n
				list = append(list, p)
			}
		}
		for _, n := range []int{part.least - 1, part.least, 1, part.top, part.top + 1, -1, math.MinInt, math.MaxInt} {
			p := impl.Ptr{}
			*part.of(&p) = n
			if n != 0 {
				list = append(list, p)
			}
		}
	}
	for _, part := range pointerParts()[:3] {
		for _, p := range bases {
			*part.of(&p) = 0
			list = append(list, p)
		}
	}
	return list
}

// blocks returns texts of 1 to BlockMax bytes.
func blocks() []string {
	list := []string{strings.Repeat("x", impl.BlockMax), strings.Repeat("\x00", impl.BlockMax), strings.Repeat("\xff", impl.BlockMax-1), "ab", "ba"}
	for b := range 256 {
		list = append(list, string([]byte{byte(b)}))
	}
	for _, s := range oddTexts() {
		if s != "" && len(s) <= impl.BlockMax {
			list = append(list, s)
		}
	}
	return list
}

// noBlocks returns texts that are no blocks.
func noBlocks() []string {
	return []string{
		"", strings.Repeat("x", impl.BlockMax+1), strings.Repeat("\x00", impl.BlockMax+1), strings.Repeat("x", 2*impl.BlockMax+1),
		strings.Repeat("x", 256), strings.Repeat("x", 1<<16+1),
	}
}

var pointerShape = regexp.MustCompile(`^(0|[1-9][0-9]*)\.(0|[1-9][0-9]*)\.(0|[1-9][0-9]*)\.(0|[1-9][0-9]*)\.(0|[1-9][0-9]*)$`)

// pointerOf reads the text of a pointer in another way than the program does.
func pointerOf(s string) (impl.Ptr, bool) {
	if s == "-" {
		return impl.Ptr{}, true
	}
	found := pointerShape.FindStringSubmatch(s)
	if found == nil {
		return impl.Ptr{}, false
	}
	p := impl.Ptr{}
	for i, part := range pointerParts() {
		n, err := strconv.Atoi(found[i+1])
		if err != nil || n < part.least || n > part.top {
			return impl.Ptr{}, false
		}
		*part.of(&p) = n
	}
	return p, true
}

// editsOf returns a text, and those that come of it by one piece that is put in or one byte that is taken out or exchanged.
func editsOf(s string, pieces []string) []string {
	list := []string{s}
	for at := range len(s) + 1 {
		for _, piece := range pieces {
			list = append(list, s[:at]+piece+s[at:])
			if at < len(s) {
				list = append(list, s[:at]+piece+s[at+1:])
			}
		}
		if at < len(s) {
			list = append(list, s[:at]+s[at+1:])
		}
	}
	return list
}

// pointerTexts returns texts that are those of pointers, or nearly so.
func pointerTexts() []string {
	pieces := []string{"0", "1", "2", "3", "4", "6", "7", "8", "9", ".", "-", "+", ",", " ", "_", "a", "\n", "\x00", ".0", "0.", "00"}
	list := []string{}
	for _, s := range []string{
		"-", "8.1.1.0.0", "63.900.128.99460728.2", "9.23.4.567.1", "62.899.127.99460727.1", "10.10.10.10.1", "0.0.0.0.0", "7.1.1.5.0", "8.1.1.5", "64.9.9.9.2",
	} {
		list = append(list, editsOf(s, pieces)...)
	}
	return list
}

func TestPointerTexts(t *testing.T) {
	cases := []struct {
		p    impl.Ptr
		text string
	}{
		{impl.Ptr{}, "-"},
		{impl.Ptr{At: 8, Birth: 1, Size: 1, Sum: 5}, "8.1.1.5.0"},
		{impl.Ptr{At: 8, Birth: 1, Size: 1}, "8.1.1.0.0"},
		{impl.Ptr{At: 9, Birth: 23, Size: 4, Sum: 567, Level: 1}, "9.23.4.567.1"},
		{impl.Ptr{At: 10, Birth: 100, Size: 20, Sum: 30, Level: 2}, "10.100.20.30.2"},
		{impl.Ptr{At: 63, Birth: 900, Size: 128, Sum: sumGreatest, Level: 2}, "63.900.128.99460728.2"},
	}
	for _, c := range cases {
		if text := impl.PtrPut(c.p); text != c.text {
			t.Errorf("PtrPut(%v) = %q", c.p, text)
		}
		if p, ok := impl.PtrGet(c.text); !ok || p != c.p {
			t.Errorf("PtrGet(%q) = %v, %v", c.text, p, ok)
		}
	}
}

func TestP10JustValidPointersHaveTexts(t *testing.T) {
	for _, p := range validPointers() {
		if !impl.PtrOk(p) || impl.PtrPut(p) == "" {
			t.Errorf("PtrOk(%v) = %v, PtrPut = %q", p, impl.PtrOk(p), impl.PtrPut(p))
		}
	}
	for _, p := range wrongPointers() {
		if impl.PtrOk(p) || impl.PtrPut(p) != "" {
			t.Errorf("PtrOk(%v) = %v, PtrPut = %q", p, impl.PtrOk(p), impl.PtrPut(p))
		}
	}
}

func TestP10EachNumberOfARange(t *testing.T) {
	for _, part := range pointerParts() {
		top := min(part.top, 1000)
		for n := -3; n <= top+3; n++ {
			p := impl.Ptr{At: 8, Birth: 1, Size: 1, Sum: 5}
			*part.of(&p) = n
			want := part.least <= n && n <= part.top
			if impl.PtrOk(p) != want || (impl.PtrPut(p) != "") != want {
				t.Errorf("PtrOk(%v) = %v, PtrPut = %q", p, impl.PtrOk(p), impl.PtrPut(p))
			}
		}
	}
}

func TestP11JustTheZeroPointerIsAHole(t *testing.T) {
	hole := impl.Ptr{}
	if !impl.PtrHole(hole) || !impl.PtrOk(hole) || impl.PtrPut(hole) != "-" {
		t.Errorf("of the hole PtrHole = %v, PtrOk = %v, PtrPut = %q", impl.PtrHole(hole), impl.PtrOk(hole), impl.PtrPut(hole))
	}
	for _, p := range append(edgePointers(), wrongPointers()...) {
		if impl.PtrHole(p) || impl.PtrPut(p) == "-" {
			t.Errorf("PtrHole(%v) = %v, PtrPut = %q", p, impl.PtrHole(p), impl.PtrPut(p))
		}
	}
}

func TestP12PointersAreReadBack(t *testing.T) {
	for _, p := range validPointers() {
		if got, ok := impl.PtrGet(impl.PtrPut(p)); !ok || got != p {
			t.Errorf("PtrGet(PtrPut(%v)) = %v, %v", p, got, ok)
		}
	}
}

func TestP13PointersHaveJustTheirText(t *testing.T) {
	read := 0
	for _, s := range pointerTexts() {
		p, ok := impl.PtrGet(s)
		if want, wantOk := pointerOf(s); ok != wantOk || p != want {
			t.Errorf("PtrGet(%q) = %v, %v", s, p, ok)
		}
		if !ok {
			continue
		}
		read++
		if text := impl.PtrPut(p); text != s {
			t.Errorf("PtrGet(%q) = %v, which has the text %q", s, p, text)
		}
	}
	if read < 100 {
		t.Errorf("just %d texts are those of pointers", read)
	}
}

func TestTextsOfNoPointer(t *testing.T) {
	texts := []string{
		"", "--", "- ", " -", "-,", "-.", "0", "0.0.0.0.0", "-.-.-.-.-", "....", ".", "8", "8.1.1.5", "8.1.1.5.", ".8.1.1.5.0", "8.1.1.5.0.", "8.1.1.5.0.0",
		"8..1.5.0", "8.1..5.0", "08.1.1.5.0", "8.01.1.5.0", "8.1.01.5.0", "8.1.1.05.0", "8.1.1.5.00", "8.1.1.00.0", "+8.1.1.5.0", "8.+1.1.5.0", "8.1.1.-0.0",
		"8.1.1.5.-0", "8.1.1.-5.0", "-8.1.1.5.0", "8.1.1.5.+0", "8,1,1,5,0", "8:1:1:5:0", "8 1 1 5 0", "8.1.1.5,0", "8-1-1-5-0", "8. 1.1.5.0", "8.1.1.5.0 ",
		" 8.1.1.5.0", "8.1.1.5.0\n", "8.1.1.5.0\x00", "7.1.1.5.0", "64.1.1.5.0", "8.0.1.5.0", "8.901.1.5.0", "8.1.0.5.0", "8.1.129.5.0", "8.1.1.99460729.0",
		"8.1.1.999999999.0", "8.1.1.1000000000.0", "8.1.1.5.3", "0.1.1.5.0", "0.0.0.9973.0", "8.1.1.5.0,-", "-,-,-,-", "8.1.1.18446744073709551617.0",
		"18446744073709551624.1.1.5.0", "4294967304.1.1.5.0", "8.1.1.5.a", "a.1.1.5.0", "8.1.1.0x5.0", "8.1.1.5e1.0", "8.1.1.1_0.0", "\u0668.1.1.5.0",
		"8\u20241.1.5.0", "~", strings.Repeat("9", 1<<16), strings.Repeat(".", 1<<16), strings.Repeat("8.", 1<<15), "8.1.1." + strings.Repeat("0", 1<<16) + ".0",
	}
	for _, s := range texts {
		if p, ok := impl.PtrGet(s); ok || p != (impl.Ptr{}) {
			t.Errorf("PtrGet(%.60q) = %v, %v", s, p, ok)
		}
	}
}

func TestPointersToBlocks(t *testing.T) {
	cases := []struct {
		at, birth, level int
		text             string
		want             impl.Ptr
	}{
		{8, 1, 0, "a", impl.Ptr{At: 8, Birth: 1, Size: 1, Sum: 99*9973 + 99}},
		{63, 900, 2, "ab", impl.Ptr{At: 63, Birth: 900, Size: 2, Sum: 198*9973 + 297, Level: 2}},
		{20, 30, 1, "\x00", impl.Ptr{At: 20, Birth: 30, Size: 1, Sum: 2*9973 + 2, Level: 1}},
	}
	for _, c := range cases {
		if p, ok := impl.PtrOf(c.at, c.birth, c.level, c.text); !ok || p != c.want {
			t.Errorf("PtrOf(%d, %d, %d, %q) = %v, %v", c.at, c.birth, c.level, c.text, p, ok)
		}
	}
}

func TestP14PointersToBlocksFit(t *testing.T) {
	for _, e := range edgePointers() {
		for _, text := range blocks() {
			p, ok := impl.PtrOf(e.At, e.Birth, e.Level, text)
			if !ok || !impl.PtrOk(p) || impl.PtrHole(p) || !impl.PtrFits(p, text) {
				t.Fatalf("PtrOf(%d, %d, %d, %q) = %v, %v", e.At, e.Birth, e.Level, text, p, ok)
			}
			if want := (impl.Ptr{At: e.At, Birth: e.Birth, Size: len(text), Sum: impl.SumOf(text), Level: e.Level}); p != want {
				t.Fatalf("PtrOf(%d, %d, %d, %q) = %v", e.At, e.Birth, e.Level, text, p)
			}
		}
	}
}

func TestP14NoPointersToOtherTexts(t *testing.T) {
	for _, e := range validPointers() {
		for _, text := range noBlocks() {
			if p, ok := impl.PtrOf(e.At, e.Birth, e.Level, text); ok || p != (impl.Ptr{}) {
				t.Errorf("PtrOf(%d, %d, %d, %.40q) = %v, %v", e.At, e.Birth, e.Level, text, p, ok)
			}
		}
	}
}

func TestP14NoPointersOutsideTheRanges(t *testing.T) {
	for _, part := range pointerParts() {
		if part.name == "Size" || part.name == "Sum" {
			continue
		}
		for _, n := range []int{part.least - 1, part.top + 1, -1, -part.top, math.MinInt, math.MaxInt, math.MaxUint32 + 9} {
			e := impl.Ptr{At: 8, Birth: 1, Level: 0}
			*part.of(&e) = n
			for _, text := range append(blocks()[:9], noBlocks()...) {
				if p, ok := impl.PtrOf(e.At, e.Birth, e.Level, text); ok || p != (impl.Ptr{}) {
					t.Errorf("PtrOf(%d, %d, %d, %.40q) = %v, %v", e.At, e.Birth, e.Level, text, p, ok)
				}
			}
		}
	}
}

func TestP15TextsThatFitHaveSizeAndChecksum(t *testing.T) {
	texts := append(blocks(), noBlocks()...)
	for _, text := range blocks() {
		p, _ := impl.PtrOf(8, 1, 0, text)
		for _, other := range texts {
			want := len(other) == p.Size && impl.SumOf(other) == p.Sum
			if impl.PtrFits(p, other) != want {
				t.Errorf("PtrFits(%v, %.40q) = %v", p, other, !want)
			}
		}
		for _, wrong := range []impl.Ptr{
			{At: 8, Birth: 1, Size: p.Size%impl.BlockMax + 1, Sum: p.Sum}, {At: 8, Birth: 1, Size: p.Size, Sum: (p.Sum + 1) % (sumGreatest + 1)},
		} {
			if impl.PtrFits(wrong, text) {
				t.Errorf("PtrFits(%v, %.40q)", wrong, text)
			}
		}
	}
}

func TestP15TextsOfTheSameChecksumButAnotherSizeDoNotFit(t *testing.T) {
	two, three := "\x03\x07", "\x00\x00\x09"
	if impl.SumOf(two) != impl.SumOf(three) {
		t.Fatalf("the checksums of %q and %q are not the same", two, three)
	}
	p, _ := impl.PtrOf(8, 1, 0, two)
	q, _ := impl.PtrOf(8, 1, 0, three)
	if impl.PtrFits(p, three) || impl.PtrFits(q, two) {
		t.Errorf("%q fits the pointer to %q, or the other way round", two, three)
	}
}

func TestP15NoTextWithOneOtherByteFits(t *testing.T) {
	for _, text := range append(blocks(), strings.Repeat("ab", 64), strings.Repeat("\xff", impl.BlockMax)) {
		p, _ := impl.PtrOf(63, 900, 2, text)
		for at := range len(text) {
			for b := range 256 {
				other := text[:at] + string([]byte{byte(b)}) + text[at+1:]
				if impl.PtrFits(p, other) != (other == text) {
					t.Errorf("PtrFits(%v, %.40q) with the byte %d at %d", p, text, b, at)
				}
			}
		}
	}
}

func TestP15NothingFitsAHoleOrAPointerThatIsNotValid(t *testing.T) {
	for _, text := range append(blocks(), noBlocks()...) {
		sum := impl.SumOf(text)
		if impl.PtrFits(impl.Ptr{}, text) || impl.PtrFits(impl.Ptr{Size: len(text), Sum: sum}, text) {
			t.Errorf("%.40q fits a hole", text)
		}
		for _, p := range wrongPointers() {
			if impl.PtrFits(p, text) {
				t.Errorf("PtrFits(%v, %.40q)", p, text)
			}
			p.Size, p.Sum = len(text), sum
			// With the right size and checksum some of them become valid.
			if want := p.At >= 8 && p.At <= 63 && p.Birth >= 1 && p.Birth <= 900 && p.Level >= 0 && p.Level <= 2 && len(text) >= 1 && len(text) <= 128; impl.PtrFits(p, text) != want {
				t.Errorf("PtrFits(%v, %.40q) = %v", p, text, !want)
			}
		}
	}
}

func TestP18PointersWithTheSameTextAreEqual(t *testing.T) {
	list := validPointers()
	for at := range 120 {
		list = append(list, impl.Ptr{At: 8 + at%56, Birth: 1 + at*7, Size: 1 + at, Sum: at * 828839, Level: at % 3})
		list = append(list, impl.Ptr{At: 11, Birth: 1 + at, Size: 11, Sum: 11}, impl.Ptr{At: 11, Birth: 11, Size: 1 + at, Sum: 11}, impl.Ptr{At: 11, Birth: 11, Size: 11, Sum: at})
	}
	of := map[string]impl.Ptr{}
	for _, p := range list {
		if !impl.PtrOk(p) {
			t.Errorf("PtrOk(%v) = false", p)
		}
		text := impl.PtrPut(p)
		if other, ok := of[text]; ok && other != p {
			t.Errorf("%v and %v have the text %q", p, other, text)
		}
		of[text] = p
	}
}
