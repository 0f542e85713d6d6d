package tests

import (
	"slices"
	"strings"
	"testing"

	"loop.example/poolfiles/impl"
)

var (
	leastPointer = impl.Ptr{At: 8, Birth: 1, Size: 1}
	topPointer   = impl.Ptr{At: 63, Birth: 900, Size: 128, Sum: sumGreatest, Level: 2}
)

// manyFans returns lists of FanMax valid pointers that are not all holes.
func manyFans() [][]impl.Ptr {
	some := []impl.Ptr{{}, leastPointer, topPointer, {At: 9, Birth: 23, Size: 4, Sum: 567, Level: 1}, {At: 8, Birth: 1, Size: 1, Sum: 5}}
	fans := [][]impl.Ptr{}
	for code := 1; code < 5*5*5*5; code++ {
		fans = append(fans, []impl.Ptr{some[code%5], some[code/5%5], some[code/25%5], some[code/125]})
	}
	for _, p := range edgePointers() {
		for at := range impl.FanMax {
			list := make([]impl.Ptr, impl.FanMax)
			list[at] = p
			fans = append(fans, list)
		}
	}
	return fans
}

// fanOf reads an indirect block in another way than the program does.
func fanOf(s string) ([]impl.Ptr, bool) {
	list := []impl.Ptr{}
	some := false
	for _, text := range strings.Split(s, ",") {
		p, ok := pointerOf(text)
		if !ok {
			return nil, false
		}
		some = some || text != "-"
		list = append(list, p)
	}
	if len(list) != 4 || !some {
		return nil, false
	}
	return list, true
}

func TestIndirectBlocks(t *testing.T) {
	hole, p := impl.Ptr{}, impl.Ptr{At: 9, Birth: 23, Size: 4, Sum: 567, Level: 1}
	cases := []struct {
		list []impl.Ptr
		text string
	}{
		{[]impl.Ptr{p, hole, hole, hole}, "9.23.4.567.1,-,-,-"},
		{[]impl.Ptr{hole, p, hole, hole}, "-,9.23.4.567.1,-,-"},
		{[]impl.Ptr{hole, hole, p, hole}, "-,-,9.23.4.567.1,-"},
		{[]impl.Ptr{hole, hole, hole, p}, "-,-,-,9.23.4.567.1"},
		{[]impl.Ptr{p, leastPointer, topPointer, p}, "9.23.4.567.1,8.1.1.0.0,63.900.128.99460728.2,9.23.4.567.1"},
	}
	for _, c := range cases {
		if text, ok := impl.FanPut(c.list); !ok || text != c.text {
			t.Errorf("FanPut(%v) = %q, %v", c.list, text, ok)
		}
		if list, ok := impl.FanGet(c.text); !ok || !slices.Equal(list, c.list) {
			t.Errorf("FanGet(%q) = %v, %v", c.text, list, ok)
		}
	}
}

func TestP16IndirectBlocksAreReadBack(t *testing.T) {
	longest := 0
	for _, list := range manyFans() {
		text, ok := impl.FanPut(list)
		if !ok || text == "" || len(text) > impl.BlockMax {
			t.Errorf("FanPut(%v) = %q, %v", list, text, ok)
		}
		if got, ok := impl.FanGet(text); !ok || !slices.Equal(got, list) {
			t.Errorf("FanGet(%q) = %v, %v", text, got, ok)
		}
		longest = max(longest, len(text))
	}
	if want := 4*len("63.900.128.99460728.2") + 3; longest != want {
		t.Errorf("the longest indirect block has %d bytes, not %d", longest, want)
	}
}

func TestP16PointersOfNoIndirectBlock(t *testing.T) {
	fails := func(list []impl.Ptr) {
		t.Helper()
		if text, ok := impl.FanPut(list); ok || text != "" {
			t.Errorf("FanPut of %d pointers %.200v = %q, %v", len(list), list, text, ok)
		}
	}
	fails(nil)
	for _, p := range []impl.Ptr{{}, leastPointer, topPointer} {
		for _, many := range []int{0, 1, 2, 3, 5, 8, 1000} {
			fails(slices.Repeat([]impl.Ptr{p}, many))
		}
	}
	fails(make([]impl.Ptr, impl.FanMax))
	fails(append(make([]impl.Ptr, impl.FanMax), leastPointer))
	fails(append([]impl.Ptr{leastPointer}, make([]impl.Ptr, impl.FanMax)...))
	for _, wrong := range wrongPointers() {
		for at := range impl.FanMax {
			for _, p := range []impl.Ptr{{}, leastPointer} {
				list := slices.Repeat([]impl.Ptr{p}, impl.FanMax)
				list[at] = wrong
				fails(list)
			}
		}
	}
}

func TestP17IndirectBlocksHaveJustTheirText(t *testing.T) {
	pieces := []string{"0", "1", "8", "-", ",", ".", "+", " ", "-,", ",-", "8.1.1.5.0,", "\n"}
	read := 0
	for _, s := range []string{
		"-,-,-,-", "8.1.1.0.0,-,-,-", "-,-,-,63.900.128.99460728.2", "-,9.23.4.567.1,8.1.1.5.0,-", "8.1.1.5.0,8.1.1.5.0,8.1.1.5.0,8.1.1.5.0", "-,-,8.1.1.5.0",
		"8.1.1.5.0,-,-,-,-",
	} {
		for _, edit := range editsOf(s, pieces) {
			list, ok := impl.FanGet(edit)
			if want, wantOk := fanOf(edit); ok != wantOk || !slices.Equal(list, want) {
				t.Errorf("FanGet(%q) = %v, %v", edit, list, ok)
			}
			if !ok {
				continue
			}
			read++
			if text, ok := impl.FanPut(list); !ok || text != edit {
				t.Errorf("FanGet(%q) = %v, which has the text %q, %v", edit, list, text, ok)
			}
		}
	}
	if read < 100 {
		t.Errorf("just %d texts are indirect blocks", read)
	}
}

func TestTextsOfNoIndirectBlock(t *testing.T) {
	texts := []string{
		"", "-", "-,-", "-,-,-", "-,-,-,-", "-,-,-,-,-", "8.1.1.5.0", "8.1.1.5.0,-,-", "-,-,8.1.1.5.0", "8.1.1.5.0,-,-,-,-", "-,-,-,-,8.1.1.5.0",
		"8.1.1.5.0,-,-,-,", ",8.1.1.5.0,-,-,-", "8.1.1.5.0,,-,-", "8.1.1.5.0,-,-,", "8.1.1.5.0,,,", ",,,", ",,,,", "8.1.1.5.0;-;-;-", "8.1.1.5.0.-.-.-",
		"8.1.1.5.0, -,-,-", " 8.1.1.5.0,-,-,-", "8.1.1.5.0,-,-,- ", "8.1.1.5.0,-,-,-\n", "08.1.1.5.0,-,-,-", "7.1.1.5.0,-,-,-", "-,-,-,8.1.1.5.3", "0.0.0.0.0,-,-,-",
		"8.1.1.5.0,0.0.0.0.0,-,-", "8.1.1.5.0,-,-,--", "8.1.1.5,0,-,-", strings.Repeat(",", 1<<16), strings.Repeat("-,", 1<<15), strings.Repeat("8.1.1.5.0,", 1<<12),
	}
	for _, s := range texts {
		if list, ok := impl.FanGet(s); ok || len(list) != 0 {
			t.Errorf("FanGet(%.60q) = %.200v, %v", s, list, ok)
		}
	}
}

func TestIndirectBlocksShareNoMemory(t *testing.T) {
	list := []impl.Ptr{leastPointer, {}, topPointer, {}}
	before := slices.Clone(list)
	text, _ := impl.FanPut(list)
	if !slices.Equal(list, before) {
		t.Errorf("FanPut changed its pointers to %v", list)
	}
	first, _ := impl.FanGet(text)
	second, _ := impl.FanGet(text)
	clear(first[:cap(first)])
	if third, _ := impl.FanGet(text); !slices.Equal(second, before) || !slices.Equal(third, before) {
		t.Errorf("FanGet = %v and %v", second, third)
	}
}
