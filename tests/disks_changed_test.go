package tests

import (
	"math"
	"math/rand"
	"slices"
	"strings"
	"testing"

	"loop.example/poolfiles/impl"
)

func TestP25DiskSpoilChangesJustOneCell(t *testing.T) {
	for _, c := range validDisks() {
		for _, at := range []int{0, 1, 9, 30, 62, 63} {
			for _, text := range cellTexts() {
				spoilt, ok := impl.DiskSpoil(c.disk, at, text)
				want := changedDisk(c.disk, func(d *impl.Disk) { d.Cells[at] = text })
				if !ok || !sameDisk(spoilt, want) {
					t.Errorf("%s: DiskSpoil of cell %d with %q: %v, or another change", c.name, at, text, ok)
				}
				back, ok := impl.DiskSpoil(spoilt, at, c.disk.Cells[at])
				if !ok || !sameDisk(back, c.disk) {
					t.Errorf("%s: DiskSpoil of cell %d with %q is not undone", c.name, at, text)
				}
			}
		}
	}
}

func TestP25DiskSpoilFailsWithNothing(t *testing.T) {
	fails := func(c namedDisk, at int, text string) {
		t.Helper()
		if spoilt, ok := impl.DiskSpoil(c.disk, at, text); ok || !nothing(spoilt) {
			t.Errorf("%s: DiskSpoil of cell %d with %d bytes is %v, or something", c.name, at, len(text), ok)
		}
	}
	for _, c := range allDisks() {
		for _, at := range wrongCells() {
			fails(c, at, "text")
		}
		for _, text := range longTexts() {
			fails(c, 0, text)
			fails(c, 63, text)
		}
	}
	for _, c := range append(wrongDisks(), namedDisk{"gone", goneDisk()}) {
		for _, at := range []int{0, 63, -1, 64} {
			fails(c, at, "")
			fails(c, at, "text")
		}
	}
}

func TestP26DisksThatAreGoneHaveNothing(t *testing.T) {
	d := impl.DiskLose()
	if !impl.DiskOk(d) || !sameDisk(d, goneDisk()) {
		t.Errorf("DiskLose() = %v", d)
	}
	for at := -1; at <= 64; at++ {
		if text, ok := impl.DiskRead(d, at); ok || text != "" {
			t.Errorf("DiskRead of cell %d = %q, %v", at, text, ok)
		}
		for _, text := range []string{"", "text", strings.Repeat("x", 201)} {
			if next, ok := impl.DiskWrite(d, at, text); ok || !sameDisk(next, d) {
				t.Errorf("DiskWrite to cell %d: %v, or a change", at, ok)
			}
		}
	}
	if !sameDisk(impl.DiskFlush(d), d) || !sameDisk(impl.DiskCrash(d, math.MaxInt, 0), d) {
		t.Errorf("DiskFlush or DiskCrash brings a disk back that is gone")
	}
}

// written returns a disk behind writes, each of which must be taken.
func written(t *testing.T, d impl.Disk, waits ...impl.Wait) impl.Disk {
	t.Helper()
	for _, w := range waits {
		next, ok := impl.DiskWrite(d, w.At, w.Text)
		if !ok {
			t.Fatalf("DiskWrite of %q to cell %d failed", w.Text, w.At)
		}
		d = next
	}
	return d
}

// roomyDisks returns valid disks that take two more writes.
func roomyDisks() []namedDisk {
	return slices.DeleteFunc(validDisks(), func(c namedDisk) bool { return len(c.disk.Waits) > 118 })
}

func TestP27OfTwoWritesToOneCellTheSecondTextStays(t *testing.T) {
	for _, c := range roomyDisks() {
		many := len(c.disk.Waits)
		both := 1<<(many%60) | 1<<((many+1)%60)
		for _, at := range []int{0, 9, 63} {
			for _, first := range cellTexts() {
				for _, second := range []string{"", "s", "second", strings.Repeat("s", 200)} {
					d := written(t, c.disk, impl.Wait{At: at, Text: first}, impl.Wait{At: at, Text: second})
					if text, ok := impl.DiskRead(d, at); !ok || text != second {
						t.Errorf("%s: behind %q and %q %q is read, %v", c.name, first, second, text, ok)
					}
					if text := impl.DiskFlush(d).Cells[at]; text != second {
						t.Errorf("%s: behind %q and %q DiskFlush leaves %q", c.name, first, second, text)
					}
					for _, tear := range []int{-1, many, many + 1} {
						if text := impl.DiskCrash(d, both, tear).Cells[at]; text != second {
							t.Errorf("%s: behind %q and %q DiskCrash with both and tear %d leaves %q", c.name, first, second, tear, text)
						}
					}
				}
			}
		}
	}
}

func TestP27AWriteBehindAnotherOneThatIsDoneAlone(t *testing.T) {
	d := impl.DiskFlush(written(t, impl.DiskNew(), impl.Wait{At: 7, Text: "0123456789"}))
	d = written(t, d, impl.Wait{At: 7, Text: "abcdef"}, impl.Wait{At: 7, Text: "ABCD"})
	cases := []struct {
		mask, tear int
		text       string
	}{
		{0, -1, "0123456789"}, {1, -1, "abcdef"}, {2, -1, "ABCD"}, {3, -1, "ABCD"},
		{0, 0, "abc3456789"}, {1, 0, "abcdef"}, {2, 0, "ABCD"}, {3, 0, "ABCD"},
		{0, 1, "AB23456789"}, {1, 1, "ABcdef"}, {2, 1, "ABCD"}, {3, 1, "ABCD"},
		{0, 2, "0123456789"}, {1, 2, "abcdef"}, {2, 2, "ABCD"}, {3, 2, "ABCD"},
	}
	for _, c := range cases {
		if text := impl.DiskCrash(d, c.mask, c.tear).Cells[7]; text != c.text {
			t.Errorf("DiskCrash with mask %d and tear %d leaves %q instead of %q", c.mask, c.tear, text, c.text)
		}
	}
}

func TestP28TwoWritesToTwoCellsInEitherOrder(t *testing.T) {
	for _, c := range roomyDisks() {
		many := len(c.disk.Waits)
		for _, ats := range [][2]int{{0, 63}, {0, 1}, {9, 8}, {62, 63}} {
			for _, text := range cellTexts() {
				one, two := impl.Wait{At: ats[0], Text: text}, impl.Wait{At: ats[1], Text: "two"}
				d, e := written(t, c.disk, one, two), written(t, c.disk, two, one)
				if !sameDisk(impl.DiskFlush(d), impl.DiskFlush(e)) {
					t.Errorf("%s: %v and %v are not the same in either order behind DiskFlush", c.name, one, two)
				}
				neither := (1<<60 - 1) &^ (1<<(many%60) | 1<<((many+1)%60))
				for _, mask := range []int{0, neither, 7 << 60} {
					if !sameDisk(impl.DiskCrash(d, mask, -1), impl.DiskCrash(e, mask, -1)) {
						t.Errorf("%s: %v and %v are not the same in either order behind DiskCrash with mask %d", c.name, one, two, mask)
					}
				}
			}
		}
	}
}

func TestP29TornWrites(t *testing.T) {
	cases := []struct{ was, text, torn string }{
		{"abcd", "wxyz", "wxcd"}, {"abcd", "vwxyz", "vwcd"}, {"abcde", "wxyz", "wxcde"}, {"abcdefgh", "xyz", "xbcdefgh"},
		{"abcdefgh", "wxyz", "wxcdefgh"}, {"a", "vwxyz", "vw"}, {"ab", "wxyz", "wx"}, {"abc", "wxyz", "wxc"}, {"", "wxyz", "wx"},
		{"", "vwxyz", "vw"}, {"", "x", ""}, {"", "", ""}, {"abcd", "", "abcd"}, {"abcd", "x", "abcd"}, {"a", "x", "a"}, {"a", "xy", "x"},
		{strings.Repeat("a", 200), strings.Repeat("x", 200), strings.Repeat("x", 100) + strings.Repeat("a", 100)},
		{strings.Repeat("a", 200), strings.Repeat("x", 199), strings.Repeat("x", 99) + strings.Repeat("a", 101)},
		{strings.Repeat("a", 99), strings.Repeat("x", 200), strings.Repeat("x", 100)},
		{strings.Repeat("a", 101), strings.Repeat("x", 200), strings.Repeat("x", 100) + "a"},
	}
	for _, c := range cases {
		for _, at := range []int{0, 9, 63} {
			d := impl.DiskFlush(written(t, impl.DiskNew(), impl.Wait{At: at, Text: c.was}))
			d = written(t, d, impl.Wait{At: at, Text: c.text})
			for _, mask := range []int{0, 2, 1<<60 - 2, 1 << 60} {
				if text := impl.DiskCrash(d, mask, 0).Cells[at]; text != c.torn {
					t.Errorf("%q torn over %q with mask %d leaves %q instead of %q", c.text, c.was, mask, text, c.torn)
				}
			}
			if text := impl.DiskCrash(d, 1, 0).Cells[at]; text != c.text {
				t.Errorf("%q torn over %q, but done, leaves %q", c.text, c.was, text)
			}
			for _, tear := range []int{-1, 1, 60, math.MaxInt, math.MinInt} {
				if text := impl.DiskCrash(d, 0, tear).Cells[at]; text != c.was {
					t.Errorf("%q over %q with tear %d leaves %q", c.text, c.was, tear, text)
				}
			}
		}
	}
}

func TestP29ATornWriteIsNotThatOfTheSameBit(t *testing.T) {
	d := impl.DiskNew()
	for i := range 120 {
		d = written(t, d, impl.Wait{At: i % 64, Text: "new text"})
	}
	for tear := range 120 {
		want := emptyDisk()
		want.Cells[tear%64] = "new "
		if !sameDisk(impl.DiskCrash(d, 0, tear), want) {
			t.Errorf("tear %d does not tear the write with this number alone", tear)
		}
	}
}

// modelDisk is a disk told in another way: by the texts that each cell has had since the last one that is durable.
type modelDisk struct {
	durable map[int]string
	waits   []impl.Wait
}

func (m *modelDisk) read(at int) string {
	text := m.durable[at]
	for _, w := range m.waits {
		if w.At == at {
			text = w.Text
		}
	}
	return text
}

func (m *modelDisk) crash(mask, tear int) {
	d := emptyDisk()
	for at, text := range m.durable {
		d.Cells[at] = text
	}
	d.Waits = m.waits
	for at := range 64 {
		m.durable[at] = crashedCell(d, at, mask, tear)
	}
	m.waits = nil
}

// modelStep does one thing, which number tells, to a disk and to its model.
func modelStep(d impl.Disk, m *modelDisk, random *rand.Rand) (impl.Disk, bool) {
	at, text := random.Intn(66)-1, strings.Repeat(string(rune('a'+random.Intn(26))), random.Intn(205))
	fine := at >= 0 && at < 64 && len(text) <= 200
	switch random.Intn(40) {
	case 0:
		m.crash(1<<60-1, -1)
		return impl.DiskFlush(d), true
	case 1:
		mask, tear := int(random.Int63()), random.Intn(122)-1
		m.crash(mask, tear)
		return impl.DiskCrash(d, mask, tear), true
	case 2:
		next, ok := impl.DiskSpoil(d, at, text)
		if fine {
			m.durable[at] = text
			return next, ok
		}
		return d, !ok && nothing(next)
	}
	next, ok := impl.DiskWrite(d, at, text)
	if fine && len(m.waits) < 120 {
		m.waits = append(m.waits, impl.Wait{At: at, Text: text})
		return next, ok
	}
	return d, !ok && sameDisk(next, d)
}

func TestP22P23P24P25ManyStepsAreThoseOfAModel(t *testing.T) {
	for seed := range int64(20) {
		random := rand.New(rand.NewSource(seed))
		d, m := impl.DiskNew(), &modelDisk{durable: map[int]string{}}
		for step := range 300 {
			next, ok := modelStep(d, m, random)
			if !ok {
				t.Fatalf("seed %d, step %d: another result", seed, step)
			}
			d = next
			for at := range 64 {
				if text, ok := impl.DiskRead(d, at); !ok || text != m.read(at) || d.Cells[at] != m.durable[at] {
					t.Fatalf("seed %d, step %d: cell %d reads %q, %v", seed, step, at, text, ok)
				}
			}
		}
	}
}

// diskResults returns all disks that come of one by the functions.
func diskResults(d impl.Disk) []impl.Disk {
	one, _ := impl.DiskWrite(d, 9, "x")
	same, _ := impl.DiskWrite(d, 64, "x")
	spoilt, _ := impl.DiskSpoil(d, 9, "y")
	return []impl.Disk{
		impl.DiskNew(), one, same, impl.DiskFlush(d), impl.DiskCrash(d, 0, -1), impl.DiskCrash(d, 5, 1), spoilt, impl.DiskLose(),
		impl.DiskNew(), impl.DiskFlush(d), impl.DiskLose(),
	}
}

// scrawl writes over all the memory that a disk leads to, behind its slices, too.
func scrawl(d impl.Disk) {
	cells, waits := d.Cells[:cap(d.Cells)], d.Waits[:cap(d.Waits)]
	for i := range cells {
		cells[i] = "scrawl"
	}
	for i := range waits {
		waits[i] = impl.Wait{At: -9, Text: "scrawl"}
	}
}

func TestDisksShareNoMemory(t *testing.T) {
	for _, c := range allDisks() {
		// With room behind its slices, in which a result might be kept.
		d := impl.Disk{Cells: append(make([]string, 0, 200), c.disk.Cells...), Waits: append(make([]impl.Wait, 0, 200), c.disk.Waits...), Gone: c.disk.Gone}
		before := copyDisk(d)
		results := diskResults(d)
		if !sameDisk(d, before) || !nothingBehind(d) {
			t.Errorf("%s: an argument was changed", c.name)
		}
		for i := range results {
			again := diskResults(before)
			scrawl(results[i])
			if !sameDisk(d, before) {
				t.Fatalf("%s: result %d shares memory with the argument", c.name, i)
			}
			for k := i + 1; k < len(results); k++ {
				if !sameDisk(results[k], again[k]) {
					t.Fatalf("%s: results %d and %d share memory", c.name, i, k)
				}
			}
		}
	}
}

// nothingBehind reports whether nothing was written behind the slices of a disk.
func nothingBehind(d impl.Disk) bool {
	cells, waits := d.Cells[len(d.Cells):cap(d.Cells)], d.Waits[len(d.Waits):cap(d.Waits)]
	return !slices.ContainsFunc(cells, func(s string) bool { return s != "" }) &&
		!slices.ContainsFunc(waits, func(w impl.Wait) bool { return w != impl.Wait{} })
}
