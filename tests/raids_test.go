package tests

import (
	"fmt"
	"math"
	"slices"
	"testing"

	"loop.example/poolfiles/impl"
)

// namedRaid is a set of disks with a name.
type namedRaid struct {
	name string
	raid impl.Raid
}

func raidOf(disks ...impl.Disk) impl.Raid {
	r := impl.Raid{}
	for _, d := range disks {
		r.Disks = append(r.Disks, copyDisk(d))
	}
	return r
}

func copyRaid(r impl.Raid) impl.Raid {
	return raidOf(r.Disks...)
}

func sameRaid(a, b impl.Raid) bool {
	return slices.EqualFunc(a.Disks, b.Disks, sameDisk)
}

// noRaid reports whether a set of disks is the zero value.
func noRaid(r impl.Raid) bool {
	return len(r.Disks) == 0
}

// lostDisks returns disks, some of which are gone now.
func lostDisks(r impl.Raid, lost ...int) impl.Raid {
	r = copyRaid(r)
	for _, number := range lost {
		r.Disks[number] = goneDisk()
	}
	return r
}

// storedBlocks are blocks in rows, of an odd and of an even number of bytes.
func storedBlocks() map[int]string {
	return map[int]string{
		8: "a", 9: "ab", 10: "abc", 11: "abcd", 30: scramble(64, 2), 31: scramble(63, 3), 40: "\x00", 41: "\x00\x00\x00", 61: "\xff\xfe",
		62: scramble(127, 4), 63: scramble(128, 5),
	}
}

// storedRaid is disks with blocks in rows, durable.
func storedRaid() impl.Raid {
	r := raidOf(emptyDisk(), emptyDisk(), emptyDisk())
	for row, block := range storedBlocks() {
		for number, text := range columnsByHand(block) {
			r.Disks[number].Cells[row] = text
		}
	}
	return r
}

// waitingRaid is disks on which a block waits to be written to a row, on those that are not gone.
func waitingRaid(r impl.Raid, row int, block string) impl.Raid {
	r = copyRaid(r)
	for number, text := range columnsByHand(block) {
		if !r.Disks[number].Gone {
			r.Disks[number].Waits = append(r.Disks[number].Waits, impl.Wait{At: row, Text: text})
		}
	}
	return r
}

// elsewhere returns writes to rows that are not those of the stored blocks.
func elsewhere(many int) []impl.Wait {
	list := manyWaits(many)
	for i := range list {
		list[i].At = 12 + i%18
	}
	return list
}

// busyRaid is stored blocks, and so many writes of each disk that wait, to other rows.
func busyRaid(many ...int) impl.Raid {
	r := storedRaid()
	for number := range r.Disks {
		r.Disks[number] = waiting(r.Disks[number], elsewhere(many[number])...)
	}
	return r
}

// spoiltRaid returns disks with another text in a cell.
func spoiltRaid(r impl.Raid, number, row int, text string) impl.Raid {
	r = copyRaid(r)
	r.Disks[number].Cells[row] = text
	return r
}

// wholeRaids returns valid sets of disks none of which is gone.
func wholeRaids() []namedRaid {
	over := waitingRaid(waitingRaid(storedRaid(), 9, "other"), 63, "o")
	list := []namedRaid{
		{"new", raidOf(emptyDisk(), emptyDisk(), emptyDisk())},
		{"other texts", raidOf(usedDisk(), waiting(usedDisk(), manyWaits(30)...), emptyDisk())},
		{"stored", storedRaid()},
		{"written over", over},
		{"written over twice", waitingRaid(over, 9, "ab")},
		{"another block over zeros", waitingRaid(storedRaid(), 40, "\x00\x00")},
		{"busy", busyRaid(3, 0, 61)},
		{"room for one more", busyRaid(119, 119, 119)},
		{"the first is full", busyRaid(120, 0, 3)},
		{"the second is full", busyRaid(4, 120, 0)},
		{"the third is full", busyRaid(0, 119, 120)},
		{"all are full", busyRaid(120, 120, 120)},
	}
	for number := range 3 {
		list = append(list,
			namedRaid{fmt.Sprintf("disk %d is spoilt", number), spoiltRaid(spoiltRaid(storedRaid(), number, 62, "bad"), number, 9, "b")},
			namedRaid{fmt.Sprintf("disk %d is as if new", number), raidOf(slices.Replace(storedRaid().Disks, number, number+1, emptyDisk())...)},
		)
	}
	return list
}

// validRaids returns valid sets of disks, some of which are gone.
func validRaids() []namedRaid {
	list := wholeRaids()
	for _, c := range []namedRaid{{"stored", storedRaid()}, {"busy", busyRaid(120, 120, 120)}, {"spoilt", spoiltRaid(storedRaid(), 1, 62, "bad")}} {
		for _, lost := range [][]int{{0}, {1}, {2}, {0, 1}, {0, 2}, {1, 2}, {0, 1, 2}} {
			list = append(list, namedRaid{fmt.Sprintf("%s, without %v", c.name, lost), lostDisks(c.raid, lost...)})
		}
	}
	return list
}

// wrongRaids returns sets of disks that are not valid.
func wrongRaids() []namedRaid {
	d := usedDisk()
	list := []namedRaid{
		{"nothing", impl.Raid{}},
		{"no disk", impl.Raid{Disks: []impl.Disk{}}},
		{"one disk", raidOf(d)},
		{"two disks", raidOf(d, d)},
		{"four disks", raidOf(d, d, d, d)},
		{"six disks", raidOf(d, d, d, d, d, d)},
		{"two gone", raidOf(goneDisk(), goneDisk())},
		{"four gone", raidOf(goneDisk(), goneDisk(), goneDisk(), goneDisk())},
		{"three zero disks", impl.Raid{Disks: make([]impl.Disk, 3)}},
	}
	for number := range 3 {
		for _, c := range wrongDisks() {
			r := storedRaid()
			r.Disks[number] = c.disk
			list = append(list, namedRaid{fmt.Sprintf("disk %d: %s", number, c.name), r})
		}
	}
	return list
}

func wrongRows() []int {
	return []int{7, 6, 1, 0, -1, 64, 65, 128, -8, -63, 1 << 32, 1<<32 + 9, math.MinInt, math.MaxInt}
}

// pointerTo is a pointer to a block in a row.
func pointerTo(t *testing.T, row int, block string) impl.Ptr {
	t.Helper()
	p, ok := impl.PtrOf(row, 1, 0, block)
	if !ok {
		t.Fatalf("no pointer to %q in row %d", block, row)
	}
	return p
}

// storedPointers returns pointers to the stored blocks, to some that wait in the sets of disks, and to some that are not there.
func storedPointers(t *testing.T) []impl.Ptr {
	t.Helper()
	list := []impl.Ptr{}
	for row, block := range storedBlocks() {
		list = append(list, pointerTo(t, row, block), pointerTo(t, row, block[1:]+"?"), pointerTo(t, row^1, block))
	}
	for _, block := range []string{"other", "o", "ab", "bad", "\x00", "\x00\x00"} {
		list = append(list, pointerTo(t, 9, block), pointerTo(t, 63, block), pointerTo(t, 40, block))
	}
	return list
}

// latestByHand tells what each disk has of a row, or nil if it is gone.
func latestByHand(r impl.Raid, row int) []*string {
	list := []*string{}
	for _, d := range r.Disks {
		text := d.Cells[row]
		for _, w := range d.Waits {
			if w.At == row {
				text = w.Text
			}
		}
		if d.Gone {
			list = append(list, nil)
		} else {
			list = append(list, &text)
		}
	}
	return list
}

// readByHand tells what a pointer that is valid and no hole leads to on valid disks, byte by byte.
func readByHand(r impl.Raid, p impl.Ptr) (string, bool) {
	latest, sizes := latestByHand(r, p.At), columnSizes(p.Size)
	for _, way := range []struct{ unused, lost int }{{2, -1}, {0, 0}, {1, 1}} {
		cols, fine := make([]string, 3), true
		for number, text := range latest {
			if number == way.unused {
				continue
			}
			if text == nil || len(*text) != sizes[number] {
				fine = false
				continue
			}
			cols[number] = *text
		}
		if !fine {
			continue
		}
		if text := joinByHand(cols, p.Size, way.lost); impl.PtrFits(p, text) {
			return text, true
		}
	}
	return "", false
}

func TestP33NewDisksHaveNothing(t *testing.T) {
	r := impl.RaidNew()
	if !impl.RaidOk(r) || !sameRaid(r, raidOf(emptyDisk(), emptyDisk(), emptyDisk())) {
		t.Errorf("RaidNew() = %v", r)
	}
	pointers := edgePointers()
	for _, block := range append(blocks(), sizedBlocks()...) {
		pointers = append(pointers, pointerTo(t, 8, block), pointerTo(t, 63, block))
	}
	for _, p := range pointers {
		if text, ok := impl.RaidRead(r, p); ok || text != "" {
			t.Errorf("RaidRead of %v from new disks = %q, %v", p, text, ok)
		}
		if next, many, ok := impl.RaidHeal(r, p); ok || many != 0 || !noRaid(next) {
			t.Errorf("RaidHeal of %v on new disks = %d, %v", p, many, ok)
		}
	}
}

func TestP34JustValidDisksAreFlushed(t *testing.T) {
	for _, c := range validRaids() {
		if !impl.RaidOk(c.raid) {
			t.Errorf("%s: RaidOk is false", c.name)
		}
		if flushed := impl.RaidFlush(c.raid); len(flushed.Disks) != 3 || !impl.RaidOk(flushed) {
			t.Errorf("%s: RaidFlush is no valid set of disks", c.name)
		}
	}
	for _, c := range wrongRaids() {
		if impl.RaidOk(c.raid) {
			t.Errorf("%s: RaidOk is true", c.name)
		}
		if flushed := impl.RaidFlush(c.raid); !noRaid(flushed) {
			t.Errorf("%s: RaidFlush is something", c.name)
		}
	}
}

// takesAll reports whether each disk that is not gone takes one more write.
func takesAll(r impl.Raid) bool {
	return !slices.ContainsFunc(r.Disks, func(d impl.Disk) bool { return len(d.Waits) == 120 })
}

func TestP35ColumnsWait(t *testing.T) {
	list := []string{"a", "ab", "abc", "\x00", "other", scramble(127, 7), scramble(128, 8)}
	for _, c := range validRaids() {
		for _, row := range []int{8, 9, 35, 62, 63} {
			for _, block := range list {
				next, ok := impl.RaidWrite(c.raid, row, block)
				if !takesAll(c.raid) {
					if ok || !noRaid(next) {
						t.Errorf("%s: RaidWrite of %q to row %d: %v, or something", c.name, block, row, ok)
					}
					continue
				}
				if !ok || !sameRaid(next, waitingRaid(c.raid, row, block)) || !impl.RaidOk(next) {
					t.Errorf("%s: RaidWrite of %q to row %d does not just wait, %v", c.name, block, row, ok)
				}
			}
		}
	}
}

func TestP35EachRowTakesEachBlock(t *testing.T) {
	r := storedRaid()
	for row := 8; row < 64; row++ {
		for _, block := range append(blocks(), sizedBlocks()[row%4:(row%4)+8]...) {
			if next, ok := impl.RaidWrite(r, row, block); !ok || !sameRaid(next, waitingRaid(r, row, block)) {
				t.Errorf("RaidWrite of %q to row %d: %v, or another result", block, row, ok)
			}
		}
	}
}

// readWith checks that a block is read, behind a flush, too.
func readWith(t *testing.T, name string, r impl.Raid, p impl.Ptr, block string) {
	t.Helper()
	if text, ok := impl.RaidRead(r, p); !ok || text != block {
		t.Errorf("%s: RaidRead of %v = %q, %v, not %q", name, p, text, ok, block)
	}
	if text, ok := impl.RaidRead(impl.RaidFlush(r), p); !ok || text != block {
		t.Errorf("%s: RaidRead of %v behind RaidFlush = %q, %v, not %q", name, p, text, ok, block)
	}
}

func TestP35WhatIsWrittenIsReadWithoutEachDisk(t *testing.T) {
	for i, block := range append(blocks(), sizedBlocks()...) {
		row := 8 + i%56
		r, ok := impl.RaidWrite(storedRaid(), row, block)
		if !ok {
			t.Fatalf("RaidWrite of %q to row %d failed", block, row)
		}
		p := pointerTo(t, row, block)
		readWith(t, "all disks", r, p, block)
		for lost := range 3 {
			readWith(t, fmt.Sprintf("written, then without %d", lost), lostDisks(r, lost), p, block)
			less, ok := impl.RaidLose(impl.RaidFlush(r), lost)
			if text, read := impl.RaidRead(less, p); !ok || !read || text != block {
				t.Errorf("behind RaidLose of disk %d RaidRead of %v = %q, %v", lost, p, text, read)
			}
			less, ok = impl.RaidWrite(lostDisks(storedRaid(), lost), row, block)
			if !ok {
				t.Fatalf("RaidWrite of %q without disk %d failed", block, lost)
			}
			readWith(t, fmt.Sprintf("written without %d", lost), less, p, block)
		}
	}
}

func TestP35TwoDisksGoneAreTooMany(t *testing.T) {
	for row, block := range storedBlocks() {
		p := pointerTo(t, row, block)
		for _, lost := range [][]int{{0, 1}, {0, 2}, {1, 2}, {0, 1, 2}} {
			r := lostDisks(storedRaid(), lost...)
			if text, ok := impl.RaidRead(r, p); ok || text != "" {
				t.Errorf("without %v RaidRead of %v = %q, %v", lost, p, text, ok)
			}
			if next, many, ok := impl.RaidHeal(r, p); ok || many != 0 || !noRaid(next) {
				t.Errorf("without %v RaidHeal of %v = %d, %v", lost, p, many, ok)
			}
		}
	}
}

// refusedWrite checks that a write fails with nothing.
func refusedWrite(t *testing.T, c namedRaid, row int, text string) {
	t.Helper()
	if next, ok := impl.RaidWrite(c.raid, row, text); ok || !noRaid(next) {
		t.Errorf("%s: RaidWrite of %d bytes to row %d: %v, or something", c.name, len(text), row, ok)
	}
}

func TestP35WritesThatAreRefused(t *testing.T) {
	for _, c := range validRaids() {
		for _, row := range wrongRows() {
			refusedWrite(t, c, row, "text")
			refusedWrite(t, c, row, "")
		}
		for _, text := range noBlocks() {
			refusedWrite(t, c, 8, text)
			refusedWrite(t, c, 63, text)
		}
	}
	for _, c := range wrongRaids() {
		for _, row := range []int{8, 63, 7, 64} {
			refusedWrite(t, c, row, "text")
		}
		refusedWrite(t, c, 9, "")
	}
}

func TestP35ADiskThatTakesJustOneMore(t *testing.T) {
	for number := range 3 {
		many := []int{0, 5, 60}
		many[number] = 119
		one, ok := impl.RaidWrite(busyRaid(many...), 9, "new")
		if !ok || len(one.Disks[number].Waits) != 120 {
			t.Fatalf("disk %d did not take one more", number)
		}
		refusedWrite(t, namedRaid{fmt.Sprintf("disk %d is full", number), one}, 10, "new")
		less := lostDisks(one, number)
		if next, ok := impl.RaidWrite(less, 10, "new"); !ok || !sameRaid(next, waitingRaid(less, 10, "new")) {
			t.Errorf("RaidWrite failed though disk %d, which was full, is gone", number)
		}
		if next, ok := impl.RaidWrite(impl.RaidFlush(one), 10, "new"); !ok || len(next.Disks[number].Waits) != 1 {
			t.Errorf("RaidWrite failed behind RaidFlush of full disk %d", number)
		}
	}
}

func TestP36WhatIsReadFitsThePointer(t *testing.T) {
	fine := 0
	for _, c := range validRaids() {
		flushed := impl.RaidFlush(c.raid)
		for _, p := range storedPointers(t) {
			text, ok := impl.RaidRead(c.raid, p)
			want, there := readByHand(c.raid, p)
			if text != want || ok != there {
				t.Errorf("%s: RaidRead of %v = %q, %v, not %q, %v", c.name, p, text, ok, want, there)
			}
			if ok != impl.PtrFits(p, text) {
				t.Errorf("%s: RaidRead of %v = %q, %v does not fit", c.name, p, text, ok)
			}
			if later, still := impl.RaidRead(flushed, p); later != text || still != ok {
				t.Errorf("%s: RaidRead of %v = %q, %v behind RaidFlush, not %q, %v", c.name, p, later, still, text, ok)
			}
			if ok {
				fine++
			}
		}
	}
	if fine < 150 {
		t.Errorf("just %d texts were read", fine)
	}
}

func TestP36TheLastWriteIsRead(t *testing.T) {
	r := waitingRaid(waitingRaid(storedRaid(), 9, "one"), 9, "two")
	readWith(t, "written twice", r, pointerTo(t, 9, "two"), "two")
	for _, block := range []string{"ab", "one"} {
		if text, ok := impl.RaidRead(r, pointerTo(t, 9, block)); ok {
			t.Errorf("RaidRead = %q, though it was written over", text)
		}
	}
}

func TestP36BirthAndLevelDoNotMatter(t *testing.T) {
	for row, block := range storedBlocks() {
		for _, birth := range []int{1, 2, 450, 900} {
			for level := range 3 {
				p, _ := impl.PtrOf(row, birth, level, block)
				readWith(t, "stored", storedRaid(), p, block)
			}
		}
	}
}

// columnsIn is disks with three columns in a row.
func columnsIn(row int, cols ...string) impl.Raid {
	r := storedRaid()
	for number, text := range cols {
		r.Disks[number].Cells[row] = text
	}
	return r
}

func TestP36WaysAreTriedInOrder(t *testing.T) {
	cases := []struct {
		name  string
		cols  []string
		block string
		text  string
	}{
		{"all fit", []string{"cac", "bcb", "\x00\x00\x00"}, "bcbbcb", "cacbcb"},
		{"all fit, too", []string{"bcb", "cac", "\x00\x00\x00"}, "bcbbcb", "bcbcac"},
		{"the first two do not fit", []string{"dg", "ec", "\x03\x06"}, "dgga", "feec"},
		{"the first two do not fit, too", []string{"bcc", "bbg", "\x01\x01\x05"}, "bcccbf", "ccbbbg"},
		{"just without the second one", []string{"ab", "xy", "\x02\x06"}, "abcd", "abcd"},
		{"just without the first one", []string{"xy", "cd", "\x02\x06"}, "abcd", "abcd"},
		{"just by the first two", []string{"ab", "cd", "xy"}, "abcd", "abcd"},
	}
	for _, c := range cases {
		r, p := columnsIn(50, c.cols...), pointerTo(t, 50, c.block)
		if text, ok := impl.RaidRead(r, p); !ok || text != c.text {
			t.Errorf("%s: RaidRead = %q, %v", c.name, text, ok)
		}
		next, many, ok := impl.RaidHeal(r, p)
		if want, written := healedByHand(r, 50, c.text); !ok || many != written || !sameRaid(next, want) {
			t.Errorf("%s: RaidHeal = %d, %v, or another result", c.name, many, ok)
		}
	}
}

func TestP36AColumnOfADiskThatIsGoneIsNotTheEmptyOne(t *testing.T) {
	p := pointerTo(t, 50, "a")
	cases := []struct {
		cols []string
		lost []int
		fine bool
	}{
		{[]string{"a", "", "a"}, nil, true},
		{[]string{"a", "", ""}, nil, true},
		{[]string{"a", "", "ab"}, nil, true},
		{[]string{"", "", "a"}, nil, true},
		{[]string{"a", "x", "a"}, nil, true},
		{[]string{"", "x", "a"}, nil, false},
		{[]string{"a", "x", ""}, nil, false},
		{[]string{"a", "", "a"}, []int{1}, true},
		{[]string{"a", "", ""}, []int{1}, false},
		{[]string{"a", "", "xx"}, []int{1}, false},
		{[]string{"", "", "a"}, []int{1}, false},
		{[]string{"", "", "a"}, []int{0}, true},
		{[]string{"a", "", ""}, []int{2}, true},
		{[]string{"a", "", ""}, []int{1, 2}, false},
		{[]string{"", "", "a"}, []int{0, 1}, false},
		{[]string{"a", "", "z"}, []int{1}, true},
	}
	for _, c := range cases {
		r, want := lostDisks(columnsIn(50, c.cols...), c.lost...), ""
		if c.fine {
			want = "a"
		}
		if text, ok := impl.RaidRead(r, p); ok != c.fine || text != want {
			t.Errorf("RaidRead of %q without %v = %q, %v", c.cols, c.lost, text, ok)
		}
	}
}

func TestP36JustPointersToBlocksAreRead(t *testing.T) {
	for _, c := range []namedRaid{{"stored", storedRaid()}, {"new", impl.RaidNew()}, {"gone", lostDisks(storedRaid(), 2)}} {
		for _, p := range append(wrongPointers(), impl.Ptr{}) {
			if text, ok := impl.RaidRead(c.raid, p); ok || text != "" {
				t.Errorf("%s: RaidRead of %v = %q, %v", c.name, p, text, ok)
			}
			if next, many, ok := impl.RaidHeal(c.raid, p); ok || many != 0 || !noRaid(next) {
				t.Errorf("%s: RaidHeal of %v = %d, %v", c.name, p, many, ok)
			}
		}
	}
	for _, change := range []func(p *impl.Ptr){
		func(p *impl.Ptr) { p.At = 7 }, func(p *impl.Ptr) { p.At = 64 }, func(p *impl.Ptr) { p.At = -1 },
		func(p *impl.Ptr) { p.Birth = 0 }, func(p *impl.Ptr) { p.Birth = 901 }, func(p *impl.Ptr) { p.Level = 3 }, func(p *impl.Ptr) { p.Level = -1 },
	} {
		p := pointerTo(t, 10, "abc")
		change(&p)
		r := storedRaid()
		if p.At == 7 {
			r = waitingRaid(r, 7, "abc")
		}
		if text, ok := impl.RaidRead(r, p); ok || text != "" {
			t.Errorf("RaidRead of %v = %q, %v", p, text, ok)
		}
		if next, many, ok := impl.RaidHeal(r, p); ok || many != 0 || !noRaid(next) {
			t.Errorf("RaidHeal of %v = %d, %v", p, many, ok)
		}
	}
}

func TestP36NothingIsReadFromWrongDisks(t *testing.T) {
	for _, c := range wrongRaids() {
		for _, p := range []impl.Ptr{{}, pointerTo(t, 10, "abc"), pointerTo(t, 63, scramble(128, 5))} {
			if text, ok := impl.RaidRead(c.raid, p); ok || text != "" {
				t.Errorf("%s: RaidRead of %v = %q, %v", c.name, p, text, ok)
			}
			if next, many, ok := impl.RaidHeal(c.raid, p); ok || many != 0 || !noRaid(next) {
				t.Errorf("%s: RaidHeal of %v = %d, %v", c.name, p, many, ok)
			}
		}
	}
	four := storedRaid()
	four.Disks = append(four.Disks, emptyDisk())
	if text, ok := impl.RaidRead(four, pointerTo(t, 10, "abc")); ok || text != "" {
		t.Errorf("RaidRead from four disks = %q, %v", text, ok)
	}
}

// healedByHand tells the disks on which a row is that of a block, and how many columns are written for that.
func healedByHand(r impl.Raid, row int, block string) (impl.Raid, int) {
	next, many := copyRaid(r), 0
	for number, text := range latestByHand(r, row) {
		want := columnsByHand(block)[number]
		if text != nil && *text != want {
			next.Disks[number].Waits = append(next.Disks[number].Waits, impl.Wait{At: row, Text: want})
			many++
		}
	}
	return next, many
}

func TestP37RaidHealWritesJustWhatIsNotAsItMustBe(t *testing.T) {
	counts := map[int]int{}
	for _, c := range validRaids() {
		for _, p := range storedPointers(t) {
			text, there := readByHand(c.raid, p)
			next, many, ok := impl.RaidHeal(c.raid, p)
			if !there {
				if ok || many != 0 || !noRaid(next) {
					t.Errorf("%s: RaidHeal of %v = %d, %v, though there is nothing", c.name, p, many, ok)
				}
				continue
			}
			want, written := healedByHand(c.raid, p.At, text)
			if !impl.RaidOk(want) {
				want, written, there = impl.Raid{}, 0, false
			}
			if ok != there || many != written || !sameRaid(next, want) {
				t.Errorf("%s: RaidHeal of %v = %d, %v, or another result", c.name, p, many, ok)
			}
			counts[written]++
		}
	}
	if counts[0] == 0 || counts[1] == 0 {
		t.Errorf("columns that were written, and how often: %v", counts)
	}
}

func TestP37BehindRaidHealTheSameIsReadWithoutEachDisk(t *testing.T) {
	for row, block := range storedBlocks() {
		p := pointerTo(t, row, block)
		for number := range 3 {
			for _, text := range []string{"", "x", "\x00", scramble(64, 3), scramble(200, 4)} {
				r := spoiltRaid(storedRaid(), number, row, text)
				healed, many, ok := impl.RaidHeal(r, p)
				if text == columnsByHand(block)[number] {
					if !ok || many != 0 || !sameRaid(healed, r) {
						t.Errorf("RaidHeal of %v = %d, %v, though nothing is wrong", p, many, ok)
					}
					continue
				}
				if !ok || many != 1 {
					t.Errorf("RaidHeal of %v with %q on disk %d = %d, %v", p, text, number, many, ok)
				}
				for lost := range 3 {
					readWith(t, fmt.Sprintf("healed, then without %d", lost), lostDisks(healed, lost), p, block)
				}
				again, many, ok := impl.RaidHeal(healed, p)
				if !ok || many != 0 || !sameRaid(again, healed) {
					t.Errorf("a second RaidHeal of %v = %d, %v", p, many, ok)
				}
			}
		}
	}
}

func TestP37ADiskThatIsGoneIsNotHealed(t *testing.T) {
	for row, block := range storedBlocks() {
		p := pointerTo(t, row, block)
		for lost := range 3 {
			r := lostDisks(storedRaid(), lost)
			if next, many, ok := impl.RaidHeal(r, p); !ok || many != 0 || !sameRaid(next, r) {
				t.Errorf("without %d RaidHeal of %v = %d, %v", lost, p, many, ok)
			}
		}
	}
}

func TestP37WhatWaitsCounts(t *testing.T) {
	p := pointerTo(t, 10, "abc")
	for number, column := range columnsByHand("abc") {
		bad := spoiltRaid(storedRaid(), number, 10, "bad")
		bad.Disks[number].Waits = []impl.Wait{{At: 10, Text: "worse"}, {At: 11, Text: "x"}, {At: 10, Text: column}}
		if next, many, ok := impl.RaidHeal(bad, p); !ok || many != 0 || !sameRaid(next, bad) {
			t.Errorf("disk %d: RaidHeal of a column that waits already = %d, %v", number, many, ok)
		}
		worse := copyRaid(storedRaid())
		worse.Disks[number].Waits = []impl.Wait{{At: 10, Text: column}, {At: 10, Text: "worse"}, {At: 11, Text: "x"}}
		want := copyRaid(worse)
		want.Disks[number].Waits = append(want.Disks[number].Waits, impl.Wait{At: 10, Text: column})
		if next, many, ok := impl.RaidHeal(worse, p); !ok || many != 1 || !sameRaid(next, want) {
			t.Errorf("disk %d: RaidHeal of a bad column that waits = %d, %v", number, many, ok)
		}
	}
}

func TestP37AFullDiskFailsJustWhereOneIsNeeded(t *testing.T) {
	for number := range 3 {
		many := []int{0, 0, 0}
		many[number] = 120
		full, p := busyRaid(many...), pointerTo(t, 10, "abc")
		if next, many, ok := impl.RaidHeal(full, p); !ok || many != 0 || !sameRaid(next, full) {
			t.Errorf("full disk %d: RaidHeal where nothing is needed = %d, %v", number, many, ok)
		}
		for spoilt := range 3 {
			next, many, ok := impl.RaidHeal(spoiltRaid(full, spoilt, 10, "bad"), p)
			if spoilt == number && (ok || many != 0 || !noRaid(next)) {
				t.Errorf("full disk %d: RaidHeal where it is needed = %d, %v", number, many, ok)
			}
			if spoilt != number && (!ok || many != 1) {
				t.Errorf("full disk %d: RaidHeal of disk %d = %d, %v", number, spoilt, many, ok)
			}
		}
		many[number] = 119
		next, written, ok := impl.RaidHeal(spoiltRaid(busyRaid(many...), number, 10, "bad"), p)
		if !ok || written != 1 || len(next.Disks[number].Waits) != 120 {
			t.Errorf("RaidHeal with room for one more on disk %d = %d, %v", number, written, ok)
		}
	}
}

func TestP38BehindRaidFlushNothingWaits(t *testing.T) {
	for _, c := range validRaids() {
		flushed := impl.RaidFlush(c.raid)
		for number, d := range flushed.Disks {
			if len(d.Waits) != 0 || !sameDisk(d, crashedDisk(c.raid.Disks[number], 1<<60-1, -1)) {
				t.Errorf("%s: RaidFlush of disk %d is something else", c.name, number)
			}
		}
		if !sameRaid(impl.RaidFlush(flushed), flushed) {
			t.Errorf("%s: a second RaidFlush changes something", c.name)
		}
	}
}

// crashesOf returns masks and tears that differ from disk to disk.
func crashesOf(masks, tears []int) [][2][]int {
	list := [][2][]int{}
	for i := range masks {
		for k := range tears {
			at := func(list []int, i int) int { return list[i%len(list)] }
			list = append(list, [2][]int{
				{at(masks, i), at(masks, i+5), at(masks, 2*i+1)},
				{at(tears, k), at(tears, 3*k+1), at(tears, k+7)},
			})
		}
	}
	return list
}

func TestP39RaidCrashIsDiskCrashOfEachDisk(t *testing.T) {
	for _, c := range validRaids() {
		for _, crash := range crashesOf(crashMasks(), crashTears()) {
			crashed := impl.RaidCrash(c.raid, crash[0], crash[1])
			if len(crashed.Disks) != 3 {
				t.Fatalf("%s: RaidCrash with %v has %d disks", c.name, crash, len(crashed.Disks))
			}
			for number, d := range c.raid.Disks {
				mask, tear := crash[0][number], crash[1][number]
				if !sameDisk(crashed.Disks[number], impl.DiskCrash(d, mask, tear)) {
					t.Errorf("%s: RaidCrash with %v is not DiskCrash of disk %d", c.name, crash, number)
				}
			}
		}
	}
}

func TestP39FailuresThatAreRefused(t *testing.T) {
	three, fine := []int{1, 2, 3}, [][]int{{0, 0, 0}, {-1, -1, -1}, {5, math.MinInt, math.MaxInt}}
	for _, c := range validRaids() {
		for _, list := range [][]int{nil, {}, {1}, {1, 2}, {1, 2, 3, 4}, {1, 2, 3, 4, 5, 6}} {
			if !noRaid(impl.RaidCrash(c.raid, list, three)) || !noRaid(impl.RaidCrash(c.raid, three, list)) || !noRaid(impl.RaidCrash(c.raid, list, list)) {
				t.Errorf("%s: RaidCrash with %v instead of three numbers is something", c.name, list)
			}
		}
		for number := range 3 {
			for _, mask := range []int{-1, -2, math.MinInt} {
				masks := []int{0, 7, math.MaxInt}
				masks[number] = mask
				if !noRaid(impl.RaidCrash(c.raid, masks, three)) {
					t.Errorf("%s: RaidCrash with masks %v is something", c.name, masks)
				}
			}
		}
		for _, tears := range fine {
			if noRaid(impl.RaidCrash(c.raid, three, tears)) {
				t.Errorf("%s: RaidCrash with tears %v is nothing", c.name, tears)
			}
		}
	}
	for _, c := range wrongRaids() {
		if !noRaid(impl.RaidCrash(c.raid, three, three)) || !noRaid(impl.RaidCrash(c.raid, nil, nil)) {
			t.Errorf("%s: RaidCrash is something", c.name)
		}
	}
	four := raidOf(emptyDisk(), emptyDisk(), emptyDisk(), emptyDisk())
	if !noRaid(impl.RaidCrash(four, []int{1, 2, 3, 4}, []int{1, 2, 3, 4})) {
		t.Errorf("RaidCrash of four disks is something")
	}
}

func TestP40RaidLoseTakesJustOneDisk(t *testing.T) {
	for _, c := range validRaids() {
		for lost := range 3 {
			less, ok := impl.RaidLose(c.raid, lost)
			if !ok || !sameRaid(less, lostDisks(c.raid, lost)) || !impl.RaidOk(less) {
				t.Errorf("%s: RaidLose of disk %d: %v, or another result", c.name, lost, ok)
			}
			if again, ok := impl.RaidLose(less, lost); !ok || !sameRaid(again, less) {
				t.Errorf("%s: a second RaidLose of disk %d: %v, or a change", c.name, lost, ok)
			}
		}
	}
}

func TestP40DisksThatAreNotThere(t *testing.T) {
	for _, c := range validRaids() {
		for _, disk := range []int{-1, 3, 4, -3, 255, 256, 1 << 32, math.MinInt, math.MaxInt} {
			if less, ok := impl.RaidLose(c.raid, disk); ok || !noRaid(less) {
				t.Errorf("%s: RaidLose of disk %d: %v, or something", c.name, disk, ok)
			}
		}
	}
	for _, c := range wrongRaids() {
		for disk := -1; disk <= 6; disk++ {
			if less, ok := impl.RaidLose(c.raid, disk); ok || !noRaid(less) {
				t.Errorf("%s: RaidLose of disk %d: %v, or something", c.name, disk, ok)
			}
		}
	}
}
