package tests

import (
	"fmt"
	"math"
	"slices"
	"strings"
	"testing"

	"loop.example/poolfiles/impl"
)

// namedDisk is a disk with a name, as the text of a whole disk is too long for a message.
type namedDisk struct {
	name string
	disk impl.Disk
}

func sameDisk(a, b impl.Disk) bool {
	return slices.Equal(a.Cells, b.Cells) && slices.Equal(a.Waits, b.Waits) && a.Gone == b.Gone
}

// nothing reports whether a disk is the zero value.
func nothing(d impl.Disk) bool {
	return len(d.Cells) == 0 && len(d.Waits) == 0 && !d.Gone
}

func copyDisk(d impl.Disk) impl.Disk {
	return impl.Disk{Cells: slices.Clone(d.Cells), Waits: slices.Clone(d.Waits), Gone: d.Gone}
}

// emptyDisk is a new disk, made by hand.
func emptyDisk() impl.Disk {
	return impl.Disk{Cells: make([]string, 64)}
}

// usedDisk is a disk with a text of its own in each cell but for some empty ones, on which nothing waits.
func usedDisk() impl.Disk {
	d := emptyDisk()
	for at := range d.Cells {
		d.Cells[at] = strings.Repeat(string(rune('a'+at%26)), at%7)
	}
	d.Cells[0], d.Cells[62], d.Cells[63] = "first", strings.Repeat("m", 200), strings.Repeat("z", 199)
	return d
}

func waiting(d impl.Disk, waits ...impl.Wait) impl.Disk {
	d = copyDisk(d)
	d.Waits = append(d.Waits, waits...)
	return d
}

// manyWaits returns writes to all cells in turn, each with another text than the one before to the cell.
func manyWaits(many int) []impl.Wait {
	list := []impl.Wait{}
	for i := range many {
		list = append(list, impl.Wait{At: i * 5 % 64, Text: fmt.Sprintf("w%d%s", i, strings.Repeat("+", i%11))})
	}
	return list
}

// oneCellWaits returns writes to one cell, longer and shorter ones in turn.
func oneCellWaits(at, many int) []impl.Wait {
	list := []impl.Wait{}
	for i := range many {
		list = append(list, impl.Wait{At: at, Text: strings.Repeat(string(rune('A'+i%26)), i*7%31)})
	}
	return list
}

// validDisks returns disks that are not gone.
func validDisks() []namedDisk {
	long, behind := strings.Repeat("l", 200), impl.Wait{At: 9, Text: "behind"}
	return []namedDisk{
		{"new", emptyDisk()},
		{"used", usedDisk()},
		{"one write", waiting(usedDisk(), impl.Wait{At: 9, Text: "another"})},
		{"one empty write", waiting(usedDisk(), impl.Wait{At: 5, Text: ""})},
		{"one longest write", waiting(usedDisk(), impl.Wait{At: 1, Text: long})},
		{"first and last cell", waiting(usedDisk(), impl.Wait{At: 0, Text: "one"}, impl.Wait{At: 63, Text: "two"})},
		{"one behind another", waiting(usedDisk(), impl.Wait{At: 9, Text: "another one"}, behind)},
		{"one behind two others", waiting(usedDisk(), impl.Wait{At: 9, Text: "same"}, impl.Wait{At: 8, Text: long}, behind, impl.Wait{At: 8, Text: ""})},
		{"many writes to one cell", waiting(usedDisk(), oneCellWaits(30, 70)...)},
		{"59 writes", waiting(usedDisk(), manyWaits(59)...)},
		{"61 writes", waiting(emptyDisk(), manyWaits(61)...)},
		{"room for one more", waiting(usedDisk(), manyWaits(119)...)},
		{"as many writes as may wait", waiting(usedDisk(), manyWaits(120)...)},
		{"as many writes to one cell as may wait", waiting(emptyDisk(), oneCellWaits(63, 120)...)},
	}
}

func goneDisk() impl.Disk {
	d := emptyDisk()
	d.Gone = true
	return d
}

func allDisks() []namedDisk {
	return append(validDisks(), namedDisk{"gone", goneDisk()})
}

// changedDisk returns a disk with some change, which leaves the given one as it is.
func changedDisk(d impl.Disk, change func(d *impl.Disk)) impl.Disk {
	d = copyDisk(d)
	change(&d)
	return d
}

// wrongDisks returns disks that are not valid, named by what is not.
func wrongDisks() []namedDisk {
	long := strings.Repeat("x", 201)
	list := []namedDisk{
		{"nothing", impl.Disk{}},
		{"gone without cells", impl.Disk{Gone: true}},
		{"a write without cells", impl.Disk{Waits: []impl.Wait{{}}}},
		{"63 cells", impl.Disk{Cells: make([]string, 63)}},
		{"65 cells", impl.Disk{Cells: make([]string, 65)}},
		{"128 cells", impl.Disk{Cells: make([]string, 128)}},
		{"gone with 63 cells", impl.Disk{Cells: make([]string, 63), Gone: true}},
		{"gone with 65 cells", impl.Disk{Cells: make([]string, 65), Gone: true}},
		{"121 writes", waiting(emptyDisk(), manyWaits(121)...)},
		{"200 writes", waiting(usedDisk(), manyWaits(200)...)},
		{"gone with an empty write", waiting(goneDisk(), impl.Wait{})},
		{"gone with a write", waiting(goneDisk(), impl.Wait{At: 9, Text: "text"})},
		{"gone with 121 writes", waiting(goneDisk(), manyWaits(121)...)},
	}
	for _, at := range []int{0, 1, 31, 62, 63} {
		list = append(list,
			namedDisk{fmt.Sprintf("long text in cell %d", at), changedDisk(usedDisk(), func(d *impl.Disk) { d.Cells[at] = long })},
			namedDisk{fmt.Sprintf("gone with a text in cell %d", at), changedDisk(goneDisk(), func(d *impl.Disk) { d.Cells[at] = "x" })},
		)
	}
	for _, number := range []int{0, 1, 60, 118, 119} {
		full := waiting(usedDisk(), manyWaits(120)...)
		for _, at := range wrongCells() {
			list = append(list, namedDisk{fmt.Sprintf("write %d to cell %d", number, at), changedDisk(full, func(d *impl.Disk) { d.Waits[number].At = at })})
		}
		list = append(list, namedDisk{fmt.Sprintf("long text of write %d", number), changedDisk(full, func(d *impl.Disk) { d.Waits[number].Text = long })})
	}
	return list
}

func wrongCells() []int {
	return []int{-1, 64, 65, -64, 128, 1 << 32, math.MinInt, math.MaxInt}
}

// cellTexts returns texts that a cell may have.
func cellTexts() []string {
	list := []string{strings.Repeat("x", 199), strings.Repeat("y", 200), strings.Repeat("\x00", 200), strings.Repeat("\xff", 150)}
	for _, s := range oddTexts() {
		if len(s) <= 200 {
			list = append(list, s)
		}
	}
	return list
}

func longTexts() []string {
	return []string{strings.Repeat("x", 201), strings.Repeat("\x00", 201), strings.Repeat("x", 256), strings.Repeat("x", 1<<16)}
}

// crashMasks returns masks of none, of all and of some of the writes, with bits that tell of no write, too.
func crashMasks() []int {
	list := []int{0, 1, 2, 3, 5, 6, 1<<60 - 1, 1<<60 - 2, 1 << 59, 1<<59 - 1, 1 << 60, 1<<60 | 1, 1<<62 | 1<<3, math.MaxInt, math.MaxInt - 1, 0x555555555555555, 0x2aaaaaaaaaaaaaa}
	for bit := range 8 {
		list = append(list, 1<<(bit*8))
	}
	return list
}

func crashTears() []int {
	return []int{-1, 0, 1, 2, 3, 31, 58, 59, 60, 61, 62, 63, 118, 119, 120, 121, math.MaxInt, math.MinInt, 1 << 32, -60}
}

// crashedCell tells, byte by byte, what a power failure leaves in a cell.
func crashedCell(d impl.Disk, at, mask, tear int) string {
	bits := fmt.Sprintf("%063b", mask)
	text := d.Cells[at]
	for i, w := range d.Waits {
		number := i
		if number >= 60 {
			number -= 60
		}
		switch {
		case w.At != at:
		case bits[62-number] == '1':
			text = w.Text
		case i == tear:
			mixed := []byte{}
			for k := range max(len(w.Text), len(text)) {
				if 2*k+1 < len(w.Text) {
					mixed = append(mixed, w.Text[k])
				} else if k < len(text) {
					mixed = append(mixed, text[k])
				}
			}
			text = string(mixed)
		}
	}
	return text
}

func crashedDisk(d impl.Disk, mask, tear int) impl.Disk {
	list := []string{}
	for at := range d.Cells {
		list = append(list, crashedCell(d, at, mask, tear))
	}
	return impl.Disk{Cells: list, Gone: d.Gone}
}

// readAll returns what is read of each cell.
func readAll(t *testing.T, name string, d impl.Disk) []string {
	t.Helper()
	list := []string{}
	for at := range 64 {
		text, ok := impl.DiskRead(d, at)
		if !ok {
			t.Errorf("%s: cell %d cannot be read", name, at)
		}
		list = append(list, text)
	}
	return list
}

func TestP19NewDisksAreEmpty(t *testing.T) {
	d := impl.DiskNew()
	if !impl.DiskOk(d) || !sameDisk(d, emptyDisk()) {
		t.Errorf("DiskNew() = %v", d)
	}
	for at, text := range readAll(t, "new", d) {
		if text != "" {
			t.Errorf("cell %d of a new disk has %q", at, text)
		}
	}
}

func TestP20ValidDisksAreFlushed(t *testing.T) {
	for _, c := range allDisks() {
		if !impl.DiskOk(c.disk) {
			t.Errorf("%s: DiskOk is false", c.name)
		}
		if flushed := impl.DiskFlush(c.disk); nothing(flushed) || !impl.DiskOk(flushed) {
			t.Errorf("%s: DiskFlush is no valid disk", c.name)
		}
	}
	for _, c := range wrongDisks() {
		if impl.DiskOk(c.disk) {
			t.Errorf("%s: DiskOk is true", c.name)
		}
		if !nothing(impl.DiskFlush(c.disk)) {
			t.Errorf("%s: DiskFlush is something", c.name)
		}
	}
}

func TestP20EmptySlicesAreLikeNil(t *testing.T) {
	for _, gone := range []bool{false, true} {
		d := impl.Disk{Cells: make([]string, 64), Waits: []impl.Wait{}, Gone: gone}
		if !impl.DiskOk(d) || !sameDisk(impl.DiskFlush(d), d) {
			t.Errorf("gone %v: an empty list of waiting writes is not valid", gone)
		}
	}
	if impl.DiskOk(impl.Disk{Cells: []string{}, Waits: []impl.Wait{}}) {
		t.Errorf("a disk without cells is valid")
	}
}

func TestP21WhatIsReadIsThereBehindDiskFlush(t *testing.T) {
	for _, c := range validDisks() {
		flushed := impl.DiskFlush(c.disk)
		if !slices.Equal(readAll(t, c.name, c.disk), flushed.Cells) {
			t.Errorf("%s: another text is read than is there behind DiskFlush", c.name)
		}
		if !slices.Equal(readAll(t, c.name, flushed), flushed.Cells) {
			t.Errorf("%s: another text is read behind DiskFlush than is there", c.name)
		}
	}
}

func TestP21TheLastWriteToACellIsRead(t *testing.T) {
	d := waiting(usedDisk(), impl.Wait{At: 3, Text: "one"}, impl.Wait{At: 4, Text: "two"}, impl.Wait{At: 3, Text: ""}, impl.Wait{At: 5, Text: "three"})
	for at, want := range map[int]string{0: "first", 2: "cc", 3: "", 4: "two", 5: "three", 6: "gggggg", 63: strings.Repeat("z", 199)} {
		if text, ok := impl.DiskRead(d, at); !ok || text != want {
			t.Errorf("DiskRead of cell %d = %q, %v", at, text, ok)
		}
	}
}

func TestP21NoOtherCellIsRead(t *testing.T) {
	for _, c := range validDisks() {
		for _, at := range wrongCells() {
			if text, ok := impl.DiskRead(c.disk, at); ok || text != "" {
				t.Errorf("%s: DiskRead of cell %d = %q, %v", c.name, at, text, ok)
			}
		}
	}
	for _, c := range wrongDisks() {
		for _, at := range []int{0, 1, 62, 63, -1, 64} {
			if text, ok := impl.DiskRead(c.disk, at); ok || text != "" {
				t.Errorf("%s: DiskRead of cell %d = %q, %v", c.name, at, text, ok)
			}
		}
	}
}

func TestP22WritesWait(t *testing.T) {
	for _, c := range validDisks() {
		if len(c.disk.Waits) == 120 {
			continue
		}
		for _, at := range []int{0, 1, 9, 30, 62, 63} {
			for _, text := range cellTexts() {
				want := readAll(t, c.name, c.disk)
				want[at] = text
				next, ok := impl.DiskWrite(c.disk, at, text)
				if !ok || !sameDisk(next, waiting(c.disk, impl.Wait{At: at, Text: text})) {
					t.Errorf("%s: DiskWrite of %q to cell %d does not just wait, %v", c.name, text, at, ok)
				}
				if !slices.Equal(readAll(t, c.name, next), want) {
					t.Errorf("%s: behind DiskWrite of %q to cell %d something else is read", c.name, text, at)
				}
			}
		}
	}
}

func TestP22WritesThatAreRefusedChangeNothing(t *testing.T) {
	refused := func(c namedDisk, at int, text string) {
		t.Helper()
		if next, ok := impl.DiskWrite(c.disk, at, text); ok || !sameDisk(next, c.disk) {
			t.Errorf("%s: DiskWrite of %d bytes to cell %d: %v, or a change", c.name, len(text), at, ok)
		}
	}
	for _, c := range allDisks() {
		for _, at := range wrongCells() {
			refused(c, at, "text")
			refused(c, at, longTexts()[0])
		}
		for _, text := range longTexts() {
			refused(c, 0, text)
			refused(c, 63, text)
		}
		if c.disk.Gone || len(c.disk.Waits) == 120 {
			refused(c, 0, "")
			refused(c, 63, "text")
		}
	}
}

func TestP22AsManyWritesWaitAsMay(t *testing.T) {
	d := impl.DiskNew()
	for i := range 120 {
		next, ok := impl.DiskWrite(d, i%64, fmt.Sprint(i))
		if !ok || len(next.Waits) != i+1 {
			t.Fatalf("DiskWrite failed behind %d writes", i)
		}
		d = next
	}
	if next, ok := impl.DiskWrite(d, 0, "one more"); ok || !sameDisk(next, d) {
		t.Errorf("DiskWrite took one more")
	}
	if next, ok := impl.DiskWrite(impl.DiskFlush(d), 0, "one more"); !ok || len(next.Waits) != 1 {
		t.Errorf("DiskWrite took none behind DiskFlush")
	}
}

func TestP22NothingIsWrittenToWrongDisks(t *testing.T) {
	for _, c := range wrongDisks() {
		for _, at := range []int{0, 63, -1, 64} {
			if next, ok := impl.DiskWrite(c.disk, at, "text"); ok || !nothing(next) {
				t.Errorf("%s: DiskWrite to cell %d is %v, or something", c.name, at, ok)
			}
		}
	}
}

func TestP23DiskFlushDoesAllThatWaits(t *testing.T) {
	for _, c := range allDisks() {
		flushed := impl.DiskFlush(c.disk)
		if !sameDisk(flushed, crashedDisk(c.disk, 1<<60-1, -1)) {
			t.Errorf("%s: DiskFlush did not write all in order", c.name)
		}
		for _, mask := range []int{1<<60 - 1, math.MaxInt, math.MaxInt ^ 1<<60} {
			for _, tear := range crashTears() {
				if !sameDisk(impl.DiskCrash(c.disk, mask, tear), flushed) {
					t.Errorf("%s: DiskCrash with mask %d and tear %d is not DiskFlush", c.name, mask, tear)
				}
			}
		}
		if !sameDisk(impl.DiskFlush(flushed), flushed) {
			t.Errorf("%s: a second DiskFlush changes something", c.name)
		}
	}
}

func TestP24FailuresDoWhatTheMaskAndTheTearTell(t *testing.T) {
	for _, c := range allDisks() {
		for _, mask := range crashMasks() {
			for _, tear := range crashTears() {
				crashed := impl.DiskCrash(c.disk, mask, tear)
				if !sameDisk(crashed, crashedDisk(c.disk, mask, tear)) || !impl.DiskOk(crashed) {
					t.Errorf("%s: DiskCrash with mask %d and tear %d leaves something else", c.name, mask, tear)
				}
			}
		}
	}
}

func TestP24BehindAFailureNothingWaits(t *testing.T) {
	for _, c := range allDisks() {
		to := map[int]bool{}
		for _, w := range c.disk.Waits {
			to[w.At] = true
		}
		for _, mask := range crashMasks() {
			for _, tear := range crashTears() {
				crashed := impl.DiskCrash(c.disk, mask, tear)
				if len(crashed.Waits) != 0 {
					t.Errorf("%s: behind DiskCrash with mask %d and tear %d something waits", c.name, mask, tear)
				}
				for at, text := range c.disk.Cells {
					if !to[at] && crashed.Cells[at] != text {
						t.Errorf("%s: DiskCrash with mask %d and tear %d changed cell %d", c.name, mask, tear, at)
					}
				}
				if !sameDisk(impl.DiskCrash(crashed, mask, tear), crashed) {
					t.Errorf("%s: a second DiskCrash with mask %d and tear %d changes something", c.name, mask, tear)
				}
			}
		}
	}
}

func TestP24WithoutAnyWriteDoneOrTornAllIsAsItWas(t *testing.T) {
	for _, c := range allDisks() {
		for _, mask := range []int{0, 1 << 60, 1 << 61, 1 << 62, 7 << 60} {
			for _, tear := range []int{-1, -2, -60, len(c.disk.Waits), 120, 180, math.MaxInt, math.MinInt} {
				crashed := impl.DiskCrash(c.disk, mask, tear)
				if !sameDisk(crashed, impl.Disk{Cells: c.disk.Cells, Gone: c.disk.Gone}) {
					t.Errorf("%s: DiskCrash with mask %d and tear %d changed something", c.name, mask, tear)
				}
			}
		}
	}
}

func TestP24EachBitIsThatOfTwoWrites(t *testing.T) {
	d := emptyDisk()
	for i := range 120 {
		d.Waits = append(d.Waits, impl.Wait{At: i % 64, Text: fmt.Sprint(i)})
	}
	for bit := range 60 {
		want := emptyDisk()
		want.Cells[bit] = fmt.Sprint(bit)
		want.Cells[(bit+60)%64] = fmt.Sprint(bit + 60)
		if !sameDisk(impl.DiskCrash(d, 1<<bit, -1), want) {
			t.Errorf("bit %d does not do the writes %d and %d alone", bit, bit, bit+60)
		}
	}
}

func TestP24NoFailureOfWrongDisksOrWithNegativeMasks(t *testing.T) {
	for _, c := range wrongDisks() {
		for _, mask := range []int{0, 1, 1<<60 - 1, -1} {
			if !nothing(impl.DiskCrash(c.disk, mask, 0)) {
				t.Errorf("%s: DiskCrash with mask %d is something", c.name, mask)
			}
		}
	}
	for _, c := range allDisks() {
		for _, mask := range []int{-1, -2, -60, -1 << 60, math.MinInt, math.MinInt + 1} {
			for _, tear := range []int{-1, 0, 1} {
				if !nothing(impl.DiskCrash(c.disk, mask, tear)) {
					t.Errorf("%s: DiskCrash with mask %d is something", c.name, mask)
				}
			}
		}
	}
}
