package tests

import (
	"fmt"
	"math/rand"
	"slices"
	"strings"
	"testing"

	"loop.example/poolfiles/impl"
)

// longColumn is a text that is as long as a cell may be, and so no column.
func longColumn() string {
	return strings.Repeat("L", 200)
}

// writtenRaid is disks on which a block was written to a row and flushed.
func writtenRaid(t *testing.T, r impl.Raid, row int, block string) impl.Raid {
	t.Helper()
	next, ok := impl.RaidWrite(r, row, block)
	if !ok {
		t.Fatalf("RaidWrite of %q to row %d failed", block, row)
	}
	return impl.RaidFlush(next)
}

// insteadOf returns texts that may be in a cell instead of a column, and the column itself.
func insteadOf(column string) []string {
	list := []string{"", "x", longColumn(), scramble(len(column), 77), column + "x", "x" + column, column + column}
	if column != "" {
		list = append(list, column[1:], column[:len(column)-1])
	}
	for at := range len(column) {
		list = append(list, column[:at]+string([]byte{column[at] ^ 0x10})+column[at+1:])
	}
	return append(list, column)
}

func TestP41BehindAnyTextInOneCellTheBlockIsRead(t *testing.T) {
	for i, block := range []string{"a", "\x00", "ab", "abc", "abcd", scramble(9, 1), scramble(64, 2), scramble(127, 3), scramble(128, 4)} {
		row := []int{8, 9, 62, 63}[i%4]
		r, p := writtenRaid(t, storedRaid(), row, block), pointerTo(t, row, block)
		for number, column := range columnsByHand(block) {
			for _, text := range insteadOf(column) {
				d, ok := impl.DiskSpoil(r.Disks[number], row, text)
				if !ok {
					t.Fatalf("DiskSpoil of row %d failed", row)
				}
				spoilt := raidOf(slices.Replace(slices.Clone(r.Disks), number, number+1, d)...)
				readWith(t, fmt.Sprintf("disk %d has %q", number, text), spoilt, p, block)
				want, many := copyRaid(r), 0
				if text != column {
					want, many = copyRaid(spoilt), 1
					want.Disks[number].Waits = []impl.Wait{{At: row, Text: column}}
				}
				healed, written, ok := impl.RaidHeal(spoilt, p)
				if !ok || written != many || !sameRaid(healed, want) {
					t.Errorf("disk %d has %q: RaidHeal = %d, %v", number, text, written, ok)
				}
				if !sameRaid(impl.RaidFlush(healed), r) {
					t.Errorf("disk %d has %q: RaidHeal does not bring back what was there", number, text)
				}
			}
		}
	}
}

func TestP41UnlessAWayGivesAnotherTextThatFits(t *testing.T) {
	r, p := writtenRaid(t, impl.RaidNew(), 20, "bcbbcb"), pointerTo(t, 20, "bcbbcb")
	cases := []struct {
		number       int
		text, read   string
		whole, wrong []string
	}{
		{0, "cac", "cacbcb", []string{"cac", "bcb", "\x01\x02\x01"}, []string{"cac", "bcb", "\x00\x00\x00"}},
		{1, "cac", "bcbcac", []string{"bcb", "cac", "\x01\x02\x01"}, []string{"bcb", "cac", "\x00\x00\x00"}},
	}
	for _, c := range cases {
		spoilt := spoiltRaid(r, c.number, 20, c.text)
		readWith(t, "another text that fits", spoilt, p, c.read)
		healed, many, ok := impl.RaidHeal(spoilt, p)
		if !ok || many != 1 || len(healed.Disks[2].Waits) != 1 {
			t.Errorf("disk %d: RaidHeal = %d, %v", c.number, many, ok)
		}
		for number, column := range c.whole {
			if now := impl.RaidFlush(healed).Disks[number].Cells[20]; now != column || spoilt.Disks[number].Cells[20] != c.wrong[number] {
				t.Errorf("disk %d: behind RaidHeal disk %d has %q", c.number, number, now)
			}
		}
	}
}

func TestP41TwoBadColumnsAreTooMany(t *testing.T) {
	for row, block := range storedBlocks() {
		for _, two := range [][2]int{{0, 1}, {0, 2}, {1, 2}} {
			r := storedRaid()
			for _, number := range two {
				r = spoiltRaid(r, number, row, longColumn())
			}
			p := pointerTo(t, row, block)
			if text, ok := impl.RaidRead(r, p); ok || text != "" {
				t.Errorf("with bad columns %v RaidRead of %v = %q, %v", two, p, text, ok)
			}
			if next, many, ok := impl.RaidHeal(r, p); ok || many != 0 || !noRaid(next) {
				t.Errorf("with bad columns %v RaidHeal of %v = %d, %v", two, p, many, ok)
			}
		}
	}
}

func TestP42ABlockIsReadBehindAFailureOfAWriteToAnotherRow(t *testing.T) {
	for row, block := range storedBlocks() {
		r := writtenRaid(t, storedRaid(), row, block)
		p := pointerTo(t, row, block)
		for _, other := range []int{8, row - 1, row + 1, 63} {
			if other == row || other < 8 || other > 63 {
				continue
			}
			next, ok := impl.RaidWrite(r, other, scramble(128, row))
			if !ok {
				t.Fatalf("RaidWrite to row %d failed", other)
			}
			for _, crash := range crashesOf([]int{0, 1, 2, 3, 1<<60 - 1, 1 << 60}, []int{-1, 0, 1, 2, 60}) {
				crashed := impl.RaidCrash(next, crash[0], crash[1])
				readWith(t, fmt.Sprintf("row %d failed with %v", other, crash), crashed, p, block)
				for lost := range 3 {
					readWith(t, fmt.Sprintf("row %d failed with %v, then without %d", other, crash, lost), lostDisks(crashed, lost), p, block)
				}
			}
		}
	}
}

func TestP42WhatAFailureLeavesOfTheRowItself(t *testing.T) {
	r := writtenRaid(t, impl.RaidNew(), 20, "abcdefgh")
	next, _ := impl.RaidWrite(r, 20, "QRSTzyxw")
	cases := []struct {
		masks, tears []int
		text         string
	}{
		{[]int{0, 0, 0}, []int{-1, -1, -1}, "abcdefgh"},
		{[]int{1, 0, 0}, []int{-1, -1, -1}, "abcdefgh"},
		{[]int{0, 1, 0}, []int{-1, -1, -1}, "abcdefgh"},
		{[]int{0, 0, 1}, []int{-1, -1, -1}, "abcdefgh"},
		{[]int{1, 1, 0}, []int{-1, -1, -1}, "QRSTzyxw"},
		{[]int{1, 0, 1}, []int{-1, -1, -1}, "QRSTzyxw"},
		{[]int{0, 1, 1}, []int{-1, -1, -1}, "QRSTzyxw"},
		{[]int{1, 1, 1}, []int{0, 0, 0}, "QRSTzyxw"},
		{[]int{0, 0, 0}, []int{0, -1, -1}, "abcdefgh"},
		{[]int{0, 0, 0}, []int{-1, 0, 1}, "abcdefgh"},
		{[]int{1, 1, 0}, []int{-1, -1, 0}, "QRSTzyxw"},
		{[]int{0, 1, 1}, []int{0, -1, -1}, "QRSTzyxw"},
		{[]int{1, 0, 0}, []int{-1, 0, -1}, ""},
		{[]int{0, 0, 0}, []int{0, 0, 0}, ""},
	}
	for _, c := range cases {
		crashed := impl.RaidCrash(next, c.masks, c.tears)
		for _, block := range []string{"abcdefgh", "QRSTzyxw"} {
			text, ok := impl.RaidRead(crashed, pointerTo(t, 20, block))
			if ok != (block == c.text) || ok && text != block || !ok && text != "" {
				t.Errorf("behind %v, %v RaidRead of %q = %q, %v", c.masks, c.tears, block, text, ok)
			}
		}
	}
}

// raidStep does one thing to disks by the program, and by hand, and reports whether both are the same.
func raidStep(r impl.Raid, random *rand.Rand) (impl.Raid, bool) {
	row, number := random.Intn(60)+5, random.Intn(4)
	block := scramble(random.Intn(130), random.Intn(1000))
	fine := row >= 8 && row <= 63 && len(block) >= 1 && len(block) <= 128
	switch random.Intn(60) {
	case 0:
		return impl.RaidFlush(r), sameRaid(impl.RaidFlush(r), crashedByHand(r, []int{-1 &^ (-1 << 60), -1 &^ (-1 << 60), -1 &^ (-1 << 60)}, []int{-1, -1, -1}))
	case 1:
		masks := []int{int(random.Int63()), int(random.Int63()), int(random.Int63())}
		tears := []int{random.Intn(130) - 5, random.Intn(130) - 5, random.Intn(130) - 5}
		crashed := impl.RaidCrash(r, masks, tears)
		return crashed, sameRaid(crashed, crashedByHand(r, masks, tears))
	case 2:
		gone := slices.IndexFunc(r.Disks, func(d impl.Disk) bool { return d.Gone })
		if gone >= 0 {
			// A new disk takes the place of the one that is gone.
			back := copyRaid(r)
			back.Disks[gone] = emptyDisk()
			return back, true
		}
		less, ok := impl.RaidLose(r, number)
		if number == 3 {
			return r, !ok && noRaid(less)
		}
		return less, ok && sameRaid(less, lostDisks(r, number))
	}
	next, ok := impl.RaidWrite(r, row, block)
	if fine && takesAll(r) {
		return next, ok && sameRaid(next, waitingRaid(r, row, block))
	}
	return r, !ok && noRaid(next)
}

// crashedByHand tells disks behind a power failure.
func crashedByHand(r impl.Raid, masks, tears []int) impl.Raid {
	list := []impl.Disk{}
	for number, d := range r.Disks {
		list = append(list, crashedDisk(d, masks[number], tears[number]))
	}
	return raidOf(list...)
}

func TestP35P36P37P39ManySteps(t *testing.T) {
	read, healed := 0, 0
	for seed := range int64(10) {
		random := rand.New(rand.NewSource(seed))
		r := impl.RaidNew()
		pointers := map[int]impl.Ptr{}
		for step := range 200 {
			next, ok := raidStep(r, random)
			if !ok {
				t.Fatalf("seed %d, step %d: another result", seed, step)
			}
			r = next
			if p, ok := lastPointer(t, r); ok {
				pointers[p.At] = p
			}
			for _, p := range pointers {
				text, ok := impl.RaidRead(r, p)
				want, there := readByHand(r, p)
				if ok != there || text != want {
					t.Fatalf("seed %d, step %d: RaidRead of %v = %q, %v", seed, step, p, text, ok)
				}
				if ok {
					read++
				}
				healed += healStep(t, r, p, want, there)
			}
		}
	}
	if read < 10000 || healed < 300 {
		t.Errorf("%d texts were read, %d columns healed", read, healed)
	}
}

// lastPointer is a pointer to the block that waits last on the first two disks, if there is one.
func lastPointer(t *testing.T, r impl.Raid) (impl.Ptr, bool) {
	t.Helper()
	waits := r.Disks[0].Waits
	if len(waits) == 0 || r.Disks[1].Gone {
		return impl.Ptr{}, false
	}
	row := waits[len(waits)-1].At
	latest := latestByHand(r, row)
	return pointerTo(t, row, *latest[0]+*latest[1]), true
}

// healStep checks RaidHeal of a pointer, and tells how many columns it wrote.
func healStep(t *testing.T, r impl.Raid, p impl.Ptr, block string, there bool) int {
	t.Helper()
	want, many := impl.Raid{}, 0
	if there {
		want, many = healedByHand(r, p.At, block)
		if !impl.RaidOk(want) {
			want, many, there = impl.Raid{}, 0, false
		}
	}
	next, written, ok := impl.RaidHeal(r, p)
	if ok != there || written != many || !sameRaid(next, want) {
		t.Fatalf("RaidHeal of %v = %d, %v, or another result", p, written, ok)
	}
	return written
}

// raidResults returns all sets of disks that come of one by the functions.
func raidResults(r impl.Raid, masks, tears []int, p impl.Ptr) []impl.Raid {
	written, _ := impl.RaidWrite(r, 20, "abc")
	healed, _, _ := impl.RaidHeal(r, p)
	list := []impl.Raid{impl.RaidNew(), impl.RaidNew(), written, healed, impl.RaidFlush(r), impl.RaidFlush(r), impl.RaidCrash(r, masks, tears)}
	for disk := range 3 {
		less, _ := impl.RaidLose(r, disk)
		list = append(list, less)
	}
	return list
}

// wideRaid is disks with room behind each slice, in which a result might be kept.
func wideRaid(r impl.Raid) impl.Raid {
	wide := impl.Raid{Disks: make([]impl.Disk, 0, 9)}
	for _, d := range r.Disks {
		wide.Disks = append(wide.Disks, impl.Disk{
			Cells: append(make([]string, 0, 200), d.Cells...), Waits: append(make([]impl.Wait, 0, 200), d.Waits...), Gone: d.Gone,
		})
	}
	return wide
}

func TestRaidsShareNoMemory(t *testing.T) {
	block := scramble(127, 4)
	p := pointerTo(t, 62, block)
	for _, c := range validRaids() {
		r, masks, tears := wideRaid(c.raid), []int{0, 5, 7}, []int{0, 1, -1}
		results := raidResults(r, masks, tears, p)
		impl.RaidRead(r, p)
		if !sameRaid(r, c.raid) || !slices.Equal(masks, []int{0, 5, 7}) || !slices.Equal(tears, []int{0, 1, -1}) {
			t.Errorf("%s: an argument was changed", c.name)
		}
		for _, d := range r.Disks {
			if !nothingBehind(d) {
				t.Errorf("%s: something was written behind a slice", c.name)
			}
		}
		for i, result := range results {
			again := raidResults(c.raid, masks, tears, p)
			for number, d := range result.Disks {
				scrawl(d)
				for other := number + 1; other < len(result.Disks); other++ {
					if !sameDisk(result.Disks[other], again[i].Disks[other]) {
						t.Fatalf("%s: disks %d and %d of result %d share memory", c.name, number, other, i)
					}
				}
			}
			clear(result.Disks[:cap(result.Disks)])
			if !sameRaid(r, c.raid) {
				t.Fatalf("%s: result %d shares memory with the argument", c.name, i)
			}
			for k := i + 1; k < len(results); k++ {
				if !sameRaid(results[k], again[k]) {
					t.Fatalf("%s: results %d and %d share memory", c.name, i, k)
				}
			}
		}
	}
}
