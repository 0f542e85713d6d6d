package tests

import (
	"math"
	"slices"
	"strings"
	"testing"

	"loop.example/poolfiles/impl"
)

// writtenByHand tells what StoreWrite returns of a valid store in another way than the program does: from the numbers of all rows that the text could go to.
func writtenByHand(st impl.Store, text string, level int) (impl.Store, impl.Ptr, bool) {
	rows := slices.DeleteFunc(blockRows(), func(at int) bool {
		refs, last := st.Space.Refs[at], st.Space.Last[at]
		return !st.Same || level != 0 || refs == 0 || st.Rows[at] != text || last >= st.Txg || refs >= st.Txg
	})
	rows = append(rows, freeRows(st.Space)...)
	if len(rows) == 0 {
		return impl.Store{}, impl.Ptr{}, false
	}
	at := rows[0]
	next := changedStore(st, func(st *impl.Store) {
		st.Rows[at] = text
		st.Space.Refs[at]++
		st.Space.Last[at] = st.Txg
	})
	return next, toBlock(at, st.Txg, level, text), true
}

// textsFor returns blocks that are written to a store: some that it has, and others.
func textsFor(st impl.Store) []string {
	list := append(scatteredTexts(), "same", "x", "last", "\xff", strings.Repeat("\xff", 128), "none has it")
	for _, at := range []int{8, 9, 30, 62, 63} {
		if text := st.Rows[at]; text != "" {
			list = append(list, text)
		}
	}
	return list
}

// rowsAsBefore reports whether each row that was used in a store has the same text in the next one.
func rowsAsBefore(st, next impl.Store) bool {
	for _, at := range blockRows() {
		if st.Space.Refs[at] > 0 && next.Rows[at] != st.Rows[at] {
			return false
		}
	}
	return true
}

// roomIn returns how many rows of a store are free.
func roomIn(st impl.Store) int {
	now, _ := impl.StoreRoom(st)
	return now
}

// checkWrite checks what StoreWrite returns of a valid store, and whether it told a pointer.
func checkWrite(t *testing.T, c namedStore, text string, level int) bool {
	t.Helper()
	want, pointer, fine := writtenByHand(c.store, text, level)
	next, p, ok := impl.StoreWrite(c.store, text, level)
	if ok != fine || p != pointer || !sameStore(next, want) {
		t.Errorf("%s: StoreWrite of %.20q at level %d is %v, %v instead of %v, %v, or another store", c.name, text, level, p, ok, pointer, fine)
		return false
	}
	if !ok {
		return false
	}
	if !impl.StoreOk(next) || !rowsAsBefore(c.store, next) || p.Birth != c.store.Txg {
		t.Errorf("%s: behind StoreWrite of %.20q at level %d the store is not valid, or has other rows", c.name, text, level)
	}
	if got, ok := impl.StoreRead(next, p); !ok || got != text {
		t.Errorf("%s: what StoreWrite wrote of %.20q is %.20q, %v", c.name, text, got, ok)
	}
	back, ok := impl.StoreFree(next, p)
	if !ok || !impl.StoreOk(back) || roomIn(back) != roomIn(c.store) {
		t.Errorf("%s: behind StoreWrite and StoreFree of %.20q there is another room, %v", c.name, text, ok)
	}
	return true
}

func TestP55WhatIsWrittenIsRead(t *testing.T) {
	many := 0
	for _, c := range validStores() {
		for _, text := range textsFor(c.store) {
			for level := range 3 {
				if checkWrite(t, c, text, level) {
					many++
				}
			}
		}
	}
	if many < 1000 {
		t.Errorf("just %d texts were written", many)
	}
}

func TestP55AllBlocksAreWritten(t *testing.T) {
	for _, st := range []impl.Store{emptyStore(1), withSame(emptyStore(900)), fullStore(7, 63)} {
		for _, text := range append(blocks(), sizedBlocks()...) {
			next, p, ok := impl.StoreWrite(st, text, 0)
			if got, read := impl.StoreRead(next, p); !ok || !read || got != text {
				t.Errorf("%d bytes are written and read as %d bytes, %v, %v", len(text), len(got), ok, read)
			}
		}
	}
}

func TestP55RowsAreFilledInOrder(t *testing.T) {
	for _, same := range []bool{false, true} {
		st := impl.StoreNew(same)
		for _, at := range blockRows() {
			next, p, ok := impl.StoreWrite(st, "text", 0)
			if !ok || p != toBlock(at, 1, 0, "text") || roomIn(next) != 63-at || !impl.StoreOk(next) {
				t.Fatalf("with Same %v, to row %d: StoreWrite tells %v, %v", same, at, p, ok)
			}
			st = next
		}
		if next, p, ok := impl.StoreWrite(st, "text", 0); ok || p != (impl.Ptr{}) || !noStore(next) {
			t.Errorf("with Same %v: StoreWrite to a full store tells %v, %v", same, p, ok)
		}
	}
}

func TestP55RowsThatAreWrittenTo(t *testing.T) {
	cases := []struct {
		name  string
		store impl.Store
		level int
		at    int
	}{
		{"the first row", emptyStore(5), 0, 8},
		{"the last row alone free", fullStore(5, 63), 0, 63},
		{"the first row alone free", fullStore(5, 8), 2, 8},
		{"the first one of some", fullStore(5, 62, 30, 63), 1, 30},
		{"a row that is free only in the next group", withGiven(storeWith(5, heldRow{8, "x", 1, 3}), refsTo(8, 3), 0, nil), 0, 9},
	}
	for _, c := range cases {
		next, p, ok := impl.StoreWrite(c.store, "text", c.level)
		want := changedStore(c.store, func(st *impl.Store) {
			st.Rows[c.at], st.Space.Refs[c.at], st.Space.Last[c.at] = "text", 1, 5
		})
		if !ok || p != toBlock(c.at, 5, c.level, "text") || !sameStore(next, want) {
			t.Errorf("%s: StoreWrite tells %v, %v, or another store", c.name, p, ok)
		}
	}
}

// refused checks that StoreWrite fails with nothing.
func refused(t *testing.T, c namedStore, text string, level int) {
	t.Helper()
	if next, p, ok := impl.StoreWrite(c.store, text, level); ok || p != (impl.Ptr{}) || !noStore(next) {
		t.Errorf("%s: StoreWrite of %d bytes at level %d tells %v, %v", c.name, len(text), level, p, ok)
	}
}

func TestP55WhatIsNotWritten(t *testing.T) {
	for _, c := range validStores() {
		for _, text := range noBlocks() {
			for _, level := range []int{0, 1, 2, 3, -1} {
				refused(t, c, text, level)
			}
		}
		for _, text := range []string{"a", longBlock(), "same", "x", c.store.Rows[63]} {
			for _, level := range []int{-1, 3, 4, -2, 256, math.MinInt, math.MaxInt, math.MaxUint32 + 1} {
				refused(t, c, text, level)
			}
		}
	}
	for _, c := range wrongStores() {
		for _, text := range []string{"a", longBlock(), "text", ""} {
			for _, level := range []int{0, 2, 3} {
				refused(t, c, text, level)
			}
		}
	}
}

func TestP55NoFreeRow(t *testing.T) {
	for _, base := range []namedStore{{"full", fullStore(5)}, {"full in the first group", fullStore(1)}} {
		for _, st := range []impl.Store{base.store, withSame(base.store)} {
			for level := range 3 {
				refused(t, namedStore{base.name, st}, "none has it", level)
			}
			// Since this group, or at another level, the text is not shared.
			st.Rows[63], st.Space.Refs[63], st.Space.Last[63] = "text", 1, st.Txg
			refused(t, namedStore{base.name, st}, "text", 0)
			st.Space.Last[63] = max(1, st.Txg-1)
			refused(t, namedStore{base.name, st}, "text", 1)
		}
	}
	// A row whose references are all in Gone is not free in this group.
	gone := withGiven(fullStore(9, 63), nil, 0, nil)
	gone.Rows[63], gone.Space.Refs[63], gone.Space.Last[63], gone.Gone = "text", 1, 3, refsTo(63, 3)
	refused(t, namedStore{"all used, one in Gone", gone}, "text", 0)
	refused(t, namedStore{"all used, one in Gone, with Same", withSame(gone)}, "text", 1)
}

// lackingRows returns valid stores with Same that have a text in one row since an earlier group, and so much room.
func lackingRows(at, refs, last, txg int) []impl.Store {
	full := withSame(fullStore(txg))
	full.Rows[at], full.Space.Refs[at], full.Space.Last[at] = "text", refs, last
	return []impl.Store{withSame(storeWith(txg, heldRow{at, "text", refs, last})), full}
}

func TestP61SameTextsTakeNoFreeRow(t *testing.T) {
	for _, at := range []int{8, 9, 30, 62, 63} {
		for _, row := range [][3]int{{1, 1, 2}, {1, 1, 900}, {1, 4, 5}, {3, 4, 5}, {4, 4, 5}, {899, 899, 900}, {1, 899, 900}, {898, 899, 900}} {
			refs, last, txg := row[0], row[1], row[2]
			for _, st := range lackingRows(at, refs, last, txg) {
				next, p, ok := impl.StoreWrite(st, "text", 0)
				want := changedStore(st, func(st *impl.Store) { st.Space.Refs[at], st.Space.Last[at] = refs+1, txg })
				if !ok || p != toBlock(at, txg, 0, "text") || !sameStore(next, want) || !impl.StoreOk(next) {
					t.Errorf("StoreWrite of a text that row %d has in %v tells %v, %v", at, row, p, ok)
				}
				if roomIn(next) != roomIn(st) {
					t.Errorf("StoreWrite of a text that row %d has in %v takes a free row", at, row)
				}
			}
		}
	}
}

func TestP61SameTextsThatAreWrittenAgain(t *testing.T) {
	earlier, now, none := heldRow{20, "text", 2, 4}, heldRow{20, "text", 2, 5}, heldRow{20, "texts", 2, 4}
	cases := []struct {
		name  string
		store impl.Store
		level int
		at    int
	}{
		{"since an earlier group", withSame(storeWith(5, earlier)), 0, 20},
		{"without Same", storeWith(5, earlier), 0, 8},
		{"at level 1", withSame(storeWith(5, earlier)), 1, 8},
		{"at level 2", withSame(storeWith(5, earlier)), 2, 8},
		{"since this group", withSame(storeWith(5, now)), 0, 8},
		{"another text", withSame(storeWith(5, none)), 0, 8},
		{"the first one of two", withSame(storeWith(5, earlier, heldRow{19, "text", 1, 1})), 0, 19},
		{"the one that is not since this group", withSame(storeWith(5, now, heldRow{30, "text", 1, 4})), 0, 30},
		{"the last row", withSame(storeWith(5, now, heldRow{63, "text", 4, 4})), 0, 63},
		{"all since this group", withSame(storeWith(5, now, heldRow{30, "text", 1, 5}, heldRow{8, "x", 1, 1})), 0, 9},
		{"all references in Gone", withSame(withGiven(storeWith(5, earlier), refsTo(20, 2, 4), 0, nil)), 0, 20},
		{"all references in Dead", withSame(withGiven(storeWith(5, earlier), nil, 4, refsTo(20, 2, 4))), 0, 20},
	}
	for _, c := range cases {
		next, p, ok := impl.StoreWrite(c.store, "text", c.level)
		if !ok || p != toBlock(c.at, 5, c.level, "text") || next.Space.Refs[c.at] != c.store.Space.Refs[c.at]+1 || !impl.StoreOk(next) {
			t.Errorf("%s: StoreWrite tells %v, %v", c.name, p, ok)
		}
		if taken := roomIn(c.store) - roomIn(next); taken != 0 && c.store.Rows[c.at] != "" || taken != 1 && c.store.Rows[c.at] == "" {
			t.Errorf("%s: StoreWrite takes %d free rows", c.name, taken)
		}
	}
}

func TestP61SameTextsAtOtherLevels(t *testing.T) {
	// Rows do not tell levels: contents are shared with a row that a block of pointers was written to.
	for first := range 3 {
		st, _, _ := impl.StoreWrite(impl.StoreNew(true), "text", first)
		st, _ = impl.StoreNext(st)
		for level := range 3 {
			at := 9
			if level == 0 {
				at = 8
			}
			if _, p, ok := impl.StoreWrite(st, "text", level); !ok || p != toBlock(at, 2, level, "text") {
				t.Errorf("behind level %d StoreWrite at level %d tells %v, %v", first, level, p, ok)
			}
		}
	}
}

func TestP61OneReferenceInEachGroup(t *testing.T) {
	st, p, _ := impl.StoreWrite(impl.StoreNew(true), "text", 0)
	for txg := 2; txg <= 900; txg++ {
		next, ok := impl.StoreNext(st)
		if !ok || next.Txg != txg {
			t.Fatalf("StoreNext to group %d is %v", txg, ok)
		}
		st, p, ok = impl.StoreWrite(next, "text", 0)
		if !ok || p != toBlock(8, txg, 0, "text") || st.Space.Refs[8] != txg || roomIn(st) != 55 {
			t.Fatalf("in group %d StoreWrite tells %v, %v", txg, p, ok)
		}
		// A second one in this group has a row of its own.
		if _, p, ok := impl.StoreWrite(st, "text", 0); !ok || p != toBlock(9, txg, 0, "text") {
			t.Fatalf("the second StoreWrite in group %d tells %v, %v", txg, p, ok)
		}
	}
}
