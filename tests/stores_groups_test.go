package tests

import (
	"fmt"
	"slices"
	"testing"

	"loop.example/poolfiles/impl"
)

// nextByHand tells what StoreNext returns of a valid store, but in the last group, in another way than the program does: row by row, by how many references to it are in Gone.
func nextByHand(st impl.Store) impl.Store {
	return changedStore(st, func(st *impl.Store) {
		for _, at := range blockRows() {
			for _, p := range st.Gone {
				if p.At == at {
					st.Space.Refs[at]--
				}
			}
			if st.Space.Refs[at] == 0 {
				st.Rows[at], st.Space.Last[at] = "", 0
			}
		}
		st.Gone = nil
		st.Txg++
	})
}

// emptyRows returns how many rows for blocks of a store are empty.
func emptyRows(st impl.Store) int {
	many := 0
	for _, text := range st.Rows[8:] {
		if text == "" {
			many++
		}
	}
	return many
}

func TestP57TheNextGroup(t *testing.T) {
	for _, c := range validStores() {
		next, ok := impl.StoreNext(c.store)
		if c.store.Txg == 900 {
			if ok || !noStore(next) {
				t.Errorf("%s: StoreNext in the last group is %v, %v", c.name, next, ok)
			}
			continue
		}
		if !ok || !sameStore(next, nextByHand(c.store)) || !impl.StoreOk(next) || len(next.Gone) != 0 {
			t.Fatalf("%s: StoreNext is %v, or another store", c.name, ok)
		}
		for at, text := range next.Rows {
			if next.Space.Refs[at] > 0 && text != c.store.Rows[at] {
				t.Errorf("%s: StoreNext changes row %d", c.name, at)
			}
		}
		if _, told := impl.StoreRoom(c.store); roomIn(next) != told {
			t.Errorf("%s: behind StoreNext the room is %d instead of %d", c.name, roomIn(next), told)
		}
	}
}

func TestP57WhatIsLeftOfRows(t *testing.T) {
	row := heldRow{63, "text", 3, 7}
	cases := []struct {
		name string
		gone []impl.Ptr
		keep int
		dead []impl.Ptr
		refs int
	}{
		{"nothing in Gone", nil, 0, nil, 3},
		{"all in Gone", refsTo(63, 5, 6, 7), 0, nil, 0},
		{"one in Gone", refsTo(63, 8), 0, nil, 2},
		{"two in Gone", refsTo(63, 1, 2), 8, nil, 1},
		{"all in Dead", nil, 3, refsTo(63, 1, 2, 3), 3},
		{"some in Gone, the others in Dead", refsTo(63, 7), 3, refsTo(63, 1, 3), 2},
		{"some in Gone, one in Dead", refsTo(63, 7), 3, refsTo(63, 3), 2},
	}
	for _, c := range cases {
		st := withGiven(storeWith(9, heldRow{8, "other", 1, 9}, row), c.gone, c.keep, c.dead)
		want := withGiven(storeWith(10, heldRow{8, "other", 1, 9}), nil, c.keep, c.dead)
		free := 55
		if c.refs > 0 {
			want.Rows[63], want.Space.Refs[63], want.Space.Last[63] = "text", c.refs, 7
			free = 54
		}
		next, ok := impl.StoreNext(st)
		if !ok || !sameStore(next, want) {
			t.Errorf("%s: StoreNext is %v, %v", c.name, next, ok)
		}
		if now, later := impl.StoreRoom(st); now != 54 || later != free {
			t.Errorf("%s: StoreRoom is %d and %d instead of 54 and %d", c.name, now, later, free)
		}
	}
}

func TestP57FromTheFirstGroupToTheLast(t *testing.T) {
	for _, same := range []bool{false, true} {
		st := impl.StoreNew(same)
		for txg := 2; txg <= 900; txg++ {
			want := emptyStore(txg)
			want.Same = same
			next, ok := impl.StoreNext(st)
			if !ok || !sameStore(next, want) {
				t.Fatalf("StoreNext to group %d is %v", txg, ok)
			}
			st = next
		}
		if next, ok := impl.StoreNext(st); ok || !noStore(next) {
			t.Errorf("StoreNext from the last group is %v, %v", next, ok)
		}
	}
}

func TestP57StoreNextFailsWithNothing(t *testing.T) {
	for _, c := range wrongStores() {
		if next, ok := impl.StoreNext(c.store); ok || !noStore(next) {
			t.Errorf("%s: StoreNext is %v", c.name, ok)
		}
	}
}

func TestP58RoomNowAndInTheNextGroup(t *testing.T) {
	for _, c := range validStores() {
		// In the last group, too, what is in Gone tells what would be free.
		now, next := impl.StoreRoom(c.store)
		if want := emptyRows(nextByHand(c.store)); now != emptyRows(c.store) || next != want {
			t.Errorf("%s: StoreRoom is %d and %d instead of %d and %d", c.name, now, next, emptyRows(c.store), want)
		}
		if behind, ok := impl.StoreNext(c.store); ok && roomIn(behind) != next {
			t.Errorf("%s: behind StoreNext the room is %d instead of %d", c.name, roomIn(behind), next)
		}
	}
}

func TestP58RowsThatAreFreeOnlyInTheNextGroup(t *testing.T) {
	for _, txg := range []int{2, 9, 899, 900} {
		st := fullStore(txg)
		for i, at := range blockRows() {
			if now, next := impl.StoreRoom(st); now != 0 || next != i {
				t.Fatalf("in group %d StoreRoom is %d and %d with %d rows in Gone", txg, now, next, i)
			}
			st.Space.Refs[at], st.Space.Last[at] = 1, 1
			st.Gone = append(st.Gone, refTo(at, 1))
		}
		if now, next := impl.StoreRoom(st); now != 0 || next != 56 {
			t.Errorf("in group %d StoreRoom is %d and %d with all rows in Gone", txg, now, next)
		}
		st.Space.Refs[8], st.Space.Last[8] = 2, 2
		st.Space.Refs[63], st.Space.Last[63] = 2, 2
		if now, next := impl.StoreRoom(st); now != 0 || next != 54 {
			t.Errorf("in group %d StoreRoom is %d and %d with two rows in Gone once of two times", txg, now, next)
		}
	}
}

// readsAs checks what StoreRead returns.
func readsAs(t *testing.T, when string, st impl.Store, p impl.Ptr, text string, there bool) {
	t.Helper()
	if got, ok := impl.StoreRead(st, p); ok != there || got != text {
		t.Errorf("%s: StoreRead of %v is %q, %v instead of %q, %v", when, p, got, ok, text, there)
	}
}

// nextGroup is the store in the next group, which there must be.
func nextGroup(t *testing.T, st impl.Store) impl.Store {
	t.Helper()
	next, ok := impl.StoreNext(st)
	if !ok {
		t.Fatalf("StoreNext from group %d fails", st.Txg)
	}
	return next
}

// stored writes a text to a store at level 0, which must be done.
func stored(t *testing.T, st impl.Store, text string) (impl.Store, impl.Ptr) {
	t.Helper()
	next, p, ok := impl.StoreWrite(st, text, 0)
	if !ok {
		t.Fatalf("StoreWrite of %q in group %d fails", text, st.Txg)
	}
	return next, p
}

// givenUp gives a pointer up, which must be done.
func givenUp(t *testing.T, st impl.Store, p impl.Ptr) impl.Store {
	t.Helper()
	next, ok := impl.StoreFree(st, p)
	if !ok {
		t.Fatalf("StoreFree of %v in group %d fails", p, st.Txg)
	}
	return next
}

func TestP60GivenUpInTheGroupBehind(t *testing.T) {
	for _, txg := range []int{1, 2, 9, 898} {
		st, p := stored(t, emptyStore(txg), "text")
		st = givenUp(t, nextGroup(t, st), p)
		readsAs(t, "given up", st, p, "text", true)
		// Its row is not written to as long as this group is open.
		st, other := stored(t, st, "other")
		readsAs(t, "another one written", st, p, "text", true)
		if now, next := impl.StoreRoom(st); other.At == p.At || now != 54 || next != 55 {
			t.Errorf("behind %v in Gone %v is written, and StoreRoom is %d and %d", p, other, now, next)
		}
		st = nextGroup(t, st)
		readsAs(t, "in the next group", st, p, "", false)
		readsAs(t, "the other one", st, other, "other", true)
		if !slices.Contains(freeRows(st.Space), p.At) || st.Rows[p.At] != "" || roomIn(st) != 55 {
			t.Errorf("in the next group row %d is not free", p.At)
		}
		if _, again := stored(t, st, "new"); again.At != p.At {
			t.Errorf("in the next group row %d is not written to", p.At)
		}
	}
}

func TestP60TheLastRowGivenUp(t *testing.T) {
	full, p := stored(t, fullStore(4, 63), "text")
	st := givenUp(t, nextGroup(t, full), p)
	readsAs(t, "given up", st, p, "text", true)
	refused(t, namedStore{"given up", st}, "other", 0)
	st = nextGroup(t, st)
	readsAs(t, "in the next group", st, p, "", false)
	if _, other := stored(t, st, "other"); p.At != 63 || other.At != 63 {
		t.Errorf("%v is written behind %v", other, p)
	}
}

func TestP60SharedRowsStay(t *testing.T) {
	st, first := stored(t, impl.StoreNew(true), "text")
	st, second := stored(t, nextGroup(t, st), "text")
	st = nextGroup(t, st)
	for _, order := range [][]impl.Ptr{{first, second}, {second, first}} {
		left := givenUp(t, st, order[0])
		readsAs(t, "one given up", left, order[1], "text", true)
		left = nextGroup(t, left)
		readsAs(t, "one given up, in the next group", left, order[0], "text", true)
		readsAs(t, "the other one", left, order[1], "text", true)
		if roomIn(left) != 55 || left.Space.Refs[8] != 1 {
			t.Errorf("the row of %v is not used once", order[1])
		}
		left = givenUp(t, left, order[1])
		readsAs(t, "both given up", left, order[1], "text", true)
		left = nextGroup(t, left)
		readsAs(t, "both given up, in the next group", left, order[1], "", false)
		if roomIn(left) != 56 {
			t.Errorf("the row of %v is not free", order[1])
		}
	}
	both := nextGroup(t, givenUp(t, givenUp(t, st, first), second))
	readsAs(t, "both given up in one group", both, first, "", false)
}

func TestP60GivenUpInItsOwnGroup(t *testing.T) {
	st, p := stored(t, emptyStore(3), "text")
	st, other := stored(t, st, "other")
	st = givenUp(t, st, p)
	readsAs(t, "given up at once", st, p, "", false)
	readsAs(t, "the other one", st, other, "other", true)
	if now, next := impl.StoreRoom(st); now != 55 || next != 55 || len(st.Gone) != 0 {
		t.Errorf("StoreRoom is %d and %d", now, next)
	}
	if _, again := stored(t, st, "new"); again.At != p.At {
		t.Errorf("%v is written behind %v, which was given up at once", again, p)
	}
}

func TestP60KeptBlocksStay(t *testing.T) {
	st, p := stored(t, emptyStore(3), "text")
	st = nextGroup(t, st)
	st, q := stored(t, st, "later")
	st = nextGroup(t, st)
	st.Keep = 3
	st = givenUp(t, givenUp(t, st, p), q)
	if !slices.Equal(st.Dead, []impl.Ptr{p}) || !slices.Equal(st.Gone, []impl.Ptr{q}) {
		t.Fatalf("Dead is %v and Gone %v", st.Dead, st.Gone)
	}
	for txg := 6; txg <= 9; txg++ {
		st = nextGroup(t, st)
		when := fmt.Sprint("in group ", txg)
		readsAs(t, when, st, p, "text", true)
		readsAs(t, when, st, q, "", false)
		if !slices.Equal(st.Dead, []impl.Ptr{p}) || st.Keep != 3 || roomIn(st) != 55 {
			t.Errorf("%s: Dead is %v", when, st.Dead)
		}
	}
}
