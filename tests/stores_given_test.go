package tests

import (
	"fmt"
	"math"
	"slices"
	"testing"

	"loop.example/poolfiles/impl"
)

// givenByHand tells what StoreFree returns of a valid store and a valid pointer in another way than the program does: by what may be the case, one by one.
func givenByHand(st impl.Store, p impl.Ptr) (impl.Store, bool) {
	if p == (impl.Ptr{}) {
		return copyStore(st), true
	}
	if p.Birth > st.Txg || slices.Contains(freeRows(st.Space), p.At) {
		return impl.Store{}, false
	}
	return changedStore(st, func(st *impl.Store) {
		if p.Birth == st.Txg {
			st.Space.Refs[p.At]--
		}
		if st.Space.Refs[p.At] == 0 {
			st.Rows[p.At], st.Space.Last[p.At] = "", 0
		}
		if p.Birth < st.Txg && p.Birth > st.Keep {
			st.Gone = append(st.Gone, p)
		}
		if p.Birth < st.Txg && p.Birth <= st.Keep {
			st.Dead = append(st.Dead, p)
		}
	}), true
}

// birthsFor returns groups in which a pointer that is given up in a store may be born: ahead of Keep, around it, around the open group, and the last ones.
func birthsFor(st impl.Store) []int {
	list := []int{1, 2, 899, 900}
	for _, birth := range []int{st.Keep - 1, st.Keep, st.Keep + 1, st.Txg - 1, st.Txg, st.Txg + 1} {
		if birth >= 1 && birth <= 900 {
			list = append(list, birth)
		}
	}
	slices.Sort(list)
	return slices.Compact(list)
}

func TestP56WhatIsGivenUp(t *testing.T) {
	many := map[bool]int{}
	for _, c := range validStores() {
		for _, at := range blockRows() {
			for i, birth := range birthsFor(c.store) {
				// What is given up is not read, so that it need not fit.
				p := refTo(at, birth)
				if text := c.store.Rows[at]; text != "" && i%2 == 0 {
					p = toBlock(at, birth, i%3, text)
				}
				want, fine := givenByHand(c.store, p)
				many[fine]++
				if next, ok := impl.StoreFree(c.store, p); ok != fine || !sameStore(next, want) {
					t.Fatalf("%s: StoreFree of %v is %v instead of %v, or another store", c.name, p, ok, fine)
				}
			}
		}
	}
	if many[true] < 1000 || many[false] < 1000 {
		t.Errorf("just %d pointers were given up, and %d were not", many[true], many[false])
	}
}

func TestP56RowsOfEarlierGroupsStay(t *testing.T) {
	for _, c := range validStores() {
		for _, at := range blockRows() {
			for _, birth := range birthsFor(c.store) {
				if birth >= c.store.Txg || c.store.Space.Refs[at] == 0 {
					continue
				}
				next, ok := impl.StoreFree(c.store, toBlock(at, birth, 0, c.store.Rows[at]))
				if !ok || !slices.Equal(next.Rows, c.store.Rows) || !sameSpace(next.Space, c.store.Space) || next.Txg != c.store.Txg {
					t.Fatalf("%s: StoreFree of a pointer to row %d, born in %d, changes rows, %v", c.name, at, birth, ok)
				}
			}
		}
	}
}

func TestP56RowsOfEarlierGroupsStayBehindThoseOfThisOne(t *testing.T) {
	for _, c := range validStores() {
		st, pointers := c.store, []impl.Ptr{}
		for i, text := range textsFor(c.store) {
			if next, p, ok := impl.StoreWrite(st, text, i%3); ok {
				st, pointers = next, append(pointers, p)
			}
		}
		for _, p := range pointers {
			next, ok := impl.StoreFree(st, p)
			if !ok || !rowsAsBefore(c.store, next) || !impl.StoreOk(next) {
				t.Fatalf("%s: StoreFree of %v is %v, or changes a row that was used", c.name, p, ok)
			}
			st = next
		}
		if !slices.Equal(st.Rows, c.store.Rows) || !slices.Equal(st.Space.Refs, c.store.Space.Refs) {
			t.Errorf("%s: when all that was written is given up, there are other rows", c.name)
		}
	}
}

func TestP56WhereWhatIsGivenUpIsPut(t *testing.T) {
	// Rows with so many references: row 8 just one, row 63 three.
	st := withGiven(storeWith(7, heldRow{8, "a", 1, 7}, heldRow{63, "text", 3, 7}), refsTo(63, 6), 3, refsTo(63, 2))
	cases := []struct {
		name       string
		p          impl.Ptr
		gone, dead []impl.Ptr
		refs, last [2]int
	}{
		{"a hole", impl.Ptr{}, nil, nil, [2]int{1, 3}, [2]int{7, 7}},
		{"born in the first group", refTo(63, 1), nil, refsTo(63, 1), [2]int{1, 3}, [2]int{7, 7}},
		{"born in the group of Keep", refTo(63, 3), nil, refsTo(63, 3), [2]int{1, 3}, [2]int{7, 7}},
		{"born just behind Keep", refTo(63, 4), refsTo(63, 4), nil, [2]int{1, 3}, [2]int{7, 7}},
		{"born in the group before", refTo(63, 6), refsTo(63, 6), nil, [2]int{1, 3}, [2]int{7, 7}},
		{"born in this group, one of several", refTo(63, 7), nil, nil, [2]int{1, 2}, [2]int{7, 7}},
		{"born in this group, the only one", refTo(8, 7), nil, nil, [2]int{0, 3}, [2]int{0, 7}},
	}
	for _, c := range cases {
		want := changedStore(st, func(st *impl.Store) {
			st.Gone, st.Dead = append(st.Gone, c.gone...), append(st.Dead, c.dead...)
			st.Space.Refs[8], st.Space.Refs[63] = c.refs[0], c.refs[1]
			st.Space.Last[8], st.Space.Last[63] = c.last[0], c.last[1]
			if c.refs[0] == 0 {
				st.Rows[8] = ""
			}
		})
		next, ok := impl.StoreFree(st, c.p)
		if !ok || !sameStore(next, want) || !impl.StoreOk(next) {
			t.Errorf("%s: StoreFree is %v, or another store", c.name, ok)
		}
	}
	for _, p := range []impl.Ptr{refTo(63, 8), refTo(63, 900), refTo(8, 8), refTo(9, 3), refTo(9, 7), refTo(62, 1), refTo(62, 8)} {
		if next, ok := impl.StoreFree(st, p); ok || !noStore(next) {
			t.Errorf("StoreFree of %v, which is none of the store, is %v", p, ok)
		}
	}
}

func TestP56StoreFreeFailsWithNothing(t *testing.T) {
	fails := func(c namedStore, p impl.Ptr) {
		t.Helper()
		if next, ok := impl.StoreFree(c.store, p); ok || !noStore(next) {
			t.Errorf("%s: StoreFree of %v is %v", c.name, p, ok)
		}
	}
	for _, c := range validStores() {
		for _, p := range wrongPointers() {
			fails(c, p)
		}
		for _, at := range append(wrongRowsForBlocks(), freeRows(c.store.Space)...) {
			fails(c, toBlock(at, 1, 0, "a"))
			fails(c, toBlock(at, c.store.Txg, 0, "a"))
		}
		for at, text := range c.store.Rows {
			if text == "" {
				continue
			}
			for _, birth := range []int{c.store.Txg + 1, 901, 0, -1, math.MinInt, math.MaxInt} {
				fails(c, toBlock(at, birth, 0, text))
			}
		}
	}
	for _, c := range wrongStores() {
		fails(c, impl.Ptr{})
		for _, at := range []int{8, 30, 63} {
			for _, birth := range []int{1, 3, 5, 900} {
				fails(c, toBlock(at, birth, 0, "text"))
			}
		}
	}
}

func TestP56OneMoreThanThereAre(t *testing.T) {
	// The document refuses none of these, though the store is not valid then: more was given up than the row has.
	row := heldRow{63, "text", 1, 3}
	for i, c := range []struct {
		store impl.Store
		p     impl.Ptr
	}{
		{withGiven(storeWith(5, row), refsTo(63, 3), 0, nil), refTo(63, 3)},
		{withGiven(storeWith(5, row), refsTo(63, 3), 2, nil), refTo(63, 2)},
		{withGiven(storeWith(5, row), refsTo(63, 3), 0, nil), refTo(63, 5)},
		{withGiven(storeWith(5, row), nil, 3, refsTo(63, 3)), refTo(63, 5)},
	} {
		want, _ := givenByHand(c.store, c.p)
		next, ok := impl.StoreFree(c.store, c.p)
		if !ok || !sameStore(next, want) || impl.StoreOk(next) || !impl.StoreOk(c.store) {
			t.Errorf("pointer %d: StoreFree is %v, or another store", i, ok)
		}
	}
}

func TestP59WrittenAndGivenUp(t *testing.T) {
	many := 0
	for _, c := range validStores() {
		for _, text := range textsFor(c.store) {
			for level := range 3 {
				next, p, ok := impl.StoreWrite(c.store, text, level)
				if !ok {
					continue
				}
				many++
				back, ok := impl.StoreFree(next, p)
				want := changedStore(c.store, func(st *impl.Store) {
					// The group of the reference that was given up stays in a row that others lead to.
					if st.Space.Refs[p.At] > 0 {
						st.Space.Last[p.At] = st.Txg
					}
				})
				if !ok || !sameStore(back, want) || !impl.StoreOk(back) {
					t.Fatalf("%s: behind StoreWrite of %.20q at level %d and StoreFree there are other rows, %v", c.name, text, level, ok)
				}
			}
		}
	}
	if many < 1000 {
		t.Errorf("just %d texts were written", many)
	}
}

func TestP59AfterSharingThereIsNoSecondReferenceInTheGroup(t *testing.T) {
	st := withSame(storeWith(5, heldRow{8, "text", 1, 4}))
	st, p, _ := impl.StoreWrite(st, "text", 0)
	st, ok := impl.StoreFree(st, p)
	if !ok || p.At != 8 || !sameSpace(st.Space, spaceWith(usedRow{8, 1, 5})) {
		t.Fatalf("StoreFree of %v leaves %v, %v", p, st.Space, ok)
	}
	// Last of the row is not below the open group then.
	if _, p, ok := impl.StoreWrite(st, "text", 0); !ok || p != toBlock(9, 5, 0, "text") {
		t.Errorf("the next StoreWrite of the text tells %v, %v", p, ok)
	}
}

func TestP59ManyWrittenAndGivenUpInEitherOrder(t *testing.T) {
	for _, same := range []bool{false, true} {
		for _, back := range []bool{false, true} {
			st := storeWith(3, heldRow{8, "a", 1, 2}, heldRow{63, "b", 2, 2})
			st.Same = same
			before, pointers := copyStore(st), []impl.Ptr{}
			for i := range 50 {
				next, p, ok := impl.StoreWrite(st, []string{"a", "b", fmt.Sprint("text ", i)}[i%3], 0)
				if !ok {
					t.Fatalf("StoreWrite %d fails", i)
				}
				st, pointers = next, append(pointers, p)
			}
			if back {
				slices.Reverse(pointers)
			}
			for _, p := range pointers {
				next, ok := impl.StoreFree(st, p)
				if !ok || !impl.StoreOk(next) {
					t.Fatalf("StoreFree of %v is %v", p, ok)
				}
				st = next
			}
			if !slices.Equal(st.Rows, before.Rows) || !slices.Equal(st.Space.Refs, before.Space.Refs) || len(st.Gone)+len(st.Dead) != 0 {
				t.Errorf("with Same %v: there are other rows behind all", same)
			}
		}
	}
}
