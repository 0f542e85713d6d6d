package tests

import (
	"fmt"
	"slices"
	"testing"

	"loop.example/poolfiles/impl"
)

// leaveFree is a store in which all free rows but some have other blocks.
func leaveFree(st impl.Store, many int) impl.Store {
	return changedStore(st, func(st *impl.Store) {
		for i, at := range freeRows(st.Space) {
			if i >= many {
				st.Rows[at], st.Space.Refs[at], st.Space.Last[at] = fmt.Sprint("row ", at), 1, 1
			}
		}
	})
}

func TestP65FreeRowsThatAPutNeeds(t *testing.T) {
	full, none := fullTexts, func(many int) []string { return make([]string, many) }
	just := func(many, k int) []string { return placeTexts(many, func(place int) bool { return place == k }) }
	cases := []struct {
		texts []string
		k     int
		text  string
		rows  int
	}{
		{nil, 0, "new", 1}, {nil, 1, "new", 2}, {nil, 3, "new", 2}, {nil, 4, "new", 3}, {nil, 15, "new", 3},
		{nil, 0, "", 0}, {nil, 3, "", 0}, {nil, 15, "", 0},
		{full(1), 0, "new", 1}, {full(1), 0, "", 0}, {full(1), 1, "new", 2}, {full(1), 3, "", 1}, {full(1), 4, "new", 4}, {full(1), 15, "new", 4}, {full(1), 15, "", 2},
		{none(1), 0, "new", 1}, {none(1), 3, "", 0}, {none(1), 4, "new", 3},
		{full(2), 0, "new", 2}, {full(2), 1, "", 1}, {full(2), 3, "new", 2}, {full(2), 3, "", 0}, {just(2, 1), 1, "", 0},
		{full(4), 3, "new", 2}, {full(4), 4, "new", 4}, {full(4), 4, "", 2}, {full(4), 15, "new", 4}, {full(4), 15, "", 2}, {none(4), 4, "new", 3}, {none(4), 15, "", 0},
		{full(5), 4, "new", 3}, {full(5), 4, "", 1}, {full(5), 0, "new", 3}, {full(5), 5, "new", 3}, {full(5), 8, "new", 3}, {full(5), 15, "", 0},
		{full(16), 0, "new", 3}, {full(16), 15, "new", 3}, {full(16), 15, "", 2}, {just(16, 9), 9, "", 0}, {just(16, 9), 8, "new", 3}, {just(16, 9), 0, "new", 3},
	}
	for _, c := range cases {
		g := grown("", c.texts, mixedBirths())
		when := fmt.Sprintf("TreePut of %q to place %d of %d", c.text, c.k, len(c.texts))
		if c.rows > 0 {
			next, tree, ok := impl.TreePut(leaveFree(g.store, c.rows-1), g.tree, c.k, c.text)
			noTree(t, fmt.Sprintf("%s with %d free rows", when, c.rows-1), next, tree, ok)
		}
		next, tree, ok := impl.TreePut(leaveFree(g.store, c.rows), g.tree, c.k, c.text)
		if !ok || roomIn(next) != 0 {
			t.Fatalf("%s with %d free rows is %v, and leaves %d", when, c.rows, ok, roomIn(next))
		}
		hasTexts(t, when, next, tree, behindPut(c.texts, c.k, c.text))
	}
}

func TestP65FreeRowsForAllPuts(t *testing.T) {
	for _, c := range someTrees() {
		for rows := range 5 {
			c.store = leaveFree(c.store, rows)
			for k := range 16 {
				checkPut(t, c, k, "new")
				checkPut(t, c, k, "")
			}
		}
	}
}

func TestP66FreeRowsThatACutNeeds(t *testing.T) {
	cases := []struct {
		texts      []string
		many, rows int
	}{
		{fullTexts(16), 16, 0}, {fullTexts(16), 15, 2}, {fullTexts(16), 13, 2}, {fullTexts(16), 12, 1}, {fullTexts(16), 8, 1}, {fullTexts(16), 5, 2}, {fullTexts(16), 4, 1},
		{fullTexts(16), 2, 1}, {fullTexts(16), 1, 0}, {fullTexts(16), 0, 0}, {fullTexts(5), 4, 1}, {fullTexts(5), 1, 0}, {fullTexts(4), 3, 1}, {fullTexts(4), 1, 0},
		{fullTexts(3), 0, 0}, {fullTexts(1), 0, 0}, {make([]string, 16), 3, 0}, {make([]string, 5), 4, 0}, {placeTexts(16, func(k int) bool { return k < 5 }), 5, 0},
		{placeTexts(16, func(k int) bool { return k < 5 }), 4, 1}, {placeTexts(16, func(k int) bool { return k > 4 }), 4, 0}, {placeTexts(4, func(k int) bool { return k < 2 }), 2, 0},
	}
	for _, c := range cases {
		g := grown("", c.texts, mixedBirths())
		when := fmt.Sprintf("TreeCut of %d places to %d", len(c.texts), c.many)
		if c.rows > 0 {
			next, tree, ok := impl.TreeCut(leaveFree(g.store, c.rows-1), g.tree, c.many)
			noTree(t, fmt.Sprintf("%s with %d free rows", when, c.rows-1), next, tree, ok)
		}
		next, tree, ok := impl.TreeCut(leaveFree(g.store, c.rows), g.tree, c.many)
		if !ok || roomIn(next) != 0 {
			t.Fatalf("%s with %d free rows is %v, and leaves %d", when, c.rows, ok, roomIn(next))
		}
		hasTexts(t, when, next, tree, c.texts[:c.many])
	}
	for _, c := range someTrees() {
		for rows := range 4 {
			c.store = leaveFree(c.store, rows)
			for many := range c.tree.Many + 1 {
				checkCut(t, c, many)
			}
		}
	}
}

func TestP65TextsThatRowsHaveAlready(t *testing.T) {
	c := grown("", []string{"a", "b", "c"}, mixedBirths())
	row := c.leaves()[1].At
	for _, same := range []bool{false, true} {
		c.store.Same = same
		next, tree, ok := impl.TreePut(c.store, c.tree, 2, "b")
		leaves, _ := impl.TreeLeaves(next, tree)
		want := toBlock(8, 7, 0, "b")
		if same {
			want.At = row
		}
		if !ok || leaves[2] != want || leaves[1] != c.leaves()[1] {
			t.Errorf("with Same %v: the same text is put to %v, %v", same, leaves, ok)
		}
		// With Same just the row of the indirect block is needed.
		needed := map[bool]int{false: 2, true: 1}[same]
		_, _, ok = impl.TreePut(leaveFree(c.store, needed), c.tree, 2, "b")
		if next, tree, less := impl.TreePut(leaveFree(c.store, needed-1), c.tree, 2, "b"); !ok || less || !noStore(next) || tree != (impl.Tree{}) {
			t.Errorf("with Same %v: another number of rows than %d is needed, %v, %v", same, needed, ok, less)
		}
	}
}

func TestP65TheSameTextInManyPlaces(t *testing.T) {
	for _, same := range []bool{false, true} {
		st, tree := impl.StoreNew(same), impl.Tree{}
		for k := range 16 {
			next, changed, ok := impl.TreePut(st, tree, k, "same")
			if !ok {
				t.Fatalf("TreePut to place %d fails", k)
			}
			st, tree = nextGroup(t, next), changed
		}
		hasTexts(t, "the same text in all places", st, tree, slices.Repeat([]string{"same"}, 16))
		if want := map[bool]int{false: 21, true: 6}[same]; 56-roomIn(st) != want || refsIn(st.Space) != 21 {
			t.Errorf("with Same %v: %d rows are used by %d references", same, 56-roomIn(st), refsIn(st.Space))
		}
		for k := range 16 {
			next, changed, ok := impl.TreePut(st, tree, k, "")
			if !ok {
				t.Fatalf("TreePut of a hole to place %d fails", k)
			}
			st, tree = nextGroup(t, next), changed
		}
		if tree != (impl.Tree{Depth: 2, Many: 16}) || roomIn(st) != 56 {
			t.Errorf("with Same %v: %v is left, and %d rows are free", same, tree, roomIn(st))
		}
	}
}

// agedTree is a tree of 16 places in group 9, the pointers of which were made in all groups up to that.
func agedTree(keep int) grownTree {
	g := gardener{store: emptyStore(9)}
	c := g.grow("", fullTexts(16), births{of: func(level, i int) int {
		switch level {
		case 0:
			return 1 + (i*5)%(6+i/4)
		case 1:
			return 6 + i
		default:
			return 9
		}
	}})
	c.store.Keep = keep
	return c
}

// givenIn tells the references of a list, in order, that are put to Gone and to Dead when they are given up in a store.
func givenIn(st impl.Store, list []impl.Ptr) (gone, dead []impl.Ptr) {
	for _, p := range list {
		switch {
		case p.Birth <= st.Keep:
			dead = append(dead, p)
		case p.Birth < st.Txg:
			gone = append(gone, p)
		}
	}
	return gone, dead
}

// checkGiven checks that just the pointers of a list were given up, in order, and where they were put.
func checkGiven(t *testing.T, when string, st, next impl.Store, list []impl.Ptr) {
	t.Helper()
	gone, dead := givenIn(st, list)
	if !slices.Equal(next.Gone, gone) || !slices.Equal(next.Dead, dead) || next.Keep != st.Keep || next.Txg != st.Txg {
		t.Errorf("%s: Gone is %v and Dead %v instead of %v and %v", when, next.Gone, next.Dead, gone, dead)
	}
	for _, p := range list {
		if _, ok := impl.StoreRead(next, p); p.Birth == st.Txg && ok && next.Rows[p.At] == st.Rows[p.At] {
			t.Errorf("%s: %v, born in this group, is still there", when, p)
		}
	}
}

func TestP66TheOrderInWhichBlocksAreGivenUp(t *testing.T) {
	for keep := range 9 {
		c := agedTree(keep)
		if !impl.TreeOk(c.store, c.tree) {
			t.Fatalf("the tree of the test is not valid")
		}
		above := append([]impl.Ptr{c.tree.Root}, c.levels[1]...)
		for many := range 16 {
			when := fmt.Sprintf("Keep %d, TreeCut to %d", keep, many)
			next, _, ok := impl.TreeCut(c.store, c.tree, many)
			stays := 0
			if many > 4 {
				stays = many / 4
			}
			list := slices.Concat(above[:1], above[1+stays:], c.leaves()[many:])
			if !ok {
				t.Fatalf("%s fails", when)
			}
			checkGiven(t, when, c.store, next, list)
		}
	}
}

func TestP65TheOrderInWhichBlocksAreGivenUp(t *testing.T) {
	for keep := range 9 {
		c := agedTree(keep)
		for k := range 16 {
			for _, text := range []string{"new", ""} {
				next, tree, ok := impl.TreePut(c.store, c.tree, k, text)
				if !ok {
					t.Fatalf("TreePut to place %d fails", k)
				}
				checkGiven(t, fmt.Sprintf("Keep %d, TreePut to %d", keep, k), c.store, next, []impl.Ptr{c.tree.Root, c.levels[1][k/4], c.leaves()[k]})
				// The other indirect blocks stay where they are.
				for j, p := range aboveIn(t, next, tree) {
					if (p == c.levels[1][j]) != (j != k/4) {
						t.Errorf("Keep %d, TreePut to %d: indirect block %d is %v", keep, k, j, p)
					}
				}
			}
		}
	}
}

// aboveIn returns the pointers of the root of a tree.
func aboveIn(t *testing.T, st impl.Store, tree impl.Tree) []impl.Ptr {
	t.Helper()
	text, _ := impl.StoreRead(st, tree.Root)
	list, ok := impl.FanGet(text)
	if !ok {
		t.Errorf("the root of %v leads to no indirect block", tree)
	}
	return list
}

func TestP65BlocksOfThisGroupAreFreeAtOnce(t *testing.T) {
	// A tree that is changed again and again in one group needs no more rows than one change.
	for _, many := range []int{1, 4, 16} {
		c := grown("", fullTexts(many), manyBirths()[0])
		for i := range 100 {
			next, tree, ok := impl.TreePut(c.store, c.tree, i*7%many, fmt.Sprint("text ", i))
			if !ok || len(next.Gone)+len(next.Dead) > 0 || roomIn(next) != roomIn(c.store) {
				t.Fatalf("%d places, put %d: %v, %d rows are free instead of %d", many, i, ok, roomIn(next), roomIn(c.store))
			}
			c.store, c.tree = next, tree
		}
	}
}

func TestP65SharedRowsStay(t *testing.T) {
	// The row of place 0 has a second reference, which is not given up with the first one.
	for _, birth := range []int{3, 7} {
		c := grown("", []string{"a", "b"}, births{of: func(level, _ int) int { return birth }})
		row := c.leaves()[0].At
		c.store.Space.Refs[row] = 2
		next, _, ok := impl.TreePut(c.store, c.tree, 0, "")
		if !ok || nextGroup(t, next).Space.Refs[row] != 1 || nextGroup(t, next).Rows[row] != "a" {
			t.Errorf("born in %d: a row with two references is free behind one was given up, %v", birth, ok)
		}
	}
}
