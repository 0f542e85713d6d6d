package tests

import (
	"fmt"
	"math/rand"
	"slices"
	"strings"
	"testing"

	"loop.example/poolfiles/impl"
)

// alikeTexts returns two texts of so many pieces each, the last one being short, of which some first pieces are alike and all others not.
func alikeTexts(one, two, alike int) (string, string) {
	made := func(many, seed int) string {
		list := []string{}
		for k := range many {
			if k >= alike {
				k += seed
			}
			list = append(list, scramble(128, 1+k))
		}
		return strings.Join(list, "")
	}
	return made(one, 100), made(two, 200)
}

// checkRows checks that BlobPut needs just so many free rows.
func checkRows(t *testing.T, c grownTree, text string, rows int) {
	t.Helper()
	when := fmt.Sprintf("%s: BlobPut of %d bytes", c.name, len(text))
	for less := range rows {
		next, tree, ok := impl.BlobPut(leaveFree(c.store, less), c.tree, text)
		noTree(t, fmt.Sprintf("%s with %d free rows", when, less), next, tree, ok)
	}
	st := leaveFree(c.store, rows)
	next, tree, ok := impl.BlobPut(st, c.tree, text)
	got, is := impl.BlobGet(next, tree)
	if !ok || !is || got != text || !rowsAsBefore(st, next) {
		t.Errorf("%s with %d free rows is %v, %v, and %d bytes are read", when, rows, ok, is, len(got))
	}
}

func TestP73FreeRowsForNewTexts(t *testing.T) {
	// The rows of so many pieces, of what is above them, and of what is there in between.
	needed := []int{0, 1, 3, 5, 6, 9, 11, 12, 13, 14, 16, 17, 18, 19, 21, 22, 23}
	for many, rows := range needed {
		_, text := alikeTexts(0, many, 0)
		for _, size := range []int{len(text), len(text) - 127} {
			if size >= 0 {
				checkRows(t, grown("empty", nil, mixedBirths()), text[:size], rows)
			}
		}
	}
}

func TestP73FreeRowsForOtherTexts(t *testing.T) {
	cases := []struct{ one, two, alike, rows int }{
		// All is as it was.
		{1, 1, 1, 0}, {5, 5, 5, 0}, {16, 16, 16, 0},
		// Fewer pieces, all as they were: just the cut needs rows, for what is above the places.
		{16, 15, 15, 2}, {16, 12, 12, 1}, {16, 5, 5, 2}, {16, 4, 4, 1}, {16, 2, 2, 1}, {16, 1, 1, 0}, {16, 0, 0, 0}, {5, 4, 4, 1}, {4, 3, 3, 1}, {2, 1, 1, 0}, {1, 0, 0, 0},
		// Fewer pieces, the last one being another: what was put to it is still there when the tree is cut.
		{16, 4, 3, 4}, {16, 2, 1, 4}, {16, 1, 0, 3}, {5, 4, 3, 4}, {5, 1, 0, 3}, {4, 3, 2, 3}, {4, 1, 0, 2}, {2, 1, 0, 2}, {16, 15, 14, 5}, {16, 12, 11, 4},
		// As many pieces, the last ones being others.
		{1, 1, 0, 1}, {2, 2, 1, 2}, {4, 4, 2, 4}, {4, 4, 0, 6}, {5, 5, 4, 3}, {16, 16, 15, 3}, {16, 16, 14, 6}, {16, 16, 12, 8}, {16, 16, 0, 23},
		// More pieces.
		{0, 1, 0, 1}, {1, 2, 1, 2}, {1, 2, 0, 3}, {1, 5, 1, 8}, {4, 5, 4, 4}, {4, 5, 3, 6}, {15, 16, 15, 3}, {12, 13, 12, 3}, {5, 16, 5, 17},
	}
	for _, c := range cases {
		one, two := alikeTexts(c.one, c.two, c.alike)
		g := keptTree(one, mixedBirths())
		g.name = fmt.Sprintf("%d pieces and %d, %d alike", c.one, c.two, c.alike)
		checkRows(t, g, two, c.rows)
	}
}

func TestP73EachNumberOfFreeRows(t *testing.T) {
	done, failed := 0, 0
	random := rand.New(rand.NewSource(4))
	for i := range 30 {
		many := random.Intn(17)
		one, two := alikeTexts(many, random.Intn(17), random.Intn(many+1))
		c := keptTree(one, manyBirths()[i%4])
		c.store.Same, c.store.Keep = i%3 == 0, i%7
		whole := c.store
		for rows := range 24 {
			c.store = leaveFree(whole, rows)
			if checkKeep(t, c, two) {
				done++
			} else {
				failed++
			}
		}
	}
	if done < 150 || failed < 150 {
		t.Errorf("there was room %d times, and none %d times", done, failed)
	}
}

func TestP73TheEmptyTextInAFullStore(t *testing.T) {
	for _, trees := range [][]grownTree{keptTrees(), brokenTrees(), someTrees()} {
		for _, c := range trees {
			c.store = leaveFree(c.store, 0)
			next, tree, ok := impl.BlobPut(c.store, c.tree, "")
			if !ok || tree != (impl.Tree{}) || !impl.StoreOk(next) {
				t.Errorf("%s: BlobPut of the empty text is %v, %v", c.name, tree, ok)
			}
			checkGiven(t, c.name, c.store, withGiven(next, next.Gone[len(c.store.Gone):], next.Keep, next.Dead[len(c.store.Dead):]), givenOrder(c))
		}
	}
}

// givenOrder returns all pointers of a tree in the order in which they are given up if no place stays: what is above the places, the root first, and then the places.
func givenOrder(c grownTree) []impl.Ptr {
	above := slices.DeleteFunc(c.all(), func(p impl.Ptr) bool { return p.Level == 0 })
	places := slices.DeleteFunc(c.all(), func(p impl.Ptr) bool { return p.Level > 0 })
	return slices.Concat(above, places)
}

func TestP73TextsThatRowsHaveAlready(t *testing.T) {
	piece := longBlock()
	for _, same := range []bool{false, true} {
		start := storeWith(7, heldRow{20, piece, 1, 3}, heldRow{21, "x", 1, 7})
		start.Same = same
		st, tree, ok := impl.BlobPut(start, impl.Tree{}, strings.Repeat(piece, 3)+"x")
		leaves, _ := impl.TreeLeaves(st, tree)
		// The row of an earlier group gets one more reference, but just one in this group.
		want := []impl.Ptr{toBlock(8, 7, 0, piece), toBlock(9, 7, 0, piece), toBlock(11, 7, 0, piece), toBlock(10, 7, 0, "x")}
		if same {
			want = []impl.Ptr{toBlock(20, 7, 0, piece), toBlock(8, 7, 0, piece), toBlock(10, 7, 0, piece), toBlock(9, 7, 0, "x")}
		}
		if !ok || !slices.Equal(leaves, want) {
			t.Errorf("with Same %v: the places are %v, %v", same, leaves, ok)
		}
		if got, is := impl.BlobGet(st, tree); !is || got != strings.Repeat(piece, 3)+"x" {
			t.Errorf("with Same %v: %d bytes are read, %v", same, len(got), is)
		}
	}
}

func TestP73WhereWhatIsGivenUpIsPut(t *testing.T) {
	for keep := range 9 {
		c := agedTree(keep)
		next, _, ok := impl.BlobPut(c.store, c.tree, scramble(2048, 5))
		// With the first piece the root and the first indirect block, with the fifth one the second one, and so on.
		list := []impl.Ptr{c.tree.Root}
		for k, p := range c.leaves() {
			if k%4 == 0 {
				list = append(list, c.levels[1][k/4])
			}
			list = append(list, p)
		}
		if !ok {
			t.Fatalf("Keep %d: BlobPut fails", keep)
		}
		checkGiven(t, fmt.Sprint("Keep ", keep), c.store, next, list)
	}
}

func TestP73TreesThatWereGivenUpAlready(t *testing.T) {
	// Whether the tree is valid is asked at the beginning alone: behind the first piece the store is none any more, as the old root is given up once too often.
	a, b := strings.Repeat("a", 128), strings.Repeat("b", 128)
	c := keptTree(a+a, mixedBirths())
	st, _, ok := impl.BlobPut(c.store, c.tree, b+a)
	if !ok || !impl.TreeOk(st, c.tree) || !impl.StoreOk(st) {
		t.Fatalf("behind BlobPut, %v, the old tree is not valid", ok)
	}
	next, tree, ok := impl.BlobPut(st, c.tree, "bb")
	old := []impl.Ptr{c.tree.Root, c.leaves()[0], c.tree.Root, c.leaves()[0], c.leaves()[1]}
	if !ok || tree.Many != 1 || impl.StoreOk(next) || !slices.Equal(next.Gone, old) {
		t.Errorf("BlobPut to a tree that was given up is %v, %v, and Gone is %v instead of %v", tree, ok, next.Gone, old)
	}
	if got, is := impl.BlobGet(withGiven(next, nil, 0, nil), tree); !is || got != "bb" {
		t.Errorf("BlobGet of what was put is %q, %v", got, is)
	}
}

func TestP74WhatIsKeptIsPut(t *testing.T) {
	kept := 0
	for _, trees := range [][]grownTree{keptTrees(), grownTrees(), brokenTrees()} {
		for _, c := range trees {
			text, ok := impl.BlobGet(c.store, c.tree)
			if !ok {
				continue
			}
			kept++
			for _, st := range []impl.Store{c.store, leaveFree(c.store, 0), nextGroup(t, c.store), withSame(c.store)} {
				next, tree, is := impl.BlobPut(st, c.tree, text)
				if !is || tree != c.tree || !sameStore(next, st) {
					t.Errorf("%s: BlobPut of what the tree keeps is %v, %v, or tells another store", c.name, tree, is)
				}
			}
		}
	}
	if kept < 100 {
		t.Errorf("just %d trees keep a text", kept)
	}
}

func TestP74WhatWasPutIsPutAgain(t *testing.T) {
	for _, trees := range [][]grownTree{keptTrees(), brokenTrees()} {
		for i, c := range trees {
			texts := textsInsteadOf(c.texts)
			text := texts[i%len(texts)]
			st, tree, ok := impl.BlobPut(c.store, c.tree, text)
			next, again, is := impl.BlobPut(st, tree, text)
			if !ok || !is || again != tree || !sameStore(next, st) {
				t.Errorf("%s: the second BlobPut of %d bytes is %v, %v instead of %v, %v, or tells another store", c.name, len(text), again, is, tree, ok)
			}
		}
	}
}
