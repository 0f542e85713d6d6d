package tests

import (
	"fmt"
	"math"
	"slices"
	"strings"
	"testing"

	"loop.example/poolfiles/impl"
)

// layByHand lays out pointers for so many places, and then gives up what has not stayed and other pointers, in another way than the program does: a level at once, by StoreWrite and StoreFree.
func layByHand(st impl.Store, levels [][]impl.Ptr, leaves []impl.Ptr, many int, others []impl.Ptr) (impl.Store, impl.Tree, bool) {
	tree := impl.Tree{Depth: depthByHand(many), Many: many}
	row := make([]impl.Ptr, 1<<(2*tree.Depth))
	copy(row, leaves[:many])
	given := map[impl.Ptr]bool{}
	for _, old := range levels[1:] {
		for _, p := range old {
			given[p] = true
		}
	}
	for level := 1; level <= tree.Depth; level++ {
		next := make([]impl.Ptr, len(row)/4)
		for j := range next {
			list := row[4*j : 4*j+4]
			if tree.Depth == len(levels)-1 && slices.Equal(list, levels[level-1][4*j:4*j+4]) {
				next[j] = levels[level][j]
				delete(given, next[j])
				continue
			}
			if text := fanByHand(list); text != "" {
				written, p, ok := impl.StoreWrite(st, text, level)
				if !ok {
					return impl.Store{}, impl.Tree{}, false
				}
				st, next[j] = written, p
			}
		}
		row = next
	}
	tree.Root = row[0]
	for _, old := range slices.Backward(levels[1:]) {
		for _, p := range old {
			if given[p] {
				st, _ = impl.StoreFree(st, p)
			}
		}
	}
	for _, p := range others {
		st, _ = impl.StoreFree(st, p)
	}
	return st, tree, true
}

// putByHand tells what TreePut returns of a valid tree and a place that it may have.
func putByHand(c grownTree, k int, text string) (impl.Store, impl.Tree, bool) {
	leaves := append(slices.Clone(c.levels[0]), make([]impl.Ptr, 16)...)[:16]
	if k < c.tree.Many && c.texts[k] == text {
		return c.store, c.tree, true
	}
	st, old, p := c.store, leaves[k], impl.Ptr{}
	if text != "" {
		ok := false
		if st, p, ok = impl.StoreWrite(st, text, 0); !ok {
			return impl.Store{}, impl.Tree{}, false
		}
	}
	leaves[k] = p
	return layByHand(st, c.levels, leaves, max(k+1, c.tree.Many), []impl.Ptr{old})
}

// behindPut tells the texts of the places of a tree behind a put.
func behindPut(texts []string, k int, text string) []string {
	texts = slices.Clone(texts)
	for len(texts) <= k {
		texts = append(texts, "")
	}
	texts[k] = text
	return texts
}

// hasTexts checks that a tree is valid in a valid store, and has just these texts.
func hasTexts(t *testing.T, when string, st impl.Store, tree impl.Tree, texts []string) {
	t.Helper()
	if !impl.StoreOk(st) || !impl.TreeOk(st, tree) || tree.Many != len(texts) {
		t.Errorf("%s: the store is not valid, or the tree %v is not", when, tree)
		return
	}
	for k, want := range texts {
		if text, ok := impl.TreeGet(st, tree, k); !ok || text != want {
			t.Errorf("%s: place %d has %q, %v instead of %q", when, k, text, ok, want)
		}
	}
}

// earlierStay checks that pointers born in groups ahead of the one that is open still lead to what they led to.
func earlierStay(t *testing.T, when string, st, next impl.Store, list []impl.Ptr) {
	t.Helper()
	for _, p := range list {
		was, _ := impl.StoreRead(st, p)
		if text, ok := impl.StoreRead(next, p); p.Birth < st.Txg && (!ok || text != was) {
			t.Errorf("%s: %v leads to %q, %v instead of %q", when, p, text, ok, was)
		}
	}
}

// rowsByTrees checks that the references of a store are just those of a tree, those in Gone and Dead, and others.
func rowsByTrees(t *testing.T, when string, st impl.Store, tree impl.Tree, others int) {
	t.Helper()
	all, _ := impl.TreeAll(st, tree)
	if refs := refsIn(st.Space); refs != len(all)+len(st.Gone)+len(st.Dead)+others {
		t.Errorf("%s: there are %d references, %d of the tree, %d in Gone, %d in Dead, %d others", when, refs, len(all), len(st.Gone), len(st.Dead), others)
	}
}

// othersIn tells how many references of a store are none of a tree in it, and not given up.
func othersIn(c grownTree) int {
	return refsIn(c.store.Space) - len(c.all()) - len(c.store.Gone) - len(c.store.Dead)
}

// checkPut checks what TreePut returns of a valid tree, a place that it may have, and a text that is not too long.
func checkPut(t *testing.T, c grownTree, k int, text string) {
	t.Helper()
	when := fmt.Sprintf("%s: TreePut of %.9q to place %d", c.name, text, k)
	want, tree, fine := putByHand(c, k, text)
	next, changed, ok := impl.TreePut(c.store, c.tree, k, text)
	if ok != fine || changed != tree || !sameStore(next, want) {
		t.Errorf("%s is %v, %v instead of %v, %v, or tells another store", when, changed, ok, tree, fine)
		return
	}
	if !ok {
		return
	}
	hasTexts(t, when, next, changed, behindPut(c.texts, k, text))
	earlierStay(t, when, c.store, next, c.all())
	rowsByTrees(t, when, next, changed, othersIn(c))
}

func TestP65PlacesArePut(t *testing.T) {
	for _, c := range someTrees() {
		for k := range 16 {
			for _, text := range []string{"", "new", longBlock()} {
				checkPut(t, c, k, text)
			}
		}
	}
}

func TestP65AllBlocksArePut(t *testing.T) {
	c := grown("", fullTexts(5), mixedBirths())
	for _, text := range append(blocks(), sizedBlocks()...) {
		for _, k := range []int{4, 5} {
			next, tree, ok := impl.TreePut(c.store, c.tree, k, text)
			if got, is := impl.TreeGet(next, tree, k); !ok || !is || got != text {
				t.Errorf("%d bytes are put and read as %d bytes, %v, %v", len(text), len(got), ok, is)
			}
		}
	}
}

func TestP65StepByStepFromAnEmptyTree(t *testing.T) {
	hole, new := impl.Ptr{}, impl.StoreNew(false)
	a, b, c := toBlock(8, 1, 0, "a"), toBlock(9, 1, 0, "b"), toBlock(8, 2, 0, "c")
	// In an empty tree.
	st, tree, ok := impl.TreePut(new, impl.Tree{}, 0, "a")
	if !ok || tree != (impl.Tree{Root: a, Depth: 0, Many: 1}) || !sameStore(st, storeWith(1, heldRow{8, "a", 1, 1})) {
		t.Fatalf("the first put tells %v, %v", tree, ok)
	}
	// One level deeper: the block of place 0 stays.
	fan := fanByHand([]impl.Ptr{a, hole, b, hole})
	st, tree, ok = impl.TreePut(st, tree, 2, "b")
	root := toBlock(10, 1, 1, fan)
	if !ok || tree != (impl.Tree{Root: root, Depth: 1, Many: 3}) || !sameStore(st, storeWith(1, heldRow{8, "a", 1, 1}, heldRow{9, "b", 1, 1}, heldRow{10, fan, 1, 1})) {
		t.Fatalf("the second put tells %v, %v", tree, ok)
	}
	// In the next group, one level deeper: just the old indirect block is given up, though a new one has the same text.
	st, tree, ok = impl.TreePut(nextGroup(t, st), tree, 13, "c")
	c.At = 11
	low, high := toBlock(12, 2, 1, fan), toBlock(13, 2, 1, fanByHand([]impl.Ptr{hole, c, hole, hole}))
	top := fanByHand([]impl.Ptr{low, hole, hole, high})
	want := withGiven(storeWith(2, heldRow{8, "a", 1, 1}, heldRow{9, "b", 1, 1}, heldRow{10, fan, 1, 1}, heldRow{11, "c", 1, 2}, heldRow{12, fan, 1, 2},
		heldRow{13, fanByHand([]impl.Ptr{hole, c, hole, hole}), 1, 2}, heldRow{14, top, 1, 2}), []impl.Ptr{root}, 0, nil)
	if !ok || tree != (impl.Tree{Root: toBlock(14, 2, 2, top), Depth: 2, Many: 14}) || !sameStore(st, want) {
		t.Fatalf("the third put tells %v, %v", tree, ok)
	}
	// A hole: the indirect block above has only holes then, and is one; what is of this group is free at once.
	st, tree, ok = impl.TreePut(st, tree, 13, "")
	top = fanByHand([]impl.Ptr{low, hole, hole, hole})
	want = withGiven(storeWith(2, heldRow{8, "a", 1, 1}, heldRow{9, "b", 1, 1}, heldRow{10, fan, 1, 1}, heldRow{12, fan, 1, 2}, heldRow{15, top, 1, 2}), []impl.Ptr{root}, 0, nil)
	if !ok || tree != (impl.Tree{Root: toBlock(15, 2, 2, top), Depth: 2, Many: 14}) || !sameStore(st, want) {
		t.Fatalf("the fourth put tells %v, %v", tree, ok)
	}
}

func TestP65TheOldTreeOfEarlierGroups(t *testing.T) {
	for _, texts := range treeShapes() {
		c := grown(fmt.Sprintf("%.9q", texts), texts, mixedBirths())
		for k := range 16 {
			next, _, ok := impl.TreePut(c.store, c.tree, k, "new")
			if !ok {
				t.Fatalf("%s: TreePut to place %d fails", c.name, k)
			}
			if !impl.TreeOk(next, c.tree) {
				t.Errorf("%s: behind TreePut to place %d the old tree is not valid", c.name, k)
			}
			earlierStay(t, c.name, c.store, next, c.all())
		}
	}
}

func TestP65HolesAtTheEnd(t *testing.T) {
	for _, texts := range treeShapes() {
		c := grown(fmt.Sprintf("%.9q", texts), texts, mixedBirths())
		for k := len(texts); k < 16; k++ {
			next, tree, ok := impl.TreePut(c.store, c.tree, k, "")
			if !ok || tree.Many != k+1 || tree.Depth != depthByHand(k+1) {
				t.Fatalf("%s: TreePut of a hole to place %d tells %v, %v", c.name, k, tree, ok)
			}
			hasTexts(t, c.name, next, tree, append(slices.Clone(texts), make([]string, k+1-len(texts))...))
			// All that is needed is there, unless the tree is deeper; without any block the root is a hole.
			if tree.Depth == c.tree.Depth && (tree.Root != c.tree.Root || !sameStore(next, c.store)) {
				t.Errorf("%s: TreePut of a hole to place %d writes, or gives up", c.name, k)
			}
			if c.tree.Root == (impl.Ptr{}) && (tree.Root != impl.Ptr{} || !sameStore(next, c.store)) {
				t.Errorf("%s: TreePut of a hole to place %d of a tree without blocks tells %v", c.name, k, tree)
			}
		}
	}
}

func TestP65ThePlaceThatIsNone(t *testing.T) {
	for _, c := range someTrees() {
		for _, k := range []int{-1, -2, 16, 17, 64, 1 << 32, 1<<32 + 1, math.MinInt, math.MaxInt} {
			for _, text := range []string{"", "new", longBlock() + "x"} {
				next, tree, ok := impl.TreePut(c.store, c.tree, k, text)
				noTree(t, fmt.Sprintf("%s: TreePut of %.9q to place %d", c.name, text, k), next, tree, ok)
			}
		}
		for _, size := range []int{129, 130, 256, 1<<16 + 1} {
			for k := range 16 {
				next, tree, ok := impl.TreePut(c.store, c.tree, k, strings.Repeat("x", size))
				noTree(t, fmt.Sprintf("%s: TreePut of %d bytes to place %d", c.name, size, k), next, tree, ok)
			}
		}
	}
}

func TestP64TheSameTextAgain(t *testing.T) {
	for _, c := range grownTrees() {
		for k := range c.texts {
			text, _ := impl.TreeGet(c.store, c.tree, k)
			next, tree, ok := impl.TreePut(c.store, c.tree, k, text)
			if !ok || tree != c.tree || !sameStore(next, c.store) {
				t.Errorf("%s: TreePut of what place %d has is %v, %v, or tells another store", c.name, k, tree, ok)
			}
		}
	}
}

func TestP64TheSameTextAgainInAFullStore(t *testing.T) {
	for _, c := range someTrees() {
		c.store = leaveFree(c.store, 0)
		for k, text := range c.texts {
			next, tree, ok := impl.TreePut(c.store, c.tree, k, text)
			if !ok || tree != c.tree || !sameStore(next, c.store) {
				t.Errorf("%s: without a free row TreePut of what place %d has is %v, %v", c.name, k, tree, ok)
			}
		}
	}
}

// afterPuts returns the texts of all places behind puts, one by one, in the store and the tree behind the one before.
func afterPuts(t *testing.T, c grownTree, puts ...placePut) []string {
	t.Helper()
	st, tree := c.store, c.tree
	for _, put := range puts {
		next, changed, ok := impl.TreePut(st, tree, put.k, put.text)
		if !ok {
			t.Fatalf("%s: TreePut of %q to place %d fails", c.name, put.text, put.k)
		}
		st, tree = next, changed
	}
	texts := []string{}
	for k := range tree.Many {
		text, ok := impl.TreeGet(st, tree, k)
		if !ok {
			t.Errorf("%s: behind %v place %d is not read", c.name, puts, k)
		}
		texts = append(texts, text)
	}
	return texts
}

// placePut is a text that is put to a place.
type placePut struct {
	k    int
	text string
}

// fewTrees returns trees of which each of many puts is asked.
func fewTrees() []grownTree {
	list := []grownTree{}
	for i, texts := range [][]string{nil, {"a"}, {""}, {"a", "", "c"}, fullTexts(4), make([]string, 4), {"", "", "", "", "e"}, fullTexts(7), fullTexts(16), placeTexts(16, func(k int) bool { return k > 13 })} {
		c := grown(fmt.Sprintf("%.9q", texts), texts, manyBirths()[i%4])
		c.store.Same, c.store.Keep = i%2 == 0, i%7
		list = append(list, c)
	}
	return list
}

func TestP69TwoPlacesInEitherOrder(t *testing.T) {
	for _, c := range fewTrees() {
		for i := range 16 {
			for j := range i {
				for _, texts := range [][2]string{{"one", "two"}, {"same", "same"}, {"", "two"}, {"one", ""}, {"", ""}} {
					one, two := placePut{i, texts[0]}, placePut{j, texts[1]}
					want := behindPut(behindPut(c.texts, i, texts[0]), j, texts[1])
					if got, other := afterPuts(t, c, one, two), afterPuts(t, c, two, one); !slices.Equal(got, want) || !slices.Equal(other, want) {
						t.Errorf("%s: behind %v and %v there are %q, and in the other order %q", c.name, one, two, got, other)
					}
				}
			}
		}
	}
}

func TestP70TheSecondPutToAPlace(t *testing.T) {
	for _, c := range fewTrees() {
		for k := range 16 {
			for _, texts := range [][2]string{{"one", "two"}, {"same", "same"}, {"", "two"}, {"one", ""}, {"", ""}, {longBlock(), placeText(k)}} {
				want := behindPut(c.texts, k, texts[1])
				both, second := afterPuts(t, c, placePut{k, texts[0]}, placePut{k, texts[1]}), afterPuts(t, c, placePut{k, texts[1]})
				if !slices.Equal(both, want) || !slices.Equal(second, want) {
					t.Errorf("%s: behind %q to place %d there are %q, and behind the second one alone %q", c.name, texts, k, both, second)
				}
			}
		}
	}
}
