package tests

import (
	"fmt"
	"slices"
	"testing"

	"loop.example/poolfiles/impl"
)

// treePair is two trees in one store, with the pointers of the places of both.
type treePair struct {
	name   string
	store  impl.Store
	trees  [2]impl.Tree
	leaves [2][]impl.Ptr
	texts  [2][]string
}

// diffByHand tells the places at which lists of pointers differ.
func diffByHand(one, two []impl.Ptr) []int {
	list := []int{}
	for k := range 16 {
		pair := [2]impl.Ptr{}
		for i, leaves := range [][]impl.Ptr{one, two} {
			if k < len(leaves) {
				pair[i] = leaves[k]
			}
		}
		if pair[0] != pair[1] {
			list = append(list, k)
		}
	}
	return list
}

// shapesToPair returns texts of trees, two of which there is room for in a store.
func shapesToPair() [][]string {
	return [][]string{
		nil, {""}, {"a"}, {"", ""}, {"a", "b"}, {"", "b", "", ""}, {"a", "b", "c", "d"}, make([]string, 5), {"a", "b", "c", "d", ""}, {"", "", "", "", "e"},
		fullTexts(9), placeTexts(12, func(k int) bool { return k%3 == 0 }), fullTexts(16), make([]string, 16), placeTexts(16, func(k int) bool { return k == 15 }),
	}
}

// treePairs returns pairs of trees: some made apart, and some of which the second one comes of the first one by puts and cuts in a store that keeps what earlier groups wrote.
func treePairs(t *testing.T) []treePair {
	t.Helper()
	list := []treePair{}
	for i, one := range shapesToPair() {
		for j, two := range shapesToPair() {
			g := gardener{store: emptyStore(7)}
			a := g.grow("", one, mixedBirths())
			b := g.grow("", two, manyBirths()[(i+j)%4])
			list = append(list, treePair{fmt.Sprintf("apart %d %d", i, j), g.store, [2]impl.Tree{a.tree, b.tree}, [2][]impl.Ptr{a.leaves(), b.leaves()}, [2][]string{one, two}})
		}
		c := grown("", one, mixedBirths())
		c.store.Keep = 6
		for k := range 16 {
			st, tree, ok := impl.TreePut(c.store, c.tree, k, "new")
			texts := behindPut(one, k, "new")
			if k%3 == 0 {
				st, tree, ok = impl.TreePut(st, tree, (k+5)%16, "")
				texts = behindPut(texts, (k+5)%16, "")
			}
			if k%4 == 0 {
				st, tree, ok = impl.TreeCut(st, tree, len(texts)-1)
				texts = texts[:len(texts)-1]
			}
			levels, fine := treeByHand(st, tree)
			if !ok || !fine {
				t.Fatalf("shape %d, place %d: no tree comes of it", i, k)
			}
			list = append(list, treePair{fmt.Sprintf("shape %d, changed at %d", i, k), st, [2]impl.Tree{c.tree, tree}, [2][]impl.Ptr{c.leaves(), levels[0][:tree.Many]}, [2][]string{one, texts}})
		}
	}
	return list
}

// checkDiff checks what TreeDiff returns of two valid trees in a store.
func checkDiff(t *testing.T, c treePair, i, j int) {
	t.Helper()
	list, ok := impl.TreeDiff(c.store, c.trees[i], c.trees[j])
	if want := diffByHand(c.leaves[i], c.leaves[j]); !ok || !slices.Equal(list, want) {
		t.Errorf("%s: TreeDiff of trees %d and %d is %v, %v instead of %v", c.name, i, j, list, ok, want)
	}
	for k := range 16 {
		one, _ := impl.TreeGet(c.store, c.trees[i], k)
		two, _ := impl.TreeGet(c.store, c.trees[j], k)
		if !slices.Contains(list, k) && one != two {
			t.Errorf("%s: TreeDiff of trees %d and %d does not tell place %d, which has %q and %q", c.name, i, j, k, one, two)
		}
	}
}

func TestP68WhereTreesDiffer(t *testing.T) {
	for _, c := range treePairs(t) {
		for i := range 2 {
			for j := range 2 {
				checkDiff(t, c, i, j)
			}
			hasTexts(t, c.name, c.store, c.trees[i], c.texts[i])
		}
	}
}

func TestP68ATreeDiffersFromItselfNowhere(t *testing.T) {
	for _, c := range grownTrees() {
		if list, ok := impl.TreeDiff(c.store, c.tree, c.tree); !ok || len(list) != 0 {
			t.Errorf("%s: TreeDiff of the tree and itself is %v, %v", c.name, list, ok)
		}
	}
}

func TestP68OtherPointersToTheSameText(t *testing.T) {
	// Just the pointers count: the same text in another row, or of another group, is told.
	a, b, late := toBlock(8, 1, 0, "a"), toBlock(9, 1, 0, "a"), toBlock(8, 2, 0, "a")
	st := storeWith(5, heldRow{8, "a", 2, 2}, heldRow{9, "a", 1, 1})
	for _, p := range []impl.Ptr{b, late, {}} {
		if list, ok := impl.TreeDiff(st, impl.Tree{Root: a, Many: 1}, impl.Tree{Root: p, Many: 1}); !ok || !slices.Equal(list, []int{0}) {
			t.Errorf("TreeDiff of trees with %v and %v is %v, %v", a, p, list, ok)
		}
	}
	if list, ok := impl.TreeDiff(st, impl.Tree{Root: a, Many: 1}, impl.Tree{Root: a, Many: 1}); !ok || len(list) != 0 {
		t.Errorf("TreeDiff of the same trees is %v, %v", list, ok)
	}
}

func TestP68TreesOfAnotherShape(t *testing.T) {
	cases := []struct {
		name     string
		one, two int
		want     []int
	}{
		{"no place and holes", 0, 3, nil},
		{"one place and holes behind it", 1, 4, nil},
		{"one place and all places", 1, 16, nil},
		{"four places and five", 4, 5, nil},
		{"five places and sixteen", 5, 16, nil},
	}
	for _, c := range cases {
		st, tree := impl.StoreNew(false), impl.Tree{}
		for k := range c.one {
			st, tree, _ = impl.TreePut(st, tree, k, placeText(k))
		}
		st = nextGroup(t, st)
		st.Keep = 1
		next, larger, ok := impl.TreePut(st, tree, c.two-1, "")
		if list, is := impl.TreeDiff(next, tree, larger); !ok || !is || !slices.Equal(list, c.want) {
			t.Errorf("%s: TreeDiff is %v, %v", c.name, list, is)
		}
		next, larger, ok = impl.TreePut(st, tree, c.two-1, "last")
		for _, pair := range [][2]impl.Tree{{tree, larger}, {larger, tree}} {
			if list, is := impl.TreeDiff(next, pair[0], pair[1]); !ok || !is || !slices.Equal(list, []int{c.two - 1}) {
				t.Errorf("%s, the last one a block: TreeDiff is %v, %v", c.name, list, is)
			}
		}
	}
}

func TestP68OneOfTwoTreesIsNotValid(t *testing.T) {
	for _, texts := range shapesToPair() {
		c := grown("", texts, mixedBirths())
		for _, wrong := range []impl.Tree{
			{Depth: 1}, {Depth: 1, Many: 1}, {Many: 4}, {Many: -1}, {Depth: 2, Many: 17}, {Root: toBlock(63, 1, 1, "a"), Depth: 1, Many: 3}, {Root: toBlock(8, 1, 0, "a"), Many: 1},
		} {
			for _, pair := range [][2]impl.Tree{{c.tree, wrong}, {wrong, c.tree}, {wrong, wrong}} {
				if list, ok := impl.TreeDiff(c.store, pair[0], pair[1]); ok || len(list) != 0 {
					t.Errorf("%.9q: TreeDiff of %v is %v, %v", texts, pair, list, ok)
				}
			}
		}
	}
}

func TestP71TheOldTreeIsKept(t *testing.T) {
	for _, same := range []bool{false, true} {
		for _, texts := range treeShapes() {
			c := grown(fmt.Sprintf("%.9q, with Same %v", texts, same), texts, mixedBirths())
			c.store.Keep, c.store.Same = 6, same
			for k := range 16 {
				for _, text := range []string{"new", "", placeText(0)} {
					checkKept(t, c, k, text)
				}
			}
		}
	}
}

// checkKept checks that a put to a tree in a store that keeps what earlier groups wrote leaves the tree as it was, at the end of the group, too, and what TreeDiff tells of both.
func checkKept(t *testing.T, c grownTree, k int, text string) {
	t.Helper()
	next, tree, ok := impl.TreePut(c.store, c.tree, k, text)
	if !ok {
		t.Fatalf("%s: TreePut to place %d fails", c.name, k)
	}
	hasTexts(t, c.name+": the old tree", next, c.tree, c.texts)
	hasTexts(t, c.name+": the old tree in the next group", nextGroup(t, next), c.tree, c.texts)
	was := ""
	if k < c.tree.Many {
		was = c.texts[k]
	}
	want := []int{}
	if text != was {
		want = append(want, k)
	}
	// What is new between the old places and this one are holes.
	if list, ok := impl.TreeDiff(next, c.tree, tree); !ok || !slices.Equal(list, want) {
		t.Errorf("%s: behind TreePut of %.9q to place %d TreeDiff is %v, %v instead of %v", c.name, text, k, list, ok, want)
	}
}
