package tests

import (
	"fmt"
	"math/rand"
	"slices"
	"testing"

	"loop.example/poolfiles/impl"
)

// modelTree is a tree with the texts that its places should have.
type modelTree struct {
	tree  impl.Tree
	texts []string
}

// garden is a store with trees, and what they were when a snapshot was taken, if there is one.
type garden struct {
	store impl.Store
	trees []modelTree
	taken []modelTree
}

// treeAt is a tree of a garden, with what is known of it.
func (g *garden) treeAt(i int) (grownTree, bool) {
	m := g.trees[i]
	levels, ok := treeByHand(g.store, m.tree)
	return grownTree{store: g.store, tree: m.tree, texts: m.texts, levels: levels}, ok
}

// put puts a text to a place of a tree, and reports whether the functions told what is told by hand.
func (g *garden) put(i, k int, text string) bool {
	c, fine := g.treeAt(i)
	want, wantTree, wantOk := putByHand(c, k, text)
	next, tree, ok := impl.TreePut(g.store, c.tree, k, text)
	if ok {
		g.store, g.trees[i] = next, modelTree{tree, behindPut(c.texts, k, text)}
	}
	return fine && ok == wantOk && tree == wantTree && sameStore(next, want)
}

// cut cuts a tree, and reports whether the functions told what is told by hand.
func (g *garden) cut(i, many int) bool {
	c, fine := g.treeAt(i)
	want, wantTree, wantOk := cutByHand(c, many)
	next, tree, ok := impl.TreeCut(g.store, c.tree, many)
	if ok {
		g.store, g.trees[i] = next, modelTree{tree, c.texts[:many]}
	}
	return fine && ok == wantOk && tree == wantTree && sameStore(next, want)
}

// take takes a snapshot: what is there at the end of the group is kept. It is what later chapters do.
func (g *garden) take() bool {
	next, ok := impl.StoreNext(g.store)
	next.Keep = next.Txg - 1
	g.store, g.taken = next, slices.Clone(g.trees)
	return ok
}

// drop drops the snapshot: what just it has is given up.
func (g *garden) drop() bool {
	dead := g.store.Dead
	g.store.Keep, g.store.Dead, g.taken = 0, nil, nil
	for _, p := range dead {
		next, ok := impl.StoreFree(g.store, p)
		if !ok {
			return false
		}
		g.store = next
	}
	return true
}

// turn ends the group, or takes a snapshot, or drops the one that there is.
func (g *garden) turn(plain bool) bool {
	switch {
	case plain:
		next, ok := impl.StoreNext(g.store)
		g.store = next
		return ok
	case g.taken == nil:
		return g.take()
	default:
		return g.drop()
	}
}

// step does one thing, as random numbers tell, and reports whether that was right.
func (g *garden) step(random *rand.Rand) bool {
	i := random.Intn(len(g.trees))
	many := g.trees[i].tree.Many
	switch n := random.Intn(24); {
	case n < 15:
		text := fmt.Sprint("text ", random.Intn(12))
		if random.Intn(4) == 0 {
			text = ""
		}
		return g.put(i, min(15, random.Intn(many+3)), text)
	case n < 18:
		return g.cut(i, many-random.Intn(many+1)/(1+random.Intn(4)))
	default:
		return g.turn(n < 22)
	}
}

// pointersOf returns all pointers of trees in a store.
func pointersOf(st impl.Store, trees []modelTree) []impl.Ptr {
	list := []impl.Ptr{}
	for _, m := range trees {
		all, _ := impl.TreeAll(st, m.tree)
		list = append(list, all...)
	}
	return list
}

// check checks that all trees have their texts, those of the snapshot too, and that each reference is that of a tree, or given up.
func (g *garden) check(t *testing.T, when string) {
	t.Helper()
	for i, m := range append(slices.Clone(g.trees), g.taken...) {
		hasTexts(t, fmt.Sprint(when, ", tree ", i), g.store, m.tree, m.texts)
	}
	live, taken := pointersOf(g.store, g.trees), pointersOf(g.store, g.taken)
	dead := slices.DeleteFunc(taken, func(p impl.Ptr) bool { return slices.Contains(live, p) })
	space, ok := impl.SpaceOf(slices.Concat(live, dead, g.store.Gone))
	if !ok || !slices.Equal(space.Refs, g.store.Space.Refs) {
		t.Fatalf("%s: there are other references than those of the trees and those in Gone", when)
	}
	missing := func(p impl.Ptr) bool { return !slices.Contains(dead, p) }
	if len(dead) != len(g.store.Dead) || slices.ContainsFunc(g.store.Dead, missing) {
		t.Fatalf("%s: Dead is %v instead of %v", when, g.store.Dead, dead)
	}
}

// walkGardens does many steps in each of some gardens, and tells how often fewer rows than few were free behind one.
func walkGardens(t *testing.T, seeds int64, steps, few int, step func(g *garden, random *rand.Rand) bool, check func(g *garden, when string)) int {
	t.Helper()
	full := 0
	for seed := range seeds {
		random := rand.New(rand.NewSource(seed))
		g := &garden{store: impl.StoreNew(seed%2 == 0), trees: make([]modelTree, 1+seed%3)}
		for i := range steps {
			when := fmt.Sprint("seed ", seed, ", step ", i)
			if !step(g, random) {
				t.Fatalf("%s: another result", when)
			}
			check(g, when)
			if roomIn(g.store) < few {
				full++
			}
		}
	}
	return full
}

func TestP65P66P67ManyStepsAreThoseOfAModel(t *testing.T) {
	full := walkGardens(t, 12, 150, 3, (*garden).step, func(g *garden, when string) { g.check(t, when) })
	if full < 20 {
		t.Errorf("the store was full just %d times", full)
	}
}

func TestTreesThatLeadToABlockTwice(t *testing.T) {
	// Nothing that the document says of trees rules this out; what cannot be given up a second time makes the function fail.
	a := toBlock(63, 7, 0, "a")
	st := storeWith(7, heldRow{63, "a", 1, 7})
	fan := fanByHand([]impl.Ptr{a, a, {}, {}})
	st.Rows[62], st.Space.Refs[62], st.Space.Last[62] = fan, 1, 7
	tree := impl.Tree{Root: toBlock(62, 7, 1, fan), Depth: 1, Many: 2}
	leaves, ok := impl.TreeLeaves(st, tree)
	if !impl.TreeOk(st, tree) || !ok || !slices.Equal(leaves, []impl.Ptr{a, a}) {
		t.Errorf("a tree that leads to a block twice has %v, %v", leaves, ok)
	}
	next, cut, ok := impl.TreeCut(st, tree, 0)
	noTree(t, "TreeCut of a tree that leads to a block twice", next, cut, ok)
	st.Space.Refs[63] = 2
	if next, cut, ok := impl.TreeCut(st, tree, 0); !ok || cut != (impl.Tree{}) || !sameStore(next, emptyStore(7)) {
		t.Errorf("TreeCut of a tree that leads twice to a block with two references is %v, %v", cut, ok)
	}
}

func TestTreesThatWereGivenUpAlready(t *testing.T) {
	// What makes a put fail is told in the document, and this is not: the old tree is given up once more, by which the store is not valid any more.
	c := grown("", []string{"a", "b"}, mixedBirths())
	st, _, ok := impl.TreePut(c.store, c.tree, 0, "new")
	if !ok || !impl.TreeOk(st, c.tree) {
		t.Fatalf("behind TreePut, %v, the old tree is not valid", ok)
	}
	next, tree, ok := impl.TreePut(st, c.tree, 0, "newer")
	text, _ := impl.StoreRead(withGiven(next, nil, 0, nil), tree.Root)
	list, _ := impl.FanGet(text)
	twice := []impl.Ptr{c.tree.Root, c.leaves()[0], c.tree.Root, c.leaves()[0]}
	if !ok || impl.StoreOk(next) || !slices.Equal(next.Gone, twice) || len(list) != 4 || list[1] != c.leaves()[1] {
		t.Errorf("TreePut to a tree that was given up is %v, %v, and Gone is %v", tree, ok, next.Gone)
	}
}

// treeResults returns all stores that come of one and a tree by the functions.
func treeResults(tree impl.Tree) func(st impl.Store) []impl.Store {
	return func(st impl.Store) []impl.Store {
		list := []impl.Store{}
		for _, k := range []int{0, 3, 4, 15, 16} {
			for _, text := range []string{"", "new", placeText(k)} {
				next, _, _ := impl.TreePut(st, tree, k, text)
				list = append(list, next)
			}
		}
		for many := range tree.Many + 2 {
			next, _, _ := impl.TreeCut(st, tree, many)
			list = append(list, next)
		}
		impl.TreeOk(st, tree)
		impl.TreeLeaves(st, tree)
		impl.TreeGet(st, tree, 0)
		impl.TreeAll(st, tree)
		impl.TreeDiff(st, tree, impl.Tree{})
		return list
	}
}

func TestTreesShareNoMemory(t *testing.T) {
	for i, texts := range [][]string{nil, {""}, {"a"}, fullTexts(3), make([]string, 5), fullTexts(5), fullTexts(16)} {
		for keep := range 3 {
			c := grown("", texts, mixedBirths())
			c.store.Keep, c.store.Same = 3*keep, i%2 == 0
			if spare := c.store.Rows[63]; keep == 2 && spare != "" {
				c.store.Space.Refs[63], c.store.Space.Last[63] = 3, 3
				c.store = withGiven(c.store, []impl.Ptr{toBlock(63, 3, 0, spare)}, 6, []impl.Ptr{toBlock(63, 1, 0, spare)})
			}
			checkMemory(t, namedStore{fmt.Sprintf("%.9q, Keep %d", texts, 3*keep), c.store}, treeResults(c.tree))
		}
	}
	for i, c := range wrongStores() {
		if i%50 == 0 {
			checkMemory(t, c, treeResults(impl.Tree{Depth: 2, Many: 9}))
		}
	}
}

func TestListsOfTreesShareNoMemory(t *testing.T) {
	scrawled := impl.Ptr{At: -77}
	for _, c := range grownTrees() {
		leaves, _ := impl.TreeLeaves(c.store, c.tree)
		all, _ := impl.TreeAll(c.store, c.tree)
		places, _ := impl.TreeDiff(c.store, c.tree, impl.Tree{})
		want := slices.Clone(places)
		for _, list := range [][]impl.Ptr{leaves[:cap(leaves)], all[:cap(all)]} {
			for i := range list {
				list[i] = scrawled
			}
		}
		scrawlNumbers(places)
		leaves, _ = impl.TreeLeaves(c.store, c.tree)
		again, _ := impl.TreeAll(c.store, c.tree)
		places, _ = impl.TreeDiff(c.store, c.tree, impl.Tree{})
		if !slices.Equal(leaves, c.leaves()) || !slices.Equal(again, c.all()) || !slices.Equal(places, want) {
			t.Errorf("%s: a list shares memory with another one", c.name)
		}
	}
}
