package tests

import (
	"fmt"
	"maps"
	"math/rand"
	"slices"
	"testing"

	"loop.example/poolfiles/impl"
)

// modelNode is a node with the texts that the places of its tree should have.
type modelNode struct {
	node  impl.Node
	texts []string
}

// modelTable is a table with the nodes that it should have.
type modelTable struct {
	tree  impl.Tree
	nodes map[int]modelNode
}

// orchard is a store with a table, and what that was when a snapshot was taken, if there is one.
type orchard struct {
	store impl.Store
	table modelTable
	taken *modelTable
}

// numbers returns the numbers of all nodes, ascending.
func (m modelTable) numbers() []int {
	return slices.Sorted(maps.Keys(m.nodes))
}

// copied is the table with nodes of its own.
func (m modelTable) copied() modelTable {
	return modelTable{m.tree, maps.Clone(m.nodes)}
}

// put puts a node whose tree is in a store to the table there, unless there is no room for it, and reports whether the functions told what is told by hand.
func (o *orchard) put(st impl.Store, table impl.Tree, k int, n modelNode) bool {
	c, fine := tableByHand(st, table)
	if !fine {
		return false
	}
	want, wantTree, wantOk := putByHand(c.grownTree, k, nodeText(n.node))
	next, tree, ok := impl.TablePut(st, table, k, n.node)
	if ok {
		o.store, o.table = next, o.table.copied()
		o.table.tree, o.table.nodes[k] = tree, n
	}
	return ok == wantOk && tree == wantTree && sameStore(next, want)
}

// add puts a new node of some shape to a number that is free.
func (o *orchard) add(random *rand.Rand) bool {
	k := random.Intn(16)
	if _, there := o.table.nodes[k]; there || random.Intn(2) == 0 {
		k = impl.TableFree(o.store, o.table.tree)
	}
	if k == -1 {
		return len(o.table.nodes) == 16
	}
	s := nodeShapes()[random.Intn(14)]
	st, n := o.store, modelNode{impl.Node{Kind: s.kind, Links: s.links, Size: s.size}, s.texts}
	for place, text := range s.texts {
		next, tree, ok := impl.TreePut(st, n.node.Tree, place, text)
		if !ok {
			return true
		}
		st, n.node.Tree = next, tree
	}
	return o.put(st, o.table.tree, k, n)
}

// aside puts an empty file instead of a node, whose tree stays as it is: a tree that is changed may lose blocks at once, by which a table that leads to it would be none.
func (o *orchard) aside(k int) (impl.Store, impl.Tree, bool) {
	return impl.TablePut(o.store, o.table.tree, k, impl.Node{Kind: impl.NodeFile, Links: 1})
}

// change puts another text to a place of a node's tree, and that node instead of the old one.
func (o *orchard) change(k int, random *rand.Rand) bool {
	n := o.table.nodes[k]
	if len(n.texts) == 0 {
		n.node.Links = 1 + random.Intn(map[int]int{1: 9, 2: 1}[n.node.Kind])
		return o.put(o.store, o.table.tree, k, n)
	}
	place, text := random.Intn(len(n.texts)), fmt.Sprint("text ", random.Intn(9))
	if random.Intn(4) == 0 {
		text = ""
	}
	st, table, ok := o.aside(k)
	st, tree, fine := impl.TreePut(st, n.node.Tree, place, text)
	if !ok || !fine {
		return true
	}
	n.node.Tree, n.texts = tree, behindPut(n.texts, place, text)
	return o.put(st, table, k, n)
}

// keep puts another text of a folder, or of what was a file, and the folder instead of the old node.
func (o *orchard) keep(k int, random *rand.Rand) bool {
	text := scramble(random.Intn(400), random.Intn(9))
	st, table, ok := o.aside(k)
	st, tree, fine := impl.BlobPut(st, o.table.nodes[k].node.Tree, text)
	if !ok || !fine {
		return true
	}
	n := impl.Node{Kind: impl.NodeFolder, Links: 1, Size: len(text), Tree: tree}
	return o.put(st, table, k, modelNode{n, piecesByHand(text)})
}

// drop drops a node, unless there is no room, and reports whether the functions told what is told by hand.
func (o *orchard) drop(k int) bool {
	c, fine := tableByHand(o.store, o.table.tree)
	want, wantTree, wantOk := dropByHand(c, k)
	next, tree, ok := impl.TableDrop(o.store, o.table.tree, k)
	if ok {
		o.store, o.table = next, o.table.copied()
		o.table.tree = tree
		delete(o.table.nodes, k)
	}
	return fine && ok == wantOk && tree == wantTree && sameStore(next, want)
}

// turn ends the group, or takes a snapshot, or drops the one that there is.
func (o *orchard) turn(plain bool) bool {
	g := garden{store: o.store}
	if o.taken != nil {
		g.taken = []modelTree{{}}
	}
	ok := g.turn(plain)
	o.store = g.store
	if !plain && o.taken == nil {
		taken := o.table.copied()
		o.taken = &taken
	} else if !plain {
		o.taken = nil
	}
	return ok
}

// step does one thing, as random numbers tell, and reports whether that was right.
func (o *orchard) step(random *rand.Rand) bool {
	numbers := o.table.numbers()
	n := random.Intn(20)
	switch {
	case n < 3:
		return o.turn(n > 0)
	case n < 10 || len(numbers) == 0:
		return o.add(random)
	}
	k := numbers[random.Intn(len(numbers))]
	switch {
	case n < 13:
		return o.change(k, random)
	case n < 15:
		return o.keep(k, random)
	default:
		return o.drop(k)
	}
}

// hasNodes checks that a table has just the nodes of a model, with their texts.
func (m modelTable) hasNodes(t *testing.T, when string, st impl.Store) {
	t.Helper()
	c, ok := tableByHand(st, m.tree)
	if !ok || !slices.Equal(c.numbers(), m.numbers()) {
		t.Fatalf("%s: the table is none, or has %v instead of %v", when, c.numbers(), m.numbers())
	}
	checkTable(t, when, c)
	for k, n := range m.nodes {
		if c.nodes[k] != n.node {
			t.Fatalf("%s: node %d is %v instead of %v", when, k, c.nodes[k], n.node)
		}
		hasTexts(t, fmt.Sprint(when, ", node ", k), st, n.node.Tree, n.texts)
	}
}

// check checks that the table has its nodes, that of the snapshot too, and that each reference is that of one of them, or given up.
func (o *orchard) check(t *testing.T, when string) {
	t.Helper()
	o.table.hasNodes(t, when, o.store)
	live, ok := impl.TableAll(o.store, o.table.tree)
	dead := []impl.Ptr{}
	if o.taken != nil {
		o.taken.hasNodes(t, when+", snapshot", o.store)
		dead, _ = impl.TableAll(o.store, o.taken.tree)
		dead = slices.DeleteFunc(dead, func(p impl.Ptr) bool { return slices.Contains(live, p) })
	}
	space, fine := impl.SpaceOf(slices.Concat(live, dead, o.store.Gone))
	if !ok || !fine || !slices.Equal(space.Refs, o.store.Space.Refs) {
		t.Fatalf("%s: there are other references than those of the table and those in Gone", when)
	}
	missing := func(p impl.Ptr) bool { return !slices.Contains(dead, p) }
	if len(dead) != len(o.store.Dead) || slices.ContainsFunc(o.store.Dead, missing) {
		t.Fatalf("%s: Dead is %v instead of %v", when, o.store.Dead, dead)
	}
}

func TestP86P87P90ManyStepsAreThoseOfAModel(t *testing.T) {
	full, many, dropped := 0, 0, 0
	for seed := range int64(9) {
		random := rand.New(rand.NewSource(seed))
		o := &orchard{store: impl.StoreNew(seed%2 == 0), table: modelTable{nodes: map[int]modelNode{}}}
		for i := range 120 {
			when := fmt.Sprint("seed ", seed, ", step ", i)
			was := len(o.table.nodes)
			if !o.step(random) {
				t.Fatalf("%s: another result", when)
			}
			o.check(t, when)
			many = max(many, len(o.table.nodes))
			if len(o.table.nodes) < was {
				dropped++
			}
			if roomIn(o.store) < 4 {
				full++
			}
		}
	}
	if full < 20 || many < 8 || dropped < 150 {
		t.Errorf("the store was nearly full just %d times, a table had %d nodes, and %d were dropped", full, many, dropped)
	}
}

// tableResults returns all stores that come of one and a table by the functions.
func tableResults(tree impl.Tree, nodes []impl.Node) func(st impl.Store) []impl.Store {
	return func(st impl.Store) []impl.Store {
		list := []impl.Store{}
		for _, k := range []int{0, 1, 4, 15, 16} {
			own, _ := impl.TableGet(st, tree, k)
			for _, n := range append(slices.Clone(nodes), own) {
				next, _, _ := impl.TablePut(st, tree, k, n)
				list = append(list, next)
			}
			next, _, _ := impl.TableDrop(st, tree, k)
			list = append(list, next)
		}
		impl.TableOk(st, tree)
		impl.TableFree(st, tree)
		impl.TableList(st, tree)
		impl.TableAll(st, tree)
		return list
	}
}

func TestTablesShareNoMemory(t *testing.T) {
	for i, places := range [][]int{nil, {0}, {5, noNode, 2}, {noNode, 2, noNode, noNode, 8}, allPlaces(16, 0), justPlaces(16, 5, 0, 4, 15)} {
		for keep := range 3 {
			c := tableOf(manyBirths()[(i+keep)%4], places...)
			c.store.Keep, c.store.Same = 3*keep, i%2 == 0
			if spare := c.store.Rows[63]; keep == 2 {
				c.store.Space.Refs[63], c.store.Space.Last[63] = 3, max(3, c.store.Space.Last[63])
				c.store = withGiven(c.store, []impl.Ptr{toBlock(63, 3, 0, spare)}, 6, []impl.Ptr{toBlock(63, 1, 0, spare)})
			}
			nodes := []impl.Node{{}, c.spares[0], c.spares[6]}
			checkMemory(t, namedStore{fmt.Sprintf("%s, Keep %d", c.name, 3*keep), c.store}, tableResults(c.tree, nodes))
			// A store in which there is no room for a node, or for what is above it.
			checkMemory(t, namedStore{fmt.Sprintf("%s, Keep %d, nearly full", c.name, 3*keep), leaveFree(c.store, keep)}, tableResults(c.tree, nodes))
		}
	}
	for i, c := range wrongStores() {
		if i%50 == 0 {
			checkMemory(t, c, tableResults(impl.Tree{Depth: 2, Many: 9}, nil))
		}
	}
}

func TestListsOfTablesShareNoMemory(t *testing.T) {
	for i, c := range grownTables() {
		if i%5 > 0 {
			continue
		}
		numbers, _ := impl.TableList(c.store, c.tree)
		all, _ := impl.TableAll(c.store, c.tree)
		scrawlNumbers(numbers)
		all = all[:cap(all)]
		for i := range all {
			all[i] = impl.Ptr{At: -77}
		}
		checkTable(t, c.name, c)
	}
}
