package tests

import (
	"fmt"
	"maps"
	"math"
	"slices"
	"strings"
	"sync"
	"testing"

	"loop.example/poolfiles/impl"
)

// nodeShape tells a node that is made by hand: its kind, how many names and bytes it has, and the texts of the places of its tree.
type nodeShape struct {
	kind, links, size int
	texts             []string
}

// grownTable is a table in a store: its own tree, its nodes by number with their trees, and other nodes whose trees are in the store.
type grownTable struct {
	grownTree
	nodes  map[int]impl.Node
	trees  map[int]grownTree
	spares []impl.Node
}

// numbers returns the numbers of all nodes, ascending.
func (c grownTable) numbers() []int {
	return slices.Sorted(maps.Keys(c.nodes))
}

// everything returns all pointers that are no holes: those of the table's own tree, and then those of the nodes' trees.
func (c grownTable) everything() []impl.Ptr {
	list := c.all()
	for _, k := range c.numbers() {
		list = append(list, c.trees[k].all()...)
	}
	return list
}

// fileShape is a file with so many names that has a text.
func fileShape(links int, text string) nodeShape {
	s := nodeShape{kind: impl.NodeFile, links: links, size: len(text)}
	for at := 0; at < len(text); at += 12 {
		s.texts = append(s.texts, cutByBytes(text[at:min(at+12, len(text))]))
	}
	return s
}

// folderShape is a folder that has a text.
func folderShape(text string) nodeShape {
	return nodeShape{impl.NodeFolder, 1, len(text), piecesByHand(text)}
}

// rows tells how many rows a tree of these texts takes.
func (s nodeShape) rows() int {
	return len(grown("", s.texts, mixedBirths()).all())
}

// nodeShapes returns files and folders: without bytes, with holes alone, with one block, and with trees of each depth. They are made once, as so many nodes are made of them.
var nodeShapes = sync.OnceValue(func() []nodeShape {
	zeros := strings.Repeat("\x00", 192)
	return []nodeShape{
		fileShape(1, ""), folderShape(""), fileShape(9, "a"), fileShape(1, zeros[:12]), folderShape("a=1;"), fileShape(2, "abcdefghijklm"), fileShape(1, zeros[:60]),
		fileShape(1, scramble(48, 1)), folderShape(scramble(129, 1)), fileShape(3, zeros[:60]+"b"), folderShape(scramble(128, 2)), fileShape(9, zeros[:24]), fileShape(1, "abcdefghijklm"),
		folderShape(scramble(600, 3)), fileShape(1, scramble(192, 4)), fileShape(1, zeros[:191]+"c"), folderShape(scramble(2048, 5)), fileShape(5, scramble(25, 1)+zeros[:100]),
	}
})

// noNode stands for a place of a table that is a hole.
const noNode = -1

// places returns so many places of a table, the shape of each being told by its place; some are holes, and no more rows are taken than so many.
func places(many, from, rows int, has func(k int) bool) []int {
	list, shapes := slices.Repeat([]int{noNode}, many), nodeShapes()
	for k := range list {
		if !has(k) {
			continue
		}
		list[k] = (from + 5*k) % len(shapes)
		if need := shapes[list[k]].rows(); need > rows {
			list[k] = k % 2
		} else {
			rows -= need
		}
	}
	return list
}

// tableShapes returns the places of tables of each number of places: with nodes alone, without any, with one, or with some.
func tableShapes() [][]int {
	shapes := [][]int{{}}
	for many := 1; many <= 16; many++ {
		for i, has := range []func(k int) bool{
			func(int) bool { return true },
			func(int) bool { return false },
			func(k int) bool { return k == 0 },
			func(k int) bool { return k == many-1 },
			func(k int) bool { return k == 0 || k == many-1 },
			func(k int) bool { return k%2 == 1 },
			func(k int) bool { return k < many-1 && k/4 != 1 },
			func(k int) bool { return k < (many-1)/4*4 },
		} {
			list := places(many, 3*many+i, 38-many, has)
			if !slices.ContainsFunc(shapes, func(s []int) bool { return slices.Equal(s, list) }) {
				shapes = append(shapes, list)
			}
		}
	}
	return shapes
}

// node makes a node whose tree is in the store.
func (g *gardener) node(s nodeShape, born births) (impl.Node, grownTree) {
	c := g.grow("", s.texts, born)
	return impl.Node{Kind: s.kind, Links: s.links, Size: s.size, Tree: c.tree}, c
}

// spareNodes makes nodes of some shapes that are in no table.
func (g *gardener) spareNodes(born births) []impl.Node {
	list := []impl.Node{}
	for _, i := range []int{0, 1, 2, 3, 5, 6, 8} {
		n, _ := g.node(nodeShapes()[i], born)
		list = append(list, n)
	}
	return list
}

// table makes a table whose places have nodes of these shapes.
func (g *gardener) table(name string, shapes []int, born births) grownTable {
	c := grownTable{nodes: map[int]impl.Node{}, trees: map[int]grownTree{}, spares: g.spareNodes(born)}
	texts := make([]string, len(shapes))
	for k, i := range shapes {
		if i != noNode {
			c.nodes[k], c.trees[k] = g.node(nodeShapes()[i], born)
			texts[k] = nodeText(c.nodes[k])
		}
	}
	c.grownTree = g.grow(fmt.Sprintf("%s %v, %s", name, shapes, born.name), texts, born)
	return c
}

// tableOf makes a table in an empty store in group 7.
func tableOf(born births, shapes ...int) grownTable {
	g := gardener{store: emptyStore(7)}
	return g.table("table", shapes, born)
}

// grownTables returns tables of many kinds in stores in group 7.
func grownTables() []grownTable {
	list := []grownTable{}
	for i, shapes := range tableShapes() {
		for j, born := range manyBirths() {
			st := emptyStore(7)
			if (i+j)%3 == 0 {
				// What else there is in a store: the same text, and blocks that were given up.
				st = withGiven(storeWith(7, heldRow{9, "a", 1, 6}, heldRow{63, "other", 2, 5}), refsTo(63, 6), 0, nil)
			}
			st.Same, st.Keep = i%2 == 0, (2*i+3*j)%7
			g := gardener{store: st}
			list = append(list, g.table(fmt.Sprint("table ", i), shapes, born))
		}
	}
	return list
}

// someTables returns some of them.
func someTables() []grownTable {
	list := []grownTable{}
	for i, c := range grownTables() {
		if i%4 == i/4%4 {
			list = append(list, c)
		}
	}
	return list
}

// tableByHand tells what is in a table, and whether the tree is one, in another way than the program does.
func tableByHand(st impl.Store, tree impl.Tree) (grownTable, bool) {
	levels, ok := treeByHand(st, tree)
	if !ok {
		return grownTable{}, false
	}
	c := grownTable{grownTree: grownTree{store: st, tree: tree, levels: levels}, nodes: map[int]impl.Node{}, trees: map[int]grownTree{}}
	for k, p := range c.leaves() {
		text, _ := impl.StoreRead(st, p)
		c.texts = append(c.texts, text)
		if text == "" {
			continue
		}
		n, fine := nodeOf(text)
		levels, there := treeByHand(st, n.Tree)
		if !fine || !there {
			return grownTable{}, false
		}
		c.nodes[k], c.trees[k] = n, grownTree{store: st, tree: n.Tree, levels: levels}
	}
	return c, true
}

// numbersAsked returns numbers of which nodes are asked: all that there may be, and others.
func numbersAsked() []int {
	list := []int{-1, -2, -16, 16, 17, 18, 64, 128, 1 << 32, 1<<32 + 1, -1 << 32, math.MinInt, math.MinInt + 1, math.MaxInt}
	for k := range 16 {
		list = append(list, k)
	}
	return list
}

// freeByHand tells the least number that no node has.
func freeByHand(c grownTable) int {
	for k := range 16 {
		if !slices.Contains(c.numbers(), k) {
			return k
		}
	}
	return -1
}

// checkTable checks all that is told of a table.
func checkTable(t *testing.T, when string, c grownTable) {
	t.Helper()
	list, ok := impl.TableList(c.store, c.tree)
	if !ok || !impl.TableOk(c.store, c.tree) || !slices.Equal(list, c.numbers()) {
		t.Errorf("%s: TableOk is false, or TableList is %v, %v instead of %v", when, list, ok, c.numbers())
	}
	for _, k := range numbersAsked() {
		want, there := c.nodes[k]
		if n, ok := impl.TableGet(c.store, c.tree, k); ok != there || n != want || ok != slices.Contains(list, k) {
			t.Errorf("%s: TableGet of %d is %v, %v instead of %v, %v", when, k, n, ok, want, there)
		}
	}
	if k := impl.TableFree(c.store, c.tree); k != freeByHand(c) {
		t.Errorf("%s: TableFree is %d instead of %d", when, k, freeByHand(c))
	}
	if all, ok := impl.TableAll(c.store, c.tree); !ok || !slices.Equal(all, c.everything()) {
		t.Errorf("%s: TableAll is %v, %v instead of %v", when, all, ok, c.everything())
	}
}

// nothingOfTable checks that a tree is told as no table, and that each function returns nothing for it.
func nothingOfTable(t *testing.T, name string, st impl.Store, tree impl.Tree) {
	t.Helper()
	if impl.TableOk(st, tree) {
		t.Errorf("%s: TableOk is true", name)
	}
	if list, ok := impl.TableList(st, tree); ok || len(list) != 0 {
		t.Errorf("%s: TableList is %v, %v", name, list, ok)
	}
	if list, ok := impl.TableAll(st, tree); ok || len(list) != 0 {
		t.Errorf("%s: TableAll is %v, %v", name, list, ok)
	}
	if k := impl.TableFree(st, tree); k != -1 {
		t.Errorf("%s: TableFree is %d", name, k)
	}
	for _, k := range []int{-1, 0, 1, 3, 4, 15, 16} {
		if n, ok := impl.TableGet(st, tree, k); ok || n != (impl.Node{}) {
			t.Errorf("%s: TableGet of %d is %v, %v", name, k, n, ok)
		}
		next, changed, ok := impl.TablePut(st, tree, k, impl.Node{Kind: impl.NodeFile, Links: 1})
		noTree(t, fmt.Sprintf("%s: TablePut of %d", name, k), next, changed, ok)
		next, changed, ok = impl.TableDrop(st, tree, k)
		noTree(t, fmt.Sprintf("%s: TableDrop of %d", name, k), next, changed, ok)
	}
}

func TestP84P88P89P90Tables(t *testing.T) {
	nodes, full := 0, 0
	for _, c := range grownTables() {
		if byHand, ok := tableByHand(c.store, c.tree); !ok || !maps.Equal(byHand.nodes, c.nodes) || !slices.Equal(byHand.everything(), c.everything()) {
			t.Fatalf("%s: the tree of the test is no table", c.name)
		}
		checkTable(t, c.name, c)
		nodes += len(c.nodes)
		if len(c.nodes) == 16 {
			full++
		}
	}
	if nodes < 1000 || full < 4 {
		t.Errorf("just %d nodes were asked for, and just %d tables had as many as there may be", nodes, full)
	}
}

func TestP84P88P89P90TablesOfHolesAlone(t *testing.T) {
	for _, c := range validStores() {
		for many := 0; many <= 16; many++ {
			tree := impl.Tree{Depth: depthByHand(many), Many: many}
			list, ok := impl.TableList(c.store, tree)
			all, fine := impl.TableAll(c.store, tree)
			if !impl.TableOk(c.store, tree) || !ok || !fine || len(list)+len(all) != 0 || impl.TableFree(c.store, tree) != 0 {
				t.Errorf("%s: %d holes are no table, or have %v, %v and %v, %v", c.name, many, list, ok, all, fine)
			}
			for _, k := range numbersAsked() {
				if n, ok := impl.TableGet(c.store, tree, k); ok || n != (impl.Node{}) {
					t.Errorf("%s: TableGet of %d of %d holes is %v, %v", c.name, k, many, n, ok)
				}
			}
		}
	}
}

func TestP84P89EachKindOfNode(t *testing.T) {
	for i, s := range nodeShapes() {
		for _, k := range []int{0, 1, 3, 4, 15} {
			for _, born := range manyBirths() {
				shapes := slices.Repeat([]int{noNode}, k)
				c := tableOf(born, append(shapes, i)...)
				checkTable(t, fmt.Sprintf("shape %d as node %d", i, k), c)
				n, ok := impl.TableGet(c.store, c.tree, k)
				if !ok || n.Kind != s.kind || n.Links != s.links || n.Size != s.size || n.Tree.Many != len(s.texts) {
					t.Fatalf("shape %d as node %d is %v, %v", i, k, n, ok)
				}
				hasTexts(t, fmt.Sprintf("the tree of shape %d as node %d", i, k), c.store, n.Tree, s.texts)
			}
		}
	}
}

func TestP88TheLeastNumberThatIsFree(t *testing.T) {
	asked := func(places []int) int {
		t.Helper()
		c := tableOf(mixedBirths(), places...)
		k := impl.TableFree(c.store, c.tree)
		checkTable(t, c.name, c)
		return k
	}
	for many := range 17 {
		places := slices.Repeat([]int{0}, many)
		want := many
		if many == 16 {
			want = -1
		}
		if k := asked(places); k != want {
			t.Errorf("TableFree of %d nodes is %d", many, k)
		}
		for hole := range many {
			places := slices.Clone(places)
			places[hole] = noNode
			if k := asked(places); k != hole {
				t.Errorf("TableFree of %d places, all nodes but %d, is %d", many, hole, k)
			}
			// The second hole does not count.
			places[many-1] = noNode
			if k := asked(places); k != hole {
				t.Errorf("TableFree of %d places, all nodes but %d and the last one, is %d", many, hole, k)
			}
		}
	}
}

func TestP88P89AllSetsOfEightNumbers(t *testing.T) {
	for _, from := range []int{0, 3, 8} {
		for set := range 256 {
			places := slices.Repeat([]int{noNode}, from+8)
			for k := range places {
				if k < from || set>>(k-from)&1 == 1 {
					places[k] = (k + set) % 4
				}
			}
			c := tableOf(mixedBirths(), places...)
			list, ok := impl.TableList(c.store, c.tree)
			if k := impl.TableFree(c.store, c.tree); !ok || !slices.Equal(list, c.numbers()) || k != freeByHand(c) {
				t.Errorf("%v: TableList is %v, %v, and TableFree %d", places, list, ok, k)
			}
		}
	}
}

func TestP90TheOrderOfAllPointers(t *testing.T) {
	// Rows from 63 downwards: 7 of the spare nodes, then the nodes' trees, places first, and the table's own tree at last.
	cases := []struct {
		shapes, rows []int
	}{
		{nil, nil},
		{[]int{0}, []int{56}},
		{[]int{2}, []int{55, 56}},
		{[]int{noNode, 2}, []int{54, 55, 56}},
		{[]int{5, 2}, []int{50, 52, 51, 54, 56, 55, 53}},
		{[]int{2, noNode, noNode, noNode, 5, 0}, []int{47, 49, 52, 48, 51, 50, 56, 53, 55, 54}},
		{[]int{6, noNode, 3, noNode}, []int{54, 56, 55}},
		{[]int{noNode, noNode, noNode}, nil},
	}
	for _, c := range cases {
		table := tableOf(mixedBirths(), c.shapes...)
		list, ok := impl.TableAll(table.store, table.tree)
		rows := []int{}
		for _, p := range list {
			rows = append(rows, p.At)
		}
		if !ok || !slices.Equal(rows, c.rows) {
			t.Errorf("%v: TableAll leads to the rows %v, %v instead of %v", c.shapes, rows, ok, c.rows)
		}
	}
}

func TestP90AllPointersAreThoseOfTheTrees(t *testing.T) {
	for _, c := range grownTables() {
		want, _ := impl.TreeAll(c.store, c.tree)
		numbers, _ := impl.TableList(c.store, c.tree)
		for _, k := range numbers {
			n, _ := impl.TableGet(c.store, c.tree, k)
			all, ok := impl.TreeAll(c.store, n.Tree)
			if !ok {
				t.Errorf("%s: the tree of node %d is not valid", c.name, k)
			}
			want = append(want, all...)
		}
		if list, ok := impl.TableAll(c.store, c.tree); !ok || !slices.Equal(list, want) || slices.Contains(list, impl.Ptr{}) {
			t.Errorf("%s: TableAll is %v, %v instead of %v", c.name, list, ok, want)
		}
	}
}

func TestP90NodesThatShareATree(t *testing.T) {
	// Each node's pointers are told, those of another one too.
	g := gardener{store: emptyStore(7)}
	n, tree := g.node(nodeShapes()[5], mixedBirths())
	own := g.grow("", []string{nodeText(n), "", nodeText(n)}, mixedBirths())
	list, ok := impl.TableAll(own.store, own.tree)
	if want := slices.Concat(own.all(), tree.all(), tree.all()); !ok || !slices.Equal(list, want) {
		t.Errorf("TableAll of two nodes with the same tree is %v, %v instead of %v", list, ok, want)
	}
}
