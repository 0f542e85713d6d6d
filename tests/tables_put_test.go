package tests

import (
	"fmt"
	"maps"
	"slices"
	"testing"

	"loop.example/poolfiles/impl"
)

// behindTablePut tells a table behind a put, its nodes' trees being where they were.
func behindTablePut(st impl.Store, tree impl.Tree, c grownTable, k int, n impl.Node) (grownTable, bool) {
	levels, ok := treeByHand(st, tree)
	trees, fine := treeByHand(st, n.Tree)
	next := grownTable{nodes: maps.Clone(c.nodes), trees: maps.Clone(c.trees), spares: c.spares}
	next.grownTree = grownTree{name: c.name, store: st, tree: tree, texts: behindPut(c.texts, k, nodeText(n)), levels: levels}
	next.nodes[k], next.trees[k] = n, grownTree{store: st, tree: n.Tree, levels: trees}
	return next, ok && fine
}

// checkStay checks that the trees of some nodes are just as they were.
func checkStay(t *testing.T, when string, c grownTable, next impl.Store, numbers []int) {
	t.Helper()
	for _, k := range numbers {
		was, there := treeByHand(c.store, c.nodes[k].Tree)
		is, ok := treeByHand(next, c.nodes[k].Tree)
		if !there || !ok || !slices.EqualFunc(is, was, slices.Equal) {
			t.Errorf("%s: the tree of node %d is another one, %v", when, k, ok)
		}
		for place := range c.nodes[k].Tree.Many {
			one, _ := impl.TreeGet(c.store, c.nodes[k].Tree, place)
			if two, ok := impl.TreeGet(next, c.nodes[k].Tree, place); !ok || one != two {
				t.Errorf("%s: place %d of the tree of node %d has %.9q, %v instead of %.9q", when, place, k, two, ok, one)
			}
		}
	}
}

// checkTablePut checks what TablePut returns of a table, a number that a node may have, and a node that is formed and whose tree is valid, and tells whether there was room.
func checkTablePut(t *testing.T, c grownTable, k int, n impl.Node) bool {
	t.Helper()
	when := fmt.Sprintf("%s: TablePut of %v as node %d", c.name, n, k)
	want, tree, fine := putByHand(c.grownTree, k, nodeText(n))
	next, changed, ok := impl.TablePut(c.store, c.tree, k, n)
	if ok != fine || changed != tree || !sameStore(next, want) {
		t.Errorf("%s is %v, %v instead of %v, %v, or tells another store", when, changed, ok, tree, fine)
		return ok
	}
	if !ok {
		return false
	}
	behind, is := behindTablePut(next, changed, c, k, n)
	if !is || !impl.StoreOk(next) {
		t.Errorf("%s: the store is not valid, or the table is not", when)
		return true
	}
	checkTable(t, when, behind)
	// The tree of a node that was there stays, too.
	checkStay(t, when, c, next, c.numbers())
	earlierStay(t, when, c.store, next, c.everything())
	rowsByTrees(t, when, next, changed, othersIn(c.grownTree))
	return true
}

func TestP86NodesArePut(t *testing.T) {
	put := 0
	for i, c := range someTables() {
		for k := range 16 {
			for j, n := range c.spares {
				if (i+j+3*k)%8 == 0 && checkTablePut(t, c, k, n) {
					put++
				}
			}
		}
	}
	if put < 1000 {
		t.Errorf("just %d nodes were put", put)
	}
}

func TestP86EachKindOfNodeInEachPlace(t *testing.T) {
	for _, many := range []int{0, 1, 3, 4, 7} {
		for i, s := range nodeShapes() {
			for k := range 16 {
				if (i+k+many)%3 > 0 {
					continue
				}
				g := gardener{store: emptyStore(7)}
				n, _ := g.node(s, manyBirths()[(i+k)%4])
				c := g.table("table", slices.Repeat([]int{3}, many), manyBirths()[k%4])
				if !checkTablePut(t, c, k, n) {
					t.Errorf("%s: shape %d is not put as node %d", c.name, i, k)
				}
			}
		}
	}
}

func TestP86TheLastNumberOfASmallTable(t *testing.T) {
	for _, shapes := range [][]int{{}, {0}, {5}, {noNode, 2}, {0, 0, 0, 0}, {2, noNode, noNode, noNode, 4}} {
		c := tableOf(mixedBirths(), shapes...)
		for _, n := range c.spares {
			next, tree, ok := impl.TablePut(c.store, c.tree, 15, n)
			if !ok || tree.Many != 16 || tree.Depth != 2 {
				t.Fatalf("%s: TablePut of node 15 is %v, %v", c.name, tree, ok)
			}
			list, _ := impl.TableList(next, tree)
			if want := append(c.numbers(), 15); !slices.Equal(list, want) {
				t.Errorf("%s: behind TablePut of node 15 there are %v instead of %v", c.name, list, want)
			}
			if got, ok := impl.TableGet(next, tree, 15); !ok || got != n {
				t.Errorf("%s: node 15 is %v, %v instead of %v", c.name, got, ok, n)
			}
		}
	}
}

func TestP86StepByStepFromNoPlace(t *testing.T) {
	file, folder := impl.Node{Kind: impl.NodeFile, Links: 1}, impl.Node{Kind: impl.NodeFolder, Links: 1}
	one, two := "1:11:11:01:-1:01:03:end", "1:21:11:01:-1:01:03:end"
	hole := impl.Ptr{}
	st, tree, ok := impl.TablePut(impl.StoreNew(false), impl.Tree{}, 0, folder)
	if !ok || tree != (impl.Tree{Root: toBlock(8, 1, 0, two), Many: 1}) || !sameStore(st, storeWith(1, heldRow{8, two, 1, 1})) {
		t.Fatalf("the first put tells %v, %v", tree, ok)
	}
	st, tree, ok = impl.TablePut(st, tree, 2, file)
	fan := fanByHand([]impl.Ptr{toBlock(8, 1, 0, two), hole, toBlock(9, 1, 0, one), hole})
	want := storeWith(1, heldRow{8, two, 1, 1}, heldRow{9, one, 1, 1}, heldRow{10, fan, 1, 1})
	if !ok || tree != (impl.Tree{Root: toBlock(10, 1, 1, fan), Depth: 1, Many: 3}) || !sameStore(st, want) {
		t.Fatalf("the second put tells %v, %v", tree, ok)
	}
	// The node that was there is put away by the next one: just its text, which is of this group, and the root above it are given up.
	file.Links = 2
	other := "1:11:21:01:-1:01:03:end"
	st, tree, ok = impl.TablePut(st, tree, 2, file)
	fan = fanByHand([]impl.Ptr{toBlock(8, 1, 0, two), hole, toBlock(11, 1, 0, other), hole})
	want = storeWith(1, heldRow{8, two, 1, 1}, heldRow{11, other, 1, 1}, heldRow{12, fan, 1, 1})
	if !ok || tree != (impl.Tree{Root: toBlock(12, 1, 1, fan), Depth: 1, Many: 3}) || !sameStore(st, want) {
		t.Fatalf("the third put tells %v, %v", tree, ok)
	}
	if list, ok := impl.TableList(st, tree); !ok || !slices.Equal(list, []int{0, 2}) || impl.TableFree(st, tree) != 1 {
		t.Errorf("TableList is %v, %v, and TableFree %d", list, ok, impl.TableFree(st, tree))
	}
}

func TestP86TheTreeOfTheNodeThatWasThere(t *testing.T) {
	for _, c := range someTables() {
		for _, k := range c.numbers() {
			next, tree, ok := impl.TablePut(c.store, c.tree, k, impl.Node{Kind: impl.NodeFile, Links: 7})
			if !ok || !impl.TreeOk(next, c.nodes[k].Tree) {
				t.Fatalf("%s: TablePut in place of node %d is %v, or the tree of that is not valid", c.name, k, ok)
			}
			checkStay(t, c.name, c, next, []int{k})
			// It may be put again.
			next, tree, ok = impl.TablePut(next, tree, k, c.nodes[k])
			list, fine := impl.TableAll(next, tree)
			if n, there := impl.TableGet(next, tree, k); !ok || !there || n != c.nodes[k] || !fine || len(list) != len(c.everything()) {
				t.Errorf("%s: node %d is put again, %v, as %v, %v", c.name, k, ok, n, there)
			}
		}
	}
}

func TestP84P86NodesWhoseTreesWereChanged(t *testing.T) {
	// Blocks of this group are gone at once when a tree is changed, so that a table that leads to the old tree is none any more; those of earlier groups are still there.
	for j, born := range []births{manyBirths()[0], manyBirths()[1]} {
		c := tableOf(born, 0, 5)
		st, tree, ok := impl.TreePut(c.store, c.nodes[1].Tree, 0, "other")
		n := c.nodes[1]
		n.Tree = tree
		next, table, put := impl.TablePut(st, c.tree, 1, n)
		if !ok || put != (j == 1) || impl.TableOk(st, c.tree) != put {
			t.Errorf("%s: TablePut of a node whose tree was changed is %v, %v", c.name, table, put)
		}
		if got, there := impl.TableGet(next, table, 1); there != put || put && got != n {
			t.Errorf("%s: node 1 is %v, %v instead of %v", c.name, got, there, n)
		}
		if !put {
			noTree(t, c.name+": TablePut", next, table, put)
			nothingOfTable(t, c.name, st, c.tree)
		}
	}
}

func TestP86NodesWithTheTreeOfAnotherOne(t *testing.T) {
	for i, c := range someTables() {
		if i%3 > 0 {
			continue
		}
		for _, k := range c.numbers() {
			for _, at := range []int{0, k, 15} {
				checkTablePut(t, c, at, c.nodes[k])
			}
		}
	}
}

func TestP86NumbersThatAreNone(t *testing.T) {
	for _, c := range someTables() {
		for _, k := range numbersAsked() {
			if k >= 0 && k < 16 {
				continue
			}
			for _, n := range c.spares {
				next, tree, ok := impl.TablePut(c.store, c.tree, k, n)
				noTree(t, fmt.Sprintf("%s: TablePut of node %d", c.name, k), next, tree, ok)
			}
		}
	}
}

// wrongNodes returns nodes that are like one that is formed and whose tree is valid, but are not formed, or their tree is not valid.
func wrongNodes(n impl.Node) []impl.Node {
	list := []impl.Node{{}}
	wrong := func(change func(n *impl.Node)) {
		other := n
		change(&other)
		list = append(list, other)
	}
	for _, kind := range noKinds() {
		wrong(func(n *impl.Node) { n.Kind = kind })
	}
	for _, links := range []int{0, -1, 10, 1 << 32} {
		wrong(func(n *impl.Node) { n.Links = links })
	}
	for _, size := range []int{-1, -n.Size - 1, n.Size + 128, n.Size - 128, 2049, 1<<32 + n.Size} {
		wrong(func(n *impl.Node) { n.Size = size })
	}
	for _, many := range []int{-1, n.Tree.Many - 1, n.Tree.Many + 1, 17} {
		wrong(func(n *impl.Node) { n.Tree.Many = many })
		wrong(func(n *impl.Node) { n.Tree.Many = many; n.Tree.Depth = depthByHand(many) })
	}
	for _, depth := range []int{-1, n.Tree.Depth - 1, n.Tree.Depth + 1, 3} {
		wrong(func(n *impl.Node) { n.Tree.Depth = depth })
	}
	if n.Tree.Root == (impl.Ptr{}) {
		// A root that leads to a free row, and one without any place.
		root := toBlock(8, 1, n.Tree.Depth, "text")
		wrong(func(n *impl.Node) { n.Tree.Root = root })
		return list
	}
	for i, more := range []int{1, -1, 64} {
		wrong(func(n *impl.Node) { n.Tree.Root.At = []int{8, 7, 64}[i] })
		wrong(func(n *impl.Node) { n.Tree.Root.Birth = []int{0, 8, 900}[i] })
		wrong(func(n *impl.Node) { n.Tree.Root.Size += more })
		wrong(func(n *impl.Node) { n.Tree.Root.Sum += more })
		wrong(func(n *impl.Node) { n.Tree.Root.Level += more })
	}
	return list
}

func TestP86NodesThatAreNotValid(t *testing.T) {
	for i, c := range someTables() {
		for j, n := range c.spares {
			for at, wrong := range wrongNodes(n) {
				if (i+j+at)%4 > 0 {
					continue
				}
				for _, k := range []int{0, at % 16} {
					next, tree, ok := impl.TablePut(c.store, c.tree, k, wrong)
					noTree(t, fmt.Sprintf("%s: TablePut of %v as node %d", c.name, wrong, k), next, tree, ok)
				}
			}
		}
	}
}

func TestP86TreesThatAreNoTables(t *testing.T) {
	for _, trees := range [][]grownTree{grownTrees(), keptTrees()} {
		for i, c := range trees {
			n := impl.Node{Kind: impl.NodeFile, Links: 1}
			next, tree, ok := impl.TablePut(c.store, c.tree, i%16, n)
			if len(c.all()) == 0 {
				if got, is := impl.TableGet(next, tree, i%16); !ok || !is || got != n {
					t.Errorf("%s: TablePut to a table of holes is %v, %v", c.name, tree, ok)
				}
				continue
			}
			noTree(t, c.name+": TablePut", next, tree, ok)
		}
	}
}

func TestP85WhatIsThereIsPut(t *testing.T) {
	put := 0
	for _, c := range grownTables() {
		for _, st := range []impl.Store{c.store, leaveFree(c.store, 0)} {
			for k := range 16 {
				n, ok := impl.TableGet(st, c.tree, k)
				if !ok {
					continue
				}
				put++
				next, tree, ok := impl.TablePut(st, c.tree, k, n)
				if !ok || tree != c.tree || !sameStore(next, st) {
					t.Errorf("%s: TablePut of what is node %d is %v, %v, or tells another store", c.name, k, tree, ok)
				}
			}
		}
	}
	if put < 2000 {
		t.Errorf("just %d nodes were put", put)
	}
}

func TestP85WhatWasPutIsPutAgain(t *testing.T) {
	for i, c := range someTables() {
		for k := range 16 {
			n := c.spares[(i+k)%len(c.spares)]
			st, tree, ok := impl.TablePut(c.store, c.tree, k, n)
			got, there := impl.TableGet(st, tree, k)
			next, again, is := impl.TablePut(st, tree, k, got)
			if !ok || !there || got != n || !is || again != tree || !sameStore(next, st) {
				t.Errorf("%s: the second TablePut of node %d is %v, %v instead of %v, %v, or tells another store", c.name, k, again, is, tree, ok)
			}
		}
	}
}
