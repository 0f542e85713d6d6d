package tests

import (
	"fmt"
	"maps"
	"slices"
	"testing"

	"loop.example/poolfiles/impl"
)

// placesNeeded tells how many places there are up to the last one that has a text.
func placesNeeded(texts []string) int {
	many := 0
	for k, text := range texts {
		if text != "" {
			many = k + 1
		}
	}
	return many
}

// dropByHand tells what TableDrop returns of a table and a node that it has, step by step: by StoreFree, and by what is told by hand of TreePut and TreeCut.
func dropByHand(c grownTable, k int) (impl.Store, impl.Tree, bool) {
	st, ok := c.store, true
	for _, p := range c.trees[k].all() {
		if st, ok = impl.StoreFree(st, p); !ok {
			return impl.Store{}, impl.Tree{}, false
		}
	}
	levels, ok := treeByHand(st, c.tree)
	if !ok {
		return impl.Store{}, impl.Tree{}, false
	}
	st, tree, ok := putByHand(grownTree{store: st, tree: c.tree, texts: c.texts, levels: levels}, k, "")
	texts := behindPut(c.texts, k, "")
	levels, fine := treeByHand(st, tree)
	if !ok || !fine {
		return impl.Store{}, impl.Tree{}, false
	}
	return cutByHand(grownTree{store: st, tree: tree, texts: texts, levels: levels}, placesNeeded(texts))
}

// behindDrop tells a table behind a node was dropped, the other nodes' trees being where they were.
func behindDrop(st impl.Store, tree impl.Tree, c grownTable, k int) (grownTable, bool) {
	levels, ok := treeByHand(st, tree)
	next := grownTable{nodes: maps.Clone(c.nodes), trees: maps.Clone(c.trees), spares: c.spares}
	texts := behindPut(c.texts, k, "")
	next.grownTree = grownTree{name: c.name, store: st, tree: tree, texts: texts[:placesNeeded(texts)], levels: levels}
	delete(next.nodes, k)
	delete(next.trees, k)
	return next, ok
}

// checkDrop checks what TableDrop returns of a table and a node that it has, and tells whether there was room.
func checkDrop(t *testing.T, c grownTable, k int) bool {
	t.Helper()
	when := fmt.Sprintf("%s: TableDrop of node %d", c.name, k)
	want, tree, fine := dropByHand(c, k)
	next, changed, ok := impl.TableDrop(c.store, c.tree, k)
	if ok != fine || changed != tree || !sameStore(next, want) {
		t.Errorf("%s is %v, %v instead of %v, %v, or tells another store", when, changed, ok, tree, fine)
		return ok
	}
	if !ok {
		return false
	}
	behind, is := behindDrop(next, changed, c, k)
	if !is || !impl.StoreOk(next) || changed.Many != len(behind.texts) {
		t.Errorf("%s: the store is not valid, or the table %v is not", when, changed)
		return true
	}
	checkTable(t, when, behind)
	checkStay(t, when, c, next, behind.numbers())
	earlierStay(t, when, c.store, next, c.everything())
	checkPointersLess(t, when, c, next, changed, k)
	return true
}

// checkPointersLess checks that behind TableDrop a table has as many pointers less as the node had, and its own tree, and the store as many references less that are not given up.
func checkPointersLess(t *testing.T, when string, c grownTable, next impl.Store, changed impl.Tree, k int) {
	t.Helper()
	before, _ := impl.TableAll(c.store, c.tree)
	after, _ := impl.TableAll(next, changed)
	own, _ := impl.TreeAll(c.store, c.tree)
	left, _ := impl.TreeAll(next, changed)
	if less := len(c.trees[k].all()) + len(own) - len(left); len(before)-len(after) != less {
		t.Errorf("%s: there are %d pointers and then %d, instead of %d less", when, len(before), len(after), less)
	}
	others := refsIn(c.store.Space) - len(before) - len(c.store.Gone) - len(c.store.Dead)
	if refs := refsIn(next.Space); refs != len(after)+len(next.Gone)+len(next.Dead)+others {
		t.Errorf("%s: there are %d references, %d of the table, %d in Gone, %d in Dead, %d others", when, refs, len(after), len(next.Gone), len(next.Dead), others)
	}
}

func TestP87NodesAreDropped(t *testing.T) {
	dropped := 0
	for i, c := range grownTables() {
		for _, k := range c.numbers() {
			if (i+k)%2 == 0 && checkDrop(t, c, k) {
				dropped++
			}
		}
	}
	if dropped < 700 {
		t.Errorf("just %d nodes were dropped", dropped)
	}
}

func TestP87NodesThatThereAreNot(t *testing.T) {
	for _, c := range grownTables() {
		for _, k := range numbersAsked() {
			if slices.Contains(c.numbers(), k) {
				continue
			}
			next, tree, ok := impl.TableDrop(c.store, c.tree, k)
			noTree(t, fmt.Sprintf("%s: TableDrop of node %d", c.name, k), next, tree, ok)
		}
	}
	for _, c := range validStores() {
		for many := 0; many <= 16; many++ {
			for _, k := range []int{0, many - 1, many, 15} {
				next, tree, ok := impl.TableDrop(c.store, impl.Tree{Depth: depthByHand(many), Many: many}, k)
				noTree(t, fmt.Sprintf("%s: TableDrop of node %d of %d holes", c.name, k, many), next, tree, ok)
			}
		}
	}
}

func TestP87TheOnlyNode(t *testing.T) {
	for k := range 16 {
		for i := range nodeShapes() {
			for _, behind := range []int{0, 1, 15 - k} {
				shapes := slices.Repeat([]int{noNode}, min(16, k+1+behind))
				shapes[k] = i
				c := tableOf(mixedBirths(), shapes...)
				next, tree, ok := impl.TableDrop(c.store, c.tree, k)
				if !ok || tree != (impl.Tree{}) || refsIn(nextGroup(t, next).Space) != 7 {
					t.Errorf("%s: TableDrop of node %d, the only one, is %v, %v, or leaves blocks", c.name, k, tree, ok)
				}
				if impl.TableFree(next, tree) != 0 || !impl.TableOk(next, tree) {
					t.Errorf("%s: behind TableDrop of node %d TableFree is %d", c.name, k, impl.TableFree(next, tree))
				}
			}
		}
	}
}

func TestP87TheLastNode(t *testing.T) {
	// The table is cut behind the last node that is left, whatever holes there are, and may become less deep.
	for last := 1; last < 16; last++ {
		for left := range last {
			for _, i := range []int{0, 5, 6} {
				for _, behind := range []int{0, 15 - last} {
					shapes := slices.Repeat([]int{noNode}, last+1+behind)
					shapes[left], shapes[last] = 2, i
					if left > 0 {
						shapes[left/2] = 4
					}
					c := tableOf(mixedBirths(), shapes...)
					next, tree, ok := impl.TableDrop(c.store, c.tree, last)
					if !ok || tree.Many != left+1 || tree.Depth != depthByHand(left+1) {
						t.Fatalf("%s: TableDrop of node %d is %v, %v", c.name, last, tree, ok)
					}
					list, is := impl.TableList(next, tree)
					if want := slices.DeleteFunc(c.numbers(), func(k int) bool { return k == last }); !is || !slices.Equal(list, want) {
						t.Errorf("%s: behind TableDrop of node %d there are %v, %v instead of %v", c.name, last, list, is, want)
					}
				}
			}
		}
	}
}

func TestP87HolesBehindTheLastNode(t *testing.T) {
	// They are cut off, too, if another node than the last one is dropped.
	for many := 3; many <= 16; many++ {
		shapes := slices.Repeat([]int{noNode}, many)
		shapes[0], shapes[1] = 2, 5
		for k, left := range []int{2, 1} {
			c := tableOf(mixedBirths(), shapes...)
			next, tree, ok := impl.TableDrop(c.store, c.tree, k)
			if !ok || tree.Many != left || tree.Depth != left-1 || !impl.TableOk(next, tree) {
				t.Errorf("%s: TableDrop of node %d is %v, %v", c.name, k, tree, ok)
			}
		}
	}
}

func TestP87AllNodesOneByOne(t *testing.T) {
	for i, c := range someTables() {
		numbers := c.numbers()
		switch i % 3 {
		case 1:
			slices.Reverse(numbers)
		case 2:
			slices.SortFunc(numbers, func(a, b int) int { return a*7%16 - b*7%16 })
		}
		others := refsIn(c.store.Space) - len(c.everything()) - len(c.store.Gone) - len(c.store.Dead)
		for _, k := range numbers {
			next, tree, ok := impl.TableDrop(c.store, c.tree, k)
			if _, there := impl.TableGet(next, tree, k); !ok || there || !impl.TableOk(next, tree) {
				t.Fatalf("%s: TableDrop of node %d is %v, %v, or leaves it", c.name, k, tree, ok)
			}
			c, _ = behindDrop(next, tree, c, k)
			checkTable(t, c.name, c)
		}
		if len(numbers) > 0 && c.tree != (impl.Tree{}) || refsIn(c.store.Space) != len(c.store.Gone)+len(c.store.Dead)+others {
			t.Errorf("%s: behind all were dropped there is %v, or there are blocks", c.name, c.tree)
		}
	}
}

func TestP87StepByStep(t *testing.T) {
	// Rows from 63 downwards: a folder's block, a file's two blocks with what is above them, and then the table: two texts, and the root.
	g := gardener{store: emptyStore(7)}
	folder, _ := g.node(folderShape("a=1;"), mixedBirths())
	file, tree := g.node(fileShape(1, "abcdefghijklm"), mixedBirths())
	own := g.grow("", []string{nodeText(folder), nodeText(file)}, mixedBirths())
	list := slices.Concat(tree.all(), []impl.Ptr{own.tree.Root, own.leaves()[1]})
	// Behind the put of the hole there is a root of this group, which the cut to one place gives up.
	next, changed, ok := impl.TableDrop(own.store, own.tree, 1)
	want := withGiven(copyStore(own.store), list, 0, nil)
	if !ok || changed != (impl.Tree{Root: own.leaves()[0], Many: 1}) || !sameStore(next, want) || len(list) != 5 {
		t.Errorf("TableDrop of node 1 is %v, %v, and Gone %v instead of %v", changed, ok, next.Gone, list)
	}
	next, changed, ok = impl.TableDrop(own.store, own.tree, 0)
	fan := fanByHand([]impl.Ptr{{}, own.leaves()[1], {}, {}})
	want = changedStore(own.store, func(st *impl.Store) {
		st.Rows[8], st.Space.Refs[8], st.Space.Last[8] = fan, 1, 7
		st.Gone = []impl.Ptr{folder.Tree.Root, own.tree.Root, own.leaves()[0]}
	})
	if !ok || changed != (impl.Tree{Root: toBlock(8, 7, 1, fan), Depth: 1, Many: 2}) || !sameStore(next, want) {
		t.Errorf("TableDrop of node 0 is %v, %v, and Gone %v", changed, ok, next.Gone)
	}
}

// agedTable is a table of 16 nodes in group 9, the pointers of which were made in all groups up to that.
func agedTable(keep int) grownTable {
	g := gardener{store: emptyStore(9)}
	born := func(from int) births {
		return births{of: func(level, i int) int { return min(9, 1+(from+5*i)%5+2*level) }}
	}
	c := grownTable{nodes: map[int]impl.Node{}, trees: map[int]grownTree{}}
	texts := []string{}
	for k := range 16 {
		shape := 0
		if k%3 == 2 {
			shape = 5
		}
		c.nodes[k], c.trees[k] = g.node(nodeShapes()[shape], born(2*k))
		texts = append(texts, nodeText(c.nodes[k]))
	}
	g.store.Keep = keep
	c.grownTree = g.grow(fmt.Sprint("Keep ", keep), texts, births{of: func(level, i int) int {
		return [][]int{{1 + i*5%7}, {7 + i%2}, {9}}[level][0]
	}})
	return c
}

func TestP87TheOrderInWhichBlocksAreGivenUp(t *testing.T) {
	for keep := range 9 {
		c := agedTable(keep)
		for k := range 16 {
			next, _, ok := impl.TableDrop(c.store, c.tree, k)
			if !ok {
				t.Fatalf("%s: TableDrop of node %d fails", c.name, k)
			}
			list := slices.Concat(c.trees[k].all(), []impl.Ptr{c.tree.Root, c.levels[1][k/4], c.leaves()[k]})
			checkGiven(t, fmt.Sprintf("%s: TableDrop of node %d", c.name, k), c.store, next, list)
			checkDrop(t, c, k)
		}
	}
}

func TestP87NodesOfThisGroupAndOfEarlierOnes(t *testing.T) {
	for i, s := range nodeShapes() {
		g := gardener{store: emptyStore(7)}
		c := g.table("table", []int{0, noNode, noNode, i, noNode, noNode, noNode, 1}, manyBirths()[0])
		free := roomIn(c.store)
		next, tree, ok := impl.TableDrop(c.store, c.tree, 3)
		// All rows of the node are free at once, with that of its text.
		if !ok || roomIn(next) != free+s.rows()+1 || len(next.Gone)+len(next.Dead) > 0 {
			t.Errorf("shape %d, made in this group: TableDrop is %v, %v, and %d rows are free behind %d", i, tree, ok, roomIn(next), free)
		}
		later := nextGroup(t, c.store)
		next, tree, ok = impl.TableDrop(later, c.tree, 3)
		// The indirect block above the text and the root are written anew.
		if !ok || roomIn(next) != free-2 || len(next.Gone) != s.rows()+3 || roomIn(nextGroup(t, next)) != free+s.rows()+1 {
			t.Errorf("shape %d, made in an earlier group: TableDrop is %v, %v, and %d rows are free behind %d", i, tree, ok, roomIn(next), free)
		}
	}
}

func TestP87WhatSnapshotsNeedStays(t *testing.T) {
	for i, c := range someTables() {
		if i%2 == 0 {
			continue
		}
		for keep := range 7 {
			c.store.Keep, c.store.Dead = keep, nil
			for _, k := range c.numbers() {
				next, _, ok := impl.TableDrop(c.store, c.tree, k)
				needed := slices.DeleteFunc(c.trees[k].all(), func(p impl.Ptr) bool { return p.Birth > keep })
				if !ok || len(next.Dead) < len(needed) || !slices.Equal(next.Dead[:len(needed)], needed) {
					t.Errorf("%s: with Keep %d TableDrop of node %d is %v, and Dead %v begins not with %v", c.name, keep, k, ok, next.Dead, needed)
				}
				earlierStay(t, c.name, c.store, nextGroup(t, next), needed)
			}
		}
	}
}

func TestP87WhatWasPutIsDropped(t *testing.T) {
	// In a table of numbers up to the one that is put, all is as it was, but for what the put wrote anew.
	for i, c := range someTables() {
		numbers := c.numbers()
		if len(numbers) > 0 && numbers[len(numbers)-1] < c.tree.Many-1 {
			continue
		}
		for k := range 16 {
			if slices.Contains(numbers, k) {
				continue
			}
			n := impl.Node{Kind: impl.NodeFile, Links: 1 + i%9}
			st, tree, ok := impl.TablePut(c.store, c.tree, k, n)
			next, back, is := impl.TableDrop(st, tree, k)
			many := c.tree.Many
			if len(numbers) == 0 {
				many = 0
			}
			list, _ := impl.TableList(next, back)
			if !ok || !is || back.Many != many || !slices.Equal(list, numbers) {
				t.Errorf("%s: behind TablePut and TableDrop of node %d there is %v, %v, %v, with %v", c.name, k, back, ok, is, list)
			}
			checkStay(t, c.name, c, next, numbers)
		}
	}
}

func TestP87NodesWhoseRowsAreShared(t *testing.T) {
	// With Same two files of the same bytes, put in different groups, have the same rows; each reference is one node's.
	st, tree := impl.StoreNew(true), impl.Tree{}
	for k := range 3 {
		next, blob, ok := impl.BlobPut(st, impl.Tree{}, "the same bytes")
		next, grown, is := impl.TablePut(next, tree, k, impl.Node{Kind: impl.NodeFolder, Links: 1, Size: 14, Tree: blob})
		if !ok || !is {
			t.Fatalf("node %d is not put", k)
		}
		st, tree = nextGroup(t, next), grown
	}
	c, ok := tableByHand(st, tree)
	if row := c.nodes[0].Tree.Root.At; !ok || c.nodes[1].Tree.Root.At != row || c.nodes[2].Tree.Root.At != row || st.Space.Refs[row] != 3 {
		t.Fatalf("the nodes %v do not share a row", c.nodes)
	}
	for _, k := range []int{1, 2, 0} {
		checkDrop(t, c, k)
		next, changed, _ := impl.TableDrop(c.store, c.tree, k)
		for _, other := range []int{0, 1, 2} {
			n, there := impl.TableGet(next, changed, other)
			text, is := impl.BlobGet(next, n.Tree)
			if there != (other != k) || there && (!is || text != "the same bytes") {
				t.Errorf("behind TableDrop of node %d node %d is %v, %v, with %q", k, other, n, there, text)
			}
		}
	}
}

func TestTableDropOfATreeThatTwoNodesHave(t *testing.T) {
	// Nothing that the document says of tables rules this out: each block is given up, though the other node needs it.
	for _, birth := range []int{3, 7} {
		g := gardener{store: emptyStore(7)}
		born := births{of: func(int, int) int { return birth }}
		n, tree := g.node(nodeShapes()[2], born)
		own := g.grow("", []string{nodeText(n), nodeText(n)}, born)
		next, changed, ok := impl.TableDrop(own.store, own.tree, 1)
		if !ok || !impl.StoreOk(next) || impl.TableOk(next, changed) != (birth < 7) {
			t.Errorf("born in %d: TableDrop of one of two nodes with the same tree is %v, %v", birth, changed, ok)
		}
		// What was given up in this group already cannot be given up a second time; the store would not be valid.
		next, changed, ok = impl.TableDrop(next, changed, 0)
		noTree(t, fmt.Sprintf("born in %d: TableDrop of the other one", birth), next, changed, ok)
		// With two references each of them has its own.
		own.store.Space.Refs[tree.tree.Root.At] = 2
		next, changed, ok = impl.TableDrop(own.store, own.tree, 1)
		last, none, fine := impl.TableDrop(next, changed, 0)
		if !ok || !fine || none != (impl.Tree{}) || refsIn(nextGroup(t, last).Space) != 0 {
			t.Errorf("born in %d: with two references TableDrop of both nodes is %v, %v, and leaves %v", birth, ok, fine, none)
		}
	}
}

func TestTableDropInATableThatWasGivenUp(t *testing.T) {
	// The old table is still there, but its node was given up with it.
	c := tableOf(mixedBirths(), 2, 5, 0)
	st, _, ok := impl.TableDrop(c.store, c.tree, 1)
	if !ok || !impl.TableOk(st, c.tree) {
		t.Fatalf("behind TableDrop, %v, the old table is none", ok)
	}
	next, tree, ok := impl.TableDrop(st, c.tree, 1)
	noTree(t, "TableDrop of a node that was dropped already", next, tree, ok)
}
