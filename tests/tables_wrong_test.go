package tests

import (
	"fmt"
	"maps"
	"math/rand"
	"slices"
	"strings"
	"testing"

	"loop.example/poolfiles/impl"
)

func TestP84StoresThatAreNotValid(t *testing.T) {
	for i, c := range wrongStores() {
		many := i % 17
		nothingOfTable(t, c.name, c.store, impl.Tree{Depth: depthByHand(many), Many: many})
	}
	for i, c := range someTables() {
		for j, spoil := range storeSpoils() {
			if st := changedStore(c.store, spoil); (i+j)%3 == 0 && !storeFine(st) {
				nothingOfTable(t, fmt.Sprintf("%s, store %d", c.name, j), st, c.tree)
			}
		}
	}
}

func TestP84TreesThatAreNotValid(t *testing.T) {
	for _, c := range someTables() {
		wrong := func(name string, change func(tree *impl.Tree)) {
			tree := c.tree
			change(&tree)
			if tree != c.tree {
				nothingOfTable(t, c.name+name, c.store, tree)
			}
		}
		wrong(" one level deeper", func(tree *impl.Tree) { tree.Depth++ })
		wrong(" one level less deep", func(tree *impl.Tree) { tree.Depth-- })
		wrong(" with a negative number of places", func(tree *impl.Tree) { tree.Many = -1 })
		wrong(" with too many places", func(tree *impl.Tree) { tree.Many, tree.Depth = 17, 2 })
		wrong(" with a root of another level", func(tree *impl.Tree) { tree.Root.Level++ })
		wrong(" with a root of another sum", func(tree *impl.Tree) { tree.Root.Sum ^= 1 })
		wrong(" with a root that is born later", func(tree *impl.Tree) { tree.Root.Birth = 8 })
		wrong(" with a root in another row", func(tree *impl.Tree) { tree.Root.At = 8 })
		if numbers := c.numbers(); len(numbers) > 0 {
			last := numbers[len(numbers)-1]
			wrong(" with a node behind its places", func(tree *impl.Tree) { tree.Many = last; tree.Depth = depthByHand(last) })
		}
	}
}

func TestP84RowsThatAreSpoilt(t *testing.T) {
	for i, c := range someTables() {
		for j, p := range c.everything() {
			if (i+j)%4 > 0 {
				continue
			}
			st := changedStore(c.store, func(st *impl.Store) { st.Rows[p.At] = "spoilt" })
			nothingOfTable(t, fmt.Sprintf("%s with row %d spoilt", c.name, p.At), st, c.tree)
			st = changedStore(c.store, func(st *impl.Store) {
				st.Rows[p.At], st.Space.Refs[p.At], st.Space.Last[p.At] = "", 0, 0
				st.Gone = slices.DeleteFunc(st.Gone, func(q impl.Ptr) bool { return q.At == p.At })
			})
			nothingOfTable(t, fmt.Sprintf("%s with row %d free", c.name, p.At), st, c.tree)
		}
	}
}

// around makes a table in which a place has a text, and some of the places ahead of it and behind it have nodes.
func (g *gardener) around(k int, text string) grownTree {
	texts := make([]string, 16)
	for at := range texts {
		if at%3 == k%2 {
			n, _ := g.node(nodeShapes()[at%6], mixedBirths())
			texts[at] = nodeText(n)
		}
	}
	texts[k] = text
	if k%4 == 0 {
		texts = texts[:k+1]
	}
	return g.grow(fmt.Sprintf("%.40q in place %d of %d", text, k, len(texts)), texts, mixedBirths())
}

// checkAround checks whether a tree in which one place has a text, and some others have nodes, is a table, and tells whether it is.
func checkAround(t *testing.T, k int, text string) bool {
	t.Helper()
	g := gardener{store: emptyStore(7)}
	own := g.around(k, text)
	c, ok := tableByHand(own.store, own.tree)
	if !ok {
		nothingOfTable(t, own.name, own.store, own.tree)
		return false
	}
	checkTable(t, own.name, c)
	return true
}

func TestP84TextsOfNoNode(t *testing.T) {
	texts := []string{
		"-", "text", "0", "end", "\x00", "a=1;", "8.1.1.5.0", "8.1.1.5.0,-,-,-", "-,-,-,-", "3:end", "0:0:0:0:0:0:3:end", longBlock(), strings.Repeat("1:1", 7),
		"1:11:11:01:-1:01:0", "1:11:11:01:-1:01:03:end0:", "1:11:11:01:-1:01:03:end\n", " 1:11:11:01:-1:01:03:end", "01:11:11:01:-1:01:03:end", "2:011:11:01:-1:01:03:end",
		"1:31:11:01:-1:01:03:end", "1:01:11:01:-1:01:03:end", "1:11:01:01:-1:01:03:end", "1:12:101:01:-1:01:03:end", "1:21:21:01:-1:01:03:end", "1:11:12:-11:-1:01:03:end",
		"1:11:11:11:-1:01:03:end", "1:11:11:01:-1:01:13:end", "1:11:11:01:-1:11:03:end", "1:11:13:1931:-1:22:163:end", "1:21:14:20491:-1:22:163:end", "1:11:11:00:1:01:03:end",
	}
	for _, text := range texts {
		for _, k := range []int{0, 1, 4, 9, 15} {
			if checkAround(t, k, text) {
				t.Errorf("%q in place %d is the text of a node", text, k)
			}
		}
	}
	for _, text := range []string{"1:11:11:01:-1:01:03:end", "1:21:11:01:-1:01:03:end", "1:11:13:1921:-1:22:163:end", ""} {
		for _, k := range []int{0, 1, 4, 9, 15} {
			if !checkAround(t, k, text) {
				t.Errorf("%q in place %d is no node", text, k)
			}
		}
	}
}

func TestP84NodesThatAreNotFormed(t *testing.T) {
	formed, others := 0, 0
	for i, s := range nodeShapes() {
		for part := range 5 {
			for _, more := range []int{-2, -1, 1, 2, 12, 128} {
				g := gardener{store: emptyStore(7)}
				n, _ := g.node(s, mixedBirths())
				*[]*int{&n.Kind, &n.Links, &n.Size, &n.Tree.Depth, &n.Tree.Many}[part] += more
				own := g.around(i%16, nodeText(n))
				c, ok := tableByHand(own.store, own.tree)
				if ok {
					formed++
					checkTable(t, own.name, c)
					continue
				}
				others++
				nothingOfTable(t, own.name, own.store, own.tree)
				next, changed, put := impl.TablePut(own.store, impl.Tree{}, i%16, n)
				noTree(t, fmt.Sprintf("TablePut of %v", n), next, changed, put)
			}
		}
	}
	if formed < 20 || others < 200 {
		t.Errorf("%d nodes were formed, and %d were not", formed, others)
	}
}

func TestP84P86NodesWithTreesThatAreNotValid(t *testing.T) {
	bent := 0
	for _, shape := range []int{2, 5, 7, 9, 13} {
		whole := grown("", nodeShapes()[shape].texts, mixedBirths())
		for name, bend := range pointerBends() {
			for level, row := range whole.levels {
				for i, p := range row {
					// A place may have any text.
					if p == (impl.Ptr{}) || level == 0 && strings.HasPrefix(name, "to \"") {
						continue
					}
					g := gardener{store: emptyStore(7)}
					g.bend = func(g *gardener, atLevel, at int, p impl.Ptr) impl.Ptr {
						if atLevel != level || at != i {
							return p
						}
						return bend(g, level, p)
					}
					n, _ := g.node(nodeShapes()[shape], mixedBirths())
					g.bend = nil
					own := g.around((shape+i)%16, nodeText(n))
					bent++
					when := fmt.Sprintf("shape %d, pointer %d of level %d %s", shape, i, level, name)
					nothingOfTable(t, when, own.store, own.tree)
					fine := impl.Tree{Depth: depthByHand(i), Many: i}
					next, changed, ok := impl.TablePut(own.store, fine, i, n)
					noTree(t, when+": TablePut", next, changed, ok)
				}
			}
		}
	}
	if bent < 300 {
		t.Errorf("just %d pointers were bent", bent)
	}
}

// bentTable makes a tree of nodes in which random numbers bend some things a little, so that it may be a table, or not.
func bentTable(random *rand.Rand) grownTree {
	g := gardener{store: emptyStore(7)}
	bend := func(g *gardener, level, i int, p impl.Ptr) impl.Ptr {
		part := pointerParts()[random.Intn(5)]
		if random.Intn(25) == 0 {
			*part.of(&p) += random.Intn(3) - 1
		}
		return p
	}
	texts := make([]string, random.Intn(17))
	for k := range texts {
		if random.Intn(3) == 0 {
			continue
		}
		g.bend = bend
		n, _ := g.node(nodeShapes()[random.Intn(10)%6], manyBirths()[random.Intn(4)])
		part := []*int{&n.Kind, &n.Links, &n.Size, &n.Tree.Depth, &n.Tree.Many, &n.Tree.Root.Birth, &n.Tree.Root.At}[random.Intn(7)]
		if random.Intn(9) == 0 {
			*part += random.Intn(3) - 1
		}
		texts[k] = nodeText(n)
		if random.Intn(40) == 0 {
			at := random.Intn(len(texts[k]))
			texts[k] = texts[k][:at] + fmt.Sprint(random.Intn(10)) + texts[k][at+1:]
		}
	}
	g.bend = nil
	if random.Intn(4) == 0 {
		g.bend = bend
	}
	c := g.grow("", texts, manyBirths()[random.Intn(4)])
	if random.Intn(12) == 0 {
		*[]*int{&c.tree.Many, &c.tree.Depth, &c.tree.Root.Birth}[random.Intn(3)] += random.Intn(3) - 1
	}
	return c
}

func TestP84P89P90TablesBentALittle(t *testing.T) {
	many := map[bool]int{}
	for seed := range int64(3000) {
		own := bentTable(rand.New(rand.NewSource(seed)))
		name := fmt.Sprint("seed ", seed)
		c, fine := tableByHand(own.store, own.tree)
		many[fine]++
		if fine {
			checkTable(t, name, c)
		} else {
			nothingOfTable(t, name, own.store, own.tree)
		}
	}
	if many[true] < 500 || many[false] < 500 {
		t.Errorf("just %d trees were tables and %d were not", many[true], many[false])
	}
}

func TestP84TablesInLaterGroups(t *testing.T) {
	// A node's tree may be made in any group up to the one that is open, whenever the table was made.
	for _, made := range []int{1, 4, 7} {
		for txg := 1; txg <= 8; txg++ {
			g := gardener{store: emptyStore(8)}
			n, tree := g.node(nodeShapes()[5], births{of: func(int, int) int { return made }})
			own := g.grow("", []string{"", nodeText(n)}, births{of: func(int, int) int { return 1 }})
			st := withTxg(own.store, txg)
			if ok := impl.TableOk(st, own.tree); ok != (txg >= made) {
				t.Errorf("a node's tree made in group %d, asked for in group %d: TableOk is %v", made, txg, ok)
			}
			want := grownTable{grownTree: own, nodes: map[int]impl.Node{1: n}, trees: map[int]grownTree{1: tree}}
			want.store = st
			if txg >= made {
				checkTable(t, fmt.Sprint("made in ", made, ", in group ", txg), want)
			} else {
				nothingOfTable(t, fmt.Sprint("made in ", made, ", in group ", txg), st, own.tree)
			}
		}
	}
}

func TestP89WhatIsToldOfOneTableIsNotThatOfAnother(t *testing.T) {
	// Two tables in one store, of which the second one has the nodes of the first one in the other order.
	g := gardener{store: emptyStore(7)}
	one := g.table("one", []int{0, noNode, 5, 8}, mixedBirths())
	texts := slices.Clone(one.texts)
	slices.Reverse(texts)
	own := g.grow("other", texts, mixedBirths())
	two, ok := tableByHand(own.store, own.tree)
	one.store = own.store
	if !ok || maps.Equal(one.nodes, two.nodes) {
		t.Fatalf("the second table of the test is none, or like the first one")
	}
	checkTable(t, "one", one)
	checkTable(t, "the other", two)
}
