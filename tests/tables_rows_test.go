package tests

import (
	"fmt"
	"slices"
	"testing"

	"loop.example/poolfiles/impl"
)

// allPlaces returns the places of a table that has so many nodes, all of the same shape.
func allPlaces(many, shape int) []int {
	return slices.Repeat([]int{shape}, many)
}

// justPlaces returns so many places of a table, just some of which have nodes, all of the same shape.
func justPlaces(many, shape int, numbers ...int) []int {
	list := allPlaces(many, noNode)
	for _, k := range numbers {
		list[k] = shape
	}
	return list
}

func TestP86FreeRowsThatAPutNeeds(t *testing.T) {
	n := impl.Node{Kind: impl.NodeFile, Links: 8}
	cases := []struct {
		places  []int
		k, rows int
	}{
		{nil, 0, 1}, {nil, 1, 2}, {nil, 3, 2}, {nil, 4, 3}, {nil, 15, 3},
		{allPlaces(1, 0), 0, 1}, {allPlaces(1, 0), 1, 2}, {allPlaces(1, 0), 4, 4}, {allPlaces(1, 0), 15, 4}, {allPlaces(1, noNode), 0, 1}, {allPlaces(1, noNode), 15, 3},
		{allPlaces(4, 0), 0, 2}, {allPlaces(4, 0), 3, 2}, {allPlaces(4, 0), 4, 4}, {allPlaces(4, 5), 3, 2}, {allPlaces(5, 2), 4, 3}, {allPlaces(5, 0), 5, 3},
		{allPlaces(16, 0), 0, 3}, {allPlaces(16, 2), 15, 3}, {justPlaces(16, 5, 9), 9, 3}, {justPlaces(16, 5, 9), 0, 3}, {justPlaces(3, 13, 2), 2, 2}, {justPlaces(3, 13, 2), 0, 2},
	}
	for _, c := range cases {
		table := tableOf(mixedBirths(), c.places...)
		when := fmt.Sprintf("%s: TablePut of node %d", table.name, c.k)
		for less := range c.rows {
			next, tree, ok := impl.TablePut(leaveFree(table.store, less), table.tree, c.k, n)
			noTree(t, fmt.Sprintf("%s with %d free rows", when, less), next, tree, ok)
		}
		next, tree, ok := impl.TablePut(leaveFree(table.store, c.rows), table.tree, c.k, n)
		if got, there := impl.TableGet(next, tree, c.k); !ok || roomIn(next) != 0 || !there || got != n {
			t.Errorf("%s with %d free rows is %v, leaves %d, and there is %v", when, c.rows, ok, roomIn(next), got)
		}
	}
}

func TestP87FreeRowsThatADropNeeds(t *testing.T) {
	cases := []struct {
		places  []int
		k, rows int
	}{
		// Nothing is above the nodes that are left, or nothing is left.
		{allPlaces(1, 5), 0, 0}, {justPlaces(2, 5, 1), 1, 0}, {justPlaces(16, 2, 15), 15, 0}, {justPlaces(16, 2, 0), 0, 0},
		// The put of the hole needs rows, and the cut none.
		{allPlaces(2, 2), 0, 1}, {allPlaces(4, 0), 0, 1}, {allPlaces(16, 2), 0, 2}, {allPlaces(16, 2), 15, 2}, {allPlaces(16, 0), 8, 2}, {justPlaces(16, 5, 0, 15), 0, 1},
		// The cut to one place needs none either, whatever was put.
		{allPlaces(2, 2), 1, 1}, {justPlaces(4, 2, 0, 3), 3, 1}, {justPlaces(16, 2, 0, 15), 15, 1}, {justPlaces(16, 2, 0, 3), 3, 2},
		// Both need rows, as the table becomes less deep, or another indirect block has just holes then.
		{allPlaces(5, 0), 4, 2}, {justPlaces(16, 2, 2, 15), 15, 2}, {justPlaces(16, 0, 0, 1, 2, 15), 15, 2}, {justPlaces(16, 0, 1, 2, 3), 3, 3}, {justPlaces(9, 0, 1, 2), 2, 3},
		// Holes behind the last node are cut off, too.
		{justPlaces(4, 2, 0, 1), 1, 1}, {justPlaces(16, 2, 0, 4), 4, 1}, {justPlaces(16, 2, 0, 5), 0, 1}, {justPlaces(16, 2, 4, 5), 5, 2},
	}
	for _, c := range cases {
		table := tableOf(mixedBirths(), c.places...)
		when := fmt.Sprintf("%s: TableDrop of node %d", table.name, c.k)
		for less := range c.rows {
			next, tree, ok := impl.TableDrop(leaveFree(table.store, less), table.tree, c.k)
			noTree(t, fmt.Sprintf("%s with %d free rows", when, less), next, tree, ok)
		}
		next, tree, ok := impl.TableDrop(leaveFree(table.store, c.rows), table.tree, c.k)
		if _, there := impl.TableGet(next, tree, c.k); !ok || there || !impl.TableOk(next, tree) {
			t.Errorf("%s with %d free rows is %v, or the node is there", when, c.rows, ok)
		}
	}
}

func TestP87RowsOfTheNodeAreUsed(t *testing.T) {
	// What the node has is given up first: if it is of this group, its rows are free for what is above the others.
	for i, s := range nodeShapes() {
		for _, places := range [][]int{{i, 0}, {i, 0, 0, 0, 0}, {0, 0, 0, 0, i}} {
			k := slices.Index(places, i)
			if i == 0 {
				k = len(places) - 1
			}
			for j, born := range []births{manyBirths()[0], mixedBirths()} {
				c := tableOf(born, places...)
				needed := map[int]int{2: 1, 5: 2}[len(places)]
				if j == 0 && k == 4 {
					// The put of the hole gives up the old root, the row of which is free for the cut.
					needed = 1
				}
				if j == 0 {
					needed = max(0, needed-s.rows())
				}
				for rows := range needed + 1 {
					next, tree, ok := impl.TableDrop(leaveFree(c.store, rows), c.tree, k)
					if ok != (rows == needed) || ok && !impl.TableOk(next, tree) {
						t.Errorf("%s: with %d free rows TableDrop of node %d is %v instead of %v", c.name, rows, k, ok, rows == needed)
					}
					if !ok {
						noTree(t, c.name+": TableDrop", next, tree, ok)
					}
				}
			}
		}
	}
}

func TestP86P87EachNumberOfFreeRows(t *testing.T) {
	done, failed := 0, 0
	count := func(ok bool) {
		if ok {
			done++
		} else {
			failed++
		}
	}
	for i, c := range someTables() {
		if i%4 > 0 {
			continue
		}
		whole := c.store
		for rows := range 5 {
			c.store = leaveFree(whole, rows)
			for k := range 16 {
				if (i/4+k)%3 > 0 {
					continue
				}
				count(checkTablePut(t, c, k, c.spares[(k+i)%7]))
				if slices.Contains(c.numbers(), k) {
					count(checkDrop(t, c, k))
				}
			}
		}
	}
	if done < 300 || failed < 300 {
		t.Errorf("there was room %d times, and none %d times", done, failed)
	}
}

func TestP86P87TextsThatRowsHaveAlready(t *testing.T) {
	// With Same the text of a node that a row has since an earlier group needs no other row.
	n := impl.Node{Kind: impl.NodeFile, Links: 1}
	for _, same := range []bool{false, true} {
		c := tableOf(mixedBirths(), 0, 1)
		c.store.Same = same
		row := c.leaves()[0].At
		next, tree, ok := impl.TablePut(c.store, c.tree, 2, n)
		leaves, _ := impl.TreeLeaves(next, tree)
		want := toBlock(8, 7, 0, nodeText(n))
		if same {
			want.At = row
		}
		if !ok || len(leaves) != 3 || leaves[2] != want {
			t.Errorf("with Same %v: the node's text is put to %v, %v", same, leaves, ok)
		}
		back, tree, ok := impl.TableDrop(next, tree, 2)
		if !ok || tree.Many != 2 || back.Space.Refs[row] != 1 || back.Rows[row] != nodeText(n) {
			t.Errorf("with Same %v: behind TableDrop, %v, there is %v, and row %d has %d references", same, ok, tree, row, back.Space.Refs[row])
		}
		checkTable(t, c.name, c)
	}
}
