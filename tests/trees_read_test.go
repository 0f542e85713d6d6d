package tests

import (
	"math"
	"slices"
	"testing"

	"loop.example/poolfiles/impl"
)

// placesNone returns numbers that no place of a tree with so many places has.
func placesNone(many int) []int {
	return []int{-1, -2, -many, many, many + 1, 17, 64, 1 << 32, math.MinInt, math.MaxInt}
}

func TestP63PlacesAreRead(t *testing.T) {
	for _, c := range grownTrees() {
		leaves, _ := impl.TreeLeaves(c.store, c.tree)
		if len(leaves) != len(c.texts) {
			t.Fatalf("%s: TreeLeaves tells %d pointers", c.name, len(leaves))
		}
		for k, want := range c.texts {
			text, ok := impl.TreeGet(c.store, c.tree, k)
			read, is := impl.StoreRead(c.store, leaves[k])
			if !ok || !is || text != want || read != want {
				t.Errorf("%s: TreeGet of place %d is %q, %v, and StoreRead of %v is %q, %v", c.name, k, text, ok, leaves[k], read, is)
			}
			if (leaves[k] == impl.Ptr{}) != (want == "") || want != "" && leaves[k].Level != 0 {
				t.Errorf("%s: place %d with %q has the pointer %v", c.name, k, want, leaves[k])
			}
		}
	}
}

func TestP63PlacesThatThereAreNot(t *testing.T) {
	for _, c := range grownTrees() {
		for _, k := range placesNone(c.tree.Many) {
			if k == 0 && c.tree.Many > 0 {
				continue
			}
			if text, ok := impl.TreeGet(c.store, c.tree, k); ok || text != "" {
				t.Errorf("%s: TreeGet of place %d is %q, %v", c.name, k, text, ok)
			}
		}
	}
}

func TestP67AllPointers(t *testing.T) {
	for _, c := range grownTrees() {
		list, ok := impl.TreeAll(c.store, c.tree)
		if !ok || !slices.Equal(list, c.all()) {
			t.Errorf("%s: TreeAll is %v, %v instead of %v", c.name, list, ok, c.all())
		}
		seen := map[impl.Ptr]bool{{}: true}
		for _, p := range list {
			if seen[p] {
				t.Errorf("%s: TreeAll tells a hole, or %v twice", c.name, p)
			}
			seen[p] = true
		}
		if c.tree.Root != (impl.Ptr{}) && list[0] != c.tree.Root {
			t.Errorf("%s: TreeAll begins with %v", c.name, list[0])
		}
		for _, p := range c.leaves() {
			if !seen[p] {
				t.Errorf("%s: TreeAll has not %v", c.name, p)
			}
		}
	}
}

func TestP67TheOrderOfAllPointers(t *testing.T) {
	// Rows from 63 downwards: places first, then what is above them.
	cases := []struct {
		texts []string
		rows  []int
	}{
		{nil, nil},
		{[]string{""}, nil},
		{[]string{"a"}, []int{63}},
		{[]string{"", ""}, nil},
		{[]string{"a", "b"}, []int{61, 63, 62}},
		{[]string{"", "", "c"}, []int{62, 63}},
		{[]string{"a", "b", "c", "d"}, []int{59, 63, 62, 61, 60}},
		{[]string{"a", "b", "c", "d", "e"}, []int{56, 58, 63, 62, 61, 60, 57, 59}},
		{[]string{"", "", "", "", "e", ""}, []int{61, 62, 63}},
		{[]string{"a", "", "", "", "", "", "", "", "", "", "", "", "", "", "", "p"}, []int{59, 61, 63, 60, 62}},
		{make([]string, 16), nil},
	}
	for _, c := range cases {
		grown := grown("", c.texts, mixedBirths())
		list, ok := impl.TreeAll(grown.store, grown.tree)
		rows := []int{}
		for _, p := range list {
			rows = append(rows, p.At)
		}
		if !ok || !slices.Equal(rows, c.rows) {
			t.Errorf("%q: TreeAll leads to the rows %v, %v instead of %v", c.texts, rows, ok, c.rows)
		}
	}
}
