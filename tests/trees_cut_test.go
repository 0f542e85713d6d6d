package tests

import (
	"fmt"
	"slices"
	"testing"

	"loop.example/poolfiles/impl"
)

// cutByHand tells what TreeCut returns of a valid tree, to as many places as it has, or fewer.
func cutByHand(c grownTree, many int) (impl.Store, impl.Tree, bool) {
	return layByHand(c.store, c.levels, c.levels[0], many, c.levels[0][many:])
}

// checkCut checks what TreeCut returns of a valid tree, to as many places as it has, or fewer.
func checkCut(t *testing.T, c grownTree, many int) {
	t.Helper()
	when := fmt.Sprintf("%s: TreeCut to %d", c.name, many)
	want, tree, fine := cutByHand(c, many)
	next, changed, ok := impl.TreeCut(c.store, c.tree, many)
	if ok != fine || changed != tree || !sameStore(next, want) {
		t.Errorf("%s is %v, %v instead of %v, %v, or tells another store", when, changed, ok, tree, fine)
		return
	}
	if !ok {
		return
	}
	hasTexts(t, when, next, changed, c.texts[:many])
	leaves, _ := impl.TreeLeaves(next, changed)
	if !slices.Equal(leaves, c.leaves()[:many]) {
		t.Errorf("%s: the places have other pointers", when)
	}
	earlierStay(t, when, c.store, next, c.all())
	rowsByTrees(t, when, next, changed, othersIn(c))
}

func TestP66FewerPlaces(t *testing.T) {
	for _, c := range grownTrees() {
		for many := 0; many <= c.tree.Many; many++ {
			checkCut(t, c, many)
		}
	}
}

func TestP66AsManyPlacesAsThereAre(t *testing.T) {
	for _, c := range grownTrees() {
		for _, st := range []impl.Store{c.store, leaveFree(c.store, 0)} {
			next, tree, ok := impl.TreeCut(st, c.tree, c.tree.Many)
			if !ok || tree != c.tree || !sameStore(next, st) {
				t.Errorf("%s: TreeCut to as many places tells %v, %v, or another store", c.name, tree, ok)
			}
		}
	}
}

func TestP66PlacesThatThereAreNot(t *testing.T) {
	for _, c := range grownTrees() {
		for _, many := range placesNone(c.tree.Many) {
			if many == c.tree.Many || many == 0 {
				continue
			}
			next, tree, ok := impl.TreeCut(c.store, c.tree, many)
			noTree(t, fmt.Sprintf("%s: TreeCut to %d", c.name, many), next, tree, ok)
		}
	}
}

func TestP66CutsThatLeaveJustHoles(t *testing.T) {
	// All blocks are behind the place.
	for many := 1; many < 16; many++ {
		c := grown(fmt.Sprint("blocks from ", many), placeTexts(16, func(k int) bool { return k >= many }), mixedBirths())
		for left := range many + 1 {
			next, tree, ok := impl.TreeCut(c.store, c.tree, left)
			if !ok || tree != (impl.Tree{Depth: depthByHand(left), Many: left}) || !sameStore(nextGroup(t, next), emptyStore(8)) {
				t.Errorf("%s: TreeCut to %d tells %v, %v, or blocks are left", c.name, left, tree, ok)
			}
		}
	}
}

func TestP66CutsToOneLevelLess(t *testing.T) {
	c := grown("", []string{"a", "b", "c", "d", "e"}, mixedBirths())
	// The places have the rows 63 to 59, what is above them 58 and 57, the root 56.
	low := c.levels[1][0]
	fan := fanByHand(c.leaves()[:4])
	st, tree, ok := impl.TreeCut(c.store, c.tree, 4)
	root := toBlock(8, 7, 1, fan)
	want := changedStore(c.store, func(st *impl.Store) {
		st.Rows[8], st.Space.Refs[8], st.Space.Last[8] = fan, 1, 7
		// The indirect block of level 1 has the same text, but in a tree of another depth.
		st.Gone = []impl.Ptr{c.tree.Root, low, c.levels[1][1], c.leaves()[4]}
	})
	if !ok || tree != (impl.Tree{Root: root, Depth: 1, Many: 4}) || !sameStore(st, want) || st.Rows[low.At] != fan {
		t.Errorf("TreeCut from 5 places to 4 tells %v, %v", tree, ok)
	}
	st, tree, ok = impl.TreeCut(c.store, c.tree, 1)
	want = withGiven(copyStore(c.store), []impl.Ptr{c.tree.Root, low, c.levels[1][1], c.leaves()[1], c.leaves()[2], c.leaves()[3], c.leaves()[4]}, 0, nil)
	if !ok || tree != (impl.Tree{Root: c.leaves()[0], Many: 1}) || !sameStore(st, want) {
		t.Errorf("TreeCut from 5 places to 1 tells %v, %v", tree, ok)
	}
	st, tree, ok = impl.TreeCut(c.store, c.tree, 0)
	want = withGiven(copyStore(c.store), append([]impl.Ptr{c.tree.Root, low, c.levels[1][1]}, c.leaves()...), 0, nil)
	if !ok || tree != (impl.Tree{}) || !sameStore(st, want) {
		t.Errorf("TreeCut from 5 places to none tells %v, %v", tree, ok)
	}
}

func TestP72CutToNoPlace(t *testing.T) {
	for _, c := range grownTrees() {
		c.store.Keep, c.store.Dead = 0, nil
		all, _ := impl.TreeAll(c.store, c.tree)
		next, tree, ok := impl.TreeCut(c.store, c.tree, 0)
		if !ok || tree != (impl.Tree{}) || !impl.StoreOk(next) {
			t.Fatalf("%s: TreeCut to no place tells %v, %v", c.name, tree, ok)
		}
		before, after := refsIn(nextGroup(t, c.store).Space), refsIn(nextGroup(t, next).Space)
		if before-after != len(all) || len(all) != len(c.all()) {
			t.Errorf("%s: behind TreeCut to no place there are %d references less instead of %d", c.name, before-after, len(all))
		}
	}
}

func TestP72WhatSnapshotsNeedStays(t *testing.T) {
	for _, c := range grownTrees() {
		for keep := range 7 {
			c.store.Keep = keep
			next, _, ok := impl.TreeCut(c.store, c.tree, 0)
			needed := slices.DeleteFunc(c.all(), func(p impl.Ptr) bool { return p.Birth > keep })
			before, after := refsIn(nextGroup(t, c.store).Space), refsIn(nextGroup(t, next).Space)
			if !ok || before-after != len(c.all())-len(needed) || len(next.Dead) != len(needed) {
				t.Errorf("%s: with Keep %d there are %d references less of %d, %d of them needed", c.name, keep, before-after, len(c.all()), len(needed))
			}
		}
	}
}
