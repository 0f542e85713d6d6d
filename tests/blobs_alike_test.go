package tests

import (
	"fmt"
	"slices"
	"strings"
	"testing"

	"loop.example/poolfiles/impl"
)

// pairsOfTexts returns texts of places, two of which there is room for in a store.
func pairsOfTexts() [][]string {
	text := scramble(2048, 1)
	list := [][]string{nil}
	for _, size := range []int{1, 127, 128, 129, 255, 256, 257, 512, 513, 640, 2047, 2048} {
		list = append(list, piecesByHand(text[:size]))
	}
	whole := text[:128]
	return append(list, piecesByHand("y"+text[1:]), piecesByHand(text[:2047]+"y"), piecesByHand(text[:128]+"y"), piecesByHand("y"),
		[]string{""}, []string{"", ""}, []string{whole, ""}, []string{"", whole}, []string{text[:127], text[127:128]}, []string{"", text[:1]},
		[]string{whole, "", text[128:256]}, []string{whole, text[128:255], text[255:256]}, make([]string, 4), make([]string, 16))
}

// checkSame checks what BlobSame returns of the trees of a pair, in either order, and of each with itself.
func checkSame(t *testing.T, c treePair) bool {
	t.Helper()
	same := false
	for i := range 2 {
		for j := range 2 {
			one, oneOk := keptIn(c.texts[i])
			two, twoOk := keptIn(c.texts[j])
			want := oneOk && twoOk && one == two
			if is := impl.BlobSame(c.store, c.trees[i], c.trees[j]); is != want {
				t.Errorf("%s: BlobSame of trees %d and %d is %v", c.name, i, j, is)
			}
			same = same || want && i != j
		}
	}
	return same
}

func TestP75TreesThatKeepTheSameText(t *testing.T) {
	many := map[bool]int{}
	for i, one := range pairsOfTexts() {
		for j, two := range pairsOfTexts() {
			g := gardener{store: emptyStore(7)}
			a := g.grow("", one, mixedBirths())
			b := g.grow("", two, manyBirths()[(i+j)%4])
			c := treePair{fmt.Sprintf("texts %d and %d", i, j), g.store, [2]impl.Tree{a.tree, b.tree}, [2][]impl.Ptr{a.leaves(), b.leaves()}, [2][]string{one, two}}
			same := checkSame(t, c)
			many[same]++
			if _, ok := keptIn(one); same != (ok && i == j) {
				t.Errorf("%s: the texts of the test are another pair", c.name)
			}
		}
	}
	if many[true] < 15 || many[false] < 400 {
		t.Errorf("%d pairs are the same and %d are not", many[true], many[false])
	}
}

func TestP75PairsOfTrees(t *testing.T) {
	for _, c := range treePairs(t) {
		checkSame(t, c)
	}
}

func TestP75OneByteIsAnother(t *testing.T) {
	for _, size := range []int{1, 128, 129, 512, 2048} {
		text := scramble(size, 1)
		c := keptTree(text, mixedBirths())
		c.store.Keep = 6
		for _, at := range []int{0, size / 2, size - 1, size / 128 * 127} {
			other := text[:at] + string([]byte{text[at] + 1}) + text[at+1:]
			st, tree, ok := impl.BlobPut(c.store, c.tree, other)
			if !ok || impl.BlobSame(st, c.tree, tree) || impl.BlobSame(st, tree, c.tree) {
				t.Errorf("%d bytes, byte %d another: %v, BlobSame is true", size, at, ok)
			}
			// The same text again, but in another block, beside the old tree.
			st, back, ok := impl.BlobPut(st, tree, text)
			if !ok || back == c.tree || !impl.BlobSame(st, c.tree, back) || !impl.BlobSame(st, back, c.tree) {
				t.Errorf("%d bytes, byte %d as it was: %v, BlobSame is false, or the tree is the same", size, at, ok)
			}
		}
	}
}

// sharedByHand tells how many places have the same pointers, other than holes, in another way than the program does: by what is not told as different.
func sharedByHand(one, two []impl.Ptr) int {
	differ, many := diffByHand(one, two), 0
	for k, p := range one {
		if (p != impl.Ptr{}) && !slices.Contains(differ, k) {
			many++
		}
	}
	return many
}

// checkShare checks what BlobShare returns of the trees of a pair, in either order, and of each with itself, and returns it.
func checkShare(t *testing.T, c treePair) int {
	t.Helper()
	for i := range 2 {
		for j := range 2 {
			many, ok := impl.BlobShare(c.store, c.trees[i], c.trees[j])
			want := sharedByHand(c.leaves[i], c.leaves[j])
			if !ok || many != want || many > min(c.trees[i].Many, c.trees[j].Many) {
				t.Errorf("%s: BlobShare of trees %d and %d is %d, %v instead of %d", c.name, i, j, many, ok, want)
			}
			some := slices.DeleteFunc(slices.Clone(c.texts[i]), func(text string) bool { return text == "" })
			if i == j && many != len(some) {
				t.Errorf("%s: BlobShare of tree %d and itself is %d instead of %d", c.name, i, many, len(some))
			}
		}
	}
	return sharedByHand(c.leaves[0], c.leaves[1])
}

func TestP76PairsOfTrees(t *testing.T) {
	counts := map[int]int{}
	for _, c := range treePairs(t) {
		counts[checkShare(t, c)]++
	}
	for _, many := range []int{0, 1, 2, 3, 4, 8, 15, 14} {
		if counts[many] == 0 {
			t.Errorf("no pair shares %d places: %v", many, counts)
		}
	}
}

func TestP76ATreeSharesAllWithItself(t *testing.T) {
	for _, trees := range [][]grownTree{grownTrees(), keptTrees(), brokenTrees()} {
		for _, c := range trees {
			blocks := len(slices.DeleteFunc(slices.Clone(c.texts), func(text string) bool { return text == "" }))
			if many, ok := impl.BlobShare(c.store, c.tree, c.tree); !ok || many != blocks {
				t.Errorf("%s: BlobShare of the tree and itself is %d, %v instead of %d", c.name, many, ok, blocks)
			}
			if many, ok := impl.BlobShare(c.store, c.tree, impl.Tree{}); !ok || many != 0 {
				t.Errorf("%s: BlobShare of the tree and one without places is %d, %v", c.name, many, ok)
			}
		}
	}
}

func TestP76OtherPointersToTheSameText(t *testing.T) {
	a, b, late := toBlock(8, 1, 0, "a"), toBlock(9, 1, 0, "a"), toBlock(8, 2, 0, "a")
	st := storeWith(5, heldRow{8, "a", 2, 2}, heldRow{9, "a", 1, 1})
	for p, want := range map[impl.Ptr]int{a: 1, b: 0, late: 0, {}: 0} {
		one, two := impl.Tree{Root: a, Many: 1}, impl.Tree{Root: p, Many: 1}
		if many, ok := impl.BlobShare(st, one, two); !ok || many != want {
			t.Errorf("BlobShare of trees with %v and %v is %d, %v", a, p, many, ok)
		}
		if is := impl.BlobSame(st, one, two); is != (p != impl.Ptr{}) {
			t.Errorf("BlobSame of trees with %v and %v is %v", a, p, is)
		}
	}
}

func TestP76TheSameBlockInOtherPlaces(t *testing.T) {
	// Just the same place counts, and trees of other depths may share it.
	a := toBlock(63, 1, 0, "a")
	st := storeWith(5, heldRow{63, "a", 5, 5})
	tree := func(many int, at int) impl.Tree {
		list := make([]impl.Ptr, 16)
		list[at] = a
		next, tree, ok := layByHand(st, [][]impl.Ptr{make([]impl.Ptr, 1)}, list, many, nil)
		if !ok {
			t.Fatalf("there is no tree of %d places", many)
		}
		st = next
		return tree
	}
	trees := []impl.Tree{tree(1, 0), tree(2, 0), tree(16, 0), tree(3, 1), tree(9, 1), tree(16, 8)}
	places := []int{0, 0, 0, 1, 1, 8}
	for i := range trees {
		for j := range trees {
			want := 0
			if places[i] == places[j] {
				want = 1
			}
			if many, ok := impl.BlobShare(st, trees[i], trees[j]); !ok || many != want {
				t.Errorf("BlobShare of trees %d and %d is %d, %v instead of %d", i, j, many, ok, want)
			}
		}
	}
}

// alikePieces tells how many pieces of two texts are alike in the same place, and how many of them are whole.
func alikePieces(one, two []string) (int, int) {
	many, whole := 0, 0
	for k, piece := range one {
		if k < len(two) && two[k] == piece && piece != "" {
			many++
			if len(piece) == 128 {
				whole++
			}
		}
	}
	return many, whole
}

// checkShared checks that a text shares with the old tree, in a store that keeps what earlier groups wrote, what is alike, and that the old tree is as it was.
func checkShared(t *testing.T, c grownTree, text string) {
	t.Helper()
	when := fmt.Sprintf("%s: BlobPut of %d bytes %.9q", c.name, len(text), text)
	next, tree, ok := impl.BlobPut(c.store, c.tree, text)
	if !ok {
		t.Fatalf("%s fails", when)
	}
	many, is := impl.BlobShare(next, c.tree, tree)
	want, whole := alikePieces(c.texts, piecesByHand(text))
	if !is || many != want || many < whole {
		t.Errorf("%s: BlobShare of the old tree and the new one is %d, %v instead of %d", when, many, is, want)
	}
	hasTexts(t, when+": the old tree", next, c.tree, c.texts)
	hasTexts(t, when+": the old tree in the next group", nextGroup(t, next), c.tree, c.texts)
	if got, fine := impl.BlobGet(next, tree); !fine || got != text {
		t.Errorf("%s: BlobGet is %d bytes, %v", when, len(got), fine)
	}
	old, oldOk := impl.BlobGet(next, c.tree)
	if impl.BlobSame(next, c.tree, tree) != (oldOk && old == text) {
		t.Errorf("%s: BlobSame of the old tree and the new one is %v", when, oldOk && old == text)
	}
}

func TestP77TextsThatBeginAsTheOldOne(t *testing.T) {
	for i, size := range []int{1, 127, 128, 129, 255, 256, 257, 511, 512, 513, 640, 1000, 2047, 2048} {
		old := scramble(size, 1)
		c := keptTree(old, births{"earlier", func(level, i int) int { return 2 + 2*level - i%2 }})
		c.store.Keep, c.store.Same = 6, i%2 == 0
		for _, begin := range []int{0, 1, 127, 128, 129, 256, 300, 512, 513, size - 1, size} {
			for _, more := range []int{0, 1, 127, 128, 129, 500, 1024} {
				if begin > size || begin+more > 2048 {
					continue
				}
				text := old[:begin] + strings.Repeat("y", more)
				checkShared(t, c, text)
			}
		}
	}
}

func TestP77TextsThatAreAlikeInSomePieces(t *testing.T) {
	for _, trees := range [][]grownTree{keptTrees(), brokenTrees()} {
		for i, old := range trees {
			c := grown(old.name, old.texts, mixedBirths())
			c.store.Keep, c.store.Same = 6, i%2 == 0
			for j, text := range textsInsteadOf(c.texts) {
				if (i+j)%3 == 0 {
					checkShared(t, c, text)
				}
			}
		}
	}
}
