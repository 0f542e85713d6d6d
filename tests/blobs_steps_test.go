package tests

import (
	"fmt"
	"math/rand"
	"slices"
	"strings"
	"testing"

	"loop.example/poolfiles/impl"
)

// editedText returns a text that comes of another one by one of several kinds of changes.
func editedText(text string, random *rand.Rand) string {
	at := random.Intn(len(text) + 1)
	other := scramble(random.Intn(500), random.Intn(9))
	switch random.Intn(9) {
	case 0:
		text = text[:at]
	case 1:
		text = text[:at/128*128]
	case 2:
		text = text[:at] + other
	case 3:
		text = scramble(random.Intn(2049), random.Intn(3))
	case 4, 5:
		text = text[:at] + other + text[min(len(text), at+len(other)):]
	default:
		text += other
	}
	return text[:min(len(text), 2048)]
}

// keep puts a text instead of what a tree keeps, and reports whether the functions told what is told by hand.
func (g *garden) keep(i int, text string) bool {
	c, fine := g.treeAt(i)
	want, wantTree, wantOk := keptByHand(c, text)
	next, tree, ok := impl.BlobPut(g.store, c.tree, text)
	if ok {
		g.store, g.trees[i] = next, modelTree{tree, piecesByHand(text)}
	}
	return fine && ok == wantOk && tree == wantTree && sameStore(next, want)
}

// blobStep does one thing, as random numbers tell, and reports whether that was right.
func (g *garden) blobStep(random *rand.Rand) bool {
	i := random.Intn(len(g.trees))
	n := random.Intn(12)
	if n < 8 {
		return g.keep(i, editedText(strings.Join(g.trees[i].texts, ""), random))
	}
	return g.turn(n < 10)
}

// checkBlobs checks that all trees keep their texts, those of the snapshot too, and what is told of each two of them.
func (g *garden) checkBlobs(t *testing.T, when string) {
	t.Helper()
	all := append(slices.Clone(g.trees), g.taken...)
	for i, one := range all {
		text := strings.Join(one.texts, "")
		if got, ok := impl.BlobGet(g.store, one.tree); !ok || got != text {
			t.Fatalf("%s: BlobGet of tree %d is %d bytes, %v", when, i, len(got), ok)
		}
		for j, two := range all {
			leaves, _ := impl.TreeLeaves(g.store, one.tree)
			others, _ := impl.TreeLeaves(g.store, two.tree)
			same, want := impl.BlobSame(g.store, one.tree, two.tree), text == strings.Join(two.texts, "")
			many, ok := impl.BlobShare(g.store, one.tree, two.tree)
			if same != want || !ok || many != sharedByHand(leaves, others) {
				t.Fatalf("%s: of trees %d and %d BlobSame is %v, BlobShare %d, %v", when, i, j, same, many, ok)
			}
		}
	}
}

func TestP73P75P76ManyStepsAreThoseOfAModel(t *testing.T) {
	full := walkGardens(t, 9, 80, 6, (*garden).blobStep, func(g *garden, when string) {
		g.check(t, when)
		g.checkBlobs(t, when)
	})
	if full < 20 {
		t.Errorf("the store was nearly full just %d times", full)
	}
}

// blobResults returns all stores that come of one and a tree by the functions.
func blobResults(tree impl.Tree) func(st impl.Store) []impl.Store {
	return func(st impl.Store) []impl.Store {
		list := []impl.Store{}
		texts := []string{"", "x", strings.Repeat("x", 513), strings.Repeat("x", 2048), strings.Repeat("x", 2049)}
		if text, ok := impl.BlobGet(st, tree); ok {
			texts = append(texts, text, text[:len(text)/2], "y"+text)
		}
		for _, text := range texts {
			next, _, _ := impl.BlobPut(st, tree, text)
			list = append(list, next)
		}
		impl.BlobSame(st, tree, tree)
		impl.BlobShare(st, tree, tree)
		return list
	}
}

func TestBlobsShareNoMemory(t *testing.T) {
	for i, text := range []string{"", "a", scramble(128, 1), scramble(129, 1), scramble(512, 1), scramble(513, 1), scramble(2048, 1)} {
		for keep := range 3 {
			c := keptTree(text, manyBirths()[(i+keep)%4])
			c.store.Keep, c.store.Same = 3*keep, i%2 == 0
			if spare := c.store.Rows[63]; keep == 2 && spare != "" {
				c.store.Space.Refs[63], c.store.Space.Last[63] = 3, max(3, c.store.Space.Last[63])
				c.store = withGiven(c.store, []impl.Ptr{toBlock(63, 3, 0, spare)}, 6, []impl.Ptr{toBlock(63, 1, 0, spare)})
			}
			checkMemory(t, namedStore{fmt.Sprintf("%s, Keep %d", c.name, 3*keep), c.store}, blobResults(c.tree))
			// A store in which there is no room for all of a text.
			checkMemory(t, namedStore{fmt.Sprintf("%s, Keep %d, nearly full", c.name, 3*keep), leaveFree(c.store, 3)}, blobResults(c.tree))
		}
	}
	for i, c := range brokenTrees() {
		if i%5 == 0 {
			checkMemory(t, namedStore{c.name, c.store}, blobResults(c.tree))
		}
	}
	for i, c := range wrongStores() {
		if i%50 == 0 {
			checkMemory(t, c, blobResults(impl.Tree{Depth: 2, Many: 9}))
		}
	}
}
