package tests

import (
	"fmt"
	"strings"
	"testing"

	"loop.example/poolfiles/impl"
)

// keptByHand tells what BlobPut returns of a valid tree and a text that is not too long: piece by piece, by what is told by hand of TreePut and TreeCut.
func keptByHand(c grownTree, text string) (impl.Store, impl.Tree, bool) {
	pieces := piecesByHand(text)
	for k, piece := range pieces {
		st, tree, ok := putByHand(c, k, piece)
		if !ok {
			return impl.Store{}, impl.Tree{}, false
		}
		levels, _ := treeByHand(st, tree)
		c = grownTree{store: st, tree: tree, texts: behindPut(c.texts, k, piece), levels: levels}
	}
	return cutByHand(c, len(pieces))
}

// checkKeep checks what BlobPut returns of a valid tree and a text that is not too long, and reports whether there was room for it.
func checkKeep(t *testing.T, c grownTree, text string) bool {
	t.Helper()
	when := fmt.Sprintf("%s: BlobPut of %d bytes %.9q", c.name, len(text), text)
	want, wantTree, fine := keptByHand(c, text)
	next, tree, ok := impl.BlobPut(c.store, c.tree, text)
	if ok != fine || tree != wantTree || !sameStore(next, want) {
		t.Errorf("%s is %v, %v instead of %v, %v, or tells another store", when, tree, ok, wantTree, fine)
		return ok
	}
	if !ok {
		return false
	}
	if got, is := impl.BlobGet(next, tree); !is || got != text {
		t.Errorf("%s: BlobGet is %d bytes, %v", when, len(got), is)
	}
	hasTexts(t, when, next, tree, piecesByHand(text))
	earlierStay(t, when, c.store, next, c.all())
	rowsByTrees(t, when, next, tree, othersIn(c))
	return true
}

// textsInsteadOf returns texts to put instead of those that places have: just these, some that are like them in part, and others.
func textsInsteadOf(texts []string) []string {
	all := strings.Join(texts, "")
	all = all[:min(len(all), 2048)]
	list := []string{all, "", "x", scramble(129, 3), scramble(512, 3), scramble(513, 3), scramble(2048, 3)}
	if all == "" {
		return list
	}
	middle := len(all) / 2
	list = append(list, all[1:], all[:len(all)-1], all[:middle], all[:middle]+"y"+all[middle+1:], "y"+all[1:], all[:len(all)-1]+"y", all[:(len(all)-1)/128*128])
	if len(all) < 2048 {
		list = append(list, all+"y", "y"+all)
	}
	if len(all) <= 1024 {
		list = append(list, all+all)
	}
	return list
}

func TestP73TextsOfEachSize(t *testing.T) {
	for _, same := range []bool{false, true} {
		for _, text := range blobTexts() {
			for _, start := range []impl.Store{impl.StoreNew(same), withGiven(withSame(emptyStore(900)), nil, 899, nil), storeWith(3, heldRow{8, longBlock(), 1, 2})} {
				st, tree, ok := impl.BlobPut(start, impl.Tree{}, text)
				many := (len(text) + 127) / 128
				if !ok || tree.Many != many || tree.Depth != depthByHand(many) {
					t.Fatalf("BlobPut of %d bytes tells %v, %v", len(text), tree, ok)
				}
				if got, is := impl.BlobGet(st, tree); !is || got != text || !impl.StoreOk(st) || !impl.TreeOk(st, tree) {
					t.Errorf("%d bytes are put and %d bytes read, %v, or not valid", len(text), len(got), is)
				}
				for k := range many {
					piece, is := impl.TreeGet(st, tree, k)
					if want := text[128*k : min(128*k+128, len(text))]; !is || piece != want {
						t.Errorf("place %d for %d bytes has %d bytes, %v", k, len(text), len(piece), is)
					}
				}
			}
		}
	}
}

func TestP73TextsInsteadOfOthers(t *testing.T) {
	for _, trees := range [][]grownTree{keptTrees(), brokenTrees()} {
		for i, c := range trees {
			for j, text := range textsInsteadOf(c.texts) {
				if (i+j)%2 == 0 && !checkKeep(t, c, text) {
					t.Errorf("%s: there is no room for %d bytes", c.name, len(text))
				}
			}
		}
	}
}

func TestP73TextsInsteadOfTreesOfManyShapes(t *testing.T) {
	for i, c := range someTrees() {
		for j, text := range textsInsteadOf(c.texts) {
			if (i+j)%3 == 0 {
				checkKeep(t, c, text)
			}
		}
	}
}

func TestP73StepByStep(t *testing.T) {
	a, b := strings.Repeat("a", 128), strings.Repeat("b", 128)
	hole := impl.Ptr{}
	// Two pieces: the root of one place is its block, and a new block is written ahead of what is above it.
	st, tree, ok := impl.BlobPut(impl.StoreNew(false), impl.Tree{}, a+"aa")
	fan := fanByHand([]impl.Ptr{toBlock(8, 1, 0, a), toBlock(9, 1, 0, "aa"), hole, hole})
	root := toBlock(10, 1, 1, fan)
	rows := []heldRow{{8, a, 1, 1}, {9, "aa", 1, 1}, {10, fan, 1, 1}}
	if !ok || tree != (impl.Tree{Root: root, Depth: 1, Many: 2}) || !sameStore(st, storeWith(1, rows...)) {
		t.Fatalf("the first text tells %v, %v", tree, ok)
	}
	st = nextGroup(t, st)
	// One piece that is new: it is put, the tree laid out, the old one given up, and then the tree cut to one place.
	next, less, ok := impl.BlobPut(st, tree, "b")
	one := toBlock(11, 2, 0, "b")
	want := withGiven(storeWith(2, append(rows, heldRow{11, "b", 1, 2})...), []impl.Ptr{root, toBlock(8, 1, 0, a), toBlock(9, 1, 0, "aa")}, 0, nil)
	if !ok || less != (impl.Tree{Root: one, Many: 1}) || !sameStore(next, want) {
		t.Errorf("a shorter text tells %v, %v, and the store %v", less, ok, next)
	}
	// Three pieces, the first one as before: what comes in between in this group is free again.
	next, more, ok := impl.BlobPut(st, tree, a+b+"b")
	fan = fanByHand([]impl.Ptr{toBlock(8, 1, 0, a), toBlock(11, 2, 0, b), toBlock(13, 2, 0, "b"), hole})
	rows = append(rows, heldRow{11, b, 1, 2}, heldRow{13, "b", 1, 2}, heldRow{14, fan, 1, 2})
	want = withGiven(storeWith(2, rows...), []impl.Ptr{root, toBlock(9, 1, 0, "aa")}, 0, nil)
	if !ok || more != (impl.Tree{Root: toBlock(14, 2, 1, fan), Depth: 1, Many: 3}) || !sameStore(next, want) {
		t.Errorf("a longer text tells %v, %v, and the store %v", more, ok, next)
	}
	// The empty text: all is given up, the root first.
	next, none, ok := impl.BlobPut(st, tree, "")
	want = withGiven(copyStore(st), []impl.Ptr{root, toBlock(8, 1, 0, a), toBlock(9, 1, 0, "aa")}, 0, nil)
	if !ok || none != (impl.Tree{}) || !sameStore(next, want) {
		t.Errorf("the empty text tells %v, %v, and the store %v", none, ok, next)
	}
}

func TestP73TextsThatAreTooLong(t *testing.T) {
	trees := append(append(keptTrees(), brokenTrees()...), grown("empty", nil, mixedBirths()))
	for _, c := range trees {
		for _, size := range longSizes() {
			next, tree, ok := impl.BlobPut(c.store, c.tree, strings.Repeat("x", size))
			noTree(t, fmt.Sprintf("%s: BlobPut of %d bytes", c.name, size), next, tree, ok)
		}
		// As it is, and with one byte more.
		text := strings.Join(c.texts, "")
		next, tree, ok := impl.BlobPut(c.store, c.tree, text+strings.Repeat("y", 2049-len(text)))
		noTree(t, c.name+": BlobPut of one byte more", next, tree, ok)
	}
}

func TestP73TheSameTextAgainAndAgain(t *testing.T) {
	// What is changed in one group over and over takes no more rows in the end than what is put once.
	for _, size := range []int{1, 128, 129, 512, 513, 2048} {
		st, tree := impl.StoreNew(false), impl.Tree{}
		for i := range 20 {
			next, changed, ok := impl.BlobPut(st, tree, scramble(size, i))
			all, _ := impl.TreeAll(next, changed)
			if !ok || len(next.Gone) > 0 || 56-roomIn(next) != len(all) {
				t.Fatalf("%d bytes, put %d: %v, %d rows are free with %d pointers", size, i, ok, roomIn(next), len(all))
			}
			st, tree = next, changed
		}
	}
}
