package tests

import (
	"fmt"
	"math/rand"
	"slices"
	"strings"
	"testing"

	"loop.example/poolfiles/impl"
)

// piecesByHand cuts a text to pieces in another way than the program does: byte by byte.
func piecesByHand(text string) []string {
	list := []string{}
	for i := range len(text) {
		if len(list) == 0 || len(list[len(list)-1]) == 128 {
			list = append(list, "")
		}
		list[len(list)-1] += text[i : i+1]
	}
	return list
}

// keptIn tells the text that places with these texts keep, in another way than the program does: they must be the pieces of all of them together.
func keptIn(texts []string) (string, bool) {
	text := strings.Join(texts, "")
	if !slices.Equal(piecesByHand(text), texts) {
		return "", false
	}
	return text, true
}

// blobSizes returns how many bytes texts may have: about as many as whole pieces have, for each number of pieces, and some others.
func blobSizes() []int {
	sizes := []int{0, 1, 2, 64, 126, 130, 300, 1000}
	for many := 1; many <= 16; many++ {
		sizes = append(sizes, 128*many-1, 128*many, 128*many+1)
	}
	return slices.DeleteFunc(sizes, func(size int) bool { return size > 2048 })
}

// longSizes returns how many bytes texts have that are too long.
func longSizes() []int {
	return []int{2049, 2050, 2175, 2176, 2177, 4096, 1<<16 + 1}
}

// blobTexts returns texts that may be kept, the pieces of some of them being alike.
func blobTexts() []string {
	list := []string{"\x00", strings.Repeat("\x00", 2048), strings.Repeat("-,-,-,-", 100), "8.1.1.5.0,-,-,-", strings.Repeat("8.1.1.5.0,-,-,-;", 128)}
	for _, size := range blobSizes() {
		list = append(list, scramble(size, 1), strings.Repeat("x", size))
	}
	return list
}

// keptTree makes a tree that keeps a text, in an empty store in group 7.
func keptTree(text string, born births) grownTree {
	return grown(fmt.Sprintf("%d bytes %s", len(text), born.name), piecesByHand(text), born)
}

// keptTrees returns trees that keep texts, in stores of many kinds.
func keptTrees() []grownTree {
	list := []grownTree{}
	for i, text := range blobTexts() {
		c := keptTree(text, manyBirths()[i%4])
		c.store.Same, c.store.Keep = i%3 == 0, i%7
		list = append(list, c)
	}
	return list
}

// brokenTexts returns texts of places that keep no text together.
func brokenTexts() [][]string {
	whole, short := longBlock(), scramble(127, 1)
	list := [][]string{
		{""}, {"", ""}, {whole, ""}, {"", whole}, {"", "x"}, {short, whole}, {short, "x"}, {"x", "x"}, {"x", ""},
		{whole, "", whole}, {whole, short, whole}, {whole, "x", "x"}, {whole, whole, ""}, {short, whole, whole}, {"", whole, whole}, {whole, "", ""},
		{whole, whole, whole, whole, ""}, {whole, whole, whole, "", whole}, {whole, whole, whole, short, "x"},
		make([]string, 4), make([]string, 5), make([]string, 16), fullTexts(5), fullTexts(16),
	}
	for k := range 16 {
		texts := piecesByHand(scramble(2048, k))
		texts[k] = ""
		list = append(list, texts)
		if k < 15 {
			texts = slices.Clone(texts)
			texts[k] = short
			list = append(list, texts)
		}
	}
	return list
}

// brokenTrees returns trees that keep no text, in stores of many kinds.
func brokenTrees() []grownTree {
	list := []grownTree{}
	for i, texts := range brokenTexts() {
		c := grown(fmt.Sprintf("broken %d %.9q", i, texts), texts, manyBirths()[i%4])
		c.store.Same, c.store.Keep = i%3 == 0, i%7
		list = append(list, c)
	}
	return list
}

// checkGet checks what BlobGet returns of a valid tree.
func checkGet(t *testing.T, c grownTree) {
	t.Helper()
	want, fine := keptIn(c.texts)
	if text, ok := impl.BlobGet(c.store, c.tree); ok != fine || text != want {
		t.Errorf("%s: BlobGet is %d bytes %.9q, %v instead of %d bytes %.9q, %v", c.name, len(text), text, ok, len(want), want, fine)
	}
}

func TestP73TextsAreRead(t *testing.T) {
	for _, text := range blobTexts() {
		for _, born := range manyBirths() {
			c := keptTree(text, born)
			if got, ok := impl.BlobGet(c.store, c.tree); !ok || got != text {
				t.Errorf("%s: BlobGet is %d bytes, %v", c.name, len(got), ok)
			}
		}
	}
	for _, c := range validStores() {
		if text, ok := impl.BlobGet(c.store, impl.Tree{}); !ok || text != "" {
			t.Errorf("%s: BlobGet of a tree without places is %q, %v", c.name, text, ok)
		}
	}
}

func TestP73TreesThatKeepNoText(t *testing.T) {
	for _, c := range brokenTrees() {
		if _, fine := keptIn(c.texts); fine || !impl.TreeOk(c.store, c.tree) {
			t.Fatalf("%s: the tree of the test is not valid, or keeps a text", c.name)
		}
		if text, ok := impl.BlobGet(c.store, c.tree); ok || text != "" {
			t.Errorf("%s: BlobGet is %d bytes %.9q, %v", c.name, len(text), text, ok)
		}
	}
	for many := 1; many <= 16; many++ {
		for _, c := range validStores() {
			if text, ok := impl.BlobGet(c.store, impl.Tree{Depth: depthByHand(many), Many: many}); ok || text != "" {
				t.Errorf("%s: BlobGet of %d holes is %q, %v", c.name, many, text, ok)
			}
		}
	}
}

func TestP73AllShortTrees(t *testing.T) {
	alphabet := []string{"", "x", scramble(127, 1), scramble(128, 2), longBlock()}
	all := [][]string{nil}
	for from := 0; len(all[from]) < 4; from++ {
		for _, text := range alphabet {
			all = append(all, append(slices.Clone(all[from]), text))
		}
	}
	fine := 0
	for i, texts := range all {
		c := grown(fmt.Sprintf("%.9q", texts), texts, manyBirths()[i%4])
		checkGet(t, c)
		if _, ok := impl.BlobGet(c.store, c.tree); ok {
			fine++
		}
	}
	// The last piece is any but a hole, all others are one of two.
	if want := 1 + 4*(1+2+4+8); fine != want {
		t.Errorf("%d of %d trees keep a text instead of %d", fine, len(all), want)
	}
}

func TestP73TreesOfManyShapesAreRead(t *testing.T) {
	for _, c := range grownTrees() {
		checkGet(t, c)
	}
	random := rand.New(rand.NewSource(9))
	alphabet := []string{"", "x", scramble(127, 1), scramble(128, 2), longBlock()}
	for i := range 1500 {
		// Nearly all places have whole pieces, so that some of the trees keep a text.
		texts := piecesByHand(scramble(1+random.Intn(2048), i))
		for range random.Intn(3) {
			texts[random.Intn(len(texts))] = alphabet[random.Intn(5)]
		}
		checkGet(t, grown(fmt.Sprintf("random %d", i), texts, manyBirths()[i%4]))
	}
}

// nothingOfBlob checks that each function returns nothing for a tree that is not valid, also beside a valid one, if the store is valid.
func nothingOfBlob(t *testing.T, name string, st impl.Store, wrong, other impl.Tree) {
	t.Helper()
	if text, ok := impl.BlobGet(st, wrong); ok || text != "" {
		t.Errorf("%s: BlobGet is %q, %v", name, text, ok)
	}
	for _, size := range []int{0, 1, 128, 129, 2048, 2049, 4096} {
		next, tree, ok := impl.BlobPut(st, wrong, strings.Repeat("x", size))
		noTree(t, fmt.Sprintf("%s: BlobPut of %d bytes", name, size), next, tree, ok)
	}
	for _, pair := range [][2]impl.Tree{{wrong, {}}, {{}, wrong}, {wrong, other}, {other, wrong}, {wrong, wrong}} {
		if impl.BlobSame(st, pair[0], pair[1]) {
			t.Errorf("%s: BlobSame of %v is true", name, pair)
		}
		if many, ok := impl.BlobShare(st, pair[0], pair[1]); ok || many != 0 {
			t.Errorf("%s: BlobShare of %v is %d, %v", name, pair, many, ok)
		}
	}
}

func TestP73P75P76StoresThatAreNotValid(t *testing.T) {
	for i, c := range wrongStores() {
		many := i % 17
		nothingOfBlob(t, c.name, c.store, impl.Tree{Depth: depthByHand(many), Many: many}, impl.Tree{})
	}
	for _, c := range keptTrees() {
		for i, spoil := range storeSpoils() {
			nothingOfBlob(t, fmt.Sprintf("%s, store %d", c.name, i), changedStore(c.store, spoil), c.tree, c.tree)
		}
	}
}

func TestP73P75P76TreesThatAreNotValid(t *testing.T) {
	for _, c := range keptTrees() {
		wrong := func(name string, change func(tree *impl.Tree)) {
			tree := c.tree
			change(&tree)
			if tree != c.tree {
				nothingOfBlob(t, c.name+name, c.store, tree, c.tree)
			}
		}
		wrong(" one level deeper", func(tree *impl.Tree) { tree.Depth++ })
		wrong(" one level less deep", func(tree *impl.Tree) { tree.Depth-- })
		wrong(" with a negative number of places", func(tree *impl.Tree) { tree.Many = -1 })
		wrong(" with too many places", func(tree *impl.Tree) { tree.Many, tree.Depth = 17, 2 })
		wrong(" with a root of another level", func(tree *impl.Tree) { tree.Root.Level++ })
		wrong(" with a root of another sum", func(tree *impl.Tree) { tree.Root.Sum ^= 1 })
		wrong(" with a root that is born later", func(tree *impl.Tree) { tree.Root.Birth = 8 })
		wrong(" with a root in another row", func(tree *impl.Tree) { tree.Root.At = 8 })
		if c.tree.Many > 0 {
			wrong(" with a block behind its places", func(tree *impl.Tree) { tree.Many--; tree.Depth = depthByHand(tree.Many) })
		}
		for _, p := range c.all() {
			st := changedStore(c.store, func(st *impl.Store) { st.Rows[p.At] = "spoilt" })
			nothingOfBlob(t, fmt.Sprintf("%s with row %d spoilt", c.name, p.At), st, c.tree, impl.Tree{})
		}
	}
}

func TestP73TreesBentALittle(t *testing.T) {
	for seed := range int64(1500) {
		c := bentTree(rand.New(rand.NewSource(seed)))
		levels, fine := treeByHand(c.store, c.tree)
		name := fmt.Sprint("seed ", seed)
		if !fine {
			nothingOfBlob(t, name, c.store, c.tree, impl.Tree{})
			continue
		}
		texts := []string{}
		for _, p := range levels[0][:c.tree.Many] {
			text, _ := impl.StoreRead(c.store, p)
			texts = append(texts, text)
		}
		checkGet(t, grownTree{name: name, store: c.store, tree: c.tree, texts: texts})
	}
}
