package tests

import (
	"fmt"
	"math"
	"math/rand"
	"slices"
	"strings"
	"testing"

	"loop.example/poolfiles/impl"
)

// gardener makes trees by hand in a store; a pointer may be bent before it is put to where it stands.
type gardener struct {
	store impl.Store
	bend  func(g *gardener, level, i int, p impl.Ptr) impl.Ptr
}

// grownTree is a tree in a store, with the texts of its places, and its pointers level by level, the places first.
type grownTree struct {
	name   string
	store  impl.Store
	tree   impl.Tree
	texts  []string
	levels [][]impl.Ptr
}

// births tell in which group a pointer of a level was made, by its number there.
type births struct {
	name string
	of   func(level, i int) int
}

// leaves returns the pointers of the places.
func (c grownTree) leaves() []impl.Ptr {
	return c.levels[0][:c.tree.Many]
}

// all returns all pointers that are no holes: what is above a place stands ahead of the first place below it.
func (c grownTree) all() []impl.Ptr {
	list := []impl.Ptr{}
	for k := range c.levels[0] {
		for level, row := range slices.Backward(c.levels) {
			wide := 1 << (2 * level)
			if p := row[k/wide]; k%wide == 0 && p != (impl.Ptr{}) {
				list = append(list, p)
			}
		}
	}
	return list
}

// depthByHand tells the depth of a tree with so many places.
func depthByHand(many int) int {
	switch {
	case many <= 1:
		return 0
	case many <= 4:
		return 1
	default:
		return 2
	}
}

// fanByHand tells the text of an indirect block of pointers, valid or not, or the empty text if all are holes.
func fanByHand(list []impl.Ptr) string {
	texts, holes := []string{}, 0
	for _, p := range list {
		if p == (impl.Ptr{}) {
			holes++
			texts = append(texts, "-")
			continue
		}
		texts = append(texts, fmt.Sprintf("%d.%d.%d.%d.%d", p.At, p.Birth, p.Size, p.Sum, p.Level))
	}
	if holes == len(list) {
		return ""
	}
	return strings.Join(texts, ",")
}

// set puts a text to the last free row, the only reference being made in a group; the empty text has a hole.
func (g *gardener) set(text string, birth, level int) impl.Ptr {
	if text == "" {
		return impl.Ptr{}
	}
	free := freeRows(g.store.Space)
	at := free[len(free)-1]
	g.store.Rows[at], g.store.Space.Refs[at], g.store.Space.Last[at] = text, 1, birth
	return toBlock(at, birth, level, text)
}

// put is set, but the pointer may be bent.
func (g *gardener) put(text string, birth, level, i int) impl.Ptr {
	p := g.set(text, birth, level)
	if g.bend != nil {
		p = g.bend(g, level, i, p)
	}
	return p
}

// grow makes a tree whose places have texts, the empty one being a hole.
func (g *gardener) grow(name string, texts []string, born births) grownTree {
	c := grownTree{name: name, texts: texts, tree: impl.Tree{Depth: depthByHand(len(texts)), Many: len(texts)}}
	row := make([]impl.Ptr, 1<<(2*c.tree.Depth))
	for k, text := range texts {
		row[k] = g.put(text, born.of(0, k), 0, k)
	}
	c.levels = [][]impl.Ptr{row}
	for level := 1; level <= c.tree.Depth; level++ {
		next := []impl.Ptr{}
		for j := range len(row) / 4 {
			next = append(next, g.put(fanByHand(row[4*j:4*j+4]), born.of(level, j), level, j))
		}
		row = next
		c.levels = append(c.levels, row)
	}
	c.tree.Root, c.store = row[0], copyStore(g.store)
	return c
}

// grown makes a tree in an empty store in group 7.
func grown(name string, texts []string, born births) grownTree {
	g := gardener{store: emptyStore(7)}
	return g.grow(name, texts, born)
}

// manyBirths returns births that a tree in group 7 may have.
func manyBirths() []births {
	return []births{
		{"now", func(int, int) int { return 7 }},
		{"in the first group", func(int, int) int { return 1 }},
		{"now and earlier", func(level, i int) int { return 3 + 2*level - i%3 }},
		{"indirect blocks now", func(level, i int) int { return min(7, 2+i%4+7*level) }},
	}
}

// mixedBirths are births in several groups, none of them group 7.
func mixedBirths() births {
	return births{"mixed", func(level, i int) int { return 2 + 2*level - i%2 }}
}

// placeText returns a text for a place: long, short, or just like an indirect block.
func placeText(k int) string {
	switch k % 16 {
	case 0:
		return longBlock()
	case 1:
		return "\x00"
	case 2:
		return "8.1.1.5.0,-,-,-"
	case 3:
		return "-,-,-,-"
	case 5:
		return "-"
	default:
		return fmt.Sprint("text ", k)
	}
}

// placeTexts returns texts for so many places, some of them empty.
func placeTexts(many int, has func(k int) bool) []string {
	texts := make([]string, many)
	for k := range texts {
		if has(k) {
			texts[k] = placeText(k)
		}
	}
	return texts
}

// fullTexts returns texts for so many places, none of them empty.
func fullTexts(many int) []string {
	return placeTexts(many, func(int) bool { return true })
}

// treeShapes returns texts for the places of trees of each number of places: with blocks alone, with none, with one, or with some.
func treeShapes() [][]string {
	shapes := [][]string{{}}
	for many := 1; many <= 16; many++ {
		for _, has := range []func(k int) bool{
			func(int) bool { return true },
			func(int) bool { return false },
			func(k int) bool { return k == 0 },
			func(k int) bool { return k == many-1 },
			func(k int) bool { return k%2 == 1 },
			func(k int) bool { return k < many-1 && k/4 != 1 },
			func(k int) bool { return k < (many-1)/4*4 },
		} {
			if texts := placeTexts(many, has); !slices.ContainsFunc(shapes, func(s []string) bool { return slices.Equal(s, texts) }) {
				shapes = append(shapes, texts)
			}
		}
	}
	return shapes
}

// grownTrees returns valid trees of many kinds in stores in group 7.
func grownTrees() []grownTree {
	list := []grownTree{}
	for i, texts := range treeShapes() {
		for j, born := range manyBirths() {
			st := emptyStore(7)
			st.Same, st.Keep = i%2 == 0, (2*i+3*j)%7
			if (i+j)%3 == 0 {
				// What else there is in a store: the same text, and blocks that were given up.
				st = withGiven(storeWith(7, heldRow{9, longBlock(), 1, 6}, heldRow{63, "other", 2, 5}), refsTo(63, 6), st.Keep, nil)
			}
			g := gardener{store: st}
			list = append(list, g.grow(fmt.Sprintf("tree %d %.9q, %s", i, texts, born.name), texts, born))
		}
	}
	return list
}

// someTrees returns some of them.
func someTrees() []grownTree {
	list := []grownTree{}
	for i, c := range grownTrees() {
		if i%4 == i/4%4 {
			list = append(list, c)
		}
	}
	return list
}

// treeByHand tells the pointers of a tree level by level, the places first, and whether it is valid, in another way than the program does: from the root on, all of a level at once.
func treeByHand(st impl.Store, t impl.Tree) ([][]impl.Ptr, bool) {
	if !impl.StoreOk(st) || t.Many < 0 || t.Many > 16 || t.Depth != depthByHand(t.Many) || t.Root.Birth > st.Txg {
		return nil, false
	}
	levels := [][]impl.Ptr{{t.Root}}
	for level := t.Depth; level >= 0; level-- {
		below := []impl.Ptr{}
		for _, p := range levels[0] {
			text, ok := impl.StoreRead(st, p)
			list := make([]impl.Ptr, 4)
			if level > 0 && ok && text != "" {
				list, ok = fanOf(text)
			}
			late := func(q impl.Ptr) bool { return q.Birth > p.Birth }
			if !ok || text != "" && p.Level != level || slices.ContainsFunc(list, late) {
				return nil, false
			}
			below = append(below, list...)
		}
		if level > 0 {
			levels = slices.Insert(levels, 0, below)
		}
	}
	some := func(p impl.Ptr) bool { return p != impl.Ptr{} }
	return levels, !slices.ContainsFunc(levels[0][t.Many:], some)
}

// nothingOfTree checks that a tree is told as not valid, and that each function returns nothing for it.
func nothingOfTree(t *testing.T, name string, st impl.Store, tree impl.Tree) {
	t.Helper()
	if impl.TreeOk(st, tree) {
		t.Errorf("%s: TreeOk is true", name)
	}
	if list, ok := impl.TreeLeaves(st, tree); ok || len(list) != 0 {
		t.Errorf("%s: TreeLeaves is %v, %v", name, list, ok)
	}
	if list, ok := impl.TreeAll(st, tree); ok || len(list) != 0 {
		t.Errorf("%s: TreeAll is %v, %v", name, list, ok)
	}
	for _, k := range []int{0, 3, 15} {
		if text, ok := impl.TreeGet(st, tree, k); ok || text != "" {
			t.Errorf("%s: TreeGet of place %d is %q, %v", name, k, text, ok)
		}
		for _, text := range []string{"", "text"} {
			next, changed, ok := impl.TreePut(st, tree, k, text)
			noTree(t, fmt.Sprintf("%s: TreePut of %q to place %d", name, text, k), next, changed, ok)
		}
	}
	for _, many := range []int{0, tree.Many} {
		next, changed, ok := impl.TreeCut(st, tree, many)
		noTree(t, fmt.Sprintf("%s: TreeCut to %d places", name, many), next, changed, ok)
	}
	for _, pair := range [][2]impl.Tree{{tree, {}}, {{}, tree}, {tree, tree}} {
		if list, ok := impl.TreeDiff(st, pair[0], pair[1]); ok || len(list) != 0 {
			t.Errorf("%s: TreeDiff is %v, %v", name, list, ok)
		}
	}
}

// noTree checks that nothing was returned, and false.
func noTree(t *testing.T, what string, st impl.Store, tree impl.Tree, ok bool) {
	t.Helper()
	if ok || tree != (impl.Tree{}) || !noStore(st) {
		t.Errorf("%s is %v, %v, or tells a store", what, tree, ok)
	}
}

func TestP62ValidTrees(t *testing.T) {
	for _, c := range grownTrees() {
		if levels, ok := treeByHand(c.store, c.tree); !ok || !slices.EqualFunc(levels, c.levels, slices.Equal) {
			t.Fatalf("%s: the tree of the test is not valid", c.name)
		}
		list, ok := impl.TreeLeaves(c.store, c.tree)
		if !impl.TreeOk(c.store, c.tree) || !ok || len(list) != c.tree.Many || !slices.Equal(list, c.leaves()) {
			t.Errorf("%s: TreeOk is false, or TreeLeaves is %v, %v", c.name, list, ok)
		}
	}
}

func TestP62TreesWithoutBlocks(t *testing.T) {
	for _, c := range validStores() {
		for many := 0; many <= 16; many++ {
			tree := impl.Tree{Depth: depthByHand(many), Many: many}
			list, ok := impl.TreeLeaves(c.store, tree)
			if !impl.TreeOk(c.store, tree) || !ok || !slices.Equal(list, make([]impl.Ptr, many)) {
				t.Errorf("%s: %d holes are no tree, or TreeLeaves is %v, %v", c.name, many, list, ok)
			}
		}
	}
}

func TestP62BirthsInOrder(t *testing.T) {
	// All groups in which the places, what is above them, and the root may be made, with each group open.
	for code := range 4 * 4 * 4 {
		groups := [3]int{1 + code%4, 1 + code/4%4, 1 + code/16}
		for many := 1; many <= 16; many++ {
			g := gardener{store: emptyStore(4)}
			c := g.grow("", fullTexts(many), births{of: func(level, _ int) int { return groups[level] }})
			for txg := 1; txg <= 4; txg++ {
				want := slices.IsSorted(groups[:c.tree.Depth+1]) && groups[c.tree.Depth] <= txg
				if ok := impl.TreeOk(withTxg(c.store, txg), c.tree); ok != want {
					t.Errorf("births %v, %d places, in group %d: TreeOk is %v", groups, many, txg, ok)
				}
			}
		}
	}
}

// withTxg is a store in which another group is open; the groups of its rows are cut down to that, as it would not be valid otherwise.
func withTxg(st impl.Store, txg int) impl.Store {
	return changedStore(st, func(st *impl.Store) {
		st.Txg = txg
		for at := range st.Space.Last {
			st.Space.Last[at] = min(st.Space.Last[at], txg)
		}
	})
}

func TestP62ShapesThatAreNone(t *testing.T) {
	for _, texts := range treeShapes() {
		c := grown("", texts, mixedBirths())
		for _, depth := range []int{-1, 0, 1, 2, 3, 4, 16, math.MinInt, math.MaxInt, 1 << 32} {
			if depth == c.tree.Depth {
				continue
			}
			nothingOfTree(t, fmt.Sprintf("%.9q with the depth %d", texts, depth), c.store, impl.Tree{Root: c.tree.Root, Depth: depth, Many: len(texts)})
		}
		for _, many := range []int{-1, -2, 17, 18, 64, math.MinInt, math.MaxInt, 1<<32 + 3} {
			for depth := -1; depth <= 3; depth++ {
				nothingOfTree(t, fmt.Sprintf("%.9q with %d places", texts, many), c.store, impl.Tree{Root: c.tree.Root, Depth: depth, Many: many})
			}
		}
	}
}

func TestP62BlocksFromManyOn(t *testing.T) {
	for _, texts := range treeShapes() {
		c := grown("", texts, mixedBirths())
		last := len(texts)
		for last > 0 && texts[last-1] == "" {
			last--
		}
		for many := 0; many <= 16; many++ {
			if depthByHand(many) != c.tree.Depth {
				continue
			}
			tree := c.tree
			tree.Many = many
			if ok := impl.TreeOk(c.store, tree); ok != (many >= last) {
				t.Errorf("TreeOk is %v for %d places with the last block in place %d", ok, many, last-1)
			}
			if many < last {
				nothingOfTree(t, fmt.Sprintf("%d places with a block in place %d", many, last-1), c.store, tree)
			}
		}
	}
}

func TestP62RootsThatAreNotValid(t *testing.T) {
	for _, c := range []grownTree{grown("", nil, mixedBirths()), grown("", fullTexts(1), mixedBirths()), grown("", fullTexts(3), mixedBirths()), grown("", fullTexts(16), mixedBirths())} {
		for i, p := range wrongPointers() {
			tree := c.tree
			tree.Root = p
			nothingOfTree(t, fmt.Sprintf("%d places with the root %v", tree.Many, p), c.store, tree)
			// As the root, but for one part.
			part := pointerParts()[i%5]
			tree.Root = c.tree.Root
			if n := *part.of(&p); n < part.least || n > part.top {
				*part.of(&tree.Root) = n
			}
			if tree.Root != c.tree.Root {
				nothingOfTree(t, fmt.Sprintf("%d places with the root %v", tree.Many, tree.Root), c.store, tree)
			}
		}
	}
	c := grown("", fullTexts(16), mixedBirths())
	for many := 1; many <= 16; many++ {
		for _, row := range c.levels {
			for _, p := range row {
				// Just the root of a tree of 16 places leads to its places.
				if tree := (impl.Tree{Root: p, Depth: depthByHand(many), Many: many}); p.Level != tree.Depth {
					nothingOfTree(t, fmt.Sprintf("%d places with a root of level %d", many, p.Level), c.store, tree)
				}
			}
		}
	}
}

// pointerBends returns ways to bend a pointer at a level, by each of which it is none of a valid tree any more.
func pointerBends() map[string]func(g *gardener, level int, p impl.Ptr) impl.Ptr {
	other := func(text string) func(g *gardener, level int, p impl.Ptr) impl.Ptr {
		return func(g *gardener, level int, p impl.Ptr) impl.Ptr { return g.set(text, p.Birth, level) }
	}
	list := map[string]func(g *gardener, level int, p impl.Ptr) impl.Ptr{
		"of the level above":     func(_ *gardener, _ int, p impl.Ptr) impl.Ptr { p.Level++; return p },
		"of the level below":     func(_ *gardener, _ int, p impl.Ptr) impl.Ptr { p.Level--; return p },
		"of another level":       func(_ *gardener, _ int, p impl.Ptr) impl.Ptr { p.Level = (p.Level + 2) % 3; return p },
		"too late":               func(_ *gardener, _ int, p impl.Ptr) impl.Ptr { p.Birth = 8; return p },
		"of the last group":      func(_ *gardener, _ int, p impl.Ptr) impl.Ptr { p.Birth = 900; return p },
		"of no group":            func(_ *gardener, _ int, p impl.Ptr) impl.Ptr { p.Birth = 0; return p },
		"to a larger block":      func(_ *gardener, _ int, p impl.Ptr) impl.Ptr { p.Size++; return p },
		"to a smaller block":     func(_ *gardener, _ int, p impl.Ptr) impl.Ptr { p.Size--; return p },
		"with another sum":       func(_ *gardener, _ int, p impl.Ptr) impl.Ptr { p.Sum ^= 1; return p },
		"to a free row":          func(_ *gardener, _ int, p impl.Ptr) impl.Ptr { p.At = 8; return p },
		"to a row for no blocks": func(_ *gardener, _ int, p impl.Ptr) impl.Ptr { p.At = 7; return p },
		"to a row behind all":    func(_ *gardener, _ int, p impl.Ptr) impl.Ptr { p.At = 64; return p },
		"without a row":          func(_ *gardener, _ int, p impl.Ptr) impl.Ptr { p.At = 0; return p },
	}
	for _, text := range []string{
		"text", "-", "-,-,-,-", "-,-,-", "-,-,-,-,-", ",,,", "8.1.1.5.0", "8.1.1.5.0,-,-", "8.1.1.5.0,-,-,-,-", "-,-,-,8.1.1.5.3", "08.1.1.5.0,-,-,-", "0.0.0.0.0,-,-,-",
	} {
		list[fmt.Sprintf("to %q", text)] = other(text)
	}
	return list
}

func TestP62PointersThatLeadNowhere(t *testing.T) {
	bent := 0
	for _, many := range []int{1, 2, 4, 5, 9, 16} {
		whole := grown("", fullTexts(many), mixedBirths())
		for name, bend := range pointerBends() {
			for level, row := range whole.levels {
				// A place may have any text.
				if level == 0 && strings.HasPrefix(name, "to \"") {
					continue
				}
				for i, p := range row {
					if p == (impl.Ptr{}) {
						continue
					}
					g := gardener{store: emptyStore(7)}
					g.bend = func(g *gardener, atLevel, at int, p impl.Ptr) impl.Ptr {
						if atLevel != level || at != i {
							return p
						}
						return bend(g, level, p)
					}
					c := g.grow("", fullTexts(many), mixedBirths())
					bent++
					nothingOfTree(t, fmt.Sprintf("%d places, pointer %d of level %d %s", many, i, level, name), c.store, c.tree)
				}
			}
		}
	}
	if bent < 500 {
		t.Errorf("just %d pointers were bent", bent)
	}
}

func TestP62PointersMadeBehindTheirBlock(t *testing.T) {
	for _, many := range []int{2, 4, 5, 16} {
		for level := range depthByHand(many) {
			for i := range (many-1)>>(2*level) + 1 {
				for _, late := range []int{0, 1} {
					c := grown("", fullTexts(many), births{of: func(atLevel, at int) int {
						if atLevel == level && at == i {
							return 5 + late
						}
						return 5
					}})
					if ok := impl.TreeOk(c.store, c.tree); ok != (late == 0) {
						t.Errorf("%d places, pointer %d of level %d made %d groups behind: TreeOk is %v", many, i, level, late, ok)
					}
				}
			}
		}
	}
}

func TestP62RowsThatAreSpoilt(t *testing.T) {
	for _, many := range []int{1, 3, 5, 16} {
		c := grown("", fullTexts(many), mixedBirths())
		for _, p := range c.all() {
			for _, text := range []string{"text", "-,-,-,-", longBlock(), c.store.Rows[p.At] + "x", c.store.Rows[p.At][1:]} {
				if text == c.store.Rows[p.At] || text == "" || len(text) > 128 {
					continue
				}
				st := changedStore(c.store, func(st *impl.Store) { st.Rows[p.At] = text })
				nothingOfTree(t, fmt.Sprintf("%d places, %.9q in row %d", many, text, p.At), st, c.tree)
			}
			st := changedStore(c.store, func(st *impl.Store) {
				st.Rows[p.At], st.Space.Refs[p.At], st.Space.Last[p.At] = "", 0, 0
			})
			nothingOfTree(t, fmt.Sprintf("%d places, row %d free", many, p.At), st, c.tree)
		}
	}
}

// storeSpoils returns ways to spoil a store in group 7 the row 8 of which is free, by each of which it is not valid any more.
func storeSpoils() []func(st *impl.Store) {
	return []func(st *impl.Store){
		func(st *impl.Store) { st.Txg = 0 },
		func(st *impl.Store) { st.Txg = 901 },
		func(st *impl.Store) { st.Keep = 7 },
		func(st *impl.Store) { st.Keep = -1 },
		func(st *impl.Store) { st.Rows = st.Rows[:63] },
		func(st *impl.Store) { st.Rows = append(st.Rows, "") },
		func(st *impl.Store) { st.Rows[8] = "free" },
		func(st *impl.Store) { st.Rows[7] = "text" },
		func(st *impl.Store) { st.Space.Refs = nil },
		func(st *impl.Store) { st.Space.Last[8] = 1 },
		func(st *impl.Store) { st.Gone = refsTo(8, 1) },
		func(st *impl.Store) { st.Keep, st.Dead = 3, refsTo(8, 1) },
		func(st *impl.Store) { st.Gone = []impl.Ptr{{}} },
	}
}

func TestP62StoresThatAreNotValid(t *testing.T) {
	for i, c := range wrongStores() {
		many := i % 17
		nothingOfTree(t, c.name, c.store, impl.Tree{Depth: depthByHand(many), Many: many})
	}
	for _, texts := range treeShapes() {
		c := grown("", texts, mixedBirths())
		for i, spoil := range storeSpoils() {
			nothingOfTree(t, fmt.Sprintf("%.9q, store %d", texts, i), changedStore(c.store, spoil), c.tree)
		}
	}
}

// bentTree makes a tree in which random numbers bend some pointers a little, so that it may be valid, or not.
func bentTree(random *rand.Rand) grownTree {
	g := gardener{store: emptyStore(7)}
	g.bend = func(g *gardener, level, i int, p impl.Ptr) impl.Ptr {
		if random.Intn(12) > 0 {
			return p
		}
		switch random.Intn(6) {
		case 0:
			p.Birth += random.Intn(5) - 2
		case 1:
			p.Level += random.Intn(3) - 1
		case 2:
			p.At += random.Intn(3) - 1
		case 3:
			p = impl.Ptr{}
		case 4:
			p = g.set(fanByHand([]impl.Ptr{{}, p, {}, {}}), 3+level, level)
		default:
			p = g.set(placeText(random.Intn(16)), 2+level, level)
		}
		return p
	}
	has := random.Intn(4)
	texts := placeTexts(random.Intn(17), func(int) bool { return random.Intn(4) >= has })
	c := g.grow("", texts, manyBirths()[random.Intn(4)])
	switch random.Intn(8) {
	case 0:
		c.tree.Many += random.Intn(5) - 2
	case 1:
		c.tree.Depth += random.Intn(3) - 1
	case 2:
		c.tree.Root.Level += random.Intn(3) - 1
	}
	return c
}

func TestP62TreesBentALittle(t *testing.T) {
	many := map[bool]int{}
	for seed := range int64(6000) {
		c := bentTree(rand.New(rand.NewSource(seed)))
		levels, want := treeByHand(c.store, c.tree)
		many[want]++
		if ok := impl.TreeOk(c.store, c.tree); ok != want {
			t.Fatalf("seed %d: TreeOk is %v instead of %v", seed, ok, want)
		}
		if list, ok := impl.TreeLeaves(c.store, c.tree); ok != want || want && !slices.Equal(list, levels[0][:c.tree.Many]) {
			t.Fatalf("seed %d: TreeLeaves is %v, %v", seed, list, ok)
		}
	}
	if many[true] < 1000 || many[false] < 1000 {
		t.Errorf("just %d trees were valid and %d were not", many[true], many[false])
	}
}
