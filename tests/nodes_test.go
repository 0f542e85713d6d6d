package tests

import (
	"fmt"
	"math"
	"reflect"
	"slices"
	"strings"
	"testing"

	"loop.example/poolfiles/impl"
)

// kindRange tells what nodes of a kind may be: their greatest number of names, and that of bytes of their pieces.
type kindRange struct {
	kind, links, piece int
}

func kindRanges() []kindRange {
	return []kindRange{{1, 9, 12}, {2, 1, 128}}
}

// noKinds returns numbers that are no kind of a node.
func noKinds() []int {
	return []int{0, 3, 4, -1, -2, 12, 128, 257, 258, 1<<32 + 1, 1<<32 + 2, math.MinInt, math.MinInt + 1, math.MaxInt}
}

// piecesCounted tells how many pieces so many bytes have, in another way than the program does: one piece after the other.
func piecesCounted(piece, size int) int {
	many := 0
	for rest := size; rest > 0; rest -= piece {
		many++
	}
	return many
}

// pieceEdges returns the sizes that the nodes of a kind may have: all that are about those of whole pieces.
func pieceEdges(r kindRange) []int {
	sizes := []int{0, 1, 2}
	for many := 1; many <= 16; many++ {
		sizes = append(sizes, many*r.piece-1, many*r.piece)
		if many < 16 {
			sizes = append(sizes, many*r.piece+1)
		}
	}
	return sizes
}

// wrongNodeSizes returns sizes that no node of a kind has, some so large that a product or a sum would not fit.
func wrongNodeSizes(r kindRange) []int {
	top := 16 * r.piece
	return []int{
		-1, -2, -r.piece, -top, -top - 1, top + 1, top + 2, top + r.piece, 2 * top, 1000000000, 1 << 32, 1<<32 + 1, 1<<32 + top,
		math.MaxInt, math.MaxInt - 1, math.MaxInt - r.piece, math.MaxInt - r.piece + 1, math.MaxInt - r.piece + 2, math.MinInt, math.MinInt + 1, math.MinInt + top,
	}
}

// pointerFine tells whether a pointer that is no hole is valid, by the ranges of its parts.
func pointerFine(p impl.Ptr) bool {
	for _, part := range pointerParts() {
		if n := *part.of(&p); n < part.least || n > part.top {
			return false
		}
	}
	return true
}

// nodeFine tells whether a node is formed, in another way than the program does.
func nodeFine(n impl.Node) bool {
	for _, r := range kindRanges() {
		if n.Kind != r.kind {
			continue
		}
		if n.Links < 1 || n.Links > r.links || n.Size < 0 || n.Size > 16*r.piece {
			return false
		}
		many, root := piecesCounted(r.piece, n.Size), n.Tree.Root
		rooted := root == impl.Ptr{} || pointerFine(root) && root.Level == n.Tree.Depth
		return rooted && n.Tree.Many == many && n.Tree.Depth == depthByHand(many)
	}
	return false
}

// recordByHand tells the text of a record.
func recordByHand(list []string) string {
	text := ""
	for _, field := range list {
		text += fmt.Sprintf("%d:%s", len(field), field)
	}
	return text
}

// nodeFields tells the fields of a node, formed or not.
func nodeFields(n impl.Node) []string {
	root := "-"
	if p := n.Tree.Root; p != (impl.Ptr{}) {
		root = fmt.Sprintf("%d.%d.%d.%d.%d", p.At, p.Birth, p.Size, p.Sum, p.Level)
	}
	return []string{fmt.Sprint(n.Kind), fmt.Sprint(n.Links), fmt.Sprint(n.Size), root, fmt.Sprint(n.Tree.Depth), fmt.Sprint(n.Tree.Many), "end"}
}

// nodeText tells the text of a node, formed or not.
func nodeText(n impl.Node) string {
	return recordByHand(nodeFields(n))
}

// rootsAt returns roots of a level: a hole, and valid pointers.
func rootsAt(level int) []impl.Ptr {
	return []impl.Ptr{
		{}, {At: 8, Birth: 1, Size: 1, Sum: 0, Level: level}, {At: 63, Birth: 900, Size: 128, Sum: sumGreatest, Level: level},
		{At: 30, Birth: 450, Size: 64, Sum: 4711, Level: level},
	}
}

// nodesOf returns the nodes of a kind that have a size and so many names.
func nodesOf(r kindRange, size, links int) []impl.Node {
	list := []impl.Node{}
	many := piecesCounted(r.piece, size)
	depth := depthByHand(many)
	for _, root := range rootsAt(depth) {
		list = append(list, impl.Node{Kind: r.kind, Links: links, Size: size, Tree: impl.Tree{Root: root, Depth: depth, Many: many}})
	}
	return list
}

// formedNodes returns nodes that are formed: of each kind, with each number of names, and with as many bytes as whole pieces have, one less and one more.
func formedNodes() []impl.Node {
	list := []impl.Node{}
	for _, r := range kindRanges() {
		for links := 1; links <= r.links; links++ {
			for _, size := range pieceEdges(r) {
				list = append(list, nodesOf(r, size, links)...)
			}
		}
	}
	return list
}

// fewNodes returns some of them: with one name, or all that a file may have.
func fewNodes() []impl.Node {
	return slices.DeleteFunc(formedNodes(), func(n impl.Node) bool { return n.Links != 1 && n.Links != 9 })
}

// checkNode checks what NodeOk, NodePut and NodeGet return of a node that may be formed or not, and tells whether it is.
func checkNode(t *testing.T, n impl.Node) bool {
	t.Helper()
	fine, want := nodeFine(n), ""
	if fine {
		want = nodeText(n)
	}
	was := n
	if ok, text := impl.NodeOk(n), impl.NodePut(n); ok != fine || text != want || n != was {
		t.Errorf("NodeOk(%v) = %v, NodePut = %q instead of %q", n, ok, text, want)
	}
	if back, ok := impl.NodeGet(nodeText(n)); ok != fine || fine && back != n || !fine && back != (impl.Node{}) {
		t.Errorf("NodeGet(%q) = %v, %v", nodeText(n), back, ok)
	}
	return fine
}

func TestNodeTexts(t *testing.T) {
	file := impl.Tree{Root: impl.Ptr{At: 9, Birth: 23, Size: 4, Sum: 567, Level: 1}, Depth: 1, Many: 2}
	last := impl.Tree{Root: impl.Ptr{At: 63, Birth: 900, Size: 128, Sum: sumGreatest, Level: 2}, Depth: 2, Many: 16}
	cases := []struct {
		n    impl.Node
		text string
	}{
		{impl.Node{Kind: impl.NodeFile, Links: 1}, "1:11:11:01:-1:01:03:end"},
		{impl.Node{Kind: impl.NodeFolder, Links: 1}, "1:21:11:01:-1:01:03:end"},
		{impl.Node{Kind: impl.NodeFile, Links: impl.LinkMax, Size: 13, Tree: file}, "1:11:92:1312:9.23.4.567.11:11:23:end"},
		{impl.Node{Kind: impl.NodeFolder, Links: 1, Size: 129, Tree: file}, "1:21:13:12912:9.23.4.567.11:11:23:end"},
		{impl.Node{Kind: impl.NodeFile, Links: 2, Size: 12, Tree: impl.Tree{Many: 1}}, "1:11:22:121:-1:01:13:end"},
		{impl.Node{Kind: impl.NodeFile, Links: 9, Size: 192, Tree: last}, "1:11:93:19221:63.900.128.99460728.21:22:163:end"},
		{impl.Node{Kind: impl.NodeFolder, Links: 1, Size: 2048, Tree: last}, "1:21:14:204821:63.900.128.99460728.21:22:163:end"},
	}
	for _, c := range cases {
		if text := impl.NodePut(c.n); text != c.text {
			t.Errorf("NodePut(%v) = %q instead of %q", c.n, text, c.text)
		}
		if n, ok := impl.NodeGet(c.text); !ok || n != c.n {
			t.Errorf("NodeGet(%q) = %v, %v", c.text, n, ok)
		}
	}
}

func TestP79NodesThatAreFormed(t *testing.T) {
	for _, n := range formedNodes() {
		if !checkNode(t, n) {
			t.Fatalf("the node %v of the test is not formed", n)
		}
	}
}

func TestP79EachSize(t *testing.T) {
	for _, r := range kindRanges() {
		for size := 0; size <= 16*r.piece; size++ {
			for _, n := range nodesOf(r, size, 1) {
				if !checkNode(t, n) {
					t.Fatalf("the node %v of the test is not formed", n)
				}
			}
		}
	}
}

func TestP79KindsThatAreNone(t *testing.T) {
	for _, n := range fewNodes() {
		for _, n.Kind = range noKinds() {
			if checkNode(t, n) {
				t.Fatalf("the node %v of the test is formed", n)
			}
		}
	}
}

func TestP79NodesOfTheOtherKind(t *testing.T) {
	many := 0
	for _, n := range formedNodes() {
		n.Kind = 3 - n.Kind
		// Of both kinds an empty node has no piece, and one of up to PieceMax bytes has one.
		want := n.Links == 1 && n.Size <= 12
		if checkNode(t, n) != want {
			t.Errorf("the node %v of the other kind is formed: %v", n, !want)
		}
		if want {
			many++
		}
	}
	if many < 10 {
		t.Errorf("just %d nodes are formed as the other kind, too", many)
	}
}

func TestP79NumbersOfNames(t *testing.T) {
	for _, n := range fewNodes() {
		for _, n.Links = range []int{-9, -1, 0, 1, 2, 5, 8, 9, 10, 11, 900, 1<<32 + 1, -1<<32 + 1, math.MinInt, math.MinInt + 1, math.MaxInt} {
			want := n.Links == 1 || n.Kind == impl.NodeFile && n.Links >= 1 && n.Links <= 9
			if checkNode(t, n) != want {
				t.Errorf("%v: formed is not %v", n, want)
			}
		}
	}
}

func TestP79SizesThatAreNone(t *testing.T) {
	for _, r := range kindRanges() {
		for _, many := range []int{-1, 0, 1, 2, 4, 5, 15, 16, 17} {
			for _, size := range wrongNodeSizes(r) {
				n := impl.Node{Kind: r.kind, Links: 1, Size: size, Tree: impl.Tree{Depth: depthByHand(many), Many: many}}
				if checkNode(t, n) {
					t.Errorf("the node %v of the test is formed", n)
				}
			}
		}
	}
}

func TestP79OneByteMoreThanThePiecesHold(t *testing.T) {
	for _, r := range kindRanges() {
		for many := 0; many <= 16; many++ {
			tree := impl.Tree{Depth: depthByHand(many), Many: many}
			for size, want := range map[int]bool{
				many*r.piece + 1: false, many * r.piece: true, many*r.piece - 1: many > 0, (many-1)*r.piece + 1: many > 0, (many - 1) * r.piece: false,
			} {
				n := impl.Node{Kind: r.kind, Links: 1, Size: size, Tree: tree}
				if checkNode(t, n) != want {
					t.Errorf("%v: formed is not %v", n, want)
				}
			}
		}
	}
}

func TestP79NumbersOfPlaces(t *testing.T) {
	for _, n := range fewNodes() {
		right := n.Tree
		for _, many := range []int{right.Many - 1, right.Many + 1, right.Many + 4, -right.Many - 1, 17, right.Many + 1<<32, math.MinInt, math.MaxInt} {
			n.Tree = right
			n.Tree.Many = many
			if checkNode(t, n) {
				t.Errorf("the node %v of the test is formed", n)
			}
			// The same with a depth and a root that would fit so many places.
			n.Tree.Depth = depthByHand(many)
			if n.Tree.Root != (impl.Ptr{}) {
				n.Tree.Root.Level = n.Tree.Depth
			}
			if checkNode(t, n) {
				t.Errorf("the node %v of the test is formed", n)
			}
		}
	}
}

func TestP79Depths(t *testing.T) {
	for _, n := range fewNodes() {
		right := n.Tree
		for _, depth := range []int{-1, 0, 1, 2, 3, 4, 1 << 32, right.Depth + 1<<32, math.MinInt, math.MaxInt} {
			n.Tree = right
			n.Tree.Depth = depth
			if checkNode(t, n) != (depth == right.Depth) {
				t.Errorf("%v: formed is not %v", n, depth == right.Depth)
			}
			if n.Tree.Root != (impl.Ptr{}) {
				n.Tree.Root.Level = depth
			}
			if checkNode(t, n) != (depth == right.Depth) {
				t.Errorf("%v: formed is not %v", n, depth == right.Depth)
			}
		}
	}
}

func TestP79RootsOfOtherLevels(t *testing.T) {
	for _, n := range fewNodes() {
		if n.Tree.Root == (impl.Ptr{}) {
			continue
		}
		for _, level := range []int{-1, 0, 1, 2, 3, n.Tree.Depth + 1<<32, math.MinInt, math.MaxInt} {
			n.Tree.Root.Level = level
			if checkNode(t, n) != (level == n.Tree.Depth) {
				t.Errorf("%v: formed is not %v", n, level == n.Tree.Depth)
			}
		}
	}
}

func TestP79RootsThatAreNotValid(t *testing.T) {
	sizes := []int{0, 1, 12, 13, 48, 49, 192}
	for _, n := range fewNodes() {
		if !slices.Contains(sizes, n.Size) || n.Tree.Root != (impl.Ptr{}) {
			continue
		}
		for _, n.Tree.Root = range wrongPointers() {
			if checkNode(t, n) {
				t.Errorf("the node %v of the test is formed", n)
			}
		}
	}
}

func TestP79NodesOfAllShapes(t *testing.T) {
	roots := []impl.Ptr{{}, {Level: 1}}
	for level := -1; level <= 3; level++ {
		roots = append(roots, impl.Ptr{At: 8, Birth: 1, Size: 1, Level: level})
	}
	formed := 0
	for _, size := range append(pieceEdges(kindRanges()[0]), 193, 255, 256, 257, 512, 513, 1920, 1921, 2048, 2049, -1) {
		for shape := range 6 * 5 * 19 * 5 {
			n := impl.Node{Kind: shape%6 - 1, Links: []int{0, 1, 2, 9, 10}[shape/6%5], Size: size}
			n.Tree = impl.Tree{Depth: shape/570 - 1, Many: shape/30%19 - 1}
			for _, n.Tree.Root = range roots {
				if ok := impl.NodeOk(n); ok != nodeFine(n) || ok != (impl.NodePut(n) != "") {
					t.Fatalf("NodeOk(%v) = %v, NodePut = %q", n, ok, impl.NodePut(n))
				} else if ok {
					formed++
				}
			}
		}
	}
	if formed < 100 {
		t.Errorf("just %d nodes are formed", formed)
	}
}

func TestP80NodesAreReadBack(t *testing.T) {
	longest := 0
	for _, n := range formedNodes() {
		text := impl.NodePut(n)
		if back, ok := impl.NodeGet(text); !ok || back != n {
			t.Errorf("NodeGet(NodePut(%v)) = %v, %v", n, back, ok)
		}
		if _, ok := impl.PtrOf(8, 1, 0, text); !ok || len(text) < 1 || len(text) > impl.BlockMax {
			t.Errorf("NodePut(%v) = %q, which is no block", n, text)
		}
		longest = max(longest, len(text))
	}
	// The longest text has the numbers with the most digits.
	if want := len("1:21:14:204821:63.900.128.99460728.21:22:163:end"); longest != want {
		t.Errorf("the longest text has %d bytes, not %d", longest, want)
	}
}

func TestP80NodesAreKeptInBlocks(t *testing.T) {
	st, tree := impl.StoreNew(false), impl.Tree{}
	list := formedNodes()
	for k := range 16 {
		next, grown, ok := impl.TreePut(st, tree, k, impl.NodePut(list[k*97%len(list)]))
		if !ok {
			t.Fatalf("TreePut of node %d fails", k)
		}
		st, tree = next, grown
	}
	for k := range 16 {
		text, ok := impl.TreeGet(st, tree, k)
		n, fine := impl.NodeGet(text)
		if want := list[k*97%len(list)]; !ok || !fine || n != want {
			t.Errorf("node %d is %v, %v instead of %v", k, n, fine, want)
		}
	}
}

func TestP80FoldersWithTexts(t *testing.T) {
	for _, size := range blobSizes() {
		st, tree, ok := impl.BlobPut(impl.StoreNew(true), impl.Tree{}, scramble(size, 1))
		n := impl.Node{Kind: impl.NodeFolder, Links: 1, Size: size, Tree: tree}
		back, fine := impl.NodeGet(impl.NodePut(n))
		if !ok || !impl.NodeOk(n) || !fine || back != n || tree.Many != impl.NodePieces(impl.NodeFolder, size) {
			t.Errorf("a folder of %d bytes: %v, read back as %v, %v", size, n, back, fine)
		}
		if text, is := impl.BlobGet(st, back.Tree); !is || text != scramble(size, 1) {
			t.Errorf("a folder of %d bytes keeps %d bytes, %v", size, len(text), is)
		}
	}
}

// fileOf makes a file that keeps a text in a new store, each piece being cut ahead of it.
func fileOf(t *testing.T, text string) (impl.Store, impl.Node) {
	t.Helper()
	st, n := impl.StoreNew(true), impl.Node{Kind: impl.NodeFile, Links: 1, Size: len(text)}
	for k := range impl.NodePieces(impl.NodeFile, len(text)) {
		piece, ok := impl.PieceCut(text[12*k : min(len(text), 12*k+12)])
		next, tree, put := impl.TreePut(st, n.Tree, k, piece)
		if !ok || !put {
			t.Fatalf("piece %d of %q is not put", k, text)
		}
		st, n.Tree = next, tree
	}
	return st, n
}

// textOf returns the text that a file keeps, each piece being filled up.
func textOf(t *testing.T, st impl.Store, n impl.Node) string {
	t.Helper()
	text := ""
	for k := range n.Tree.Many {
		piece, ok := impl.TreeGet(st, n.Tree, k)
		whole, fine := impl.PieceFill(piece, min(12, n.Size-12*k))
		if !ok || !fine {
			t.Fatalf("piece %d of %v is not read: %q", k, n, piece)
		}
		text += whole
	}
	return text
}

func TestP80P82P83FilesWithTexts(t *testing.T) {
	for size := range 193 {
		for _, text := range []string{
			scramble(size, 1), strings.Repeat("\x00", size), strings.Repeat("a", size/2) + strings.Repeat("\x00", size-size/2),
			strings.Repeat("\x00", size/2) + strings.Repeat("a", size-size/2), strings.Repeat("a\x00\x00\x00\x00\x00\x00", 28)[:size],
		} {
			st, n := fileOf(t, text)
			back, ok := impl.NodeGet(impl.NodePut(n))
			if !impl.NodeOk(n) || !ok || back != n {
				t.Fatalf("a file of %q: %v, read back as %v, %v", text, n, back, ok)
			}
			if got := textOf(t, st, back); got != text {
				t.Errorf("a file of %q keeps %q", text, got)
			}
		}
	}
}

// numbersAlone reports whether values of a type have numbers alone, so that no two of them share memory.
func numbersAlone(of reflect.Type) bool {
	if of.Kind() != reflect.Struct {
		return of.Kind() == reflect.Int
	}
	for field := range of.NumField() {
		if !numbersAlone(of.Field(field).Type) {
			return false
		}
	}
	return true
}

func TestNodesShareNoMemory(t *testing.T) {
	if !numbersAlone(reflect.TypeFor[impl.Node]()) {
		t.Errorf("a node has more than numbers")
	}
	one := impl.Node{Kind: impl.NodeFile, Links: 1, Size: 13, Tree: impl.Tree{Depth: 1, Many: 2}}
	text := impl.NodePut(one)
	two, _ := impl.NodeGet(text)
	two.Links, two.Tree.Root.At = 9, 8
	three, _ := impl.NodeGet(text)
	if one.Links != 1 || impl.NodePut(one) != text || three != one {
		t.Errorf("a change of one node makes the others %v and %v", one, three)
	}
}
