package tests

import (
	"regexp"
	"slices"
	"strconv"
	"strings"
	"testing"

	"loop.example/poolfiles/impl"
)

var fieldHead = regexp.MustCompile(`^(0|[1-9][0-9]{0,3}):`)

// fieldsOf tells the fields of the text of a record, in another way than the program does.
func fieldsOf(s string) ([]string, bool) {
	list := []string{}
	for s != "" {
		found := fieldHead.FindStringSubmatch(s)
		if found == nil {
			return nil, false
		}
		size, _ := strconv.Atoi(found[1])
		s = s[len(found[0]):]
		if size > len(s) {
			return nil, false
		}
		list, s = append(list, s[:size]), s[size:]
	}
	return list, true
}

// nodeOf tells the node of a text, in another way than the program does: any node whose fields can be read, if it is formed and has just this text.
func nodeOf(s string) (impl.Node, bool) {
	list, ok := fieldsOf(s)
	if !ok || len(list) != 7 {
		return impl.Node{}, false
	}
	n := impl.Node{}
	n.Kind, _ = strconv.Atoi(list[0])
	n.Links, _ = strconv.Atoi(list[1])
	n.Size, _ = strconv.Atoi(list[2])
	n.Tree.Root, _ = pointerOf(list[3])
	n.Tree.Depth, _ = strconv.Atoi(list[4])
	n.Tree.Many, _ = strconv.Atoi(list[5])
	if !nodeFine(n) || nodeText(n) != s {
		return impl.Node{}, false
	}
	return n, true
}

// checkNodeText checks what NodeGet reads of a text, and tells whether it is that of a node.
func checkNodeText(t *testing.T, s string) bool {
	t.Helper()
	n, ok := impl.NodeGet(s)
	if want, fine := nodeOf(s); ok != fine || n != want {
		t.Errorf("NodeGet(%.80q) = %v, %v instead of %v, %v", s, n, ok, want, fine)
	}
	if text := impl.NodePut(n); ok && text != s || !ok && text != "" {
		t.Errorf("NodeGet(%.80q) = %v, which has the text %q", s, n, text)
	}
	return ok
}

// notANode checks that a text is that of no node.
func notANode(t *testing.T, s string) {
	t.Helper()
	if checkNodeText(t, s) {
		t.Errorf("%.80q is the text of a node", s)
	}
}

// sampleNodes returns a few nodes that are formed.
func sampleNodes() []impl.Node {
	files, folders := kindRanges()[0], kindRanges()[1]
	return []impl.Node{
		nodesOf(files, 0, 1)[0], nodesOf(folders, 0, 1)[1], nodesOf(files, 12, 9)[3], nodesOf(files, 13, 2)[0], nodesOf(folders, 129, 1)[3],
		nodesOf(files, 49, 8)[1], nodesOf(folders, 512, 1)[0], nodesOf(files, 192, 9)[2], nodesOf(folders, 2048, 1)[2], nodesOf(folders, 2047, 1)[0],
	}
}

func TestP81NodesHaveJustTheirText(t *testing.T) {
	pieces := []string{
		"0", "1", "2", "3", "4", "5", "6", "7", "8", "9", ":", "-", ".", "+", " ", "_", "e", "n", "d", "E", "\n", "\x00", "\xff", "00", "0:", "1:", "1:0", "1:1", "1:-", "3:end", "end",
	}
	read, others := 0, 0
	for _, n := range sampleNodes() {
		for _, s := range editsOf(nodeText(n), pieces) {
			if !checkNodeText(t, s) {
				others++
				continue
			}
			read++
		}
	}
	if read < 300 || others < 10000 {
		t.Errorf("%d texts are those of nodes, and %d are not", read, others)
	}
}

// fieldsInstead returns fields that may stand instead of another one.
func fieldsInstead() []string {
	return []string{
		"", "0", "1", "2", "3", "4", "5", "9", "10", "12", "13", "16", "17", "48", "128", "129", "192", "193", "2048", "2049", "999999999",
		"-", "--", "8.1.1.5.0", "8.1.1.5.1", "8.1.1.5.2", "8.1.1.5.3", "7.1.1.5.0", "64.1.1.5.0", "0.0.0.0.0", "08.1.1.5.0", "8.1.1.5.0.0", "8.1.1.5", "end", "End", "END",
		"en", "ends", "end ", "end\x00", " end", "dne",
	}
}

func TestP81OtherFields(t *testing.T) {
	read := 0
	for _, n := range sampleNodes() {
		for i := range 7 {
			for _, field := range fieldsInstead() {
				list := nodeFields(n)
				list[i] = field
				if checkNodeText(t, recordByHand(list)) {
					read++
				}
			}
		}
	}
	if read < 7*len(sampleNodes()) {
		t.Errorf("just %d texts are those of nodes", read)
	}
}

// otherNumbers returns ways in which a number text is not written.
func otherNumbers(n string) []string {
	return []string{
		"0" + n, "00" + n, "+" + n, "-" + n, " " + n, n + " ", n + "\n", "\x00" + n, n + "\x00", n + ".", n + ".0", n + "e0", "0x" + n, "0b" + n, "0o" + n,
		n + "_", "_" + n, "1000000000" + n, "-0" + n, "\u0660" + n, n + "-", n + ":", "a", "", "1000000000", "4294967296", "18446744073709551616", strings.Repeat("9", 40),
	}
}

func TestP81NumbersWrittenInAnotherWay(t *testing.T) {
	for _, n := range sampleNodes() {
		for _, i := range []int{0, 1, 2, 4, 5} {
			for _, field := range otherNumbers(nodeFields(n)[i]) {
				list := nodeFields(n)
				list[i] = field
				notANode(t, recordByHand(list))
			}
		}
	}
}

func TestP81NumbersOfARootWrittenInAnotherWay(t *testing.T) {
	for _, n := range sampleNodes() {
		parts := strings.Split(nodeFields(n)[3], ".")
		for i, part := range parts {
			for _, field := range otherNumbers(part) {
				list, changed := nodeFields(n), slices.Clone(parts)
				changed[i] = field
				list[3] = strings.Join(changed, ".")
				notANode(t, recordByHand(list))
			}
		}
	}
}

func TestP81FieldsMoreOrLess(t *testing.T) {
	for _, n := range sampleNodes() {
		list := nodeFields(n)
		for i := range 8 {
			for _, field := range []string{"", "0", "1", "-", "end"} {
				notANode(t, recordByHand(slices.Insert(slices.Clone(list), i, field)))
			}
		}
		for i := range 7 {
			notANode(t, recordByHand(slices.Delete(slices.Clone(list), i, i+1)))
			notANode(t, recordByHand(list[:i]))
		}
		for i := range 6 {
			notANode(t, recordByHand(append(list[:i:i], "end")))
		}
		notANode(t, recordByHand(list)+recordByHand(list))
		notANode(t, recordByHand(append(slices.Repeat([]string{""}, 53), list...)))
	}
}

func TestP81FieldsInAnotherOrder(t *testing.T) {
	for _, n := range sampleNodes() {
		for i := range 7 {
			for j := range i {
				list := nodeFields(n)
				list[i], list[j] = list[j], list[i]
				checkNodeText(t, recordByHand(list))
			}
		}
		list := nodeFields(n)
		slices.Reverse(list)
		notANode(t, recordByHand(list))
	}
}

func TestP81BytesBehindTheEnd(t *testing.T) {
	for _, n := range sampleNodes() {
		text := nodeText(n)
		for b := range 256 {
			notANode(t, text+string([]byte{byte(b)}))
			notANode(t, string([]byte{byte(b)})+text)
		}
		for at := range len(text) {
			notANode(t, text[:at])
			notANode(t, text[at+1:])
		}
	}
}

func TestP81TextsOfOtherThings(t *testing.T) {
	record, _ := impl.FieldsPut([]string{"1", "1", "0", "-", "0", "0"})
	texts := []string{
		"", "-", "8.1.1.5.0", "-,-,-,8.1.1.5.0", "0", "end", "3:end", record, record + "0:", "1:1", "0:0:0:0:0:0:0:", "0:0:0:0:0:0:3:end", "a=1;", "/a", "1,1,0,-,0,0,end",
		"1.1.0.-.0.0.end", "1 1 0 - 0 0 end", "1:1 1:1 1:0 1:- 1:0 1:0 3:end", "1:1,1:1,1:0,1:-,1:0,1:0,3:end", "01:11:11:01:-1:01:03:end", "1:11:11:01:-1:01:003:end",
		"+1:11:11:01:-1:01:03:end", "1:11:11:01:-1:01:04:end", "1:11:11:01:-1:01:02:end", "2:1:1:11:01:-1:01:03:end", "1:11:11:00:1:01:03:end",
		strings.Repeat("1:1", 7), strings.Repeat("0:", 60), strings.Repeat("x", 128), strings.Repeat("x", 1<<16), "9999:", "999999999:end", "18446744073709551617:1",
		"1:11:11:01:-1:01:02043:" + strings.Repeat("x", 2043), recordByHand([]string{"1", "1", "0", "-", "0", "0", strings.Repeat("end", 700)}),
	}
	for _, s := range texts {
		notANode(t, s)
	}
	if !checkNodeText(t, "1:11:11:01:-1:01:03:end") {
		t.Errorf("the text that the others are almost is that of no node")
	}
}

func TestP81NumbersThatNoNodeHas(t *testing.T) {
	big := []int{-1, 999999999, 1000000000, 1 << 31, 1 << 32, 1<<63 - 1, -1 << 63}
	for _, n := range sampleNodes() {
		for i := range 5 {
			for _, number := range big {
				wrong := n
				*[]*int{&wrong.Kind, &wrong.Links, &wrong.Size, &wrong.Tree.Depth, &wrong.Tree.Many}[i] = number
				notANode(t, nodeText(wrong))
			}
		}
		for _, wrong := range wrongPointers() {
			other := n
			other.Tree.Root = wrong
			notANode(t, nodeText(other))
		}
	}
}
