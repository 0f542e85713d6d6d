package tests

import (
	"slices"
	"strings"
	"testing"

	"loop.example/poolfiles/impl"
)

// manyLists returns all lists of at most three of some short fields, and longer ones of odd texts and at the limits.
func manyLists() [][]string {
	fields := []string{"", "a", "b", "1", ":", "~", "1:", "0:", "1:a", "a1:b", "ab", "\x00", "\xff"}
	lists := [][]string{{}}
	for from, level := 0, 0; level < 3; level++ {
		to := len(lists)
		for _, list := range lists[from:to] {
			for _, field := range fields {
				lists = append(lists, append(slices.Clone(list), field))
			}
		}
		from = to
	}
	for _, odd := range oddTexts() {
		lists = append(lists, []string{odd}, []string{odd, "", odd}, slices.Repeat([]string{odd}, 4))
	}
	return append(append(lists, oddTexts(), fields), edgeLists()...)
}

// edgeLists returns lists that just are records.
func edgeLists() [][]string {
	return [][]string{
		make([]string, impl.FieldMax),
		slices.Repeat([]string{"field"}, impl.FieldMax),
		{strings.Repeat("x", impl.RecordMax-5)},
		{strings.Repeat("x", 1000), strings.Repeat("y", 1038)},
		{strings.Repeat("x", impl.RecordMax-7), ""},
		append(slices.Repeat([]string{strings.Repeat("z", 31)}, 59), strings.Repeat("e", impl.RecordMax-59*34-3)),
	}
}

func TestRecordTexts(t *testing.T) {
	cases := []struct {
		list []string
		text string
	}{
		{nil, ""},
		{[]string{}, ""},
		{[]string{""}, "0:"},
		{[]string{"", ""}, "0:0:"},
		{[]string{"a"}, "1:a"},
		{[]string{"a", "bc"}, "1:a2:bc"},
		{[]string{"a", "", "bc"}, "1:a0:2:bc"},
		{[]string{"1:a"}, "3:1:a"},
		{[]string{":"}, "1::"},
		{[]string{"é"}, "2:é"},
		{[]string{"\x00\xff"}, "2:\x00\xff"},
		{[]string{"0123456789"}, "10:0123456789"},
	}
	for _, c := range cases {
		if text, ok := impl.FieldsPut(c.list); !ok || text != c.text {
			t.Errorf("FieldsPut(%q) = %q, %v", c.list, text, ok)
		}
		if list, ok := impl.FieldsGet(c.text); !ok || !slices.Equal(list, c.list) {
			t.Errorf("FieldsGet(%q) = %q, %v", c.text, list, ok)
		}
	}
}

func TestRecordsAtTheLimits(t *testing.T) {
	for _, list := range edgeLists() {
		text, ok := impl.FieldsPut(list)
		if !ok || len(text) > impl.RecordMax {
			t.Errorf("FieldsPut of %d fields = %d bytes, %v", len(list), len(text), ok)
		}
	}
	for _, i := range []int{2, 3, 4, 5} {
		if text, _ := impl.FieldsPut(edgeLists()[i]); len(text) != impl.RecordMax {
			t.Errorf("list %d has %d bytes", i, len(text))
		}
	}
	beyond := [][]string{
		make([]string, impl.FieldMax+1),
		make([]string, 10*impl.FieldMax),
		{strings.Repeat("x", impl.RecordMax-4)},
		{strings.Repeat("x", impl.RecordMax)},
		{strings.Repeat("x", 1<<20)},
		{strings.Repeat("x", 1000), strings.Repeat("y", 1039)},
		{strings.Repeat("x", impl.RecordMax-6), ""},
		{strings.Repeat("x", impl.RecordMax-5), ""},
		{"", strings.Repeat("x", impl.RecordMax-6)},
		slices.Repeat([]string{strings.Repeat("z", 32)}, impl.FieldMax),
	}
	for _, list := range beyond {
		if text, ok := impl.FieldsPut(list); ok || text != "" {
			t.Errorf("FieldsPut of %d fields beyond a limit = %d bytes, %v", len(list), len(text), ok)
		}
	}
}

func TestTextsOfNoRecord(t *testing.T) {
	long := strings.Repeat("x", impl.RecordMax)
	texts := []string{
		":", "a", "a:", "0", "1", "1:", "2:a", "1:ab", "01:a", "00:", "+1:a", "-1:a", "-0:", " 1:a", "1 :a", "1.:a", "1_0:0123456789",
		"0x1:a", "1:a1", "1:a:", "1:a1:", "1:a2:b", "1:a1:bc", "1:a01:b", "1;a", "\uff11:a", "1000000000:", "99999999999999999999:a",
		"18446744073709551617:a", "-9223372036854775808:", ":a", "::", "\x00", "1:a\n", "é:",
		strings.Repeat("0:", impl.FieldMax+1),
		strings.Repeat("1:a", impl.FieldMax+1),
		strings.Repeat("0:", impl.FieldMax) + "x",
		"2044:" + long[:2044],
		"2043:" + long[:2043] + "0:",
		"1000:" + long[:1000] + "1039:" + long[:1039],
		"2048:" + long,
		long + long,
		strings.Repeat("0:", impl.RecordMax),
	}
	for _, s := range texts {
		if list, ok := impl.FieldsGet(s); ok || len(list) != 0 {
			t.Errorf("FieldsGet(%.40q) of %d bytes = %q, %v", s, len(s), list, ok)
		}
	}
}

func TestP1RecordsAreReadBack(t *testing.T) {
	for _, list := range manyLists() {
		text, ok := impl.FieldsPut(list)
		if !ok {
			t.Fatalf("FieldsPut of %d fields fails", len(list))
		}
		if got, ok := impl.FieldsGet(text); !ok || !slices.Equal(got, list) {
			t.Errorf("FieldsGet(%.40q) = %.40q, %v", text, got, ok)
		}
	}
}

func TestP2RecordsHaveJustTheirText(t *testing.T) {
	read := 0
	for s := range textsOver([]string{"0", "1", "2", ":", "a", "-", "+"}, 6) {
		list, ok := impl.FieldsGet(s)
		if !ok {
			if len(list) != 0 {
				t.Fatalf("FieldsGet(%q) fails with %q", s, list)
			}
			continue
		}
		read++
		if text, ok := impl.FieldsPut(list); !ok || text != s {
			t.Errorf("FieldsGet(%q) = %q, which has the text %q, %v", s, list, text, ok)
		}
	}
	// Else the loop could read nothing but the empty text and prove nothing.
	if read < 100 {
		t.Errorf("FieldsGet reads just %d texts", read)
	}
}

func TestP8TextsOfListsOneBehindTheOther(t *testing.T) {
	lists := [][]string{{}, {""}, {"a"}, {"bc", ":"}, {"1:", "~", "0:"}, oddTexts()}
	for many := 0; many <= impl.FieldMax; many += 15 {
		lists = append(lists, slices.Repeat([]string{"ab"}, many))
	}
	for _, size := range []int{1000, 1019, 1020, 1038, 1039, 2036} {
		lists = append(lists, []string{strings.Repeat("x", size)})
	}
	for _, one := range lists {
		for _, two := range lists {
			checkBehind(t, one, two)
		}
	}
}

func checkBehind(t *testing.T, one, two []string) {
	t.Helper()
	textOne, okOne := impl.FieldsPut(one)
	textTwo, okTwo := impl.FieldsPut(two)
	if !okOne || !okTwo {
		t.Fatalf("FieldsPut of %d or %d fields fails", len(one), len(two))
	}
	text, ok := impl.FieldsPut(slices.Concat(one, two))
	fits := len(one)+len(two) <= impl.FieldMax && len(textOne)+len(textTwo) <= impl.RecordMax
	if ok != fits {
		t.Errorf("FieldsPut of %d and %d fields, %d and %d bytes: %v", len(one), len(two), len(textOne), len(textTwo), ok)
	}
	if ok && text != textOne+textTwo {
		t.Errorf("FieldsPut of %.40q and %.40q = %.80q", one, two, text)
	}
}

func TestP9ListsWithTheSameTextAreEqual(t *testing.T) {
	lists := map[string][]string{}
	for _, list := range manyLists() {
		text, ok := impl.FieldsPut(list)
		if !ok {
			t.Fatalf("FieldsPut of %d fields fails", len(list))
		}
		if other, there := lists[text]; there && !slices.Equal(other, list) {
			t.Errorf("%.40q and %.40q have the text %.40q", other, list, text)
		}
		lists[text] = list
	}
}

func TestRecordsAreOfTheirOwn(t *testing.T) {
	list := []string{"a", "", "bc"}
	text, _ := impl.FieldsPut(list)
	if !slices.Equal(list, []string{"a", "", "bc"}) {
		t.Errorf("FieldsPut makes its list %q", list)
	}
	first, _ := impl.FieldsGet(text)
	second, _ := impl.FieldsGet(text)
	first[0] = "x"
	_ = append(first[:1], "y", "z")
	if !slices.Equal(second, list) {
		t.Errorf("a change of one result makes the other one %q", second)
	}
}
