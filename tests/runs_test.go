package tests

import (
	"strconv"
	"strings"
	"testing"

	"loop.example/poolfiles/impl"
)

// packAsTold packs a text step by step, just as the document tells it.
func packAsTold(s string) string {
	packed := ""
	for s != "" {
		many := 1
		for many < len(s) && many < 9 && s[many] == s[0] {
			many++
		}
		if many >= 4 || s[0] == 126 {
			packed += "~" + strconv.Itoa(many) + s[:1]
			s = s[many:]
		} else {
			packed += s[:1]
			s = s[1:]
		}
	}
	return packed
}

// textsWithRuns returns texts of one to three runs of different lengths.
func textsWithRuns() []string {
	texts := oddTexts()
	for _, b := range []string{"a", "~", "9", "\x00", "\xff"} {
		for many := range 41 {
			run := strings.Repeat(b, many)
			texts = append(texts, run, "x"+run, run+"y", "~"+run+"~", run+"~4"+run, run+"aaaaa"+run)
		}
	}
	return texts
}

func TestPackedRuns(t *testing.T) {
	cases := []struct{ text, packed string }{
		{"", ""},
		{"a", "a"},
		{"abc", "abc"},
		{"aaa", "aaa"},
		{"aaaa", "~4a"},
		{"aaaab~", "~4ab~1~"},
		{"baaa", "baaa"},
		{"baaaa", "b~4a"},
		{"aaabbbb", "aaa~4b"},
		{"aaaaaaaaa", "~9a"},
		{"aaaaaaaaaa", "~9aa"},
		{"aaaaaaaaaaaa", "~9aaaa"},
		{"aaaaaaaaaaaaa", "~9a~4a"},
		{"aaaaaaaaaaaaaaaaaa", "~9a~9a"},
		{"~", "~1~"},
		{"~~", "~2~"},
		{"~~~", "~3~"},
		{"~~~~", "~4~"},
		{"~~~~~~~~~", "~9~"},
		{"~~~~~~~~~~", "~9~~1~"},
		{"~a~", "~1~a~1~"},
		{"~4a", "~1~4a"},
		{"1111", "~41"},
		{"\x00\x00\x00\x00\x00", "~5\x00"},
		{"éé", "éé"},
	}
	for _, c := range cases {
		if packed := impl.RunsPack(c.text); packed != c.packed {
			t.Errorf("RunsPack(%q) = %q", c.text, packed)
		}
		if text, ok := impl.RunsOpen(c.packed); !ok || text != c.text {
			t.Errorf("RunsOpen(%q) = %q, %v", c.packed, text, ok)
		}
	}
}

func TestTextsThatAreNotPacked(t *testing.T) {
	texts := []string{
		"~", "~~", "~4", "~a", "a~", "a~4", "~~~", "~0a", "~0~", "~1a", "~2a", "~3a", "~xa", "~:a", "~/a", "~-a", "~10a", "~+4a", "~\xb4a",
		"aaaa", "baaaa", "aaaaaaaaaa", "~4aa", "~8aa", "~4aaaaa", "~9aaaaa", "~9a~3a", "~4a~4a", "a~4a", "aaa~4a", "~4a~9a", "~1~~1~", "~8~~1~",
		"~4a~", "~4a~4", "~9~~", "~9~~0~", "~1~~9~", "~\u0664a",
	}
	for _, p := range texts {
		if text, ok := impl.RunsOpen(p); ok || text != "" {
			t.Errorf("RunsOpen(%q) = %q, %v", p, text, ok)
		}
	}
}

func TestRunsArePackedAsTold(t *testing.T) {
	for _, s := range textsWithRuns() {
		if packed := impl.RunsPack(s); packed != packAsTold(s) {
			t.Errorf("RunsPack(%q) = %q", s, packed)
		}
	}
	for s := range textsOver([]string{"a", "b", "~"}, 9) {
		if packed := impl.RunsPack(s); packed != packAsTold(s) {
			t.Errorf("RunsPack(%q) = %q", s, packed)
		}
	}
}

func TestP6PackedTextsAreOpened(t *testing.T) {
	check := func(s string) {
		packed := impl.RunsPack(s)
		if text, ok := impl.RunsOpen(packed); !ok || text != s {
			t.Errorf("RunsOpen(%q) = %q, %v", packed, text, ok)
		}
		if len(packed) > 3*len(s) {
			t.Errorf("RunsPack(%q) has %d bytes", s, len(packed))
		}
	}
	for _, s := range textsWithRuns() {
		check(s)
	}
	for s := range textsOver([]string{"a", "4", "~"}, 9) {
		check(s)
	}
	check(strings.Repeat("ab~", 10000))
}

func TestP6EqualBytesArePackedShorter(t *testing.T) {
	for b := range 256 {
		for many := 4; many < 60; many++ {
			s := strings.Repeat(string([]byte{byte(b)}), many)
			if packed := impl.RunsPack(s); len(packed) >= many {
				t.Errorf("RunsPack of %d times the byte %d has %d bytes", many, b, len(packed))
			}
		}
	}
}

func TestP7OpenedTextsHaveJustTheirPackedText(t *testing.T) {
	opened := map[string]string{}
	for p := range textsOver([]string{"~", "a", "0", "1", "3", "4", "9"}, 6) {
		s, ok := impl.RunsOpen(p)
		if !ok {
			if s != "" {
				t.Fatalf("RunsOpen(%q) fails with %q", p, s)
			}
			continue
		}
		if packed := impl.RunsPack(s); packed != p {
			t.Errorf("RunsOpen(%q) = %q, which is packed to %q", p, s, packed)
		}
		if other, there := opened[s]; there {
			t.Errorf("%q and %q are both opened to %q", other, p, s)
		}
		opened[s] = p
	}
	if len(opened) < 10000 {
		t.Errorf("RunsOpen opens just %d texts", len(opened))
	}
}
