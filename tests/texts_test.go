package tests

import (
	"iter"
	"strings"
)

// textsOver gives all texts of at most top pieces of an alphabet, the empty one first.
func textsOver(alphabet []string, top int) iter.Seq[string] {
	return func(yield func(string) bool) {
		last := []string{""}
		if !yield("") {
			return
		}
		for range top {
			next := []string{}
			for _, head := range last {
				for _, tail := range alphabet {
					if !yield(head + tail) {
						return
					}
					next = append(next, head+tail)
				}
			}
			last = next
		}
	}
}

// oddTexts returns texts that are likely to be taken apart in the wrong place.
func oddTexts() []string {
	every := make([]byte, 256)
	for i := range every {
		every[i] = byte(i)
	}
	return []string{
		"", "a", "bc", ":", "1:", "1:a", "0:", "~", "~~~", "~4a", "\x00", "\x00\x00\x00\x00", "\xff\xff", "é", "日本",
		"a\nb", "12", "aaa", "aaaa", string(every), strings.Repeat("x", 9), strings.Repeat("x", 10), strings.Repeat("~", 300),
	}
}
