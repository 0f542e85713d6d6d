package tests

import (
	"math"
	"strings"
	"testing"

	"loop.example/poolfiles/impl"
)

const sumGreatest = 99460728

func TestNumberTexts(t *testing.T) {
	cases := []struct {
		n    int
		text string
	}{
		{0, "0"}, {1, "1"}, {9, "9"}, {10, "10"}, {60, "60"}, {2048, "2048"}, {100000000, "100000000"},
		{999999998, "999999998"}, {impl.NumMax, "999999999"},
	}
	for _, c := range cases {
		if text := impl.NumPut(c.n); text != c.text {
			t.Errorf("NumPut(%d) = %q", c.n, text)
		}
		if n, ok := impl.NumGet(c.text); !ok || n != c.n {
			t.Errorf("NumGet(%q) = %d, %v", c.text, n, ok)
		}
	}
}

func TestNumbersWithoutText(t *testing.T) {
	for _, n := range []int{-1, -7, -impl.NumMax, impl.NumMax + 1, 10 * impl.NumMax, math.MinInt, math.MinInt32, math.MaxInt32, math.MaxInt} {
		if text := impl.NumPut(n); text != "" {
			t.Errorf("NumPut(%d) = %q", n, text)
		}
	}
}

func TestTextsOfNoNumber(t *testing.T) {
	texts := []string{
		"", "00", "01", "007", "0999999999", "-0", "-1", "+0", "+1", " 1", "1 ", "1\n", "1000000000", "4294967297", "9223372036854775807",
		"18446744073709551617", strings.Repeat("9", 40), strings.Repeat("0", 9) + "1", "a", "1a", "a1", "1.0", "1e3", "0x1", "0b1", "1_000", "-", "+",
		"\x00", "1\x00", "\u0661", "\uff11", "~", ":", "1:", "--1", strings.Repeat("1", 1<<16),
	}
	for _, s := range texts {
		if n, ok := impl.NumGet(s); ok || n != 0 {
			t.Errorf("NumGet(%.40q) = %d, %v", s, n, ok)
		}
	}
}

func TestP3NumbersAreReadBack(t *testing.T) {
	check := func(n int) {
		if got, ok := impl.NumGet(impl.NumPut(n)); !ok || got != n {
			t.Errorf("NumGet(NumPut(%d)) = %d, %v", n, got, ok)
		}
	}
	for n := range 20000 {
		check(n)
		check(impl.NumMax - n)
		check(n * 49999)
	}
	for n := 10; n <= impl.NumMax; n *= 10 {
		check(n - 1)
		check(n)
		check(n + 1)
	}
}

func TestP4NumbersHaveJustTheirText(t *testing.T) {
	read := 0
	for s := range textsOver([]string{"0", "1", "9", "-", "+", " ", "_", "a"}, 5) {
		n, ok := impl.NumGet(s)
		if !ok {
			continue
		}
		read++
		if text := impl.NumPut(n); text != s {
			t.Errorf("NumGet(%q) = %d, which has the text %q", s, n, text)
		}
	}
	// One digit of three, and two of three ahead of up to four of three.
	if want := 3 + 2*(3+9+27+81); read != want {
		t.Errorf("NumGet reads %d texts, not %d", read, want)
	}
}

func TestSums(t *testing.T) {
	cases := []struct {
		text string
		sum  int
	}{
		{"", 1 * 9973},
		{"\x00", 2*9973 + 2},
		{"a", 99*9973 + 99},
		{"ab", 198*9973 + 297},
		{"ba", 198*9973 + 298},
		{"\xff", 257*9973 + 257},
		{strings.Repeat("\xff", 40), 268*9973 + 527},
		{strings.Repeat("\x00", 9973), 1 * 9973},
	}
	for _, c := range cases {
		if sum := impl.SumOf(c.text); sum != c.sum {
			t.Errorf("SumOf(%.40q) = %d, not %d", c.text, sum, c.sum)
		}
	}
}

func TestP5SumsTellOneOtherByte(t *testing.T) {
	for _, s := range append(oddTexts(), strings.Repeat("\x00", 128), strings.Repeat("\xff", 128)) {
		sum := impl.SumOf(s)
		if sum < 0 || sum > sumGreatest {
			t.Errorf("SumOf(%.40q) = %d", s, sum)
		}
		for at := range len(s) {
			for b := range 256 {
				checkOtherByte(t, s, at, byte(b))
			}
		}
	}
}

func checkOtherByte(t *testing.T, s string, at int, b byte) {
	t.Helper()
	other := s[:at] + string([]byte{b}) + s[at+1:]
	if (impl.SumOf(other) == impl.SumOf(s)) != (s[at] == b) {
		t.Errorf("SumOf(%.40q) with the byte %d at %d", s, b, at)
	}
}

func TestP5SumsTellTwoBytesExchanged(t *testing.T) {
	texts := append(oddTexts(), "poolfiles", strings.Repeat("ab", 64))
	for one := range 256 {
		for _, two := range []int{0, 1, 97, 126, 254, 255} {
			texts = append(texts, string([]byte{byte(one), byte(two)}), string([]byte{7, byte(one), byte(two), 9}))
		}
	}
	for _, s := range texts {
		for at := 0; at+1 < len(s); at++ {
			other := s[:at] + s[at+1:at+2] + s[at:at+1] + s[at+2:]
			if (impl.SumOf(other) == impl.SumOf(s)) != (other == s) {
				t.Errorf("SumOf(%.40q) with the bytes at %d and %d exchanged", s, at, at+1)
			}
		}
	}
}
