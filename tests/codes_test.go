package tests

import (
	"math"
	"strings"
	"testing"

	"loop.example/g00340/impl"
)

func TestNameOK(t *testing.T) {
	right := []string{"a", "z", "A", "Z", "_", "a0", "a9", "_0", "__", "aZ_9", "ann", strings.Repeat("a", 39), strings.Repeat("a", 40), strings.Repeat("_", 40), "a" + strings.Repeat("9", 39)}
	for _, name := range right {
		if !impl.NameOK(name) {
			t.Errorf("NameOK(%q) is false", name)
		}
	}
	wrong := []string{"", "0", "9a", " ", " a", "a ", "a b", "-", "a-b", "a.b", "a/b", "a\x00", "\x00", "a\n", "é", "aé", "\xff", "a\xff", "ａ", strings.Repeat("a", 41), strings.Repeat("a", 65536), strings.Repeat("a", 65537)}
	for _, name := range wrong {
		if impl.NameOK(name) {
			t.Errorf("NameOK(%q) is true", name)
		}
	}
}

func TestNameOKByByte(t *testing.T) {
	for c := range 256 {
		letter := c == '_' || 'a' <= c && c <= 'z' || 'A' <= c && c <= 'Z'
		digit := '0' <= c && c <= '9'
		first := string([]byte{byte(c)})
		if impl.NameOK(first) != letter || impl.NameOK(first+"x") != letter {
			t.Errorf("first byte %d", c)
		}
		if impl.NameOK("x"+first) != (letter || digit) || impl.NameOK("x"+first+"x") != (letter || digit) {
			t.Errorf("later byte %d", c)
		}
		if impl.NameOK(strings.Repeat("x", 39)+first) != (letter || digit) {
			t.Errorf("last byte %d", c)
		}
	}
}

// wordOrder is the table of the document, in its order.
var wordOrder = []string{
	"ok", "bad", "long", "form", "range", "none", "many", "full", "sum", "twice",
	"down", "state", "quota", "order", "chain", "user", "folder", "name", "old", "root",
}

func TestCodesInOrder(t *testing.T) {
	codes := []int{
		impl.OK, impl.ErrBad, impl.ErrLong, impl.ErrForm, impl.ErrRange, impl.ErrNone, impl.ErrMany, impl.ErrFull, impl.ErrSum, impl.ErrTwice,
		impl.ErrDown, impl.ErrState, impl.ErrQuota, impl.ErrOrder, impl.ErrChain, impl.ErrUser, impl.ErrFolder, impl.ErrName, impl.ErrOld, impl.ErrRoot,
	}
	for i, word := range wordOrder {
		if codes[i] != i {
			t.Errorf("the constant of %s is %d, not %d", word, codes[i], i)
		}
		if got := impl.CodeWord(i); got != word {
			t.Errorf("CodeWord(%d) is %q, not %q", i, got, word)
		}
		if got := impl.CodeOf(word); got != i {
			t.Errorf("CodeOf(%q) is %d, not %d", word, got, i)
		}
	}
}

func TestCodeWordOfOthers(t *testing.T) {
	for _, code := range []int{-1, 20, 21, -20, 256, 1 << 32, math.MaxInt, math.MinInt, math.MinInt + 1} {
		if got := impl.CodeWord(code); got != "" {
			t.Errorf("CodeWord(%d) is %q", code, got)
		}
	}
}

func TestCodeOfOthers(t *testing.T) {
	others := []string{"", " ", "OK", "Ok", "ok ", " ok", "o", "okk", "bad\n", "roots", "roo", "error", "0", "\x00", long(65536), long(65537), long(1 << 20)}
	for _, word := range others {
		if got := impl.CodeOf(word); got != -1 {
			t.Errorf("CodeOf(%.20q) is %d", word, got)
		}
	}
}

func TestConstants(t *testing.T) {
	got := []int{impl.MaxText, impl.MaxList, impl.MaxName, impl.MaxPairs, impl.MaxKey, impl.MaxValue}
	for i, want := range []int{65536, 4096, 40, 60, 30, 90} {
		if got[i] != want {
			t.Errorf("bound %d is %d, not %d", i, got[i], want)
		}
	}
}
