package tests

import (
	"bytes"
	"fmt"
	"math"
	"slices"
	"strings"
	"testing"

	"loop.example/g00340/impl"
)

// sealedText gives text with its sum behind it.
func sealedText(text string) []byte {
	sum := impl.Check32([]byte(text))
	return append([]byte(text), byte(sum>>24), byte(sum>>16), byte(sum>>8), byte(sum))
}

// rightNodes are right and not free, with their bytes ahead of the sum.
func rightNodes() map[string]struct {
	n    impl.Node
	text string
} {
	type row = struct {
		n    impl.Node
		text string
	}
	pairs := func(list ...impl.Pair) impl.Node { return impl.Node{Leaf: true, Pairs: list} }
	return map[string]row{
		"a leaf of one pair":    {pairs(impl.Pair{Key: "k", Value: "v"}), "l\x02\x00\x01k\x00\x01v"},
		"a leaf of no value":    {pairs(impl.Pair{Key: "k"}), "l\x02\x00\x01k\x00\x00"},
		"a leaf of two":         {pairs(impl.Pair{Key: "a", Value: "xy"}, impl.Pair{Key: "b"}), "l\x04\x00\x01a\x00\x02xy\x00\x01b\x00\x00"},
		"a leaf of LeafMost":    {leaf("a", "aa", "b"), "l\x06\x00\x01a\x00\x02=a\x00\x02aa\x00\x03=aa\x00\x01b\x00\x02=b"},
		"a key of MaxKey bytes": {pairs(impl.Pair{Key: long(30), Value: long(90)}), "l\x02\x00\x1e" + long(30) + "\x00\x5a" + long(90)},
		"any bytes":             {pairs(impl.Pair{Key: "\x00", Value: "\xff\n"}), "l\x02\x00\x01\x00\x00\x02\xff\n"},
		"an inner one of one":   {inner(kid{0, "a"}), "i\x01\x00\x02\x00a"},
		"an inner one of two":   {inner(kid{7, "a"}, kid{9, "m"}), "i\x02\x00\x02\x07a\x00\x02\x09m"},
		"InnerMost, falling":    {inner(kid{49, "a"}, kid{48, "b"}, kid{10, "c"}, kid{0, "d"}), "i\x04\x00\x02\x31a\x00\x02\x30b\x00\x02\x0ac\x00\x02\x00d"},
		"a Least of MaxKey":     {inner(kid{1, long(30)}), "i\x01\x00\x1f\x01" + long(30)},
		"a page twice":          {inner(kid{3, "a"}, kid{3, "b"}), "i\x02\x00\x02\x03a\x00\x02\x03b"},
	}
}

// wrongNodes are no nodes.
func wrongNodes() map[string]impl.Node {
	pairs := keyed("a", "b")
	return map[string]impl.Node{
		"a leaf of none":             {Leaf: true},
		"a leaf of empty lists":      {Leaf: true, Pairs: []impl.Pair{}, Least: []string{}, Kids: []int{}},
		"a leaf of four":             leaf("a", "b", "c", "d"),
		"a leaf of MaxList":          {Leaf: true, Pairs: manyPairs(4097)},
		"a leaf that falls":          leaf("b", "a"),
		"a leaf of alike keys":       leaf("a", "a"),
		"a leaf that falls at last":  leaf("a", "c", "b"),
		"a leaf of an empty key":     {Leaf: true, Pairs: []impl.Pair{{Value: "v"}}},
		"a leaf's key of 31 bytes":   leaf(long(31)),
		"a leaf's value of 91 bytes": {Leaf: true, Pairs: []impl.Pair{{Key: "a", Value: long(91)}}},
		"a leaf's text of 65537":     {Leaf: true, Pairs: []impl.Pair{{Key: "a", Value: long(65537)}}},
		"a leaf with Least":          {Leaf: true, Pairs: pairs, Least: []string{"a"}},
		"a leaf with Kids":           {Leaf: true, Pairs: pairs, Kids: []int{1}},
		"a leaf with both":           {Leaf: true, Pairs: pairs, Least: []string{"a"}, Kids: []int{1}},
		"a leaf that is inner":       {Leaf: true, Least: []string{"a"}, Kids: []int{1}},
		"pairs without a leaf":       {Pairs: pairs},
		"an inner one with pairs":    {Pairs: pairs, Least: []string{"a"}, Kids: []int{1}},
		"Kids alone":                 {Kids: []int{1}},
		"Least alone":                {Least: []string{"a"}},
		"more Kids than Least":       {Kids: []int{1, 2}, Least: []string{"a"}},
		"more Least than Kids":       {Kids: []int{1}, Least: []string{"a", "b"}},
		"five Kids":                  inner(kid{1, "a"}, kid{2, "b"}, kid{3, "c"}, kid{4, "d"}, kid{5, "e"}),
		"4097 Kids":                  {Kids: make([]int, 4097), Least: make([]string, 4097)},
		"page -1":                    inner(kid{-1, "a"}),
		"page 50":                    inner(kid{50, "a"}),
		"a last page 50":             inner(kid{1, "a"}, kid{50, "b"}),
		"page 256":                   inner(kid{256, "a"}),
		"the least page":             inner(kid{math.MinInt, "a"}),
		"the greatest page":          inner(kid{math.MaxInt, "a"}),
		"Least falls":                inner(kid{1, "b"}, kid{2, "a"}),
		"Least alike":                inner(kid{1, "a"}, kid{2, "a"}),
		"Least falls at last":        inner(kid{1, "a"}, kid{2, "c"}, kid{3, "b"}),
		"an empty Least":             inner(kid{1, ""}),
		"an empty Least ahead":       inner(kid{1, ""}, kid{2, "a"}),
		"a Least of 31 bytes":        inner(kid{1, long(31)}),
		"a last Least of 31 bytes":   inner(kid{1, "a"}, kid{2, long(31)}),
		"a Least of 65537 bytes":     inner(kid{1, long(65537)}),
	}
}

func freeNodes() []impl.Node {
	return []impl.Node{{}, {Pairs: []impl.Pair{}}, {Pairs: []impl.Pair{}, Least: []string{}, Kids: []int{}}}
}

func TestNodeOK(t *testing.T) {
	for what, row := range rightNodes() {
		if !impl.NodeOK(row.n) {
			t.Errorf("%s: not right", what)
		}
	}
	for what, n := range wrongNodes() {
		if impl.NodeOK(n) {
			t.Errorf("%s: right", what)
		}
	}
	for i, n := range freeNodes() {
		if !impl.NodeOK(n) {
			t.Errorf("free node %d: not right", i)
		}
	}
}

func TestNodeBytes(t *testing.T) {
	for what, row := range rightNodes() {
		got, code := impl.NodeBytes(row.n)
		mustCode(t, what, code, impl.OK)
		if want := sealedText(row.text); !bytes.Equal(got, want) {
			t.Errorf("%s: %q, not %q", what, got, want)
		}
		back, code := impl.ReadNode(got)
		mustCode(t, what+", read back", code, impl.OK)
		if !sameNode(back, row.n) {
			t.Errorf("%s is read back as %v", what, back)
		}
	}
	for what, n := range wrongNodes() {
		got, code := impl.NodeBytes(n)
		mustCode(t, what, code, impl.ErrBad)
		if len(got) != 0 {
			t.Errorf("%s: %q beside the code", what, got)
		}
	}
	for i, n := range freeNodes() {
		got, code := impl.NodeBytes(n)
		mustCode(t, fmt.Sprint("free node ", i), code, impl.ErrNone)
		if len(got) != 0 {
			t.Errorf("free node %d: %q beside the code", i, got)
		}
	}
}

// The greatest nodes that there are have to fit a sector of the disk.
func TestGreatestNodes(t *testing.T) {
	greatest := impl.Node{Leaf: true}
	widest := impl.Node{}
	for i := range 4 {
		key := string([]byte{byte('a' + i)}) + long(29)
		widest.Kids, widest.Least = append(widest.Kids, 49-i), append(widest.Least, key)
		if i < 3 {
			greatest.Pairs = append(greatest.Pairs, impl.Pair{Key: key, Value: long(90)})
		}
	}
	for _, n := range []impl.Node{greatest, widest} {
		b, code := impl.NodeBytes(n)
		mustCode(t, "NodeBytes", code, impl.OK)
		back, code := impl.ReadNode(b)
		mustCode(t, "ReadNode", code, impl.OK)
		if !sameNode(back, n) || len(b) > impl.SectorSize {
			t.Errorf("%d bytes, read back as %v", len(b), back)
		}
	}
}

func mustNotReadNode(t *testing.T, what string, b []byte, want int) {
	t.Helper()
	n, code := impl.ReadNode(b)
	mustCode(t, what, code, want)
	if !sameNode(n, impl.Node{}) {
		t.Errorf("%s: %v beside the code", what, n)
	}
}

// breakSeal hands on sealed bytes of which a bit is changed, or some are cut or
// joined, with the code that is due.
func breakSeal(b []byte, refuse func(what string, b []byte, want int)) {
	for at := range b {
		for bit := range 8 {
			other := slices.Clone(b)
			other[at] ^= 1 << bit
			refuse("a bit changed", other, impl.ErrSum)
		}
		refuse("cut at the end", b[:at], impl.ErrSum)
		if at > 0 {
			refuse("cut ahead", b[at:], sumUnlessEmpty(b[at:]))
		}
	}
	for _, more := range []string{"\x00", "x", "s", "\x00\x00\x00\x00", string(b)} {
		refuse("longer", append(slices.Clone(b), more...), impl.ErrSum)
		refuse("longer ahead", append([]byte(more), b...), impl.ErrSum)
	}
	body := len(b) - 4
	swapped := append(slices.Clone(b[:body]), b[body+3], b[body+2], b[body+1], b[body])
	refuse("the lower bytes of the sum first", swapped, impl.ErrSum)
}

func TestNodeBytesChanged(t *testing.T) {
	for what, row := range rightNodes() {
		breakSeal(sealedText(row.text), func(how string, b []byte, want int) {
			mustNotReadNode(t, what+", "+how, b, want)
		})
	}
}

// Four noughts are the seal of nothing: nothing is sealed, but no node.
func sumUnlessEmpty(b []byte) int {
	if bytes.Equal(b, make([]byte, 4)) {
		return impl.ErrForm
	}
	return impl.ErrSum
}

// wrongBodies are sealed, but no node's.
func wrongBodies() map[string]string {
	field := func(text string) string {
		return string([]byte{byte(len(text) >> 8), byte(len(text))}) + text
	}
	return map[string]string{
		"nothing":                    "",
		"l alone":                    "l",
		"i alone":                    "i",
		"a leaf of none":             "l\x00",
		"a free one":                 "i\x00",
		"half a pair":                "l\x01" + field("a"),
		"a pair and a half":          "l\x03" + field("a") + field("v") + field("b"),
		"four pairs":                 "l\x08" + strings.Repeat(field("a")+field("v"), 4),
		"four rising pairs":          "l\x08" + field("a") + field("") + field("b") + field("") + field("c") + field("") + field("d") + field(""),
		"falling pairs":              "l\x04" + field("b") + field("v") + field("a") + field("v"),
		"alike keys":                 "l\x04" + field("a") + field("v") + field("a") + field("v"),
		"an empty key":               "l\x02" + field("") + field("v"),
		"a key of 31 bytes":          "l\x02" + field(long(31)) + field("v"),
		"a value of 91 bytes":        "l\x02" + field("a") + field(long(91)),
		"a value of 301 bytes":       "l\x02" + field("a") + field(long(301)),
		"a byte behind a leaf":       "l\x02" + field("a") + field("v") + "x",
		"a leaf that is cut":         "l\x02" + field("a") + "\x00\x02v",
		"an inner one of five":       "i\x05" + field("\x01a") + field("\x02b") + field("\x03c") + field("\x04d") + field("\x05e"),
		"an inner one, falling":      "i\x02" + field("\x01b") + field("\x02a"),
		"an inner one, alike":        "i\x02" + field("\x01a") + field("\x02a"),
		"page 50":                    "i\x01" + field("\x32a"),
		"page 255":                   "i\x01" + field("\xffa"),
		"a kid without Least":        "i\x01" + field("\x01"),
		"a kid of nothing":           "i\x01" + field(""),
		"a last kid of nothing":      "i\x02" + field("\x01a") + field(""),
		"a Least of 31 bytes":        "i\x01" + field("\x01"+long(31)),
		"a byte behind an inner one": "i\x01" + field("\x01a") + "x",
		"a great letter":             "L\x02" + field("a") + field("v"),
		"a great letter of an inner": "I\x01" + field("\x01a"),
		"no kind":                    "\x02" + field("a") + field("v"),
		"another kind":               "s\x02" + field("a") + field("v"),
		"a leaf called inner":        "i\x06" + strings.Repeat(field("a")+field("v"), 3),
		"an inner one called leaf":   "l\x01" + field("\x01a"),
		"two leaves":                 "l\x02" + field("a") + field("v") + "l\x02" + field("a") + field("v"),
		"a sealed leaf":              string(sealedText("l\x02" + field("a") + field("v"))),
		"201 fields":                 "l\xc9" + strings.Repeat("\x00\x00", 201),
		"MaxText in all":             "l" + long(65531),
	}
}

func TestReadNodeFaults(t *testing.T) {
	for what, text := range wrongBodies() {
		mustNotReadNode(t, what, sealedText(text), impl.ErrForm)
		spoilt := sealedText(text)
		spoilt[len(spoilt)-1] ^= 1
		mustNotReadNode(t, what+", the seal broken too", spoilt, impl.ErrSum)
	}
	for n := range 4 {
		mustNotReadNode(t, "fewer bytes than a sum", make([]byte, n), impl.ErrSum)
	}
	mustNotReadNode(t, "nil", nil, impl.ErrSum)
	mustNotReadNode(t, "MaxText bytes", []byte(long(65536)), impl.ErrSum)
	mustNotReadNode(t, "more than MaxText bytes", []byte(long(65537)), impl.ErrLong)
	mustNotReadNode(t, "more than MaxText bytes, sealed", sealedText("l"+long(65532)), impl.ErrLong)
}
