package tests

import (
	"fmt"
	"math"
	"math/rand"
	"slices"
	"strings"
	"testing"

	"loop.example/g00340/impl"
)

// Lists that lead each call on pairs to each of its ends.
func listsOfPairs() [][]impl.Pair {
	return [][]impl.Pair{nil, {}, keyed("a"), keyed("a", "b", "c"), keyed("b", "a"), manyPairs(59), manyPairs(60), manyPairs(61), manyPairs(4096), manyPairs(4097)}
}

func keysAsked() []string {
	return []string{"", "a", "b", "bb", "c", "k0000", "k0030", "k0059", "z", long(30), long(31), long(65536), long(65537)}
}

// holdsApart hands a guarded list in and asks that neither it nor what lies
// behind it is changed, that the answer is new memory, and that a second call
// answers alike.
func holdsApart(t *testing.T, what string, list []impl.Pair, call func([]impl.Pair) ([]impl.Pair, int)) {
	t.Helper()
	in, same := guarded(list, markPair)
	first, code := call(in)
	if !same() {
		t.Fatalf("%s: an argument is changed", what)
	}
	was := slices.Clone(first)
	second, again := call(in)
	if again != code || !slices.Equal(first, second) {
		t.Fatalf("%s: the second answer is another one", what)
	}
	spoil(first, markPair)
	if !same() {
		t.Fatalf("%s: the answer shares memory with an argument", what)
	}
	if !slices.Equal(second, was) {
		t.Fatalf("%s: two answers share memory", what)
	}
	spoil(in, markPair)
	if !slices.Equal(second, was) {
		t.Fatalf("%s: the answer changes with an argument", what)
	}
}

func TestPairCallsKeepApart(t *testing.T) {
	for i, list := range listsOfPairs() {
		for _, key := range keysAsked() {
			what := fmt.Sprintf("list %d, key %.40q", i, key)
			holdsApart(t, "PairPut "+what, list, func(in []impl.Pair) ([]impl.Pair, int) { return impl.PairPut(in, key, "v") })
			holdsApart(t, "PairPut of a long value "+what, list, func(in []impl.Pair) ([]impl.Pair, int) { return impl.PairPut(in, key, long(91)) })
			holdsApart(t, "PairDrop "+what, list, func(in []impl.Pair) ([]impl.Pair, int) { return impl.PairDrop(in, key) })
			holdsApart(t, "PairsUnder "+what, list, func(in []impl.Pair) ([]impl.Pair, int) { return impl.PairsUnder(in, key) })
			in, same := guarded(list, markPair)
			value, code := impl.PairGet(in, key)
			right := impl.PairsOK(in)
			again, code2 := impl.PairGet(in, key)
			if !same() || value != again || code != code2 || right != impl.PairsOK(list) {
				t.Errorf("PairGet or PairsOK, %s", what)
			}
		}
	}
}

func TestFieldCallsKeepApart(t *testing.T) {
	lists := [][]string{nil, {}, {""}, {"a", "", "bc"}, {long(300)}, {long(301)}, make([]string, 200), make([]string, 201), make([]string, 4097)}
	for i, list := range lists {
		in, same := guarded(list, markText)
		first, code := impl.FieldsBytes(in)
		second, again := impl.FieldsBytes(in)
		if !same() || code != again || string(first) != string(second) {
			t.Errorf("FieldsBytes of list %d: an argument or the second answer is another one", i)
		}
		was := string(second)
		spoil(first, markByte)
		if !same() || string(second) != was {
			t.Errorf("FieldsBytes of list %d: shared memory", i)
		}
	}
	texts := []string{"", "\x00", "\x01", "\x00x", "\x01\x00\x02ab", "\x02\x00\x01a\x00\x00", "\xc9", long(65536), long(65537)}
	for _, text := range texts {
		in, same := guarded([]byte(text), markByte)
		first, code := impl.ReadFields(in)
		second, again := impl.ReadFields(in)
		if !same() || code != again || !slices.Equal(first, second) {
			t.Errorf("ReadFields(%.20q): an argument or the second answer is another one", text)
		}
		told := make([]string, len(second))
		for i, field := range second {
			told[i] = strings.Clone(field)
		}
		spoil(first, markText)
		spoil(in, markByte)
		if !slices.Equal(second, told) {
			t.Errorf("ReadFields(%.20q): shared memory", text)
		}
	}
}

func TestSumKeepsItsArgument(t *testing.T) {
	for _, n := range []int{0, 1, 9, 420, 65536, 65537} {
		in, same := guarded([]byte(long(n)), markByte)
		first := impl.Check32(in)
		if second := impl.Check32(in); !same() || first != second {
			t.Errorf("Check32 of %d bytes: %x, then %x", n, first, second)
		}
	}
}

// What lies behind the end, within the capacity, is no part of an argument.
func TestNothingHangsOnWhatLiesBehind(t *testing.T) {
	text := []byte("\x01\x00\x02abc")
	_, code := impl.ReadFields(text[:4])
	mustCode(t, "a field that goes on behind the end", code, impl.ErrForm)
	_, code = impl.ReadFields(text[:5])
	mustCode(t, "a field that ends at the end", code, impl.OK)
	if impl.Check32(text[:0]) != 0 {
		t.Error("the sum of nothing hangs on what lies behind it")
	}
	list := keyed("a", "b", "a")
	if !impl.PairsOK(list[:2]) {
		t.Error("PairsOK hangs on what lies behind the end")
	}
	_, code = impl.PairGet(keyed("a", "b")[:1], "b")
	mustCode(t, "a key behind the end", code, impl.ErrNone)
}

// An empty list and nil are the same value, in the arguments and the answers.
func TestEmptyIsNil(t *testing.T) {
	calls := map[string]func(list []impl.Pair) string{
		"PairsOK":    func(list []impl.Pair) string { return fmt.Sprint(impl.PairsOK(list)) },
		"PairGet":    func(list []impl.Pair) string { return fmt.Sprint(impl.PairGet(list, "a")) },
		"PairPut":    func(list []impl.Pair) string { return fmt.Sprint(impl.PairPut(list, "a", "b")) },
		"PairDrop":   func(list []impl.Pair) string { return fmt.Sprint(impl.PairDrop(list, "a")) },
		"PairsUnder": func(list []impl.Pair) string { return fmt.Sprint(impl.PairsUnder(list, "a")) },
	}
	for what, call := range calls {
		if of, empty := call(nil), call([]impl.Pair{}); of != empty {
			t.Errorf("%s: %s of nil, %s of an empty list", what, of, empty)
		}
	}
	of, code := impl.FieldsBytes(nil)
	empty, code2 := impl.FieldsBytes([]string{})
	if string(of) != string(empty) || code != impl.OK || code2 != impl.OK {
		t.Errorf("FieldsBytes: %q of nil, %q of an empty list", of, empty)
	}
	if impl.Check32(nil) != impl.Check32([]byte{}) {
		t.Error("Check32 of nil is another one than of no bytes")
	}
}

// askAll writes down what all calls of chapters 1 and 2 answer.
func askAll(list []impl.Pair, texts []string, text, other string, n int) string {
	var b strings.Builder
	fields, code := impl.FieldsBytes(texts)
	fmt.Fprintf(&b, "%q %d;", fields, code)
	read, code := impl.ReadFields([]byte(text))
	fmt.Fprintf(&b, "%q %d;", read, code)
	value, code := impl.PairGet(list, text)
	fmt.Fprintf(&b, "%q %d;", value, code)
	put, code := impl.PairPut(list, text, other)
	fmt.Fprintf(&b, "%q %d;", put, code)
	drop, code := impl.PairDrop(list, text)
	fmt.Fprintf(&b, "%q %d;", drop, code)
	under, code := impl.PairsUnder(list, text)
	fmt.Fprintf(&b, "%q %d;", under, code)
	fmt.Fprintf(&b, "%t %d %q %d %t", impl.NameOK(text), impl.Check32([]byte(text)), impl.CodeWord(n), impl.CodeOf(text), impl.PairsOK(list))
	return b.String()
}

// No argument makes a call panic, and no answer hangs on the calls ahead: the
// same ones are asked again in the other direction.
func TestAnyArgumentsInAnyOrder(t *testing.T) {
	r := rand.New(rand.NewSource(6))
	type asked struct {
		list        []impl.Pair
		texts       []string
		text, other string
		n           int
		told        string
	}
	var all []asked
	numbers := []int{math.MinInt, -1, 0, 1, 19, 20, math.MaxInt}
	for i := range 1500 {
		a := asked{text: someText(r, 40), other: someText(r, 100), n: numbers[i%len(numbers)]}
		for range r.Intn(64) {
			a.list = append(a.list, impl.Pair{Key: someText(r, 31), Value: someText(r, 91)})
		}
		if i%2 == 0 {
			slices.SortFunc(a.list, func(x, y impl.Pair) int { return strings.Compare(x.Key, y.Key) })
		}
		for range r.Intn(5) {
			a.texts = append(a.texts, someText(r, 310))
		}
		a.told = askAll(a.list, a.texts, a.text, a.other, a.n)
		all = append(all, a)
	}
	for _, a := range slices.Backward(all) {
		if askAll(a.list, a.texts, a.text, a.other, a.n) != a.told {
			t.Fatalf("the answer hangs on what was called ahead: %+v", a)
		}
	}
}
