package tests

import (
	"math/rand"
	"slices"
	"strings"
	"testing"

	"loop.example/g00340/impl"
)

// keyed gives pairs of these keys, in this order, with values of their own.
func keyed(keys ...string) []impl.Pair {
	var list []impl.Pair
	for _, key := range keys {
		list = append(list, impl.Pair{Key: key, Value: "=" + key[:min(len(key), 80)]})
	}
	return list
}

func TestPairsOK(t *testing.T) {
	right := map[string][]impl.Pair{
		"nil":                        nil,
		"empty":                      {},
		"one":                        keyed("a"),
		"rising":                     keyed("A", "a", "b"),
		"a beginning first":          keyed("a", "aa", "ab", "b"),
		"bytes, not letters":         keyed("\x00", "\x00\x00", " ", "z", "\x7f", "\x80", "\xff"),
		"MaxPairs":                   manyPairs(60),
		"a key of MaxKey bytes":      keyed(long(30)),
		"keys of all lengths":        keyed(long(1), long(29), long(30)),
		"a value of MaxValue bytes":  {{Key: "a", Value: long(90)}},
		"values of none":             {{Key: "a"}, {Key: "b"}},
		"a last value of MaxValue":   append(manyPairs(59), impl.Pair{Key: "z", Value: long(90)}),
		"a last key of MaxKey bytes": append(manyPairs(59), impl.Pair{Key: "z" + long(29)}),
	}
	for what, list := range right {
		if !impl.PairsOK(list) {
			t.Errorf("%s: not right", what)
		}
	}
	for what, list := range wrongPairs() {
		if impl.PairsOK(list) {
			t.Errorf("%s: right", what)
		}
	}
	if impl.PairsOK(manyPairs(4097)) {
		t.Error("more than MaxList: right")
	}
}

// wrongPairs are no pairs, but short enough to be looked at.
func wrongPairs() map[string][]impl.Pair {
	return map[string][]impl.Pair{
		"an empty key":                   {{}},
		"an empty key of a value":        {{Value: "a"}},
		"an empty key ahead":             {{}, {Key: "a"}},
		"an empty last key":              {{Key: "a"}, {}},
		"falling":                        keyed("b", "a"),
		"a beginning behind":             keyed("ab", "a"),
		"signed bytes":                   keyed("\x80", "a"),
		"alike":                          keyed("a", "a"),
		"alike at the end":               keyed("a", "b", "b"),
		"alike, of other values":         {{Key: "a", Value: "1"}, {Key: "a", Value: "2"}},
		"a key of 31 bytes":              keyed(long(31)),
		"a last key of 31 bytes":         keyed("a", long(31)),
		"a value of 91 bytes":            {{Key: "a", Value: long(91)}},
		"a last value of 91 bytes":       {{Key: "a"}, {Key: "b", Value: long(91)}},
		"a key of more than MaxText":     keyed(long(65537)),
		"a value of more than MaxText":   {{Key: "a", Value: long(65537)}},
		"MaxPairs and one more":          manyPairs(61),
		"MaxList":                        manyPairs(4096),
		"only the last two fall":         append(manyPairs(58), keyed("z", "y")...),
		"only the first two fall, of 60": append(keyed("b", "a"), manyPairs(58)...),
	}
}

func TestPairGet(t *testing.T) {
	list := keyed("a", "b", "b/x", "b/y", "c", long(30))
	for _, p := range list {
		value, code := impl.PairGet(list, p.Key)
		mustCode(t, "PairGet "+p.Key, code, impl.OK)
		if value != p.Value {
			t.Errorf("PairGet(%q) is %q", p.Key, value)
		}
	}
	if value, code := impl.PairGet([]impl.Pair{{Key: "a"}}, "a"); value != "" || code != impl.OK {
		t.Errorf("an empty value: %q, %d", value, code)
	}
	for _, key := range []string{"A", "0", "aa", "b/", "b/xx", "bb", "d", "\xff", "\x00", long(29)} {
		value, code := impl.PairGet(list, key)
		mustCode(t, "PairGet "+key, code, impl.ErrNone)
		if value != "" {
			t.Errorf("PairGet(%q) is %q", key, value)
		}
	}
	for _, empty := range [][]impl.Pair{nil, {}} {
		_, code := impl.PairGet(empty, "a")
		mustCode(t, "PairGet of none", code, impl.ErrNone)
	}
}

func TestPairPut(t *testing.T) {
	list := keyed("b", "d")
	for _, c := range []struct{ key, order string }{{"a", "abd"}, {"c", "bcd"}, {"e", "bde"}, {"b", "bd"}, {"d", "bd"}} {
		got, code := impl.PairPut(list, c.key, "new")
		mustCode(t, "PairPut "+c.key, code, impl.OK)
		var want []impl.Pair
		for _, key := range strings.Split(c.order, "") {
			p := impl.Pair{Key: key, Value: "=" + key}
			if key == c.key {
				p.Value = "new"
			}
			want = append(want, p)
		}
		mustPairs(t, "PairPut "+c.key, got, want)
	}
	for _, empty := range [][]impl.Pair{nil, {}} {
		got, code := impl.PairPut(empty, "k", "v")
		mustCode(t, "PairPut to none", code, impl.OK)
		mustPairs(t, "PairPut to none", got, []impl.Pair{{Key: "k", Value: "v"}})
	}
	for _, p := range []impl.Pair{{Key: long(1)}, {Key: long(30)}, {Key: "a", Value: long(90)}, {Key: "\x00", Value: "\x00"}, {Key: long(30), Value: long(90)}} {
		got, code := impl.PairPut(nil, p.Key, p.Value)
		mustCode(t, "PairPut at an edge", code, impl.OK)
		mustPairs(t, "PairPut at an edge", got, []impl.Pair{p})
	}
}

func TestPairPutFull(t *testing.T) {
	got, code := impl.PairPut(manyPairs(59), "z", "last")
	mustCode(t, "the last one that has room", code, impl.OK)
	mustPairs(t, "the last one that has room", got, append(manyPairs(59), impl.Pair{Key: "z", Value: "last"}))
	full := manyPairs(60)
	for _, key := range []string{"a", "k0000x", "z", "k", "k0059x"} {
		got, code := impl.PairPut(full, key, "more")
		mustCode(t, "one too many", code, impl.ErrFull)
		mustPairs(t, "one too many", got, full)
	}
	for i, p := range full {
		want := slices.Clone(full)
		want[i].Value = "other"
		got, code := impl.PairPut(full, p.Key, "other")
		mustCode(t, "another value when full", code, impl.OK)
		mustPairs(t, "another value when full", got, want)
	}
}

func TestPairDrop(t *testing.T) {
	for _, list := range [][]impl.Pair{keyed("a"), keyed("a", "b", "c", "d"), manyPairs(60), keyed(long(30))} {
		for i, p := range list {
			got, code := impl.PairDrop(list, p.Key)
			mustCode(t, "PairDrop "+p.Key, code, impl.OK)
			mustPairs(t, "PairDrop "+p.Key, got, slices.Delete(slices.Clone(list), i, i+1))
		}
		for _, key := range []string{"0", "aa", "zz", "\xff", long(29)} {
			got, code := impl.PairDrop(list, key)
			mustCode(t, "PairDrop "+key, code, impl.ErrNone)
			mustPairs(t, "PairDrop "+key, got, list)
		}
	}
	for _, empty := range [][]impl.Pair{nil, {}} {
		got, code := impl.PairDrop(empty, "a")
		mustCode(t, "PairDrop of none", code, impl.ErrNone)
		mustPairs(t, "PairDrop of none", got, nil)
	}
}

func TestPairsUnder(t *testing.T) {
	list := keyed("a", "b", "b/", "b/x", "b/y", "b0", "c/x", long(30))
	cases := []struct {
		prefix   string
		from, to int
	}{
		{"", 0, 8}, {"a", 0, 1}, {"b", 1, 6}, {"b/", 2, 5}, {"b/x", 3, 4}, {"b/xx", 0, 0}, {"c", 6, 7}, {"/", 0, 0}, {"B", 0, 0},
		{"x", 7, 8}, {long(29), 7, 8}, {long(30), 7, 8}, {long(31), 0, 0}, {long(65536), 0, 0}, {"\x00", 0, 0},
	}
	for _, c := range cases {
		got, code := impl.PairsUnder(list, c.prefix)
		mustCode(t, "PairsUnder", code, impl.OK)
		mustPairs(t, "PairsUnder "+c.prefix[:min(len(c.prefix), 40)], got, list[c.from:c.to])
	}
	got, code := impl.PairsUnder(manyPairs(60), "k000")
	mustCode(t, "PairsUnder of MaxPairs", code, impl.OK)
	mustPairs(t, "PairsUnder of MaxPairs", got, manyPairs(10))
	for _, empty := range [][]impl.Pair{nil, {}} {
		got, code := impl.PairsUnder(empty, "")
		mustCode(t, "PairsUnder of none", code, impl.OK)
		mustPairs(t, "PairsUnder of none", got, nil)
	}
}

// pairCalls asks all calls on pairs for one code; with each of these codes all else is empty.
func pairCalls(t *testing.T, what string, list []impl.Pair, key, value string, get, put, drop, under int) {
	t.Helper()
	got, code := impl.PairGet(list, key)
	mustCode(t, "PairGet, "+what, code, get)
	if got != "" {
		t.Errorf("PairGet, %s: %q beside the code", what, got)
	}
	more, code := impl.PairPut(list, key, value)
	mustCode(t, "PairPut, "+what, code, put)
	mustPairs(t, "PairPut, "+what, more, nil)
	less, code := impl.PairDrop(list, key)
	mustCode(t, "PairDrop, "+what, code, drop)
	mustPairs(t, "PairDrop, "+what, less, nil)
	some, code := impl.PairsUnder(list, key)
	mustCode(t, "PairsUnder, "+what, code, under)
	if under != impl.OK {
		mustPairs(t, "PairsUnder, "+what, some, nil)
	}
}

func TestPairFaultsInOrder(t *testing.T) {
	const ok, bad, tooLong, lengths = impl.OK, impl.ErrBad, impl.ErrLong, impl.ErrRange
	for what, list := range wrongPairs() {
		pairCalls(t, what, list, "a", "v", bad, bad, bad, bad)
		pairCalls(t, what+", no key", list, "", "v", bad, bad, bad, bad)
		pairCalls(t, what+", a key of MaxText", list, long(65536), long(65536), bad, bad, bad, bad)
		pairCalls(t, what+", a key of more", list, long(65537), "v", tooLong, tooLong, tooLong, tooLong)
	}
	for _, list := range [][]impl.Pair{nil, {}, keyed("a", "b"), manyPairs(60)} {
		pairCalls(t, "no key", list, "", "v", lengths, lengths, lengths, ok)
		pairCalls(t, "a key of 31 bytes", list, long(31), "v", lengths, lengths, lengths, ok)
		pairCalls(t, "a key of MaxText bytes", list, long(65536), "v", lengths, lengths, lengths, ok)
		pairCalls(t, "a key of more", list, long(65537), "v", tooLong, tooLong, tooLong, tooLong)
	}
	for _, list := range [][]impl.Pair{manyPairs(4097), make([]impl.Pair, 4097)} {
		pairCalls(t, "more than MaxList", list, "a", "v", tooLong, tooLong, tooLong, tooLong)
		pairCalls(t, "more than MaxList, no key", list, "", "v", tooLong, tooLong, tooLong, tooLong)
	}
}

func TestPairPutValueFaults(t *testing.T) {
	cases := []struct {
		what       string
		list       []impl.Pair
		key, value string
		want       int
	}{
		{"a value of 91 bytes", keyed("a"), "b", long(91), impl.ErrRange},
		{"a value of 91 bytes at a key that is there", keyed("a"), "a", long(91), impl.ErrRange},
		{"a value of 91 bytes when full", manyPairs(60), "z", long(91), impl.ErrRange},
		{"no key when full", manyPairs(60), "", "", impl.ErrRange},
		{"a value of MaxText bytes", keyed("a"), "b", long(65536), impl.ErrRange},
		{"a value of more", keyed("a"), "b", long(65537), impl.ErrLong},
		{"a value of more, no pairs", keyed("b", "a"), "b", long(65537), impl.ErrLong},
		{"a value of more, no key", keyed("a"), "", long(65537), impl.ErrLong},
		{"a value of more when full", manyPairs(60), "z", long(65537), impl.ErrLong},
		{"a value of 91 bytes, no pairs", keyed("b", "a"), "b", long(91), impl.ErrBad},
	}
	for _, c := range cases {
		got, code := impl.PairPut(c.list, c.key, c.value)
		mustCode(t, c.what, code, c.want)
		mustPairs(t, c.what, got, nil)
	}
}

// What is put is got, what is dropped is gone, all else is as it was: held
// against a map through many steps.
func TestPairsAgainstMap(t *testing.T) {
	r := rand.New(rand.NewSource(5))
	var list []impl.Pair
	model := map[string]string{}
	for range 4000 {
		key := long(1+r.Intn(4)) + string([]byte{byte(r.Intn(30)) * 8})
		_, there := model[key]
		if r.Intn(3) > 0 {
			value := someText(r, 90)
			next, code := impl.PairPut(list, key, value)
			if !there && len(model) == 60 {
				mustCode(t, "PairPut", code, impl.ErrFull)
			} else {
				mustCode(t, "PairPut", code, impl.OK)
				model[key] = value
			}
			list = next
		} else {
			next, code := impl.PairDrop(list, key)
			if there {
				mustCode(t, "PairDrop", code, impl.OK)
				delete(model, key)
			} else {
				mustCode(t, "PairDrop", code, impl.ErrNone)
			}
			list = next
		}
		asModel(t, list, model, key)
		if t.Failed() {
			return
		}
	}
}

func asModel(t *testing.T, list []impl.Pair, model map[string]string, key string) {
	t.Helper()
	if !impl.PairsOK(list) || len(list) != len(model) {
		t.Fatalf("%d pairs, not %d", len(list), len(model))
	}
	for _, p := range list {
		if value, there := model[p.Key]; !there || value != p.Value {
			t.Fatalf("at %q stands %q, not %q", p.Key, p.Value, value)
		}
	}
	value, code := impl.PairGet(list, key)
	if want, there := model[key]; there != (code == impl.OK) || value != want {
		t.Fatalf("PairGet(%q): %q, %d, not %q", key, value, code, want)
	}
}
