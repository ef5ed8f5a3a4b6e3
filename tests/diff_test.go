package tests

import (
	"fmt"
	"maps"
	"math/rand"
	"slices"
	"testing"

	"loop.example/g00340/impl"
)

// gone, come and other are the three sorts of a difference.
func gone(key, old string) impl.Diff { return impl.Diff{Key: key, Old: old, Was: true} }

func come(key, now string) impl.Diff { return impl.Diff{Key: key, New: now, Is: true} }

func other(key, old, now string) impl.Diff {
	return impl.Diff{Key: key, Old: old, New: now, Was: true, Is: true}
}

// pairsOf gives pairs of a key and a value in turn.
func pairsOf(texts ...string) []impl.Pair {
	var list []impl.Pair
	for i := 0; i < len(texts); i += 2 {
		list = append(list, impl.Pair{Key: texts[i], Value: texts[i+1]})
	}
	return list
}

func mustDiff(t *testing.T, what string, got, want []impl.Diff) {
	t.Helper()
	if !slices.Equal(got, want) {
		t.Errorf("%.80q: differences %.600q, not %.600q", what, fmt.Sprint(got), fmt.Sprint(want))
	}
}

// diffByHand goes along both lists at once.
func diffByHand(a, b []impl.Pair) []impl.Diff {
	var out []impl.Diff
	for len(a) > 0 || len(b) > 0 {
		switch {
		case len(b) == 0 || len(a) > 0 && a[0].Key < b[0].Key:
			out = append(out, gone(a[0].Key, a[0].Value))
			a = a[1:]
		case len(a) == 0 || b[0].Key < a[0].Key:
			out = append(out, come(b[0].Key, b[0].Value))
			b = b[1:]
		default:
			if a[0].Value != b[0].Value {
				out = append(out, other(a[0].Key, a[0].Value, b[0].Value))
			}
			a, b = a[1:], b[1:]
		}
	}
	return out
}

// formByHand tells whether ApplyDiff takes a difference at all.
func formByHand(d impl.Diff) bool {
	if len(d.Key) < 1 || len(d.Key) > 30 || len(d.Old) > 90 || len(d.New) > 90 {
		return false
	}
	return (d.Was || d.Is) && (d.Was || d.Old == "") && (d.Is || d.New == "")
}

// applyByHand gives what ApplyDiff is to answer of pairs and at most 120
// differences, by a map of all values.
func applyByHand(list []impl.Pair, d []impl.Diff) ([]impl.Pair, int) {
	now := map[string]string{}
	for _, p := range list {
		now[p.Key] = p.Value
	}
	for _, x := range d {
		if !formByHand(x) {
			return list, impl.ErrForm
		}
		if value, there := now[x.Key]; there != x.Was || value != x.Old {
			return list, impl.ErrOld
		}
		delete(now, x.Key)
		if x.Is {
			now[x.Key] = x.New
		}
	}
	if len(now) > 60 {
		return list, impl.ErrFull
	}
	var out []impl.Pair
	for _, key := range slices.Sorted(maps.Keys(now)) {
		out = append(out, impl.Pair{Key: key, Value: now[key]})
	}
	return out, impl.OK
}

func back(d []impl.Diff) []impl.Diff {
	var out []impl.Diff
	for _, x := range d {
		out = append(out, impl.Diff{Key: x.Key, Old: x.New, New: x.Old, Was: x.Is, Is: x.Was})
	}
	return out
}

// holdsDiff asks for the difference of a and b, and that it leads from the
// ones to the others, and turned round from these back.
func holdsDiff(t *testing.T, what string, a, b []impl.Pair, want []impl.Diff) {
	t.Helper()
	d, code := impl.DiffPairs(a, b)
	mustCode(t, what, code, impl.OK)
	mustDiff(t, what, d, want)
	got, code := impl.ApplyDiff(a, d)
	mustCode(t, what+", applied", code, impl.OK)
	mustPairs(t, what+", applied", got, b)
	round, code := impl.DiffPairs(b, a)
	mustCode(t, what+", turned round", code, impl.OK)
	mustDiff(t, what+", turned round", round, back(d))
	got, code = impl.ApplyDiff(b, round)
	mustCode(t, what+", back", code, impl.OK)
	mustPairs(t, what+", back", got, a)
}

func TestDiffPairs(t *testing.T) {
	abc := keyed("a", "b", "c")
	for what, row := range map[string]struct {
		a, b []impl.Pair
		want []impl.Diff
	}{
		"nothing":                  {nil, nil, nil},
		"empty lists":              {[]impl.Pair{}, []impl.Pair{}, nil},
		"alike":                    {abc, keyed("a", "b", "c"), nil},
		"alike of no value":        {pairsOf("a", ""), pairsOf("a", ""), nil},
		"from nothing":             {nil, abc, []impl.Diff{come("a", "=a"), come("b", "=b"), come("c", "=c")}},
		"to nothing":               {abc, nil, []impl.Diff{gone("a", "=a"), gone("b", "=b"), gone("c", "=c")}},
		"another value":            {abc, pairsOf("a", "=a", "b", "2", "c", "=c"), []impl.Diff{other("b", "=b", "2")}},
		"a value of no bytes":      {abc, pairsOf("a", "=a", "b", "", "c", "=c"), []impl.Diff{other("b", "=b", "")}},
		"from a value of no bytes": {pairsOf("a", ""), pairsOf("a", "1"), []impl.Diff{other("a", "", "1")}},
		"no value comes":           {nil, pairsOf("a", ""), []impl.Diff{come("a", "")}},
		"no value goes":            {pairsOf("a", ""), nil, []impl.Diff{gone("a", "")}},
		"a value by one byte":      {pairsOf("a", "1"), pairsOf("a", "1\x00"), []impl.Diff{other("a", "1", "1\x00")}},
		"a key by one byte":        {pairsOf("a", "1"), pairsOf("a\x00", "1"), []impl.Diff{gone("a", "1"), come("a\x00", "1")}},
		"ahead and behind":         {keyed("b"), keyed("a", "b", "c"), []impl.Diff{come("a", "=a"), come("c", "=c")}},
		"in turns":                 {keyed("a", "c", "e"), keyed("b", "d", "f"), []impl.Diff{gone("a", "=a"), come("b", "=b"), gone("c", "=c"), come("d", "=d"), gone("e", "=e"), come("f", "=f")}},
		"all sorts":                {pairsOf("a", "1", "b", "2", "c", "3"), pairsOf("b", "2", "c", "4", "d", ""), []impl.Diff{gone("a", "1"), other("c", "3", "4"), come("d", "")}},
		"bytes, not letters":       {keyed("\x80"), keyed("z", "\xff"), []impl.Diff{come("z", "=z"), gone("\x80", "=\x80"), come("\xff", "=\xff")}},
		"values that change sides": {pairsOf("a", "1", "b", "2"), pairsOf("a", "2", "b", "1"), []impl.Diff{other("a", "1", "2"), other("b", "2", "1")}},
		"at the bounds":            {pairsOf("k", long(90), long(30), ""), pairsOf("k", long(89), long(29), long(90)), diffByHand(pairsOf("k", long(90), long(30), ""), pairsOf("k", long(89), long(29), long(90)))},
		"MaxPairs to none":         {manyPairs(60), nil, diffByHand(manyPairs(60), nil)},
		"MaxPairs of other values": {manyPairs(60), otherValues(60), diffByHand(manyPairs(60), otherValues(60))},
		"MaxPairs to other keys":   {manyPairs(60), otherKeys(60), diffByHand(manyPairs(60), otherKeys(60))},
	} {
		holdsDiff(t, what, row.a, row.b, row.want)
	}
	if d, _ := impl.DiffPairs(manyPairs(60), otherKeys(60)); len(d) != 120 {
		t.Errorf("%d differences of 60 keys to 60 other ones", len(d))
	}
}

func otherValues(n int) []impl.Pair {
	list := manyPairs(n)
	for i := range list {
		list[i].Value += "!"
	}
	return list
}

func otherKeys(n int) []impl.Pair {
	list := manyPairs(n)
	for i := range list {
		list[i].Key += "x"
	}
	return list
}

func TestDiffPairsFaults(t *testing.T) {
	right := keyed("a", "b")
	for what, list := range wrongPairs() {
		for _, of := range [][]impl.Pair{right, nil, list} {
			d, code := impl.DiffPairs(list, of)
			mustCode(t, "from "+what, code, impl.ErrBad)
			mustDiff(t, "from "+what, d, nil)
			d, code = impl.DiffPairs(of, list)
			mustCode(t, "to "+what, code, impl.ErrBad)
			mustDiff(t, "to "+what, d, nil)
		}
		for i, lists := range [][2][]impl.Pair{{list, manyPairs(4097)}, {manyPairs(4097), list}, {right, manyPairs(4097)}, {manyPairs(4097), right}} {
			d, code := impl.DiffPairs(lists[0], lists[1])
			mustCode(t, fmt.Sprintf("%s, too long %d", what, i), code, impl.ErrLong)
			mustDiff(t, fmt.Sprintf("%s, too long %d", what, i), d, nil)
		}
	}
}

// A difference is refused by other pairs than those that it leads from, if
// they have something else at one of its keys: the pairs are as they were.
func TestOthersRefuseADifference(t *testing.T) {
	a, b := pairsOf("a", "1", "b", "2", "c", "3"), pairsOf("b", "2", "c", "4", "d", "5")
	d, _ := impl.DiffPairs(a, b)
	for what, list := range map[string][]impl.Pair{
		"nothing":                  nil,
		"those that it leads to":   b,
		"another value that goes":  pairsOf("a", "2", "c", "3"),
		"no value that goes":       pairsOf("a", "", "c", "3"),
		"none that goes":           pairsOf("b", "2", "c", "3"),
		"another value":            pairsOf("a", "1", "c", "4"),
		"no value":                 pairsOf("a", "1", "c", ""),
		"none that changes":        pairsOf("a", "1", "b", "2"),
		"the one that comes":       pairsOf("a", "1", "c", "3", "d", "5"),
		"another one that comes":   pairsOf("a", "1", "c", "3", "d", ""),
		"a value by one byte":      pairsOf("a", "1\x00", "c", "3"),
		"a key by one byte":        pairsOf("a\x00", "1", "c", "3"),
		"great letters, not small": pairsOf("A", "1", "C", "3"),
	} {
		got, code := impl.ApplyDiff(list, d)
		mustCode(t, what, code, impl.ErrOld)
		mustPairs(t, what, got, list)
	}
	for what, list := range map[string][]impl.Pair{
		"other keys too":       pairsOf("a", "1", "b", "2", "bb", "0", "c", "3", "z", "0"),
		"without what is left": pairsOf("a", "1", "c", "3"),
	} {
		got, code := impl.ApplyDiff(list, d)
		want, _ := applyByHand(list, d)
		mustCode(t, what, code, impl.OK)
		mustPairs(t, what, got, want)
	}
}

// fewPairs gives pairs of few keys and values, so that many of two lists are
// alike.
func fewPairs(r *rand.Rand) []impl.Pair {
	var list []impl.Pair
	for key := byte('a'); key < 'i'; key++ {
		if r.Intn(3) > 0 {
			list = append(list, impl.Pair{Key: string([]byte{key}), Value: []string{"", "1", "2"}[r.Intn(3)]})
		}
	}
	return list
}

func TestSomeDifferences(t *testing.T) {
	r := rand.New(rand.NewSource(22))
	told := map[int]int{}
	for range 3000 {
		a, b, c := fewPairs(r), fewPairs(r), fewPairs(r)
		want := diffByHand(a, b)
		holdsDiff(t, "some", a, b, want)
		if r.Intn(2) == 0 {
			c = editByHand(a, impl.Pair{Key: string([]byte{byte('a' + r.Intn(10))}), Value: "1"}, r.Intn(2) == 0)
		}
		got, code := impl.ApplyDiff(c, want)
		due, dueCode := applyByHand(c, want)
		mustCode(t, "of others", code, dueCode)
		mustPairs(t, "of others", got, due)
		told[code]++
		if slices.Equal(a, c) && code != impl.OK {
			t.Errorf("%v to %v: refused by the same", a, b)
		}
		if len(want) == 0 != slices.Equal(a, b) {
			t.Errorf("%v to %v: %v", a, b, want)
		}
		if t.Failed() {
			return
		}
	}
	if told[impl.OK] < 100 || told[impl.ErrOld] < 100 {
		t.Errorf("codes %v", told)
	}
}

// The pairs of a store and of its snapshots: a difference leads from each to
// each.
func TestDifferencesOfSnapshots(t *testing.T) {
	s := impl.NewStore()
	lists := [][]impl.Pair{manyPairs(9), keyed("a", "b", "z"), nil, otherValues(7)}
	for i, list := range lists {
		s, _, _ = impl.PutPairs(s, list)
		s, _, _ = impl.TakeSnap(s, fmt.Sprintf("s%d", i), i)
	}
	for i, a := range lists {
		for k, b := range lists {
			from, _ := impl.SnapPairs(s, fmt.Sprintf("s%d", i))
			to, _ := impl.SnapPairs(s, fmt.Sprintf("s%d", k))
			mustPairs(t, "a snapshot", from, a)
			holdsDiff(t, fmt.Sprintf("from %d to %d", i, k), from, to, diffByHand(a, b))
		}
	}
}
