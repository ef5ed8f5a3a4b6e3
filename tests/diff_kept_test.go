package tests

import (
	"fmt"
	"math/rand"
	"slices"
	"strings"
	"testing"

	"loop.example/g00340/impl"
)

var markDiff = impl.Diff{Key: "behind", Old: "the", New: "end", Was: true, Is: true}

// listsOfDiffs lead ApplyDiff to each of its ends.
func listsOfDiffs() [][]impl.Diff {
	lists := [][]impl.Diff{nil, {}, turns(120), turns(121), turns(4097), diffByHand(manyPairs(60), otherKeys(60)), diffByHand(nil, otherKeys(61)),
		{gone("a", "=a")}, {gone("a", "=a"), other("b", "=b", "2"), come("z", "")}, {come("z", ""), gone("a", "no")}}
	for _, d := range wrongDiffs() {
		lists = append(lists, []impl.Diff{come("z", ""), d})
	}
	return lists
}

// ApplyDiff hands the list of pairs to holdsApart; the parts are guarded here.
func TestApplyDiffKeepsApart(t *testing.T) {
	for i, list := range append(listsOfPairs(), pairsOf("a", "0")) {
		for k, d := range listsOfDiffs() {
			parts, same := guarded(d, markDiff)
			holdsApart(t, fmt.Sprintf("ApplyDiff, list %d, parts %d", i, k), list, func(in []impl.Pair) ([]impl.Pair, int) {
				return impl.ApplyDiff(in, parts)
			})
			if !same() {
				t.Fatalf("list %d, parts %d: the parts are changed", i, k)
			}
		}
	}
}

func TestDiffPairsKeepsApart(t *testing.T) {
	for i, a := range listsOfPairs() {
		for k, b := range append(listsOfPairs(), otherKeys(60)) {
			what := fmt.Sprintf("DiffPairs, lists %d and %d", i, k)
			from, sameFrom := guarded(a, markPair)
			to, sameTo := guarded(b, markPair)
			first, code := impl.DiffPairs(from, to)
			second, again := impl.DiffPairs(from, to)
			if !sameFrom() || !sameTo() || code != again || !slices.Equal(first, second) {
				t.Fatalf("%s: an argument or the second answer is another one", what)
			}
			was := slices.Clone(second)
			spoil(first, markDiff)
			spoil(from, markPair)
			spoil(to, markPair)
			if !slices.Equal(second, was) {
				t.Fatalf("%s: shared memory", what)
			}
		}
	}
	same := keyed("a", "b")
	d, code := impl.DiffPairs(same, same)
	mustCode(t, "a list and itself", code, impl.OK)
	mustDiff(t, "a list and itself", d, nil)
}

// What lies behind the end of a list is no part of it.
func TestNothingHangsOnWhatLiesBehindADifference(t *testing.T) {
	list := keyed("a", "b", "c")
	d, code := impl.DiffPairs(list[:1], list[:2])
	mustCode(t, "DiffPairs", code, impl.OK)
	mustDiff(t, "DiffPairs", d, []impl.Diff{come("b", "=b")})
	parts := []impl.Diff{gone("a", "=a"), {}}
	got, code := impl.ApplyDiff(list[:1], parts[:1])
	mustCode(t, "ApplyDiff", code, impl.OK)
	mustPairs(t, "ApplyDiff", got, nil)
	got, code = impl.ApplyDiff(manyPairs(61)[:60], turns(121)[:0])
	mustCode(t, "ApplyDiff at the edges", code, impl.OK)
	mustPairs(t, "ApplyDiff at the edges", got, manyPairs(60))
}

// askDiffs writes down what the calls on differences answer.
func askDiffs(a, b []impl.Pair, d []impl.Diff) string {
	var out strings.Builder
	made, code := impl.DiffPairs(a, b)
	fmt.Fprintf(&out, "%#v %d;", made, code)
	done, code := impl.ApplyDiff(a, d)
	fmt.Fprintf(&out, "%#v %d;", done, code)
	done, code = impl.ApplyDiff(a, made)
	fmt.Fprintf(&out, "%#v %d", done, code)
	return out.String()
}

func TestEmptyIsNilInDifferences(t *testing.T) {
	of, empty := askDiffs(nil, nil, nil), askDiffs([]impl.Pair{}, []impl.Pair{}, []impl.Diff{})
	if of != empty {
		t.Errorf("%s of nil, %s of empty lists", of, empty)
	}
	if of, empty := askDiffs(keyed("a"), nil, []impl.Diff{gone("a", "=a")}), askDiffs(keyed("a"), []impl.Pair{}, []impl.Diff{gone("a", "=a")}); of != empty {
		t.Errorf("%s of nil, %s of an empty list", of, empty)
	}
}

// No lists make a call panic, and no answer hangs on the calls ahead: the
// same ones are asked again in the other direction.
func TestAnyDifferencesInAnyOrder(t *testing.T) {
	r := rand.New(rand.NewSource(24))
	type row struct {
		a, b []impl.Pair
		d    []impl.Diff
		told string
	}
	someList := func() []impl.Pair {
		if r.Intn(2) == 0 {
			return fewPairs(r)
		}
		var list []impl.Pair
		for range r.Intn(64) {
			list = append(list, impl.Pair{Key: someText(r, 31), Value: someText(r, 91)})
		}
		if r.Intn(2) == 0 {
			slices.SortFunc(list, func(x, y impl.Pair) int { return strings.Compare(x.Key, y.Key) })
		}
		return list
	}
	var all []row
	for range 2000 {
		a := row{a: someList(), b: someList()}
		for range r.Intn(4) {
			a.d = append(a.d, someDiff(r))
		}
		if r.Intn(20) == 0 {
			a.d = make([]impl.Diff, r.Intn(130))
		}
		a.told = askDiffs(a.a, a.b, a.d)
		all = append(all, a)
	}
	for _, a := range slices.Backward(all) {
		if askDiffs(a.a, a.b, a.d) != a.told {
			t.Fatalf("the answer hangs on what was called ahead: %.900q", fmt.Sprint(a))
		}
	}
}
