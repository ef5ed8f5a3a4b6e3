package tests

import (
	"fmt"
	"math/rand"
	"slices"
	"strings"
	"testing"

	"loop.example/g00340/impl"
)

// wrongDiffs are differences that no pairs take.
func wrongDiffs() map[string]impl.Diff {
	return map[string]impl.Diff{
		"nothing":                               {},
		"neither was nor is":                    {Key: "a"},
		"neither, with its value":               {Key: "a", Old: "=a"},
		"neither, with a new one":               {Key: "a", New: "1"},
		"neither, with both":                    {Key: "a", Old: "=a", New: "1"},
		"a key of no bytes, goes":               gone("", "=a"),
		"a key of no bytes, comes":              come("", ""),
		"a key of no bytes, changes":            other("", "1", "2"),
		"a key of 31 bytes, goes":               gone(long(31), ""),
		"a key of 31 bytes, comes":              come(long(31), ""),
		"a key of more than MaxText":            come(long(65537), ""),
		"an old value of 91 bytes":              gone("a", long(91)),
		"an old value of 91 bytes, changes":     other("a", long(91), "1"),
		"an old value of more than MaxText":     gone("a", long(65537)),
		"an old value of what was not":          {Key: "z", Old: "x", Is: true},
		"its old value, of what was not":        {Key: "a", Old: "=a", New: "1", Is: true},
		"a byte 0 of what was not":              {Key: "z", Old: "\x00", Is: true},
		"a long old value of what was not":      {Key: "z", Old: long(91), Is: true},
		"a new value of 91 bytes":               come("z", long(91)),
		"a new value of 91 bytes, changes":      other("a", "=a", long(91)),
		"a new value of more than MaxText":      come("z", long(65537)),
		"a new value of what is not":            {Key: "a", Old: "=a", New: "x", Was: true},
		"a new value like the old, is not":      {Key: "a", Old: "=a", New: "=a", Was: true},
		"a long new value of what is not":       {Key: "a", Old: "=a", New: long(91), Was: true},
		"a byte 0 of what is not":               {Key: "a", Old: "=a", New: "\x00", Was: true},
		"a wrong one of what was another":       {Key: "a", Old: "2", New: "x", Was: true},
		"a key of no bytes, neither was nor is": {Old: "x"},
	}
}

func TestFormsOfADifference(t *testing.T) {
	list := keyed("a", "b", "c")
	for what, d := range wrongDiffs() {
		for _, of := range [][]impl.Pair{list, nil, manyPairs(60)} {
			got, code := impl.ApplyDiff(of, []impl.Diff{d})
			mustCode(t, what, code, impl.ErrForm)
			mustPairs(t, what, got, of)
		}
	}
	wide := pairsOf("k", long(90), long(30), long(90))
	for what, d := range map[string]impl.Diff{
		"a key of 1 byte, comes":         come("z", "1"),
		"a key of 1 byte, a byte 0":      come("\x00", ""),
		"a key of 30 bytes, goes":        gone(long(30), long(90)),
		"a key of 30 bytes, changes":     other(long(30), long(90), ""),
		"a key of 30 bytes, comes":       come(strings.Repeat("y", 30), ""),
		"an old value of 90 bytes":       gone("k", long(90)),
		"a new value of 90 bytes":        come("z", long(90)),
		"both values of 90 bytes":        other("k", long(90), strings.Repeat("y", 90)),
		"a new value of no bytes":        other("k", long(90), ""),
		"a new value like the old":       other("k", long(90), long(90)),
		"one that comes without a value": come("z", ""),
	} {
		got, code := impl.ApplyDiff(wide, []impl.Diff{d})
		want, _ := applyByHand(wide, []impl.Diff{d})
		mustCode(t, what, code, impl.OK)
		mustPairs(t, what, got, want)
	}
}

// Each part in its turn, with all its faults: of two parts the first one's
// fault is told, of one part its form.
func TestFaultsInTurn(t *testing.T) {
	list := pairsOf("a", "1", "b", "2")
	form, old := impl.Diff{Key: "b"}, gone("b", "3")
	for what, row := range map[string]struct {
		d    []impl.Diff
		want int
	}{
		"form":                          {[]impl.Diff{form}, impl.ErrForm},
		"old":                           {[]impl.Diff{old}, impl.ErrOld},
		"form, then old":                {[]impl.Diff{form, old}, impl.ErrForm},
		"old, then form":                {[]impl.Diff{old, form}, impl.ErrOld},
		"right, then old, then form":    {[]impl.Diff{gone("a", "1"), old, form}, impl.ErrOld},
		"right, then form, then old":    {[]impl.Diff{gone("a", "1"), form, old}, impl.ErrForm},
		"right, then old":               {[]impl.Diff{gone("a", "1"), come("c", ""), old}, impl.ErrOld},
		"both of one":                   {[]impl.Diff{{Key: "b", Old: "3", New: "4", Was: true}}, impl.ErrForm},
		"a long key that was not there": {[]impl.Diff{gone(long(31), "")}, impl.ErrForm},
	} {
		got, code := impl.ApplyDiff(list, row.d)
		mustCode(t, what, code, row.want)
		mustPairs(t, what, got, list)
	}
}

// A part is held against what the parts ahead of it have left, in whatever
// order their keys stand.
func TestPartsOneBehindTheOther(t *testing.T) {
	list := pairsOf("a", "1", "b", "2")
	for what, row := range map[string]struct {
		d    []impl.Diff
		want []impl.Pair
		code int
	}{
		"none":                         {nil, list, impl.OK},
		"an empty list":                {[]impl.Diff{}, list, impl.OK},
		"keys that fall":               {[]impl.Diff{come("c", "3"), other("b", "2", "4"), gone("a", "1")}, pairsOf("b", "4", "c", "3"), impl.OK},
		"changed twice":                {[]impl.Diff{other("a", "1", "2"), other("a", "2", "3")}, pairsOf("a", "3", "b", "2"), impl.OK},
		"changed and changed back":     {[]impl.Diff{other("a", "1", "2"), other("a", "2", "1")}, list, impl.OK},
		"gone and come":                {[]impl.Diff{gone("a", "1"), come("a", "9")}, pairsOf("a", "9", "b", "2"), impl.OK},
		"come and gone":                {[]impl.Diff{come("c", "3"), gone("c", "3")}, list, impl.OK},
		"gone one by one":              {[]impl.Diff{gone("a", "1"), gone("b", "2")}, nil, impl.OK},
		"changed twice from the first": {[]impl.Diff{other("a", "1", "2"), other("a", "1", "3")}, list, impl.ErrOld},
		"gone twice":                   {[]impl.Diff{gone("a", "1"), gone("a", "1")}, list, impl.ErrOld},
		"come twice":                   {[]impl.Diff{come("c", "3"), come("c", "3")}, list, impl.ErrOld},
		"gone and changed":             {[]impl.Diff{gone("a", "1"), other("a", "1", "2")}, list, impl.ErrOld},
	} {
		got, code := impl.ApplyDiff(list, row.d)
		mustCode(t, what, code, row.code)
		mustPairs(t, what, got, row.want)
	}
}

// How many there are counts at the end alone: on the way there may be more.
func TestFullAtTheEnd(t *testing.T) {
	full := manyPairs(60)
	first, last := gone(full[0].Key, full[0].Value), gone(full[59].Key, full[59].Value)
	for what, row := range map[string]struct {
		list []impl.Pair
		d    []impl.Diff
		code int
	}{
		"the 60th":                    {manyPairs(59), []impl.Diff{come("z", "")}, impl.OK},
		"the 61st":                    {full, []impl.Diff{come("z", "")}, impl.ErrFull},
		"the 61st ahead":              {full, []impl.Diff{come("a", "")}, impl.ErrFull},
		"the 60th and the 61st":       {manyPairs(59), []impl.Diff{come("y", ""), come("z", "")}, impl.ErrFull},
		"another value of 60":         {full, []impl.Diff{other(full[7].Key, full[7].Value, "")}, impl.OK},
		"the 61st, then one goes":     {full, []impl.Diff{come("z", ""), first}, impl.OK},
		"one goes, then the 61st":     {full, []impl.Diff{last, come("z", "")}, impl.OK},
		"two come, one goes":          {full, []impl.Diff{come("y", ""), come("z", ""), first}, impl.ErrFull},
		"the 61st, then a wrong form": {full, []impl.Diff{come("z", ""), {Key: "a"}}, impl.ErrForm},
		"the 61st, then an old value": {full, []impl.Diff{come("z", ""), gone("a", "")}, impl.ErrOld},
		"the 61st comes and goes":     {full, []impl.Diff{come("z", "1"), gone("z", "1")}, impl.OK},
	} {
		got, code := impl.ApplyDiff(row.list, row.d)
		want, _ := applyByHand(row.list, row.d)
		mustCode(t, what, code, row.code)
		mustPairs(t, what, got, want)
	}
	d := append(diffByHand(nil, otherKeys(60)), diffByHand(full, nil)...)
	got, code := impl.ApplyDiff(full, d)
	mustCode(t, "120 on the way", code, impl.OK)
	mustPairs(t, "120 on the way", got, otherKeys(60))
	got, code = impl.ApplyDiff(full, d[:119])
	mustCode(t, "61 at the end", code, impl.ErrFull)
	mustPairs(t, "61 at the end", got, full)
}

// turns gives n parts that change one key to and fro.
func turns(n int) []impl.Diff {
	list := make([]impl.Diff, n)
	for i := range list {
		list[i] = other("a", fmt.Sprint(i), fmt.Sprint(i+1))
	}
	return list
}

func TestMostDifferences(t *testing.T) {
	start := pairsOf("a", "0")
	for _, n := range []int{0, 1, 119, 120} {
		got, code := impl.ApplyDiff(start, turns(n))
		mustCode(t, fmt.Sprint(n), code, impl.OK)
		mustPairs(t, fmt.Sprint(n), got, pairsOf("a", fmt.Sprint(n)))
	}
	for _, n := range []int{121, 122, 4096} {
		got, code := impl.ApplyDiff(start, turns(n))
		mustCode(t, fmt.Sprint(n), code, impl.ErrMany)
		mustPairs(t, fmt.Sprint(n), got, nil)
	}
	got, code := impl.ApplyDiff(start, turns(4097))
	mustCode(t, "4097", code, impl.ErrLong)
	mustPairs(t, "4097", got, nil)
}

// Each fault comes ahead of those behind it: too long, no pairs, too many,
// then those of the parts; with the first three there are no pairs at all.
func TestOrderOfApplyCodes(t *testing.T) {
	right, wrong := pairsOf("a", "0"), keyed("b", "a")
	form, old := impl.Diff{}, gone("a", "1")
	for _, row := range []struct {
		what string
		list []impl.Pair
		d    []impl.Diff
		want int
	}{
		{"4097 pairs, 4097 parts", manyPairs(4097), make([]impl.Diff, 4097), impl.ErrLong},
		{"4097 pairs, no parts", manyPairs(4097), nil, impl.ErrLong},
		{"4097 pairs, 121 parts", manyPairs(4097), make([]impl.Diff, 121), impl.ErrLong},
		{"wrong pairs, 4097 parts", wrong, make([]impl.Diff, 4097), impl.ErrLong},
		{"right pairs, 4097 parts", right, make([]impl.Diff, 4097), impl.ErrLong},
		{"4096 pairs, 4096 parts", manyPairs(4096), make([]impl.Diff, 4096), impl.ErrBad},
		{"61 pairs, 121 parts", manyPairs(61), make([]impl.Diff, 121), impl.ErrBad},
		{"61 pairs, no parts", manyPairs(61), nil, impl.ErrBad},
		{"wrong pairs, 121 parts", wrong, turns(121), impl.ErrBad},
		{"wrong pairs, a wrong form", wrong, []impl.Diff{form}, impl.ErrBad},
		{"wrong pairs, an old value", wrong, []impl.Diff{old}, impl.ErrBad},
		{"121 parts of a wrong form", right, make([]impl.Diff, 121), impl.ErrMany},
		{"121 parts, an old value", right, slices.Repeat([]impl.Diff{old}, 121), impl.ErrMany},
		{"121 parts, no room", manyPairs(60), diffByHand(nil, otherKeys(121)), impl.ErrMany},
		{"120 parts of a wrong form", right, make([]impl.Diff, 120), impl.ErrForm},
		{"120 parts, an old value", right, slices.Repeat([]impl.Diff{old}, 120), impl.ErrOld},
		{"120 parts, no room", manyPairs(60), diffByHand(nil, otherKeys(120)), impl.ErrFull},
	} {
		want := row.list
		if row.want == impl.ErrLong || row.want == impl.ErrBad || row.want == impl.ErrMany {
			want = nil
		}
		got, code := impl.ApplyDiff(row.list, row.d)
		mustCode(t, row.what, code, row.want)
		mustPairs(t, row.what, got, want)
	}
	for what, list := range wrongPairs() {
		got, code := impl.ApplyDiff(list, nil)
		mustCode(t, what, code, impl.ErrBad)
		mustPairs(t, what, got, nil)
	}
}

// someDiff gives a part that is often, but not always, right for few pairs.
func someDiff(r *rand.Rand) impl.Diff {
	d := impl.Diff{Key: string([]byte{byte('a' + r.Intn(10))}), Was: r.Intn(3) > 0, Is: r.Intn(3) > 0}
	if d.Was || r.Intn(20) == 0 {
		d.Old = []string{"", "1", "2", long(91)}[r.Intn(25)%4]
	}
	if d.Is || r.Intn(20) == 0 {
		d.New = []string{"", "1", "2", long(91)}[r.Intn(25)%4]
	}
	if r.Intn(40) == 0 {
		d.Key = someText(r, 32)
	}
	return d
}

// Parts of any sort: what comes of them is what comes of them by hand.
func TestSomeParts(t *testing.T) {
	r := rand.New(rand.NewSource(23))
	told := map[int]int{}
	for range 4000 {
		list := fewPairs(r)
		var d []impl.Diff
		for range r.Intn(5) {
			d = append(d, someDiff(r))
		}
		got, code := impl.ApplyDiff(list, d)
		want, wantCode := applyByHand(list, d)
		mustCode(t, fmt.Sprint(list, d), code, wantCode)
		mustPairs(t, fmt.Sprint(list, d), got, want)
		told[code]++
		if t.Failed() {
			return
		}
	}
	if told[impl.OK] < 100 || told[impl.ErrForm] < 100 || told[impl.ErrOld] < 100 {
		t.Errorf("codes %v", told)
	}
}
