package tests

import (
	"fmt"
	"math/rand"
	"slices"
	"testing"

	"loop.example/g00340/impl"
)

// step is one change; drop tells which of the two.
type step struct {
	key  string
	drop bool
}

// pair gives what a step puts: another value than the one that keyed gives.
func (s step) pair() impl.Pair {
	return impl.Pair{Key: s.key, Value: "new " + s.key[:min(len(s.key), 30)]}
}

func (s step) String() string {
	if s.drop {
		return "TreeDrop " + s.key
	}
	return "TreePut " + s.key
}

func (s step) do(h impl.Heap, root int, keep []int) (impl.Heap, int, int) {
	if s.drop {
		return impl.TreeDrop(h, root, keep, s.key)
	}
	return impl.TreePut(h, root, keep, s.key, s.pair().Value)
}

func put(key string) step { return step{key: key} }

func drop(key string) step { return step{key: key, drop: true} }

// newLeaf gives a leaf of these keys, of which only is of a put.
func newLeaf(only string, keys ...string) impl.Node {
	n := leaf(keys...)
	for i, p := range n.Pairs {
		if p.Key == only {
			n.Pairs[i] = put(only).pair()
		}
	}
	return n
}

// changes are told page by page: what stands on the pages that are laid.
func changes() map[string]struct {
	tree rooted
	keep []int
	step step
	laid map[int]impl.Node
	root int
} {
	type row = struct {
		tree rooted
		keep []int
		step step
		laid map[int]impl.Node
		root int
	}
	leafOn := func(page int, keys ...string) rooted {
		return rooted{laidOn(map[int]impl.Node{page: leaf(keys...)}), page}
	}
	four := laidOn(map[int]impl.Node{7: inner(kid{6, "b"}, kid{5, "e"}, kid{4, "h"}, kid{3, "k"}), 6: leaf("b", "c", "d"), 5: leaf("e", "f", "g"), 4: leaf("h", "i", "j"), 3: leaf("k", "l", "m")})
	single := laidOn(map[int]impl.Node{2: inner(kid{3, "a"}, kid{4, "d"}), 3: leaf("a"), 4: inner(kid{5, "d"}), 5: inner(kid{1, "d"}), 1: leaf("d")})
	return map[string]row{
		"into no pairs":                {rooted{impl.NewHeap(), -1}, nil, put("k"), map[int]impl.Node{0: newLeaf("k", "k")}, 0},
		"into no pairs beside a leaf":  {rooted{leafOn(0, "a").h, -1}, []int{0}, put("k"), map[int]impl.Node{1: newLeaf("k", "k")}, 1},
		"into a leaf, ahead":           {leafOn(0, "b", "d"), nil, put("a"), map[int]impl.Node{1: newLeaf("a", "a", "b", "d")}, 1},
		"into a leaf, between":         {leafOn(1, "b", "d"), nil, put("c"), map[int]impl.Node{0: newLeaf("c", "b", "c", "d")}, 0},
		"into a leaf, behind":          {leafOn(0, "b", "d"), nil, put("e"), map[int]impl.Node{1: newLeaf("e", "b", "d", "e")}, 1},
		"over a pair of a leaf":        {leafOn(0, "b", "d"), nil, put("d"), map[int]impl.Node{1: newLeaf("d", "b", "d")}, 1},
		"over a pair of a full leaf":   {leafOn(0, "a", "b", "c"), nil, put("a"), map[int]impl.Node{1: newLeaf("a", "a", "b", "c")}, 1},
		"into a full leaf, ahead":      {leafOn(1, "b", "c", "d"), nil, put("a"), map[int]impl.Node{0: newLeaf("a", "a", "b"), 2: leaf("c", "d"), 3: inner(kid{0, "a"}, kid{2, "c"})}, 3},
		"into a full leaf, second":     {leafOn(3, "a", "c", "d"), nil, put("b"), map[int]impl.Node{0: newLeaf("b", "a", "b"), 1: leaf("c", "d"), 2: inner(kid{0, "a"}, kid{1, "c"})}, 2},
		"into a full leaf, third":      {leafOn(0, "a", "b", "d"), nil, put("c"), map[int]impl.Node{1: leaf("a", "b"), 2: newLeaf("c", "c", "d"), 3: inner(kid{1, "a"}, kid{2, "c"})}, 3},
		"into a full leaf, behind":     {leafOn(2, "a", "b", "c"), nil, put("d"), map[int]impl.Node{0: leaf("a", "b"), 1: newLeaf("d", "c", "d"), 3: inner(kid{0, "a"}, kid{1, "c"})}, 3},
		"below all of a tree":          {rooted{two(), 5}, nil, put("A"), map[int]impl.Node{0: newLeaf("A", "A", "a", "b"), 1: inner(kid{0, "A"}, kid{2, "c"})}, 1},
		"between two leaves":           {rooted{two(), 5}, nil, put("bb"), map[int]impl.Node{0: newLeaf("bb", "a", "b", "bb"), 1: inner(kid{0, "a"}, kid{2, "c"})}, 1},
		"a least key":                  {rooted{two(), 5}, nil, put("c"), map[int]impl.Node{0: newLeaf("c", "c", "d"), 1: inner(kid{9, "a"}, kid{0, "c"})}, 1},
		"above all of a tree":          {rooted{two(), 5}, nil, put("x"), map[int]impl.Node{0: newLeaf("x", "c", "d", "x"), 1: inner(kid{9, "a"}, kid{0, "c"})}, 1},
		"an inner node becomes two":    {rooted{four, 7}, nil, put("a"), map[int]impl.Node{0: newLeaf("a", "a", "b"), 1: leaf("c", "d"), 2: inner(kid{0, "a"}, kid{1, "c"}, kid{5, "e"}), 8: inner(kid{4, "h"}, kid{3, "k"}), 9: inner(kid{2, "a"}, kid{8, "h"})}, 9},
		"the same behind":              {rooted{four, 7}, nil, put("n"), map[int]impl.Node{0: leaf("k", "l"), 1: newLeaf("n", "m", "n"), 2: inner(kid{6, "b"}, kid{5, "e"}, kid{4, "h"}), 8: inner(kid{0, "k"}, kid{1, "m"}), 9: inner(kid{2, "b"}, kid{8, "k"})}, 9},
		"a full inner node, a value":   {rooted{four, 7}, nil, put("i"), map[int]impl.Node{0: newLeaf("i", "h", "i", "j"), 1: inner(kid{6, "b"}, kid{5, "e"}, kid{0, "h"}, kid{3, "k"})}, 1},
		"dropped of a leaf":            {leafOn(0, "a", "b"), nil, drop("a"), map[int]impl.Node{1: leaf("b")}, 1},
		"dropped of a full leaf":       {leafOn(1, "a", "b", "c"), nil, drop("b"), map[int]impl.Node{0: leaf("a", "c")}, 0},
		"the last pair of all":         {leafOn(0, "a"), nil, drop("a"), nil, -1},
		"the last pair below nodes":    {rooted{down(20), 0}, nil, drop("k"), nil, -1},
		"a least key dropped":          {rooted{two(), 5}, nil, drop("c"), map[int]impl.Node{0: leaf("d"), 1: inner(kid{9, "a"}, kid{0, "d"})}, 1},
		"the least key of all dropped": {rooted{two(), 5}, nil, drop("a"), map[int]impl.Node{0: leaf("b"), 1: inner(kid{0, "b"}, kid{2, "c"})}, 1},
		"a leaf dropped of four":       {rooted{with(four, 4, leaf("h")), 7}, nil, drop("h"), map[int]impl.Node{0: inner(kid{6, "b"}, kid{5, "e"}, kid{3, "k"})}, 0},
		"a root gives way":             {rooted{with(two(), 9, leaf("a")), 5}, nil, drop("a"), nil, 2},
		"a root gives way to the left": {rooted{with(two(), 2, leaf("c")), 5}, nil, drop("c"), nil, 9},
		"a root gives way, and more":   {rooted{single, 2}, nil, drop("a"), nil, 1},
		"one kid gives way at a put":   {rooted{down(2), 0}, nil, put("a"), map[int]impl.Node{3: newLeaf("a", "a", "k")}, 3},
		"one kid of two stays":         {rooted{single, 2}, nil, put("e"), map[int]impl.Node{0: newLeaf("e", "d", "e"), 6: inner(kid{0, "d"}), 7: inner(kid{6, "d"}), 8: inner(kid{3, "a"}, kid{7, "d"})}, 8},
		"nodes of none go":             {rooted{single, 2}, nil, drop("d"), nil, 3},
	}
}

func TestChangesPageByPage(t *testing.T) {
	for what, row := range changes() {
		want := cloneHeap(row.tree.h)
		for page, n := range row.laid {
			want.Nodes[page] = n
		}
		got, root, code := row.step.do(row.tree.h, row.tree.root, row.keep)
		mustChange(t, what, got, root, code, want, row.root, impl.OK)
		again, root, code := changeByHand(row.tree.h, row.tree.root, row.keep, row.step.pair(), row.step.drop)
		mustChange(t, "by hand: "+what, again, root, code, want, row.root, impl.OK)
	}
}

// A page that no tree reaches is laid anew, whatever stands on it, and is
// free behind the change if it is not.
func TestPagesThatNoTreeReaches(t *testing.T) {
	waste := laidOn(map[int]impl.Node{0: leaf("x"), 1: {Leaf: true}, 3: inner(kid{9, "a"}), 4: inner(kid{4, "k"}), 20: leaf("a", "b", "c", "d"), 49: {Kids: []int{-1}}})
	for page, n := range two().Nodes {
		if n.Leaf || len(n.Kids) > 0 {
			waste.Nodes[page] = n
		}
	}
	got, root, code := impl.TreePut(waste, 5, nil, "e", "=e")
	want := with(two(), 0, leaf("c", "d", "e"))
	want.Nodes[1] = inner(kid{9, "a"}, kid{0, "c"})
	mustChange(t, "TreePut", got, root, code, want, 1, impl.OK)
	got, root, code = impl.TreeDrop(waste, 5, []int{0}, "b")
	want = with(two(), 0, leaf("x"))
	want.Nodes[1], want.Nodes[3] = leaf("a"), inner(kid{1, "a"}, kid{2, "c"})
	mustChange(t, "TreeDrop", got, root, code, want, 3, impl.OK)
	got, root, code = impl.TreePut(waste, -1, nil, "k", "=k")
	mustChange(t, "TreePut into no pairs", got, root, code, laidOn(map[int]impl.Node{0: leaf("k")}), 0, impl.OK)
}

// What is not done leaves also the pages as they were that no tree reaches.
func TestNothingIsDone(t *testing.T) {
	waste := with(two(), 30, impl.Node{Leaf: true, Kids: []int{99}, Pairs: keyed("b", "a")})
	waste.Nodes[0] = leaf("z")
	got, root, code := impl.TreeDrop(waste, 5, []int{9}, "bb")
	mustChange(t, "no such key", got, root, code, waste, 5, impl.ErrNone)
	got, root, code = impl.TreeDrop(waste, -1, nil, "a")
	mustChange(t, "no pairs", got, root, code, waste, -1, impl.ErrNone)
	full := with(ofPairs(60), 40, impl.Node{Leaf: true})
	got, root, code = impl.TreePut(full, 49, nil, "z", "")
	mustChange(t, "60 pairs", got, root, code, full, 49, impl.ErrFull)
}

func TestMostPairs(t *testing.T) {
	for _, key := range []string{"a", "k0030x", "z"} {
		h, root, code := impl.TreePut(ofPairs(59), 49, nil, key, "v")
		mustCode(t, "the 60th pair", code, impl.OK)
		if pairs, code := impl.TreePairs(h, root); len(pairs) != 60 || code != impl.OK {
			t.Errorf("the 60th pair: %d pairs, code %d", len(pairs), code)
		}
		got, again, code := impl.TreePut(h, root, nil, key+"x", "v")
		mustChange(t, "the 61st pair", got, again, code, h, root, impl.ErrFull)
		_, _, code = impl.TreePut(h, root, nil, key, "other")
		mustCode(t, "another value of the 60th", code, impl.OK)
		_, _, code = impl.TreeDrop(h, root, nil, key)
		mustCode(t, "the 60th dropped", code, impl.OK)
	}
}

// holdsStep asks for what a change is to answer: all else as it was, the old
// trees too, page by page; no page led to but those that are reached.
func holdsStep(t *testing.T, s step, h impl.Heap, root int, keep []int) (impl.Heap, int, int) {
	t.Helper()
	what := fmt.Sprintf("%s, root %d, keep %v", s, root, keep)
	want, wantRoot, wantCode := changeByHand(h, root, keep, s.pair(), s.drop)
	got, top, code := s.do(h, root, keep)
	mustChange(t, what, got, top, code, want, wantRoot, wantCode)
	if t.Failed() {
		t.FailNow()
	}
	if code != impl.OK {
		return got, top, code
	}
	old := append(slices.Clone(keep), root)
	for page := range pagesBelow(h, old...) {
		if !sameNode(got.Nodes[page], h.Nodes[page]) {
			t.Fatalf("%s: page %d of an old tree is another one", what, page)
		}
	}
	due := editByHand(pairsBelow(h, root), s.pair(), s.drop)
	pairs, code := impl.TreePairs(got, top)
	mustCode(t, what, code, impl.OK)
	mustPairs(t, what, pairs, due)
	all := append(old, top)
	if len(all) <= 20 {
		mustRefs(t, what, got, all)
	}
	reached := pagesBelow(got, all...)
	for page, n := range got.Nodes {
		if !reached[page] && !sameNode(n, impl.Node{}) {
			t.Fatalf("%s: page %d is not free", what, page)
		}
	}
	return got, top, impl.OK
}

func numbered(n int) []string {
	var keys []string
	for _, p := range manyPairs(n) {
		keys = append(keys, p.Key)
	}
	return keys
}

// Trees grow, to inner nodes above inner nodes, and shrink to none, in several orders.
func TestGrowAndShrink(t *testing.T) {
	r := rand.New(rand.NewSource(10))
	up := numbered(40)
	falling := slices.Clone(up)
	slices.Reverse(falling)
	orders := [][]string{up, falling}
	for range 6 {
		some := slices.Clone(up)
		r.Shuffle(len(some), func(i, j int) { some[i], some[j] = some[j], some[i] })
		orders = append(orders, some)
	}
	for i, first := range orders {
		h, root := impl.NewHeap(), -1
		var code int
		for _, key := range first {
			h, root, code = holdsStep(t, put(key), h, root, nil)
			mustCode(t, "put "+key, code, impl.OK)
		}
		if pairs, _ := impl.TreePairs(h, root); len(pairs) != len(up) {
			t.Fatalf("%d pairs", len(pairs))
		}
		for _, key := range orders[(i+1)%len(orders)] {
			h, root, code = holdsStep(t, drop(key), h, root, nil)
			mustCode(t, "drop "+key, code, impl.OK)
		}
		if root != -1 {
			t.Errorf("order %d: root %d in the end", i, root)
		}
	}
}

// runTree does n changes, keeps some of the trees, lets others go, and lays
// waste on pages that no tree reaches.
func runTree(t *testing.T, r *rand.Rand, keys, n int) map[int]int {
	h, root := impl.NewHeap(), -1
	var keep []int
	codes := map[int]int{}
	for range n {
		if r.Intn(4) == 0 && len(keep) < 20 {
			keep = append(keep, root)
		}
		if r.Intn(6) == 0 && len(keep) > 0 {
			at := r.Intn(len(keep))
			keep = slices.Delete(keep, at, at+1)
		}
		h = cloneHeap(h)
		reached := pagesBelow(h, append(slices.Clone(keep), root)...)
		if page := r.Intn(50); !reached[page] {
			h.Nodes[page] = someNode(r)
		}
		s := step{key: fmt.Sprintf("k%02d", r.Intn(keys)), drop: r.Intn(5) < 2}
		var code int
		h, root, code = holdsStep(t, s, h, root, keep)
		codes[code]++
	}
	return codes
}

// someNode gives a node of any kind, right or not.
func someNode(r *rand.Rand) impl.Node {
	n := impl.Node{Leaf: r.Intn(2) == 0}
	if n.Leaf || r.Intn(8) == 0 {
		for i := range r.Intn(5) {
			n.Pairs = append(n.Pairs, impl.Pair{Key: fmt.Sprintf("k%d%d", i, r.Intn(3))})
		}
	}
	if !n.Leaf || r.Intn(8) == 0 {
		for i := range r.Intn(6) {
			n.Kids = append(n.Kids, r.Intn(53)-1)
			n.Least = append(n.Least, fmt.Sprintf("k%d%d", i, r.Intn(3)))
		}
	}
	return n
}

func TestRunsOfATree(t *testing.T) {
	r := rand.New(rand.NewSource(11))
	codes := map[int]int{}
	for _, keys := range []int{3, 6, 12, 25, 60, 90} {
		for range 12 {
			for code, n := range runTree(t, r, keys, 120) {
				codes[code] += n
			}
		}
	}
	for _, code := range []int{impl.OK, impl.ErrNone, impl.ErrFull} {
		if codes[code] < 100 {
			t.Errorf("code %d came %d times", code, codes[code])
		}
	}
}

// Changes of trees that no run of puts would make: uneven ones, with inner
// nodes of one kid and leaves of one pair, beside trees that are kept.
func TestChangesOfSomeTrees(t *testing.T) {
	r := rand.New(rand.NewSource(12))
	for range 400 {
		h := laidOn(nil)
		root := someTree(r, h, 1+r.Intn(25))
		var keep []int
		for range r.Intn(4) {
			keep = append(keep, someTree(r, h, 1+r.Intn(12)))
		}
		for range 12 {
			pairs := pairsBelow(h, root)
			s := step{key: fmt.Sprintf("k%03d", r.Intn(140)), drop: r.Intn(2) == 0}
			if len(pairs) > 0 && r.Intn(2) == 0 {
				s.key = pairs[r.Intn(len(pairs))].Key
			}
			h, root, _ = holdsStep(t, s, h, root, keep)
		}
	}
}

// Each tree on the way is kept: all of them read as they did, to the end.
func TestAllThatIsKeptStays(t *testing.T) {
	h, root := impl.NewHeap(), -1
	var keep []int
	var told [][]impl.Pair
	for i, s := range []step{put("b"), put("d"), put("a"), put("c"), put("e"), drop("d"), put("b"), drop("a"), drop("c"), drop("b"), drop("e"), put("f")} {
		keep = append(keep, root)
		told = append(told, pairsBelow(h, root))
		var code int
		h, root, code = holdsStep(t, s, h, root, keep)
		mustCode(t, s.String(), code, impl.OK)
		for k, was := range keep {
			pairs, code := impl.TreePairs(h, was)
			mustCode(t, fmt.Sprintf("tree %d behind step %d", k, i), code, impl.OK)
			mustPairs(t, fmt.Sprintf("tree %d behind step %d", k, i), pairs, told[k])
		}
	}
	if keep[10] == -1 || keep[11] != -1 {
		t.Errorf("the tree became one without pairs too late or too soon: %v", keep)
	}
}

// A root that grows above a part which lies 20 below it: the document bars
// no such change, though what comes of it is no right tree.
func TestGrowsAboveTheDeepest(t *testing.T) {
	h := laidOn(nil)
	var pages []int
	for page := 10; page < 30; page++ {
		pages = append(pages, page)
	}
	chain(h, "x", pages...)
	h.Nodes[0] = inner(kid{1, "a"}, kid{2, "d"}, kid{3, "g"}, kid{10, "x"})
	h.Nodes[1], h.Nodes[2], h.Nodes[3] = leaf("a", "b", "c"), leaf("d", "e", "f"), leaf("g")
	if !impl.TreeOK(h, 0) {
		t.Fatal("not right ahead")
	}
	want, top, _ := changeByHand(h, 0, nil, put("aa").pair(), false)
	got, root, code := put("aa").do(h, 0, nil)
	mustChange(t, "a root that grows", got, root, code, want, top, impl.OK)
	got, root, code = put("gg").do(h, 0, nil)
	mustCode(t, "a root that does not grow", code, impl.OK)
	if !impl.TreeOK(got, root) {
		t.Error("a root that does not grow: not right")
	}
}
