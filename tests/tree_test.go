package tests

import (
	"fmt"
	"math"
	"math/rand"
	"slices"
	"testing"

	"loop.example/g00340/impl"
)

type rooted struct {
	h    impl.Heap
	root int
}

// two gives a tree of two leaves below a root on page 5.
func two() impl.Heap {
	return laidOn(map[int]impl.Node{5: inner(kid{9, "a"}, kid{2, "c"}), 9: leaf("a", "b"), 2: leaf("c", "d")})
}

// uneven gives a tree whose leaves lie at several depths, with inner nodes of
// one kid; its root is page 10.
func uneven() impl.Heap {
	return laidOn(map[int]impl.Node{
		10: inner(kid{0, "a"}, kid{11, "c"}, kid{12, "g"}),
		0:  leaf("a", "b"),
		11: inner(kid{13, "c"}, kid{3, "e"}),
		13: inner(kid{1, "c"}),
		1:  leaf("c", "d"),
		3:  leaf("e"),
		12: inner(kid{14, "g"}),
		14: inner(kid{15, "g"}),
		15: leaf("g", "h", "i"),
	})
}

// down gives a chain of below inner nodes of one kid above a leaf.
func down(below int) impl.Heap {
	h := laidOn(nil)
	var pages []int
	for page := range below + 1 {
		pages = append(pages, page)
	}
	chain(h, "k", pages...)
	return h
}

// ofPairs gives a tree of n pairs, three to a leaf, four leaves to a node; its root is page 49.
func ofPairs(n int) impl.Heap {
	h := laidOn(nil)
	var kids []kid
	page := 0
	for part := range slices.Chunk(manyPairs(n), 3) {
		h.Nodes[page] = impl.Node{Leaf: true, Pairs: part}
		kids = append(kids, kid{page, part[0].Key})
		page++
	}
	for len(kids) > 1 {
		var above []kid
		for part := range slices.Chunk(kids, 4) {
			h.Nodes[page] = inner(part...)
			above = append(above, kid{page, part[0].least})
			page++
		}
		kids = above
	}
	h.Nodes[49], h.Nodes[kids[0].page] = h.Nodes[kids[0].page], impl.Node{}
	return h
}

// all50 gives a tree that reaches each page of the heap: leaves of one pair
// on most of them, and a chain on the last seven; its root is page 0.
func all50() impl.Heap {
	h := laidOn(nil)
	page := 3
	laid := func(n impl.Node, least string) kid {
		h.Nodes[page] = n
		page++
		return kid{page - 1, least}
	}
	var tops []kid
	for top := 1; top <= 2; top++ {
		var above []kid
		for range 4 {
			var leaves []kid
			for range 4 {
				key := fmt.Sprintf("k%02d", page)
				leaves = append(leaves, laid(leaf(key), key))
			}
			above = append(above, laid(inner(leaves...), leaves[0].least))
		}
		h.Nodes[top] = inner(above...)
		tops = append(tops, kid{top, above[0].least})
	}
	chain(h, "last", 43, 44, 45, 46, 47, 48, 49)
	h.Nodes[0] = inner(append(tops, kid{43, "last"})...)
	return h
}

// with gives h with another node on a page.
func with(h impl.Heap, page int, n impl.Node) impl.Heap {
	h = cloneHeap(h)
	h.Nodes[page] = n
	return h
}

func rightTrees() map[string]rooted {
	return map[string]rooted{
		"no pairs":                     {impl.NewHeap(), -1},
		"no pairs, pages in use":       {two(), -1},
		"a leaf":                       {laidOn(map[int]impl.Node{0: leaf("a")}), 0},
		"a leaf on the last page":      {laidOn(map[int]impl.Node{49: leaf("a", "b", "c")}), 49},
		"two leaves":                   {two(), 5},
		"a part of another tree":       {two(), 2},
		"uneven":                       {uneven(), 10},
		"a part of one kid":            {uneven(), 12},
		"one kid":                      {down(1), 0},
		"19 below the root":            {down(19), 0},
		"20 below the root":            {down(20), 0},
		"20 below, not from the top":   {down(21), 1},
		"59 pairs":                     {ofPairs(59), 49},
		"60 pairs":                     {ofPairs(60), 49},
		"all pages":                    {all50(), 0},
		"keys of MaxKey bytes":         {laidOn(map[int]impl.Node{0: inner(kid{1, long(29)}, kid{2, long(30)}), 1: leaf(long(29)), 2: leaf(long(30))}), 0},
		"a beginning ahead":            {laidOn(map[int]impl.Node{0: inner(kid{1, "a"}, kid{2, "aa"}), 1: leaf("a"), 2: leaf("aa", "b")}), 0},
		"a wrong node elsewhere":       {with(two(), 40, impl.Node{Leaf: true}), 5},
		"a node that leads here":       {with(two(), 40, inner(kid{9, "a"})), 5},
		"a cycle elsewhere":            {with(two(), 40, inner(kid{40, "a"})), 5},
		"no pairs, all pages wrong":    {impl.Heap{Nodes: slices.Repeat([]impl.Node{{Leaf: true, Kids: []int{-7}}}, 50)}, -1},
		"a page of the root elsewhere": {with(two(), 40, inner(kid{5, "a"})), 5},
	}
}

// wrongTrees have a fault each.
func wrongTrees() map[string]rooted {
	all := map[string]rooted{
		"no nodes":                      {impl.Heap{}, 0},
		"no nodes, no pairs":            {impl.Heap{}, -1},
		"49 nodes":                      {impl.Heap{Nodes: two().Nodes[:49]}, 5},
		"49 nodes, no pairs":            {impl.Heap{Nodes: impl.NewHeap().Nodes[:49]}, -1},
		"51 nodes":                      {impl.Heap{Nodes: append(two().Nodes, impl.Node{})}, 5},
		"51 nodes, no pairs":            {impl.Heap{Nodes: make([]impl.Node, 51)}, -1},
		"51 nodes, the last as root":    {impl.Heap{Nodes: append(two().Nodes, leaf("a"))}, 50},
		"4097 nodes":                    {impl.Heap{Nodes: make([]impl.Node, 4097)}, -1},
		"root -2":                       {two(), -2},
		"root 50":                       {two(), 50},
		"the least root":                {two(), math.MinInt},
		"the greatest root":             {two(), math.MaxInt},
		"a free root":                   {two(), 0},
		"a free root of all":            {impl.NewHeap(), 49},
		"a free kid":                    {with(two(), 2, impl.Node{}), 5},
		"a kid that is itself":          {with(two(), 5, inner(kid{9, "a"}, kid{5, "c"})), 5},
		"a kid alone that is itself":    {with(two(), 5, inner(kid{5, "a"})), 5},
		"a kid that leads to the root":  {with(two(), 2, inner(kid{5, "c"})), 5},
		"a kid twice":                   {with(two(), 5, inner(kid{9, "a"}, kid{9, "b"})), 5},
		"a leaf below two nodes":        {with(uneven(), 14, inner(kid{3, "g"})), 10},
		"an inner node below two":       {with(uneven(), 14, inner(kid{13, "g"})), 10},
		"leaves that fall":              {with(two(), 9, leaf("a", "d")), 5},
		"leaves that meet":              {with(two(), 9, leaf("a", "c")), 5},
		"leaves that pass":              {with(two(), 9, leaf("a", "x")), 5},
		"a Least too low":               {with(two(), 5, inner(kid{9, "a"}, kid{2, "bb"})), 5},
		"a Least too high":              {with(two(), 5, inner(kid{9, "a"}, kid{2, "d"})), 5},
		"a first Least too low":         {with(two(), 5, inner(kid{9, "A"}, kid{2, "c"})), 5},
		"a first Least too high":        {with(two(), 5, inner(kid{9, "b"}, kid{2, "c"})), 5},
		"a Least of an inner kid":       {with(uneven(), 10, inner(kid{0, "a"}, kid{11, "d"}, kid{12, "g"})), 10},
		"a Least deep below":            {with(uneven(), 14, inner(kid{15, "h"})), 10},
		"a Least whose leaf went on":    {with(uneven(), 15, leaf("h", "i")), 10},
		"21 below the root":             {down(21), 0},
		"30 below the root":             {down(30), 0},
		"49 below the root":             {down(49), 0},
		"61 pairs":                      {ofPairs(61), 49},
		"90 pairs":                      {ofPairs(90), 49},
		"inner nodes that swap kids":    {laidOn(map[int]impl.Node{0: inner(kid{1, "a"}, kid{2, "c"}), 1: inner(kid{3, "a"}, kid{4, "d"}), 2: inner(kid{5, "c"}), 3: leaf("a"), 4: leaf("d"), 5: leaf("c")}), 0},
		"two nodes that lead in a ring": {laidOn(map[int]impl.Node{0: inner(kid{1, "a"}), 1: inner(kid{0, "a"})}), 0},
	}
	for what, n := range wrongNodes() {
		all["as a root: "+what] = rooted{laidOn(map[int]impl.Node{0: n}), 0}
		all["as a kid: "+what] = rooted{with(two(), 2, n), 5}
	}
	return all
}

func TestNewHeap(t *testing.T) {
	h := impl.NewHeap()
	mustHeap(t, "NewHeap", h, laidOn(nil))
	if !impl.TreeOK(h, -1) || impl.TreeOK(h, 0) || impl.TreeOK(h, 49) || impl.TreeOK(h, 50) {
		t.Error("only the tree without pairs is right in a new heap")
	}
}

func TestRightTrees(t *testing.T) {
	for what, tree := range rightTrees() {
		if !impl.TreeOK(tree.h, tree.root) {
			t.Errorf("%s: not right", what)
		}
		pairs, code := impl.TreePairs(tree.h, tree.root)
		mustCode(t, "TreePairs, "+what, code, impl.OK)
		mustPairs(t, "TreePairs, "+what, pairs, pairsBelow(tree.h, tree.root))
		mustPages(t, what, tree)
		mustGet(t, what, tree)
		mustRefs(t, what, tree.h, []int{tree.root})
	}
	if pairs, _ := impl.TreePairs(ofPairs(60), 49); !slices.Equal(pairs, manyPairs(60)) {
		t.Errorf("60 pairs: %v", pairs)
	}
	pairs, _ := impl.TreePairs(uneven(), 10)
	mustPairs(t, "uneven", pairs, keyed("a", "b", "c", "d", "e", "g", "h", "i"))
}

func mustPages(t *testing.T, what string, tree rooted) {
	t.Helper()
	pages, code := impl.TreePages(tree.h, tree.root)
	mustCode(t, "TreePages, "+what, code, impl.OK)
	var want []int
	below := pagesBelow(tree.h, tree.root)
	for page := range 50 {
		if below[page] {
			want = append(want, page)
		}
	}
	if !slices.Equal(pages, want) {
		t.Errorf("TreePages, %s: %v, not %v", what, pages, want)
	}
}

func TestTreePages(t *testing.T) {
	for what, row := range map[string]struct {
		tree rooted
		want []int
	}{
		"no pairs":   {rooted{two(), -1}, nil},
		"a leaf":     {rooted{two(), 9}, []int{9}},
		"two leaves": {rooted{two(), 5}, []int{2, 5, 9}},
		"uneven":     {rooted{uneven(), 10}, []int{0, 1, 3, 10, 11, 12, 13, 14, 15}},
		"a part":     {rooted{uneven(), 11}, []int{1, 3, 11, 13}},
	} {
		if got, code := impl.TreePages(row.tree.h, row.tree.root); !slices.Equal(got, row.want) || code != impl.OK {
			t.Errorf("%s: %v, code %d, not %v", what, got, code, row.want)
		}
	}
	if got, _ := impl.TreePages(all50(), 0); len(got) != 50 {
		t.Errorf("all pages: %v", got)
	}
}

// mustGet asks for each key that is there, and for keys ahead of, between and
// behind them that are not.
func mustGet(t *testing.T, what string, tree rooted) {
	t.Helper()
	pairs := pairsBelow(tree.h, tree.root)
	absent := []string{"\x00", " ", "\xff", long(30) + ""}
	for _, p := range pairs {
		value, code := impl.TreeGet(tree.h, tree.root, p.Key)
		if value != p.Value || code != impl.OK {
			t.Errorf("TreeGet %q, %s: %q, code %d", p.Key, what, value, code)
		}
		absent = append(absent, p.Key[:len(p.Key)-1]+"\x00", p.Key[:min(len(p.Key), 29)]+"!")
	}
	for _, key := range absent {
		if len(key) == 0 || slices.ContainsFunc(pairs, func(p impl.Pair) bool { return p.Key == key }) {
			continue
		}
		value, code := impl.TreeGet(tree.h, tree.root, key)
		if value != "" || code != impl.ErrNone {
			t.Errorf("TreeGet %q, %s: %q, code %d", key, what, value, code)
		}
	}
}

// mustRefs counts in another way, and asks that a page is led to just if it
// is reached.
func mustRefs(t *testing.T, what string, h impl.Heap, roots []int) {
	t.Helper()
	got, code := impl.CountRefs(h, roots)
	mustCode(t, "CountRefs, "+what, code, impl.OK)
	want := make([]int, 50)
	below := pagesBelow(h, roots...)
	for _, root := range roots {
		if root != -1 {
			want[root]++
		}
	}
	for page := range below {
		for _, at := range h.Nodes[page].Kids {
			want[at]++
		}
	}
	if !slices.Equal(got, want) {
		t.Errorf("CountRefs, %s: %v, not %v", what, got, want)
		return
	}
	for page, refs := range got {
		if (refs > 0) != below[page] {
			t.Errorf("CountRefs, %s: page %d has %d, reached is %t", what, page, refs, below[page])
		}
	}
}

// counts gives 50 numbers of which only these are not 0.
func counts(of map[int]int) []int {
	list := make([]int, 50)
	for page, n := range of {
		list[page] = n
	}
	return list
}

func TestCountRefs(t *testing.T) {
	shared := with(two(), 6, inner(kid{9, "a"}, kid{7, "cc"}))
	shared.Nodes[7] = leaf("cc")
	shared.Nodes[8] = inner(kid{6, "a"})
	tests := map[string]struct {
		h     impl.Heap
		roots []int
		want  []int
	}{
		"nil":                        {two(), nil, counts(nil)},
		"empty":                      {two(), []int{}, counts(nil)},
		"no pairs":                   {two(), []int{-1}, counts(nil)},
		"no pairs, often":            {two(), []int{-1, -1, -1}, counts(nil)},
		"a leaf":                     {two(), []int{9}, counts(map[int]int{9: 1})},
		"a tree":                     {two(), []int{5}, counts(map[int]int{2: 1, 5: 1, 9: 1})},
		"a tree twice":               {two(), []int{5, 5}, counts(map[int]int{2: 1, 5: 2, 9: 1})},
		"a tree and its leaf":        {two(), []int{9, 5}, counts(map[int]int{2: 1, 5: 1, 9: 2})},
		"a tree and no pairs":        {two(), []int{-1, 5, -1}, counts(map[int]int{2: 1, 5: 1, 9: 1})},
		"trees that share a leaf":    {shared, []int{5, 6}, counts(map[int]int{2: 1, 5: 1, 6: 1, 7: 1, 9: 2})},
		"the other way round":        {shared, []int{6, 5}, counts(map[int]int{2: 1, 5: 1, 6: 1, 7: 1, 9: 2})},
		"trees that share a node":    {shared, []int{8, 6, 5}, counts(map[int]int{2: 1, 5: 1, 6: 2, 7: 1, 8: 1, 9: 2})},
		"a tree below another":       {shared, []int{8, 6}, counts(map[int]int{6: 2, 7: 1, 8: 1, 9: 1})},
		"20 roots":                   {two(), slices.Repeat([]int{5}, 20), counts(map[int]int{2: 1, 5: 20, 9: 1})},
		"20 roots, most of no pairs": {two(), append(slices.Repeat([]int{-1}, 19), 5), counts(map[int]int{2: 1, 5: 1, 9: 1})},
		"the first and last pages":   {laidOn(map[int]impl.Node{0: inner(kid{49, "a"}), 49: leaf("a")}), []int{0}, counts(map[int]int{0: 1, 49: 1})},
	}
	for what, test := range tests {
		got, code := impl.CountRefs(test.h, test.roots)
		mustCode(t, what, code, impl.OK)
		if !slices.Equal(got, test.want) {
			t.Errorf("%s: %v, not %v", what, got, test.want)
		}
		mustRefs(t, what, test.h, test.roots)
	}
}

// Without a root there is no tree that could be wrong, and no page is led to.
func TestCountRefsWithoutRoots(t *testing.T) {
	for _, n := range []int{0, 49, 50, 51} {
		got, code := impl.CountRefs(impl.Heap{Nodes: make([]impl.Node, n)}, nil)
		if !slices.Equal(got, make([]int, 50)) || code != impl.OK {
			t.Errorf("%d nodes: %v, code %d", n, got, code)
		}
	}
}

// Trees of any shape are right, and all that is asked of them is as a model
// has it.
func TestSomeTrees(t *testing.T) {
	r := rand.New(rand.NewSource(9))
	for i := range 300 {
		h := laidOn(nil)
		var roots []int
		for range 1 + r.Intn(3) {
			roots = append(roots, someTree(r, h, 1+r.Intn(25)))
		}
		what := fmt.Sprintf("tree %d", i)
		for _, root := range roots {
			if len(pairsBelow(h, root)) > 60 {
				t.Fatalf("%s: no right one is made", what)
			}
			if !impl.TreeOK(h, root) {
				t.Fatalf("%s: not right", what)
			}
			mustPages(t, what, rooted{h, root})
			mustGet(t, what, rooted{h, root})
		}
		mustRefs(t, what, h, roots)
		if t.Failed() {
			return
		}
	}
}

func TestWrongTrees(t *testing.T) {
	for what, tree := range wrongTrees() {
		if impl.TreeOK(tree.h, tree.root) {
			t.Errorf("%s: right", what)
		}
		pairs, code := impl.TreePairs(tree.h, tree.root)
		mustCode(t, "TreePairs, "+what, code, impl.ErrBad)
		pages, code := impl.TreePages(tree.h, tree.root)
		mustCode(t, "TreePages, "+what, code, impl.ErrBad)
		if len(pairs) != 0 || len(pages) != 0 {
			t.Errorf("%s: pairs %v, pages %v", what, pairs, pages)
		}
		for _, key := range []string{"a", "", long(31), long(65536)} {
			value, code := impl.TreeGet(tree.h, tree.root, key)
			mustCode(t, "TreeGet, "+what, code, impl.ErrBad)
			if value != "" {
				t.Errorf("TreeGet, %s: %q", what, value)
			}
		}
		for _, roots := range [][]int{{tree.root}, {-1, tree.root}, {tree.root, -1}, append(slices.Repeat([]int{-1}, 19), tree.root)} {
			refs, code := impl.CountRefs(tree.h, roots)
			mustCode(t, "CountRefs, "+what, code, impl.ErrBad)
			if len(refs) != 0 {
				t.Errorf("CountRefs, %s: %v", what, refs)
			}
		}
	}
}

func TestTreeGetFaults(t *testing.T) {
	for _, key := range []string{"", long(31), long(65536)} {
		for _, tree := range []rooted{{two(), 5}, {two(), -1}, {all50(), 0}} {
			value, code := impl.TreeGet(tree.h, tree.root, key)
			mustCode(t, "a key of other lengths", code, impl.ErrRange)
			if value != "" {
				t.Errorf("%q beside the code", value)
			}
		}
	}
	for _, tree := range []rooted{{two(), 5}, {two(), 50}, {impl.Heap{}, -1}} {
		_, code := impl.TreeGet(tree.h, tree.root, long(65537))
		mustCode(t, "a key of more than MaxText bytes", code, impl.ErrLong)
	}
	_, code := impl.TreeGet(two(), 5, long(30))
	mustCode(t, "a key of MaxKey bytes", code, impl.ErrNone)
}

func TestCountRefsFaults(t *testing.T) {
	for _, row := range []struct {
		what  string
		h     impl.Heap
		roots []int
		want  int
	}{
		{"21 roots", two(), slices.Repeat([]int{5}, 21), impl.ErrMany},
		{"21 roots of no pairs", two(), slices.Repeat([]int{-1}, 21), impl.ErrMany},
		{"21 wrong roots", two(), slices.Repeat([]int{0}, 21), impl.ErrMany},
		{"21 roots of no heap", impl.Heap{}, slices.Repeat([]int{0}, 21), impl.ErrMany},
		{"MaxList roots", two(), slices.Repeat([]int{5}, 4096), impl.ErrMany},
		{"more than MaxList roots", two(), slices.Repeat([]int{5}, 4097), impl.ErrLong},
		{"more than MaxList wrong roots", impl.Heap{}, make([]int, 4097), impl.ErrLong},
		{"20 wrong roots", two(), make([]int, 20), impl.ErrBad},
		{"a wrong root behind a right one", two(), []int{5, 0}, impl.ErrBad},
	} {
		got, code := impl.CountRefs(row.h, row.roots)
		mustCode(t, row.what, code, row.want)
		if len(got) != 0 {
			t.Errorf("%s: %v beside the code", row.what, got)
		}
	}
}
