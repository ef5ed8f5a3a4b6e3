package tests

import (
	"fmt"
	"math"
	"math/rand"
	"slices"
	"strings"
	"testing"

	"loop.example/g00340/impl"
)

func guardedNode(n impl.Node) (impl.Node, func() bool) {
	pairs, samePairs := guarded(n.Pairs, markPair)
	least, sameLeast := guarded(n.Least, markText)
	kids, sameKids := guarded(n.Kids, markNumber)
	in := impl.Node{Leaf: n.Leaf, Pairs: pairs, Least: least, Kids: kids}
	return in, func() bool { return samePairs() && sameLeast() && sameKids() }
}

// guardedHeap lays the nodes, and each list of a node, into memory with room
// behind its end.
func guardedHeap(h impl.Heap) (impl.Heap, func() bool) {
	const room = 8
	var all []impl.Node
	var checks []func() bool
	for _, n := range h.Nodes {
		in, same := guardedNode(n)
		all = append(all, in)
		checks = append(checks, same)
	}
	for range room {
		all = append(all, leaf("behind", "the end"))
	}
	was := slices.Clone(all)
	return impl.Heap{Nodes: all[:len(h.Nodes)]}, func() bool {
		for i, n := range was {
			if !sameNode(n, all[i]) {
				return false
			}
		}
		for _, same := range checks {
			if !same() {
				return false
			}
		}
		return true
	}
}

func spoilNode(n impl.Node) {
	spoil(n.Pairs, markPair)
	spoil(n.Least, markText)
	spoil(n.Kids, markNumber)
}

func spoilHeap(h impl.Heap) {
	for _, n := range h.Nodes {
		spoilNode(n)
	}
	spoil(h.Nodes, leaf("spoilt"))
}

// listsApart writes into each list of a heap what no other one has, up to the
// ends of their memory, and asks that it stands there in the end.
func listsApart(h impl.Heap) bool {
	for page, n := range h.Nodes {
		text := fmt.Sprint(page)
		spoil(n.Pairs, impl.Pair{Key: text})
		spoil(n.Least, text)
		spoil(n.Kids, page)
	}
	for page, n := range h.Nodes {
		text := fmt.Sprint(page)
		other := slices.ContainsFunc(n.Pairs[:cap(n.Pairs)], func(p impl.Pair) bool { return p.Key != text })
		other = other || slices.ContainsFunc(n.Least[:cap(n.Least)], func(s string) bool { return s != text })
		if other || slices.ContainsFunc(n.Kids[:cap(n.Kids)], func(k int) bool { return k != page }) {
			return false
		}
	}
	return true
}

// changeApart hands guarded arguments in and asks that nothing of them is
// changed, that the answer is new memory, and that a second call answers alike.
func changeApart(t *testing.T, s step, tree rooted, keep []int) {
	t.Helper()
	what := fmt.Sprintf("%.30s, root %d, %d in keep", s, tree.root, len(keep))
	in, same := guardedHeap(tree.h)
	numbers, sameNumbers := guarded(keep, markNumber)
	first, root, code := s.do(in, tree.root, numbers)
	if !same() || !sameNumbers() {
		t.Fatalf("%s: an argument is changed", what)
	}
	was := cloneHeap(first)
	second, root2, code2 := s.do(in, tree.root, numbers)
	if root2 != root || code2 != code || !sameHeap(first, second) {
		t.Fatalf("%s: the second answer is another one", what)
	}
	third, _, _ := s.do(in, tree.root, numbers)
	if !listsApart(third) {
		t.Fatalf("%s: two lists of the answer share memory", what)
	}
	spoilHeap(first)
	if !same() || !sameNumbers() {
		t.Fatalf("%s: the answer shares memory with an argument", what)
	}
	spoilHeap(in)
	spoil(numbers, markNumber)
	if !sameHeap(second, was) {
		t.Fatalf("%s: the answer changes with an argument or another answer", what)
	}
}

func allTrees() map[string]rooted {
	all := rightTrees()
	for what, tree := range wrongTrees() {
		all["wrong: "+what] = tree
	}
	noRoom, _ := occupied(two())
	all["no room"] = rooted{noRoom, 5}
	all["waste"] = rooted{with(two(), 0, impl.Node{Leaf: true, Kids: []int{5}, Least: []string{"a"}, Pairs: keyed("b")}), 5}
	return all
}

func TestChangesKeepApart(t *testing.T) {
	t.Parallel()
	steps := []step{put("a"), put("bb"), put("k"), put("z"), put(""), put(long(31)), put(long(65537)), drop("a"), drop("c"), drop("k"), drop("no"), drop(long(65537))}
	_, kept := occupied(two())
	for _, tree := range allTrees() {
		for _, s := range steps {
			for _, keep := range [][]int{nil, {}, {tree.root}, {-1, 9, tree.root}, kept, make([]int, 20), make([]int, 21), make([]int, 4097)} {
				changeApart(t, s, tree, keep)
			}
		}
	}
}

// asksOf gives all answers on a tree that are lists of numbers or pairs.
func asksOf(h impl.Heap, root int) (pairs []impl.Pair, pages, refs []int, codes [3]int) {
	pairs, codes[0] = impl.TreePairs(h, root)
	pages, codes[1] = impl.TreePages(h, root)
	refs, codes[2] = impl.CountRefs(h, []int{root, root})
	return pairs, pages, refs, codes
}

func TestTreesAreAskedAndKept(t *testing.T) {
	for what, tree := range allTrees() {
		in, same := guardedHeap(tree.h)
		right := impl.TreeOK(in, tree.root)
		value, code := impl.TreeGet(in, tree.root, "c")
		pairs, pages, refs, codes := asksOf(in, tree.root)
		if !same() {
			t.Fatalf("%s: an argument is changed", what)
		}
		pairs2, pages2, refs2, codes2 := asksOf(in, tree.root)
		value2, code2 := impl.TreeGet(in, tree.root, "c")
		alike := slices.Equal(pairs, pairs2) && slices.Equal(pages, pages2) && slices.Equal(refs, refs2) && codes == codes2
		if !alike || right != impl.TreeOK(tree.h, tree.root) || value != value2 || code != code2 {
			t.Fatalf("%s: the second answer is another one", what)
		}
		wasPairs, wasPages, wasRefs := slices.Clone(pairs2), slices.Clone(pages2), slices.Clone(refs2)
		spoil(pairs, markPair)
		spoil(pages, markNumber)
		spoil(refs, markNumber)
		if !same() {
			t.Fatalf("%s: an answer shares memory with an argument", what)
		}
		spoilHeap(in)
		if !slices.Equal(pairs2, wasPairs) || !slices.Equal(pages2, wasPages) || !slices.Equal(refs2, wasRefs) {
			t.Fatalf("%s: an answer changes with an argument", what)
		}
	}
}

func TestCountRefsKeepsItsRoots(t *testing.T) {
	for _, roots := range [][]int{nil, {}, {5}, {5, -1, 9}, {0}, make([]int, 20), make([]int, 21), make([]int, 4097)} {
		in, same := guarded(roots, markNumber)
		first, code := impl.CountRefs(two(), in)
		second, code2 := impl.CountRefs(two(), in)
		if !same() || code != code2 || !slices.Equal(first, second) {
			t.Errorf("%d roots: an argument or the second answer is another one", len(roots))
		}
		was := slices.Clone(second)
		spoil(first, markNumber)
		if !same() {
			t.Errorf("%d roots: the answer shares memory with them", len(roots))
		}
		spoil(in, markNumber)
		if !slices.Equal(second, was) {
			t.Errorf("%d roots: the answer changes with them, or with another answer", len(roots))
		}
	}
}

func TestNodeCallsKeepApart(t *testing.T) {
	nodes := wrongNodes()
	for what, row := range rightNodes() {
		nodes[what] = row.n
	}
	nodes["a free one"] = impl.Node{}
	for what, n := range nodes {
		in, same := guardedNode(n)
		right := impl.NodeOK(in)
		first, code := impl.NodeBytes(in)
		second, code2 := impl.NodeBytes(in)
		if !same() || right != impl.NodeOK(n) || code != code2 || string(first) != string(second) {
			t.Errorf("%s: an argument or the second answer is another one", what)
		}
		was := string(second)
		spoil(first, markByte)
		spoilNode(in)
		if string(second) != was {
			t.Errorf("%s: shared memory", what)
		}
	}
}

func TestReadNodeKeepsApart(t *testing.T) {
	texts := []string{"", "\x00\x00\x00\x00", "l\x02\x00\x01k\x00\x01v", long(65536), long(65537)}
	for _, row := range rightNodes() {
		texts = append(texts, string(sealedText(row.text)))
	}
	for _, body := range wrongBodies() {
		texts = append(texts, string(sealedText(body)))
	}
	for _, text := range texts {
		in, same := guarded([]byte(text), markByte)
		first, code := impl.ReadNode(in)
		second, code2 := impl.ReadNode(in)
		if !same() || code != code2 || !sameNode(first, second) {
			t.Errorf("ReadNode(%.20q): an argument or the second answer is another one", text)
		}
		told := fmt.Sprintf("%q", fmt.Sprint(second))
		spoilNode(first)
		spoil(in, markByte)
		if fmt.Sprintf("%q", fmt.Sprint(second)) != told {
			t.Errorf("ReadNode(%.20q): shared memory", text)
		}
	}
}

func TestNewHeapsAreApart(t *testing.T) {
	spoilHeap(impl.NewHeap())
	mustHeap(t, "NewHeap", impl.NewHeap(), laidOn(nil))
}

// What lies behind the ends of a heap's and of a node's lists is no part of them.
func TestNothingHangsOnWhatLiesBehindAHeap(t *testing.T) {
	h := two()
	h.Nodes = append(h.Nodes, leaf("z"))[:50]
	h.Nodes[9] = impl.Node{Leaf: true, Pairs: keyed("a", "b", "A")[:2], Least: []string{"x"}[:0], Kids: []int{1}[:0]}
	h.Nodes[5] = impl.Node{Least: []string{"a", "c", "b"}[:2], Kids: []int{9, 2, 50}[:2], Pairs: keyed("x")[:0]}
	if !impl.TreeOK(h, 5) || impl.TreeOK(h, 50) || impl.TreeOK(impl.Heap{Nodes: h.Nodes[:49]}, 5) {
		t.Error("TreeOK hangs on what lies behind the end")
	}
	got, root, code := impl.TreePut(h, 5, []int{30, 2}[:0], "bb", "=bb")
	want := with(two(), 0, leaf("a", "b", "bb"))
	want.Nodes[1] = inner(kid{0, "a"}, kid{2, "c"})
	mustChange(t, "TreePut", got, root, code, want, 1, impl.OK)
	if n := (impl.Node{Pairs: keyed("x")[:0], Kids: []int{1}[:0]}); !impl.NodeOK(n) {
		t.Error("a free node hangs on what lies behind the end")
	}
	b := append(sealedText("l\x02\x00\x01k\x00\x01v"), "more"...)
	_, code = impl.ReadNode(b[:len(b)-4])
	mustCode(t, "bytes behind the end", code, impl.OK)
	_, code = impl.ReadNode(b[:len(b)-5])
	mustCode(t, "a sum that goes on behind the end", code, impl.ErrSum)
}

// An empty list and nil are the same value in a heap too.
func TestEmptyIsNilInAHeap(t *testing.T) {
	empty := cloneHeap(two())
	for page, n := range empty.Nodes {
		if len(n.Pairs) == 0 {
			empty.Nodes[page].Pairs = []impl.Pair{}
		}
		if len(n.Kids) == 0 {
			empty.Nodes[page].Kids, empty.Nodes[page].Least = []int{}, []string{}
		}
	}
	for _, s := range []step{put("bb"), drop("a"), drop("no"), put("")} {
		first, root, code := s.do(two(), 5, nil)
		second, root2, code2 := s.do(empty, 5, []int{})
		if root != root2 || code != code2 || fmt.Sprintf("%#v", first) != fmt.Sprintf("%#v", second) {
			t.Errorf("%s: another answer of empty lists", s)
		}
	}
	if !impl.TreeOK(empty, 5) || impl.TreeOK(empty, 0) {
		t.Error("TreeOK")
	}
}

// askTree writes down what all calls of chapter 4 answer.
func askTree(h impl.Heap, root int, keep []int, key, value string, b []byte) string {
	var out strings.Builder
	pairs, pages, refs, codes := asksOf(h, root)
	fmt.Fprintf(&out, "%t %q %v %v %v;", impl.TreeOK(h, root), pairs, pages, refs, codes)
	got, code := impl.TreeGet(h, root, key)
	fmt.Fprintf(&out, "%q %d;", got, code)
	refs, code = impl.CountRefs(h, keep)
	fmt.Fprintf(&out, "%v %d;", refs, code)
	next, top, code := impl.TreePut(h, root, keep, key, value)
	fmt.Fprintf(&out, "%q %d %d;", fmt.Sprint(next), top, code)
	next, top, code = impl.TreeDrop(h, root, keep, key)
	fmt.Fprintf(&out, "%q %d %d;", fmt.Sprint(next), top, code)
	for _, n := range h.Nodes[:min(3, len(h.Nodes))] {
		b, code := impl.NodeBytes(n)
		fmt.Fprintf(&out, "%t %q %d;", impl.NodeOK(n), b, code)
	}
	n, code := impl.ReadNode(b)
	fmt.Fprintf(&out, "%v %d", n, code)
	return out.String()
}

// someHeap gives a heap of any kind: waste, a right tree with waste over one
// of its pages, or one of another length.
func someHeap(r *rand.Rand) (impl.Heap, int) {
	h := laidOn(nil)
	root := someTree(r, h, 1+r.Intn(40))
	switch r.Intn(4) {
	case 0:
		h.Nodes[r.Intn(50)] = someNode(r)
	case 1:
		for page := range h.Nodes {
			h.Nodes[page] = someNode(r)
		}
	case 2:
		h.Nodes = h.Nodes[:r.Intn(51)]
	}
	return h, root
}

// No heap makes a call panic, and no answer hangs on the calls ahead: the
// same ones are asked again in the other direction.
func TestAnyHeapsInAnyOrder(t *testing.T) {
	r := rand.New(rand.NewSource(14))
	numbers := []int{math.MinInt, -2, -1, 0, 1, 2, 25, 49, 50, 51, math.MaxInt}
	type row struct {
		h          impl.Heap
		root       int
		keep       []int
		key, value string
		b          []byte
		told       string
	}
	var all []row
	for i := range 1500 {
		a := row{key: fmt.Sprintf("k%03d", r.Intn(140)), value: someText(r, 95), b: sealedText("l" + someText(r, 12))}
		a.h, a.root = someHeap(r)
		if i%3 == 0 {
			a.root = numbers[i%len(numbers)]
		}
		if i%7 == 0 {
			a.key = someText(r, 33)
		}
		for range r.Intn(4) {
			a.keep = append(a.keep, []int{-1, a.root, numbers[r.Intn(len(numbers))]}[r.Intn(3)])
		}
		a.told = askTree(a.h, a.root, a.keep, a.key, a.value, a.b)
		all = append(all, a)
	}
	for _, a := range slices.Backward(all) {
		if askTree(a.h, a.root, a.keep, a.key, a.value, a.b) != a.told {
			t.Fatalf("the answer hangs on what was called ahead: %.900q", fmt.Sprint(a))
		}
	}
}
