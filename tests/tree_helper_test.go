package tests

import (
	"fmt"
	"math/rand"
	"slices"
	"testing"

	"loop.example/g00340/impl"
)

// leaf gives a leaf of these keys, with values of their own.
func leaf(keys ...string) impl.Node { return impl.Node{Leaf: true, Pairs: keyed(keys...)} }

type kid struct {
	page  int
	least string
}

func inner(kids ...kid) impl.Node {
	n := impl.Node{}
	for _, k := range kids {
		n.Kids = append(n.Kids, k.page)
		n.Least = append(n.Least, k.least)
	}
	return n
}

// laidOn gives a heap with these nodes; all other pages are free.
func laidOn(nodes map[int]impl.Node) impl.Heap {
	h := impl.Heap{Nodes: make([]impl.Node, 50)}
	for page, n := range nodes {
		h.Nodes[page] = n
	}
	return h
}

func sameNode(a, b impl.Node) bool {
	return a.Leaf == b.Leaf && slices.Equal(a.Pairs, b.Pairs) && slices.Equal(a.Least, b.Least) && slices.Equal(a.Kids, b.Kids)
}

func sameHeap(a, b impl.Heap) bool { return slices.EqualFunc(a.Nodes, b.Nodes, sameNode) }

func cloneNode(n impl.Node) impl.Node {
	return impl.Node{Leaf: n.Leaf, Pairs: slices.Clone(n.Pairs), Least: slices.Clone(n.Least), Kids: slices.Clone(n.Kids)}
}

func cloneHeap(h impl.Heap) impl.Heap {
	var out impl.Heap
	for _, n := range h.Nodes {
		out.Nodes = append(out.Nodes, cloneNode(n))
	}
	return out
}

// mustHeap tells the pages on which two heaps are not alike.
func mustHeap(t *testing.T, what string, got, want impl.Heap) {
	t.Helper()
	if len(got.Nodes) != len(want.Nodes) {
		t.Errorf("%s: %d nodes, not %d", what, len(got.Nodes), len(want.Nodes))
		return
	}
	for page := range want.Nodes {
		if !sameNode(got.Nodes[page], want.Nodes[page]) {
			t.Errorf("%s: page %d is %.200q, not %.200q", what, page, fmt.Sprint(got.Nodes[page]), fmt.Sprint(want.Nodes[page]))
		}
	}
}

// mustChange holds an answer of TreePut or TreeDrop against what is due.
func mustChange(t *testing.T, what string, got impl.Heap, root, code int, want impl.Heap, wantRoot, wantCode int) {
	t.Helper()
	mustCode(t, what, code, wantCode)
	mustHeap(t, what, got, want)
	if root != wantRoot {
		t.Errorf("%s: root %d, not %d", what, root, wantRoot)
	}
}

// pagesBelow gives the pages that roots lead to, whatever stands on them, as
// a model beside TreePages.
func pagesBelow(h impl.Heap, roots ...int) map[int]bool {
	pages := map[int]bool{}
	for todo := slices.Clone(roots); len(todo) > 0; {
		page := todo[0]
		todo = todo[1:]
		if page >= 0 && page < len(h.Nodes) && !pages[page] {
			pages[page] = true
			todo = append(todo, h.Nodes[page].Kids...)
		}
	}
	return pages
}

// pairsBelow gives the pairs of a right tree from left to right, as a model
// beside TreePairs.
func pairsBelow(h impl.Heap, root int) []impl.Pair {
	if root == -1 {
		return nil
	}
	out := slices.Clone(h.Nodes[root].Pairs)
	for _, page := range h.Nodes[root].Kids {
		out = append(out, pairsBelow(h, page)...)
	}
	return out
}

// byHand does a change as chapter 4 tells it, with a path of pages where the
// program has nodes behind pointers.
type byHand struct {
	nodes []impl.Node
	taken map[int]bool
	full  bool
}

func (b *byHand) lay(n impl.Node) kid {
	least := ""
	if n.Leaf {
		least = n.Pairs[0].Key
	} else {
		least = n.Least[0]
	}
	for page := range 50 {
		if !b.taken[page] {
			b.taken[page] = true
			b.nodes[page] = n
			return kid{page, least}
		}
	}
	b.full = true
	return kid{0, least}
}

func (b *byHand) layPairs(list []impl.Pair) []kid {
	switch len(list) {
	case 0:
		return nil
	case 1, 2, 3:
		return []kid{b.lay(impl.Node{Leaf: true, Pairs: list})}
	}
	left := b.lay(impl.Node{Leaf: true, Pairs: list[:2]})
	return []kid{left, b.lay(impl.Node{Leaf: true, Pairs: list[2:]})}
}

func (b *byHand) layKids(list []kid) []kid {
	switch len(list) {
	case 0:
		return nil
	case 1, 2, 3, 4:
		return []kid{b.lay(inner(list...))}
	}
	left := b.lay(inner(list[:3]...))
	return []kid{left, b.lay(inner(list[3:]...))}
}

// wayDown gives the pages from the root to the leaf that key belongs in, and
// at which kid each of them is left.
func wayDown(h impl.Heap, root int, key string) (pages, places []int) {
	for root != -1 {
		pages = append(pages, root)
		n := h.Nodes[root]
		if n.Leaf {
			break
		}
		at := len(n.Kids) - 1
		for at > 0 && n.Least[at] > key {
			at--
		}
		places = append(places, at)
		root = n.Kids[at]
	}
	return pages, places
}

func editByHand(list []impl.Pair, p impl.Pair, drop bool) []impl.Pair {
	out := slices.DeleteFunc(slices.Clone(list), func(q impl.Pair) bool { return q.Key == p.Key })
	if !drop {
		out = append(out, p)
		slices.SortFunc(out, func(a, b impl.Pair) int { return slices.Compare([]byte(a.Key), []byte(b.Key)) })
	}
	return out
}

// upwards lays the parts of each node on the way anew, from the leaf to above the root.
func (b *byHand) upwards(h impl.Heap, root int, p impl.Pair, drop bool) []kid {
	pages, places := wayDown(h, root, p.Key)
	if len(pages) == 0 {
		return b.layPairs(editByHand(nil, p, drop))
	}
	parts := b.layPairs(editByHand(h.Nodes[pages[len(pages)-1]].Pairs, p, drop))
	for i := len(places) - 1; i >= 0; i-- {
		n := h.Nodes[pages[i]]
		var list []kid
		for k, page := range n.Kids {
			if k == places[i] {
				list = append(list, parts...)
			} else {
				list = append(list, kid{page, n.Least[k]})
			}
		}
		parts = b.layKids(list)
	}
	if len(parts) > 1 {
		parts = b.layKids(parts)
	}
	return parts
}

// changeByHand gives what TreePut or TreeDrop of right trees is to answer.
func changeByHand(h impl.Heap, root int, keep []int, p impl.Pair, drop bool) (impl.Heap, int, int) {
	pairs := pairsBelow(h, root)
	there := slices.ContainsFunc(pairs, func(q impl.Pair) bool { return q.Key == p.Key })
	old := append(slices.Clone(keep), root)
	b := &byHand{nodes: cloneHeap(h).Nodes, taken: pagesBelow(h, old...)}
	parts := b.upwards(h, root, p, drop)
	if b.full || !drop && !there && len(pairs) == 60 {
		return cloneHeap(h), root, impl.ErrFull
	}
	if drop && !there {
		return cloneHeap(h), root, impl.ErrNone
	}
	out := impl.Heap{Nodes: b.nodes}
	top := -1
	if len(parts) == 1 {
		top = parts[0].page
		for len(out.Nodes[top].Kids) == 1 {
			top = out.Nodes[top].Kids[0]
		}
	}
	reached := pagesBelow(out, append(old, top)...)
	for page := range out.Nodes {
		if !reached[page] {
			out.Nodes[page] = impl.Node{}
		}
	}
	return out, top, impl.OK
}

// sprout lays a tree of any shape over some of the pages that are given: uneven,
// with inner nodes of one kid too. Its keys rise.
type sprout struct {
	r     *rand.Rand
	h     impl.Heap
	pages []int
	next  int
}

func (s *sprout) key() string {
	s.next += 1 + s.r.Intn(3)
	return fmt.Sprintf("k%03d", s.next)
}

func (s *sprout) lay(below int) kid {
	page := s.pages[0]
	s.pages = s.pages[1:]
	if below == 0 || len(s.pages) < 6 || s.next > 120 || s.r.Intn(4) == 0 {
		var keys []string
		for range 1 + s.r.Intn(3) {
			keys = append(keys, s.key())
		}
		s.h.Nodes[page] = leaf(keys...)
		return kid{page, keys[0]}
	}
	var kids []kid
	for range 1 + s.r.Intn(4) {
		if len(s.pages) > 0 {
			kids = append(kids, s.lay(below-1))
		}
	}
	s.h.Nodes[page] = inner(kids...)
	return kid{page, kids[0].least}
}

// someTree lays a right tree of any shape on some free pages of h.
func someTree(r *rand.Rand, h impl.Heap, most int) (root int) {
	var free []int
	for page, n := range h.Nodes {
		if sameNode(n, impl.Node{}) {
			free = append(free, page)
		}
	}
	r.Shuffle(len(free), func(i, j int) { free[i], free[j] = free[j], free[i] })
	free = free[:min(most, len(free))]
	if len(free) == 0 {
		return -1
	}
	s := &sprout{r: r, h: h, pages: free}
	return s.lay(1 + r.Intn(6)).page
}

// chain lays a leaf of key on the last of pages and inner nodes of one kid on
// those ahead, each the kid of the one ahead of it.
func chain(h impl.Heap, key string, pages ...int) {
	last := len(pages) - 1
	for i, page := range pages[:last] {
		h.Nodes[page] = inner(kid{pages[i+1], key})
	}
	h.Nodes[pages[last]] = leaf(key)
}

// occupied gives h with kept trees on all its free pages but these, and their roots.
func occupied(h impl.Heap, free ...int) (impl.Heap, []int) {
	out := cloneHeap(h)
	var keep, pages []int
	for page, n := range h.Nodes {
		if sameNode(n, impl.Node{}) && !slices.Contains(free, page) {
			pages = append(pages, page)
		}
	}
	for some := range slices.Chunk(pages, 21) {
		chain(out, "kept", some...)
		keep = append(keep, some[0])
	}
	return out, keep
}
