package tests

import (
	"fmt"
	"slices"
	"strings"
	"testing"

	"loop.example/g00340/impl"
)

func snap(name string, root, tick int) impl.Snap {
	return impl.Snap{Name: name, Root: root, Tick: tick}
}

func super(gen, root int, snaps ...impl.Snap) impl.Super {
	return impl.Super{Gen: gen, Root: root, Snaps: snaps}
}

func fieldText(text string) string {
	return string([]byte{byte(len(text) >> 8), byte(len(text))}) + text
}

// superText lays a superblock's bytes by hand.
func superText(s impl.Super) string {
	body := string([]byte{'s', byte(s.Gen), byte(s.Root + 1), byte(len(s.Snaps))})
	for _, p := range s.Snaps {
		body += fieldText(string([]byte{byte(p.Root + 1), byte(p.Tick >> 8), byte(p.Tick)}) + p.Name)
	}
	return string(sealedText(body))
}

// nodeText lays a node's bytes by hand; a free one has none.
func nodeText(n impl.Node) string {
	body := ""
	if n.Leaf {
		body = string([]byte{'l', byte(2 * len(n.Pairs))})
		for _, p := range n.Pairs {
			body += fieldText(p.Key) + fieldText(p.Value)
		}
	} else if len(n.Kids) > 0 {
		body = string([]byte{'i', byte(len(n.Kids))})
		for i, page := range n.Kids {
			body += fieldText(string([]byte{byte(page)}) + n.Least[i])
		}
	} else {
		return ""
	}
	return string(sealedText(body))
}

func rootsOf(s impl.Super) []int {
	roots := []int{s.Root}
	for _, p := range s.Snaps {
		roots = append(roots, p.Root)
	}
	return roots
}

// stored gives the store of a superblock, with those pages of h that its
// trees reach; the other superblock is empty.
func stored(s impl.Super, h impl.Heap) impl.Store {
	h = onlyReached(h, rootsOf(s)...)
	d := impl.Disk{Sectors: make([]string, 52)}
	d.Sectors[s.Gen%2] = superText(s)
	for page, n := range h.Nodes {
		d.Sectors[2+page] = nodeText(n)
	}
	return impl.Store{Disk: d, Super: cloneSuper(s), Heap: h}
}

func cloneSuper(s impl.Super) impl.Super {
	s.Snaps = slices.Clone(s.Snaps)
	return s
}

func cloneStore(s impl.Store) impl.Store {
	return impl.Store{Disk: cloneDisk(s.Disk), Super: cloneSuper(s.Super), Heap: cloneHeap(s.Heap)}
}

func sameSuper(a, b impl.Super) bool {
	return a.Gen == b.Gen && a.Root == b.Root && slices.Equal(a.Snaps, b.Snaps)
}

func sameStore(a, b impl.Store) bool {
	return sameDisk(a.Disk, b.Disk) && sameSuper(a.Super, b.Super) && sameHeap(a.Heap, b.Heap)
}

func mustSuper(t *testing.T, what string, got, want impl.Super) {
	t.Helper()
	if !sameSuper(got, want) {
		t.Errorf("%s: superblock %v, not %v", what, got, want)
	}
}

// mustStore tells sector by sector and page by page where stores are not alike.
func mustStore(t *testing.T, what string, got, want impl.Store) {
	t.Helper()
	mustSuper(t, what, got.Super, want.Super)
	mustHeap(t, what, got.Heap, want.Heap)
	if sameDisk(got.Disk, want.Disk) {
		return
	}
	if len(got.Disk.Sectors) == len(want.Disk.Sectors) {
		for at, text := range want.Disk.Sectors {
			if got.Disk.Sectors[at] != text {
				t.Errorf("%s: sector %d is %.100q, not %.100q", what, at, got.Disk.Sectors[at], text)
			}
		}
	}
	t.Errorf("%s: a disk of %d sectors, writes %.100q, armed %t %v, not of %d, %.100q, %t %v", what,
		len(got.Disk.Sectors), fmt.Sprint(got.Disk.Cache), got.Disk.Armed, got.Disk.Keep,
		len(want.Disk.Sectors), fmt.Sprint(want.Disk.Cache), want.Disk.Armed, want.Disk.Keep)
}

// mustCommit holds an answer of CommitRoot or PutPairs against what is due.
func mustCommit(t *testing.T, what string, got impl.Store, alive bool, code int, want impl.Store, wantAlive bool, wantCode int) {
	t.Helper()
	mustCode(t, what, code, wantCode)
	mustStore(t, what, got, want)
	if alive != wantAlive {
		t.Errorf("%s: the bool is %t", what, alive)
	}
}

// mustOpen asks that a disk is opened as just this store.
func mustOpen(t *testing.T, what string, d impl.Disk, want impl.Store) {
	t.Helper()
	got, code := impl.OpenStore(d)
	mustCode(t, what+", opened", code, impl.OK)
	want.Disk = d
	mustStore(t, what+", opened", got, want)
}

// pageWrites gives the writes of a commit that come ahead of the superblock.
func pageWrites(s impl.Store, h impl.Heap, next impl.Super) []impl.Pending {
	old, laid := pagesBelow(s.Heap, rootsOf(s.Super)...), pagesBelow(h, rootsOf(next)...)
	var list []impl.Pending
	for page := range 50 {
		if laid[page] && !old[page] {
			list = append(list, write(2+page, nodeText(h.Nodes[page])))
		}
	}
	return list
}

func doneOn(sectors []string, writes ...impl.Pending) []string {
	sectors = slices.Clone(sectors)
	for _, w := range writes {
		sectors[w.At] = w.Data
	}
	return sectors
}

// commitByHand gives what CommitRoot is to answer, of right arguments and a
// Gen below MaxGen.
func commitByHand(s impl.Store, h impl.Heap, root int, snaps []impl.Snap) (impl.Store, bool) {
	next := super(s.Super.Gen+1, root, slices.Clone(snaps)...)
	writes := pageWrites(s, h, next)
	if s.Disk.Armed {
		var kept []impl.Pending
		for i, w := range writes {
			if i < len(s.Disk.Keep) && s.Disk.Keep[i] != 0 {
				kept = append(kept, w)
			}
		}
		s = cloneStore(s)
		s.Disk = sure(doneOn(s.Disk.Sectors, kept...)...)
		return s, false
	}
	writes = append(writes, write(next.Gen%2, superText(next)))
	return impl.Store{Disk: sure(doneOn(s.Disk.Sectors, writes...)...), Super: next, Heap: onlyReached(h, rootsOf(next)...)}, true
}

// stepsBetween gives the changes that lead from pairs to pairs: drops, then
// puts, each by their order.
func stepsBetween(was, is []impl.Pair) (list []impl.Pair, drops int) {
	for _, p := range was {
		if !slices.ContainsFunc(is, func(q impl.Pair) bool { return q.Key == p.Key }) {
			list = append(list, p)
		}
	}
	drops = len(list)
	for _, p := range is {
		if !slices.Contains(was, p) {
			list = append(list, p)
		}
	}
	return list, drops
}

// putByHand gives what PutPairs is to answer, of right arguments.
func putByHand(s impl.Store, list []impl.Pair) (impl.Store, bool, int) {
	if s.Super.Gen == 200 {
		return s, true, impl.ErrMany
	}
	h, root := s.Heap, s.Super.Root
	steps, drops := stepsBetween(pairsBelow(h, root), list)
	for i, p := range steps {
		var code int
		h, root, code = changeByHand(h, root, rootsOf(s.Super), p, i < drops)
		if code != impl.OK {
			return s, true, code
		}
	}
	out, alive := commitByHand(s, h, root, s.Super.Snaps)
	return out, alive, impl.OK
}

// armed gives a store whose disk crashes at its next sync.
func armed(s impl.Store, keep ...int) impl.Store {
	s = cloneStore(s)
	s.Disk.Armed, s.Disk.Keep = true, keep
	return s
}

// withSector gives a store with another text in a sector of its disk.
func withSector(s impl.Store, at int, text string) impl.Store {
	s = cloneStore(s)
	s.Disk.Sectors[at] = text
	return s
}

// twoTrees gives a heap of two trees that share a leaf: roots 5 and 6.
func twoTrees() impl.Heap {
	h := with(two(), 6, inner(kid{9, "a"}, kid{7, "cc"}))
	h.Nodes[7] = leaf("cc", "e")
	return h
}

// rightStores are of all sorts, those at the edges too.
func rightStores() map[string]impl.Store {
	named := func(n int) string { return strings.Repeat("n", n) }
	all := map[string]impl.Store{
		"new":                      stored(super(0, -1), laidOn(nil)),
		"no pairs, the second":     stored(super(1, -1), laidOn(nil)),
		"a leaf":                   stored(super(1, 0), laidOn(map[int]impl.Node{0: leaf("a")})),
		"a leaf on the last page":  stored(super(8, 49), laidOn(map[int]impl.Node{49: leaf("a", "b", "c")})),
		"two leaves":               stored(super(4, 5), two()),
		"uneven":                   stored(super(7, 10), uneven()),
		"20 below the root":        stored(super(7, 0), down(20)),
		"60 pairs":                 stored(super(99, 49), ofPairs(60)),
		"all pages":                stored(super(3, 0), all50()),
		"MaxGen":                   stored(super(200, 5), two()),
		"one below MaxGen":         stored(super(199, 5), two()),
		"a snapshot of the tree":   stored(super(4, 5, snap("a", 5, 0)), two()),
		"a snapshot of no pairs":   stored(super(4, 5, snap("a", -1, 0)), two()),
		"a snapshot alone":         stored(super(4, -1, snap("a", 5, 60000)), two()),
		"a snapshot of a leaf":     stored(super(4, 5, snap("a", 9, 1)), two()),
		"trees that share a leaf":  stored(super(5, 5, snap("old", 6, 258)), twoTrees()),
		"MaxSnaps":                 stored(super(5, 5, snap("a", 6, 0), snap(named(8), -1, 60000), snap("p", 5, 7), snap("z", 7, 7)), twoTrees()),
		"MaxSnaps of one":          stored(super(200, -1, snap("A", 5, 1), snap("B", 5, 1), snap("_", 5, 1), snap("a1", 5, 1)), two()),
		"armed":                    armed(stored(super(4, 5), two())),
		"armed with Keep":          armed(stored(super(4, 5, snap("a", 6, 3)), twoTrees()), 1, 0, -1),
		"armed at MaxGen":          armed(stored(super(200, 5), two()), 1),
		"waste on a page":          withSector(stored(super(4, 5), two()), 2, "waste"),
		"a node on a page":         withSector(stored(super(4, 5), two()), 51, nodeText(leaf("a"))),
		"a cycle on a page":        withSector(stored(super(4, 5), two()), 42, nodeText(inner(kid{40, "a"}))),
		"a superblock ahead of it": withSector(stored(super(4, 5), two()), 1, superText(super(3, 0))),
		"in the other sector":      withSector(withSector(stored(super(4, 5), two()), 1, superText(super(4, 5))), 0, "waste"),
		"alike ones":               withSector(stored(super(5, 5), two()), 0, superText(super(5, 0))),
	}
	full, keep := occupied(two())
	all["no free page"] = stored(super(6, 5, snap("a", keep[0], 0), snap("b", keep[1], 0), snap("c", keep[2], 0)), full)
	return all
}

// wrongStores have a fault each.
func wrongStores() map[string]impl.Store {
	base := stored(super(5, 5, snap("old", 6, 258)), twoTrees())
	other := func(change func(s *impl.Store)) impl.Store {
		s := cloneStore(base)
		change(&s)
		return s
	}
	return map[string]impl.Store{
		"nothing":                   {},
		"no disk":                   {Super: base.Super, Heap: base.Heap},
		"no superblock":             {Disk: base.Disk, Heap: base.Heap},
		"no heap":                   {Disk: base.Disk, Super: base.Super},
		"51 sectors":                other(func(s *impl.Store) { s.Disk.Sectors = s.Disk.Sectors[:51] }),
		"53 sectors":                other(func(s *impl.Store) { s.Disk.Sectors = append(s.Disk.Sectors, "") }),
		"a write that is not sure":  other(func(s *impl.Store) { s.Disk.Cache = []impl.Pending{write(30, "")} }),
		"a write of what is there":  other(func(s *impl.Store) { s.Disk.Cache = []impl.Pending{write(1, s.Disk.Sectors[1])} }),
		"Keep without Armed":        other(func(s *impl.Store) { s.Disk.Keep = []int{1} }),
		"501 numbers of Keep":       other(func(s *impl.Store) { s.Disk.Armed, s.Disk.Keep = true, make([]int, 501) }),
		"a sector of 421 bytes":     other(func(s *impl.Store) { s.Disk.Sectors[51] = long(421) }),
		"another Gen":               other(func(s *impl.Store) { s.Super.Gen = 7 }),
		"a lower Gen":               other(func(s *impl.Store) { s.Super.Gen = 4 }),
		"another Root":              other(func(s *impl.Store) { s.Super.Root = 6 }),
		"no Root":                   other(func(s *impl.Store) { s.Super.Root = -1 }),
		"no snapshot":               other(func(s *impl.Store) { s.Super.Snaps = nil }),
		"a snapshot of other name":  other(func(s *impl.Store) { s.Super.Snaps[0].Name = "new" }),
		"a snapshot of other root":  other(func(s *impl.Store) { s.Super.Snaps[0].Root = 5 }),
		"a snapshot of other tick":  other(func(s *impl.Store) { s.Super.Snaps[0].Tick = 257 }),
		"a snapshot more":           other(func(s *impl.Store) { s.Super.Snaps = append(s.Super.Snaps, snap("z", 5, 0)) }),
		"4097 snapshots":            other(func(s *impl.Store) { s.Super.Snaps = make([]impl.Snap, 4097) }),
		"49 nodes":                  other(func(s *impl.Store) { s.Heap.Nodes = s.Heap.Nodes[:49] }),
		"51 nodes":                  other(func(s *impl.Store) { s.Heap.Nodes = append(s.Heap.Nodes, impl.Node{}) }),
		"4097 nodes":                other(func(s *impl.Store) { s.Heap.Nodes = make([]impl.Node, 4097) }),
		"a node that is not read":   other(func(s *impl.Store) { s.Heap.Nodes[40] = leaf("x") }),
		"a wrong node elsewhere":    other(func(s *impl.Store) { s.Heap.Nodes[40] = impl.Node{Leaf: true} }),
		"a value of a pair":         other(func(s *impl.Store) { s.Heap.Nodes[9].Pairs[1].Value = "other" }),
		"a value of a snapshot's":   other(func(s *impl.Store) { s.Heap.Nodes[7].Pairs[1].Value = "other" }),
		"a pair less":               other(func(s *impl.Store) { s.Heap.Nodes[9].Pairs = s.Heap.Nodes[9].Pairs[:1] }),
		"kids in another order":     other(func(s *impl.Store) { slices.Reverse(s.Heap.Nodes[5].Kids) }),
		"another Least":             other(func(s *impl.Store) { s.Heap.Nodes[5].Least[1] = "b" }),
		"a leaf that is none":       other(func(s *impl.Store) { s.Heap.Nodes[9].Leaf = false }),
		"a page that is not there":  other(func(s *impl.Store) { s.Heap.Nodes[2] = impl.Node{} }),
		"a sector that is not read": other(func(s *impl.Store) { s.Disk.Sectors[2+9] = "waste" }),
		"a sector of other value":   other(func(s *impl.Store) { s.Disk.Sectors[2+9] = nodeText(leaf("a", "bb")) }),
		"a snapshot's sector":       other(func(s *impl.Store) { s.Disk.Sectors[2+7] = "" }),
		"no superblock on the disk": other(func(s *impl.Store) { s.Disk.Sectors[1] = "" }),
		"a higher one on the disk":  other(func(s *impl.Store) { s.Disk.Sectors[0] = superText(super(6, 5, snap("old", 6, 258))) }),
		"a lower one on the disk":   other(func(s *impl.Store) { s.Disk.Sectors[1] = superText(super(4, 5, snap("old", 6, 258))) }),
	}
}
