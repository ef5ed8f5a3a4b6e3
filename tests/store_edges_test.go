package tests

import (
	"fmt"
	"math"
	"testing"

	"loop.example/g00340/impl"
)

// dueWith gives what stands beside a code: nothing and false, or the store as
// it was and true.
func dueWith(s impl.Store, code int) (impl.Store, bool) {
	if code == impl.ErrLong || code == impl.ErrBad {
		return impl.Store{}, false
	}
	return s, true
}

// Each fault comes ahead of those behind it: too long, not right, a page that
// is another one, the last Gen.
func TestOrderOfCommitCodes(t *testing.T) {
	right, last := stored(super(4, 5), two()), stored(super(200, 5), two())
	wrong := wrongStores()["another Gen"]
	other := with(two(), 9, leaf("a", "bb"))
	many := make([]impl.Snap, 4097)
	for _, row := range []struct {
		what  string
		s     impl.Store
		h     impl.Heap
		root  int
		snaps []impl.Snap
		want  int
	}{
		{"4097 snapshots", right, two(), 5, many, impl.ErrLong},
		{"4097 snapshots of no store", impl.Store{}, impl.Heap{}, 50, many, impl.ErrLong},
		{"4097 snapshots at MaxGen", last, other, 5, many, impl.ErrLong},
		{"4096 snapshots", right, two(), 5, many[:4096], impl.ErrBad},
		{"5 snapshots", right, two(), 5, many[:5], impl.ErrBad},
		{"no store, the last Gen", impl.Store{Super: super(200, -1)}, two(), 5, nil, impl.ErrBad},
		{"a wrong store, another page", wrong, other, 5, nil, impl.ErrBad},
		{"a wrong root, another page", right, other, 0, nil, impl.ErrBad},
		{"a wrong root at MaxGen", last, two(), 0, nil, impl.ErrBad},
		{"a wrong snapshot at MaxGen", last, two(), 5, []impl.Snap{snap("", 5, 0)}, impl.ErrBad},
		{"a snapshot's wrong root at MaxGen", last, two(), 5, []impl.Snap{snap("a", 0, 0)}, impl.ErrBad},
		{"another page, and a wrong snapshot", right, other, 5, []impl.Snap{snap("a", 5, 60001)}, impl.ErrBad},
		{"another page", right, other, 5, nil, impl.ErrRoot},
		{"another page at MaxGen", last, other, 5, nil, impl.ErrRoot},
		{"another page that is let go", right, other, -1, nil, impl.ErrRoot},
		{"MaxGen", last, two(), 5, nil, impl.ErrMany},
		{"MaxGen and nothing", last, two(), -1, nil, impl.ErrMany},
		{"MaxGen and new pages", last, twoTrees(), 6, []impl.Snap{snap("a", 5, 1)}, impl.ErrMany},
	} {
		for _, keep := range [][]int{nil, {1, 1}} {
			s := row.s
			if keep != nil && len(s.Disk.Sectors) > 0 {
				s = armed(s, keep...)
			}
			want, alive := dueWith(s, row.want)
			got, gotAlive, code := impl.CommitRoot(s, row.h, row.root, row.snaps)
			mustCommit(t, row.what, got, gotAlive, code, want, alive, row.want)
		}
	}
}

func TestOrderOfPutCodes(t *testing.T) {
	right, last, full := stored(super(4, 5), two()), stored(super(200, 5), two()), rightStores()["no free page"]
	fullLast := cloneStore(full)
	fullLast.Super.Gen = 200
	fullLast.Disk.Sectors[0] = superText(fullLast.Super)
	for _, row := range []struct {
		what string
		s    impl.Store
		list []impl.Pair
		want int
	}{
		{"4097 pairs", right, manyPairs(4097), impl.ErrLong},
		{"4097 pairs, no store", impl.Store{}, make([]impl.Pair, 4097), impl.ErrLong},
		{"4097 pairs at MaxGen", last, manyPairs(4097), impl.ErrLong},
		{"4096 pairs", right, manyPairs(4096), impl.ErrBad},
		{"61 pairs", right, manyPairs(61), impl.ErrBad},
		{"61 pairs at MaxGen", last, manyPairs(61), impl.ErrBad},
		{"61 pairs, no room", full, manyPairs(61), impl.ErrBad},
		{"wrong pairs at MaxGen, no room", fullLast, keyed("b", "a"), impl.ErrBad},
		{"MaxGen", last, keyed("x"), impl.ErrMany},
		{"MaxGen, what is there", last, keyed("a", "b", "c", "d"), impl.ErrMany},
		{"MaxGen, no room", fullLast, keyed("x"), impl.ErrMany},
		{"no room for a put", full, keyed("a", "b", "c", "d", "e"), impl.ErrFull},
		{"no room for a value", full, []impl.Pair{{Key: "a"}, {Key: "b", Value: "=b"}, {Key: "c", Value: "=c"}, {Key: "d", Value: "=d"}}, impl.ErrFull},
		{"no room for a drop", full, keyed("a", "b", "c"), impl.ErrFull},
		{"no room for the drop of all", full, nil, impl.ErrFull},
	} {
		for _, keep := range [][]int{nil, {1, 1}} {
			s := row.s
			if keep != nil && len(s.Disk.Sectors) > 0 {
				s = armed(s, keep...)
			}
			want, alive := dueWith(s, row.want)
			got, gotAlive, code := impl.PutPairs(s, row.list)
			mustCommit(t, row.what, got, gotAlive, code, want, alive, row.want)
		}
	}
	for i, list := range wrongPairs() {
		got, alive, code := impl.PutPairs(right, list)
		mustCommit(t, fmt.Sprintf("wrong pairs %v", i), got, alive, code, impl.Store{}, false, impl.ErrBad)
	}
}

// What needs no page is done without a free one.
func TestPutWithoutAFreePage(t *testing.T) {
	full := rightStores()["no free page"]
	got, alive, code := impl.PutPairs(full, keyed("a", "b", "c", "d"))
	want, _ := commitByHand(full, full.Heap, 5, full.Super.Snaps)
	mustCommit(t, "what is there", got, alive, code, want, true, impl.OK)
	h, keep := occupied(laidOn(map[int]impl.Node{0: leaf("a")}))
	one := stored(super(6, 0, snap("a", keep[0], 0), snap("b", keep[1], 0), snap("c", keep[2], 0)), h)
	got, alive, code = impl.PutPairs(one, nil)
	want, _ = commitByHand(one, h, -1, one.Super.Snaps)
	mustCommit(t, "the last pair dropped", got, alive, code, want, true, impl.OK)
	if free, _ := impl.FreePages(got); free != 1 {
		t.Errorf("%d free pages", free)
	}
}

// The pages of the old tree are held till the commit is done, those of the
// trees between are not.
func TestOldPagesAreHeldTillTheCommit(t *testing.T) {
	h, keep := occupied(laidOn(map[int]impl.Node{0: leaf("a")}), 1, 2)
	s := stored(super(6, 0, snap("a", keep[0], 0), snap("b", keep[1], 0), snap("c", keep[2], 0)), h)
	got, alive, code := impl.PutPairs(s, keyed("a", "b", "c"))
	want, _, _ := putByHand(s, keyed("a", "b", "c"))
	mustCommit(t, "two puts by two pages", got, alive, code, want, true, impl.OK)
	mustSuper(t, "two puts by two pages", got.Super, super(7, 2, s.Super.Snaps...))
	got, alive, code = impl.PutPairs(s, keyed("a", "b", "c", "d"))
	mustCommit(t, "a leaf that parts", got, alive, code, s, true, impl.ErrFull)
	h, keep = occupied(laidOn(map[int]impl.Node{0: leaf("a")}), 1)
	s = stored(super(6, 0, snap("a", keep[0], 0), snap("b", keep[1], 0), snap("c", keep[2], 0)), h)
	got, alive, code = impl.PutPairs(s, keyed("a", "b", "c"))
	mustCommit(t, "two puts by one page", got, alive, code, s, true, impl.ErrFull)
}

// One change without room is enough, whether those behind it have room or not.
func TestOneFullChangeIsEnough(t *testing.T) {
	bare := laidOn(map[int]impl.Node{0: inner(kid{1, "a"}, kid{2, "m"}, kid{3, "x"}), 1: leaf("a", "b", "c"), 2: leaf("m"), 3: leaf("x", "y", "z")})
	h, keep := occupied(bare, 10, 20)
	s := stored(super(6, 0, snap("a", keep[0], 0), snap("b", keep[1], 0), snap("c", keep[2], 0)), h)
	for what, list := range map[string][]impl.Pair{
		"the first":           keyed("a", "aa", "b", "c", "m", "n", "x", "y", "z"),
		"the last":            keyed("a", "b", "c", "m", "n", "x", "xx", "y", "z"),
		"the put of a drop's": keyed("a", "aa", "b", "c", "m", "x", "y"),
	} {
		got, alive, code := impl.PutPairs(s, list)
		mustCommit(t, what, got, alive, code, s, true, impl.ErrFull)
	}
	_, _, code := impl.PutPairs(s, keyed("a", "b", "c", "m", "n", "x", "y", "z"))
	mustCode(t, "the one that has room", code, impl.OK)
}

// A drop makes room for a put: of 60 pairs one may come in another's place.
func TestOtherKeysInPlaceOfAll(t *testing.T) {
	s, _, _ := impl.PutPairs(impl.NewStore(), manyPairs(20))
	list := manyPairs(40)[20:]
	got, alive, code := impl.PutPairs(s, list)
	want, _, _ := putByHand(s, list)
	mustCommit(t, "20 other keys", got, alive, code, want, true, impl.OK)
	s = rightStores()["60 pairs"]
	list = append(manyPairs(59), impl.Pair{Key: "z", Value: "last"})
	got, alive, code = impl.PutPairs(s, list)
	want, _, _ = putByHand(s, list)
	mustCommit(t, "another key of 60", got, alive, code, want, true, impl.OK)
	pairs, _ := impl.StorePairs(got)
	mustPairs(t, "another key of 60", pairs, list)
}

// deepStore has a part 20 below its root, and a leaf beside it that parts the
// root: what comes of a put there is no right tree any more.
func deepStore() impl.Store {
	h := laidOn(map[int]impl.Node{0: inner(kid{1, "a"}, kid{2, "d"}, kid{3, "e"}, kid{10, "f"}), 1: leaf("a", "b", "c"), 2: leaf("d"), 3: leaf("e")})
	var pages []int
	for page := 10; page < 30; page++ {
		pages = append(pages, page)
	}
	chain(h, "f", pages...)
	return stored(super(4, 0), h)
}

func TestTreesTooDeepToCommit(t *testing.T) {
	s := deepStore()
	mustAsk(t, "20 below", s)
	for _, list := range [][]impl.Pair{keyed("a", "aa", "b", "c", "d", "e", "f"), keyed("a", "aa", "b", "c", "d", "e", "f", "g")} {
		got, alive, code := impl.PutPairs(s, list)
		mustCommit(t, "21 below", got, alive, code, impl.Store{}, false, impl.ErrBad)
	}
	got, _, code := impl.PutPairs(s, keyed("a", "b", "c", "d", "dd", "e", "f"))
	mustCode(t, "20 below still", code, impl.OK)
	mustAsk(t, "20 below still", got)
}

// CommitRoot asks the new superblock and its trees by their chapter's rules.
func TestCommitRefuses(t *testing.T) {
	base := stored(super(4, 5), two())
	refuse := func(what string, h impl.Heap, root int, snaps ...impl.Snap) {
		t.Helper()
		for _, s := range []impl.Store{base, armed(base, 1)} {
			got, alive, code := impl.CommitRoot(s, h, root, snaps)
			mustCommit(t, what, got, alive, code, impl.Store{}, false, impl.ErrBad)
		}
	}
	for what, s := range wrongSupers() {
		if s.Gen >= 0 && s.Gen <= 200 && len(s.Snaps) <= 4096 {
			refuse(what, twoTrees(), s.Root, s.Snaps...)
		}
	}
	for _, root := range []int{-2, 0, 49, 50, math.MinInt, math.MaxInt} {
		refuse("a root that is none", two(), root)
		refuse("a snapshot that is none", two(), 5, snap("a", 5, 0), snap("b", root, 0))
	}
	for what, tree := range wrongTrees() {
		refuse(what, tree.h, tree.root)
		refuse("of a snapshot: "+what, tree.h, -1, snap("a", tree.root, 0))
	}
}

// A page that the store reaches has to be in the heap as it is, whether a new
// tree reaches it or not.
func TestPagesThatMustStay(t *testing.T) {
	base := stored(super(5, 5, snap("old", 6, 258)), twoTrees())
	for what, h := range map[string]impl.Heap{
		"the root's value":      with(twoTrees(), 9, leaf("a", "bb")),
		"a snapshot's leaf":     with(twoTrees(), 7, leaf("cc", "f")),
		"a snapshot's root":     with(twoTrees(), 6, inner(kid{9, "a"})),
		"a free page":           with(twoTrees(), 7, impl.Node{}),
		"a free page of a root": with(twoTrees(), 6, impl.Node{}),
		"a wrong node":          with(twoTrees(), 7, impl.Node{Leaf: true}),
		"all pages free":        laidOn(nil),
		"a pair more":           with(twoTrees(), 7, leaf("cc", "e", "f")),
		"an inner one":          with(twoTrees(), 7, inner(kid{9, "a"})),
	} {
		for _, s := range []impl.Store{base, armed(base, 1, 1)} {
			got, alive, code := impl.CommitRoot(s, h, -1, nil)
			mustCommit(t, what, got, alive, code, s, true, impl.ErrRoot)
		}
	}
	whole := stored(super(3, 0), all50())
	for page := range 50 {
		got, alive, code := impl.CommitRoot(whole, with(all50(), page, impl.Node{}), -1, nil)
		mustCommit(t, fmt.Sprintf("page %d of all", page), got, alive, code, whole, true, impl.ErrRoot)
	}
	for what, h := range map[string]impl.Heap{
		"as it was":      twoTrees(),
		"other pages":    with(with(twoTrees(), 0, leaf("x")), 49, impl.Node{Leaf: true}),
		"of empty lists": with(twoTrees(), 7, impl.Node{Leaf: true, Pairs: keyed("cc", "e"), Least: []string{}, Kids: []int{}}),
	} {
		got, alive, code := impl.CommitRoot(base, h, 5, nil)
		want, _ := commitByHand(base, twoTrees(), 5, nil)
		mustCommit(t, what, got, alive, code, want, true, impl.OK)
	}
}

// All Gens, from the first to the last.
func TestAllGens(t *testing.T) {
	s := impl.NewStore()
	for gen := 1; gen <= 200; gen++ {
		list := manyPairs(gen % 5)
		was := s
		var alive bool
		var code int
		s, alive, code = impl.PutPairs(s, list)
		if code != impl.OK || !alive || s.Super.Gen != gen {
			t.Fatalf("Gen %d: %v, %t, code %d", gen, s.Super, alive, code)
		}
		if s.Disk.Sectors[gen%2] != superText(s.Super) || s.Disk.Sectors[1-gen%2] != was.Disk.Sectors[1-gen%2] {
			t.Fatalf("Gen %d: superblocks %q", gen, s.Disk.Sectors[:2])
		}
	}
	mustAsk(t, "MaxGen", s)
	got, alive, code := impl.PutPairs(s, nil)
	mustCommit(t, "behind MaxGen", got, alive, code, s, true, impl.ErrMany)
	got, alive, code = impl.CommitRoot(s, s.Heap, -1, nil)
	mustCommit(t, "behind MaxGen", got, alive, code, s, true, impl.ErrMany)
}

// An empty list and nil are the same value in a store too.
func TestEmptyIsNilInAStore(t *testing.T) {
	of := stored(super(4, 5), two())
	empty := cloneStore(of)
	empty.Disk.Cache, empty.Disk.Keep, empty.Super.Snaps = []impl.Pending{}, []int{}, []impl.Snap{}
	for page, n := range empty.Heap.Nodes {
		if len(n.Pairs) == 0 {
			empty.Heap.Nodes[page].Pairs = []impl.Pair{}
		}
		if len(n.Kids) == 0 {
			empty.Heap.Nodes[page].Kids, empty.Heap.Nodes[page].Least = []int{}, []string{}
		}
	}
	first, second := askStore(of, of.Heap, 5, nil, nil, nil), askStore(empty, empty.Heap, 5, []impl.Snap{}, []impl.Pair{}, []byte{})
	if first != second {
		t.Errorf("%.900s\nof nil, of empty lists\n%.900s", first, second)
	}
}
