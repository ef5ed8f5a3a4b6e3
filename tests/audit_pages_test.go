package tests

import (
	"fmt"
	"math/rand"
	"testing"

	"loop.example/g00340/impl"
)

// How many pages several trees of these stores reach, counted by eye.
func TestPagesShared(t *testing.T) {
	mustShare(t, "NewStore", impl.NewStore(), 0)
	counts := map[string]int{
		"new": 0, "no pairs, the second": 0, "a leaf": 0, "a leaf on the last page": 0, "two leaves": 0, "20 below the root": 0, "60 pairs": 0, "all pages": 0, "MaxGen": 0, "armed": 0,
		"a snapshot of the tree": 3, "a snapshot of no pairs": 0, "a snapshot alone": 0, "a snapshot of a leaf": 1, "trees that share a leaf": 1, "MaxSnaps": 4, "MaxSnaps of one": 3,
		"armed with Keep": 1, "no free page": 0, "waste on a page": 0, "a node on a page": 0,
	}
	stores := rightStores()
	for what, want := range counts {
		mustShare(t, what, stores[what], want)
	}
	for what, s := range stores {
		mustShare(t, what, s, sharedByHand(s))
	}
}

// Pages are counted once, however many trees reach them, whichever trees these
// are, and on the first page and the last one too.
func TestPagesThatSeveralReach(t *testing.T) {
	h := twoTrees()
	for what, a := range map[string]struct {
		root  int
		snaps []int
		want  int
	}{
		"no tree at all":                  {-1, []int{-1, -1, -1, -1}, 0},
		"a tree alone":                    {5, nil, 0},
		"its own":                         {5, []int{5}, 3},
		"its own twice":                   {5, []int{5, 5}, 3},
		"its own four times":              {5, []int{5, 5, 5, 5}, 3},
		"another":                         {5, []int{6}, 1},
		"another twice":                   {5, []int{6, 6}, 3},
		"another and its own":             {5, []int{6, 5}, 3},
		"both twice":                      {5, []int{6, 5, 6}, 5},
		"a leaf of three trees":           {5, []int{6, 9}, 1},
		"a leaf of five trees":            {5, []int{6, 9, 9, 9}, 1},
		"snapshots without the tree":      {-1, []int{5, 6}, 1},
		"alike snapshots, without it":     {-1, []int{5, 5}, 3},
		"one snapshot alone":              {-1, []int{5}, 0},
		"the last two of four":            {-1, []int{-1, -1, 6, 6}, 3},
		"the first and the last":          {-1, []int{6, -1, 2, 9}, 1},
		"leaves of two trees":             {5, []int{7, 2}, 1},
		"leaves of three trees":           {5, []int{6, 7, 2}, 3},
		"leaves that have nothing alike":  {9, []int{7, 2}, 0},
		"a tree of a leaf of a snapshot":  {9, []int{5}, 1},
		"a tree of a leaf of two of them": {9, []int{5, 6}, 1},
	} {
		next := super(9, a.root)
		for i, root := range a.snaps {
			next.Snaps = append(next.Snaps, snap(fmt.Sprint("s", i), root, i))
		}
		mustShare(t, what, stored(next, h), a.want)
	}
	for _, page := range []int{0, 1, 31, 32, 33, 48, 49} {
		s := stored(super(1, page, snap("a", page, 0)), laidOn(map[int]impl.Node{page: leaf("a")}))
		mustShare(t, fmt.Sprint("page ", page), s, 1)
	}
	mustShare(t, "all pages", stored(super(3, 0, snap("a", 0, 0)), all50()), 50)
	mustShare(t, "all but the root", stored(super(3, 0, snap("a", all50().Nodes[0].Kids[0], 0)), all50()), len(pagesBelow(all50(), all50().Nodes[0].Kids[0])))
}

// Two trees without a page in common share none, though their pairs are alike.
func TestAlikeTreesOnOtherPages(t *testing.T) {
	s := packed(town(), old{"a", 0, town()}, old{"b", 0, town()}).Store
	mustShare(t, "alike trees", s, 0)
	mustRefsHold(t, "alike trees", s)
}

// A snapshot takes the tree's own pages; a tree that moves on leaves them one
// by one, and comes to share none.
func TestPagesSharedMoveOn(t *testing.T) {
	list := manyPairs(9)
	put := func(s impl.Store, list []impl.Pair) impl.Store {
		s, _, code := impl.PutPairs(s, list)
		mustCode(t, "PutPairs", code, impl.OK)
		return s
	}
	s := put(impl.NewStore(), list)
	mustShare(t, "no snapshot", s, 0)
	pages := len(pagesBelow(s.Heap, s.Super.Root))
	s, _, _ = impl.TakeSnap(s, "one", 1)
	mustShare(t, "a snapshot", s, pages)
	s, _, _ = impl.TakeSnap(s, "two", 1)
	mustShare(t, "two snapshots", s, pages)
	shared := pages
	for i := range list {
		list[i].Value += "x"
		s = put(s, list)
		n := sharedByHand(s)
		mustShare(t, "moving on", s, pages)
		mustRefsHold(t, "moving on", s)
		one, _, code := impl.DropSnap(s, "two")
		mustCode(t, "DropSnap", code, impl.OK)
		if n = sharedByHand(one); n > shared {
			t.Errorf("change %d: %d pages are shared, there were %d", i, n, shared)
		}
		shared = n
		mustShare(t, "one snapshot", one, shared)
		mustRefsHold(t, "one snapshot", one)
	}
	if shared != 0 {
		t.Errorf("at the end %d pages are shared", shared)
	}
	s, _, _ = impl.PruneSnaps(s, 2)
	mustShare(t, "pruned", s, 0)
	mustRefsHold(t, "pruned", s)
}

// Of a right store no page that is not free can be without one that leads to
// it, whatever the disk has on its other sectors.
func TestRefsHold(t *testing.T) {
	mustRefsHold(t, "NewStore", impl.NewStore())
	for what, s := range rightStores() {
		mustRefsHold(t, what, s)
	}
	for what, s := range rightServers() {
		if s.Up {
			mustRefsHold(t, "server: "+what, s.Store)
			mustShare(t, "server: "+what, s.Store, sharedByHand(s.Store))
		}
	}
}

// A store that is not right is ErrBad: one with a page that nothing leads to,
// or without one that something leads to, is none.
func TestAuditsOfWrongStores(t *testing.T) {
	stores := wrongStores()
	leaks := cloneStore(grownTown().Store)
	leaks.Heap.Nodes[49] = leaf("a")
	stores["a page that leaks"] = leaks
	gone := cloneStore(grownTown().Store)
	gone.Heap.Nodes[gone.Super.Root] = impl.Node{}
	stores["a page that is gone"] = gone
	for what, s := range stores {
		n, code := impl.PagesShared(s)
		mustCode(t, what, code, impl.ErrBad)
		ok, refs := impl.RefsHold(s)
		mustCode(t, what, refs, impl.ErrBad)
		if n != 0 || ok {
			t.Errorf("%s: %d pages, %t", what, n, ok)
		}
	}
	for what, s := range rightServers() {
		if !s.Up {
			_, code := impl.PagesShared(s.Store)
			mustCode(t, "not Up: "+what, code, impl.ErrBad)
			_, code = impl.RefsHold(s.Store)
			mustCode(t, "not Up: "+what, code, impl.ErrBad)
		}
	}
}

// Runs of puts, of snapshots that are taken, dropped and pruned, and of power
// that goes: no page leaks, and what is shared is what is counted by hand.
func TestRunsOfAudits(t *testing.T) {
	r := rand.New(rand.NewSource(130))
	most := 0
	for range 40 {
		run := &snapRun{storeRun{s: impl.NewStore(), snaps: map[string][]impl.Pair{}}, map[string]int{}}
		for range 60 {
			if r.Intn(6) == 0 {
				run.s = armed(run.s, someKeep(r)...)
			}
			if r.Intn(2) == 0 {
				run.call(t, r)
			} else {
				run.put(t, r)
			}
			if r.Intn(4) == 0 {
				run.s, _ = impl.OpenStore(run.s.Disk)
			}
			n := sharedByHand(run.s)
			most = max(most, n)
			mustShare(t, "a run", run.s, n)
			mustRefsHold(t, "a run", run.s)
			free, _ := impl.FreePages(run.s)
			if used := len(pagesBelow(run.s.Heap, run.s.Super.Root)); len(run.s.Super.Snaps) == 0 && (n != 0 || used != 50-free) {
				t.Errorf("without snapshots: %d pages are shared, %d used, %d free", n, used, free)
			}
			if t.Failed() {
				return
			}
		}
	}
	if most < 8 {
		t.Errorf("at most %d pages were shared", most)
	}
}
