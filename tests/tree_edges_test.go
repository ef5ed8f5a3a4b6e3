package tests

import (
	"fmt"
	"math/rand"
	"slices"
	"testing"

	"loop.example/g00340/impl"
)

// pagesNeeded gives how many pages a change lays, those too that give way.
func pagesNeeded(h impl.Heap, root int, s step) int {
	b := &byHand{nodes: make([]impl.Node, 50), taken: map[int]bool{}}
	b.upwards(h, root, s.pair(), s.drop)
	return len(b.taken)
}

// Without a free page for one of the nodes nothing is done; with just as many
// as it needs the change is done, wherever they lie.
func TestNoFreePageForOneOfTheNodes(t *testing.T) {
	r := rand.New(rand.NewSource(13))
	needs := map[int]bool{}
	for what, row := range changes() {
		need := pagesNeeded(row.tree.h, row.tree.root, row.step)
		needs[need] = true
		bare := onlyReached(row.tree.h, append(slices.Clone(row.keep), row.tree.root)...)
		for have := range need + 2 {
			var free []int
			for _, page := range r.Perm(50) {
				if sameNode(bare.Nodes[page], impl.Node{}) && len(free) < have {
					free = append(free, page)
				}
			}
			h, keep := occupied(bare, free...)
			keep = append(keep, row.keep...)
			_, _, code := holdsStep(t, row.step, h, row.tree.root, keep)
			want := impl.OK
			if have < need {
				want = impl.ErrFull
			}
			mustCode(t, fmt.Sprintf("%s, %d pages of %d", what, have, need), code, want)
		}
	}
	for need := range 6 {
		if !needs[need] {
			t.Errorf("no change needs %d pages", need)
		}
	}
}

func onlyReached(h impl.Heap, roots ...int) impl.Heap {
	reached := pagesBelow(h, roots...)
	h = cloneHeap(h)
	for page := range h.Nodes {
		if !reached[page] {
			h.Nodes[page] = impl.Node{}
		}
	}
	return h
}

// The last pair of a tree goes without any page: none are laid of none.
func TestLastPairNeedsNoPage(t *testing.T) {
	h, keep := occupied(down(3))
	got, root, code := impl.TreeDrop(h, 0, keep, "k")
	mustChange(t, "the last pair", got, root, code, h, -1, impl.OK)
}

// The pages of the old tree are free only when it is let go.
func TestOldPagesAreFreeTheNextTime(t *testing.T) {
	bare := laidOn(map[int]impl.Node{0: leaf("a")})
	h, keep := occupied(bare, 1)
	h, root, code := impl.TreePut(h, 0, keep, "b", "=b")
	if root != 1 || code != impl.OK || !sameNode(h.Nodes[0], leaf("a")) {
		t.Fatalf("root %d, code %d, page 0 %v", root, code, h.Nodes[0])
	}
	got, again, code := impl.TreePut(h, 1, append(keep, 0), "c", "=c")
	mustChange(t, "the old tree is kept", got, again, code, h, 1, impl.ErrFull)
	got, again, code = impl.TreePut(h, 1, keep, "c", "=c")
	mustChange(t, "the old tree is let go", got, again, code, with(h, 0, leaf("a", "b", "c")), 0, impl.OK)
}

// The code of a heap without room is named ahead of that of a key which is not there.
func TestFullComesAheadOfNone(t *testing.T) {
	h, keep := occupied(two(), 0, 1)
	got, root, code := impl.TreeDrop(h, 5, keep, "bb")
	mustChange(t, "room", got, root, code, h, 5, impl.ErrNone)
	h, keep = occupied(two(), 0)
	got, root, code = impl.TreeDrop(h, 5, keep, "bb")
	mustChange(t, "no room", got, root, code, h, 5, impl.ErrFull)
	h, keep = occupied(impl.NewHeap())
	got, root, code = impl.TreeDrop(h, -1, keep, "bb")
	mustChange(t, "no room, no pairs", got, root, code, h, -1, impl.ErrNone)
}

func TestRootsInKeep(t *testing.T) {
	h := with(two(), 30, leaf("z"))
	for what, keep := range map[string][]int{
		"nil":              nil,
		"empty":            {},
		"no pairs":         {-1, -1},
		"the tree itself":  {5, 5},
		"a part of it":     {9},
		"another one":      {30},
		"19":               slices.Repeat([]int{30}, 19),
		"20":               slices.Repeat([]int{-1}, 20),
		"20, the last one": append(slices.Repeat([]int{-1}, 19), 30),
	} {
		for _, s := range []step{put("e"), drop("c"), drop("a")} {
			got, root, code := holdsStep(t, s, h, 5, keep)
			mustCode(t, what, code, impl.OK)
			if slices.Contains(keep, 30) != got.Nodes[30].Leaf || root == 5 {
				t.Errorf("%s: page 30 is %v, root %d", what, got.Nodes[30], root)
			}
		}
	}
}

func TestKeysAndValuesOfAllLengths(t *testing.T) {
	h, root := impl.NewHeap(), -1
	for n := 1; n <= 30; n++ {
		var code int
		h, root, code = impl.TreePut(h, root, nil, long(n), long(3*n))
		mustCode(t, "TreePut", code, impl.OK)
		if value, code := impl.TreeGet(h, root, long(n)); value != long(3*n) || code != impl.OK {
			t.Errorf("a key of %d bytes: %q, code %d", n, value, code)
		}
	}
	h, root, code := impl.TreePut(h, root, nil, "x", "")
	mustCode(t, "an empty value", code, impl.OK)
	if value, code := impl.TreeGet(h, root, "x"); value != "" || code != impl.OK {
		t.Errorf("an empty value: %q, code %d", value, code)
	}
}

// asked is a change with wrong arguments; drop takes those that have no value.
type asked struct {
	what       string
	h          impl.Heap
	root       int
	keep       []int
	key, value string
	want       int
}

// Each fault comes ahead of those behind it; with these all else is zero.
func TestOrderOfChangeCodes(t *testing.T) {
	full := ofPairs(60)
	noRoom, keep := occupied(two())
	wrong := make([]int, 21)
	for _, a := range []asked{
		{"keep too long", two(), 5, make([]int, 4097), "a", "", impl.ErrLong},
		{"keep too long, no heap, no key", impl.Heap{}, 5, make([]int, 4097), "", "", impl.ErrLong},
		{"a key too long", two(), 5, nil, long(65537), "", impl.ErrLong},
		{"a key too long, 21 in keep", two(), 5, wrong, long(65537), "", impl.ErrLong},
		{"a key too long, a wrong tree", two(), 0, nil, long(65537), "", impl.ErrLong},
		{"a value too long", two(), 5, nil, "a", long(65537), impl.ErrLong},
		{"a value too long, 21 in keep, no heap", impl.Heap{}, 5, wrong, "", long(65537), impl.ErrLong},
		{"MaxList in keep", two(), 5, slices.Repeat([]int{5}, 4096), "a", "", impl.ErrMany},
		{"21 in keep", two(), 5, slices.Repeat([]int{-1}, 21), "a", "", impl.ErrMany},
		{"21 in keep, of the tree", two(), 5, slices.Repeat([]int{5}, 21), "a", "", impl.ErrMany},
		{"21 wrong ones in keep, no key", impl.Heap{}, 7, wrong, "", long(91), impl.ErrMany},
		{"21 in keep, a wrong root", two(), 7, slices.Repeat([]int{5}, 21), "a", "", impl.ErrMany},
		{"20 wrong ones in keep", two(), 5, make([]int, 20), "a", "", impl.ErrBad},
		{"a wrong root, no key", two(), 7, nil, "", "", impl.ErrBad},
		{"a wrong root, a key of MaxText bytes", two(), 7, nil, long(65536), "", impl.ErrBad},
		{"a wrong root, a value of 91 bytes", two(), 7, nil, "a", long(91), impl.ErrBad},
		{"a wrong one in keep, no key", two(), 5, []int{5, 9, 7}, "", "", impl.ErrBad},
		{"a wrong one in keep, a right one behind", two(), 5, []int{7, 9}, "a", "", impl.ErrBad},
		{"page 50 in keep", two(), 5, []int{50}, "a", "", impl.ErrBad},
		{"page -2 in keep", two(), 5, []int{-2}, "a", "", impl.ErrBad},
		{"61 pairs", ofPairs(61), 49, nil, "a", "", impl.ErrBad},
		{"21 below", down(21), 0, nil, "k", "", impl.ErrBad},
		{"no key", two(), 5, nil, "", "", impl.ErrRange},
		{"a key of 31 bytes", two(), 5, nil, long(31), "", impl.ErrRange},
		{"a key of MaxText bytes", two(), 5, slices.Repeat([]int{5}, 20), long(65536), "", impl.ErrRange},
		{"no key, no pairs", two(), -1, nil, "", "", impl.ErrRange},
		{"no key, no room", noRoom, 5, keep, "", "", impl.ErrRange},
		{"a key of 31 bytes, 60 pairs", full, 49, nil, long(31), "", impl.ErrRange},
		{"a value of 91 bytes", two(), 5, nil, "a", long(91), impl.ErrRange},
		{"a value of MaxText bytes", two(), 5, nil, "a", long(65536), impl.ErrRange},
		{"a value of 91 bytes, no room", noRoom, 5, keep, "a", long(91), impl.ErrRange},
		{"a value of 91 bytes, 60 pairs", full, 49, nil, "z", long(91), impl.ErrRange},
	} {
		got, root, code := impl.TreePut(a.h, a.root, a.keep, a.key, a.value)
		mustChange(t, "TreePut, "+a.what, got, root, code, impl.Heap{}, 0, a.want)
		if a.value == "" {
			got, root, code = impl.TreeDrop(a.h, a.root, a.keep, a.key)
			mustChange(t, "TreeDrop, "+a.what, got, root, code, impl.Heap{}, 0, a.want)
		}
	}
}

// A wrong tree is refused as the one to change and as one to keep.
func TestWrongTreesAreNotChanged(t *testing.T) {
	for what, tree := range wrongTrees() {
		for _, keep := range [][]int{nil, {-1}, {tree.root}} {
			got, root, code := impl.TreePut(tree.h, tree.root, keep, "a", "v")
			mustChange(t, "TreePut, "+what, got, root, code, impl.Heap{}, 0, impl.ErrBad)
			got, root, code = impl.TreeDrop(tree.h, tree.root, keep, "a")
			mustChange(t, "TreeDrop, "+what, got, root, code, impl.Heap{}, 0, impl.ErrBad)
		}
		for _, keep := range [][]int{{tree.root}, {-1, tree.root}, append(slices.Repeat([]int{-1}, 19), tree.root)} {
			got, root, code := impl.TreePut(tree.h, -1, keep, "a", "v")
			mustChange(t, "TreePut, keep: "+what, got, root, code, impl.Heap{}, 0, impl.ErrBad)
			got, root, code = impl.TreeDrop(tree.h, -1, keep, "a")
			mustChange(t, "TreeDrop, keep: "+what, got, root, code, impl.Heap{}, 0, impl.ErrBad)
		}
	}
}

// Each right tree takes each change, as the one to change and beside others.
func TestRightTreesAreChanged(t *testing.T) {
	for what, tree := range rightTrees() {
		pairs := pairsBelow(tree.h, tree.root)
		steps := []step{put("\x00"), put("c"), put("k0030x"), put("\xff"), put(long(30)), drop("\x00"), drop("\xff")}
		for _, p := range pairs {
			steps = append(steps, put(p.Key), drop(p.Key))
		}
		for _, s := range steps {
			for _, keep := range [][]int{nil, {tree.root}, {-1}} {
				if _, _, code := holdsStep(t, s, tree.h, tree.root, keep); code == impl.ErrBad || code == impl.ErrRange {
					t.Errorf("%s, %s: code %d", s, what, code)
				}
			}
			holdsStep(t, s, tree.h, -1, []int{tree.root})
		}
	}
}
