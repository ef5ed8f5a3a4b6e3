package tests

import (
	"fmt"
	"math/rand"
	"slices"
	"testing"

	"loop.example/g00340/impl"
)

// choices gives all lists of n noughts and ones, or some of many.
func choices(r *rand.Rand, n int) [][]int {
	var all [][]int
	if n > 8 {
		for range 200 {
			keep := make([]int, n)
			for i := range keep {
				keep[i] = r.Intn(2)
			}
			all = append(all, keep)
		}
		return append(all, make([]int, n), slices.Repeat([]int{1}, n))
	}
	for bits := range 1 << n {
		keep := make([]int, n)
		for i := range keep {
			keep[i] = bits >> i & 1
		}
		all = append(all, keep)
	}
	return all
}

// The pages are written by their numbers, and nothing else ahead of the first
// sync: the number of Keep that is not 0 tells which one is kept.
func TestOrderOfWrites(t *testing.T) {
	s := stored(super(4, 5), two())
	h := with(with(two(), 0, leaf("x")), 49, leaf("z"))
	h.Nodes[10] = inner(kid{49, "z"})
	h.Nodes[3] = leaf("snap")
	snaps := []impl.Snap{snap("a", 3, 0), snap("b", 0, 0)}
	for i, page := range []int{0, 3, 10, 49} {
		keep := make([]int, 10)
		keep[i] = 1
		got, alive, code := impl.CommitRoot(armed(s, keep...), h, 10, snaps)
		want := withSector(s, 2+page, nodeText(h.Nodes[page]))
		mustCommit(t, fmt.Sprintf("write %d", i), got, alive, code, want, false, impl.OK)
	}
	got, alive, code := impl.CommitRoot(armed(s, 0, 0, 0, 0, 1, 1, 1, 1), h, 10, snaps)
	mustCommit(t, "no write behind the pages", got, alive, code, s, false, impl.OK)
	got, alive, code = impl.CommitRoot(armed(s, 1, 1, 1, 1), h, 10, snaps)
	want := cloneStore(s)
	want.Disk.Sectors = doneOn(s.Disk.Sectors, write(2, nodeText(h.Nodes[0])), write(5, nodeText(h.Nodes[3])), write(12, nodeText(h.Nodes[10])), write(51, nodeText(h.Nodes[49])))
	mustCommit(t, "all pages and no superblock", got, alive, code, want, false, impl.OK)
}

// A commit without new pages syncs twice too: the power goes ahead of the
// superblock.
func TestPowerGoesWithoutPages(t *testing.T) {
	s := stored(super(4, 5), two())
	for _, keep := range [][]int{nil, {0}, {1}, {1, 1, 1}, slices.Repeat([]int{1}, 500)} {
		got, alive, code := impl.CommitRoot(armed(s, keep...), two(), 5, []impl.Snap{snap("a", 5, 0)})
		mustCommit(t, "CommitRoot", got, alive, code, s, false, impl.OK)
		got, alive, code = impl.PutPairs(armed(s, keep...), keyed("a", "b", "c", "d"))
		mustCommit(t, "PutPairs of what is there", got, alive, code, s, false, impl.OK)
		got, alive, code = impl.PutPairs(armed(s, keep...), nil)
		mustCommit(t, "PutPairs of nothing", got, alive, code, s, false, impl.OK)
	}
}

// The power goes at the first sync: whatever is kept of the pages, the store
// that is opened is the one ahead of the commit, and takes the commit then.
func TestPowerGoesAtThePages(t *testing.T) {
	r := rand.New(rand.NewSource(17))
	for what, row := range commits() {
		writes := pageWrites(row.s, row.h, row.want.Super)
		for _, keep := range choices(r, len(writes)+1) {
			got, alive, code := impl.CommitRoot(armed(row.s, keep...), row.h, row.root, row.snaps)
			want, _ := commitByHand(armed(row.s, keep...), row.h, row.root, row.snaps)
			mustCommit(t, what, got, alive, code, want, false, impl.OK)
			mustOpen(t, what, got.Disk, row.s)
			mustAsk(t, what, got)
			again, alive, code := impl.CommitRoot(got, row.h, row.root, row.snaps)
			mustCommit(t, what+", again", again, alive, code, row.want, true, impl.OK)
		}
	}
}

func TestPowerGoesAtAPut(t *testing.T) {
	t.Parallel()
	r := rand.New(rand.NewSource(18))
	for _, of := range []string{"new", "two leaves", "trees that share a leaf", "MaxSnaps", "one below MaxGen"} {
		s := rightStores()[of]
		for what, list := range puts() {
			done, _, _ := putByHand(s, list)
			for _, keep := range choices(r, len(pageWrites(s, done.Heap, done.Super))) {
				got, alive, code := impl.PutPairs(armed(s, keep...), list)
				want, _, _ := putByHand(armed(s, keep...), list)
				mustCommit(t, what+" into "+of, got, alive, code, want, false, impl.OK)
				mustOpen(t, what+" into "+of, got.Disk, s)
				again, alive, code := impl.PutPairs(got, list)
				mustCode(t, what+" into "+of+", again", code, impl.OK)
				mustHeap(t, what+" into "+of+", again", again.Heap, done.Heap)
				mustSuper(t, what+" into "+of+", again", again.Super, done.Super)
				if !alive {
					t.Errorf("%s into %s: the power went again", what, of)
				}
			}
			if t.Failed() {
				return
			}
		}
	}
}

// mustTurnAtTheSuperblock lets the power go at the second sync of the commit
// that leads from s to done. No call has a way to be armed there: its writes
// are done by hand. The store is opened as it was ahead of the commit if the
// superblock is lost, as it is behind it if that is kept.
func mustTurnAtTheSuperblock(t *testing.T, what string, s, done impl.Store) {
	t.Helper()
	d := impl.Disk{Sectors: doneOn(s.Disk.Sectors, pageWrites(s, done.Heap, done.Super)...)}
	mustOpen(t, what+", the pages sure", d, s)
	d, code := impl.DiskWrite(d, done.Super.Gen%2, superText(done.Super))
	mustCode(t, what, code, impl.OK)
	for _, keep := range [][]int{nil, {0}, {0, 1}} {
		crash, code := impl.DiskCrash(d, keep)
		mustCode(t, what, code, impl.OK)
		mustOpen(t, what+", the superblock lost", crash, s)
	}
	crash, code := impl.DiskCrash(d, []int{1})
	mustCode(t, what, code, impl.OK)
	mustOpen(t, what+", the superblock kept", crash, done)
	mustDisk(t, what+", the superblock kept", crash, done.Disk)
}

func TestPowerGoesAtTheSuperblock(t *testing.T) {
	for what, row := range commits() {
		got, _, _ := impl.CommitRoot(row.s, row.h, row.root, row.snaps)
		mustTurnAtTheSuperblock(t, what, row.s, got)
	}
	for what, s := range rightStores() {
		if s.Disk.Armed || s.Super.Gen == 200 {
			continue
		}
		for of, list := range puts() {
			if got, _, code := impl.PutPairs(s, list); code == impl.OK {
				mustTurnAtTheSuperblock(t, of+" into "+what, s, got)
			}
		}
	}
}

// Without the newest superblock the store ahead of the commit is opened, as
// long as its pages are there: the next commit alone may take them.
func TestTheSuperblockAheadStays(t *testing.T) {
	s := impl.NewStore()
	for i := range 8 {
		next, _, code := impl.PutPairs(s, manyPairs(3*i))
		mustCode(t, "PutPairs", code, impl.OK)
		broken := withSector(next, next.Super.Gen%2, "waste")
		mustOpen(t, "the superblock ahead", broken.Disk, s)
		s = next
	}
}
