package tests

import (
	"fmt"
	"maps"
	"math"
	"math/rand"
	"slices"
	"testing"

	"loop.example/g00340/impl"
)

// behindSuper gives a store with another superblock in its turn, and the
// pages that it leads to.
func behindSuper(s impl.Store, next impl.Super) impl.Store {
	out := cloneStore(s)
	out.Super = next
	out.Heap = onlyReached(s.Heap, rootsOf(next)...)
	out.Disk.Sectors[next.Gen%2] = superText(next)
	return out
}

// A few calls, told superblock by superblock.
func TestSnapshotsByTheirSuperblocks(t *testing.T) {
	tree := stored(super(4, 5), two())
	both := stored(super(5, 5, snap("old", 6, 258)), twoTrees())
	four := rightStores()["MaxSnaps"]
	n8 := "nnnnnnnn"
	tests := []struct {
		s    impl.Store
		c    snapCall
		want impl.Super
	}{
		{impl.NewStore(), take("a", 0), super(1, -1, snap("a", -1, 0))},
		{tree, take("a", 7), super(5, 5, snap("a", 5, 7))},
		{tree, take("abcdefgh", 60000), super(5, 5, snap("abcdefgh", 5, 60000))},
		{both, take("new", 3), super(6, 5, snap("new", 5, 3), snap("old", 6, 258))},
		{both, take("older", 258), super(6, 5, snap("old", 6, 258), snap("older", 5, 258))},
		{both, take("Z", 300), super(6, 5, snap("Z", 5, 300), snap("old", 6, 258))},
		{both, dropSnap("old"), super(6, 5)},
		{both, prune(259), super(6, 5)},
		{four, dropSnap("a"), super(6, 5, snap(n8, -1, 60000), snap("p", 5, 7), snap("z", 7, 7))},
		{four, dropSnap(n8), super(6, 5, snap("a", 6, 0), snap("p", 5, 7), snap("z", 7, 7))},
		{four, dropSnap("z"), super(6, 5, snap("a", 6, 0), snap(n8, -1, 60000), snap("p", 5, 7))},
		{four, prune(1), super(6, 5, snap(n8, -1, 60000), snap("p", 5, 7), snap("z", 7, 7))},
		{four, prune(7), super(6, 5, snap(n8, -1, 60000), snap("p", 5, 7), snap("z", 7, 7))},
		{four, prune(8), super(6, 5, snap(n8, -1, 60000))},
		{four, prune(60000), super(6, 5, snap(n8, -1, 60000))},
		{four, prune(60001), super(6, 5)},
		{four, prune(math.MaxInt), super(6, 5)},
	}
	for _, test := range tests {
		got, alive, code := test.c.do(test.s)
		mustCommit(t, test.c.what, got, alive, code, behindSuper(test.s, test.want), true, impl.OK)
	}
}

// All right stores, names at each place among theirs, and ticks.
func TestTakeSnap(t *testing.T) {
	done := 0
	for of, s := range rightStores() {
		for i, name := range []string{"A", "AA", "Z9", "_", "a", "a_1", "nnnnnnn", "nnnnnnnn", "o", "old", "oldest", "zzzzzzzz"} {
			tick := []int{0, 1, 255, 256, 59999, 60000}[i%6]
			got, alive, code := holdsSnapCall(t, of, s, take(name, tick))
			if code != impl.OK || !alive {
				continue
			}
			done++
			mustHeap(t, name+" of "+of+", no page more", got.Heap, s.Heap)
			was, _ := impl.FreePages(s)
			if free, code := impl.FreePages(got); free != was || code != impl.OK {
				t.Errorf("%s of %s: %d free pages, code %d, not %d", name, of, free, code, was)
			}
			pairs, code := impl.SnapPairs(got, name)
			mustCode(t, name+" of "+of, code, impl.OK)
			mustPairs(t, name+" of "+of, pairs, pairsBelow(s.Heap, s.Super.Root))
		}
	}
	if done < 100 {
		t.Errorf("only %d snapshots were taken", done)
	}
}

// In whatever order four snapshots are taken they rise by their names, each
// with the pairs and the tick of its own.
func TestSnapshotsRise(t *testing.T) {
	names := []string{"B", "_b", "b", "b1"}
	for _, order := range [][]int{{0, 1, 2, 3}, {3, 2, 1, 0}, {1, 3, 0, 2}, {2, 0, 3, 1}, {0, 3, 1, 2}, {3, 0, 2, 1}, {1, 0, 3, 2}, {2, 3, 0, 1}} {
		s := impl.NewStore()
		for _, i := range order {
			s, _, _ = impl.PutPairs(s, manyPairs(i))
			s, _, _ = holdsSnapCall(t, fmt.Sprint(order), s, take(names[i], 10*i))
		}
		for i, p := range s.Super.Snaps {
			pairs, code := impl.SnapPairs(s, names[i])
			mustCode(t, names[i], code, impl.OK)
			mustPairs(t, names[i], pairs, manyPairs(i))
			if p.Name != names[i] || p.Tick != 10*i {
				t.Errorf("order %v: snapshot %d is %v", order, i, p)
			}
		}
		if len(s.Super.Snaps) != 4 {
			t.Errorf("order %v: snapshots %v", order, s.Super.Snaps)
		}
	}
}

// A snapshot has what there was, whatever is put behind it, and when the disk
// is opened again, till it is dropped.
func TestASnapshotLasts(t *testing.T) {
	was := keyed("a", "b", "c", "d")
	for what, list := range puts() {
		s, _, code := impl.TakeSnap(stored(super(4, 5), two()), "kept", 9)
		mustCode(t, what, code, impl.OK)
		for i, next := range [][]impl.Pair{list, nil, manyPairs(12), list, was} {
			s, _, code = impl.PutPairs(s, next)
			mustCode(t, what, code, impl.OK)
			opened, code := impl.OpenStore(s.Disk)
			mustCode(t, what, code, impl.OK)
			for _, held := range []impl.Store{s, opened} {
				pairs, code := impl.SnapPairs(held, "kept")
				mustCode(t, what, code, impl.OK)
				mustPairs(t, fmt.Sprintf("%s, put %d, the snapshot", what, i), pairs, was)
				pairs, _ = impl.StorePairs(held)
				mustPairs(t, fmt.Sprintf("%s, put %d, the tree", what, i), pairs, next)
			}
			s = opened
		}
		s, _, code = impl.DropSnap(s, "kept")
		mustCode(t, what, code, impl.OK)
		pairs, code := impl.SnapPairs(s, "kept")
		mustCode(t, what+", dropped", code, impl.ErrNone)
		mustPairs(t, what+", dropped", pairs, nil)
		pairs, _ = impl.StorePairs(s)
		mustPairs(t, what+", the tree", pairs, was)
	}
}

func TestDropSnap(t *testing.T) {
	for of, s := range rightStores() {
		for _, p := range s.Super.Snaps {
			got, alive, code := holdsSnapCall(t, of, s, dropSnap(p.Name))
			if code == impl.OK && alive && namedIn(got, p.Name) {
				t.Errorf("%s of %s is there still", p.Name, of)
			}
		}
		for _, name := range []string{"b", "nnnnnnn", "ol", "oldd", "OLD", "zz"} {
			holdsSnapCall(t, of, s, dropSnap(name))
		}
	}
}

// Just those of a Tick below before go: told on both sides of each Tick.
func TestPruneSnaps(t *testing.T) {
	for of, s := range rightStores() {
		befores := []int{math.MinInt, -1, 0, 1, 60000, 60001, math.MaxInt}
		for _, p := range s.Super.Snaps {
			befores = append(befores, p.Tick-1, p.Tick, p.Tick+1)
		}
		for _, before := range befores {
			got, alive, code := holdsSnapCall(t, of, s, prune(before))
			if code != impl.OK || !alive {
				continue
			}
			for _, p := range s.Super.Snaps {
				if namedIn(got, p.Name) != (p.Tick >= before) {
					t.Errorf("before %d: %v of %s", before, p, of)
				}
			}
			if got.Super.Gen != s.Super.Gen+1 {
				t.Errorf("before %d of %s: Gen %d behind %d", before, of, got.Super.Gen, s.Super.Gen)
			}
		}
	}
}

// Which pages of two trees that share a leaf are free behind a call: those
// that nothing else reaches, and no others.
func TestWhatGoesWithASnapshot(t *testing.T) {
	both := stored(super(5, 5, snap("old", 6, 258)), twoTrees())
	four := rightStores()["MaxSnaps"]
	shared := stored(super(4, 5, snap("a", 5, 1), snap("b", 5, 2)), two())
	bare := stored(super(4, -1, snap("a", 5, 1), snap("b", 9, 2)), two())
	for _, test := range []struct {
		of    string
		s     impl.Store
		c     snapCall
		freed []int
	}{
		{"trees that share a leaf", both, dropSnap("old"), []int{6, 7}},
		{"trees that share a leaf", both, prune(300), []int{6, 7}},
		{"a kid of another snapshot", four, dropSnap("z"), nil},
		{"a root above another snapshot", four, dropSnap("a"), []int{6}},
		{"no pairs", four, dropSnap("nnnnnnnn"), nil},
		{"the tree's own root", four, dropSnap("p"), nil},
		{"several at once", four, prune(8), []int{6, 7}},
		{"one of them", four, prune(5), []int{6}},
		{"one of two alike", shared, dropSnap("a"), nil},
		{"both alike", shared, prune(3), nil},
		{"a root without its leaf", bare, dropSnap("a"), []int{2, 5}},
		{"a leaf below another", bare, dropSnap("b"), nil},
		{"the last ones", bare, prune(3), []int{2, 5, 9}},
	} {
		got, _, code := holdsSnapCall(t, test.of, test.s, test.c)
		mustCode(t, test.of, code, impl.OK)
		for page, n := range test.s.Heap.Nodes {
			if slices.Contains(test.freed, page) {
				n = impl.Node{}
			}
			if !sameNode(got.Heap.Nodes[page], n) {
				t.Errorf("%s, %s: page %d is %v", test.of, test.c.what, page, got.Heap.Nodes[page])
			}
		}
		was, _ := impl.FreePages(test.s)
		if free, _ := impl.FreePages(got); free != was+len(test.freed) {
			t.Errorf("%s, %s: %d free pages, %d ahead", test.of, test.c.what, free, was)
		}
	}
}

// What a snapshot has held is laid on again once it is dropped: a store that
// had no room has it then.
func TestRoomBehindASnapshot(t *testing.T) {
	full := rightStores()["no free page"]
	list := keyed("a", "b", "c", "d", "e")
	_, _, code := impl.PutPairs(full, list)
	mustCode(t, "no room", code, impl.ErrFull)
	for _, c := range []snapCall{dropSnap("a"), dropSnap("b"), dropSnap("c"), prune(1)} {
		s, _, code := holdsSnapCall(t, "a full store", full, c)
		mustCode(t, c.what, code, impl.OK)
		s, _, code = impl.PutPairs(s, list)
		mustCode(t, "a put behind "+c.what, code, impl.OK)
		pairs, _ := impl.StorePairs(s)
		mustPairs(t, "a put behind "+c.what, pairs, list)
		mustSnaps(t, "a put behind "+c.what, s)
	}
	s, _, code := holdsSnapCall(t, "a full store", full, take("d", 0))
	mustCode(t, "a snapshot needs no room", code, impl.OK)
	if free, _ := impl.FreePages(s); free != 0 {
		t.Errorf("%d free pages", free)
	}
}

// A snapshot that is dropped may be taken again, of what there is then.
func TestTakenAgain(t *testing.T) {
	s, _, _ := impl.TakeSnap(stored(super(4, 5), two()), "a", 3)
	s, _, _ = impl.PutPairs(s, keyed("x"))
	s, _, code := impl.DropSnap(s, "a")
	mustCode(t, "DropSnap", code, impl.OK)
	s, _, code = holdsSnapCall(t, "a store", s, take("a", 2))
	mustCode(t, "TakeSnap", code, impl.OK)
	pairs, _ := impl.SnapPairs(s, "a")
	mustPairs(t, "the new one", pairs, keyed("x"))
	if s.Super.Snaps[0].Tick != 2 {
		t.Errorf("snapshots %v", s.Super.Snaps)
	}
}

func TestSnapPairs(t *testing.T) {
	s := rightStores()["MaxSnaps"]
	for name, want := range map[string][]impl.Pair{"a": keyed("a", "b", "cc", "e"), "nnnnnnnn": nil, "p": keyed("a", "b", "c", "d"), "z": keyed("cc", "e")} {
		pairs, code := impl.SnapPairs(s, name)
		mustCode(t, name, code, impl.OK)
		mustPairs(t, name, pairs, want)
	}
	for of, s := range rightStores() {
		mustSnaps(t, of, s)
	}
}

// snapRun is a store with what a model knows of it.
type snapRun struct {
	storeRun
	ticks map[string]int
}

// call does one call of chapter 6, and knows what is there then.
func (run *snapRun) call(t *testing.T, r *rand.Rand) {
	name, tick := string([]byte{byte('a' + r.Intn(6))}), r.Intn(20)
	kind := r.Intn(8)
	c := take(name, tick)
	if kind == 0 {
		c = prune(r.Intn(12))
	} else if kind < 4 {
		c = dropSnap(name)
	}
	before := run.s
	got, alive, code := holdsSnapCall(t, "a run", run.s, c)
	run.s = got
	if !alive || code != impl.OK {
		return
	}
	if kind >= 4 {
		run.snaps[name], run.ticks[name] = run.pairs, tick
		return
	}
	for _, p := range before.Super.Snaps {
		if !namedIn(got, p.Name) {
			delete(run.snaps, p.Name)
			delete(run.ticks, p.Name)
		}
	}
}

func (run *snapRun) holds(t *testing.T) {
	t.Helper()
	run.storeRun.holds(t)
	ticks := map[string]int{}
	for _, p := range run.s.Super.Snaps {
		ticks[p.Name] = p.Tick
		pairs, code := impl.SnapPairs(run.s, p.Name)
		mustCode(t, "a run", code, impl.OK)
		mustPairs(t, "a run, SnapPairs "+p.Name, pairs, run.snaps[p.Name])
	}
	if !maps.Equal(ticks, run.ticks) {
		t.Errorf("a run: ticks %v, not %v", ticks, run.ticks)
	}
}

// Runs of puts and of snapshots that are taken, dropped and pruned, in which
// the power goes and the disk is opened again now and then: behind each one
// the store and its snapshots are as the model has them.
func TestRunsOfSnapshots(t *testing.T) {
	t.Parallel()
	r := rand.New(rand.NewSource(20))
	for range 25 {
		run := &snapRun{storeRun{s: impl.NewStore(), snaps: map[string][]impl.Pair{}}, map[string]int{}}
		for range 80 {
			if r.Intn(6) == 0 {
				run.s = armed(run.s, someKeep(r)...)
			}
			if r.Intn(2) == 0 {
				run.call(t, r)
			} else {
				run.put(t, r)
			}
			run.holds(t)
			if r.Intn(4) == 0 {
				run.s, _ = impl.OpenStore(run.s.Disk)
				run.holds(t)
			}
			if t.Failed() {
				return
			}
		}
	}
}
