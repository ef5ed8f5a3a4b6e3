package tests

import (
	"fmt"
	"maps"
	"math"
	"math/rand"
	"slices"
	"strings"
	"testing"

	"loop.example/g00340/impl"
)

func TestSnapCallsKeepApart(t *testing.T) {
	calls := storeCalls()
	for what, s := range allStores() {
		for _, name := range []string{"", "a", "b", "old", "zz", "ninebytes", long(65537)} {
			for _, tick := range []int{-1, 0, 60000, 60001} {
				storeApart(t, fmt.Sprintf("TakeSnap(%.10q, %d), %s", name, tick, what), storeArgs{s: s, name: name, tick: tick}, calls["TakeSnap"])
			}
			storeApart(t, fmt.Sprintf("DropSnap(%.10q), %s", name, what), storeArgs{s: s, name: name}, calls["DropSnap"])
		}
		for _, before := range []int{math.MinInt, 0, 1, 8, 259, 60001} {
			storeApart(t, fmt.Sprintf("PruneSnaps(%d), %s", before, what), storeArgs{s: s, tick: before}, calls["PruneSnaps"])
		}
	}
}

func TestSnapPairsKeepsApart(t *testing.T) {
	for what, s := range allStores() {
		for _, name := range []string{"", "a", "old", "p", "zz", long(65537)} {
			storePairsApart(t, fmt.Sprintf("SnapPairs(%.10q), %s", name, what), s, func(in impl.Store) ([]impl.Pair, int) {
				return impl.SnapPairs(in, name)
			})
		}
	}
}

// What lies behind the ends of a store's lists is no snapshot, and no page.
func TestNothingHangsOnWhatLiesBehindSnapshots(t *testing.T) {
	s := stored(super(4, 5, snap("b", 9, 1)), two())
	s.Super.Snaps = append(s.Super.Snaps, snap("c", 5, 0), snap("d", 5, 0), snap("e", 5, 0))[:1]
	s.Heap.Nodes = append(s.Heap.Nodes, leaf("z"))[:50]
	for _, c := range []snapCall{take("a", 1), take("c", 1), dropSnap("b"), dropSnap("c"), prune(1), prune(2)} {
		holdsSnapCall(t, "behind the ends", s, c)
	}
	_, code := impl.SnapPairs(s, "c")
	mustCode(t, "a snapshot behind the end", code, impl.ErrNone)
}

// askSnaps writes down what all calls of chapter 6 on a store answer.
func askSnaps(s impl.Store, name string, tick int) string {
	var out strings.Builder
	done, alive, code := impl.TakeSnap(s, name, tick)
	fmt.Fprintf(&out, "%#v %t %d;", done, alive, code)
	done, alive, code = impl.DropSnap(s, name)
	fmt.Fprintf(&out, "%#v %t %d;", done, alive, code)
	done, alive, code = impl.PruneSnaps(s, tick)
	fmt.Fprintf(&out, "%#v %t %d;", done, alive, code)
	pairs, code := impl.SnapPairs(s, name)
	fmt.Fprintf(&out, "%#v %d", pairs, code)
	return out.String()
}

func TestEmptyIsNilInSnapshots(t *testing.T) {
	for _, of := range []impl.Store{stored(super(4, 5), two()), stored(super(4, -1, snap("a", -1, 3)), laidOn(nil))} {
		empty := cloneStore(of)
		empty.Disk.Cache, empty.Disk.Keep = []impl.Pending{}, []int{}
		empty.Super.Snaps = append([]impl.Snap{}, of.Super.Snaps...)
		for page, n := range empty.Heap.Nodes {
			empty.Heap.Nodes[page] = impl.Node{Leaf: n.Leaf, Pairs: append([]impl.Pair{}, n.Pairs...), Least: append([]string{}, n.Least...), Kids: append([]int{}, n.Kids...)}
		}
		for _, name := range []string{"a", "b", ""} {
			if first, second := askSnaps(of, name, 4), askSnaps(empty, name, 4); first != second {
				t.Errorf("%.900s\nof nil, of empty lists\n%.900s", first, second)
			}
		}
	}
}

// No store, name or number makes a call panic, and no answer hangs on the
// calls ahead: the same ones are asked again in the other direction.
func TestAnySnapshotsInAnyOrder(t *testing.T) {
	r := rand.New(rand.NewSource(21))
	numbers := []int{math.MinInt, -1, 0, 1, 7, 8, 259, 60000, 60001, math.MaxInt}
	names := []string{"", "a", "b", "old", "p", "z", "zz", "ninebytes"}
	known := allStores()
	var stores []impl.Store
	for _, what := range slices.Sorted(maps.Keys(known)) {
		stores = append(stores, known[what])
	}
	type row struct {
		s    impl.Store
		name string
		tick int
		told string
	}
	var all []row
	for i := range 800 {
		a := row{s: someStore(r, stores), name: names[i%len(names)], tick: numbers[r.Intn(len(numbers))]}
		if r.Intn(4) == 0 {
			a.name = someText(r, 9)
		}
		a.told = askSnaps(a.s, a.name, a.tick)
		all = append(all, a)
	}
	for _, a := range slices.Backward(all) {
		if askSnaps(a.s, a.name, a.tick) != a.told {
			t.Fatalf("the answer hangs on what was called ahead: %.900q", fmt.Sprint(a))
		}
	}
}
