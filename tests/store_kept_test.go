package tests

import (
	"fmt"
	"math"
	"math/rand"
	"slices"
	"strings"
	"testing"

	"loop.example/g00340/impl"
)

var markSnap = impl.Snap{Name: "behind", Root: 7, Tick: 77}

// guardedStore lays each list of a store into memory with room behind its end.
func guardedStore(s impl.Store) (impl.Store, func() bool) {
	d, sameDisk := guardedDisk(s.Disk)
	snaps, sameSnaps := guarded(s.Super.Snaps, markSnap)
	h, sameHeap := guardedHeap(s.Heap)
	in := impl.Store{Disk: d, Super: impl.Super{Gen: s.Super.Gen, Root: s.Super.Root, Snaps: snaps}, Heap: h}
	return in, func() bool { return sameDisk() && sameSnaps() && sameHeap() }
}

func spoilStore(s impl.Store) {
	spoilDisk(s.Disk)
	spoil(s.Super.Snaps, markSnap)
	spoilHeap(s.Heap)
}

// storeListsApart asks that no two lists of a store share memory; of the
// numbers only Keep and the Kids could.
func storeListsApart(s impl.Store) bool {
	const mark = 1000
	spoil(s.Disk.Keep, mark)
	apart := listsApart(s.Heap)
	return apart && !slices.ContainsFunc(s.Disk.Keep, func(k int) bool { return k != mark })
}

// storeArgs is all that calls on a store take.
type storeArgs struct {
	s     impl.Store
	h     impl.Heap
	root  int
	snaps []impl.Snap
	list  []impl.Pair
	name  string
	tick  int
}

// storeCalls are the calls that answer a store.
func storeCalls() map[string]func(a storeArgs) (impl.Store, bool, int) {
	return map[string]func(a storeArgs) (impl.Store, bool, int){
		"OpenStore": func(a storeArgs) (impl.Store, bool, int) {
			s, code := impl.OpenStore(a.s.Disk)
			return s, false, code
		},
		"CommitRoot": func(a storeArgs) (impl.Store, bool, int) { return impl.CommitRoot(a.s, a.h, a.root, a.snaps) },
		"CommitRoot alike": func(a storeArgs) (impl.Store, bool, int) {
			return impl.CommitRoot(a.s, a.s.Heap, a.root, a.s.Super.Snaps)
		},
		"PutPairs":   func(a storeArgs) (impl.Store, bool, int) { return impl.PutPairs(a.s, a.list) },
		"TakeSnap":   func(a storeArgs) (impl.Store, bool, int) { return impl.TakeSnap(a.s, a.name, a.tick) },
		"DropSnap":   func(a storeArgs) (impl.Store, bool, int) { return impl.DropSnap(a.s, a.name) },
		"PruneSnaps": func(a storeArgs) (impl.Store, bool, int) { return impl.PruneSnaps(a.s, a.tick) },
	}
}

// storeApart hands guarded arguments in and asks that nothing of them is
// changed, that the answer is new memory, and that a second call answers alike.
func storeApart(t *testing.T, what string, a storeArgs, call func(storeArgs) (impl.Store, bool, int)) {
	t.Helper()
	in := a
	var same [4]func() bool
	in.s, same[0] = guardedStore(a.s)
	in.h, same[1] = guardedHeap(a.h)
	in.snaps, same[2] = guarded(a.snaps, markSnap)
	in.list, same[3] = guarded(a.list, markPair)
	kept := func() bool { return same[0]() && same[1]() && same[2]() && same[3]() }
	first, alive, code := call(in)
	if !kept() {
		t.Fatalf("%s: an argument is changed", what)
	}
	was := cloneStore(first)
	second, alive2, code2 := call(in)
	if alive2 != alive || code2 != code || !sameStore(first, second) {
		t.Fatalf("%s: the second answer is another one", what)
	}
	third, _, _ := call(in)
	if !storeListsApart(third) {
		t.Fatalf("%s: two lists of the answer share memory", what)
	}
	spoilStore(first)
	if !kept() {
		t.Fatalf("%s: the answer shares memory with an argument", what)
	}
	spoilStore(in.s)
	spoilHeap(in.h)
	spoil(in.snaps, markSnap)
	spoil(in.list, markPair)
	if !sameStore(second, was) {
		t.Fatalf("%s: the answer changes with an argument or another answer", what)
	}
}

func allStores() map[string]impl.Store {
	all := rightStores()
	for what, s := range wrongStores() {
		all["wrong: "+what] = s
	}
	all["too deep"] = deepStore()
	return all
}

func TestStoreCallsKeepApart(t *testing.T) {
	t.Parallel()
	heaps := []impl.Heap{{}, laidOn(nil), twoTrees(), with(two(), 9, leaf("z"))}
	snaps := [][]impl.Snap{nil, {}, {snap("a", 5, 3), snap("b", 9, 4)}, {snap("old", 6, 258)}, {snap("b", 5, 3), snap("a", 9, 4)}, make([]impl.Snap, 4097)}
	lists := [][]impl.Pair{nil, {}, keyed("a", "b", "c", "d"), keyed("a", "bb", "z"), keyed("b", "a"), manyPairs(60), manyPairs(4097)}
	calls := storeCalls()
	for what, s := range allStores() {
		storeApart(t, "OpenStore, "+what, storeArgs{s: s}, calls["OpenStore"])
		for i, list := range lists {
			storeApart(t, fmt.Sprintf("PutPairs, %s, %d", what, i), storeArgs{s: s, list: list}, calls["PutPairs"])
		}
		for i := range 24 {
			a := storeArgs{s: s, h: heaps[i%len(heaps)], root: []int{5, -1, s.Super.Root, 6, 9, 50}[i/4], snaps: snaps[i%len(snaps)]}
			storeApart(t, fmt.Sprintf("CommitRoot, %s, %d", what, i), a, calls["CommitRoot"])
			storeApart(t, fmt.Sprintf("CommitRoot alike, %s, %d", what, i), a, calls["CommitRoot alike"])
		}
	}
}

// storePairsApart asks a guarded store for pairs, and that nothing of it is
// changed, that the answer is new memory, and that a second call answers alike.
func storePairsApart(t *testing.T, what string, s impl.Store, call func(impl.Store) ([]impl.Pair, int)) {
	t.Helper()
	in, same := guardedStore(s)
	first, code := call(in)
	if !same() {
		t.Fatalf("%s: an argument is changed", what)
	}
	second, again := call(in)
	if code != again || !slices.Equal(first, second) {
		t.Fatalf("%s: the second answer is another one", what)
	}
	was := slices.Clone(second)
	spoil(first, markPair)
	if !same() {
		t.Fatalf("%s: an answer shares memory with an argument", what)
	}
	spoilStore(in)
	if !slices.Equal(second, was) {
		t.Fatalf("%s: an answer changes with an argument", what)
	}
}

func TestStoresAreAskedAndKept(t *testing.T) {
	for what, s := range allStores() {
		storePairsApart(t, "StorePairs, "+what, s, impl.StorePairs)
		in, same := guardedStore(s)
		right := impl.StoreOK(in)
		free, code := impl.FreePages(in)
		if !same() {
			t.Fatalf("%s: an argument is changed", what)
		}
		free2, code2 := impl.FreePages(in)
		if right != impl.StoreOK(s) || free != free2 || code != code2 {
			t.Fatalf("%s: the second answer is another one", what)
		}
	}
}

func TestSuperCallsKeepApart(t *testing.T) {
	supers := wrongSupers()
	for what, row := range rightSupers() {
		supers[what] = row.s
	}
	for what, s := range supers {
		snaps, same := guarded(s.Snaps, markSnap)
		in := impl.Super{Gen: s.Gen, Root: s.Root, Snaps: snaps}
		right := impl.SuperOK(in)
		first, code := impl.SuperBytes(in)
		second, code2 := impl.SuperBytes(in)
		if !same() || right != impl.SuperOK(s) || code != code2 || string(first) != string(second) {
			t.Errorf("%s: an argument or the second answer is another one", what)
		}
		was := string(second)
		spoil(first, markByte)
		spoil(snaps, markSnap)
		if string(second) != was {
			t.Errorf("%s: shared memory", what)
		}
	}
}

func TestReadSuperKeepsApart(t *testing.T) {
	texts := []string{"", "\x00\x00\x00\x00", "s\x00\x00\x00", long(65536), long(65537)}
	for _, row := range rightSupers() {
		texts = append(texts, string(sealedText(row.text)))
	}
	for _, body := range wrongSuperBodies() {
		texts = append(texts, string(sealedText(body)))
	}
	for _, text := range texts {
		in, same := guarded([]byte(text), markByte)
		first, code := impl.ReadSuper(in)
		second, code2 := impl.ReadSuper(in)
		if !same() || code != code2 || !sameSuper(first, second) {
			t.Errorf("ReadSuper(%.20q): an argument or the second answer is another one", text)
		}
		was := strings.Clone(fmt.Sprint(second))
		spoil(first.Snaps, markSnap)
		spoil(in, markByte)
		if fmt.Sprint(second) != was {
			t.Errorf("ReadSuper(%.20q): shared memory", text)
		}
	}
}

func TestNewStoresAreApart(t *testing.T) {
	spoilStore(impl.NewStore())
	mustStore(t, "NewStore", impl.NewStore(), stored(super(0, -1), laidOn(nil)))
}

// What lies behind the ends of a store's lists is no part of it.
func TestNothingHangsOnWhatLiesBehindAStore(t *testing.T) {
	s := stored(super(4, 5, snap("a", 9, 1)), two())
	s.Disk.Sectors = append(s.Disk.Sectors, "more")[:52]
	s.Disk.Cache = []impl.Pending{write(0, "x")}[:0]
	s.Disk.Keep = []int{1}[:0]
	s.Super.Snaps = append(s.Super.Snaps, snap("A", 99, -1))[:1]
	s.Heap.Nodes = append(s.Heap.Nodes, leaf("z"))[:50]
	mustAsk(t, "behind the ends", s)
	got, alive, code := impl.CommitRoot(s, s.Heap, 9, s.Super.Snaps[:0])
	want, _ := commitByHand(s, s.Heap, 9, nil)
	mustCommit(t, "behind the ends", got, alive, code, want, true, impl.OK)
	b := []byte(superText(super(4, 5)) + "more")
	_, code = impl.ReadSuper(b[:len(b)-4])
	mustCode(t, "bytes behind the end", code, impl.OK)
	_, code = impl.ReadSuper(b[:len(b)-5])
	mustCode(t, "a sum that goes on behind the end", code, impl.ErrSum)
}

// askStore writes down what all calls of chapter 5 answer.
func askStore(s impl.Store, h impl.Heap, root int, snaps []impl.Snap, list []impl.Pair, b []byte) string {
	var out strings.Builder
	read, code := impl.ReadSuper(b)
	fmt.Fprintf(&out, "%#v %d;", read, code)
	text, code := impl.SuperBytes(s.Super)
	fmt.Fprintf(&out, "%t %q %d;", impl.SuperOK(s.Super), text, code)
	open, code := impl.OpenStore(s.Disk)
	fmt.Fprintf(&out, "%#v %d;", open, code)
	done, alive, code := impl.CommitRoot(s, h, root, snaps)
	fmt.Fprintf(&out, "%#v %t %d;", done, alive, code)
	done, alive, code = impl.PutPairs(s, list)
	fmt.Fprintf(&out, "%#v %t %d;", done, alive, code)
	pairs, code := impl.StorePairs(s)
	fmt.Fprintf(&out, "%t %#v %d;", impl.StoreOK(s), pairs, code)
	free, code := impl.FreePages(s)
	fmt.Fprintf(&out, "%d %d;%#v", free, code, impl.NewStore())
	return out.String()
}

// someStore gives a store whose parts may be those of several ones, or waste.
func someStore(r *rand.Rand, all []impl.Store) impl.Store {
	s := cloneStore(all[r.Intn(len(all))])
	switch r.Intn(8) {
	case 0:
		s.Disk = someDisk(r)
	case 1:
		s.Disk = cloneDisk(all[r.Intn(len(all))].Disk)
	case 2:
		s.Super = cloneSuper(all[r.Intn(len(all))].Super)
	case 3:
		s.Heap, s.Super.Root = someHeap(r)
	case 4:
		s.Disk.Sectors = doneOn(append(s.Disk.Sectors, ""), write(r.Intn(len(s.Disk.Sectors)+1), someText(r, 20)))[:len(s.Disk.Sectors)]
	case 5:
		s.Disk.Sectors = append(s.Disk.Sectors, s.Disk.Sectors...)[:r.Intn(2*len(s.Disk.Sectors)+1)]
	}
	return s
}

// No store makes a call panic, and no answer hangs on the calls ahead: the
// same ones are asked again in the other direction.
func TestAnyStoresInAnyOrder(t *testing.T) {
	r := rand.New(rand.NewSource(19))
	numbers := []int{math.MinInt, -2, -1, 0, 5, 6, 9, 49, 50, math.MaxInt}
	var stores []impl.Store
	for _, s := range allStores() {
		stores = append(stores, s)
	}
	type row struct {
		a    storeArgs
		b    []byte
		told string
	}
	var all []row
	for i := range 600 {
		a := row{a: storeArgs{s: someStore(r, stores), root: numbers[r.Intn(len(numbers))], list: manyPairs(r.Intn(62))}, b: sealedText("s" + someText(r, 8))}
		a.a.h = a.a.s.Heap
		if i%2 == 0 {
			a.a.h, a.a.root = someHeap(r)
		}
		for range r.Intn(6) {
			a.a.snaps = append(a.a.snaps, snap(someText(r, 9), numbers[r.Intn(len(numbers))], numbers[r.Intn(len(numbers))]))
		}
		a.told = askStore(a.a.s, a.a.h, a.a.root, a.a.snaps, a.a.list, a.b)
		all = append(all, a)
	}
	for _, a := range slices.Backward(all) {
		if askStore(a.a.s, a.a.h, a.a.root, a.a.snaps, a.a.list, a.b) != a.told {
			t.Fatalf("the answer hangs on what was called ahead: %.900q", fmt.Sprint(a.a))
		}
	}
}
