package tests

import (
	"fmt"
	"math/rand"
	"slices"
	"testing"

	"loop.example/g00340/impl"
)

func TestNewStore(t *testing.T) {
	s := impl.NewStore()
	want := impl.Store{Disk: impl.Disk{Sectors: make([]string, 52)}, Super: super(0, -1), Heap: laidOn(nil)}
	want.Disk.Sectors[0] = string(sealedText("s\x00\x00\x00"))
	mustStore(t, "NewStore", s, want)
	mustAsk(t, "NewStore", s)
	mustOpen(t, "NewStore", s.Disk, want)
}

// mustAsk holds what is asked of a right store against a model.
func mustAsk(t *testing.T, what string, s impl.Store) {
	t.Helper()
	if !impl.StoreOK(s) {
		t.Errorf("%s: not right", what)
	}
	pairs, code := impl.StorePairs(s)
	mustCode(t, what, code, impl.OK)
	mustPairs(t, what, pairs, pairsBelow(s.Heap, s.Super.Root))
	want := 0
	for _, n := range s.Heap.Nodes {
		if sameNode(n, impl.Node{}) {
			want++
		}
	}
	if free, code := impl.FreePages(s); free != want || code != impl.OK {
		t.Errorf("%s: %d free pages, code %d, not %d", what, free, code, want)
	}
}

func TestRightStores(t *testing.T) {
	for what, s := range rightStores() {
		mustAsk(t, what, s)
		mustOpen(t, what, s.Disk, s)
	}
	for what, want := range map[string]int{"new": 50, "a leaf": 49, "two leaves": 47, "trees that share a leaf": 45, "all pages": 0, "no free page": 0, "MaxSnaps of one": 47, "60 pairs": 22} {
		if got, code := impl.FreePages(rightStores()[what]); got != want || code != impl.OK {
			t.Errorf("%s: %d free pages, code %d, not %d", what, got, code, want)
		}
	}
}

func TestWrongStores(t *testing.T) {
	for what, s := range wrongStores() {
		if impl.StoreOK(s) {
			t.Errorf("%s: right", what)
		}
		pairs, code := impl.StorePairs(s)
		mustCode(t, "StorePairs, "+what, code, impl.ErrBad)
		free, code := impl.FreePages(s)
		mustCode(t, "FreePages, "+what, code, impl.ErrBad)
		if len(pairs) != 0 || free != 0 {
			t.Errorf("%s: pairs %v, %d free pages", what, pairs, free)
		}
		for _, list := range [][]impl.Pair{nil, keyed("a", "b"), keyed("b", "a"), manyPairs(4096)} {
			got, alive, code := impl.PutPairs(s, list)
			mustCommit(t, "PutPairs, "+what, got, alive, code, impl.Store{}, false, impl.ErrBad)
		}
		for _, root := range []int{-1, 5, 0, 50} {
			got, alive, code := impl.CommitRoot(s, twoTrees(), root, nil)
			mustCommit(t, "CommitRoot, "+what, got, alive, code, impl.Store{}, false, impl.ErrBad)
			got, alive, code = impl.CommitRoot(s, s.Heap, root, s.Super.Snaps[:min(4, len(s.Super.Snaps))])
			mustCommit(t, "CommitRoot of its heap, "+what, got, alive, code, impl.Store{}, false, impl.ErrBad)
		}
	}
}

// The superblock of the higher Gen opens the store, of alike ones the second;
// one that is not right counts for nothing.
func TestWhichSuperblockOpens(t *testing.T) {
	h := twoTrees()
	first, second := superText(super(4, 5)), superText(super(5, 6))
	tests := map[string]struct {
		one, other string
		want       impl.Super
	}{
		"the second is higher":       {first, second, super(5, 6)},
		"the first is higher":        {superText(super(6, 5)), second, super(6, 5)},
		"the first is much higher":   {superText(super(200, 5)), superText(super(0, 6)), super(200, 5)},
		"the second is much higher":  {superText(super(0, 5)), superText(super(200, 6)), super(200, 6)},
		"alike ones":                 {superText(super(5, 5)), second, super(5, 6)},
		"alike ones, turned round":   {second, superText(super(5, 5)), super(5, 5)},
		"alike of snapshots":         {superText(super(5, 5, snap("a", 6, 0))), superText(super(5, 5)), super(5, 5)},
		"alike in all":               {second, second, super(5, 6)},
		"sectors that are turned":    {second, first, super(5, 6)},
		"the first alone":            {first, "", super(4, 5)},
		"the second alone":           {"", second, super(5, 6)},
		"the second broken":          {first, second[:len(second)-1], super(4, 5)},
		"the first broken":           {superText(super(6, 5)) + "x", second, super(5, 6)},
		"the second no superblock":   {first, nodeText(leaf("a")), super(4, 5)},
		"the first of Gen 201":       {string(sealedText("s\xc9\x06\x00")), second, super(5, 6)},
		"the second of page 50":      {first, string(sealedText("s\x05\x33\x00")), super(4, 5)},
		"the first alone, odd":       {superText(super(5, 5)), "waste", super(5, 5)},
		"the second alone, even":     {"waste", superText(super(4, 5)), super(4, 5)},
		"Gen 0 in the second":        {"", superText(super(0, 5)), super(0, 5)},
		"the lower one leads astray": {superText(super(4, 30)), second, super(5, 6)},
	}
	for what, test := range tests {
		s := stored(super(0, 5, snap("all", 6, 0)), h)
		d := sure(doneOn(s.Disk.Sectors, write(0, test.one), write(1, test.other))...)
		mustOpen(t, what, d, impl.Store{Super: test.want, Heap: onlyReached(h, rootsOf(test.want)...)})
	}
}

// Without a right superblock a disk is no store, whatever its pages are.
func TestNoSuperblockOpens(t *testing.T) {
	s := stored(super(4, 5), two())
	wrong := []string{"", "waste", nodeText(leaf("a")), superText(super(4, 5))[1:], "s\x00\x00\x00"}
	for _, body := range wrongSuperBodies() {
		if len(body) <= 416 {
			wrong = append(wrong, string(sealedText(body)))
		}
	}
	for i, text := range wrong {
		for _, other := range []string{"", text, wrong[(i+1)%len(wrong)]} {
			d := sure(doneOn(s.Disk.Sectors, write(0, text), write(1, other))...)
			got, code := impl.OpenStore(d)
			mustCode(t, fmt.Sprintf("%.40q", text), code, impl.ErrSum)
			mustStore(t, fmt.Sprintf("%.40q", text), got, impl.Store{})
		}
	}
}

// A page that is reached and is no node, or a tree that is not right, is told:
// the store that was ahead is not opened in its place.
func TestTreesThatDoNotOpen(t *testing.T) {
	lead := map[string]impl.Super{"Root": super(7, 0), "a snapshot": super(7, -1, snap("a", 0, 1)), "a last snapshot": super(7, -1, snap("a", -1, 1), snap("b", 0, 1))}
	refuse := func(what string, h impl.Heap, root int, sectors ...impl.Pending) {
		for of, s := range lead {
			s = cloneSuper(s)
			if of == "Root" {
				s.Root = root
			} else {
				s.Snaps[len(s.Snaps)-1].Root = root
			}
			d := stored(s, h).Disk
			d.Sectors = doneOn(d.Sectors, append(sectors, write(0, superText(super(6, -1))))...)
			got, code := impl.OpenStore(d)
			mustCode(t, what+" of "+of, code, impl.ErrForm)
			mustStore(t, what+" of "+of, got, impl.Store{})
		}
	}
	for what, tree := range wrongTrees() {
		if len(what) > 4 && what[:4] == "as a" || len(tree.h.Nodes) != 50 || tree.root < 0 || tree.root > 49 {
			continue
		}
		refuse(what, tree.h, tree.root)
	}
	for what, body := range wrongBodies() {
		if len(body) > 416 {
			continue
		}
		refuse("as a root: "+what, two(), 5, write(2+5, string(sealedText(body))))
		refuse("as a kid: "+what, two(), 5, write(2+2, string(sealedText(body))))
	}
	refuse("a superblock as a page", two(), 5, write(2+2, superText(super(1, -1))))
	refuse("a leaf whose seal is broken", two(), 5, write(2+9, nodeText(leaf("a", "b"))+"x"))
	refuse("a page that is empty", two(), 5, write(2+9, ""))
}

func TestOpenStoreNeedsItsDisk(t *testing.T) {
	base := stored(super(4, 5), two()).Disk
	disks := map[string]impl.Disk{
		"51 sectors":                 sure(base.Sectors[:51]...),
		"53 sectors":                 sure(append(slices.Clone(base.Sectors), "")...),
		"80 sectors":                 sure(append(slices.Clone(base.Sectors), make([]string, 28)...)...),
		"a write":                    {Sectors: base.Sectors, Cache: []impl.Pending{write(40, "x")}},
		"a write of what is there":   {Sectors: base.Sectors, Cache: []impl.Pending{write(0, base.Sectors[0])}},
		"a write, armed":             {Sectors: base.Sectors, Cache: []impl.Pending{write(40, "x")}, Armed: true},
		"Keep without Armed":         {Sectors: base.Sectors, Keep: []int{0}},
		"501 numbers of Keep":        {Sectors: base.Sectors, Armed: true, Keep: make([]int, 501)},
		"no superblock, and a write": {Sectors: make([]string, 52), Cache: []impl.Pending{write(0, base.Sectors[0])}},
		"no superblock, 51 sectors":  sure(make([]string, 51)...),
		"52 sectors, one too long":   sure(doneOn(base.Sectors, write(51, long(421)))...),
	}
	for what, d := range allDisks() {
		disks[what] = d
	}
	for what, d := range disks {
		got, code := impl.OpenStore(d)
		mustCode(t, what, code, impl.ErrBad)
		mustStore(t, what, got, impl.Store{})
	}
	_, code := impl.OpenStore(sure(make([]string, 52)...))
	mustCode(t, "52 empty sectors", code, impl.ErrSum)
	for _, n := range []int{0, 500} {
		d := impl.Disk{Sectors: base.Sectors, Armed: true, Keep: make([]int, n)}
		mustOpen(t, fmt.Sprintf("armed with %d", n), d, stored(super(4, 5), two()))
	}
}

// commits are told by hand, page by page.
func commits() map[string]struct {
	s     impl.Store
	h     impl.Heap
	root  int
	snaps []impl.Snap
	want  impl.Store
} {
	type row = struct {
		s     impl.Store
		h     impl.Heap
		root  int
		snaps []impl.Snap
		want  impl.Store
	}
	leafOnly := laidOn(map[int]impl.Node{3: leaf("x")})
	fresh, tree := stored(super(0, -1), laidOn(nil)), stored(super(4, 5), two())
	both := stored(super(5, 5, snap("old", 6, 258)), twoTrees())
	behind := func(s impl.Store, next impl.Store, writes ...impl.Pending) impl.Store {
		next = cloneStore(next)
		next.Disk = sure(doneOn(s.Disk.Sectors, append(writes, write(next.Super.Gen%2, superText(next.Super)))...)...)
		return next
	}
	all := map[string]row{
		"nothing into nothing":  {fresh, laidOn(nil), -1, nil, behind(fresh, stored(super(1, -1), laidOn(nil)))},
		"a leaf into nothing":   {fresh, leafOnly, 3, nil, behind(fresh, stored(super(1, 3), leafOnly), write(5, nodeText(leaf("x"))))},
		"a leaf not taken":      {fresh, leafOnly, -1, nil, behind(fresh, stored(super(1, -1), laidOn(nil)))},
		"a snapshot's leaf":     {fresh, leafOnly, -1, []impl.Snap{snap("a", 3, 0)}, behind(fresh, stored(super(1, -1, snap("a", 3, 0)), leafOnly), write(5, nodeText(leaf("x"))))},
		"the tree as it was":    {tree, two(), 5, nil, behind(tree, stored(super(5, 5), two()))},
		"the tree let go":       {tree, two(), -1, nil, behind(tree, stored(super(5, -1), laidOn(nil)))},
		"the tree's first leaf": {tree, two(), 9, nil, behind(tree, stored(super(5, 9), two()))},
		"a snapshot taken":      {tree, two(), 5, []impl.Snap{snap("a", 5, 60000)}, behind(tree, stored(super(5, 5, snap("a", 5, 60000)), two()))},
		"another tree beside":   {tree, twoTrees(), 6, []impl.Snap{snap("s", 5, 1)}, behind(tree, stored(super(5, 6, snap("s", 5, 1)), twoTrees()), write(8, nodeText(twoTrees().Nodes[6])), write(9, nodeText(leaf("cc", "e"))))},
		"another tree instead":  {tree, twoTrees(), 6, nil, behind(tree, stored(super(5, 6), twoTrees()), write(8, nodeText(twoTrees().Nodes[6])), write(9, nodeText(leaf("cc", "e"))))},
		"back to a snapshot":    {both, twoTrees(), 6, []impl.Snap{snap("old", 6, 258)}, behind(both, stored(super(6, 6, snap("old", 6, 258)), twoTrees()))},
		"a snapshot dropped":    {both, twoTrees(), 5, nil, behind(both, stored(super(6, 5), two()))},
		"all dropped":           {both, twoTrees(), -1, []impl.Snap{}, behind(both, stored(super(6, -1), laidOn(nil)))},
		"waste beside":          {tree, with(with(two(), 0, leaf("waste")), 40, impl.Node{Leaf: true, Kids: []int{5}}), 5, nil, behind(tree, stored(super(5, 5), two()))},
	}
	last := stored(super(199, 5), two())
	all["the last Gen"] = row{last, two(), 5, nil, behind(last, stored(super(200, 5), two()))}
	return all
}

func TestCommitRoot(t *testing.T) {
	for what, row := range commits() {
		got, alive, code := impl.CommitRoot(row.s, row.h, row.root, row.snaps)
		mustCommit(t, what, got, alive, code, row.want, true, impl.OK)
		mustAsk(t, what, got)
		mustOpen(t, what, got.Disk, row.want)
		byHand, alive := commitByHand(row.s, row.h, row.root, row.snaps)
		mustStore(t, what+", by hand", byHand, row.want)
		if !alive {
			t.Errorf("%s, by hand: the power went", what)
		}
	}
}

// What lay in a page that no tree reached is written over, with what is new.
func TestNewPagesAreWrittenOverWaste(t *testing.T) {
	s := withSector(withSector(stored(super(4, 5), two()), 8, nodeText(leaf("stale"))), 9, nodeText(leaf("cc", "e")))
	got, alive, code := impl.CommitRoot(s, twoTrees(), 6, nil)
	want := stored(super(5, 6), twoTrees())
	want.Disk.Sectors = doneOn(s.Disk.Sectors, write(8, nodeText(twoTrees().Nodes[6])), write(1, superText(super(5, 6))))
	mustCommit(t, "CommitRoot", got, alive, code, want, true, impl.OK)
	if got.Disk.Sectors[2+2] != nodeText(leaf("c", "d")) {
		t.Error("a page that is let go is written over")
	}
}

// A store whose superblock lies in the other sector: the next one goes by its
// Gen all the same.
func TestCommitOverTheOtherSector(t *testing.T) {
	s := rightStores()["in the other sector"]
	got, alive, code := impl.CommitRoot(s, two(), 5, nil)
	want := stored(super(5, 5), two())
	want.Disk.Sectors[0] = "waste"
	mustCommit(t, "CommitRoot", got, alive, code, want, true, impl.OK)
	twice := rightStores()["alike ones"]
	got, alive, code = impl.CommitRoot(twice, two(), 9, nil)
	want = stored(super(6, 9), two())
	want.Disk.Sectors = doneOn(twice.Disk.Sectors, write(0, superText(super(6, 9))))
	mustCommit(t, "CommitRoot of alike ones", got, alive, code, want, true, impl.OK)
}

func TestStorePairsIsTheTreesOwn(t *testing.T) {
	s := stored(super(5, 5, snap("old", 6, 258)), twoTrees())
	pairs, code := impl.StorePairs(s)
	mustCode(t, "StorePairs", code, impl.OK)
	mustPairs(t, "StorePairs", pairs, keyed("a", "b", "c", "d"))
	pairs, code = impl.StorePairs(stored(super(5, -1, snap("old", 6, 258)), twoTrees()))
	mustCode(t, "StorePairs without pairs", code, impl.OK)
	mustPairs(t, "StorePairs without pairs", pairs, nil)
}

// puts are lists that a store of the keys a to d and a snapshot is led to.
func puts() map[string][]impl.Pair {
	changed := keyed("a", "b", "c", "d")
	changed[2].Value = "other"
	return map[string][]impl.Pair{
		"as it was":                changed[:2:2],
		"none":                     nil,
		"an empty list":            {},
		"all as they were":         keyed("a", "b", "c", "d"),
		"another value":            changed,
		"an empty value":           {{Key: "a", Value: "=a"}, {Key: "b"}, {Key: "c", Value: "=c"}, {Key: "d", Value: "=d"}},
		"a key more":               keyed("a", "b", "c", "d", "e"),
		"a key ahead":              keyed("A", "a", "b", "c", "d"),
		"a key between":            keyed("a", "b", "bb", "c", "d"),
		"a key less":               keyed("a", "c", "d"),
		"the first key less":       keyed("b", "c", "d"),
		"one key":                  keyed("c"),
		"other keys":               keyed("p", "q", "r", "s", "t"),
		"other keys between":       keyed("aa", "bb", "cc", "dd"),
		"keys of all kinds":        keyed("A", "a", "bb", "c", "z"),
		"a value and keys":         {{Key: "a", Value: "new"}, {Key: "c", Value: "=c"}, {Key: "e", Value: ""}},
		"values of MaxValue bytes": {{Key: "a", Value: long(90)}, {Key: long(30), Value: long(90)}},
		"20 pairs":                 manyPairs(20),
		"bytes of all kinds":       {{Key: "\x00", Value: "\xff"}, {Key: "a", Value: "=a"}, {Key: "\xff", Value: "\x00"}},
	}
}

func TestPutPairs(t *testing.T) {
	stores := rightStores()
	for what, list := range puts() {
		for _, of := range []string{"new", "two leaves", "uneven", "trees that share a leaf", "MaxSnaps", "a snapshot alone", "waste on a page", "in the other sector", "one below MaxGen"} {
			s := stores[of]
			got, alive, code := impl.PutPairs(s, list)
			want, _, wantCode := putByHand(s, list)
			mustCommit(t, what+" into "+of, got, alive, code, want, true, wantCode)
			mustCode(t, what+" into "+of, code, impl.OK)
			mustAsk(t, what+" into "+of, got)
			pairs, _ := impl.StorePairs(got)
			mustPairs(t, what+" into "+of, pairs, list)
			mustOpen(t, what+" into "+of, got.Disk, want)
			for _, p := range s.Super.Snaps {
				mustPairs(t, what+" into "+of+", snapshot "+p.Name, pairsBelow(got.Heap, p.Root), pairsBelow(s.Heap, p.Root))
			}
		}
	}
}

// The pages of a few puts, told one by one.
func TestPutPairsLaysPages(t *testing.T) {
	s := stored(super(4, 5), two())
	got, _, code := impl.PutPairs(s, keyed("a", "b", "c", "d"))
	mustCode(t, "as it was", code, impl.OK)
	mustHeap(t, "as it was", got.Heap, two())
	mustSuper(t, "as it was", got.Super, super(5, 5))
	got, _, code = impl.PutPairs(s, keyed("b", "c", "d", "e"))
	want := laidOn(map[int]impl.Node{0: leaf("b"), 3: leaf("c", "d", "e"), 4: inner(kid{0, "b"}, kid{3, "c"})})
	mustCode(t, "a drop and a put", code, impl.OK)
	mustHeap(t, "a drop and a put", got.Heap, want)
	mustSuper(t, "a drop and a put", got.Super, super(5, 4))
	got, _, code = impl.PutPairs(stored(super(5, 5, snap("s", 5, 0)), two()), keyed("b", "c", "d", "e"))
	for _, page := range []int{2, 5, 9} {
		want.Nodes[page] = two().Nodes[page]
	}
	mustCode(t, "a snapshot stays", code, impl.OK)
	mustHeap(t, "a snapshot stays", got.Heap, want)
	mustSuper(t, "a snapshot stays", got.Super, super(6, 4, snap("s", 5, 0)))
}

// storeRun is a store with what a model knows of it.
type storeRun struct {
	s     impl.Store
	pairs []impl.Pair
	snaps map[string][]impl.Pair
}

func (run *storeRun) holds(t *testing.T) {
	t.Helper()
	mustAsk(t, "a run", run.s)
	mustPairs(t, "a run", pairsBelow(run.s.Heap, run.s.Super.Root), run.pairs)
	if len(run.s.Super.Snaps) != len(run.snaps) {
		t.Errorf("a run: snapshots %v", run.s.Super.Snaps)
	}
	for _, p := range run.s.Super.Snaps {
		mustPairs(t, "a run, snapshot "+p.Name, pairsBelow(run.s.Heap, p.Root), run.snaps[p.Name])
	}
	if !run.s.Disk.Armed {
		mustOpen(t, "a run", run.s.Disk, run.s)
	}
}

// somePairs gives other pairs than list, by a few keys.
func somePairs(r *rand.Rand, list []impl.Pair) []impl.Pair {
	for range 1 + r.Intn(5) {
		p := impl.Pair{Key: fmt.Sprintf("k%02d", r.Intn(70)), Value: someText(r, 12)}
		if len(list) < 60 {
			list = editByHand(list, p, r.Intn(3) == 0)
		} else {
			list = editByHand(list, list[r.Intn(60)], true)
		}
	}
	if r.Intn(12) == 0 {
		return list[:r.Intn(len(list)+1)]
	}
	return list
}

// put puts pairs, and knows what is there then if the power stays.
func (run *storeRun) put(t *testing.T, r *rand.Rand) bool {
	list := somePairs(r, run.pairs)
	want, wantAlive, wantCode := putByHand(run.s, list)
	got, alive, code := impl.PutPairs(run.s, list)
	mustCommit(t, "a run, PutPairs", got, alive, code, want, wantAlive, wantCode)
	if alive && code == impl.OK {
		run.pairs = list
	}
	run.s = got
	return alive
}

// snap takes a snapshot, or drops the one of that name.
func (run *storeRun) snap(t *testing.T, r *rand.Rand) bool {
	name := string([]byte{byte('a' + r.Intn(4))})
	list := slices.Clone(run.s.Super.Snaps)
	at := slices.IndexFunc(list, func(p impl.Snap) bool { return p.Name >= name })
	drop := at >= 0 && list[at].Name == name
	if drop {
		list = slices.Delete(list, at, at+1)
	} else {
		list = slices.Insert(list, (at+len(list)+1)%(len(list)+1), snap(name, run.s.Super.Root, r.Intn(60001)))
	}
	want, wantAlive := commitByHand(run.s, run.s.Heap, run.s.Super.Root, list)
	got, alive, code := impl.CommitRoot(run.s, run.s.Heap, run.s.Super.Root, list)
	mustCommit(t, "a run, CommitRoot", got, alive, code, want, wantAlive, impl.OK)
	if alive && drop {
		delete(run.snaps, name)
	} else if alive {
		run.snaps[name] = run.pairs
	}
	run.s = got
	return alive
}

// back leads the tree to a snapshot.
func (run *storeRun) back(t *testing.T, r *rand.Rand) bool {
	if len(run.snaps) == 0 {
		return true
	}
	p := run.s.Super.Snaps[r.Intn(len(run.snaps))]
	got, alive, code := impl.CommitRoot(run.s, run.s.Heap, p.Root, run.s.Super.Snaps)
	mustCode(t, "a run, back", code, impl.OK)
	if alive {
		run.pairs = run.snaps[p.Name]
	}
	run.s = got
	return alive
}

// Runs of puts, snapshots and ways back, in which the power goes now and
// then: behind each one the store is as the model has it.
func TestRunsOfAStore(t *testing.T) {
	r := rand.New(rand.NewSource(16))
	full := 0
	for range 25 {
		run := &storeRun{s: impl.NewStore(), snaps: map[string][]impl.Pair{}}
		for range 60 {
			if r.Intn(5) == 0 {
				run.s = armed(run.s, someKeep(r)...)
			}
			alive := true
			switch r.Intn(6) {
			case 0:
				alive = run.snap(t, r)
			case 1:
				alive = run.back(t, r)
			default:
				was := run.s.Super.Gen
				alive = run.put(t, r)
				if alive && run.s.Super.Gen == was {
					full++
				}
			}
			run.holds(t)
			if t.Failed() {
				return
			}
		}
	}
	if full == 0 {
		t.Error("no store was ever full")
	}
}
