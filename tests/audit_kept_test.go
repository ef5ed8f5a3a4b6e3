package tests

import (
	"fmt"
	"math/rand"
	"slices"
	"sync"
	"testing"

	"loop.example/g00340/impl"
)

// auditTold is all that the calls of chapter 14 answer.
type auditTold struct {
	shared           int
	refs, holds, up  bool
	codes            [4]int
	otherWay, itself bool
	otherCodes       [2]int
}

func auditAll(s impl.Store, w impl.World, a, b []impl.Pair) (told auditTold) {
	told.shared, told.codes[0] = impl.PagesShared(s)
	told.refs, told.codes[1] = impl.RefsHold(s)
	told.holds, told.codes[2] = impl.WorldHolds(w)
	told.up, told.codes[3] = impl.ValidityRises(a, b)
	told.otherWay, told.otherCodes[0] = impl.ValidityRises(b, a)
	told.itself, told.otherCodes[1] = impl.ValidityRises(a, a)
	return told
}

// auditByHand gives what auditAll is to tell of lists that are not too long.
func auditByHand(s impl.Store, w impl.World, a, b []impl.Pair) (told auditTold) {
	bad := func(right bool) int {
		if right {
			return impl.OK
		}
		return impl.ErrBad
	}
	ab := bad(mailByHand(a) && mailByHand(b))
	told.codes = [4]int{bad(impl.StoreOK(s)), bad(impl.StoreOK(s)), bad(worldByHand(w)), ab}
	told.otherCodes = [2]int{ab, bad(mailByHand(a))}
	if impl.StoreOK(s) {
		told.shared, told.refs = sharedByHand(s), refsByHand(s)
	}
	told.holds = worldByHand(w) && holdsByHand(w)
	told.up = ab == impl.OK && risesByHand(a, b)
	told.otherWay = ab == impl.OK && risesByHand(b, a)
	told.itself = mailByHand(a)
	return told
}

// No call changes a store, a world or a list, nor what lies behind the ends of
// their lists, and alike arguments have alike answers.
func TestAuditsKeepTheirArguments(t *testing.T) {
	worlds := slices.Concat(byNames(rightWorlds()), byNames(wrongWorlds()))
	stores := byNames(allStores())
	mails := slices.Concat(byNames(rightMail()), byNames(wrongMail()), byNames(noPairs()))
	for i := range max(len(worlds), len(mails)) {
		s, w := stores[i%len(stores)], worlds[i%len(worlds)]
		a, b := mails[i%len(mails)], mails[(7*i+3)%len(mails)]
		store, sameStore := guardedStore(s)
		world, sameWorld := guardedWorld(w)
		one, sameOne := guarded(a, markPair)
		other, sameOther := guarded(b, markPair)
		first := auditAll(store, world, one, other)
		if second := auditAll(store, world, one, other); first != second {
			t.Fatalf("%d: %v, then %v", i, first, second)
		}
		if !sameStore() || !sameWorld() || !sameOne() || !sameOther() {
			t.Fatalf("%d: an argument is changed", i)
		}
		if want := auditByHand(s, w, a, b); first != want || first != auditAll(s, w, a, b) {
			t.Fatalf("%d: %v, not %v", i, first, want)
		}
	}
}

// What lies behind the end of a list is no part of it.
func TestNothingHangsOnWhatLiesBehindAnAudit(t *testing.T) {
	for what, list := range rightMail() {
		for _, more := range []impl.Pair{{Key: "v", Value: "1"}, {Key: "zz"}, {}} {
			longer := append(slices.Clone(list), more)[:len(list)]
			mustRise(t, what, longer, longer, true)
			mustRise(t, what, list, longer, true)
		}
	}
	for what, s := range rightStores() {
		s = cloneStore(s)
		s.Super.Snaps = append(s.Super.Snaps, snap("zz", 5, 0))[:len(s.Super.Snaps)]
		s.Heap.Nodes = append(s.Heap.Nodes, leaf("a"))[:50]
		s.Disk.Sectors = append(s.Disk.Sectors, "waste")[:52]
		mustShare(t, what, s, sharedByHand(s))
		mustRefsHold(t, what, s)
	}
	w := cloneWorld(worldOf(grownTown()))
	w.Done.Snaps = append(w.Done.Snaps, impl.Kept{Name: "9"})[:len(w.Done.Snaps)]
	w.Done.Pairs = append(w.Done.Pairs, impl.Pair{Key: "zz"})[:len(w.Done.Pairs)]
	mustHold(t, "behind the ends", w, true)
}

// An empty list and nil are the same.
func TestEmptyIsNilInAudits(t *testing.T) {
	for _, none := range [][]impl.Pair{nil, {}} {
		mustNotRise(t, "none", none, none, impl.ErrBad)
		mustNotRise(t, "none, the first", none, town(), impl.ErrBad)
		mustNotRise(t, "none, the second", town(), none, impl.ErrBad)
	}
	s := impl.NewStore()
	s.Super.Snaps, s.Disk.Cache, s.Disk.Keep = []impl.Snap{}, []impl.Pending{}, []int{}
	for i := range s.Heap.Nodes {
		s.Heap.Nodes[i] = impl.Node{Pairs: []impl.Pair{}, Least: []string{}, Kids: []int{}}
	}
	n, code := impl.PagesShared(s)
	ok, refs := impl.RefsHold(s)
	if n != 0 || code != impl.OK || !ok || refs != impl.OK {
		t.Errorf("empty lists: %d, %d, %t, %d", n, code, ok, refs)
	}
	w := impl.NewWorld()
	w.Done.Snaps, w.Doubt = []impl.Kept{}, impl.State{Pairs: []impl.Pair{}, Snaps: []impl.Kept{}}
	mustHold(t, "empty lists", w, true)
	for _, nodes := range []impl.Heap{{}, {Nodes: []impl.Node{}}} {
		s.Heap = nodes
		n, code := impl.PagesShared(s)
		ok, refs := impl.RefsHold(s)
		if n != 0 || code != impl.ErrBad || ok || refs != impl.ErrBad {
			t.Errorf("no nodes: %d, %d, %t, %d", n, code, ok, refs)
		}
	}
}

// No argument makes a call panic, and no answer hangs on the calls ahead: the
// same ones are asked again in the other direction.
func TestAnyAuditsInAnyOrder(t *testing.T) {
	r := rand.New(rand.NewSource(137))
	worlds := slices.Concat(byNames(rightWorlds()), byNames(wrongWorlds()), byNames(fullWorlds()))
	states := slices.Concat(byNames(rightStates()), byNames(wrongStates()))
	stores := byNames(allStores())
	mails := slices.Concat(byNames(rightMail()), byNames(rightMail()), byNames(wrongPlaces()))
	type row struct {
		s    impl.Store
		w    impl.World
		a, b []impl.Pair
		told auditTold
	}
	var rows []row
	seen := map[string]int{}
	for range 1200 {
		x := row{s: someStore(r, stores), w: anyWorld(r, worlds, states, stores), a: anyMailPairs(r, mails)}
		x.b = anyMailPairs(r, mails)
		if r.Intn(2) == 0 && mailByHand(x.a) {
			x.b = spoiltMail(r, x.a)
		} else if r.Intn(2) == 0 {
			x.a, x.b = mails[r.Intn(len(mails))], mails[r.Intn(len(mails))]
		}
		x.told = auditAll(x.s, x.w, x.a, x.b)
		for i, code := range x.told.codes {
			seen[fmt.Sprint(i, code)]++
		}
		rows = append(rows, x)
	}
	for _, x := range slices.Backward(rows) {
		if again := auditAll(x.s, x.w, x.a, x.b); again != x.told {
			t.Fatalf("%v, then %v", x.told, again)
		}
		if want := auditByHand(x.s, x.w, x.a, x.b); x.told != want {
			t.Fatalf("%v, not %v", x.told, want)
		}
	}
	for _, word := range []string{"0 0", "0 1", "1 0", "1 1", "2 0", "2 1", "3 0", "3 1"} {
		if seen[word] < 50 {
			t.Errorf("%s: %d times", word, seen[word])
		}
	}
}

// Calls that are under way at once are each answered as alone.
func TestAuditsAtOnce(t *testing.T) {
	s, w, a, b := grownTown().Store, worldOf(grownTown()), town(), laterTown()
	want := auditAll(s, w, a, b)
	var all sync.WaitGroup
	told := make([]auditTold, 8)
	for i := range told {
		all.Add(1)
		go func() {
			defer all.Done()
			told[i] = auditAll(s, w, a, b)
		}()
	}
	all.Wait()
	for _, got := range told {
		if got != want {
			t.Errorf("%v, not %v", got, want)
		}
	}
}
