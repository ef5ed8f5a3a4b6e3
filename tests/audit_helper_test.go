package tests

import (
	"strings"
	"testing"

	"loop.example/g00340/impl"
)

// sharedByHand counts the pages below more than one root, tree by tree.
func sharedByHand(s impl.Store) int {
	trees := map[int]int{}
	for _, root := range rootsOf(s.Super) {
		for page := range pagesBelow(s.Heap, root) {
			trees[page]++
		}
	}
	shared := 0
	for _, n := range trees {
		if n > 1 {
			shared++
		}
	}
	return shared
}

// refsByHand tells whether each page of a right store has a node just if a root
// or a page that is reached leads to it.
func refsByHand(s impl.Store) bool {
	led := map[int]bool{}
	for page := range pagesBelow(s.Heap, rootsOf(s.Super)...) {
		for _, kid := range s.Heap.Nodes[page].Kids {
			led[kid] = true
		}
	}
	for _, root := range rootsOf(s.Super) {
		led[root] = true
	}
	for page, n := range s.Heap.Nodes {
		if led[page] == sameNode(n, impl.Node{}) {
			return false
		}
	}
	return true
}

// holdsByHand tells whether nothing of a right world is lost.
func holdsByHand(w impl.World) bool {
	if w.Server.Up && !alikeStates(stateOnStore(w.Server.Store), w.Done) {
		return false
	}
	return !w.Lost
}

// risesByHand tells by keys and values whether a mail store may stand behind
// another one.
func risesByHand(a, b []impl.Pair) bool {
	was, is := boxOf(a), boxOf(b)
	wrong := whole(is["v"]) < whole(was["v"])
	for key, value := range is {
		if !strings.HasPrefix(key, "f/") {
			continue
		}
		now := strings.Fields(value)
		old := strings.Fields(was[key] + " 0 0")
		fresh := whole(now[0]) >= whole(was["v"])
		stays := was.has(key) && now[0] == old[0] && whole(now[1]) >= whole(old[1])
		wrong = wrong || !fresh && !stays
	}
	return !wrong
}

func mustShare(t *testing.T, what string, s impl.Store, want int) {
	t.Helper()
	n, code := impl.PagesShared(s)
	mustCode(t, what, code, impl.OK)
	if n != want || n != sharedByHand(s) {
		t.Errorf("%s: %d pages are shared, not %d, by hand %d", what, n, want, sharedByHand(s))
	}
}

func mustRefsHold(t *testing.T, what string, s impl.Store) {
	t.Helper()
	ok, code := impl.RefsHold(s)
	mustCode(t, what, code, impl.OK)
	if !ok || !refsByHand(s) {
		t.Errorf("%s: RefsHold is %t, by hand %t", what, ok, refsByHand(s))
	}
}

func mustHold(t *testing.T, what string, w impl.World, want bool) {
	t.Helper()
	ok, code := impl.WorldHolds(w)
	mustCode(t, what, code, impl.OK)
	if ok != want || ok != holdsByHand(w) {
		t.Errorf("%s: WorldHolds is %t, not %t, by hand %t", what, ok, want, holdsByHand(w))
	}
}

func mustRise(t *testing.T, what string, a, b []impl.Pair, want bool) {
	t.Helper()
	ok, code := impl.ValidityRises(a, b)
	mustCode(t, what, code, impl.OK)
	if ok != want || ok != risesByHand(a, b) {
		t.Errorf("%s: ValidityRises is %t, not %t, by hand %t: from %q to %q", what, ok, want, risesByHand(a, b), a, b)
	}
}

func mustNotRise(t *testing.T, what string, a, b []impl.Pair, want int) {
	t.Helper()
	ok, code := impl.ValidityRises(a, b)
	mustCode(t, what, code, want)
	if ok {
		t.Errorf("%s: true with a code", what)
	}
}
