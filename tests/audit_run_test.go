package tests

import (
	"fmt"
	"math/rand"
	"slices"
	"testing"

	"loop.example/g00340/impl"
)

// audited is a world that began new, with the mail stores that were there at
// first, and when its server was Up the last time.
type audited struct {
	worldCourse
	first, last []impl.Pair
}

func audit(r *rand.Rand, calm bool) *audited {
	return &audited{worldCourse: worldCourse{r: r, w: impl.NewWorld(), calm: calm, seen: map[string]int{}}, first: newPairs(), last: newPairs()}
}

// mustNotLeak asks that a page is free just if nothing leads to it, and that
// without snapshots the tree's pages alone are used.
func mustNotLeak(t *testing.T, what string, s impl.Store) {
	t.Helper()
	mustRefsHold(t, what, s)
	refs, code := impl.CountRefs(s.Heap, rootsOf(s.Super))
	mustCode(t, what, code, impl.OK)
	used := 0
	for page, n := range s.Heap.Nodes {
		if sameNode(n, impl.Node{}) != (refs[page] == 0) {
			t.Errorf("%s: page %d, to which %d lead", what, page, refs[page])
		}
		if refs[page] > 0 {
			used++
		}
	}
	free, code := impl.FreePages(s)
	mustCode(t, what, code, impl.OK)
	if free != 50-used {
		t.Errorf("%s: %d pages are free, %d used", what, free, used)
	}
	if pages, _ := impl.TreePages(s.Heap, s.Super.Root); len(s.Super.Snaps) == 0 && used != len(pages) {
		t.Errorf("%s: %d pages are used, the tree's are %v", what, used, pages)
	}
	mustShare(t, what, s, sharedByHand(s))
}

// holds asks for the promise behind an act: nothing is lost, no page leaks, and
// validities have only risen since all that was there, snapshots too.
func (a *audited) holds(t *testing.T, what string) {
	t.Helper()
	mustHold(t, what, a.w, true)
	if !a.w.Server.Up {
		return
	}
	s := a.w.Server.Store
	mustNotLeak(t, what, s)
	now, code := impl.StorePairs(s)
	mustCode(t, what, code, impl.OK)
	mustRise(t, what, a.last, now, true)
	mustRise(t, what+", from the beginning", a.first, now, true)
	for _, p := range s.Super.Snaps {
		old, code := impl.SnapPairs(s, p.Name)
		mustCode(t, what, code, impl.OK)
		mustRise(t, what+", from the snapshot "+p.Name, old, now, true)
	}
	if !slices.Equal(a.last, now) {
		a.seen["moved"]++
	}
	a.last = now
}

func (a *audited) do(t *testing.T, act impl.WorldAct) worldTold {
	t.Helper()
	got := worldDo(a.w, act)
	a.w = got.world
	a.seen[fmt.Sprint(act.Kind, " ", impl.CodeWord(got.code))]++
	if act.Kind == 3 {
		a.seen[fmt.Sprint("administrator ", act.Admin.Kind, " ", impl.CodeWord(got.code))]++
	}
	if a.w.Has {
		a.seen["doubt"]++
	}
	a.holds(t, actName(act))
	return got
}

// mustHaveSeen asks that each of these came in some of the runs.
func mustHaveSeen(t *testing.T, seen map[string]int, words ...string) {
	t.Helper()
	for _, word := range words {
		if seen[word] == 0 {
			t.Errorf("%s never came: %v", word, seen)
		}
	}
}

// restoringAct gives an administrator's act: mostly one that restores what there
// is.
func restoringAct(r *rand.Rand, w impl.World) impl.WorldAct {
	snap, user := pick(r, "a", "b", "c", "d"), pick(r, "ann", "bob", "ann", "cid")
	if snaps := w.Server.Store.Super.Snaps; len(snaps) > 0 {
		snap = snaps[r.Intn(len(snaps))].Name
	}
	return worldActs(folderBack(snap, user, pick(r, "inbox", "inbox", "work", "far", "a")), userBack(snap, user), userBack(snap, user), snapNow(pick(r, "a", "b", "c", "d")), snapNow(pick(r, "a", "b", "c", "d")),
		snapGone(snap), pruneNow(w.Server.Tick-r.Intn(40)), userMore("cid", "cherry"), later(r.Intn(20)))[r.Intn(9)]
}

// keptWrites are what a crash may keep of what is pending: nothing, all, some.
func keptWrites(r *rand.Rand) []int {
	return [][]int{nil, slices.Repeat([]int{1}, 60), {1}, {0, 1}, {1, 0, 1, 0, 1}, choices(r, 9)[r.Intn(202)]}[r.Intn(6)]
}

// act gives an act of any Kind: a world that is down is restarted soon, one that
// is Up loses its power now and then.
func (a *audited) act() impl.WorldAct {
	n := a.r.Intn(100)
	switch {
	case n < 4 && !a.calm && a.w.Server.Up:
		return impl.WorldAct{Kind: impl.WoArm, Keep: keptWrites(a.r)}
	case n < 6 && !a.calm && a.w.Server.Up:
		return impl.WorldAct{Kind: impl.WoCrash, Keep: keptWrites(a.r)}
	case n < 30 && a.w.Server.Up:
		return restoringAct(a.r, a.w)
	}
	return a.next()
}

// The theorem of the whole, of a world that began new, whatever comes, and
// wherever the power goes.
func TestRunsOfAuditedWorlds(t *testing.T) {
	t.Parallel()
	r := rand.New(rand.NewSource(132))
	seen := map[string]int{}
	for i := range 14 {
		a := audit(r, i%4 == 0)
		a.seen = seen
		for range 300 {
			a.do(t, a.act())
			if t.Failed() {
				return
			}
		}
	}
	mustHaveSeen(t, seen, "moved", "doubt", "1 ok", "1 down", "2 ok", "2 down", "3 ok", "3 down", "4 ok", "5 ok", "6 ok", "7 ok")
	for kind := 1; kind <= 6; kind++ {
		mustHaveSeen(t, seen, fmt.Sprint("administrator ", kind, " ok"))
	}
	for _, word := range []string{"administrator 4 ok", "administrator 5 ok", "7 ok"} {
		if seen[word] < 40 {
			t.Errorf("%s: %d times", word, seen[word])
		}
	}
}

// Whatever act the power goes in, and whatever is kept of it, and whatever comes
// behind it.
func TestEachActIsAuditedWhenThePowerGoes(t *testing.T) {
	r := rand.New(rand.NewSource(133))
	ready := audit(r, true)
	for _, act := range readyActs() {
		ready.do(t, act)
	}
	for _, act := range slices.Concat(thenActs(), worldActs(later(3), toTaker(0, "noop"), snapGone("none"))) {
		for _, keep := range [][]int{nil, slices.Repeat([]int{1}, 60), {1}, {0, 1}, {1, 1, 0, 1}, {0, 0, 0, 0, 1}} {
			for _, power := range [][]impl.WorldAct{worldActs(arming(keep...)), nil} {
				a := *ready
				for _, one := range slices.Concat(power, []impl.WorldAct{act}, worldActs(crashing(keep...), restarting(), userBack("one", "ann"), folderBack("one", "bob", "inbox"), pruneNow(60000))) {
					a.do(t, one)
				}
				if t.Failed() {
					return
				}
			}
		}
	}
}

// The power that goes between any two writes of a commit, by a disk that is cut
// by hand.
func TestCutsAreAudited(t *testing.T) {
	t.Parallel()
	r := rand.New(rand.NewSource(134))
	cuts := 0
	for range 12 {
		a := audit(r, true)
		for range 120 {
			ahead := cloneWorld(a.w)
			act := a.act()
			if act.Kind == impl.WoArm || act.Kind == impl.WoCrash {
				continue
			}
			was := a.last
			got := a.do(t, act)
			now, next := ahead.Server.Store, a.w.Server.Store
			if !ahead.Server.Up || got.code != impl.OK || next.Super.Gen == now.Super.Gen || r.Intn(3) > 0 {
				continue
			}
			writes := append(pageWrites(now, next.Heap, next.Super), write(next.Super.Gen%2, superText(next.Super)))
			for done := range len(writes) + 1 {
				cut := *a
				cut.last = was
				cut.w = cutWorld(doneOn(now.Disk.Sectors, writes[:done]...), ahead.Server.Tick, ahead.Done, a.w.Done)
				cut.do(t, worldAct(restarting()))
				cut.do(t, worldAct(snapNow("cut")))
				cut.do(t, worldAct(userBack("cut", "ann")))
				cuts++
			}
			if t.Failed() {
				return
			}
		}
	}
	if cuts < 200 {
		t.Errorf("%d cuts", cuts)
	}
}

// A world at its last generations, and one of few free pages, leak nothing
// either.
func TestFullWorldsAreAudited(t *testing.T) {
	t.Parallel()
	r := rand.New(rand.NewSource(135))
	seen := map[string]int{}
	for range 2 {
		a := audit(r, true)
		a.seen = seen
		for behind := 0; behind < 100; {
			a.do(t, a.act())
			if a.w.Server.Store.Super.Gen == 200 {
				behind++
			}
			if t.Failed() {
				return
			}
		}
	}
	mustHaveSeen(t, seen, "3 many", "3 full", "administrator 4 many", "administrator 5 many")
}

// The same by WorldRun alone.
func TestWorldRunsAreAudited(t *testing.T) {
	r := rand.New(rand.NewSource(136))
	for range 25 {
		a := audit(r, false)
		var acts []impl.WorldAct
		for range 120 {
			acts = append(acts, a.act())
			a.w = worldDo(a.w, acts[len(acts)-1]).world
		}
		w, _, code := impl.WorldRun(acts)
		mustCode(t, "WorldRun", code, impl.OK)
		a.w = w
		a.holds(t, "WorldRun")
		if t.Failed() {
			return
		}
	}
}
