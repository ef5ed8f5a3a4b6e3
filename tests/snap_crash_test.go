package tests

import (
	"fmt"
	"slices"
	"testing"

	"loop.example/g00340/impl"
)

// snapCalls are calls that change the snapshots of most of the right stores.
func snapCalls() []snapCall {
	return []snapCall{take("b", 0), take("y", 60000), dropSnap("a"), dropSnap("old"), dropSnap("z"), prune(1), prune(300), prune(60001)}
}

// snapCommits does a call on each right store on which it is done, and tells
// what comes of it while the power stays.
func snapCommits(t *testing.T, each func(what string, c snapCall, s, done impl.Store)) {
	t.Helper()
	kinds := map[string]int{}
	for of, s := range rightStores() {
		if s.Disk.Armed {
			continue
		}
		for _, c := range snapCalls() {
			done, alive, code := c.do(s)
			if code != impl.OK {
				continue
			}
			if !alive {
				t.Errorf("%s of %s: the power went", c.what, of)
			}
			kinds[c.what[:4]]++
			each(c.what+" of "+of, c, s, done)
		}
	}
	for _, kind := range []string{"Take", "Drop", "Prun"} {
		if kinds[kind] < 4 {
			t.Errorf("only %d calls of %s are done", kinds[kind], kind)
		}
	}
}

// A snapshot that is taken or dropped has no page to write: the power goes
// ahead of the superblock, whatever is kept. The store is as it was then, and
// takes the call.
func TestPowerGoesAtASnapshot(t *testing.T) {
	snapCommits(t, func(what string, c snapCall, s, done impl.Store) {
		for _, keep := range [][]int{nil, {0}, {1}, {1, 1, 1}, slices.Repeat([]int{1}, 500)} {
			cut, alive, code := c.do(armed(s, keep...))
			mustCommit(t, what+", the power goes", cut, alive, code, s, false, impl.OK)
			mustAsk(t, what+", the power goes", cut)
			mustSnaps(t, what+", the power goes", cut)
			mustOpen(t, what+", the power goes", cut.Disk, s)
			again, alive, code := c.do(cut)
			mustCommit(t, what+", again", again, alive, code, done, true, impl.OK)
			opened, _ := impl.OpenStore(cut.Disk)
			again, alive, code = c.do(opened)
			mustCommit(t, what+", opened and again", again, alive, code, done, true, impl.OK)
		}
	})
}

func TestPowerGoesAtTheSuperblockOfASnapshot(t *testing.T) {
	snapCommits(t, func(what string, c snapCall, s, done impl.Store) {
		mustTurnAtTheSuperblock(t, what, s, done)
	})
}

// Without the newest superblock the snapshots are as they were ahead of it.
func TestTheSnapshotsAheadStay(t *testing.T) {
	snapCommits(t, func(what string, c snapCall, s, done impl.Store) {
		if s.Disk.Sectors[s.Super.Gen%2] != superText(s.Super) {
			return
		}
		broken := withSector(done, done.Super.Gen%2, "waste")
		mustOpen(t, what+", the superblock broken", broken.Disk, s)
	})
}

// A call with a code leaves the disk armed: there was no sync.
func TestACodeLeavesTheDiskArmed(t *testing.T) {
	full := rightStores()["MaxSnaps"]
	for _, c := range []snapCall{take("a", 1), take("b", 1), dropSnap("b"), prune(0)} {
		s := armed(full, 1, 0, 1)
		got, alive, code := c.do(s)
		if code == impl.OK {
			t.Errorf("%s is done", c.what)
		}
		mustCommit(t, c.what, got, alive, code, s, true, code)
	}
}

// New pages that are there without their superblock: the store is opened as
// it was, with the snapshots as they were, and their pairs.
func TestSnapshotsLastWhenThePowerGoesAtAPut(t *testing.T) {
	for _, of := range []string{"trees that share a leaf", "MaxSnaps", "a snapshot alone"} {
		s := rightStores()[of]
		for what, list := range puts() {
			cut, alive, code := impl.PutPairs(armed(s, slices.Repeat([]int{1}, 50)...), list)
			mustCode(t, what+" into "+of, code, impl.OK)
			if alive {
				t.Errorf("%s into %s: the power stayed", what, of)
			}
			opened, code := impl.OpenStore(cut.Disk)
			mustCode(t, what+" into "+of, code, impl.OK)
			mustSuper(t, what+" into "+of, opened.Super, s.Super)
			for _, p := range s.Super.Snaps {
				pairs, code := impl.SnapPairs(opened, p.Name)
				mustCode(t, fmt.Sprintf("%s into %s, %s", what, of, p.Name), code, impl.OK)
				mustPairs(t, fmt.Sprintf("%s into %s, %s", what, of, p.Name), pairs, pairsBelow(s.Heap, p.Root))
			}
		}
	}
}
