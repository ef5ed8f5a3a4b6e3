package tests

import (
	"fmt"
	"regexp"
	"slices"
	"strings"
	"testing"

	"loop.example/g00340/impl"
)

var shortWord = regexp.MustCompile(`\A[A-Za-z_][A-Za-z_0-9]{0,7}\z`)

// snapCall is a call that changes the snapshots of a store, as the program
// does it and as chapter 6 tells it of right stores.
type snapCall struct {
	what string
	do   func(s impl.Store) (impl.Store, bool, int)
	hand func(s impl.Store) (impl.Store, bool, int)
}

// snapsByHand commits the tree with these snapshots.
func snapsByHand(s impl.Store, snaps []impl.Snap) (impl.Store, bool, int) {
	if s.Super.Gen == 200 {
		return s, true, impl.ErrMany
	}
	out, alive := commitByHand(s, s.Heap, s.Super.Root, snaps)
	return out, alive, impl.OK
}

func namedIn(s impl.Store, name string) bool {
	return slices.ContainsFunc(s.Super.Snaps, func(p impl.Snap) bool { return p.Name == name })
}

func take(name string, tick int) snapCall {
	return snapCall{
		fmt.Sprintf("TakeSnap(%.20q, %d)", name, tick),
		func(s impl.Store) (impl.Store, bool, int) { return impl.TakeSnap(s, name, tick) },
		func(s impl.Store) (impl.Store, bool, int) {
			if len(name) > 65536 {
				return impl.Store{}, false, impl.ErrLong
			}
			if !shortWord.MatchString(name) || tick < 0 || tick > 60000 {
				return impl.Store{}, false, impl.ErrRange
			}
			if namedIn(s, name) {
				return s, true, impl.ErrTwice
			}
			if len(s.Super.Snaps) == 4 {
				return s, true, impl.ErrFull
			}
			snaps := append(slices.Clone(s.Super.Snaps), snap(name, s.Super.Root, tick))
			slices.SortFunc(snaps, func(a, b impl.Snap) int { return strings.Compare(a.Name, b.Name) })
			return snapsByHand(s, snaps)
		},
	}
}

// without drops the snapshots that gone tells of, if there is one.
func without(s impl.Store, gone func(p impl.Snap) bool) (impl.Store, bool, int) {
	snaps := slices.DeleteFunc(slices.Clone(s.Super.Snaps), gone)
	if len(snaps) == len(s.Super.Snaps) {
		return s, true, impl.ErrNone
	}
	return snapsByHand(s, snaps)
}

func dropSnap(name string) snapCall {
	return snapCall{
		fmt.Sprintf("DropSnap(%.20q)", name),
		func(s impl.Store) (impl.Store, bool, int) { return impl.DropSnap(s, name) },
		func(s impl.Store) (impl.Store, bool, int) {
			if len(name) > 65536 {
				return impl.Store{}, false, impl.ErrLong
			}
			return without(s, func(p impl.Snap) bool { return p.Name == name })
		},
	}
}

func prune(before int) snapCall {
	return snapCall{
		fmt.Sprintf("PruneSnaps(%d)", before),
		func(s impl.Store) (impl.Store, bool, int) { return impl.PruneSnaps(s, before) },
		func(s impl.Store) (impl.Store, bool, int) {
			return without(s, func(p impl.Snap) bool { return p.Tick < before })
		},
	}
}

// mustSnaps asks each snapshot of a store for its pairs.
func mustSnaps(t *testing.T, what string, s impl.Store) {
	t.Helper()
	for _, p := range s.Super.Snaps {
		pairs, code := impl.SnapPairs(s, p.Name)
		mustCode(t, what+", snapshot "+p.Name, code, impl.OK)
		mustPairs(t, what+", snapshot "+p.Name, pairs, pairsBelow(s.Heap, p.Root))
	}
}

// mustOthersStay asks that the tree and the snapshots that both stores have
// are as they were.
func mustOthersStay(t *testing.T, what string, was, is impl.Store) {
	t.Helper()
	mustPairs(t, what+", the tree", pairsBelow(is.Heap, is.Super.Root), pairsBelow(was.Heap, was.Super.Root))
	for _, p := range was.Super.Snaps {
		if namedIn(is, p.Name) {
			pairs, code := impl.SnapPairs(is, p.Name)
			mustCode(t, what+", snapshot "+p.Name, code, impl.OK)
			mustPairs(t, what+", snapshot "+p.Name, pairs, pairsBelow(was.Heap, p.Root))
		}
	}
}

// mustOneSector asks that nothing but one superblock is written.
func mustOneSector(t *testing.T, what string, was, is impl.Store) {
	t.Helper()
	for at, text := range was.Disk.Sectors {
		if at != is.Super.Gen%2 && is.Disk.Sectors[at] != text {
			t.Errorf("%s: sector %d is written", what, at)
		}
	}
}

// holdsSnapCall does a call on a right store and holds all that comes of it
// against what is done by hand.
func holdsSnapCall(t *testing.T, of string, s impl.Store, c snapCall) (impl.Store, bool, int) {
	t.Helper()
	what := c.what + " of " + of
	got, alive, code := c.do(s)
	want, wantAlive, wantCode := c.hand(s)
	mustCommit(t, what, got, alive, code, want, wantAlive, wantCode)
	if t.Failed() || len(got.Disk.Sectors) == 0 {
		return got, alive, code
	}
	mustAsk(t, what, got)
	mustSnaps(t, what, got)
	mustOpen(t, what, got.Disk, got)
	mustOthersStay(t, what, s, got)
	mustOneSector(t, what, s, got)
	return got, alive, code
}
