package tests

import (
	"math"
	"strings"
	"testing"

	"loop.example/g00340/impl"
)

// lastOf gives a store as it is at MaxGen.
func lastOf(s impl.Store) impl.Store {
	s = cloneStore(s)
	s.Disk.Sectors[s.Super.Gen%2] = ""
	s.Super.Gen = 200
	s.Disk.Sectors[0] = superText(s.Super)
	return s
}

// Each fault comes ahead of those behind it: too long, not right, out of its
// bounds, there already, no room, there is none, and MaxGen behind them all.
func TestOrderOfSnapCodes(t *testing.T) {
	four := rightStores()["MaxSnaps"]
	one := stored(super(5, 5, snap("old", 6, 258)), twoTrees())
	wrong := wrongStores()["another Gen"]
	wrongLast := lastOf(one)
	wrongLast.Super.Gen = 199
	for _, row := range []struct {
		what string
		s    impl.Store
		c    snapCall
		want int
	}{
		{"too long, no store, out of bounds", impl.Store{}, take(long(65537), -1), impl.ErrLong},
		{"too long, a wrong store", wrong, take(long(65537), 0), impl.ErrLong},
		{"too long, no room", four, take(long(65537), 0), impl.ErrLong},
		{"too long, MaxGen", lastOf(four), take(long(65537), 60001), impl.ErrLong},
		{"no store, out of bounds", impl.Store{}, take(long(65536), -1), impl.ErrBad},
		{"a wrong store, out of bounds", wrong, take("", 60001), impl.ErrBad},
		{"a wrong store, there already", wrong, take("old", 0), impl.ErrBad},
		{"a wrong store, MaxGen", wrongLast, take("new", 0), impl.ErrBad},
		{"a name of MaxText bytes", one, take(long(65536), 0), impl.ErrRange},
		{"a tick, there already", one, take("old", 60001), impl.ErrRange},
		{"a tick, no room", four, take("new", -1), impl.ErrRange},
		{"a name, no room", four, take("9", 0), impl.ErrRange},
		{"a name, MaxGen", lastOf(one), take("", 0), impl.ErrRange},
		{"there already", one, take("old", 0), impl.ErrTwice},
		{"there already, of that tick", one, take("old", 258), impl.ErrTwice},
		{"there already, no room", four, take("z", 0), impl.ErrTwice},
		{"there already, MaxGen", lastOf(one), take("old", 0), impl.ErrTwice},
		{"there already, no room, MaxGen", lastOf(four), take("a", 0), impl.ErrTwice},
		{"no room", four, take("b", 0), impl.ErrFull},
		{"no room, MaxGen", lastOf(four), take("b", 0), impl.ErrFull},
		{"MaxGen", lastOf(one), take("new", 0), impl.ErrMany},
		{"too long, no store", impl.Store{}, dropSnap(long(65537)), impl.ErrLong},
		{"too long, MaxGen", lastOf(one), dropSnap(long(65537)), impl.ErrLong},
		{"a wrong store, none", wrong, dropSnap("new"), impl.ErrBad},
		{"a wrong store, there", wrong, dropSnap("old"), impl.ErrBad},
		{"a wrong store, MaxGen", wrongLast, dropSnap("old"), impl.ErrBad},
		{"none", one, dropSnap("new"), impl.ErrNone},
		{"none, MaxGen", lastOf(one), dropSnap("new"), impl.ErrNone},
		{"MaxGen", lastOf(one), dropSnap("old"), impl.ErrMany},
		{"no store", impl.Store{}, prune(0), impl.ErrBad},
		{"a wrong store, some", wrong, prune(math.MaxInt), impl.ErrBad},
		{"a wrong store, MaxGen", wrongLast, prune(math.MaxInt), impl.ErrBad},
		{"none", one, prune(258), impl.ErrNone},
		{"none, MaxGen", lastOf(one), prune(258), impl.ErrNone},
		{"no snapshots", stored(super(4, 5), two()), prune(math.MaxInt), impl.ErrNone},
		{"no snapshots, MaxGen", lastOf(stored(super(4, 5), two())), prune(math.MaxInt), impl.ErrNone},
		{"MaxGen", lastOf(one), prune(259), impl.ErrMany},
	} {
		for _, keep := range [][]int{nil, {1, 1}} {
			s := row.s
			if keep != nil && len(s.Disk.Sectors) > 0 {
				s = armed(s, keep...)
			}
			want, alive := s, true
			if row.want == impl.ErrLong || row.want == impl.ErrBad || row.want == impl.ErrRange {
				want, alive = impl.Store{}, false
			}
			got, gotAlive, code := row.c.do(s)
			mustCommit(t, row.c.what+", "+row.what, got, gotAlive, code, want, alive, row.want)
		}
	}
}

// Names of 0, 1, 8 and 9 bytes, and names that are none.
func TestNamesOfSnapshots(t *testing.T) {
	tree := stored(super(4, 5, snap("old", 5, 1)), two())
	right := []string{"a", "z", "A", "Z", "_", "a1", "_9", "ABCDEFGH", "abcdefgh", "________", "x2345678", "oldd", "ol", "OLD"}
	wrong := []string{
		"", " ", "1", "9a", "-", "a-b", "a.b", "a b", " a", "a ", "a/b", "a\n", "a\x00", "\x00", "\xff", "ä", "aä",
		"@", "[", "`", "{", "a@", "a[", "a`", "a{", "a/", "a:", "/", ":", "abcdefghi", "_________", "1234567", strings.Repeat("n", 40), strings.Repeat("n", 41), long(65536),
	}
	for _, name := range right {
		_, alive, code := holdsSnapCall(t, "a store", tree, take(name, 5))
		mustCode(t, "TakeSnap "+name, code, impl.OK)
		if !alive {
			t.Errorf("%q: the power went", name)
		}
	}
	for _, name := range wrong {
		got, alive, code := impl.TakeSnap(tree, name, 5)
		mustCommit(t, "TakeSnap "+name, got, alive, code, impl.Store{}, false, impl.ErrRange)
		got, alive, code = impl.DropSnap(tree, name)
		mustCommit(t, "DropSnap "+name, got, alive, code, tree, true, impl.ErrNone)
		pairs, code := impl.SnapPairs(tree, name)
		mustCode(t, "SnapPairs "+name, code, impl.ErrNone)
		mustPairs(t, "SnapPairs "+name, pairs, nil)
	}
}

func TestTicksOfSnapshots(t *testing.T) {
	tree := stored(super(4, 5), two())
	for _, tick := range []int{0, 1, 255, 256, 59999, 60000} {
		got, _, code := holdsSnapCall(t, "a store", tree, take("a", tick))
		mustCode(t, "a tick", code, impl.OK)
		opened, _ := impl.OpenStore(got.Disk)
		if p := opened.Super.Snaps[0]; p != snap("a", 5, tick) {
			t.Errorf("tick %d: %v", tick, p)
		}
	}
	for _, tick := range []int{math.MinInt, -60000, -1, 60001, 65535, 65536, 65537, math.MaxInt} {
		got, alive, code := impl.TakeSnap(tree, "a", tick)
		mustCommit(t, "a tick", got, alive, code, impl.Store{}, false, impl.ErrRange)
	}
}

// Three snapshots leave room for one, four for none, dropped ones for theirs.
func TestMostSnapshots(t *testing.T) {
	s := stored(super(4, 5), two())
	for _, name := range []string{"d", "a", "c", "b"} {
		var code int
		s, _, code = holdsSnapCall(t, "a store", s, take(name, 5))
		mustCode(t, name, code, impl.OK)
	}
	got, alive, code := impl.TakeSnap(s, "e", 5)
	mustCommit(t, "the fifth", got, alive, code, s, true, impl.ErrFull)
	for _, c := range []snapCall{dropSnap("a"), dropSnap("d"), prune(6)} {
		less, _, code := holdsSnapCall(t, "four", s, c)
		mustCode(t, c.what, code, impl.OK)
		_, _, code = holdsSnapCall(t, "fewer", less, take("e", 5))
		mustCode(t, "the fifth behind "+c.what, code, impl.OK)
	}
}

// The last Gen is reached by each call, and left by none.
func TestLastGenOfSnapshots(t *testing.T) {
	s := stored(super(199, 5, snap("a", 6, 3), snap("b", 5, 4)), twoTrees())
	for _, c := range []snapCall{take("c", 5), dropSnap("a"), prune(4), prune(5)} {
		last, alive, code := holdsSnapCall(t, "one below MaxGen", s, c)
		mustCode(t, c.what, code, impl.OK)
		if last.Super.Gen != 200 || !alive {
			t.Errorf("%s: Gen %d, %t", c.what, last.Super.Gen, alive)
		}
		got, alive, code := impl.TakeSnap(last, "d", 5)
		mustCommit(t, "TakeSnap behind "+c.what, got, alive, code, last, true, impl.ErrMany)
		if namedIn(last, "b") {
			got, alive, code = impl.DropSnap(last, "b")
			mustCommit(t, "DropSnap behind "+c.what, got, alive, code, last, true, impl.ErrMany)
			got, alive, code = impl.PruneSnaps(last, 5)
			mustCommit(t, "PruneSnaps behind "+c.what, got, alive, code, last, true, impl.ErrMany)
			pairs, code := impl.SnapPairs(last, "b")
			mustCode(t, "SnapPairs at MaxGen", code, impl.OK)
			mustPairs(t, "SnapPairs at MaxGen", pairs, keyed("a", "b", "c", "d"))
		}
	}
}

func TestSnapshotsOfWrongStores(t *testing.T) {
	for what, s := range wrongStores() {
		for _, c := range append(snapCalls(), take("", -1), take("old", 258), dropSnap(""), prune(math.MinInt)) {
			got, alive, code := c.do(s)
			mustCommit(t, c.what+", "+what, got, alive, code, impl.Store{}, false, impl.ErrBad)
		}
		for _, name := range []string{"old", "new", ""} {
			pairs, code := impl.SnapPairs(s, name)
			mustCode(t, "SnapPairs, "+what, code, impl.ErrBad)
			mustPairs(t, "SnapPairs, "+what, pairs, nil)
		}
	}
}

func TestOrderOfSnapPairsCodes(t *testing.T) {
	s := stored(super(5, 5, snap("old", 6, 258)), twoTrees())
	for _, row := range []struct {
		what string
		s    impl.Store
		name string
		want int
	}{
		{"too long, no store", impl.Store{}, long(65537), impl.ErrLong},
		{"too long", s, long(65537), impl.ErrLong},
		{"no store", impl.Store{}, long(65536), impl.ErrBad},
		{"none of MaxText bytes", s, long(65536), impl.ErrNone},
		{"none", s, "new", impl.ErrNone},
		{"a beginning", s, "ol", impl.ErrNone},
		{"more than the name", s, "old1", impl.ErrNone},
		{"of no snapshots", impl.NewStore(), "old", impl.ErrNone},
	} {
		pairs, code := impl.SnapPairs(row.s, row.name)
		mustCode(t, row.what, code, row.want)
		mustPairs(t, row.what, pairs, nil)
	}
}
