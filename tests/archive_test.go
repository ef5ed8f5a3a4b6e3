package tests

import (
	"fmt"
	"math/rand"
	"slices"
	"testing"

	"loop.example/g00340/impl"
)

func TestArchiveOfStores(t *testing.T) {
	seen := map[int]int{}
	stores := rightStores()
	stores["two snapshots"] = storeOf(keyed("now"), old{"b", 1, keyed("a")}, old{"a", 2, keyed("b")})
	for what, s := range stores {
		seen[len(holdsArchive(t, what, s))]++
	}
	for what, s := range rightServers() {
		if s.Up {
			seen[len(holdsArchive(t, "server: "+what, s.Store))]++
		}
	}
	for n := range 5 {
		if seen[n] == 0 {
			t.Errorf("no store of %d snapshots: %v", n, seen)
		}
	}
}

// A store without snapshots has an archive of nothing, whatever its tree has.
func TestArchiveOfNoSnapshots(t *testing.T) {
	some, _, _ := impl.PutPairs(impl.NewStore(), keyed("a", "b"))
	for what, s := range map[string]impl.Store{"NewStore": impl.NewStore(), "pairs": some, "60 pairs": stored(super(99, 49), ofPairs(60))} {
		chain, code := impl.ChainOf(s)
		mustCode(t, what, code, impl.OK)
		texts, bytes := impl.ArchiveBytes(chain)
		mustCode(t, what, bytes, impl.OK)
		if len(chain) > 0 || len(texts) > 0 {
			t.Errorf("%s: %v, %q", what, chain, texts)
		}
		mustLeadTo(t, what, texts, nil)
	}
}

// The bytes of an archive of two, all of them written out.
func TestArchiveWrittenOut(t *testing.T) {
	s := storeOf(keyed("zz"), old{"new", 7, pairsOf("a", "1", "b", "")}, old{"later", 8, pairsOf("b", "x")})
	head, diffs := "\x00\x00\x00\x00"+"\x02\x00\x00\x00\x03new", "\x02\x03\x00\x01a\x00\x00\x00\x011"+"\x02\x03\x00\x01b\x00\x00\x00\x00"
	sum := number(impl.Check32([]byte("\x02\x00\x01a\x00\x011\x02\x00\x01b\x00\x00")))
	link := number(impl.Check32([]byte(head + diffs + sum)))
	first := "backup" + head + "\x02" + diffs + sum + link
	head, diffs = link+"\x02\x00\x03new\x00\x05later", "\x01\x03\x00\x01a\x00\x011\x00\x00"+"\x03\x03\x00\x01b\x00\x00\x00\x01x"
	sum = number(impl.Check32([]byte("\x02\x00\x01b\x00\x01x")))
	second := "backup" + head + "\x02" + diffs + sum + number(impl.Check32([]byte(head+diffs+sum)))
	texts := holdsArchive(t, "written out", s)
	if !slices.Equal(texts, []string{first, second}) {
		t.Errorf("%q, not %q", texts, []string{first, second})
	}
}

// What comes first is told by the Tick, of alike ones by the Name, byte by byte.
func TestChainGoesByTicks(t *testing.T) {
	trees := []int{5, 6, -1, 9}
	for _, row := range []struct {
		names string
		ticks []int
		want  string
	}{
		{"a", []int{60000}, "a"},
		{"ab", []int{1, 2}, "a b"},
		{"ab", []int{2, 1}, "b a"},
		{"ab", []int{7, 7}, "a b"},
		{"ab", []int{60000, 0}, "b a"},
		{"abcd", []int{1, 2, 3, 4}, "a b c d"},
		{"abcd", []int{4, 3, 2, 1}, "d c b a"},
		{"abcd", []int{7, 7, 7, 7}, "a b c d"},
		{"abcd", []int{7, 7, 7, 6}, "d a b c"},
		{"abcd", []int{8, 7, 7, 7}, "b c d a"},
		{"abcd", []int{2, 1, 2, 1}, "b d a c"},
		{"abcd", []int{1, 2, 1, 2}, "a c b d"},
		{"abcd", []int{9, 0, 60000, 9}, "b a d c"},
		{"abcd", []int{255, 256, 2, 10}, "c d a b"},
		{"AZ_a", []int{5, 5, 5, 5}, "A Z _ a"},
		{"AZ_a", []int{6, 5, 6, 5}, "Z a A _"},
	} {
		for turn := range trees {
			var snaps []impl.Snap
			for i, tick := range row.ticks {
				snaps = append(snaps, snap(row.names[i:i+1], trees[(i+turn)%4], tick))
			}
			what := fmt.Sprint(row.names, row.ticks, turn)
			s := stored(super(9, -1, snaps...), twoTrees())
			holdsArchive(t, what, s)
			chain, _ := impl.ChainOf(s)
			if namesIn(chain) != row.want {
				t.Errorf("%s: by turns %s, not %s", what, namesIn(chain), row.want)
			}
		}
	}
	s := stored(super(9, 5, snap("a", 5, 1), snap("a0", 6, 1), snap("aa", 9, 1), snap("aaaaaaa8", -1, 1)), twoTrees())
	chain, _ := impl.ChainOf(s)
	if namesIn(chain) != "a a0 aa aaaaaaa8" {
		t.Errorf("beginnings: %s", namesIn(chain))
	}
}

// The first one tells of all of its pairs, each further one of what is another
// than in the one ahead alone.
func TestChainTellsDifferences(t *testing.T) {
	s := storeOf(keyed("now"), old{"z", 1, pairsOf("a", "1", "b", "2")}, old{"y", 2, pairsOf("a", "1", "b", "2")},
		old{"x", 3, nil}, old{"w", 4, pairsOf("b", "2")})
	chain := mustChainOf(t, "differences", s)
	for i, want := range [][]impl.Diff{{come("a", "1"), come("b", "2")}, nil, {gone("a", "1"), gone("b", "2")}, {come("b", "2")}} {
		mustDiff(t, fmt.Sprint("backup ", i), chain[i].Diffs, want)
	}
	for i, want := range []string{"", "z", "y", "x"} {
		if chain[i].From != want || (chain[i].Chain == 0) != (i == 0) {
			t.Errorf("backup %d: From %q, Chain %d", i, chain[i].From, chain[i].Chain)
		}
	}
	if chain[0].Sum != chain[1].Sum || chain[2].Sum != 0 || chain[3].Sum == chain[0].Sum {
		t.Errorf("sums %v", chain)
	}
	holdsArchive(t, "differences", s)
}

// Snapshots without pairs, at each place of a chain, or all of them.
func TestArchivesWithoutPairs(t *testing.T) {
	for bits := range 16 {
		var olds []old
		for i := range 4 {
			o := old{name: string([]byte{byte('d' - i)}), tick: i / 2}
			if bits&(1<<i) != 0 {
				o.pairs = pairsOf("a", fmt.Sprint(i), fmt.Sprint("k", i), "")
			}
			olds = append(olds, o)
		}
		holdsArchive(t, fmt.Sprintf("pairs %04b", bits), storeOf(keyed("now"), olds...))
	}
}

// Pairs at their bounds: the most that there may be, of other keys from one to
// the next, with the longest keys and values.
func TestArchivesOfManyPairs(t *testing.T) {
	for what, olds := range map[string][]old{
		"60 pairs":             {{"a", 1, manyPairs(60)}},
		"60, then none":        {{"a", 1, manyPairs(60)}, {"b", 2, nil}},
		"45 of other values":   {{"a", 2, otherValues(45)}, {"b", 1, manyPairs(60)}},
		"45 of other keys":     {{"a", 1, manyPairs(60)}, {"b", 2, otherKeys(45)}},
		"the longest ones":     {{"a", 1, pairsOf("k", long(90))}, {"b", 2, pairsOf("k", long(89), long(30), long(90))}},
		"all bytes of a byte":  {{"a", 1, pairsOf("\x00", "\xff")}, {"b", 2, pairsOf("\x00", "\x00", "\xff", "\x80")}},
		"mail stores":          {{"a", 1, town()}, {"b", 2, laterTown()}},
		"back to what was":     {{"a", 1, town()}, {"b", 2, nil}, {"c", 3, town()}},
		"names like the words": {{"backup", 5, pairsOf("backup", "backup")}, {"s", 4, pairsOf("backup", "")}},
	} {
		holdsArchive(t, what, packed(nil, olds...).Store)
	}
}

// A tree that moves on, and snapshots that are dropped or taken again, leave
// the others in the archive as they were.
func TestArchiveOfWhatMovesOn(t *testing.T) {
	s := impl.NewStore()
	was := map[string][]impl.Pair{}
	for i, name := range []string{"m", "c", "x", "a"} {
		list := manyPairs(8)[:4+i]
		list[i].Value = "moved"
		s, _, _ = impl.PutPairs(s, list)
		s, _, _ = impl.TakeSnap(s, name, 10*i)
		was[name] = list
	}
	texts := holdsArchive(t, "four", s)
	for _, list := range [][]impl.Pair{otherKeys(9), nil, manyPairs(9)} {
		s, _, _ = impl.PutPairs(s, list)
		if again := holdsArchive(t, "moved on", s); !slices.Equal(again, texts) {
			t.Error("the archive moves with the tree")
		}
	}
	mustLeadTo(t, "the last", texts, was["a"])
	opened, code := impl.OpenStore(s.Disk)
	mustCode(t, "OpenStore", code, impl.OK)
	if again := holdsArchive(t, "opened", opened); !slices.Equal(again, texts) {
		t.Error("the archive is another one when the store is opened")
	}
	s, _, _ = impl.DropSnap(s, "c")
	mustLeadTo(t, "one dropped", holdsArchive(t, "one dropped", s), was["a"])
	s, _, _ = impl.DropSnap(s, "a")
	mustLeadTo(t, "the last dropped", holdsArchive(t, "the last dropped", s), was["x"])
	s, _, _ = impl.TakeSnap(s, "c", 5)
	mustLeadTo(t, "taken again, between", holdsArchive(t, "taken again", s), was["x"])
	mustLeadTo(t, "the first two", holdsArchive(t, "taken again", s)[:2], manyPairs(9))
	s, _, _ = impl.PruneSnaps(s, 20)
	mustLeadTo(t, "pruned", holdsArchive(t, "pruned", s), was["x"])
}

// An armed disk is right: an archive writes nothing, so no power goes.
func TestArchiveOfAnArmedStore(t *testing.T) {
	s := fourOlds()
	if !slices.Equal(holdsArchive(t, "armed", armed(s, 1)), holdsArchive(t, "not armed", s)) {
		t.Error("the archive of an armed store is another one")
	}
}

// Runs of puts and of snapshots that come and go, with the power going: the
// archive is that of the snapshots as a model has them.
func TestRunsOfArchives(t *testing.T) {
	t.Parallel()
	r := rand.New(rand.NewSource(140))
	seen := map[int]int{}
	for range 20 {
		run := &snapRun{storeRun{s: impl.NewStore(), snaps: map[string][]impl.Pair{}}, map[string]int{}}
		for range 50 {
			if r.Intn(8) == 0 {
				run.s = armed(run.s, someKeep(r)...)
			}
			if r.Intn(3) > 0 {
				run.call(t, r)
			} else {
				run.put(t, r)
			}
			texts := holdsArchive(t, "a run", run.s)
			seen[len(texts)]++
			if len(texts) > 0 {
				last := inTurn(run.s)[len(texts)-1].Name
				mustLeadTo(t, "a run", texts, run.snaps[last])
			}
			for name, tick := range run.ticks {
				if last := inTurn(run.s)[len(texts)-1]; tick > last.Tick || tick == last.Tick && name > last.Name {
					t.Errorf("%s of %d is not the last one, but %v", name, tick, last)
				}
			}
			if t.Failed() {
				return
			}
		}
	}
	if seen[0] < 20 || seen[4] < 20 {
		t.Errorf("of how many snapshots: %v", seen)
	}
}
