package tests

import (
	"fmt"
	"math/rand"
	"slices"
	"strings"
	"sync"
	"testing"

	"loop.example/g00340/impl"
)

// chainsApart asks that no two backups of a chain share their differences.
func chainsApart(list []impl.Backup) bool {
	for i, b := range list {
		spoil(b.Diffs, markDiff)
		for _, later := range list[i+1:] {
			if slices.Contains(later.Diffs, markDiff) {
				return false
			}
		}
	}
	return true
}

func TestChainOfKeepsApart(t *testing.T) {
	stores := allStores()
	stores["four"] = fourOlds()
	stores["alike"] = storeOf(nil, old{"b", 1, keyed("a")}, old{"a", 2, keyed("b")}, old{"c", 3, keyed("a")}, old{"d", 4, keyed("b")})
	for what, s := range stores {
		in, same := guardedStore(s)
		first, code := impl.ChainOf(in)
		second, again := impl.ChainOf(in)
		if !same() || code != again || !sameChain(first, second) {
			t.Fatalf("%s: an argument or the second answer is another one", what)
		}
		was := cloneBackups(second)
		if !chainsApart(first) {
			t.Fatalf("%s: two lists of the answer share memory", what)
		}
		spoil(first, markBackup())
		if !same() {
			t.Fatalf("%s: the answer shares memory with an argument", what)
		}
		spoilStore(in)
		if !sameChain(second, was) {
			t.Fatalf("%s: the answer changes with an argument or another answer", what)
		}
	}
}

func TestArchiveBytesKeepApart(t *testing.T) {
	for what, list := range manyChains() {
		in, same := guardedBackups(list)
		first, code := impl.ArchiveBytes(in)
		second, again := impl.ArchiveBytes(in)
		if !same() || code != again || !slices.Equal(first, second) {
			t.Fatalf("%s: an argument or the second answer is another one", what)
		}
		was := strings.Join(second, "")
		spoil(first, markText)
		for _, b := range in {
			spoil(b.Diffs, markDiff)
		}
		spoil(in, markBackup())
		if strings.Join(second, "") != was {
			t.Fatalf("%s: the answer changes with an argument or another answer", what)
		}
	}
}

// manyArchives lead RestoreArchive to each of its ends.
func manyArchives() map[string][]string {
	right := archiveOf(fourOlds())
	out := map[string][]string{"nil": nil, "empty": {}, "one too long": {long(65537)}, "the last too long": append(slices.Clone(right), long(65537)),
		"junk": {"junk"}, "another bit": {right[0], flipped(right[1], 20)}, "from the second on": right[1:], "the last twice": append(slices.Clone(right), right[3]),
		"20": archiveByHand(chained(turning(20)...)), "21": archiveByHand(chained(turning(21)...)), "4097": make([]string, 4097)}
	for what, list := range manyChains() {
		if len(list) < 4097 {
			out["chain: "+what] = archiveByHand(list)
		}
	}
	for n := range right {
		out[fmt.Sprint("the first ", n+1)] = right[:n+1]
	}
	return out
}

func TestRestoreArchiveKeepsApart(t *testing.T) {
	for what, texts := range manyArchives() {
		in, same := guarded(texts, markText)
		first, code := impl.RestoreArchive(in)
		second, again := impl.RestoreArchive(in)
		if !same() || code != again || !slices.Equal(first, second) {
			t.Fatalf("%s: an argument or the second answer is another one", what)
		}
		want, wantCode := restoredByHand(texts)
		mustCode(t, what, code, wantCode)
		mustPairs(t, what, second, want)
		spoil(first, markPair)
		spoil(in, markText)
		mustPairs(t, what+", spoilt", second, want)
	}
}

// What lies behind the end of a list is no part of it.
func TestNothingHangsOnWhatLiesBehindAnArchive(t *testing.T) {
	s := fourOlds()
	chain, texts := chainByHand(s), archiveOf(s)
	for n := range 4 {
		mustArchive(t, "a wrong backup behind", append(cloneBackups(chain[:n]), impl.Backup{})[:n])
		var want []impl.Pair
		if n > 0 {
			want = pairsBelow(s.Heap, inTurn(s)[n-1].Root)
		}
		mustLeadTo(t, "waste behind", append(slices.Clone(texts[:n]), "waste")[:n], want)
	}
	mustLeadTo(t, "20 of 21", archiveByHand(chained(turning(21)...))[:20], turning(20)[19])
	mustArchive(t, "20 of 21", chained(turning(21)...)[:20])
	s = cloneStore(s)
	s.Super.Snaps = append(s.Super.Snaps, snap("z", 5, 0))[:4]
	s.Heap.Nodes = append(s.Heap.Nodes, leaf("a"))[:50]
	s.Disk.Sectors = append(s.Disk.Sectors, "waste")[:52]
	if !slices.Equal(holdsArchive(t, "waste behind a store", s), texts) {
		t.Error("the archive hangs on what lies behind the ends of a store")
	}
}

// An empty list and nil are the same.
func TestEmptyIsNilInArchives(t *testing.T) {
	for _, none := range [][]impl.Pair{nil, {}} {
		s := impl.NewStore()
		s.Super.Snaps, s.Disk.Cache, s.Disk.Keep = []impl.Snap{}, []impl.Pending{}, []int{}
		for i := range s.Heap.Nodes {
			s.Heap.Nodes[i] = impl.Node{Pairs: none, Least: []string{}, Kids: []int{}}
		}
		if texts := holdsArchive(t, "empty lists", s); len(texts) > 0 {
			t.Errorf("%q", texts)
		}
		s, _, _ = impl.TakeSnap(s, "a", 0)
		texts := holdsArchive(t, "a snapshot of nothing", s)
		b := impl.Backup{To: "a", Diffs: []impl.Diff{}}
		if again := mustArchive(t, "no differences", []impl.Backup{b}); !slices.Equal(texts, again) {
			t.Errorf("%q, not %q", texts, again)
		}
	}
	for _, none := range [][]string{nil, {}} {
		mustLeadTo(t, "none", none, nil)
	}
	for _, nodes := range []impl.Heap{{}, {Nodes: []impl.Node{}}} {
		s := impl.NewStore()
		s.Heap = nodes
		chain, code := impl.ChainOf(s)
		mustCode(t, "no nodes", code, impl.ErrBad)
		if len(chain) > 0 {
			t.Error(chain)
		}
	}
}

// askArchives writes down what all calls of chapter 15 answer.
func askArchives(s impl.Store, list []impl.Backup, texts []string) (told string, codes [4]int) {
	var out strings.Builder
	chain, code := impl.ChainOf(s)
	own, ownCode := impl.ArchiveBytes(chain)
	fmt.Fprintf(&out, "%v %d %q %d;", chain, code, own, ownCode)
	bytes, of := impl.ArchiveBytes(list)
	fmt.Fprintf(&out, "%q %d;", bytes, of)
	pairs, back := impl.RestoreArchive(texts)
	fmt.Fprintf(&out, "%q %d", pairs, back)
	return out.String(), [4]int{code, of, back, ownCode}
}

// No argument makes a call panic, and no answer hangs on the calls ahead: the
// same ones are asked again in the other direction.
func TestAnyArchivesInAnyOrder(t *testing.T) {
	r := rand.New(rand.NewSource(142))
	stores, archives := byNames(allStores()), byNames(manyArchives())
	known := slices.Concat(byNames(rightBackups()), byNames(wrongBackups()))
	type row struct {
		s     impl.Store
		list  []impl.Backup
		texts []string
		told  string
	}
	var rows []row
	seen := map[string]int{}
	for range 1200 {
		x := row{s: someStore(r, stores), texts: slices.Clone(archives[r.Intn(len(archives))])}
		for range r.Intn(4) {
			x.list = append(x.list, anyBackup(r, known))
		}
		if r.Intn(2) == 0 {
			x.list = chained(fewPairs(r), fewPairs(r), fewPairs(r))
		}
		if len(x.texts) > 0 && r.Intn(3) == 0 {
			x.texts[r.Intn(len(x.texts))] = someText(r, 60)
		}
		told, codes := askArchives(x.s, x.list, x.texts)
		x.told = told
		for i, code := range codes {
			seen[fmt.Sprint(i, code)]++
		}
		_, code := restoredByHand(x.texts)
		mustCode(t, "some texts", codes[2], code)
		rows = append(rows, x)
	}
	for _, x := range slices.Backward(rows) {
		if again, _ := askArchives(x.s, x.list, x.texts); again != x.told {
			t.Fatalf("%.900q, then %.900q", x.told, again)
		}
	}
	for _, word := range []string{"0 0", "0 1", "1 0", "1 1", "2 0", "2 3", "2 13"} {
		if seen[word] < 30 {
			t.Errorf("%s: %d times", word, seen[word])
		}
	}
}

// Calls that are under way at once are each answered as alone.
func TestArchivesAtOnce(t *testing.T) {
	s := fourOlds()
	list, texts := chainByHand(s), archiveOf(s)
	want, _ := askArchives(s, list, texts)
	var all sync.WaitGroup
	told := make([]string, 8)
	for i := range told {
		all.Add(1)
		go func() {
			defer all.Done()
			told[i], _ = askArchives(s, list, texts)
		}()
	}
	all.Wait()
	for _, got := range told {
		if got != want {
			t.Errorf("%.900q, not %.900q", got, want)
		}
	}
}
