package tests

import (
	"fmt"
	"slices"
	"strings"
	"testing"

	"loop.example/g00340/impl"
)

// inTurn gives the snapshots of a store by Tick, then by Name: those rise by
// Name as they stand.
func inTurn(s impl.Store) []impl.Snap {
	list := slices.Clone(s.Super.Snaps)
	slices.SortStableFunc(list, func(a, b impl.Snap) int { return a.Tick - b.Tick })
	return list
}

// chainByHand gives what ChainOf is to answer of a right store.
func chainByHand(s impl.Store) []impl.Backup {
	var out []impl.Backup
	from, link, was := "", 0, []impl.Pair(nil)
	for _, p := range inTurn(s) {
		list := pairsBelow(s.Heap, p.Root)
		out = append(out, backupByHand(from, p.Name, link, was, list))
		from, link, was = p.Name, linkByHand(out[len(out)-1]), list
	}
	return out
}

func sameChain(a, b []impl.Backup) bool { return slices.EqualFunc(a, b, sameBackup) }

// namesIn gives the names that a chain goes through.
func namesIn(list []impl.Backup) string {
	var names []string
	for _, b := range list {
		names = append(names, b.To)
	}
	return strings.Join(names, " ")
}

// archiveByHand gives the bytes of each of some backups.
func archiveByHand(list []impl.Backup) []string {
	var out []string
	for _, b := range list {
		out = append(out, backupText(b))
	}
	return out
}

// restoredByHand gives what RestoreArchive is to answer, text by text.
func restoredByHand(texts []string) ([]impl.Pair, int) {
	if len(texts) > 4096 {
		return nil, impl.ErrLong
	}
	if len(texts) > 20 {
		return nil, impl.ErrMany
	}
	var list []impl.Backup
	for _, text := range texts {
		if len(text) > 65536 {
			return nil, impl.ErrLong
		}
		b, code := impl.ReadBackup([]byte(text))
		if code != impl.OK {
			return nil, code
		}
		list = append(list, b)
	}
	return replayAllByHand(list)
}

// mustChainOf asks a right store for its chain, which is done by hand, too.
func mustChainOf(t *testing.T, what string, s impl.Store) []impl.Backup {
	t.Helper()
	chain, code := impl.ChainOf(s)
	mustCode(t, what, code, impl.OK)
	want := chainByHand(s)
	if !sameChain(chain, want) {
		t.Errorf("%s: the chain is %.900q, not %.900q", what, fmt.Sprint(chain), fmt.Sprint(want))
		return want
	}
	last, link := "", 0
	for i, b := range chain {
		pairs, _ := impl.SnapPairs(s, b.To)
		sum, _ := impl.PairsSum(pairs)
		if !impl.BackupOK(b) || b.From != last || b.Chain != link || b.Sum != sum {
			t.Errorf("%s: backup %d is %.600q", what, i, fmt.Sprint(b))
		}
		last, link = b.To, linkOf(t, b)
	}
	return chain
}

// mustArchive asks for the bytes of each of some right backups.
func mustArchive(t *testing.T, what string, list []impl.Backup) []string {
	t.Helper()
	texts, code := impl.ArchiveBytes(list)
	mustCode(t, what, code, impl.OK)
	if !slices.Equal(texts, archiveByHand(list)) {
		t.Errorf("%s: the bytes are %.900q, not %.900q", what, texts, archiveByHand(list))
	}
	return texts
}

func mustLeadTo(t *testing.T, what string, texts []string, want []impl.Pair) {
	t.Helper()
	pairs, code := impl.RestoreArchive(texts)
	mustCode(t, what, code, impl.OK)
	mustPairs(t, what, pairs, want)
}

func mustNotLead(t *testing.T, what string, texts []string, want int) {
	t.Helper()
	pairs, code := impl.RestoreArchive(texts)
	mustCode(t, what, code, want)
	mustPairs(t, what, pairs, nil)
	_, hand := restoredByHand(texts)
	mustCode(t, what+", by hand", hand, want)
}

// holdsArchive asks a right store for its archive: each first texts of it lead
// to the pairs of the snapshot there.
func holdsArchive(t *testing.T, what string, s impl.Store) []string {
	t.Helper()
	texts := mustArchive(t, what, mustChainOf(t, what, s))
	mustLeadTo(t, what+", nothing", texts[:0], nil)
	for i, p := range inTurn(s) {
		pairs, code := impl.SnapPairs(s, p.Name)
		mustCode(t, what, code, impl.OK)
		mustPairs(t, what+", snapshot "+p.Name, pairs, pairsBelow(s.Heap, p.Root))
		mustLeadTo(t, fmt.Sprintf("%s, the first %d", what, i+1), texts[:i+1], pairs)
	}
	return texts
}

// archiveOf gives the texts of a store that is archived by hand.
func archiveOf(s impl.Store) []string { return archiveByHand(chainByHand(s)) }

// fourOlds has as many snapshots as there may be, in another order by Tick
// than by Name, of trees that the store's own has left.
func fourOlds() impl.Store {
	return storeOf(keyed("now"),
		old{"d", 1, pairsOf("a", "1", "b", "2")}, old{"b", 3, pairsOf("a", "1", "b", "3", "c", "")},
		old{"c", 3, nil}, old{"a", 9, pairsOf("c", "4", "k", long(90))})
}
