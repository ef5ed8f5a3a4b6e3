package tests

import (
	"fmt"
	"math"
	"math/rand"
	"slices"
	"strings"
	"testing"

	"loop.example/g00340/impl"
)

func markBackup() impl.Backup {
	return impl.Backup{From: "behind", To: "the_end", Chain: 1, Sum: 2, Diffs: []impl.Diff{markDiff}}
}

// guardedBackup lays the differences of a backup into guarded memory.
func guardedBackup(b impl.Backup) (impl.Backup, func() bool) {
	diffs, same := guarded(b.Diffs, markDiff)
	b.Diffs = diffs
	return b, same
}

// guardedBackups lays a list of backups, and the differences of each, into
// memory with room behind their ends.
func guardedBackups(list []impl.Backup) ([]impl.Backup, func() bool) {
	var all []impl.Backup
	var checks []func() bool
	for _, b := range list {
		in, same := guardedBackup(b)
		all = append(all, in)
		checks = append(checks, same)
	}
	for range 8 {
		all = append(all, markBackup())
	}
	was := cloneBackups(all)
	return all[:len(list)], func() bool {
		return slices.EqualFunc(all, was, sameBackup) && !slices.ContainsFunc(checks, func(same func() bool) bool { return !same() })
	}
}

// allBackups are right and wrong ones.
func allBackups() map[string]impl.Backup {
	out := rightBackups()
	for what, b := range wrongBackups() {
		out["wrong: "+what] = b
	}
	return out
}

func TestBackupOKAndBytesKeepApart(t *testing.T) {
	for what, b := range allBackups() {
		in, same := guardedBackup(b)
		right := impl.BackupOK(in)
		first, code := impl.BackupBytes(in)
		second, again := impl.BackupBytes(in)
		if !same() || right != impl.BackupOK(in) || code != again || string(first) != string(second) {
			t.Fatalf("%s: an argument or the second answer is another one", what)
		}
		was := string(second)
		spoil(first, markByte)
		spoil(in.Diffs, markDiff)
		if string(second) != was {
			t.Fatalf("%s: shared memory", what)
		}
	}
}

func TestReadBackupKeepsApart(t *testing.T) {
	for what, b := range rightBackups() {
		for i, text := range []string{backupText(b), backupText(b) + "x", backupText(b)[1:], backupText(b)[:len(backupText(b))-1] + "?", long(65537), ""} {
			in, same := guarded([]byte(text), markByte)
			first, code := impl.ReadBackup(in)
			second, again := impl.ReadBackup(in)
			if !same() || code != again || !sameBackup(first, second) {
				t.Fatalf("%s, text %d: an argument or the second answer is another one", what, i)
			}
			was := impl.Backup{From: strings.Clone(second.From), To: strings.Clone(second.To), Chain: second.Chain, Sum: second.Sum}
			for _, d := range second.Diffs {
				was.Diffs = append(was.Diffs, impl.Diff{Key: strings.Clone(d.Key), Old: strings.Clone(d.Old), New: strings.Clone(d.New), Was: d.Was, Is: d.Is})
			}
			spoil(first.Diffs, markDiff)
			spoil(in, markByte)
			if !sameBackup(second, was) {
				t.Fatalf("%s, text %d: shared memory", what, i)
			}
		}
	}
}

func TestMakeBackupKeepsApart(t *testing.T) {
	for i, a := range listsOfPairs() {
		for k, b := range append(listsOfPairs(), otherKeys(60)) {
			for _, from := range []string{"", "s1", "9", long(65537)} {
				what := fmt.Sprintf("MakeBackup, lists %d and %d, from %.10q", i, k, from)
				was, sameWas := guarded(a, markPair)
				is, sameIs := guarded(b, markPair)
				first, code := impl.MakeBackup(from, "s2", 0, was, is)
				second, again := impl.MakeBackup(from, "s2", 0, was, is)
				if !sameWas() || !sameIs() || code != again || !sameBackup(first, second) {
					t.Fatalf("%s: an argument or the second answer is another one", what)
				}
				told := cloneBackup(second)
				spoil(first.Diffs, markDiff)
				spoil(was, markPair)
				spoil(is, markPair)
				if !sameBackup(second, told) {
					t.Fatalf("%s: shared memory", what)
				}
			}
		}
	}
}

func TestPairsSumKeepsItsArgument(t *testing.T) {
	for i, list := range listsOfPairs() {
		in, same := guarded(list, markPair)
		sum, code := impl.PairsSum(in)
		again, code2 := impl.PairsSum(in)
		if !same() || sum != again || code != code2 {
			t.Errorf("list %d: an argument or the second answer is another one", i)
		}
	}
}

// Replay hands the list of pairs to holdsApart; the backup is guarded here.
func TestReplayKeepsApart(t *testing.T) {
	pairs := append(listsOfPairs(), pairsOf("a", "1", "b", "2", "c", "3"))
	for what, b := range allBackups() {
		in, same := guardedBackup(b)
		for i, list := range pairs {
			for _, last := range []string{b.From, "other", long(65537)} {
				for _, chain := range []int{b.Chain, b.Chain ^ 1} {
					of := fmt.Sprintf("Replay of %s, list %d, last %.10q, chain %d", what, i, last, chain)
					holdsApart(t, of, list, func(list []impl.Pair) ([]impl.Pair, int) { return impl.Replay(list, last, chain, in) })
				}
			}
		}
		if !same() {
			t.Fatalf("%s: the backup is changed", what)
		}
	}
}

func TestReplayAnswersDoNotChangeWithABackup(t *testing.T) {
	a, b := pairsOf("a", "1", "b", "2"), keyed("a", "c")
	made, _ := guardedBackup(backupByHand("s1", "s2", 5, a, b))
	got, code := impl.Replay(a, "s1", 5, made)
	spoil(made.Diffs, markDiff)
	mustCode(t, "Replay", code, impl.OK)
	mustPairs(t, "Replay", got, b)
}

// manyChains lead ReplayAll to each of its ends.
func manyChains() map[string][]impl.Backup {
	all := chained(lists()...)
	out := map[string][]impl.Backup{"nil": nil, "empty": {}, "a chain": all, "one": all[:1], "to nothing": all[:3], "from the second on": all[1:], "20": chained(turning(20)...),
		"21": chained(turning(21)...), "4097": make([]impl.Backup, 4097)}
	for what, b := range allBackups() {
		out["a chain and "+what] = append(cloneBackups(all), b)
		out["alone "+what] = []impl.Backup{b}
	}
	return out
}

func TestReplayAllKeepsApart(t *testing.T) {
	for what, list := range manyChains() {
		in, same := guardedBackups(list)
		first, code := impl.ReplayAll(in)
		second, again := impl.ReplayAll(in)
		if !same() || code != again || !slices.Equal(first, second) {
			t.Fatalf("%s: an argument or the second answer is another one", what)
		}
		was := slices.Clone(second)
		spoil(first, markPair)
		if !same() {
			t.Fatalf("%s: the answer shares memory with an argument", what)
		}
		for _, b := range in {
			spoil(b.Diffs, markDiff)
		}
		spoil(in, markBackup())
		if !slices.Equal(second, was) {
			t.Fatalf("%s: the answer changes with an argument or another answer", what)
		}
	}
}

// What lies behind the end of a list is no part of it.
func TestNothingHangsOnWhatLiesBehindABackup(t *testing.T) {
	b := rightBackups()["ordinary"]
	b.Diffs = append(b.Diffs, impl.Diff{})[:3]
	holdsBytes(t, "a wrong difference behind", b)
	text := []byte(backupText(b) + "x")
	mustRead(t, "a byte behind", text[:len(text)-1], b)
	_, code := impl.ReadBackup(text[:len(text)-2])
	mustCode(t, "the last byte behind", code, impl.ErrForm)
	all := append(chained(lists()...), impl.Backup{})
	mustReplay(t, "a wrong backup behind", all[:7], lists()[6], impl.OK)
	mustReplay(t, "all behind", all[:0], nil, impl.OK)
	many := manyPairs(61)[:60]
	sum, code := impl.PairsSum(many)
	mustCode(t, "a pair behind", code, impl.OK)
	mustSum(t, "a pair behind", sum, sumByHand(manyPairs(60)))
}

// askBackups writes down what all calls of chapter 7 answer.
func askBackups(a, b []impl.Pair, from, to string, chain int, backup impl.Backup, text []byte, all []impl.Backup) string {
	var out strings.Builder
	sum, code := impl.PairsSum(a)
	fmt.Fprintf(&out, "%d %d;", sum, code)
	made, code := impl.MakeBackup(from, to, chain, a, b)
	fmt.Fprintf(&out, "%q %q %d %v %d %d;", made.From, made.To, made.Chain, made.Diffs, made.Sum, code)
	bytes, code := impl.BackupBytes(backup)
	fmt.Fprintf(&out, "%t %q %d;", impl.BackupOK(backup), bytes, code)
	read, code := impl.ReadBackup(text)
	fmt.Fprintf(&out, "%q %q %d %v %d %d;", read.From, read.To, read.Chain, read.Diffs, read.Sum, code)
	pairs, code := impl.Replay(a, from, chain, backup)
	fmt.Fprintf(&out, "%v %d;", pairs, code)
	pairs, code = impl.ReplayAll(all)
	fmt.Fprintf(&out, "%v %d", pairs, code)
	return out.String()
}

func TestEmptyIsNilInBackups(t *testing.T) {
	none := impl.Backup{To: "s1"}
	empty := impl.Backup{To: "s1", Diffs: []impl.Diff{}}
	of := askBackups(nil, nil, "", "s1", 0, none, nil, nil)
	if other := askBackups([]impl.Pair{}, []impl.Pair{}, "", "s1", 0, empty, []byte{}, []impl.Backup{}); of != other {
		t.Errorf("%s of nil, %s of empty lists", of, other)
	}
	of = askBackups(nil, nil, "", "s1", 0, none, []byte(backupText(none)), []impl.Backup{none})
	if other := askBackups(nil, []impl.Pair{}, "", "s1", 0, empty, []byte(backupText(empty)), []impl.Backup{empty}); of != other {
		t.Errorf("%s of nil, %s of empty lists", of, other)
	}
	if !strings.Contains(of, "true") || strings.Contains(of, "false") {
		t.Errorf("not right: %s", of)
	}
}

// anyBackup gives one that is often not right.
func anyBackup(r *rand.Rand, known []impl.Backup) impl.Backup {
	switch r.Intn(4) {
	case 0:
		return known[r.Intn(len(known))]
	case 1:
		return someBackup(r)
	}
	numbers := []int{math.MinInt, -1, 0, 5, most, more, math.MaxInt}
	b := impl.Backup{From: someText(r, 9), To: someText(r, 9), Chain: numbers[r.Intn(7)], Sum: numbers[r.Intn(7)]}
	if r.Intn(2) == 0 {
		b.From, b.To = "s1", "s2"
	}
	for range r.Intn(4) {
		b.Diffs = append(b.Diffs, someDiff(r))
	}
	return b
}

// No argument makes a call panic, and no answer hangs on the calls ahead: the
// same ones are asked again in the other direction.
func TestAnyBackupsInAnyOrder(t *testing.T) {
	r := rand.New(rand.NewSource(34))
	known := []impl.Backup{}
	for _, what := range []string{"ordinary", "from nothing", "120 differences"} {
		known = append(known, rightBackups()[what])
	}
	for _, what := range []string{"nothing", "121 differences", "keys that fall", "MaxList differences and one"} {
		known = append(known, wrongBackups()[what])
	}
	type row struct {
		a, b     []impl.Pair
		from, to string
		chain    int
		backup   impl.Backup
		text     []byte
		all      []impl.Backup
		told     string
	}
	ask := func(a row) string { return askBackups(a.a, a.b, a.from, a.to, a.chain, a.backup, a.text, a.all) }
	var rows []row
	for range 1500 {
		a := row{a: fewPairs(r), b: fewPairs(r), from: someText(r, 3), to: someText(r, 3), backup: anyBackup(r, known)}
		a.chain = []int{math.MinInt, -1, 0, 5, a.backup.Chain, most, more, math.MaxInt}[r.Intn(8)]
		if r.Intn(2) == 0 {
			a.from, a.to = a.backup.From, "s2"
		}
		if r.Intn(8) == 0 {
			a.a = listsOfPairs()[r.Intn(10)]
		}
		a.text = []byte(someText(r, 60))
		if r.Intn(2) == 0 {
			a.text = []byte(backupText(someBackup(r)))
			a.text[r.Intn(len(a.text))] ^= byte(r.Intn(2))
			a.text = a.text[:len(a.text)-r.Intn(2)]
		}
		for range r.Intn(4) {
			a.all = append(a.all, anyBackup(r, known))
		}
		if r.Intn(2) == 0 {
			a.all = relinked(chained(fewPairs(r), fewPairs(r), fewPairs(r)))
		}
		a.told = ask(a)
		rows = append(rows, a)
	}
	for _, a := range slices.Backward(rows) {
		if ask(a) != a.told {
			t.Fatalf("the answer hangs on what was called ahead: %.900q", fmt.Sprint(a))
		}
	}
}
