package tests

import (
	"encoding/binary"
	"fmt"
	"hash/crc32"
	"slices"
	"strings"
	"testing"

	"loop.example/g00340/impl"
)

const (
	most = 0xffffffff
	more = 0x100000000
)

// number gives the four bytes of a number.
func number(n int) string {
	return string(binary.BigEndian.AppendUint32(nil, uint32(n)))
}

// fieldsText gives the bytes of some fields.
func fieldsText(texts ...string) string {
	out := string([]byte{byte(len(texts))})
	for _, text := range texts {
		out += fieldText(text)
	}
	return out
}

func sumByHand(list []impl.Pair) int {
	text := ""
	for _, p := range list {
		text += fieldsText(p.Key, p.Value)
	}
	return int(crc32.ChecksumIEEE([]byte(text)))
}

func diffText(d impl.Diff) string {
	sort := 0
	if d.Was {
		sort++
	}
	if d.Is {
		sort += 2
	}
	return string([]byte{byte(sort)}) + fieldsText(d.Key, d.Old, d.New)
}

// backupParts gives a backup's bytes in their parts: the word, Chain and
// names, how many differences, these, and Sum.
func backupParts(b impl.Backup) [5]string {
	diffs := ""
	for _, d := range b.Diffs {
		diffs += diffText(d)
	}
	return [5]string{"backup", number(b.Chain) + fieldsText(b.From, b.To), string([]byte{byte(len(b.Diffs))}), diffs, number(b.Sum)}
}

// linkByHand is of neither the word nor how many there are.
func linkByHand(b impl.Backup) int {
	p := backupParts(b)
	return int(crc32.ChecksumIEEE([]byte(p[1] + p[3] + p[4])))
}

func backupText(b impl.Backup) string {
	p := backupParts(b)
	return strings.Join(p[:], "") + number(linkByHand(b))
}

func backupByHand(from, to string, chain int, a, b []impl.Pair) impl.Backup {
	return impl.Backup{From: from, To: to, Chain: chain, Diffs: diffByHand(a, b), Sum: sumByHand(b)}
}

func within(n int) bool { return n >= 0 && n <= most }

// namesByHand tells whether a backup has right names and a right Chain.
func namesByHand(b impl.Backup) bool {
	if !shortWord.MatchString(b.To) || !within(b.Chain) {
		return false
	}
	return shortWord.MatchString(b.From) || b.From == "" && b.Chain == 0
}

func rightByHand(b impl.Backup) bool {
	rising := slices.IsSortedFunc(b.Diffs, func(x, y impl.Diff) int { return strings.Compare(x.Key, y.Key) })
	alike := len(slices.CompactFunc(slices.Clone(b.Diffs), func(x, y impl.Diff) bool { return x.Key == y.Key })) < len(b.Diffs)
	wrong := slices.ContainsFunc(b.Diffs, func(d impl.Diff) bool { return !formByHand(d) })
	return namesByHand(b) && within(b.Sum) && len(b.Diffs) <= 120 && rising && !alike && !wrong
}

// replayByHand gives what Replay is to answer of at most MaxList pairs and a
// last of at most MaxText bytes.
func replayByHand(list []impl.Pair, last string, chain int, b impl.Backup) ([]impl.Pair, int) {
	if !impl.PairsOK(list) || !rightByHand(b) {
		return nil, impl.ErrBad
	}
	if b.From != last {
		return list, impl.ErrOrder
	}
	if b.Chain != chain {
		return list, impl.ErrChain
	}
	out, code := applyByHand(list, b.Diffs)
	if code == impl.OK && sumByHand(out) != b.Sum {
		return list, impl.ErrSum
	}
	return out, code
}

// replayAllByHand gives what ReplayAll is to answer of at most 20 backups.
func replayAllByHand(list []impl.Backup) ([]impl.Pair, int) {
	if slices.ContainsFunc(list, func(b impl.Backup) bool { return !rightByHand(b) }) {
		return nil, impl.ErrBad
	}
	var pairs []impl.Pair
	last, chain := "", 0
	for _, b := range list {
		next, code := replayByHand(pairs, last, chain, b)
		if code != impl.OK {
			return nil, code
		}
		pairs, last, chain = next, b.To, linkByHand(b)
	}
	return pairs, impl.OK
}

// chained gives a chain of backups from nothing, the ones of s1, s2 and so on.
func chained(lists ...[]impl.Pair) []impl.Backup {
	var out []impl.Backup
	from, link, was := "", 0, []impl.Pair(nil)
	for i, list := range lists {
		b := backupByHand(from, fmt.Sprintf("s%d", i+1), link, was, list)
		out = append(out, b)
		from, link, was = b.To, linkByHand(b), list
	}
	return out
}

// relinked gives the backups with the names and the links of a chain, so that
// they differ from one by nothing else.
func relinked(list []impl.Backup) []impl.Backup {
	out := cloneBackups(list)
	last, link := "", 0
	for i := range out {
		out[i].From, out[i].Chain = last, link
		last, link = out[i].To, linkByHand(out[i])
	}
	return out
}

func cloneBackup(b impl.Backup) impl.Backup {
	b.Diffs = slices.Clone(b.Diffs)
	return b
}

func cloneBackups(list []impl.Backup) []impl.Backup {
	var out []impl.Backup
	for _, b := range list {
		out = append(out, cloneBackup(b))
	}
	return out
}

// withBackup changes a copy of a backup.
func withBackup(b impl.Backup, change func(b *impl.Backup)) impl.Backup {
	b = cloneBackup(b)
	change(&b)
	return b
}

func sameBackup(a, b impl.Backup) bool {
	return a.From == b.From && a.To == b.To && a.Chain == b.Chain && a.Sum == b.Sum && slices.Equal(a.Diffs, b.Diffs)
}

func mustBackup(t *testing.T, what string, got, want impl.Backup) {
	t.Helper()
	if !sameBackup(got, want) {
		t.Errorf("%.80q: backup %.600q, not %.600q", what, fmt.Sprint(got), fmt.Sprint(want))
	}
}

func mustSum(t *testing.T, what string, got, want int) {
	t.Helper()
	if got != want {
		t.Errorf("%.80q: sum %08x, not %08x", what, got, want)
	}
}

// linkOf gives the link that a backup's bytes end with.
func linkOf(t *testing.T, b impl.Backup) int {
	t.Helper()
	text, code := impl.BackupBytes(b)
	mustCode(t, "BackupBytes", code, impl.OK)
	if len(text) < 4 {
		t.Fatalf("%d bytes of %+v", len(text), b)
	}
	return int(binary.BigEndian.Uint32(text[len(text)-4:]))
}

// rightBackups are at the bounds of what is right.
func rightBackups() map[string]impl.Backup {
	ordinary := backupByHand("old", "new", 77, pairsOf("a", "1", "b", "2", "c", "3"), pairsOf("b", "2", "c", "4", "d", ""))
	change := func(of func(b *impl.Backup)) impl.Backup { return withBackup(ordinary, of) }
	return map[string]impl.Backup{
		"ordinary":                    ordinary,
		"from nothing":                backupByHand("", "new", 0, nil, keyed("a", "b")),
		"from nothing to nothing":     backupByHand("", "new", 0, nil, nil),
		"no differences, empty":       change(func(b *impl.Backup) { b.Diffs = []impl.Diff{} }),
		"no differences":              change(func(b *impl.Backup) { b.Diffs = nil }),
		"names of 1 byte":             change(func(b *impl.Backup) { b.From, b.To = "a", "_" }),
		"names of 8 bytes":            change(func(b *impl.Backup) { b.From, b.To = "abcdefg8", "_2345678" }),
		"names that are alike":        change(func(b *impl.Backup) { b.From, b.To = "same", "same" }),
		"a Chain of 0":                change(func(b *impl.Backup) { b.Chain = 0 }),
		"a Chain of 1":                change(func(b *impl.Backup) { b.Chain = 1 }),
		"a Chain of all bits":         change(func(b *impl.Backup) { b.Chain = most }),
		"a Chain of the highest bit":  change(func(b *impl.Backup) { b.Chain = 0x80000000 }),
		"a Sum of 0":                  change(func(b *impl.Backup) { b.Sum = 0 }),
		"a Sum of all bits":           change(func(b *impl.Backup) { b.Sum = most }),
		"from nothing, a Sum of all":  {To: "a", Sum: most},
		"from nothing, gone":          {To: "a", Diffs: []impl.Diff{gone("a", "1")}},
		"120 differences":             backupByHand("a", "b", 5, manyPairs(60), otherKeys(60)),
		"120 that come":               {From: "a", To: "b", Diffs: diffByHand(nil, manyPairs(120))},
		"119 differences":             backupByHand("a", "b", 5, manyPairs(60), otherKeys(59)),
		"a key of 1 byte":             change(func(b *impl.Backup) { b.Diffs[0] = gone("\x00", "1") }),
		"a key of 30 bytes":           change(func(b *impl.Backup) { b.Diffs[2] = gone(long(30), "1") }),
		"an old value of 90 bytes":    change(func(b *impl.Backup) { b.Diffs[0] = gone("a", long(90)) }),
		"a new value of 90 bytes":     change(func(b *impl.Backup) { b.Diffs[0] = come("a", long(90)) }),
		"both values of 90 bytes":     change(func(b *impl.Backup) { b.Diffs[0] = other("a", long(90), long(90)) }),
		"values of no bytes":          {From: "a", To: "b", Diffs: []impl.Diff{gone("a", ""), come("b", ""), other("c", "", "1"), other("d", "1", "")}},
		"a new value like the old":    change(func(b *impl.Backup) { b.Diffs[0] = other("a", "1", "1") }),
		"keys by bytes, not letters":  change(func(b *impl.Backup) { b.Diffs = []impl.Diff{come("\x00", ""), come("z", ""), come("\xff", "")} }),
		"a beginning of the next key": change(func(b *impl.Backup) { b.Diffs = []impl.Diff{come("a", ""), gone("aa", ""), come("ab", "")} }),
		"bytes like another backup's": change(func(b *impl.Backup) { b.Diffs[0] = come("backup", "backup\x00\x00\x00\x00\x02\x00\x00\x00\x01a\x00") }),
	}
}

// wrongBackups are not right, each by as little as can be.
func wrongBackups() map[string]impl.Backup {
	ordinary := rightBackups()["ordinary"]
	out := map[string]impl.Backup{
		"nothing":                                {},
		"nothing but From":                       {From: "a"},
		"no To":                                  {From: "a", Chain: 5},
		"from nothing, a Chain of 1":             {To: "a", Chain: 1},
		"from nothing, a Chain of -1":            {To: "a", Chain: -1},
		"from nothing, a Chain of all bits":      {To: "a", Chain: most},
		"from nothing, a Chain of one bit above": {To: "a", Chain: more},
		"from nothing, a Sum of -1":              {To: "a", Sum: -1},
		"from nothing, a Sum too high":           {To: "a", Sum: more},
		"121 differences":                        {From: "a", To: "b", Diffs: diffByHand(nil, manyPairs(121))},
		"MaxList differences":                    {From: "a", To: "b", Diffs: diffByHand(nil, manyPairs(4096))},
		"MaxList differences and one":            {From: "a", To: "b", Diffs: diffByHand(nil, manyPairs(4097))},
		"121 differences, none right":            {From: "a", To: "b", Diffs: make([]impl.Diff, 121)},
	}
	change := func(what string, of func(b *impl.Backup)) { out[what] = withBackup(ordinary, of) }
	for _, name := range wrongNames() {
		change(fmt.Sprintf("To is %.20q of %d", name, len(name)), func(b *impl.Backup) { b.To = name })
		if name != "" {
			change(fmt.Sprintf("From is %.20q of %d", name, len(name)), func(b *impl.Backup) { b.From = name })
			change(fmt.Sprintf("From is %.20q of %d, Chain 0", name, len(name)), func(b *impl.Backup) { b.From, b.Chain = name, 0 })
		}
	}
	for _, n := range wrongNumbers() {
		change(fmt.Sprintf("Chain is %d", n), func(b *impl.Backup) { b.Chain = n })
		change(fmt.Sprintf("Sum is %d", n), func(b *impl.Backup) { b.Sum = n })
	}
	for what, d := range wrongDiffs() {
		change("alone: "+what, func(b *impl.Backup) { b.Diffs = []impl.Diff{d} })
		change("behind others: "+what, func(b *impl.Backup) {
			if d.Key == "" {
				b.Diffs[2].Key = ""
				return
			}
			d.Key = "y" + d.Key
			b.Diffs = append(b.Diffs, d)
		})
	}
	change("keys that fall", func(b *impl.Backup) { b.Diffs[0], b.Diffs[1] = b.Diffs[1], b.Diffs[0] })
	change("keys that fall at the end", func(b *impl.Backup) { b.Diffs[1], b.Diffs[2] = b.Diffs[2], b.Diffs[1] })
	change("keys that are alike", func(b *impl.Backup) { b.Diffs[1].Key = b.Diffs[0].Key })
	change("keys that are alike at the end", func(b *impl.Backup) { b.Diffs[1].Key = b.Diffs[2].Key })
	change("a difference twice", func(b *impl.Backup) { b.Diffs = append(b.Diffs, b.Diffs[2]) })
	change("a beginning behind", func(b *impl.Backup) { b.Diffs[1].Key = b.Diffs[2].Key + "x" })
	change("signed bytes", func(b *impl.Backup) { b.Diffs[0].Key = "\x80" })
	return out
}

func wrongNames() []string {
	return []string{"", "nine_byte", "abcdefghi", long(40), long(41), long(65536), long(65537), "1", "1a", "a b", " a", "a ", "a-b", "a/b", "\x00", "a\x00", "\xff", "ä", "a.", "\n"}
}

func wrongNumbers() []int {
	return []int{-1 << 63, -more, -1, more, more + 77, 1<<63 - 1}
}
