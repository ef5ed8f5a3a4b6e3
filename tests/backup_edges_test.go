package tests

import (
	"fmt"
	"math/rand"
	"slices"
	"strings"
	"testing"

	"loop.example/g00340/impl"
)

func TestPairsSumFaults(t *testing.T) {
	for what, list := range wrongPairs() {
		sum, code := impl.PairsSum(list)
		mustCode(t, what, code, impl.ErrBad)
		mustSum(t, what, sum, 0)
	}
	for n, want := range map[int]int{59: impl.OK, 60: impl.OK, 61: impl.ErrBad, 4096: impl.ErrBad, 4097: impl.ErrLong, 70000: impl.ErrLong} {
		sum, code := impl.PairsSum(manyPairs(n))
		mustCode(t, fmt.Sprint(n), code, want)
		if want != impl.OK {
			mustSum(t, fmt.Sprint(n), sum, 0)
		}
	}
	_, code := impl.PairsSum(append(keyed("b", "a"), manyPairs(4095)...))
	mustCode(t, "too long, and falling", code, impl.ErrLong)
}

func mustNotMake(t *testing.T, what string, m making, want int) {
	t.Helper()
	got, code := impl.MakeBackup(m.from, m.to, m.chain, m.a, m.b)
	mustCode(t, what, code, want)
	mustBackup(t, what, got, impl.Backup{})
}

func TestMakeBackupBounds(t *testing.T) {
	a, b := keyed("a"), keyed("b")
	for _, name := range wrongNames() {
		want := impl.ErrRange
		if len(name) > 65536 {
			want = impl.ErrLong
		}
		what := fmt.Sprintf("%.20q of %d", name, len(name))
		mustNotMake(t, "to "+what, making{"s1", name, 5, a, b}, want)
		mustNotMake(t, "whole, to "+what, making{"", name, 0, nil, b}, want)
		if name != "" {
			mustNotMake(t, "from "+what, making{name, "s2", 5, a, b}, want)
			mustNotMake(t, "of nothing from "+what, making{name, "s2", 0, nil, b}, want)
		}
	}
	for _, n := range wrongNumbers() {
		mustNotMake(t, fmt.Sprint("Chain ", n), making{"s1", "s2", n, a, b}, impl.ErrRange)
		mustNotMake(t, fmt.Sprint("whole, Chain ", n), making{"", "s2", n, nil, b}, impl.ErrRange)
	}
	for _, n := range []int{1, 5, most} {
		mustNotMake(t, fmt.Sprint("whole, Chain ", n), making{"", "s2", n, nil, b}, impl.ErrRange)
	}
	for what, list := range wrongPairs() {
		mustNotMake(t, "from "+what, making{"s1", "s2", 5, list, b}, impl.ErrBad)
		mustNotMake(t, "to "+what, making{"s1", "s2", 5, a, list}, impl.ErrBad)
		mustNotMake(t, "whole, to "+what, making{"", "s2", 0, nil, list}, impl.ErrBad)
	}
	mustNotMake(t, "pairs from an empty name", making{"", "s2", 0, a, b}, impl.ErrBad)
	mustNotMake(t, "MaxPairs from an empty name", making{"", "s2", 0, manyPairs(60), b}, impl.ErrBad)
	mustNotMake(t, "pairs from an empty name to the same", making{"", "s2", 0, a, a}, impl.ErrBad)
	mustNotMake(t, "pairs from an empty name to nothing", making{"", "s2", 0, a, nil}, impl.ErrBad)
}

// Too long ahead of bad, bad ahead of out of bounds, whichever arguments they
// are of.
func TestOrderOfMakeBackupCodes(t *testing.T) {
	long65537, tooMany := long(65537), manyPairs(4097)
	wrong, right := keyed("b", "a"), keyed("a")
	for _, row := range []struct {
		what string
		m    making
		want int
	}{
		{"a long from, all else wrong", making{long65537, "", -1, wrong, wrong}, impl.ErrLong},
		{"a long to, all else wrong", making{"", long65537, -1, wrong, wrong}, impl.ErrLong},
		{"a long to, pairs of an empty from", making{"", long65537, 0, right, right}, impl.ErrLong},
		{"a long from, all else right", making{long65537, "s2", 5, right, right}, impl.ErrLong},
		{"a long list, all else wrong", making{"", "", -1, tooMany, wrong}, impl.ErrLong},
		{"a long second list, all else wrong", making{"", "", -1, wrong, tooMany}, impl.ErrLong},
		{"a long second list, all else right", making{"s1", "s2", 5, right, tooMany}, impl.ErrLong},
		{"MaxText bytes, MaxList pairs", making{long(65536), long(65536), 5, manyPairs(4096), manyPairs(4096)}, impl.ErrBad},
		{"wrong pairs, all else wrong", making{"", "", -1, wrong, right}, impl.ErrBad},
		{"wrong second pairs, all else wrong", making{"", "", -1, nil, wrong}, impl.ErrBad},
		{"pairs of an empty from, a wrong to", making{"", "9", 0, right, right}, impl.ErrBad},
		{"pairs of an empty from, a Chain", making{"", "s2", 5, right, right}, impl.ErrBad},
		{"61 pairs, a wrong from", making{"9", "s2", 5, manyPairs(61), right}, impl.ErrBad},
		{"60 pairs, a wrong from", making{"9", "s2", 5, manyPairs(60), right}, impl.ErrRange},
		{"all of it out of bounds", making{"9", "9", -1, right, right}, impl.ErrRange},
		{"MaxText bytes of names", making{long(65536), long(65536), 5, right, right}, impl.ErrRange},
	} {
		mustNotMake(t, row.what, row.m, row.want)
	}
}

// wrongBackupParts gives the parts of bytes that are no backup's, each under
// the link that it would have.
func wrongBackupParts() map[string][5]string {
	base := rightBackups()["ordinary"]
	out := map[string][5]string{}
	for what, b := range wrongBackups() {
		p := backupParts(b)
		if within(b.Chain) && within(b.Sum) && len(b.Diffs) < 256 && len(p[1]+p[3]) < 65500 {
			out["wrong: "+what] = p
		}
	}
	edit := func(what string, part int, text string) {
		p := backupParts(base)
		p[part] = text
		out[what] = p
	}
	for _, word := range []string{"", "Backup", "BACKUP", "backuq", "packup", "backu", "backupp", "\x00backup", "s"} {
		edit("the word "+word, 0, word)
	}
	head := backupParts(base)[1]
	edit("a Chain of three bytes", 1, head[1:])
	edit("a Chain of five bytes", 1, "\x00"+head)
	for what, names := range map[string][]string{"no names": nil, "one name": {"old"}, "three names": {"old", "new", "new"}, "an empty third one": {"old", "new", ""}} {
		edit(what, 1, head[:4]+fieldsText(names...))
	}
	edit("a name less than told", 1, head[:4]+"\x02"+fieldText("old"))
	edit("a name more than told", 1, head[:4]+"\x01"+fieldText("old")+fieldText("new"))
	edit("a length behind the end", 1, head[:4]+"\x02\x00\x03old\xff\xffnew")
	edit("a length of 301", 1, head[:4]+"\x02\x00\x03old\x01\x2d"+long(301))
	for many := range 256 {
		if many != len(base.Diffs) {
			edit(fmt.Sprintf("%d told", many), 2, string([]byte{byte(many)}))
		}
	}
	edit("none told", 2, "")
	for _, sort := range []byte{0, 4, 5, 6, 7, 8, 0x10, 0x80, 0x81, 0xfe, 0xff, '1', '3'} {
		edit(fmt.Sprintf("a difference of the sort %d", sort), 3, "\x01"+diffText(gone("a", "1"))[1:]+string([]byte{sort})+diffText(other("c", "3", "4"))[1:]+diffText(come("d", "")))
		edit(fmt.Sprintf("a last difference of the sort %d", sort), 3, diffText(gone("a", "1"))+diffText(other("c", "3", "4"))+string([]byte{sort})+diffText(come("d", ""))[1:])
	}
	rest := diffText(other("c", "3", "4")) + diffText(come("d", ""))
	edit("a difference of two fields", 3, "\x01"+fieldsText("a", "1")+rest)
	edit("a difference of four fields", 3, "\x01"+fieldsText("a", "1", "", "")+rest)
	edit("a difference without fields", 3, "\x01"+fieldsText()+rest)
	edit("a difference less", 3, rest)
	edit("a difference more", 3, diffText(come("A", ""))+diffText(gone("a", "1"))+rest)
	edit("a byte between", 3, diffText(gone("a", "1"))+"\x00"+rest)
	edit("a Sum of three bytes", 4, "\x00\x00\x00")
	edit("a Sum of five bytes", 4, "\x00\x00\x00\x00\x00")
	edit("no Sum", 4, "")
	return out
}

// Bytes of no backup are told ahead of another link.
func TestBytesOfNoBackup(t *testing.T) {
	for what, p := range wrongBackupParts() {
		text := strings.Join(p[:], "")
		link := impl.Check32([]byte(p[1] + p[3] + p[4]))
		mustNotReadBackup(t, what, text+number(link), impl.ErrForm)
		mustNotReadBackup(t, what+", another link", text+number(link^1), impl.ErrForm)
		mustNotReadBackup(t, what+", without a link", text, impl.ErrForm)
	}
	for _, text := range []string{"", "b", "backup", "backup\x00\x00\x00\x00", "\x00", "\xff\xff", strings.Repeat("backup", 30), long(420), long(65535), long(65536)} {
		mustNotReadBackup(t, text, text, impl.ErrForm)
	}
	mustNotReadBackup(t, "65537", long(65537), impl.ErrLong)
	whole := backupText(rightBackups()["ordinary"])
	mustNotReadBackup(t, "with many bytes behind", whole+long(65536-len(whole)), impl.ErrForm)
	mustNotReadBackup(t, "with too many bytes behind", whole+long(65537-len(whole)), impl.ErrLong)
}

// 120 differences are told in one byte, and so is none.
func TestMostDifferencesOfABackup(t *testing.T) {
	for _, n := range []int{0, 1, 119, 120} {
		b := impl.Backup{From: "a", To: "b", Chain: 3, Diffs: diffByHand(nil, manyPairs(n))}
		holdsBytes(t, fmt.Sprint(n), b)
	}
	for _, n := range []int{121, 122, 255} {
		b := impl.Backup{From: "a", To: "b", Chain: 3, Diffs: diffByHand(nil, manyPairs(n))}
		if impl.BackupOK(b) {
			t.Errorf("%d: right", n)
		}
		mustNotReadBackup(t, fmt.Sprint(n), backupText(b), impl.ErrForm)
	}
	widest := impl.Backup{From: "abcdefgh", To: "abcdefgh", Chain: most, Sum: most}
	for i := range 120 {
		widest.Diffs = append(widest.Diffs, other(fmt.Sprintf("%030d", i), long(90), strings.Repeat("y", 90)))
	}
	holdsBytes(t, "the widest", widest)
}

// replaying is what Replay is asked with.
type replaying struct {
	list  []impl.Pair
	last  string
	chain int
	b     impl.Backup
}

// mustNotReplay asks for a code, and for the pairs as they were unless the
// chapter tells otherwise.
func mustNotReplay(t *testing.T, what string, r replaying, want int) {
	t.Helper()
	due := r.list
	if want == impl.ErrLong || want == impl.ErrBad {
		due = nil
	}
	got, code := impl.Replay(r.list, r.last, r.chain, r.b)
	mustCode(t, what, code, want)
	mustPairs(t, what, got, due)
}

func TestReplayFaults(t *testing.T) {
	a := pairsOf("a", "1", "b", "2", "c", "3")
	b := rightBackups()["ordinary"]
	for what, list := range wrongPairs() {
		mustNotReplay(t, what, replaying{list, "old", 77, b}, impl.ErrBad)
	}
	for what, wrong := range wrongBackups() {
		mustNotReplay(t, what, replaying{a, wrong.From[:min(len(wrong.From), 65536)], wrong.Chain, wrong}, impl.ErrBad)
		mustNotReplay(t, what, replaying{nil, "", 0, wrong}, impl.ErrBad)
	}
	for _, last := range []string{"", "ol", "olds", "Old", "new", "old ", " old", "old\x00", "9", long(40), long(65536)} {
		mustNotReplay(t, "last "+last, replaying{a, last, 77, b}, impl.ErrOrder)
	}
	for _, n := range append(wrongNumbers(), 0, 1, 76, 78, 77+more, -77, most) {
		mustNotReplay(t, fmt.Sprint("chain ", n), replaying{a, "old", n, b}, impl.ErrChain)
	}
	whole := backupByHand("", "s1", 0, nil, a)
	mustNotReplay(t, "a whole one behind another", replaying{a, "s0", 0, whole}, impl.ErrOrder)
	mustNotReplay(t, "a whole one over pairs", replaying{a, "", 0, whole}, impl.ErrOld)
	mustNotReplay(t, "a whole one over other pairs", replaying{keyed("x"), "", 0, whole}, impl.ErrSum)
	mustNotReplay(t, "a whole one of another chain", replaying{nil, "", 1, whole}, impl.ErrChain)
	got, code := impl.Replay(nil, "", 0, whole)
	mustCode(t, "a whole one", code, impl.OK)
	mustPairs(t, "a whole one", got, a)
}

// Each code comes ahead of those behind it.
func TestOrderOfReplayCodes(t *testing.T) {
	a := pairsOf("a", "1", "b", "2", "c", "3")
	right := rightBackups()["ordinary"]
	wrong := wrongBackups()["keys that fall"]
	sum := withBackup(right, func(b *impl.Backup) { b.Sum ^= 1 })
	full := impl.Backup{From: "old", To: "new", Chain: 77, Diffs: []impl.Diff{come("z", "")}, Sum: sumByHand(manyPairs(60))}
	falling := keyed("b", "a")
	for _, row := range []struct {
		what string
		r    replaying
		want int
	}{
		{"too many pairs, all else wrong", replaying{manyPairs(4097), "9", -1, wrong}, impl.ErrLong},
		{"too many pairs, all else right", replaying{manyPairs(4097), "old", 77, right}, impl.ErrLong},
		{"a long last, all else wrong", replaying{falling, long(65537), -1, wrong}, impl.ErrLong},
		{"a long last, all else right", replaying{a, long(65537), 77, right}, impl.ErrLong},
		{"MaxList pairs, MaxText bytes", replaying{manyPairs(4096), long(65536), 77, right}, impl.ErrBad},
		{"wrong pairs, another last", replaying{falling, "9", -1, right}, impl.ErrBad},
		{"a wrong backup, another last", replaying{a, "9", -1, wrong}, impl.ErrBad},
		{"too many differences", replaying{a, "a", 0, wrongBackups()["MaxList differences and one"]}, impl.ErrBad},
		{"another last, another chain", replaying{a, "9", -1, right}, impl.ErrOrder},
		{"another last, other pairs", replaying{nil, "9", 77, right}, impl.ErrOrder},
		{"another last, another Sum", replaying{a, "9", 77, sum}, impl.ErrOrder},
		{"another chain, other pairs", replaying{nil, "old", 78, right}, impl.ErrChain},
		{"another chain, another Sum", replaying{a, "old", 78, sum}, impl.ErrChain},
		{"another chain, no room", replaying{manyPairs(60), "old", 78, full}, impl.ErrChain},
		{"other pairs, another Sum", replaying{nil, "old", 77, sum}, impl.ErrOld},
		{"no room, another Sum", replaying{manyPairs(60), "old", 77, full}, impl.ErrFull},
		{"one that is there, no room", replaying{append(manyPairs(59), keyed("z")...), "old", 77, full}, impl.ErrOld},
		{"room, another Sum", replaying{manyPairs(59), "old", 77, full}, impl.ErrSum},
		{"another Sum", replaying{a, "old", 77, sum}, impl.ErrSum},
	} {
		mustNotReplay(t, row.what, row.r, row.want)
	}
	full.Sum = sumByHand(append(manyPairs(59), pairsOf("z", "")...))
	got, code := impl.Replay(manyPairs(59), "old", 77, full)
	mustCode(t, "room for the 60th", code, impl.OK)
	mustPairs(t, "room for the 60th", got, append(manyPairs(59), pairsOf("z", "")...))
}

// turning gives n lists that a chain goes through.
func turning(n int) [][]impl.Pair {
	var out [][]impl.Pair
	for i := range n {
		out = append(out, pairsOf("a", fmt.Sprint(i), fmt.Sprintf("k%d", i), ""))
	}
	return out
}

func TestMostBackupsOfAChain(t *testing.T) {
	for _, n := range []int{0, 1, 2, 19, 20} {
		list := turning(n)
		var want []impl.Pair
		if n > 0 {
			want = list[n-1]
		}
		mustReplay(t, fmt.Sprint(n), chained(list...), want, impl.OK)
	}
	for n, want := range map[int]int{21: impl.ErrMany, 22: impl.ErrMany, 4096: impl.ErrMany, 4097: impl.ErrLong} {
		right := chained(turning(21)...)
		for len(right) < n {
			right = append(right, right[20])
		}
		for what, list := range map[string][]impl.Backup{"right": right[:n], "wrong": make([]impl.Backup, n)} {
			got, code := impl.ReplayAll(list)
			mustCode(t, fmt.Sprint(n, what), code, want)
			mustPairs(t, fmt.Sprint(n, what), got, nil)
		}
	}
}

// A backup that is not right is told ahead of all that stands out of order,
// wherever it stands; behind that what stands first.
func TestOrderOfReplayAllCodes(t *testing.T) {
	all := chained(turning(5)...)
	for what, wrong := range wrongBackups() {
		for _, at := range []int{0, 2, 4} {
			list := cloneBackups(all)
			list[at] = wrong
			mustReplay(t, fmt.Sprintf("%s at %d", what, at), list, nil, impl.ErrBad)
			list = slices.Insert(cloneBackups(all[1:]), at, wrong)
			mustReplay(t, fmt.Sprintf("%s at %d, out of order", what, at), list, nil, impl.ErrBad)
		}
	}
	faults := map[int]func(b *impl.Backup){
		impl.ErrOrder: func(b *impl.Backup) { b.From = "zz" },
		impl.ErrChain: func(b *impl.Backup) { b.Chain = (b.Chain + 1) & most },
		impl.ErrOld:   func(b *impl.Backup) { b.Diffs[0].Old += "?" },
		impl.ErrSum:   func(b *impl.Backup) { b.Sum = (b.Sum + 1) & most },
	}
	for first, change := range faults {
		for second, next := range faults {
			list := cloneBackups(all)
			list[1] = withBackup(list[1], change)
			list[3] = withBackup(list[3], next)
			mustReplay(t, fmt.Sprintf("%s, then %s", impl.CodeWord(first), impl.CodeWord(second)), list, nil, first)
			list = cloneBackups(all)
			list[2] = withBackup(withBackup(list[2], change), next)
			mustReplay(t, fmt.Sprintf("%s and %s of one", impl.CodeWord(first), impl.CodeWord(second)), list, nil, earlier(first, second))
		}
	}
}

// earlier gives the code of two that a replay tells.
func earlier(a, b int) int {
	order := []int{impl.ErrOrder, impl.ErrChain, impl.ErrOld, impl.ErrSum}
	return order[min(slices.Index(order, a), slices.Index(order, b))]
}

// A chain from nothing may not lead to more than MaxPairs.
func TestChainWithoutRoom(t *testing.T) {
	list := []impl.Backup{
		{To: "s1", Diffs: diffByHand(nil, manyPairs(60)), Sum: sumByHand(manyPairs(60))},
		{To: "s2", Diffs: []impl.Diff{come("z", "")}, Sum: sumByHand(append(manyPairs(60), pairsOf("z", "")...))},
	}
	mustReplay(t, "the 61st", relinked(list), nil, impl.ErrFull)
	list[0].Diffs, list[0].Sum = diffByHand(nil, manyPairs(61)), sumByHand(manyPairs(61))
	mustReplay(t, "61 at once", relinked(list), nil, impl.ErrFull)
	list[0].Diffs, list[0].Sum = diffByHand(nil, manyPairs(120)), 0
	mustReplay(t, "120 at once", relinked(list), nil, impl.ErrFull)
	list[0].Diffs, list[0].Sum = diffByHand(nil, manyPairs(59)), sumByHand(manyPairs(59))
	list[1].Sum = sumByHand(append(manyPairs(59), pairsOf("z", "")...))
	mustReplay(t, "the 60th", relinked(list), append(manyPairs(59), pairsOf("z", "")...), impl.OK)
}

// Chains of any sort, often changed in something: what comes of them is what
// comes of them by hand.
func TestSomeChains(t *testing.T) {
	r := rand.New(rand.NewSource(33))
	told := map[int]int{}
	for range 3000 {
		var made [][]impl.Pair
		for range r.Intn(6) {
			made = append(made, fewPairs(r))
		}
		list := chained(made...)
		for range r.Intn(3) {
			list = spoiltChain(r, list)
		}
		if r.Intn(3) == 0 {
			list = relinked(list)
		}
		want, code := replayAllByHand(list)
		mustReplay(t, fmt.Sprint(list), list, want, code)
		told[code]++
		if t.Failed() {
			return
		}
	}
	for _, code := range []int{impl.OK, impl.ErrBad, impl.ErrOrder, impl.ErrChain, impl.ErrOld, impl.ErrSum} {
		if told[code] < 30 {
			t.Errorf("codes %v", told)
		}
	}
}

// spoiltChain changes one thing in a chain.
func spoiltChain(r *rand.Rand, list []impl.Backup) []impl.Backup {
	if len(list) == 0 {
		return list
	}
	out := cloneBackups(list)
	at := r.Intn(len(out))
	b := &out[at]
	switch r.Intn(8) {
	case 0:
		out = slices.Delete(out, at, at+1)
	case 1:
		k := r.Intn(len(out))
		out[at], out[k] = out[k], out[at]
	case 2:
		b.Chain = []int{b.Chain ^ 1, 0, -1}[r.Intn(3)]
	case 3:
		b.Sum ^= 1 << r.Intn(33)
	case 4:
		b.From = []string{"", "s1", "s2", "9"}[r.Intn(4)]
	case 5:
		b.Diffs = append(b.Diffs, someDiff(r))
	case 6:
		if len(b.Diffs) > 0 {
			b.Diffs[r.Intn(len(b.Diffs))] = someDiff(r)
		}
	case 7:
		if len(b.Diffs) > 0 {
			b.Diffs[r.Intn(len(b.Diffs))].Old += "?"
		}
	}
	return out
}
