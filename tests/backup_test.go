package tests

import (
	"fmt"
	"math/rand"
	"slices"
	"strings"
	"testing"

	"loop.example/g00340/impl"
)

func TestBackupOK(t *testing.T) {
	for what, b := range rightBackups() {
		if !impl.BackupOK(b) || !rightByHand(b) {
			t.Errorf("%s: not right", what)
		}
	}
	for what, b := range wrongBackups() {
		if impl.BackupOK(b) || rightByHand(b) {
			t.Errorf("%s: right", what)
		}
	}
}

// The sums are those of zip files, of the bytes as they are written out here.
func TestPairsSum(t *testing.T) {
	for what, row := range map[string]struct {
		list []impl.Pair
		text string
	}{
		"nil":                 {nil, ""},
		"empty":               {[]impl.Pair{}, ""},
		"one":                 {pairsOf("a", "1"), "\x02\x00\x01a\x00\x011"},
		"two":                 {pairsOf("a", "1", "b", "2"), "\x02\x00\x01a\x00\x011\x02\x00\x01b\x00\x012"},
		"no value":            {pairsOf("a", ""), "\x02\x00\x01a\x00\x00"},
		"bytes 0":             {pairsOf("\x00", "\x00"), "\x02\x00\x01\x00\x00\x01\x00"},
		"a key of MaxKey":     {pairsOf(long(30), "1"), "\x02\x00\x1e" + long(30) + "\x00\x011"},
		"a value of MaxValue": {pairsOf("a", long(90)), "\x02\x00\x01a\x00\x5a" + long(90)},
	} {
		sum, code := impl.PairsSum(row.list)
		mustCode(t, what, code, impl.OK)
		mustSum(t, what, sum, impl.Check32([]byte(row.text)))
	}
	for _, list := range [][]impl.Pair{manyPairs(60), otherKeys(59), keyed("\x00", "z", "\xff")} {
		sum, code := impl.PairsSum(list)
		mustCode(t, "many", code, impl.OK)
		mustSum(t, "many", sum, sumByHand(list))
	}
	if sum, code := impl.PairsSum(nil); sum != 0 || code != impl.OK {
		t.Errorf("of none: %d, %d", sum, code)
	}
}

// Lists with the same bytes at other places have other sums.
func TestPairsSumTellsListsApart(t *testing.T) {
	seen := map[int]string{}
	for _, list := range [][]impl.Pair{nil, pairsOf("a", ""), pairsOf("a", "b"), pairsOf("ab", ""), pairsOf("a", "", "b", ""), pairsOf("a", "\x00"), pairsOf("a\x00", ""),
		pairsOf("b", "a"), pairsOf("a", "b", "c", "d"), pairsOf("a", "bc", "d", ""), pairsOf("a", "bcd"), pairsOf("a", "\x02\x00\x01b\x00\x00")} {
		sum, code := impl.PairsSum(list)
		mustCode(t, fmt.Sprint(list), code, impl.OK)
		if ahead, there := seen[sum]; there {
			t.Errorf("%q has the sum of %s", list, ahead)
		}
		seen[sum] = fmt.Sprintf("%q", list)
	}
}

// making is what MakeBackup is asked with.
type making struct {
	from, to string
	chain    int
	a, b     []impl.Pair
}

// mades are right ones, at their bounds too.
func mades() map[string]making {
	return map[string]making{
		"from nothing":              {"", "s1", 0, nil, keyed("a", "b")},
		"from an empty list":        {"", "s1", 0, []impl.Pair{}, keyed("a")},
		"from nothing to nothing":   {"", "s1", 0, nil, nil},
		"from a name, of nothing":   {"s1", "s2", 5, nil, keyed("a")},
		"to nothing":                {"s1", "s2", 5, keyed("a", "b"), nil},
		"alike":                     {"s1", "s2", 5, keyed("a", "b"), keyed("a", "b")},
		"all sorts":                 {"s1", "s2", 5, pairsOf("a", "1", "b", "2", "c", "3"), pairsOf("b", "2", "c", "4", "d", "")},
		"values of no bytes":        {"s1", "s2", 5, pairsOf("a", "", "b", "1"), pairsOf("a", "1", "b", "", "c", "")},
		"names of 1 byte":           {"a", "_", 5, nil, keyed("a")},
		"names of 8 bytes":          {"abcdefg8", "_2345678", 5, nil, keyed("a")},
		"names that are alike":      {"same", "same", 5, keyed("a"), keyed("b")},
		"a Chain of 0":              {"s1", "s2", 0, keyed("a"), keyed("b")},
		"a Chain of all bits":       {"s1", "s2", most, keyed("a"), keyed("b")},
		"MaxPairs from nothing":     {"", "s1", 0, nil, manyPairs(60)},
		"MaxPairs to nothing":       {"s1", "s2", 5, manyPairs(60), nil},
		"MaxPairs to other keys":    {"s1", "s2", 5, manyPairs(60), otherKeys(60)},
		"MaxPairs of other values":  {"s1", "s2", 5, manyPairs(60), otherValues(60)},
		"lengths at their bounds":   {"s1", "s2", 5, pairsOf("k", long(90)), pairsOf("k", strings.Repeat("y", 90), long(30), long(90))},
		"all bytes of a byte":       {"s1", "s2", 5, pairsOf("\x00", "\xff"), pairsOf("\x00", "\x00", "\xff", "\x80")},
		"from names like the words": {"backup", "backup", 5, pairsOf("backup", "backup"), pairsOf("backup", "")},
	}
}

// A backup that is made is right, has the differences and the sum of what it
// leads to, is read back from its bytes, and leads there.
func TestMakeBackup(t *testing.T) {
	for what, row := range mades() {
		b, code := impl.MakeBackup(row.from, row.to, row.chain, row.a, row.b)
		mustCode(t, what, code, impl.OK)
		mustBackup(t, what, b, backupByHand(row.from, row.to, row.chain, row.a, row.b))
		if !impl.BackupOK(b) {
			t.Errorf("%s: made, but not right", what)
		}
		holdsBytes(t, what, b)
		got, code := impl.Replay(row.a, row.from, row.chain, b)
		mustCode(t, what+", replayed", code, impl.OK)
		mustPairs(t, what+", replayed", got, row.b)
	}
}

// holdsBytes asks for the bytes of a right backup, and reads them back.
func holdsBytes(t *testing.T, what string, b impl.Backup) {
	t.Helper()
	text, code := impl.BackupBytes(b)
	mustCode(t, what+", its bytes", code, impl.OK)
	if string(text) != backupText(b) {
		t.Errorf("%s: bytes %.300q, not %.300q", what, text, backupText(b))
	}
	mustRead(t, what, text, b)
}

// mustRead reads bytes and asks that what is read has just these.
func mustRead(t *testing.T, what string, text []byte, want impl.Backup) {
	t.Helper()
	b, code := impl.ReadBackup(text)
	mustCode(t, what+", read back", code, impl.OK)
	mustBackup(t, what+", read back", b, want)
	again, code := impl.BackupBytes(b)
	mustCode(t, what+", its bytes again", code, impl.OK)
	if string(again) != string(text) {
		t.Errorf("%s: %.300q is read, but its bytes are %.300q", what, text, again)
	}
}

func mustNotReadBackup(t *testing.T, what string, text string, want int) {
	t.Helper()
	b, code := impl.ReadBackup([]byte(text))
	mustCode(t, what, code, want)
	mustBackup(t, what, b, impl.Backup{})
}

// The bytes of a backup, all of them written out; the link is of those that
// stand between the word and it, but for how many differences there are.
func TestBackupBytesWrittenOut(t *testing.T) {
	b := impl.Backup{From: "mon", To: "tuesday", Chain: 0x01020304, Sum: 0xa0b0c0d0,
		Diffs: []impl.Diff{gone("a", "1"), come("bb", "22"), other("c", "", "x")}}
	head := "\x01\x02\x03\x04" + "\x02\x00\x03mon\x00\x07tuesday"
	diffs := "\x01\x03\x00\x01a\x00\x011\x00\x00" + "\x02\x03\x00\x02bb\x00\x00\x00\x0222" + "\x03\x03\x00\x01c\x00\x00\x00\x01x"
	sum := "\xa0\xb0\xc0\xd0"
	link := number(impl.Check32([]byte(head + diffs + sum)))
	text, code := impl.BackupBytes(b)
	mustCode(t, "BackupBytes", code, impl.OK)
	if string(text) != "backup"+head+"\x03"+diffs+sum+link {
		t.Errorf("%q", text)
	}
	mustRead(t, "written out", text, b)
	whole := impl.Backup{To: "a"}
	head = "\x00\x00\x00\x00\x02\x00\x00\x00\x01a"
	link = number(impl.Check32([]byte(head + "\x00\x00\x00\x00")))
	text, code = impl.BackupBytes(whole)
	mustCode(t, "BackupBytes of nothing", code, impl.OK)
	if string(text) != "backup"+head+"\x00\x00\x00\x00\x00"+link {
		t.Errorf("%q", text)
	}
}

func TestBackupsAreReadBack(t *testing.T) {
	for what, b := range rightBackups() {
		holdsBytes(t, what, b)
	}
	for what, b := range wrongBackups() {
		text, code := impl.BackupBytes(b)
		mustCode(t, what, code, impl.ErrBad)
		if len(text) > 0 {
			t.Errorf("%s: bytes %.80q", what, text)
		}
	}
}

// With any bit changed, cut at any length, or with a byte more behind or
// ahead, no bytes of a backup are a backup's.
func TestChangedBytesAreRefused(t *testing.T) {
	for what, b := range rightBackups() {
		text := backupText(b)
		step := 1 + len(text)/900
		for bit := 0; bit < 8*len(text); bit += step {
			changed := []byte(text)
			changed[bit/8] ^= 1 << (bit % 8)
			got, code := impl.ReadBackup(changed)
			if code != impl.ErrForm && code != impl.ErrSum || !sameBackup(got, impl.Backup{}) {
				t.Fatalf("%s: bit %d changed, code %d", what, bit, code)
			}
		}
		for n := 0; n < len(text); n += step {
			mustNotReadBackup(t, fmt.Sprintf("%s, cut at %d", what, n), text[:n], impl.ErrForm)
			mustNotReadBackup(t, fmt.Sprintf("%s, without %d", what, n+1), text[n+1:], impl.ErrForm)
		}
		for _, c := range []string{"\x00", "b", "\x01", "\xff", text, text[len(text)-4:], text[len(text)-8:]} {
			mustNotReadBackup(t, what+", more behind", text+c, impl.ErrForm)
			mustNotReadBackup(t, what+", more ahead", c+text, impl.ErrForm)
		}
		if t.Failed() {
			return
		}
	}
}

// A changed link is told by its code, whatever it is changed to; a changed
// Chain, Sum or text of as many bytes too.
func TestAnotherLinkIsTold(t *testing.T) {
	for what, b := range rightBackups() {
		text := backupText(b)
		body, link := text[:len(text)-4], linkByHand(b)
		for _, other := range []int{link ^ 1, link ^ 0x80000000, ^link, link + 1, link - 1} {
			mustNotReadBackup(t, what+", another link", body+number(other), impl.ErrSum)
		}
		mustNotReadBackup(t, what+", another Sum", text[:len(text)-5]+string([]byte{^text[len(text)-5]})+number(link), impl.ErrSum)
		if b.From != "" {
			mustNotReadBackup(t, what+", another Chain", text[:6]+number(b.Chain^1)+text[10:], impl.ErrSum)
		}
	}
	b := rightBackups()["ordinary"]
	for what, change := range map[string][2]string{
		"From":             {"old", "olt"},
		"To":               {"new", "now"},
		"a Key":            {"\x00\x01d", "\x00\x01e"},
		"an Old":           {"\x00\x011", "\x00\x012"},
		"a New":            {"\x00\x014", "\x00\x015"},
		"From, To changed": {"\x00\x03old\x00\x03new", "\x00\x03new\x00\x03old"},
	} {
		if strings.Count(backupText(b), change[0]) != 1 {
			t.Fatalf("%s: not just once", what)
		}
		mustNotReadBackup(t, what, strings.Replace(backupText(b), change[0], change[1], 1), impl.ErrSum)
	}
}

// A backup that differs in one thing alone has another link.
func TestLinkIsOfAllThatABackupHas(t *testing.T) {
	base := rightBackups()["ordinary"]
	seen := map[int]string{linkOf(t, base): "the backup itself"}
	for what, change := range map[string]func(b *impl.Backup){
		"From":                    func(b *impl.Backup) { b.From = "odd" },
		"From in great letters":   func(b *impl.Backup) { b.From = "OLD" },
		"To":                      func(b *impl.Backup) { b.To = "now" },
		"From and To":             func(b *impl.Backup) { b.From, b.To = b.To, b.From },
		"a byte from From to To":  func(b *impl.Backup) { b.From, b.To = "ol", "dnew" },
		"Chain":                   func(b *impl.Backup) { b.Chain++ },
		"Chain in its high byte":  func(b *impl.Backup) { b.Chain += 1 << 24 },
		"Sum":                     func(b *impl.Backup) { b.Sum ^= 1 },
		"Sum in its high byte":    func(b *impl.Backup) { b.Sum ^= 1 << 31 },
		"Chain and Sum":           func(b *impl.Backup) { b.Chain, b.Sum = b.Sum, b.Chain },
		"the first Key":           func(b *impl.Backup) { b.Diffs[0].Key = "A" },
		"the last Key":            func(b *impl.Backup) { b.Diffs[2].Key = "e" },
		"an Old":                  func(b *impl.Backup) { b.Diffs[0].Old = "2" },
		"a New":                   func(b *impl.Backup) { b.Diffs[1].New = "2" },
		"Old and New":             func(b *impl.Backup) { b.Diffs[1].Old, b.Diffs[1].New = b.Diffs[1].New, b.Diffs[1].Old },
		"no value, not nothing":   func(b *impl.Backup) { b.Diffs[0].Is = true },
		"no value of what was":    func(b *impl.Backup) { b.Diffs[2].Was = true },
		"what was, not what is":   func(b *impl.Backup) { b.Diffs[2].Was, b.Diffs[2].Is = true, false },
		"the first one less":      func(b *impl.Backup) { b.Diffs = b.Diffs[1:] },
		"the last one less":       func(b *impl.Backup) { b.Diffs = b.Diffs[:2] },
		"one more":                func(b *impl.Backup) { b.Diffs = append(b.Diffs, come("z", "")) },
		"none at all":             func(b *impl.Backup) { b.Diffs = nil },
		"from nothing, no Chain":  func(b *impl.Backup) { b.From, b.Chain = "", 0 },
		"no Chain":                func(b *impl.Backup) { b.Chain = 0 },
		"a byte from Key to Old":  func(b *impl.Backup) { b.Diffs[0] = gone("a1", "") },
		"a byte from Old to New":  func(b *impl.Backup) { b.Diffs[1] = other("c", "", "34") },
		"a byte less of From, To": func(b *impl.Backup) { b.From, b.To = "o", "n" },
	} {
		b := withBackup(base, change)
		link := linkOf(t, b)
		mustSum(t, what, link, linkByHand(b))
		if ahead, there := seen[link]; there {
			t.Errorf("%s has the link of %s", what, ahead)
		}
		seen[link] = what
	}
}

// With a right link behind it each right backup is read, of whatever pairs:
// the Sum is held against pairs by a replay alone.
func TestSumOfNoPairsIsRead(t *testing.T) {
	for _, sum := range []int{0, 1, most} {
		b := impl.Backup{From: "a", To: "b", Chain: 9, Sum: sum, Diffs: []impl.Diff{come("a", "1")}}
		holdsBytes(t, fmt.Sprint(sum), b)
		got, code := impl.Replay(keyed("b"), "a", 9, b)
		mustCode(t, fmt.Sprint(sum), code, impl.ErrSum)
		mustPairs(t, fmt.Sprint(sum), got, keyed("b"))
	}
}

func someBackup(r *rand.Rand) impl.Backup {
	a, b := fewPairs(r), fewPairs(r)
	out := backupByHand("s1", "s2", r.Intn(more), a, b)
	if r.Intn(3) == 0 {
		out = backupByHand("", "s2", 0, nil, b)
	}
	if r.Intn(4) == 0 {
		out.Sum = r.Intn(more)
	}
	return out
}

func TestSomeBackups(t *testing.T) {
	r := rand.New(rand.NewSource(31))
	for range 1500 {
		b := someBackup(r)
		if !impl.BackupOK(b) {
			t.Fatalf("not right: %+v", b)
		}
		holdsBytes(t, "some", b)
		text := []byte(backupText(b))
		for range 1 + r.Intn(3) {
			text[r.Intn(len(text))] = byte(r.Intn(256))
		}
		got, code := impl.ReadBackup(text)
		if code == impl.OK && backupText(got) != string(text) || code != impl.OK && !sameBackup(got, impl.Backup{}) {
			t.Fatalf("%q is read as %+v, code %d", text, got, code)
		}
		if string(text) != backupText(b) && code == impl.OK {
			t.Fatalf("%q changed to %q is read", backupText(b), text)
		}
		if t.Failed() {
			return
		}
	}
}

// Any body with the link that it should have is read just if it is a right
// one's: what is read has just these bytes.
func TestSomeBodiesUnderALink(t *testing.T) {
	r := rand.New(rand.NewSource(32))
	told := map[int]int{}
	for range 6000 {
		b := someBackup(r)
		p := backupParts(b)
		part := r.Intn(5)
		edited := []byte(p[part])
		if len(edited) > 0 {
			at := r.Intn(len(edited))
			edited[at] = []byte{0, 1, 2, 3, 4, 'a', 'z', 0xff, edited[at] + 1, edited[at] ^ 1}[r.Intn(10)]
		}
		p[part] = string(edited)
		text := strings.Join(p[:], "") + number(impl.Check32([]byte(p[1]+p[3]+p[4])))
		got, code := impl.ReadBackup([]byte(text))
		if code == impl.OK && (!rightByHand(got) || backupText(got) != text) {
			t.Fatalf("%q is read as %+v", text, got)
		}
		if code != impl.OK {
			mustBackup(t, text, got, impl.Backup{})
		}
		told[code]++
	}
	if told[impl.OK] < 100 || told[impl.ErrForm] < 100 {
		t.Errorf("codes %v", told)
	}
}

func lists() [][]impl.Pair {
	return [][]impl.Pair{keyed("a", "b"), pairsOf("a", "1", "c", "3"), nil, manyPairs(60), otherKeys(60), otherKeys(60), pairsOf("a", "")}
}

// mustReplay asks what a chain leads to.
func mustReplay(t *testing.T, what string, list []impl.Backup, want []impl.Pair, wantCode int) {
	t.Helper()
	got, code := impl.ReplayAll(list)
	mustCode(t, what, code, wantCode)
	mustPairs(t, what, got, want)
	hand, handCode := replayAllByHand(list)
	mustCode(t, what+", by hand", handCode, wantCode)
	mustPairs(t, what+", by hand", hand, want)
}

// A chain that is made step by step is what each one was made of, snapshot by
// snapshot, by one replay a backup and by one of all.
func TestChainIsWhatItWasMadeOf(t *testing.T) {
	var all []impl.Backup
	var was []impl.Pair
	last, link := "", 0
	mustReplay(t, "none", nil, nil, impl.OK)
	for i, list := range lists() {
		what := fmt.Sprintf("backup %d", i)
		b, code := impl.MakeBackup(last, fmt.Sprintf("s%d", i+1), link, was, list)
		mustCode(t, what, code, impl.OK)
		got, code := impl.Replay(was, last, link, b)
		mustCode(t, what, code, impl.OK)
		mustPairs(t, what, got, list)
		all = append(all, b)
		mustReplay(t, what, all, list, impl.OK)
		was, last, link = list, b.To, linkOf(t, b)
	}
	for i, b := range chained(lists()...) {
		mustBackup(t, fmt.Sprintf("backup %d", i), all[i], b)
	}
}

// The snapshots of a store: each one is what its chain leads to, whatever the
// store has by then.
func TestChainOfSnapshots(t *testing.T) {
	s := impl.NewStore()
	was := lists()[:3]
	for i, list := range was {
		s, _, _ = impl.PutPairs(s, list)
		s, _, _ = impl.TakeSnap(s, fmt.Sprintf("s%d", i+1), i)
	}
	s, _, _ = impl.PutPairs(s, keyed("behind"))
	var snaps [][]impl.Pair
	for i, list := range was {
		pairs, code := impl.SnapPairs(s, fmt.Sprintf("s%d", i+1))
		mustCode(t, "SnapPairs", code, impl.OK)
		snaps = append(snaps, pairs)
		mustReplay(t, fmt.Sprint(i), chained(snaps...), list, impl.OK)
	}
}

// A chain in another order, or with one left out or put in, is refused, and
// so is one whose names alone are mended.
func TestChainsOutOfOrder(t *testing.T) {
	all := chained(lists()...)
	for i := range all {
		left := slices.Delete(cloneBackups(all), i, i+1)
		if i < len(all)-1 {
			mustReplay(t, fmt.Sprintf("without %d", i), left, nil, impl.ErrOrder)
		}
		twice := slices.Insert(cloneBackups(all), i, all[i])
		mustReplay(t, fmt.Sprintf("%d twice", i), twice, nil, impl.ErrOrder)
		for k := range i {
			changed := cloneBackups(all)
			changed[i], changed[k] = changed[k], changed[i]
			mustReplay(t, fmt.Sprintf("%d and %d", i, k), changed, nil, impl.ErrOrder)
		}
		if i > 0 {
			mustReplay(t, fmt.Sprintf("from %d on", i), all[i:], nil, impl.ErrOrder)
		}
	}
	back := cloneBackups(all)
	slices.Reverse(back)
	mustReplay(t, "from behind", back, nil, impl.ErrOrder)
	left := slices.Delete(cloneBackups(all), 1, 2)
	left[1].From = left[0].To
	mustReplay(t, "without 1, its name mended", left, nil, impl.ErrChain)
	mustReplay(t, "without 1, all mended", relinked(left), nil, impl.ErrOld)
	whole := cloneBackups(all)
	whole[3] = backupByHand("", "s4", 0, nil, lists()[3])
	mustReplay(t, "a whole one between", whole, nil, impl.ErrOrder)
}

// Each backup of a chain, changed in one thing.
func TestChangedChains(t *testing.T) {
	all := chained(lists()...)
	changes := map[string]struct {
		change func(b *impl.Backup)
		code   int
		next   int
	}{
		"another Chain": {func(b *impl.Backup) { b.Chain ^= 1 }, impl.ErrChain, impl.ErrChain},
		"another From":  {func(b *impl.Backup) { b.From = "zz" }, impl.ErrOrder, impl.ErrOrder},
		"both":          {func(b *impl.Backup) { b.From, b.Chain = "zz", b.Chain^1 }, impl.ErrOrder, impl.ErrOrder},
		"another Sum":   {func(b *impl.Backup) { b.Sum ^= 1 }, impl.ErrSum, impl.ErrSum},
		"another To":    {func(b *impl.Backup) { b.To = "zz" }, impl.OK, impl.ErrOrder},
	}
	for what, row := range changes {
		for i := 1; i < len(all); i++ {
			list := cloneBackups(all)
			list[i] = withBackup(list[i], row.change)
			want := lists()[i]
			if row.code != impl.OK {
				want = nil
			}
			mustReplay(t, fmt.Sprintf("%s, the last of %d", what, i+1), list[:i+1], want, row.code)
			if i < len(all)-1 {
				mustReplay(t, fmt.Sprintf("%s, %d", what, i), list, nil, row.next)
			}
		}
	}
	for i := range all[:len(all)-1] {
		list := cloneBackups(all)
		list[i+1].Chain = linkByHand(withBackup(all[i], func(b *impl.Backup) { b.Diffs = nil }))
		if len(all[i].Diffs) > 0 {
			mustReplay(t, fmt.Sprintf("the link of %d without its differences", i), list, nil, impl.ErrChain)
		}
		list[i+1].Chain = all[i].Chain
		mustReplay(t, fmt.Sprintf("the Chain of %d for its link", i), list, nil, impl.ErrChain)
		list[i+1].Chain = all[i].Sum
		mustReplay(t, fmt.Sprintf("the Sum of %d for its link", i), list, nil, impl.ErrChain)
	}
}

// A difference that is changed is refused by what there was, or by the sum of
// what comes of it.
func TestChangedDifferencesInAChain(t *testing.T) {
	all := chained(keyed("a", "b"), pairsOf("a", "1", "c", "3"), keyed("d"))
	for what, row := range map[string]struct {
		at     int
		change func(b *impl.Backup)
		want   int
	}{
		"a New that comes":      {0, func(b *impl.Backup) { b.Diffs[0].New = "?" }, impl.ErrSum},
		"a Key that comes":      {0, func(b *impl.Backup) { b.Diffs[0].Key = "A" }, impl.ErrSum},
		"one less that comes":   {0, func(b *impl.Backup) { b.Diffs = b.Diffs[1:] }, impl.ErrSum},
		"one more that comes":   {0, func(b *impl.Backup) { b.Diffs = append(b.Diffs, come("c", "")) }, impl.ErrSum},
		"one that was":          {0, func(b *impl.Backup) { b.Diffs[0] = gone("a", "=a") }, impl.ErrOld},
		"an Old":                {1, func(b *impl.Backup) { b.Diffs[0].Old = "?" }, impl.ErrOld},
		"a New":                 {1, func(b *impl.Backup) { b.Diffs[0].New = "?" }, impl.ErrSum},
		"one more":              {1, func(b *impl.Backup) { b.Diffs = append(b.Diffs, come("d", "")) }, impl.ErrSum},
		"one less that goes":    {1, func(b *impl.Backup) { b.Diffs = slices.Delete(b.Diffs, 1, 2) }, impl.ErrSum},
		"one less that changes": {2, func(b *impl.Backup) { b.Diffs = b.Diffs[1:] }, impl.ErrSum},
		"one that is there":     {2, func(b *impl.Backup) { b.Diffs[0] = come("a", "1") }, impl.ErrOld},
		"none at all":           {2, func(b *impl.Backup) { b.Diffs = nil }, impl.ErrSum},
	} {
		list := cloneBackups(all)
		list[row.at] = withBackup(list[row.at], row.change)
		mustReplay(t, what, list, nil, row.want)
		mustReplay(t, what+", all mended", relinked(list), nil, row.want)
	}
}

// A backup over other pairs than it was made of: the pairs are as they were.
func TestReplayOverOtherPairs(t *testing.T) {
	a, b := pairsOf("a", "1", "b", "2", "c", "3"), pairsOf("b", "2", "c", "4", "d", "5")
	made := backupByHand("s1", "s2", 5, a, b)
	for what, row := range map[string]struct {
		list []impl.Pair
		want int
	}{
		"nothing":                {nil, impl.ErrOld},
		"what it leads to":       {b, impl.ErrOld},
		"another value":          {pairsOf("a", "1", "b", "2", "c", "4"), impl.ErrOld},
		"one that comes":         {pairsOf("a", "1", "b", "2", "c", "3", "d", "5"), impl.ErrOld},
		"one less":               {pairsOf("a", "1", "c", "3"), impl.ErrSum},
		"one more":               {pairsOf("a", "1", "b", "2", "c", "3", "e", ""), impl.ErrSum},
		"a value left":           {pairsOf("a", "1", "b", "3", "c", "3"), impl.ErrSum},
		"a key left":             {pairsOf("a", "1", "bb", "2", "c", "3"), impl.ErrSum},
		"an old and a left one":  {pairsOf("a", "2", "b", "3", "c", "3"), impl.ErrOld},
		"what it was made of":    {a, impl.OK},
		"its letters in capital": {pairsOf("A", "1", "B", "2", "C", "3"), impl.ErrOld},
	} {
		want := row.list
		if row.want == impl.OK {
			want = b
		}
		got, code := impl.Replay(row.list, "s1", 5, made)
		mustCode(t, what, code, row.want)
		mustPairs(t, what, got, want)
	}
}
