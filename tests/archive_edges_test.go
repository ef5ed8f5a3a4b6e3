package tests

import (
	"fmt"
	"math/rand"
	"slices"
	"strings"
	"testing"

	"loop.example/g00340/impl"
)

func TestNoChainOfWrongStores(t *testing.T) {
	stores := wrongStores()
	leaks := fourOlds()
	leaks.Heap = cloneHeap(leaks.Heap)
	leaks.Heap.Nodes[49] = leaf("a")
	stores["a page that leaks"] = leaks
	other := cloneStore(fourOlds())
	other.Super.Snaps[0].Tick++
	stores["another tick"] = other
	for what, s := range stores {
		chain, code := impl.ChainOf(s)
		mustCode(t, what, code, impl.ErrBad)
		if len(chain) > 0 {
			t.Errorf("%s: %v", what, chain)
		}
	}
	for what, s := range rightServers() {
		if !s.Up {
			_, code := impl.ChainOf(s.Store)
			mustCode(t, "not Up: "+what, code, impl.ErrBad)
		}
	}
}

func mustNotArchive(t *testing.T, what string, list []impl.Backup, want int) {
	t.Helper()
	texts, code := impl.ArchiveBytes(list)
	mustCode(t, what, code, want)
	if len(texts) > 0 {
		t.Errorf("%s: %.300q", what, texts)
	}
}

// Any right backups have bytes, be they of one chain or not.
func TestArchiveBytes(t *testing.T) {
	mustArchive(t, "nil", nil)
	mustArchive(t, "none", []impl.Backup{})
	var all []impl.Backup
	for what, b := range rightBackups() {
		mustArchive(t, what, []impl.Backup{b})
		mustArchive(t, what+", twice", []impl.Backup{b, b})
		all = append(all, b)
	}
	mustArchive(t, "20 of no chain", all[:20])
	for _, n := range []int{1, 2, 19, 20} {
		mustArchive(t, fmt.Sprint(n), chained(turning(n)...))
	}
}

func TestArchiveBytesFaults(t *testing.T) {
	right := chained(turning(20)...)
	for what, wrong := range wrongBackups() {
		mustNotArchive(t, what+" alone", []impl.Backup{wrong}, impl.ErrBad)
		for _, at := range []int{0, 1, 9, 18, 19} {
			list := cloneBackups(right)
			list[at] = wrong
			mustNotArchive(t, fmt.Sprintf("%s at %d", what, at), list, impl.ErrBad)
		}
	}
	many := chained(turning(21)...)
	for len(many) < 4097 {
		many = append(many, many[20])
	}
	for n, want := range map[int]int{21: impl.ErrMany, 22: impl.ErrMany, 4096: impl.ErrMany, 4097: impl.ErrLong} {
		mustNotArchive(t, fmt.Sprint("right, ", n), many[:n], want)
		mustNotArchive(t, fmt.Sprint("wrong, ", n), make([]impl.Backup, n), want)
	}
}

func TestMostTextsOfAnArchive(t *testing.T) {
	for _, n := range []int{1, 2, 19, 20} {
		list := turning(n)
		mustLeadTo(t, fmt.Sprint(n), archiveByHand(chained(list...)), list[n-1])
	}
	right := archiveByHand(chained(turning(21)...))
	for n, want := range map[int]int{21: impl.ErrMany, 22: impl.ErrMany, 4096: impl.ErrMany, 4097: impl.ErrLong} {
		texts := slices.Clone(right)
		for len(texts) < n {
			texts = append(texts, "")
		}
		mustNotLead(t, fmt.Sprint("right, ", n), texts, want)
		mustNotLead(t, fmt.Sprint("empty, ", n), make([]string, n), want)
		texts[0] = long(65537)
		mustNotLead(t, fmt.Sprint("the first too long, ", n), texts, want)
		texts[0], texts[n-1] = right[0], long(65537)
		mustNotLead(t, fmt.Sprint("the last too long, ", n), texts, want)
	}
}

// Text by text all that a read tells: an earlier text's code comes ahead of a
// later one's, whichever they are, and all of them ahead of a replay's.
func TestTextsInTurn(t *testing.T) {
	right := archiveOf(fourOlds())
	faults := map[int][]string{
		impl.ErrLong: {long(65537), right[0] + long(65536), long(70000), strings.Repeat("\x00", 1<<17)},
		impl.ErrForm: {"", "junk", long(65536), right[1] + "x", right[1][1:], right[1][:len(right[1])-1], right[0] + right[1], "backup"},
		impl.ErrSum:  {flipped(right[1], len(right[1])-1), flipped(right[1], 6), right[2][:len(right[2])-4] + right[1][len(right[1])-4:]},
	}
	for first, texts := range faults {
		for i, text := range texts {
			what := fmt.Sprintf("%s %d", impl.CodeWord(first), i)
			mustNotLead(t, what+" alone", []string{text}, first)
			mustNotLead(t, what+", then out of order", []string{text, right[3], right[0], right[0]}, first)
			mustNotLead(t, what+" behind what is out of order", []string{right[3], right[0], right[0], text}, first)
			mustNotLead(t, what+" as the 20th", append(slices.Repeat(right[1:2], 19), text), first)
			for at := range 5 {
				mustNotLead(t, fmt.Sprintf("%s at %d", what, at), slices.Insert(slices.Clone(right), at, text), first)
			}
			for second, others := range faults {
				for k, other := range others {
					of := fmt.Sprintf("%s, then %s %d", what, impl.CodeWord(second), k)
					mustNotLead(t, of, []string{text, other}, first)
					mustNotLead(t, of+", behind right ones", []string{right[0], right[1], text, right[2], other}, first)
				}
			}
		}
	}
}

// flipped gives a text with a bit of the byte at a place changed.
func flipped(text string, at int) string {
	b := []byte(text)
	b[at] ^= 1
	return string(b)
}

// What is read is replayed, with all codes of a replay.
func TestArchivesThatDoNotReplay(t *testing.T) {
	all := chainByHand(fourOlds())
	change := func(at int, of func(b *impl.Backup)) []impl.Backup {
		list := cloneBackups(all)
		of(&list[at])
		return list
	}
	full := []impl.Backup{
		{To: "s1", Diffs: diffByHand(nil, manyPairs(60)), Sum: sumByHand(manyPairs(60))},
		{To: "s2", Diffs: []impl.Diff{come("z", "")}, Sum: sumByHand(append(manyPairs(60), pairsOf("z", "")...))},
	}
	for what, row := range map[string]struct {
		list []impl.Backup
		code int
	}{
		"the first from a name":      {change(0, func(b *impl.Backup) { b.From = "z" }), impl.ErrOrder},
		"the second whole":           {change(1, func(b *impl.Backup) { b.From, b.Chain = "", 0 }), impl.ErrOrder},
		"from another name":          {change(2, func(b *impl.Backup) { b.From = "z" }), impl.ErrOrder},
		"another name and Chain":     {change(2, func(b *impl.Backup) { b.From, b.Chain = "z", b.Chain^1 }), impl.ErrOrder},
		"to another name":            {change(1, func(b *impl.Backup) { b.To = "z" }), impl.ErrOrder},
		"another Chain":              {change(1, func(b *impl.Backup) { b.Chain ^= 1 }), impl.ErrChain},
		"another Chain of the last":  {change(3, func(b *impl.Backup) { b.Chain = 0 }), impl.ErrChain},
		"another Sum, not the last":  {relinked(change(1, func(b *impl.Backup) { b.Sum ^= 1 })), impl.ErrSum},
		"another Sum of the last":    {change(3, func(b *impl.Backup) { b.Sum ^= 1 }), impl.ErrSum},
		"a Sum that is not relinked": {change(1, func(b *impl.Backup) { b.Sum ^= 1 }), impl.ErrSum},
		"another New of the first":   {change(0, func(b *impl.Backup) { b.Diffs[0].New += "?" }), impl.ErrSum},
		"another Old":                {change(1, func(b *impl.Backup) { b.Diffs[0].Old += "?" }), impl.ErrOld},
		"what was not":               {change(0, func(b *impl.Backup) { b.Diffs[0] = gone("a", "1") }), impl.ErrOld},
		"a difference less":          {relinked(change(2, func(b *impl.Backup) { b.Diffs = b.Diffs[1:] })), impl.ErrSum},
		"none of them":               {relinked(change(0, func(b *impl.Backup) { b.Diffs, b.Sum = nil, 0 })), impl.ErrOld},
		"a 61st pair":                {relinked(full), impl.ErrFull},
	} {
		mustNotLead(t, what, archiveByHand(row.list), row.code)
		pairs, code := impl.ReplayAll(row.list)
		mustCode(t, what+", ReplayAll", code, row.code)
		mustPairs(t, what+", ReplayAll", pairs, nil)
	}
}

// archivesToSpoil have two texts at least.
func archivesToSpoil() map[string][]string {
	return map[string][]string{
		"four":         archiveOf(fourOlds()),
		"alike pairs":  archiveOf(storeOf(nil, old{"b", 1, keyed("a")}, old{"a", 2, keyed("a")}, old{"c", 3, keyed("a")})),
		"no pairs":     archiveOf(storeOf(nil, old{"b", 1, nil}, old{"a", 1, nil}, old{"c", 0, nil})),
		"two":          archiveOf(storeOf(nil, old{"b", 7, keyed("a")}, old{"a", 7, keyed("b")})),
		"mail stores":  archiveOf(packed(nil, old{"a", 1, town()}, old{"b", 2, laterTown()}).Store),
		"many pairs":   archiveOf(packed(nil, old{"a", 1, manyPairs(60)}, old{"b", 2, otherKeys(45)}).Store),
		"20 by a hand": archiveByHand(chained(turning(20)...)),
	}
}

// With any bit changed, or cut at any place, no archive leads anywhere.
func TestChangedArchivesAreRefused(t *testing.T) {
	t.Parallel()
	for what, texts := range archivesToSpoil() {
		for at, text := range texts {
			step := 1 + len(text)/200
			spoilt := slices.Clone(texts)
			for bit := 0; bit < 8*len(text); bit += step {
				b := []byte(text)
				b[bit/8] ^= 1 << (bit % 8)
				spoilt[at] = string(b)
				mustRefuseTexts(t, fmt.Sprintf("%s: text %d, bit %d", what, at, bit), spoilt)
			}
			for n := 0; n < len(text); n += step {
				spoilt[at] = text[:n]
				mustRefuseTexts(t, fmt.Sprintf("%s: text %d, cut at %d", what, at, n), spoilt)
				spoilt[at] = text[n+1:]
				mustRefuseTexts(t, fmt.Sprintf("%s: text %d, without %d", what, at, n+1), spoilt)
			}
			for _, more := range []string{"\x00", "x", text, text[len(text)-4:]} {
				spoilt[at] = text + more
				mustRefuseTexts(t, fmt.Sprintf("%s: text %d, more behind", what, at), spoilt)
				spoilt[at] = more + text
				mustRefuseTexts(t, fmt.Sprintf("%s: text %d, more ahead", what, at), spoilt)
			}
			if t.Failed() {
				return
			}
		}
	}
}

// mustRefuseTexts asks for a code that a read tells, and nothing else.
func mustRefuseTexts(t *testing.T, what string, texts []string) {
	t.Helper()
	pairs, code := impl.RestoreArchive(texts)
	if code != impl.ErrForm && code != impl.ErrSum || len(pairs) > 0 {
		t.Errorf("%s: code %d, %d pairs", what, code, len(pairs))
	}
}

// Any byte of a text, changed to each other one.
func TestEachByteOfAnArchive(t *testing.T) {
	texts := archiveOf(storeOf(nil, old{"b", 1, keyed("a")}, old{"a", 2, keyed("b")}))
	for at, text := range texts {
		spoilt := slices.Clone(texts)
		for place := range len(text) {
			for c := range 256 {
				if byte(c) != text[place] {
					spoilt[at] = text[:place] + string([]byte{byte(c)}) + text[place+1:]
					mustRefuseTexts(t, fmt.Sprintf("text %d, byte %d is %d", at, place, c), spoilt)
				}
			}
		}
	}
}

func TestArchivesOutOfOrder(t *testing.T) {
	for what, texts := range archivesToSpoil() {
		for i, text := range texts {
			left := slices.Delete(slices.Clone(texts), i, i+1)
			if i < len(texts)-1 {
				mustNotLead(t, fmt.Sprintf("%s, without %d", what, i), left, impl.ErrOrder)
			}
			for k := range texts {
				if len(texts) < 20 {
					twice := slices.Insert(slices.Clone(texts), k, text)
					mustNotLead(t, fmt.Sprintf("%s, %d at %d too", what, i, k), twice, impl.ErrOrder)
				}
				if i != k {
					changed := slices.Clone(texts)
					changed[i], changed[k] = changed[k], changed[i]
					mustNotLead(t, fmt.Sprintf("%s, %d and %d", what, i, k), changed, impl.ErrOrder)
					changed[i] = text
					mustNotLead(t, fmt.Sprintf("%s, %d twice, for %d", what, i, k), changed, impl.ErrOrder)
				}
			}
			if len(texts) < 20 {
				mustNotLead(t, fmt.Sprintf("%s, %d behind all", what, i), append(slices.Clone(texts), text), impl.ErrOrder)
			}
		}
		back := slices.Clone(texts)
		slices.Reverse(back)
		mustNotLead(t, what+", from behind", back, impl.ErrOrder)
	}
}

// Texts of another archive of the same names fit no chain but their own.
func TestTextsOfAnotherArchive(t *testing.T) {
	one := archiveOf(storeOf(nil, old{"a", 1, keyed("a")}, old{"b", 2, keyed("b")}, old{"c", 3, keyed("c")}))
	other := archiveOf(storeOf(nil, old{"a", 1, keyed("a", "x")}, old{"b", 2, keyed("b")}, old{"c", 3, keyed("c")}))
	for bits := 1; bits < 7; bits++ {
		texts := slices.Clone(one)
		for i := range texts {
			if bits&(1<<i) != 0 {
				texts[i] = other[i]
			}
		}
		mustNotLead(t, fmt.Sprintf("of others %03b", bits), texts, impl.ErrChain)
	}
	mustLeadTo(t, "the other one", other, keyed("c"))
	later := storeOf(nil, old{"a", 5, keyed("a")}, old{"b", 6, keyed("b")}, old{"c", 7, keyed("c")})
	if !slices.Equal(archiveOf(later), one) {
		t.Error("an archive tells of ticks")
	}
	holdsArchive(t, "later", later)
}

// Archives of any sort, often spoilt: what comes of them is what comes of them
// by hand.
func TestSomeArchives(t *testing.T) {
	r := rand.New(rand.NewSource(141))
	told := map[int]int{}
	for range 3000 {
		var made [][]impl.Pair
		for range r.Intn(6) {
			made = append(made, fewPairs(r))
		}
		list := chained(made...)
		for range r.Intn(2) {
			list = spoiltChain(r, list)
		}
		texts := archiveByHand(list)
		if slices.ContainsFunc(list, func(b impl.Backup) bool { return !rightByHand(b) }) {
			mustNotArchive(t, fmt.Sprint(list), list, impl.ErrBad)
		} else {
			mustArchive(t, fmt.Sprint(list), list)
		}
		if len(texts) > 0 && r.Intn(5) == 0 {
			at := r.Intn(len(texts))
			texts[at] = []string{"", long(65537), texts[at] + "x", flipped(texts[at], r.Intn(len(texts[at])))}[r.Intn(4)]
		}
		want, code := restoredByHand(texts)
		got, gotCode := impl.RestoreArchive(texts)
		mustCode(t, fmt.Sprint(list), gotCode, code)
		mustPairs(t, fmt.Sprint(list), got, want)
		told[code]++
		if t.Failed() {
			return
		}
	}
	for _, code := range []int{impl.OK, impl.ErrLong, impl.ErrForm, impl.ErrSum, impl.ErrOrder, impl.ErrChain, impl.ErrOld} {
		if told[code] < 20 {
			t.Errorf("codes %v", told)
		}
	}
}
