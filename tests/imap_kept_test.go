package tests

import (
	"fmt"
	"math/rand"
	"slices"
	"testing"

	"loop.example/g00340/impl"
)

func cloneImapTold(a imapTold) imapTold {
	a.said, a.pairs = slices.Clone(a.said), slices.Clone(a.pairs)
	return a
}

// readApart hands a guarded list in and asks that neither it nor what lies
// behind it is changed, that the answer is new memory, list by list, and that a
// second call answers alike.
func readApart(t *testing.T, list []impl.Pair, s impl.Imap, line string) {
	t.Helper()
	in, same := guarded(list, markPair)
	what := fmt.Sprintf("%.100q, %.20q", fmt.Sprint(s), line)
	right := impl.ImapOK(s)
	first := imapStep(in, s, line)
	if !same() {
		t.Fatalf("%s: an argument is changed", what)
	}
	was := cloneImapTold(first)
	second := imapStep(in, s, line)
	if !sameImapTold(first, second) || impl.ImapOK(s) != right {
		t.Fatalf("%s: the second answer is another one", what)
	}
	spoil(first.said, markText)
	if !slices.Equal(first.pairs, was.pairs) {
		t.Fatalf("%s: two lists of an answer share memory", what)
	}
	spoil(first.pairs, markPair)
	if !same() {
		t.Fatalf("%s: the answer shares memory with an argument", what)
	}
	if !sameImapTold(second, was) {
		t.Fatalf("%s: two answers share memory", what)
	}
	spoil(in, markPair)
	if !sameImapTold(second, was) {
		t.Fatalf("%s: the answer changes with an argument", what)
	}
}

func TestReadingStepsKeepApart(t *testing.T) {
	lines := []string{"", " ", "a", "a ", "a what", "a fetch x", "a store 1 9", "a copy 9 inbox", "a select none", "a create 9", long(61), long(65537)}
	for _, line := range commandLines() {
		lines = append(lines, "a "+line)
	}
	var sessions []impl.Imap
	for _, all := range []map[string]impl.Imap{rightImaps(), wrongImaps()} {
		for _, s := range all {
			sessions = append(sessions, s)
		}
	}
	for _, s := range sessions {
		for _, list := range [][]impl.Pair{nil, {}, town(), mailLess(town(), "v"), manyPairs(61)} {
			for _, line := range lines {
				readApart(t, list, s, line)
			}
		}
	}
	for _, list := range append(someStores(), goneUser(), goneFolder(), manyPairs(4097)) {
		for _, s := range openImaps() {
			for _, line := range lines {
				readApart(t, list, s, line)
			}
		}
	}
}

// readRunApart asks of a run what readApart asks of a step.
func readRunApart(t *testing.T, list []impl.Pair, lines []string) {
	t.Helper()
	in, same := guarded(list, markPair)
	texts, sameTexts := guarded(lines, markText)
	said, pairs, code := impl.ImapRun(in, texts)
	if !same() || !sameTexts() {
		t.Fatalf("%.100q: an argument is changed", lines)
	}
	wasSaid, was := slices.Clone(said), slices.Clone(pairs)
	saidAgain, pairsAgain, codeAgain := impl.ImapRun(in, texts)
	if code != codeAgain || !slices.Equal(said, saidAgain) || !slices.Equal(pairs, pairsAgain) {
		t.Fatalf("%.100q: the second answer is another one", lines)
	}
	spoil(said, markText)
	if !slices.Equal(pairs, was) {
		t.Fatalf("%.100q: two lists of an answer share memory", lines)
	}
	spoil(pairs, markPair)
	if !same() || !sameTexts() {
		t.Fatalf("%.100q: the answer shares memory with an argument", lines)
	}
	spoil(in, markPair)
	spoil(texts, markText)
	if !slices.Equal(saidAgain, wasSaid) || !slices.Equal(pairsAgain, was) {
		t.Fatalf("%.100q: the answer changes with an argument, or with another answer", lines)
	}
}

func TestReadingRunsKeepApart(t *testing.T) {
	r := rand.New(rand.NewSource(104))
	runs := [][]string{nil, {}, {"a noop"}, {"a logout"}, {""}, make([]string, 60), make([]string, 61), make([]string, 4097), {long(65537)}, {"a login ann apple"}, {"a login ann apple", "b list", "c select inbox", "d fetch 1", "e expunge", "f create new"}}
	for range 30 {
		var lines []string
		s := newcomer()
		for range r.Intn(60) {
			lines = append(lines, someCommand(r, s))
			s = []impl.Imap{newcomer(), known("ann"), inside("ann", "inbox")}[r.Intn(3)]
		}
		runs = append(runs, append([]string{"a login ann apple"}, lines...))
	}
	for _, list := range append(someStores(), []impl.Pair{}, manyPairs(60), manyPairs(61), manyPairs(4097)) {
		for _, lines := range runs {
			readRunApart(t, list, lines)
		}
	}
}

// What lies behind the end of a list is no part of it.
func TestNothingHangsOnWhatLiesBehindReaders(t *testing.T) {
	all := append(town(), impl.Pair{Key: "x"})
	mustHearOnly(t, "the mail store", all[:len(all)-1], newcomer(), "a noop", "a OK")
	mustNotHear(t, "the mail store and more", all, newcomer(), "a noop", impl.ErrBad)
	mustHearNow(t, "a folder more", all[:len(all)-1], known("ann"), "a create z", mailWith(town(), "f/ann/z", "7 1", "v", "8"), "a OK")
	if all[len(all)-1] != (impl.Pair{Key: "x"}) {
		t.Errorf("written behind the end: %q", all)
	}
	run := append(slices.Repeat([]string{"a noop"}, 60), "a logout")
	mustReadRun(t, "60 lines of 61", town(), run[:60], slices.Repeat([]string{"a OK"}, 60), town(), impl.OK)
	mustReadRun(t, "none of 61", town(), run[:0], nil, town(), impl.OK)
	mustReadRun(t, "61", town(), run, nil, nil, impl.ErrMany)
}

// What is answered is the same whatever order a map is gone through in.
func TestReadingAnswersAreAlike(t *testing.T) {
	list := fullTown(58)
	for _, line := range commandLines() {
		want := imapDue(list, inside("ann", "inbox"), "a "+line)
		for range 30 {
			mustHear(t, "again", list, inside("ann", "inbox"), "a "+line, want)
		}
	}
	want := imapDue(list, known("bob"), "a list")
	for range 30 {
		mustHear(t, "many folders", list, known("bob"), "a list", want)
	}
}

// anyImap gives a session that is often not right.
func anyImap(r *rand.Rand) impl.Imap {
	if r.Intn(3) == 0 {
		return openImaps()[r.Intn(8)]
	}
	return impl.Imap{
		User:   pick(r, "", "ann", "ann", "bob", "an", "none", "eight_08", "nine_byte", "9", "\xff"),
		Folder: pick(r, "", "", "inbox", "inbox", "work", "in", "none", "nine_byte", "9", " "),
		Open:   r.Intn(6) > 0,
	}
}

// No argument makes a call panic, and no answer hangs on the calls ahead: the
// same ones are asked again in the other direction.
func TestAnyReaderInAnyOrder(t *testing.T) {
	r := rand.New(rand.NewSource(105))
	type row struct {
		list    []impl.Pair
		session impl.Imap
		line    string
		ok      bool
		told    imapTold
	}
	var rows []row
	stores := append(someStores(), laterTown(), town(), fullTown(58), manyPairs(4097), goneUser(), goneFolder())
	rights := 0
	for range 8000 {
		a := row{list: anyMailPairs(r, stores), session: anyImap(r)}
		a.line = someCommand(r, a.session)
		a.ok, a.told = impl.ImapOK(a.session), imapStep(a.list, a.session, a.line)
		if a.told.code == impl.OK {
			rights++
		}
		rows = append(rows, a)
	}
	for _, a := range slices.Backward(rows) {
		if a.ok != impl.ImapOK(a.session) || !sameImapTold(imapStep(a.list, a.session, a.line), a.told) {
			t.Fatalf("the answer hangs on what was called ahead: %.900q", fmt.Sprint(a.session, a.line, a.list))
		}
		if a.ok != imapByHand(a.session) || !sameImapTold(a.told, imapDue(a.list, a.session, a.line)) {
			t.Fatalf("another answer than is due: %.900q", fmt.Sprint(a.session, a.line, a.told, a.list))
		}
	}
	if rights < 1000 {
		t.Errorf("%d are right: not enough", rights)
	}
}

// Lines of any bytes, in each session: nothing panics, and all stays right.
func TestLinesOfAnyBytes(t *testing.T) {
	r := rand.New(rand.NewSource(106))
	for range 4000 {
		s := openImaps()[r.Intn(8)]
		line := pick(r, "", "a ", "ab ", "abcd ") + pick(r, "", "fetch ", "store 1 ", "search ", "select ", "copy 1 ", "login ann ") + someText(r, 62)
		mustHearDue(t, "any bytes", town(), s, line)
	}
}
