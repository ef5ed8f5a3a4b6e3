package tests

import (
	"fmt"
	"math/rand"
	"slices"
	"testing"

	"loop.example/g00340/impl"
)

// guardedSmtp lays both lists of a session into memory with room behind them.
func guardedSmtp(s impl.Smtp) (impl.Smtp, func() bool) {
	rcpts, sameRcpts := guarded(s.Rcpts, markText)
	lines, sameLines := guarded(s.Lines, markText)
	s.Rcpts, s.Lines = rcpts, lines
	return s, func() bool { return sameRcpts() && sameLines() }
}

func spoilSmtp(s impl.Smtp) {
	spoil(s.Rcpts, markText)
	spoil(s.Lines, markText)
}

func cloneSmtpTold(a smtpTold) smtpTold {
	a.session, a.pairs = cloneSmtp(a.session), slices.Clone(a.pairs)
	return a
}

// stepApart hands guarded lists in and asks that neither they nor what lies
// behind them is changed, that the answer is new memory, list by list, and
// that a second call answers alike.
func stepApart(t *testing.T, list []impl.Pair, s impl.Smtp, line string) {
	t.Helper()
	in, same := guarded(list, markPair)
	session, sameSession := guardedSmtp(s)
	what := fmt.Sprintf("%s, %.20q", named(s), line)
	right := impl.SmtpOK(session)
	first := smtpDo(in, session, line)
	if !same() || !sameSession() {
		t.Fatalf("%s: an argument is changed", what)
	}
	was := cloneSmtpTold(first)
	second := smtpDo(in, session, line)
	if !sameSmtpTold(first, second) || impl.SmtpOK(session) != right {
		t.Fatalf("%s: the second answer is another one", what)
	}
	spoil(first.session.Rcpts, markText)
	if !slices.Equal(first.session.Lines, was.session.Lines) {
		t.Fatalf("%s: two lists of an answer share memory", what)
	}
	spoil(first.session.Lines, markText)
	spoil(first.pairs, markPair)
	if !same() || !sameSession() {
		t.Fatalf("%s: the answer shares memory with an argument", what)
	}
	if !sameSmtpTold(second, was) {
		t.Fatalf("%s: two answers share memory", what)
	}
	spoil(in, markPair)
	spoilSmtp(session)
	if !sameSmtpTold(second, was) {
		t.Fatalf("%s: the answer changes with an argument", what)
	}
}

func TestStepsKeepApart(t *testing.T) {
	lines := []string{"", ".", "..", "x", "helo me", "mail from:<me>", "rcpt to:<ann>", "rcpt to:<bob>", "rcpt to:<an>", "data", "rset", "noop", "quit", "what", long(61), long(65537)}
	var sessions []impl.Smtp
	for _, all := range []map[string]impl.Smtp{rightSmtps(), wrongSmtps()} {
		for _, s := range all {
			sessions = append(sessions, s)
		}
	}
	for _, s := range sessions {
		for _, list := range [][]impl.Pair{nil, {}, town(), fullTown(59), mailLess(town(), "v"), manyPairs(61)} {
			for _, line := range lines {
				stepApart(t, list, s, line)
			}
		}
	}
	for _, list := range append(someStores(), manyPairs(4097)) {
		for _, s := range openSmtps() {
			for _, line := range lines {
				stepApart(t, list, s, line)
			}
		}
	}
}

// runApart asks of a run what stepApart asks of a step.
func runApart(t *testing.T, list []impl.Pair, lines []string) {
	t.Helper()
	in, same := guarded(list, markPair)
	texts, sameTexts := guarded(lines, markText)
	said, pairs, code := impl.SmtpRun(in, texts)
	if !same() || !sameTexts() {
		t.Fatalf("%.100q: an argument is changed", lines)
	}
	wasSaid, was := slices.Clone(said), slices.Clone(pairs)
	saidAgain, pairsAgain, codeAgain := impl.SmtpRun(in, texts)
	if code != codeAgain || !slices.Equal(said, saidAgain) || !slices.Equal(pairs, pairsAgain) {
		t.Fatalf("%.100q: the second answer is another one", lines)
	}
	spoil(said, markText)
	spoil(pairs, markPair)
	if !same() || !sameTexts() {
		t.Fatalf("%.100q: the answer shares memory with an argument", lines)
	}
	spoil(in, markPair)
	spoil(texts, markText)
	if !slices.Equal(saidAgain, wasSaid) || !slices.Equal(pairsAgain, was) {
		t.Fatalf("%.100q: the answer changes with an argument, or with another answer", lines)
	}
}

func TestSmtpRunsKeepApart(t *testing.T) {
	r := rand.New(rand.NewSource(93))
	runs := [][]string{nil, {}, {"noop"}, {"quit"}, {""}, make([]string, 60), make([]string, 61), make([]string, 4097), {long(65537)}, sent([]string{"ann"}, "x"), sent([]string{"ann", "bob"}, "x", "y"), sent([]string{"bob"}, make([]string, 9)...), envelope("ann", "bob")}
	for range 40 {
		var lines []string
		for range r.Intn(60) {
			lines = append(lines, someLine(r, impl.Smtp{Open: true, Hello: true, Data: r.Intn(2) == 0}))
		}
		runs = append(runs, lines)
	}
	for _, list := range append(someStores(), []impl.Pair{}, manyPairs(60), manyPairs(61), manyPairs(4097)) {
		for _, lines := range runs {
			runApart(t, list, lines)
		}
	}
}

// What lies behind the end of a list is no part of it.
func TestNothingHangsOnWhatLiesBehindSessions(t *testing.T) {
	users, lines := []string{"ann", "bob", "an"}, append(make([]string, 9), "x")
	for n, reply := range map[int]string{1: "250 ok", 2: "452 too many"} {
		s := to(users[:n]...)
		mustSay(t, "Rcpts", town(), s, "rcpt to:<an>", reply, nextByVerb(to(slices.Clone(users[:n])...), "rcpt to:<an>", reply))
	}
	mustSay(t, "8 lines", town(), telling(lines[:8]...), "y", "", telling(append(make([]string, 8), "y")...))
	mustSayOnly(t, "9 lines", town(), telling(lines[:9]...), "y", "")
	if lines[8] != "" || lines[9] != "x" || users[1] != "bob" || users[2] != "an" {
		t.Errorf("written behind the end: %q, %q", users, lines)
	}
	if !impl.SmtpOK(telling(lines[:9]...)) || impl.SmtpOK(telling(lines...)) || !impl.SmtpOK(to(users[:2]...)) || impl.SmtpOK(to(users...)) {
		t.Error("SmtpOK hangs on what lies behind the end")
	}
	all := append(town(), impl.Pair{Key: "x"})
	mustSayOnly(t, "the mail store", all[:len(all)-1], met(), "noop", "250 ok")
	mustNotStep(t, "the mail store and more", all, met(), "noop", impl.ErrBad)
	run := append(slices.Repeat([]string{"noop"}, 60), "quit")
	mustRun(t, "60 lines of 61", town(), run[:60], slices.Repeat([]string{"250 ok"}, 60), town(), impl.OK)
}

// An empty list and nil are the same, in sessions too.
func TestEmptyIsNilInSessions(t *testing.T) {
	for _, s := range []impl.Smtp{impl.NewSmtp(), met(), from("me"), {}, tellingTo([]string{"ann"})} {
		other := cloneSmtp(s)
		if len(other.Rcpts) == 0 {
			other.Rcpts = []string{}
		}
		other.Lines = []string{}
		for _, line := range []string{"", ".", "helo me", "mail from:<me>", "rcpt to:<ann>", "data", "rset", "quit"} {
			if !sameSmtpTold(smtpDo(town(), s, line), smtpDo(town(), other, line)) {
				t.Errorf("%s: %q is answered otherwise", named(s), line)
			}
		}
	}
}

// anySmtp gives a session that is often not right.
func anySmtp(r *rand.Rand) impl.Smtp {
	if r.Intn(3) == 0 {
		return cloneSmtp(openSmtps()[r.Intn(10)])
	}
	names := []string{"", "me", "ann", "bob", "none", "eight_08", "nine_byte", "9", "\xff"}
	s := impl.Smtp{Hello: r.Intn(4) > 0, Data: r.Intn(2) == 0, Open: r.Intn(5) > 0, From: names[r.Intn(6+r.Intn(2)*r.Intn(4))]}
	for range r.Intn(3) + r.Intn(2)*r.Intn(2) {
		s.Rcpts = append(s.Rcpts, names[1+r.Intn(5+r.Intn(2)*r.Intn(4))])
	}
	if s.Data || r.Intn(6) == 0 {
		for range []int{0, 1, 3, 8, 9, 9, 10}[r.Intn(6+r.Intn(2))] {
			s.Lines = append(s.Lines, someText(r, []int{3, 10, 61}[r.Intn(2+r.Intn(2)*r.Intn(2))]))
		}
	}
	return s
}

// No argument makes a call panic, and no answer hangs on the calls ahead: the
// same ones are asked again in the other direction.
func TestAnySessionInAnyOrder(t *testing.T) {
	r := rand.New(rand.NewSource(94))
	type row struct {
		list    []impl.Pair
		session impl.Smtp
		line    string
		ok      bool
		told    smtpTold
	}
	var rows []row
	known := append(someStores(), laterTown(), town(), fullTown(58), manyPairs(4097))
	rights := 0
	for range 8000 {
		a := row{list: anyMailPairs(r, known), session: anySmtp(r)}
		a.line = someLine(r, a.session)
		a.ok, a.told = impl.SmtpOK(a.session), smtpDo(a.list, a.session, a.line)
		if a.told.code == impl.OK {
			rights++
		}
		rows = append(rows, a)
	}
	for _, a := range slices.Backward(rows) {
		if a.ok != impl.SmtpOK(a.session) || !sameSmtpTold(smtpDo(a.list, a.session, a.line), a.told) {
			t.Fatalf("the answer hangs on what was called ahead: %.900q", fmt.Sprint(a.session, a.line, a.list))
		}
		if a.ok != smtpByHand(a.session) || !sameSmtpTold(a.told, smtpDue(a.list, a.session, a.line)) {
			t.Fatalf("another answer than is due: %.900q", fmt.Sprint(a.session, a.line, a.told, a.list))
		}
	}
	if rights < 1000 {
		t.Errorf("%d are right: not enough", rights)
	}
}
