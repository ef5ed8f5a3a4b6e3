package tests

import (
	"fmt"
	"math"
	"slices"
	"strings"
	"testing"

	"loop.example/g00340/impl"
)

// mustReply asks for a reply to session k, the session behind the line, and
// that nothing else is changed: nothing is committed.
func mustReply(t *testing.T, what string, s impl.Server, k int, line, reply string, next impl.Smtp) impl.Server {
	t.Helper()
	return mustServe(t, what, s, toTaker(k, line), serverTold{server: taking(s, k, next), reply: reply}).server
}

// mustTold asks for what session k says, the session behind the line, and that
// nothing else is changed.
func mustTold(t *testing.T, what string, s impl.Server, k int, line string, next impl.Imap, said ...string) impl.Server {
	t.Helper()
	return mustServe(t, what, s, toReader(k, line), serverTold{server: reading(s, k, next), said: said}).server
}

// committed gives a server whose mail store is another one, by the next commit.
func committed(s impl.Server, list []impl.Pair) impl.Server {
	store, _, code := putByHand(s.Store, list)
	if code != impl.OK {
		panic(impl.CodeWord(code))
	}
	return withServer(s, func(s *impl.Server) { s.Store = store })
}

// mustCommitted asks of a server that its mail store is this one, by so many
// commits more.
func mustCommitted(t *testing.T, what string, s, ahead impl.Server, commits int, list []impl.Pair) {
	t.Helper()
	got, code := impl.StorePairs(s.Store)
	mustCode(t, what, code, impl.OK)
	mustPairs(t, what, got, list)
	if s.Store.Super.Gen != ahead.Store.Super.Gen+commits {
		t.Errorf("%s: Gen %d, it was %d", what, s.Store.Super.Gen, ahead.Store.Super.Gen)
	}
}

// A mail is taken line by line: the lone `.` alone commits.
func TestAServerTakesMail(t *testing.T) {
	for k := range 2 {
		begin := serverOf(town())
		s := mustReply(t, "hello", begin, k, "HELO me", "250 hello", met())
		s = mustReply(t, "from", s, k, "mail from:<me>", "250 ok", from("me"))
		s = mustReply(t, "nobody", s, k, "rcpt to:<none>", "550 no such user", from("me"))
		s = mustReply(t, "to", s, k, "rcpt to:<ann>", "250 ok", to("ann"))
		s = mustReply(t, "to both", s, k, "rcpt to:<bob>", "250 ok", to("ann", "bob"))
		s = mustReply(t, "one more", s, k, "rcpt to:<an>", "452 too many", to("ann", "bob"))
		s = mustReply(t, "data", s, k, "DATA", "354 go on", telling())
		s = mustReply(t, "a line", s, k, "Subject: x", "", telling("Subject: x"))
		s = mustReply(t, "a line", s, k, "..", "", telling("Subject: x", "."))
		mustCommitted(t, "ahead of the end", s, begin, 0, town())
		want := taking(committed(begin, inBoth("Subject: x\n.\n")), k, met())
		s = mustServe(t, "the end", s, toTaker(k, "."), serverTold{server: want, reply: "250 ok"}).server
		mustCommitted(t, "behind the end", s, begin, 1, inBoth("Subject: x\n.\n"))
		s = mustReply(t, "quit", s, k, "quit", "221 bye", shut(met()))
		s = mustReply(t, "behind quit", s, k, "helo me", "", shut(met()))
		mustReply(t, "the other session", s, 1-k, "helo me", "250 hello", met())
	}
}

// Lines that end a mail without taking it, and lines that are none, commit
// nothing.
func TestMailsThatAreNotTaken(t *testing.T) {
	for what, row := range map[string]struct {
		session impl.Smtp
		line    string
		reply   string
		next    impl.Smtp
	}{
		"9 lines":       {telling(make([]string, 9)...), ".", "552 too long", met()},
		"86 bytes":      {telling(long(60), long(24)), ".", "552 too long", met()},
		"a user gone":   {tellingTo([]string{"ann", "none"}, "x"), ".", "550 no such user", met()},
		"a long line":   {telling("x"), long(61), "500 too long", telling("x")},
		"no verb":       {met(), "what", "500 what", met()},
		"no name":       {met(), "mail from:<>", "501 what", met()},
		"another order": {met(), "data", "503 order", met()},
		"a reset":       {to("ann", "bob"), "rset", "250 ok", met()},
		"shut":          {impl.Smtp{Hello: true}, ".", "", impl.Smtp{Hello: true}},
		"MaxText":       {met(), long(65536), "500 too long", met()},
	} {
		for k := range 2 {
			mustReply(t, what, taking(grownTown(), k, row.session), k, row.line, row.reply, row.next)
		}
	}
	full := serverOf(sixMails("inbox", "work", "in", "work", "inbox", "in"))
	mustReply(t, "6 mails", taking(full, 1, tellingTo([]string{"ann"}, "x")), 1, ".", "452 no room", met())
	mustReply(t, "60 pairs", taking(serverOf(fullTown(60)), 0, telling("x")), 0, ".", "452 no room", met())
	mustReply(t, "59 pairs for two", taking(serverOf(fullTown(59)), 0, telling("x")), 0, ".", "452 no room", met())
	mustReply(t, "NEXT 999", taking(serverOf(mailWith(town(), "f/ann/inbox", "1 999")), 0, telling("x")), 0, ".", "452 no room", met())
}

// What is read is told as ImapStep tells it; only what changes the mail store
// is committed, each line by one commit.
func TestAServerIsRead(t *testing.T) {
	for k := range 2 {
		begin := serverOf(town())
		s := mustTold(t, "nobody", begin, k, "a list", newcomer(), "a NO state")
		s = mustTold(t, "no login", s, k, "a login ann berry", newcomer(), "a NO user")
		s = mustTold(t, "login", s, k, "a LOGIN ann apple", known("ann"), "a OK")
		s = mustTold(t, "list", s, k, "b list", known("ann"), "* LIST in", "* LIST inbox", "* LIST work", "b OK")
		s = mustTold(t, "select", s, k, "c select inbox", inside("ann", "inbox"), "* 3 EXISTS", "* VALIDITY 1 NEXT 5", "c OK")
		s = mustTold(t, "fetch", s, k, "d fetch 3", inside("ann", "inbox"), "* FETCH 3 (deleted) {5}\nthree", "d OK")
		s = mustTold(t, "search", s, k, "e search O", inside("ann", "inbox"), "* SEARCH 1", "e OK")
		s = mustTold(t, "no command", s, k, "f what", inside("ann", "inbox"), "f BAD")
		s = mustTold(t, "no tag", s, k, "what", inside("ann", "inbox"), "* BAD")
		s = mustTold(t, "long", s, k, long(65536), inside("ann", "inbox"), "* BAD")
		s = mustTold(t, "a uid that is none", s, k, "g fetch 2", inside("ann", "inbox"), "g NO none")
		s = mustTold(t, "the flags that there are", s, k, "g store 3 2", inside("ann", "inbox"), "g OK")
		mustCommitted(t, "ahead", s, begin, 0, town())
		list := town()
		for i, step := range []struct {
			line string
			list []impl.Pair
			said []string
		}{
			{"h store 1 3", mailWith(list, "m/ann/inbox/001", "3one"), []string{"h OK"}},
			{"i expunge", mailWith(mailLess(list, "m/ann/inbox/001", "m/ann/inbox/003")), []string{"* EXPUNGE 1", "* EXPUNGE 3", "i OK"}},
			{"j copy 4 work", mailWith(mailLess(list, "m/ann/inbox/001", "m/ann/inbox/003"), "f/ann/work", "3 3", "m/ann/work/002", "0"), []string{"j OK"}},
			{"k create new", mailWith(mailLess(list, "m/ann/inbox/001", "m/ann/inbox/003"), "f/ann/work", "3 3", "m/ann/work/002", "0", "f/ann/new", "7 1", "v", "8"), []string{"k OK"}},
			{"l rename new old", mailWith(mailLess(list, "m/ann/inbox/001", "m/ann/inbox/003"), "f/ann/work", "3 3", "m/ann/work/002", "0", "f/ann/old", "8 1", "v", "9"), []string{"l OK"}},
			{"m delete old", mailWith(mailLess(list, "m/ann/inbox/001", "m/ann/inbox/003"), "f/ann/work", "3 3", "m/ann/work/002", "0", "v", "9"), []string{"m OK"}},
		} {
			s = mustServe(t, "step", s, toReader(k, step.line), serverTold{server: committed(s, step.list), said: step.said}).server
			mustCommitted(t, step.line, s, begin, i+1, step.list)
		}
		s = mustTold(t, "logout", s, k, "n logout", impl.Imap{}, "* BYE", "n OK")
		s = mustTold(t, "behind logout", s, k, "o noop", impl.Imap{})
		mustTold(t, "the other session", s, 1-k, "a login bob berry", known("bob"), "a OK")
	}
}

// Two sessions of each sort, side by side: each has its own state, all have one
// mail store.
func TestSessionsSideBySide(t *testing.T) {
	s := impl.NewServer()
	smtp := func(k int, line, reply string) {
		t.Helper()
		got := mustServeDue(t, "side by side", s, toTaker(k, line))
		if got.reply != reply || got.code != impl.OK {
			t.Errorf("Smtp %d, %q: %q, code %d, not %q", k, line, got.reply, got.code, reply)
		}
		s = got.server
	}
	imap := func(k int, line string, said ...string) {
		t.Helper()
		got := mustServeDue(t, "side by side", s, toReader(k, line))
		if !slices.Equal(got.said, said) || got.code != impl.OK {
			t.Errorf("Imap %d, %q: %q, code %d, not %q", k, line, got.said, got.code, said)
		}
		s = got.server
	}
	smtp(0, "helo one", "250 hello")
	smtp(1, "mail from:<two>", "503 order")
	smtp(1, "helo two", "250 hello")
	smtp(0, "mail from:<one>", "250 ok")
	smtp(1, "mail from:<two>", "250 ok")
	smtp(0, "rcpt to:<ann>", "250 ok")
	smtp(1, "rcpt to:<bob>", "250 ok")
	smtp(1, "rcpt to:<ann>", "250 ok")
	smtp(0, "data", "354 go on")
	smtp(1, "data", "354 go on")
	smtp(0, "of one", "")
	smtp(1, "of two", "")
	imap(0, "a login ann apple", "a OK")
	imap(1, "a login bob berry", "a OK")
	imap(0, "b select inbox", "* 0 EXISTS", "* VALIDITY 1 NEXT 1", "b OK")
	smtp(1, ".", "250 ok")
	imap(0, "c fetch 1", "* FETCH 1 () {7}\nof two\n", "c OK")
	smtp(0, ".", "250 ok")
	imap(0, "d fetch 2", "* FETCH 2 () {7}\nof one\n", "d OK")
	imap(1, "b fetch 1", "b NO state")
	imap(1, "c select inbox", "* 1 EXISTS", "* VALIDITY 2 NEXT 2", "c OK")
	imap(0, "e logout", "* BYE", "e OK")
	imap(1, "d store 1 2", "d OK")
	imap(1, "e expunge", "* EXPUNGE 1", "e OK")
	smtp(0, "quit", "221 bye")
	smtp(1, "noop", "250 ok")
	if s.Store.Super.Gen != 5 {
		t.Errorf("Gen %d: 4 lines changed something", s.Store.Super.Gen)
	}
	imap(0, "f noop")
	smtp(0, "noop", "")
}

// A folder that one session takes away is gone for the other.
func TestSessionsShareTheStore(t *testing.T) {
	s := reading(reading(serverOf(town()), 0, inside("ann", "work")), 1, known("ann"))
	got := mustServeDue(t, "shared", s, toReader(1, "a delete work"))
	if !slices.Equal(got.said, []string{"a OK"}) {
		t.Errorf("%q", got.said)
	}
	mustTold(t, "gone", got.server, 0, "b fetch 1", inside("ann", "work"), "b NO folder")
}

// Sessions that are not there: nothing is answered, whatever the line is, of a
// server that is not Up too.
func TestOtherSessions(t *testing.T) {
	down := downByHand(grownTown().Store.Disk.Sectors, 20)
	for _, k := range []int{-1, 2, 3, 256, 1 << 32, -2, math.MinInt, math.MaxInt} {
		for _, s := range []impl.Server{impl.NewServer(), grownTown(), shaken(grownTown()), down} {
			for _, line := range []string{"", "noop", ".", long(61), long(65536)} {
				mustNotServe(t, "another session", s, toTaker(k, line), impl.ErrRange)
				mustNotServe(t, "another session", s, toReader(k, "a "+line[:min(len(line), 65534)]), impl.ErrRange)
			}
			mustNotServe(t, "another session", s, toTaker(k, long(65537)), impl.ErrLong)
			mustNotServe(t, "another session", s, toReader(k, long(65537)), impl.ErrLong)
		}
	}
}

// A server that is not Up says nothing, and is as it was.
func TestLinesWithoutPower(t *testing.T) {
	for what, s := range rightServers() {
		if s.Up {
			continue
		}
		for k := range 2 {
			for _, line := range []string{"", "noop", "a noop", "helo me", "a login ann apple", ".", long(61), long(65536)} {
				mustStayAs(t, what, s, toTaker(k, line), impl.ErrDown)
				mustStayAs(t, what, s, toReader(k, line), impl.ErrDown)
			}
			mustNotServe(t, what, s, toTaker(k, long(65537)), impl.ErrLong)
			mustNotServe(t, what, s, toReader(k, long(65537)), impl.ErrLong)
		}
	}
}

// changingLines are lines of a session that reads which change the mail store
// of deepServer, and what of it takes a page more than there may be.
func changingLines() map[string]bool {
	return map[string]bool{"store 1 1": false, "store 3 0": false, "expunge": false, "delete work": false, "copy 1 work": true, "copy 1 inbox": true, "create new": true}
}

// Where PutPairs has a code the store is as it was, also on its disk: a session
// that takes mail is as behind the line, one that reads as it was.
func TestNoRoom(t *testing.T) {
	t.Parallel()
	base := deepServer()
	for what, row := range map[string]struct {
		s    impl.Server
		word string
		all  bool
	}{
		"MaxGen":                      {atGen(base, 200), "many", true},
		"MaxGen, armed":               {shaken(atGen(base, 200), 1, 1), "many", true},
		"MaxGen without a page":       {crowded(atGen(base, 200), 0), "many", true},
		"no page":                     {crowded(base, 0), "full", true},
		"no page, armed":              {shaken(crowded(base, 0), 1), "full", true},
		"a page":                      {crowded(base, 1), "full", true},
		"no page, one below MaxGen":   {crowded(atGen(base, 199), 0), "full", true},
		"too deep":                    {base, "bad", false},
		"too deep, armed":             {shaken(base, 1), "bad", false},
		"too deep, one below MaxGen":  {atGen(base, 199), "bad", false},
		"too deep, but no page ahead": {crowded(base, 2), "full", false},
		"too deep, MaxGen, two pages": {atGen(crowded(base, 2), 200), "many", true},
	} {
		for k := range 2 {
			mustHaveNoRoom(t, what, row.s, k, row.word, row.all)
		}
	}
}

func mustHaveNoRoom(t *testing.T, what string, s impl.Server, k int, word string, all bool) {
	t.Helper()
	for _, users := range [][]string{{"ann"}, {"ann", "bob"}, {"bob", "ann"}} {
		full := taking(s, k, tellingTo(users, "x"))
		got := mustReply(t, what, full, k, ".", "452 no room", met())
		got = mustReply(t, what+", going on", got, k, "mail from:<me>", "250 ok", from("me"))
		mustReply(t, what+", the other session", got, 1-k, "helo me", "250 hello", met())
	}
	full := reading(s, k, inside("ann", "inbox"))
	for line, grows := range changingLines() {
		if !all && !grows {
			continue
		}
		for _, tag := range []string{"a", "A_1", "9999"} {
			got := mustTold(t, what, full, k, tag+" "+line, inside("ann", "inbox"), tag+" NO "+word)
			mustTold(t, what+", going on", got, k, "b noop", inside("ann", "inbox"), "b OK")
			mustTold(t, what, full, k, tag+" "+strings.ToUpper(line[:4])+line[4:], inside("ann", "inbox"), tag+" NO "+word)
		}
	}
	for _, line := range []string{"store 1 0", "store 3 2", "list", "search o", "fetch 1", "noop"} {
		got := mustServeDue(t, what, full, toReader(k, "a "+line))
		if got.said[len(got.said)-1] != "a OK" || !sameServer(got.server, full) {
			t.Errorf("%s: %s: %q", what, line, got.said)
		}
	}
}

// What takes nothing new is done where there is little room, what takes more
// is not: the pages are what counts, by the line.
func TestLittleRoom(t *testing.T) {
	words := map[string]int{}
	for free := range 12 {
		s := crowded(reading(taking(grownTown(), 0, telling("x")), 0, inside("ann", "inbox")), free)
		words["smtp "+mustServeDue(t, "little room", s, toTaker(0, ".")).reply]++
		for _, line := range []string{"a store 3 3", "a expunge", "a create far", "a copy 3 new", "a rename new far", "a delete new"} {
			got := mustServeDue(t, fmt.Sprint(free, " free"), s, toReader(0, line))
			words[strings.Fields(line)[1]+" "+got.said[len(got.said)-1]]++
		}
	}
	for _, word := range []string{"smtp 250 ok", "smtp 452 no room", "store a OK", "store a NO full", "create a OK", "create a NO full", "copy a OK", "copy a NO full", "rename a OK", "rename a NO full", "delete a OK", "delete a NO full"} {
		if words[word] == 0 {
			t.Errorf("%s never came: %v", word, words)
		}
	}
}

// What no page can have is told without `* EXPUNGE`: all that is said is that
// there is no room.
func TestNothingIsToldOfWhatIsNotDone(t *testing.T) {
	s := reading(atGen(serverOf(town()), 200), 1, inside("ann", "inbox"))
	mustTold(t, "expunge", s, 1, "tag_ EXPUNGE", inside("ann", "inbox"), "tag_ NO many")
	s = reading(serverOf(mailWith(town(), "m/ann/inbox/003", "0three")), 1, inside("ann", "inbox"))
	mustTold(t, "nothing to expunge", s, 1, "a expunge", inside("ann", "inbox"), "a OK")
	mustTold(t, "nothing to expunge", atGen(s, 200), 1, "a expunge", inside("ann", "inbox"), "a OK")
}

// The last commit that there can be.
func TestTheLastGen(t *testing.T) {
	s := reading(atGen(serverOf(town()), 199), 0, known("ann"))
	got := mustServeDue(t, "the last one", s, toReader(0, "a create new")).server
	if got.Store.Super.Gen != 200 {
		t.Errorf("Gen %d", got.Store.Super.Gen)
	}
	mustTold(t, "behind it", got, 0, "b create far", known("ann"), "b NO many")
	mustReply(t, "behind it", taking(got, 0, telling("x")), 0, ".", "452 no room", met())
	mustTold(t, "codes of its own come first", got, 0, "c create new", known("ann"), "c NO twice")
}
