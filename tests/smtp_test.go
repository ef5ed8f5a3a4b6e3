package tests

import (
	"fmt"
	"math/rand"
	"slices"
	"strings"
	"testing"

	"loop.example/g00340/impl"
)

// An ordinary session, line by line, with what it is behind each.
func TestSession(t *testing.T) {
	list, s := town(), impl.NewSmtp()
	for i, row := range []struct {
		line, reply string
		next        impl.Smtp
	}{
		{"helo me", "250 hello", met()},
		{"mail from:<me>", "250 ok", from("me")},
		{"rcpt to:<ann>", "250 ok", to("ann")},
		{"rcpt to:<bob>", "250 ok", to("ann", "bob")},
		{"data", "354 go on", telling()},
		{"Subject: hello", "", telling("Subject: hello")},
		{"", "", telling("Subject: hello", "")},
		{"..", "", telling("Subject: hello", "", ".")},
		{"body", "", telling("Subject: hello", "", ".", "body")},
	} {
		mustSay(t, fmt.Sprint("line ", i), list, s, row.line, row.reply, row.next)
		s = row.next
	}
	const text = "Subject: hello\n\n.\nbody\n"
	want := smtpTold{session: met(), reply: "250 ok", pairs: inBoth(text)}
	mustStep(t, "the end", list, s, ".", want)
	if value, code := impl.FieldOf(text, "subject"); value != "hello" || code != impl.OK {
		t.Errorf("the mail is no message: %q, %d", value, code)
	}
	// The session goes on: a second mail comes behind the first one.
	list, s = want.pairs, want.session
	replies := []string{"250 ok", "250 ok", "354 go on", "", "250 ok", "221 bye", ""}
	for i, line := range []string{"MAIL FROM:<you>", "RCPT TO:<bob>", "DATA", "second", ".", "QUIT", "NOOP"} {
		told := mustStep(t, line, list, s, line, smtpDue(list, s, line))
		if told.reply != replies[i] {
			t.Errorf("%q: %q, not %q", line, told.reply, replies[i])
		}
		list, s = told.pairs, told.session
	}
	mustPairs(t, "both mails", list, mailWith(inBoth(text), "f/bob/inbox", "2 5", "m/bob/inbox/004", "0second\n"))
	if !sameSmtp(s, impl.Smtp{Hello: true}) {
		t.Errorf("behind quit: %+v", s)
	}
}

func TestRunOfASession(t *testing.T) {
	lines := append(sent([]string{"ann", "bob"}, "one", "two"), "quit", "noop")
	replies := []string{"250 hello", "250 ok", "250 ok", "250 ok", "354 go on", "250 ok", "221 bye"}
	mustRun(t, "a mail", town(), lines, replies, inBoth("one\ntwo\n"), impl.OK)
	mustRun(t, "no lines", town(), nil, nil, town(), impl.OK)
	mustRun(t, "no lines at all", pairsOf("v", "1"), []string{}, nil, pairsOf("v", "1"), impl.OK)
	mustRun(t, "one line", town(), []string{"noop"}, []string{"250 ok"}, town(), impl.OK)
	mustRun(t, "nothing is said", town(), []string{"quit", "noop", "", long(61), "helo me"}, []string{"221 bye"}, town(), impl.OK)
	mustRun(t, "a mail without its end", town(), append(envelope("ann"), "x"), []string{"250 hello", "250 ok", "250 ok", "354 go on"}, town(), impl.OK)
	two := append(sent([]string{"bob"}, "x"), sent([]string{"bob", "an"}, "y")...)
	replies = []string{"250 hello", "250 ok", "250 ok", "354 go on", "250 ok", "250 hello", "250 ok", "250 ok", "250 ok", "354 go on", "250 ok"}
	mustRun(t, "two mails", town(), two, replies, mailWith(town(), "f/bob/inbox", "2 5", "m/bob/inbox/003", "0x\n", "m/bob/inbox/004", "0y\n", "f/an/inbox", "5 2", "m/an/inbox/001", "0y\n"), impl.OK)
}

// A run is always of a new session: what is said in one is nothing in another.
func TestRunsBeginNew(t *testing.T) {
	mustRun(t, "the first", town(), envelope("ann"), []string{"250 hello", "250 ok", "250 ok", "354 go on"}, town(), impl.OK)
	mustRun(t, "the second", town(), []string{".", "data", "mail from:<me>"}, []string{"500 what", "503 order", "503 order"}, town(), impl.OK)
}

// The text of a mail is its lines, each with a byte 10, whatever bytes they
// have.
func TestTextsOfMails(t *testing.T) {
	for _, row := range []struct {
		lines []string
		text  string
	}{
		{nil, ""},
		{[]string{""}, "\n"},
		{[]string{"", ""}, "\n\n"},
		{[]string{"x"}, "x\n"},
		{[]string{"x", "y"}, "x\ny\n"},
		{[]string{"..", "...", ".x", "..x", "x.", "x..", ". ", " ."}, ".\n..\nx\n.x\nx.\nx..\n \n .\n"},
		{[]string{"x\n", "\n", "\r"}, "x\n\n\n\n\r\n"},
		{[]string{".\n", "\x00\xff"}, "\n\n\x00\xff\n"},
		{[]string{"quit", "RSET", "data", "helo me", "noop"}, "quit\nRSET\ndata\nhelo me\nnoop\n"},
		{[]string{"mail from:<me>", "rcpt to:<an>"}, "mail from:<me>\nrcpt to:<an>\n"},
		{[]string{" lead", "trail ", "\ttab", "MiXed"}, " lead\ntrail \n\ttab\nMiXed\n"},
	} {
		replies := []string{"250 hello", "250 ok", "250 ok", "250 ok", "354 go on", "250 ok"}
		mustRun(t, fmt.Sprintf("%q", row.lines), town(), sent([]string{"ann", "bob"}, row.lines...), replies, inBoth(row.text), impl.OK)
	}
	for c := range 256 {
		if c == '.' {
			continue
		}
		line := string([]byte{byte(c)})
		mustSay(t, "a byte", town(), telling(), line, "", telling(line))
		mustStep(t, "a byte", town(), telling(line), ".", smtpTold{session: met(), reply: "250 ok", pairs: inBoth(line + "\n")})
		mustSay(t, "a byte behind a dot", town(), telling(), "."+line, "", telling(line))
	}
}

// The flags of a mail that comes are none, and its uid is the next one of the
// inbox.
func TestMailsThatCome(t *testing.T) {
	list := town()
	for i := range 3 {
		said, now, code := impl.SmtpRun(list, sent([]string{"bob"}, fmt.Sprint("mail ", i)))
		if code != impl.OK || said[len(said)-1] != "250 ok" {
			t.Fatal(said, code)
		}
		list = now
		f, code := impl.FolderAt(list, "bob", "inbox")
		want := impl.Mail{Uid: 3 + i, Text: fmt.Sprint("mail ", i, "\n")}
		if code != impl.OK || f.Next != 4+i || f.Mails[len(f.Mails)-1] != want {
			t.Errorf("%+v, not %+v", f, want)
		}
	}
}

// Whose inboxes a mail comes into is told by Rcpts alone: not by From, nor by
// names that begin alike.
func TestWhoseInboxes(t *testing.T) {
	list := town()
	for _, row := range []struct {
		users []string
		want  []impl.Pair
	}{
		{[]string{"an"}, mailWith(list, "f/an/inbox", "5 2", "m/an/inbox/001", "0x\n")},
		{[]string{"ann"}, mailWith(list, "f/ann/inbox", "1 6", "m/ann/inbox/005", "0x\n")},
		{[]string{"bob", "an"}, mailWith(list, "f/bob/inbox", "2 4", "m/bob/inbox/003", "0x\n", "f/an/inbox", "5 2", "m/an/inbox/001", "0x\n")},
		{[]string{"an", "bob"}, mailWith(list, "f/bob/inbox", "2 4", "m/bob/inbox/003", "0x\n", "f/an/inbox", "5 2", "m/an/inbox/001", "0x\n")},
	} {
		s := tellingTo(row.users, "x")
		for _, name := range []string{"me", "ann", "bob", "an", "inbox"} {
			s.From = name
			mustStep(t, fmt.Sprint(row.users), list, s, ".", smtpTold{session: met(), reply: "250 ok", pairs: row.want})
		}
	}
}

// noRooms are mail stores in which one of ann and bob, or both, can't have a
// mail more, and the reply of a mail to both.
func noRooms() map[string]struct {
	list  []impl.Pair
	reply string
} {
	six := []string{"f/ann/inbox", "1 9", "m/ann/inbox/007", "0"}
	return map[string]struct {
		list  []impl.Pair
		reply string
	}{
		"ann has six mails":         {mailWith(town(), six...), "452 no room"},
		"bob has six mails":         {mailWith(town(), "f/bob/inbox", "2 9", "m/bob/inbox/003", "0", "m/bob/inbox/004", "0", "m/bob/inbox/005", "0", "m/bob/inbox/006", "0", "m/bob/inbox/008", "2"), "452 no room"},
		"ann is at her last uid":    {mailWith(town(), "f/ann/inbox", "1 999"), "452 no room"},
		"bob is at his last uid":    {mailWith(town(), "f/bob/inbox", "2 999"), "452 no room"},
		"no room for any":           {fullTown(60), "452 no room"},
		"room for ann alone":        {fullTown(59), "452 no room"},
		"ann is gone":               {mailLess(town(), "u/ann", "f/ann/in", "f/ann/inbox", "f/ann/work", "m/ann/in/006", "m/ann/inbox/001", "m/ann/inbox/003", "m/ann/inbox/004", "m/ann/work/001"), "550 no such user"},
		"bob is gone":               {mailLess(town(), "u/bob", "f/bob/inbox", "m/bob/inbox/002"), "550 no such user"},
		"both are gone":             {pairsOf("v", "7"), "550 no such user"},
		"ann has six, bob is gone":  {mailWith(mailLess(town(), "u/bob", "f/bob/inbox", "m/bob/inbox/002"), six...), "452 no room"},
		"no room, and bob is gone":  {padded(mailLess(town(), "u/bob", "f/bob/inbox", "m/bob/inbox/002"), 60), "452 no room"},
		"one room, and bob is gone": {padded(mailLess(town(), "u/bob", "f/bob/inbox", "m/bob/inbox/002"), 59), "550 no such user"},
		"no room, and ann is gone":  {padded(pairsOf("f/bob/inbox", "2 3", "u/bob", "berry", "v", "7"), 60), "550 no such user"},
	}
}

// A mail for two comes to none of them if one can't have it, whichever of them
// is told first; and the session is cleared all the same.
func TestAllInboxesOrNone(t *testing.T) {
	for what, row := range noRooms() {
		if !impl.MailStoreOK(row.list) {
			t.Fatalf("%s: no mail store", what)
		}
		mustSay(t, what, row.list, telling("x"), ".", row.reply, met())
		mustSay(t, what+", without lines", row.list, telling(), ".", row.reply, met())
		back := tellingTo([]string{"bob", "ann"}, "x")
		told := mustStep(t, what+", bob first", row.list, back, ".", smtpDue(row.list, back, "."))
		mustPairs(t, what+", bob first", told.pairs, row.list)
		if told.reply != "452 no room" && told.reply != "550 no such user" {
			t.Errorf("%s, bob first: %q", what, told.reply)
		}
	}
	mustStep(t, "room for both", fullTown(58), telling("x"), ".", smtpTold{session: met(), reply: "250 ok",
		pairs: mailWith(fullTown(58), "f/ann/inbox", "1 6", "m/ann/inbox/005", "0x\n", "f/bob/inbox", "2 4", "m/bob/inbox/003", "0x\n")})
	mustStep(t, "room for one of one", fullTown(59), tellingTo([]string{"bob"}, "x"), ".", smtpTold{session: met(), reply: "250 ok",
		pairs: mailWith(fullTown(59), "f/bob/inbox", "2 4", "m/bob/inbox/003", "0x\n")})
	five := mailWith(town(), "f/bob/inbox", "2 998", "m/bob/inbox/003", "0", "m/bob/inbox/004", "0", "m/bob/inbox/005", "0", "m/bob/inbox/006", "0")
	mustStep(t, "the sixth mail, under the last uid", five, tellingTo([]string{"bob"}, "x"), ".", smtpTold{session: met(), reply: "250 ok",
		pairs: mailWith(five, "f/bob/inbox", "2 999", "m/bob/inbox/998", "0x\n")})
	mustSay(t, "both are gone, bob first", pairsOf("v", "7"), tellingTo([]string{"bob", "ann"}, "x"), ".", "550 no such user", met())
}

// The mails of six come, those behind them do not, and the session goes on.
func TestMailsTillThereIsNoRoom(t *testing.T) {
	lines := []string{"helo me"}
	var want []string
	for range 7 {
		lines = append(lines, "mail from:<me>", "rcpt to:<an>", "data", ".")
		want = append(want, "250 ok", "250 ok", "354 go on", "250 ok")
	}
	want[len(want)-1] = "452 no room"
	list := mailWith(town(), "f/an/inbox", "5 7")
	for i := range 6 {
		list = mailWith(list, fmt.Sprintf("m/an/inbox/%03d", i+1), "0")
	}
	mustRun(t, "seven mails", town(), lines, append([]string{"250 hello"}, want...), list, impl.OK)
}

// Runs of any lines: behind each the session and the mail store are right, and
// the answers those that are due; the run as a whole answers as its steps.
func TestRunsOfLines(t *testing.T) {
	t.Parallel()
	r := rand.New(rand.NewSource(91))
	replies := map[string]int{}
	for i := range 150 {
		list := [][]impl.Pair{town(), fullTown(57), fullTown(59), laterTown(), pairsOf("f/a/inbox", "1 1", "f/b/inbox", "1 996", "u/a", "x", "u/b", "y", "v", "2")}[r.Intn(5)]
		was, s := list, impl.NewSmtp()
		var lines, said []string
		for range 60 {
			line := someLine(r, s)
			if r.Intn(40) == 0 {
				line = strings.ToUpper(line)
			}
			told := mustStep(t, fmt.Sprint("run ", i), list, s, line, smtpDue(list, s, line))
			lines = append(lines, line)
			if told.reply != "" {
				said = append(said, told.reply)
			}
			replies[told.reply]++
			list, s = told.pairs, told.session
		}
		mustRun(t, fmt.Sprint("run ", i), was, lines, said, list, impl.OK)
		if t.Failed() {
			return
		}
	}
	for _, reply := range allReplies() {
		if replies[reply] < 5 {
			t.Errorf("%q came %d times", reply, replies[reply])
		}
	}
	if len(replies) != len(allReplies()) {
		t.Errorf("other replies than there are: %v", replies)
	}
}

func allReplies() []string {
	return []string{"", "221 bye", "250 ok", "250 hello", "354 go on", "452 no room", "452 too many", "500 what", "500 too long", "501 what", "503 order", "550 no such user", "552 too long"}
}

// Sessions of any sort, on any mail store, with any line.
func TestAnyStep(t *testing.T) {
	r := rand.New(rand.NewSource(92))
	var sessions []impl.Smtp
	for _, s := range rightSmtps() {
		sessions = append(sessions, s)
	}
	slices.SortFunc(sessions, func(a, b impl.Smtp) int { return strings.Compare(fmt.Sprint(a), fmt.Sprint(b)) })
	stores := append(someStores(), laterTown())
	for range 6000 {
		s, list := sessions[r.Intn(len(sessions))], stores[r.Intn(len(stores))]
		line := someLine(r, s)
		if r.Intn(4) == 0 {
			line = oddLine(r)
		}
		mustStep(t, fmt.Sprintf("%.200q", fmt.Sprintf("%+v", s)), list, s, line, smtpDue(list, s, line))
	}
}
