package tests

import (
	"fmt"
	"math/rand"
	"slices"
	"strings"
	"testing"

	"loop.example/g00340/impl"
)

// smtpTold is all that a step of a session that takes mail answers.
type smtpTold struct {
	session impl.Smtp
	reply   string
	pairs   []impl.Pair
	code    int
}

func smtpDo(list []impl.Pair, s impl.Smtp, line string) (told smtpTold) {
	told.session, told.reply, told.pairs, told.code = impl.SmtpStep(list, s, line)
	return told
}

func sameSmtp(a, b impl.Smtp) bool {
	return a.Hello == b.Hello && a.Data == b.Data && a.Open == b.Open && a.From == b.From && slices.Equal(a.Rcpts, b.Rcpts) && slices.Equal(a.Lines, b.Lines)
}

func sameSmtpTold(a, b smtpTold) bool {
	return a.code == b.code && a.reply == b.reply && sameSmtp(a.session, b.session) && slices.Equal(a.pairs, b.pairs)
}

func cloneSmtp(s impl.Smtp) impl.Smtp {
	s.Rcpts, s.Lines = slices.Clone(s.Rcpts), slices.Clone(s.Lines)
	return s
}

// The sessions that lines lead to, one behind the other.

func met() impl.Smtp { return impl.Smtp{Open: true, Hello: true} }

func from(name string) impl.Smtp {
	s := met()
	s.From = name
	return s
}

func to(users ...string) impl.Smtp {
	s := from("me")
	s.Rcpts = users
	return s
}

// telling is a session with Data for ann and bob, and these lines.
func telling(lines ...string) impl.Smtp { return tellingTo([]string{"ann", "bob"}, lines...) }

func tellingTo(users []string, lines ...string) impl.Smtp {
	s := to(users...)
	s.Data, s.Lines = true, lines
	return s
}

func shut(s impl.Smtp) impl.Smtp {
	return impl.Smtp{Hello: s.Hello}
}

func clearedByHand(s impl.Smtp) impl.Smtp {
	return impl.Smtp{Hello: s.Hello, Open: s.Open}
}

// smtpByHand tells whether a session is right, by what may not be.
func smtpByHand(s impl.Smtp) bool {
	wrong := s.From != "" && (!shortWord.MatchString(s.From) || !s.Hello || !s.Open)
	wrong = wrong || s.From == "" && len(s.Rcpts) > 0
	wrong = wrong || s.Data && len(s.Rcpts) == 0
	wrong = wrong || !s.Data && len(s.Lines) > 0
	wrong = wrong || len(s.Rcpts) > 2 || len(s.Lines) > 9
	wrong = wrong || slices.ContainsFunc(s.Rcpts, func(user string) bool { return !shortWord.MatchString(user) })
	wrong = wrong || len(s.Rcpts) == 2 && s.Rcpts[0] == s.Rcpts[1]
	return !wrong && !slices.ContainsFunc(s.Lines, func(line string) bool { return len(line) > 60 })
}

// smtpDue gives what a step is to answer.
func smtpDue(list []impl.Pair, s impl.Smtp, line string) smtpTold {
	switch {
	case len(list) > 4096 || len(line) > 65536:
		return smtpTold{code: impl.ErrLong}
	case !mailByHand(list) || !smtpByHand(s):
		return smtpTold{code: impl.ErrBad}
	}
	return heardByHand(list, s, line)
}

// heardByHand is a step of a right session, with a line of any length.
func heardByHand(list []impl.Pair, s impl.Smtp, line string) smtpTold {
	told := smtpTold{session: cloneSmtp(s), pairs: slices.Clone(list)}
	switch {
	case !s.Open:
	case len(line) > 60:
		told.reply = "500 too long"
	case s.Data && line == ".":
		told.reply, told.pairs = endByHand(list, s)
		told.session = clearedByHand(s)
	case s.Data:
		if len(line) > 0 && line[0] == '.' {
			line = line[1:]
		}
		if len(s.Lines) < 9 {
			told.session.Lines = append(told.session.Lines, line)
		}
	default:
		told.reply = verbByHand(&told.session, boxOf(list), line)
	}
	return told
}

// endByHand puts a mail into a box, Rcpt by Rcpt.
func endByHand(list []impl.Pair, s impl.Smtp) (string, []impl.Pair) {
	text := ""
	if len(s.Lines) > 0 {
		text = strings.Join(s.Lines, "\n") + "\n"
	}
	if len(s.Lines) == 9 || len(text) > 85 {
		return "552 too long", slices.Clone(list)
	}
	b := boxOf(list)
	for _, user := range s.Rcpts {
		if !b.has("u/" + user) {
			return "550 no such user", slices.Clone(list)
		}
		if b.add(user, "inbox", "0"+text, &mailTold{}) != impl.OK || len(b) > 60 {
			return "452 no room", slices.Clone(list)
		}
	}
	return "250 ok", b.pairs()
}

// verbByHand changes a session that is Open, without Data, by a line.
func verbByHand(s *impl.Smtp, b box, line string) string {
	lower := smallByHand.Replace(line)
	switch {
	case strings.HasPrefix(lower, "helo ") && shortWord.MatchString(line[5:]):
		*s = met()
		return "250 hello"
	case strings.HasPrefix(lower, "mail from:"):
		name := inBrackets(line[10:])
		if name == "" {
			return "501 what"
		}
		if !s.Hello || s.From != "" {
			return "503 order"
		}
		s.From = name
		return "250 ok"
	case strings.HasPrefix(lower, "rcpt to:"):
		return rcptByHand(s, b, inBrackets(line[8:]))
	case lower == "data":
		if len(s.Rcpts) == 0 {
			return "503 order"
		}
		s.Data = true
		return "354 go on"
	case lower == "rset":
		*s = clearedByHand(*s)
		return "250 ok"
	case lower == "noop":
		return "250 ok"
	case lower == "quit":
		*s = shut(*s)
		return "221 bye"
	}
	return "500 what"
}

// inBrackets gives the short name whose text in brackets this is, else none.
func inBrackets(text string) string {
	if len(text) < 3 || text[0] != '<' || text[len(text)-1] != '>' || !shortWord.MatchString(text[1:len(text)-1]) {
		return ""
	}
	return text[1 : len(text)-1]
}

func rcptByHand(s *impl.Smtp, b box, user string) string {
	switch {
	case user == "":
		return "501 what"
	case s.From == "":
		return "503 order"
	case !b.has("u/" + user):
		return "550 no such user"
	case slices.Contains(s.Rcpts, user):
		return "250 ok"
	case len(s.Rcpts) >= 2:
		return "452 too many"
	}
	s.Rcpts = append(s.Rcpts, user)
	return "250 ok"
}

// smtpRunDue gives what a run is to answer.
func smtpRunDue(list []impl.Pair, lines []string) ([]string, []impl.Pair, int) {
	switch {
	case len(list) > 4096 || len(lines) > 4096:
		return nil, nil, impl.ErrLong
	case !mailByHand(list):
		return nil, nil, impl.ErrBad
	case len(lines) > 60:
		return nil, nil, impl.ErrMany
	}
	var replies []string
	s := impl.Smtp{Open: true}
	for _, line := range lines {
		told := heardByHand(list, s, line)
		s, list = told.session, told.pairs
		if told.reply != "" {
			replies = append(replies, told.reply)
		}
	}
	return replies, slices.Clone(list), impl.OK
}

// mustStep asks a step and holds it against what is wanted, and what is wanted
// against the step that is done by hand.
func mustStep(t *testing.T, what string, list []impl.Pair, s impl.Smtp, line string, want smtpTold) smtpTold {
	t.Helper()
	got := smtpDo(list, s, line)
	if !sameSmtpTold(got, want) {
		t.Errorf("%s: %.70q: %.900q, not %.900q", what, line, fmt.Sprint(got), fmt.Sprint(want))
	}
	if due := smtpDue(list, s, line); !sameSmtpTold(due, want) {
		t.Errorf("%s: %.70q by hand: %.900q, not %.900q", what, line, fmt.Sprint(due), fmt.Sprint(want))
	}
	if got.code == impl.OK {
		mustStayRight(t, what, list, s, line, got)
	}
	return got
}

// mustStayRight asks what holds behind each line: session and mail store are
// right, and nothing is changed but by the lone `.`, which brings the mail
// into the inboxes of all Rcpts or into none.
func mustStayRight(t *testing.T, what string, list []impl.Pair, s impl.Smtp, line string, got smtpTold) {
	t.Helper()
	if !impl.SmtpOK(got.session) || !smtpByHand(got.session) {
		t.Errorf("%s: %.70q: no right session is answered: %s", what, line, named(got.session))
	}
	if !impl.MailStoreOK(got.pairs) || !mailByHand(got.pairs) {
		t.Errorf("%s: %.70q: no mail store is answered: %q", what, line, got.pairs)
	}
	if slices.Equal(list, got.pairs) {
		return
	}
	if !s.Open || !s.Data || line != "." || got.reply != "250 ok" {
		t.Errorf("%s: %.70q: the mail store is another one", what, line)
	}
	was, is := boxOf(list), boxOf(got.pairs)
	for _, user := range s.Rcpts {
		old, now := was.folder(user, "inbox"), is.folder(user, "inbox")
		old.Mails = append(old.Mails, impl.Mail{Uid: old.Next, Text: textOf(s.Lines)})
		old.Next++
		if !sameFolder(now, old) {
			t.Errorf("%s: the inbox of %s is %+v, not %+v", what, user, now, old)
		}
		for _, b := range []box{was, is} {
			delete(b, "f/"+user+"/inbox")
			for _, key := range b.under("m/" + user + "/inbox/") {
				delete(b, key)
			}
		}
	}
	mustPairs(t, what+": all else", is.pairs(), was.pairs())
}

func textOf(lines []string) string {
	var b strings.Builder
	for _, line := range lines {
		b.WriteString(line + "\n")
	}
	return b.String()
}

// mustSay asks for a reply with which the mail store is as it was.
func mustSay(t *testing.T, what string, list []impl.Pair, s impl.Smtp, line, reply string, next impl.Smtp) {
	t.Helper()
	mustStep(t, what, list, s, line, smtpTold{session: next, reply: reply, pairs: list})
}

// mustSayOnly asks for a reply with which all is as it was.
func mustSayOnly(t *testing.T, what string, list []impl.Pair, s impl.Smtp, line, reply string) {
	t.Helper()
	mustSay(t, what, list, s, line, reply, s)
}

// mustNotStep asks for a code, with which nothing is answered.
func mustNotStep(t *testing.T, what string, list []impl.Pair, s impl.Smtp, line string, code int) {
	t.Helper()
	mustStep(t, what, list, s, line, smtpTold{code: code})
}

// mustRun asks a run and holds it against what is wanted, against the run by
// hand, and against its steps one by one.
func mustRun(t *testing.T, what string, list []impl.Pair, lines, replies []string, pairs []impl.Pair, wantCode int) {
	t.Helper()
	said, now, code := impl.SmtpRun(list, lines)
	if code != wantCode || !slices.Equal(said, replies) || !slices.Equal(now, pairs) {
		t.Errorf("%s: code %d, not %d, %q, not %q: %.900q, not %.900q", what, code, wantCode, said, replies, fmt.Sprint(now), fmt.Sprint(pairs))
	}
	if dueSaid, due, dueCode := smtpRunDue(list, lines); dueCode != wantCode || !slices.Equal(dueSaid, replies) || !slices.Equal(due, pairs) {
		t.Errorf("%s by hand: code %d, not %d, %q, not %q: %.900q", what, dueCode, wantCode, dueSaid, replies, fmt.Sprint(due))
	}
	if code == impl.OK {
		mustRunAsSteps(t, what, list, lines, said, now)
	}
}

func mustRunAsSteps(t *testing.T, what string, list []impl.Pair, lines, said []string, now []impl.Pair) {
	t.Helper()
	var replies []string
	s := impl.NewSmtp()
	for _, line := range lines {
		if len(line) > 65536 {
			// A step has a code of its own for it; within a list it is as long as
			// any other line that is too long.
			line = line[:65536]
		}
		told := mustStep(t, what, list, s, line, smtpDue(list, s, line))
		s, list = told.session, told.pairs
		if told.reply != "" {
			replies = append(replies, told.reply)
		}
	}
	if !slices.Equal(replies, said) || !slices.Equal(list, now) {
		t.Errorf("%s: the run says %q, its steps %q", what, said, replies)
	}
}

// envelope gives the lines of a session up to Data, for these users.
func envelope(users ...string) []string {
	lines := []string{"HELO me", "MAIL FROM:<me>"}
	for _, user := range users {
		lines = append(lines, "RCPT TO:<"+user+">")
	}
	return append(lines, "DATA")
}

// sent gives the lines that send one mail.
func sent(users []string, lines ...string) []string {
	return append(append(envelope(users...), lines...), ".")
}

// inBoth gives the ordinary mail store with a mail more of ann and of bob.
func inBoth(text string) []impl.Pair {
	return mailWith(town(), "f/ann/inbox", "1 6", "m/ann/inbox/005", "0"+text, "f/bob/inbox", "2 4", "m/bob/inbox/003", "0"+text)
}

// anyCase gives a text with some letters made great or small.
func anyCase(r *rand.Rand, text string) string {
	b := []byte(text)
	for i, c := range b {
		if r.Intn(2) == 0 && ('a' <= c && c <= 'z' || 'A' <= c && c <= 'Z') {
			b[i] = c ^ 0x20
		}
	}
	return string(b)
}

// someLine gives a line that often moves a session on.
func someLine(r *rand.Rand, s impl.Smtp) string {
	if r.Intn(12) == 0 {
		return oddLine(r)
	}
	if s.Data {
		return []string{".", ".", "", "x", "..", ".x", "data", "quit", "Subject: x", long(40), someText(r, 12)}[r.Intn(11)]
	}
	users := []string{"ann", "bob", "an", "a", "b", "none", "ANN"}
	user := users[r.Intn(len(users)-r.Intn(2)*2)]
	next := []string{anyCase(r, "helo ") + "me", anyCase(r, "mail from:<") + "me>", anyCase(r, "rcpt to:<") + user + ">", anyCase(r, "data"), anyCase(r, "rset"), anyCase(r, "noop")}
	switch {
	case r.Intn(4) == 0:
		return next[r.Intn(len(next))]
	case r.Intn(60) == 0:
		return anyCase(r, "quit")
	case !s.Hello:
		return next[0]
	case s.From == "":
		return next[1]
	case len(s.Rcpts) < 1+r.Intn(3):
		return next[2]
	}
	return next[3]
}

// oddLine gives a line that is mostly none.
func oddLine(r *rand.Rand) string {
	odd := []string{"", " ", ".", "..", "helo", "helo ", "helo  me", "helo 9", "mail from:", "mail from:<>", "mail from:<9>", "mail from:me", "mail from: <me>", "rcpt to:<nine_byte>", "rcpt to:<ann",
		"rcpt to:<ann> ", "data ", "datax", "rset x", "noop ", "quit.", "what", "\x00", "\n", long(60), long(61), long(65536), "rcpt to:<" + long(60) + ">"}
	if r.Intn(3) == 0 {
		return someText(r, 70)
	}
	return odd[r.Intn(len(odd))]
}
