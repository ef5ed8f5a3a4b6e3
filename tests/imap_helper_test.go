package tests

import (
	"fmt"
	"math/rand"
	"regexp"
	"slices"
	"strings"
	"testing"

	"loop.example/g00340/impl"
)

// imapTold is all that a step of a session that reads answers.
type imapTold struct {
	session impl.Imap
	said    []string
	pairs   []impl.Pair
	code    int
}

func imapStep(list []impl.Pair, s impl.Imap, line string) (told imapTold) {
	told.session, told.said, told.pairs, told.code = impl.ImapStep(list, s, line)
	return told
}

func sameImapTold(a, b imapTold) bool {
	return a.code == b.code && a.session == b.session && slices.Equal(a.said, b.said) && slices.Equal(a.pairs, b.pairs)
}

// The sessions that lines lead to, one behind the other.

func newcomer() impl.Imap { return impl.Imap{Open: true} }

func known(user string) impl.Imap { return impl.Imap{Open: true, User: user} }

func inside(user, folder string) impl.Imap {
	return impl.Imap{Open: true, User: user, Folder: folder}
}

// imapByHand tells whether a session is right, by what may not be.
func imapByHand(s impl.Imap) bool {
	wrong := s.User != "" && (!shortWord.MatchString(s.User) || !s.Open)
	wrong = wrong || s.Folder != "" && (!shortWord.MatchString(s.Folder) || s.User == "")
	return !wrong
}

// imapDue gives what a step is to answer.
func imapDue(list []impl.Pair, s impl.Imap, line string) imapTold {
	switch {
	case len(list) > 4096 || len(line) > 65536:
		return imapTold{code: impl.ErrLong}
	case !mailByHand(list) || !imapByHand(s):
		return imapTold{code: impl.ErrBad}
	}
	return readByHand(list, s, line)
}

var (
	taggedForm = regexp.MustCompile(`(?s)\A([A-Za-z0-9_]{1,4}) (.*)\z`)
	numberForm = regexp.MustCompile(`\A(0|-?[1-9][0-9]{0,17})\z`)
)

// A command by hand: how many arguments it has, and what it asks for: nothing,
// a User (1), a Folder (2), a Folder and a uid (3).
var commandsByHand = map[string]struct{ arguments, asks int }{
	"noop": {0, 0}, "logout": {0, 0}, "login": {2, 0},
	"list": {0, 1}, "select": {1, 1}, "create": {1, 1}, "delete": {1, 1}, "rename": {2, 1},
	"expunge": {0, 2}, "search": {1, 2},
	"fetch": {1, 3}, "store": {2, 3}, "copy": {2, 3},
}

// readByHand is a step of a right session, with a line of any length.
func readByHand(list []impl.Pair, s impl.Imap, line string) imapTold {
	told := imapTold{session: s, pairs: slices.Clone(list)}
	if !s.Open {
		return told
	}
	parts := taggedForm.FindStringSubmatch(line)
	if len(line) > 60 || parts == nil {
		told.said = []string{"* BAD"}
		return told
	}
	words := strings.Split(parts[2], " ")
	words[0] = smallByHand.Replace(words[0])
	code, bad := 0, false
	if code, bad = unfitByHand(list, s, words); !bad && code == impl.OK {
		code = commandByHand(&told, words)
	}
	switch {
	case bad:
		told.said = []string{parts[1] + " BAD"}
	case code != impl.OK:
		told.said = []string{parts[1] + " NO " + impl.CodeWord(code)}
	default:
		told.said = append(told.said, parts[1]+" OK")
	}
	return told
}

// unfitByHand finds what all commands have in common: the number of their
// arguments, the User, the Folder, the uid.
func unfitByHand(list []impl.Pair, s impl.Imap, words []string) (code int, bad bool) {
	form, there := commandsByHand[words[0]]
	if !there || len(words)-1 != form.arguments {
		return 0, true
	}
	if form.asks >= 1 && s.User == "" || form.asks >= 2 && s.Folder == "" {
		return impl.ErrState, false
	}
	if form.asks >= 2 {
		b := boxOf(list)
		if !b.has("u/" + s.User) {
			return impl.ErrUser, false
		}
		if !b.has("f/" + s.User + "/" + s.Folder) {
			return impl.ErrFolder, false
		}
	}
	return impl.OK, form.asks == 3 && !numberForm.MatchString(words[1])
}

// commandByHand does a command that fits, and tells its code.
func commandByHand(told *imapTold, words []string) int {
	s, b := &told.session, boxOf(told.pairs)
	a := mailAsk{user: s.User, folder: s.Folder}
	switch words[0] {
	case "logout":
		*s = impl.Imap{}
		told.said = []string{"* BYE"}
	case "login":
		if s.User != "" {
			return impl.ErrState
		}
		if words[2] == "" || b["u/"+words[1]] != words[2] {
			return impl.ErrUser
		}
		s.User = words[1]
	case "list":
		// No code: a User that is gone has no key here.
		for _, key := range b.under("f/" + s.User + "/") {
			told.said = append(told.said, "* LIST "+strings.TrimPrefix(key, "f/"+s.User+"/"))
		}
	case "select":
		a.call, a.folder = "FolderAt", words[1]
		s.Folder = ""
	case "create":
		a.call, a.folder = "MakeFolder", words[1]
	case "delete":
		a.call, a.folder = "DropFolder", words[1]
	case "rename":
		a.call, a.folder, a.other = "RenameFolder", words[1], words[2]
	case "fetch", "search":
		return lookByHand(told, b.folder(s.User, s.Folder), words)
	case "store":
		if len(words[2]) != 1 || !strings.Contains("0123", words[2]) {
			return impl.ErrRange
		}
		a.call, a.uid, a.flags = "SetFlags", whole(words[1]), whole(words[2])
	case "expunge":
		a.call = "ExpungeFolder"
	case "copy":
		a.call, a.uid, a.other = "CopyMail", whole(words[1]), words[2]
	}
	if a.call == "" {
		return impl.OK
	}
	return askedByHand(told, a)
}

// askedByHand does a command by a call of chapter 8.
func askedByHand(told *imapTold, a mailAsk) int {
	due := a.byHand(told.pairs)
	if due.code != impl.OK {
		return due.code
	}
	if a.answersPairs() {
		told.pairs = due.pairs
	}
	for _, uid := range due.uids {
		told.said = append(told.said, fmt.Sprint("* EXPUNGE ", uid))
	}
	if a.call == "FolderAt" {
		told.session.Folder = a.folder
		told.said = selectedByHand(due.folder)
	}
	return impl.OK
}

func selectedByHand(f impl.Folder) []string {
	return []string{fmt.Sprintf("* %d EXISTS", len(f.Mails)), fmt.Sprintf("* VALIDITY %d NEXT %d", f.Validity, f.Next)}
}

func fetchedByHand(m impl.Mail) string {
	return fmt.Sprintf("* FETCH %d %s {%d}\n%s", m.Uid, []string{"()", "(seen)", "(deleted)", "(seen deleted)"}[m.Flags], len(m.Text), m.Text)
}

// lookByHand does the commands that only look at mails.
func lookByHand(told *imapTold, f impl.Folder, words []string) int {
	found := "* SEARCH"
	for _, m := range f.Mails {
		if words[0] == "fetch" && fmt.Sprint(m.Uid) == words[1] {
			told.said = []string{fetchedByHand(m)}
			return impl.OK
		}
		if strings.Contains(smallByHand.Replace(m.Text), smallByHand.Replace(words[1])) {
			found += fmt.Sprint(" ", m.Uid)
		}
	}
	if words[0] == "fetch" {
		return impl.ErrNone
	}
	told.said = []string{found}
	return impl.OK
}

// imapRunDue gives what a run is to answer.
func imapRunDue(list []impl.Pair, lines []string) ([]string, []impl.Pair, int) {
	switch {
	case len(list) > 4096 || len(lines) > 4096:
		return nil, nil, impl.ErrLong
	case !mailByHand(list):
		return nil, nil, impl.ErrBad
	case len(lines) > 60:
		return nil, nil, impl.ErrMany
	}
	var said []string
	s := newcomer()
	for _, line := range lines {
		told := readByHand(list, s, line)
		s, list = told.session, told.pairs
		said = append(said, told.said...)
	}
	return said, slices.Clone(list), impl.OK
}

// mustHear asks a step and holds it against what is wanted, and what is wanted
// against the step that is done by hand.
func mustHear(t *testing.T, what string, list []impl.Pair, s impl.Imap, line string, want imapTold) imapTold {
	t.Helper()
	got := imapStep(list, s, line)
	if !sameImapTold(got, want) {
		t.Errorf("%s: %.70q: %.900q, not %.900q", what, line, fmt.Sprint(got), fmt.Sprint(want))
	}
	if due := imapDue(list, s, line); !sameImapTold(due, want) {
		t.Errorf("%s: %.70q by hand: %.900q, not %.900q", what, line, fmt.Sprint(due), fmt.Sprint(want))
	}
	if got.code == impl.OK {
		mustReadRight(t, what, list, s, line, got)
	}
	return got
}

// mustHearDue asks a step for what is done by hand.
func mustHearDue(t *testing.T, what string, list []impl.Pair, s impl.Imap, line string) imapTold {
	t.Helper()
	return mustHear(t, what, list, s, line, imapDue(list, s, line))
}

// mustHearAs asks for the session behind a line and what is said, with which
// the mail store is as it was.
func mustHearAs(t *testing.T, what string, list []impl.Pair, s impl.Imap, line string, next impl.Imap, said ...string) {
	t.Helper()
	mustHear(t, what, list, s, line, imapTold{session: next, said: said, pairs: list})
}

// mustHearOnly asks for what is said, with which all is as it was.
func mustHearOnly(t *testing.T, what string, list []impl.Pair, s impl.Imap, line string, said ...string) {
	t.Helper()
	mustHearAs(t, what, list, s, line, s, said...)
}

// mustHearNow asks for the mail store behind a line and what is said, with
// which the session is as it was.
func mustHearNow(t *testing.T, what string, list []impl.Pair, s impl.Imap, line string, now []impl.Pair, said ...string) {
	t.Helper()
	mustHear(t, what, list, s, line, imapTold{session: s, said: said, pairs: now})
}

// mustNotHear asks for a code, with which nothing is answered.
func mustNotHear(t *testing.T, what string, list []impl.Pair, s impl.Imap, line string, code int) {
	t.Helper()
	mustHear(t, what, list, s, line, imapTold{code: code})
}

// mustReadRight asks what holds behind each line: session and mail store are
// right, validities only rise, and nothing is changed but what is the User's,
// by a line that ends with OK.
func mustReadRight(t *testing.T, what string, list []impl.Pair, s impl.Imap, line string, got imapTold) {
	t.Helper()
	if !impl.ImapOK(got.session) || !imapByHand(got.session) {
		t.Errorf("%s: %.70q: no right session is answered: %+v", what, line, got.session)
	}
	if !impl.MailStoreOK(got.pairs) || !mailByHand(got.pairs) {
		t.Errorf("%s: %.70q: no mail store is answered: %q", what, line, got.pairs)
	}
	if fault := validityFault(boxOf(list), boxOf(got.pairs)); fault != "" {
		t.Errorf("%s: %.70q: %s", what, line, fault)
	}
	if slices.Equal(list, got.pairs) {
		return
	}
	if !s.Open || s.User == "" || !strings.HasSuffix(got.said[len(got.said)-1], " OK") {
		t.Errorf("%s: %.70q: the mail store is another one", what, line)
	}
	was, is := boxOf(list), boxOf(got.pairs)
	for _, b := range []box{was, is} {
		delete(b, "v")
		for _, key := range append(b.under("f/"+s.User+"/"), b.under("m/"+s.User+"/")...) {
			delete(b, key)
		}
	}
	mustPairs(t, what+": all that is not the User's", is.pairs(), was.pairs())
}

// validityFault tells what did not rise from the ones to the others: the next
// validity, or a folder that is neither fresh nor the old one, its NEXT not
// below what it was.
func validityFault(was, is box) string {
	if whole(is["v"]) < whole(was["v"]) {
		return "the next validity fell"
	}
	for _, key := range is.under("f/") {
		validity, next, _ := strings.Cut(is[key], " ")
		old, oldNext, _ := strings.Cut(was[key], " ")
		if whole(validity) < whole(was["v"]) && (validity != old || whole(next) < whole(oldNext)) {
			return fmt.Sprintf("%s was %q, is %q, the next validity was %s", key, was[key], is[key], was["v"])
		}
	}
	return ""
}

// mustReadRun asks a run and holds it against what is wanted, against the run by
// hand, and against its steps one by one.
func mustReadRun(t *testing.T, what string, list []impl.Pair, lines, said []string, pairs []impl.Pair, wantCode int) {
	t.Helper()
	told, now, code := impl.ImapRun(list, lines)
	if code != wantCode || !slices.Equal(told, said) || !slices.Equal(now, pairs) {
		t.Errorf("%s: code %d, not %d, %q, not %q: %.900q, not %.900q", what, code, wantCode, told, said, fmt.Sprint(now), fmt.Sprint(pairs))
	}
	if dueSaid, due, dueCode := imapRunDue(list, lines); dueCode != wantCode || !slices.Equal(dueSaid, said) || !slices.Equal(due, pairs) {
		t.Errorf("%s by hand: code %d, not %d, %q, not %q: %.900q", what, dueCode, wantCode, dueSaid, said, fmt.Sprint(due))
	}
	if code == impl.OK {
		mustReadAsSteps(t, what, list, lines, told, now)
	}
}

func mustReadAsSteps(t *testing.T, what string, list []impl.Pair, lines, told []string, now []impl.Pair) {
	t.Helper()
	var said []string
	s := impl.NewImap()
	for _, line := range lines {
		if len(line) > 65536 {
			// A step has a code of its own for it; within a list it is as long as
			// any other line that is too long.
			line = line[:65536]
		}
		step := mustHearDue(t, what, list, s, line)
		s, list = step.session, step.pairs
		said = append(said, step.said...)
	}
	if !slices.Equal(said, told) || !slices.Equal(list, now) {
		t.Errorf("%s: the run says %q, its steps %q", what, told, said)
	}
}

// goneUser and goneFolder are the ordinary mail store without ann, and without
// two of her folders.
func goneUser() []impl.Pair {
	return mailLess(town(), "u/ann", "f/ann/in", "f/ann/inbox", "f/ann/work", "m/ann/in/006", "m/ann/inbox/001", "m/ann/inbox/003", "m/ann/inbox/004", "m/ann/work/001")
}

func goneFolder() []impl.Pair {
	return mailLess(town(), "f/ann/in", "f/ann/work", "m/ann/in/006", "m/ann/work/001")
}

// pick gives one of some texts.
func pick(r *rand.Rand, texts ...string) string { return texts[r.Intn(len(texts))] }

// someCommand gives a line that often moves a session on.
func someCommand(r *rand.Rand, s impl.Imap) string {
	if r.Intn(10) == 0 {
		return oddCommand(r)
	}
	tag := pick(r, "a", "b2", "A_1", "9999", "_") + " "
	folder := func() string {
		return pick(r, "inbox", "inbox", "inbox", "work", "work", "in", "new", "old", "x00", "Inbox", "nine_byte", "9", "")
	}
	uid := func() string {
		return pick(r, "1", "1", "1", "2", "3", "3", "4", "5", "6", "6", "7", "8", "-1", "999", "01", "x", "+1")
	}
	word := pick(r, "o", "IN", "e", "zz", "", "two", "\n", "\xff", "T")
	next := []string{
		anyCase(r, "login ") + pick(r, "ann apple", "ann apple", "ann apple", "bob berry", "an apple", "ann berry", "none apple", "a x", "Ann apple"),
		anyCase(r, "select ") + folder(), anyCase(r, "create ") + folder(), anyCase(r, "delete ") + folder(), anyCase(r, "rename ") + folder() + " " + folder(),
		anyCase(r, "list"), anyCase(r, "noop"), anyCase(r, "expunge"), anyCase(r, "search ") + word,
		anyCase(r, "fetch ") + uid(), anyCase(r, "fetch ") + uid(), anyCase(r, "store ") + uid() + " " + pick(r, "0", "1", "2", "2", "3", "4", "x", ""),
		anyCase(r, "copy ") + uid() + " " + folder(), anyCase(r, "copy ") + uid() + " " + pick(r, "inbox", "work", "in"),
	}
	switch {
	case r.Intn(300) == 0:
		return tag + anyCase(r, "logout")
	case s.User == "" && r.Intn(4) > 0:
		return tag + next[0]
	case s.Folder == "" && r.Intn(3) > 0:
		return tag + next[1]
	}
	return tag + next[r.Intn(len(next))]
}

// oddCommand gives a line that is mostly none.
func oddCommand(r *rand.Rand) string {
	odd := []string{"", " ", "a", "a ", "a  ", "a  noop", "a noop ", " noop", "abcde noop", "a.b noop", "* noop", "a what", "a noop x", "a logout x", "a login ann", "a login ann apple x", "a list x", "a select", "a select a b",
		"a create", "a delete", "a rename a", "a rename a b c", "a fetch", "a fetch 1 2", "a store 1", "a store 1 2 3", "a expunge 1", "a copy 1", "a copy 1 a b", "a search", "a search a b", "a\tnoop", "\x00", "a \x00", "a noop\n",
		"a search " + long(51), "a search " + long(52), long(60), long(61), long(65536), "a " + long(58), "a " + long(59)}
	if r.Intn(3) == 0 {
		return pick(r, "", "a ", "a fetch ", "a search ") + someText(r, 60)
	}
	return odd[r.Intn(len(odd))]
}
