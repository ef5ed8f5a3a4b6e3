package tests

import (
	"fmt"
	"math/rand"
	"slices"
	"strings"
	"testing"

	"loop.example/g00340/impl"
)

// An ordinary session, line by line, with what it is behind each.
func TestReadingSession(t *testing.T) {
	list, s := town(), impl.NewImap()
	for i, row := range []struct {
		line string
		next impl.Imap
		said []string
	}{
		{"a1 login ann apple", known("ann"), []string{"a1 OK"}},
		{"a2 list", known("ann"), []string{"* LIST in", "* LIST inbox", "* LIST work", "a2 OK"}},
		{"a3 select inbox", inside("ann", "inbox"), []string{"* 3 EXISTS", "* VALIDITY 1 NEXT 5", "a3 OK"}},
		{"a4 fetch 1", inside("ann", "inbox"), []string{"* FETCH 1 (seen) {3}\none", "a4 OK"}},
		{"a5 fetch 3", inside("ann", "inbox"), []string{"* FETCH 3 (deleted) {5}\nthree", "a5 OK"}},
		{"a6 fetch 4", inside("ann", "inbox"), []string{"* FETCH 4 () {0}\n", "a6 OK"}},
		{"a7 search E", inside("ann", "inbox"), []string{"* SEARCH 1 3", "a7 OK"}},
		{"a8 select in", inside("ann", "in"), []string{"* 1 EXISTS", "* VALIDITY 4 NEXT 7", "a8 OK"}},
		{"a9 fetch 6", inside("ann", "in"), []string{"* FETCH 6 (seen deleted) {2}\nin", "a9 OK"}},
		{"b0 noop", inside("ann", "in"), []string{"b0 OK"}},
		{"b1 logout", impl.Imap{}, []string{"* BYE", "b1 OK"}},
		{"b2 noop", impl.Imap{}, nil},
	} {
		mustHearAs(t, fmt.Sprint("line ", i), list, s, row.line, row.next, row.said...)
		s = row.next
	}
}

// A run that changes things: each change is seen by the lines behind it.
func TestRunOfAReadingSession(t *testing.T) {
	lines := []string{"a LOGIN ann apple", "b CREATE new", "c SELECT inbox", "d COPY 1 new", "e STORE 4 2", "f EXPUNGE", "g SELECT new", "h FETCH 1", "i RENAME new old", "j FETCH 1", "k SELECT old", "l STORE 1 0", "m FETCH 1", "n DELETE work", "o LIST", "p LOGOUT", "q NOOP"}
	said := []string{"a OK", "b OK", "* 3 EXISTS", "* VALIDITY 1 NEXT 5", "c OK", "d OK", "e OK", "* EXPUNGE 3", "* EXPUNGE 4", "f OK",
		"* 1 EXISTS", "* VALIDITY 7 NEXT 2", "g OK", "* FETCH 1 (seen) {3}\none", "h OK", "i OK", "j NO folder", "* 1 EXISTS", "* VALIDITY 8 NEXT 2", "k OK", "l OK", "* FETCH 1 () {3}\none", "m OK",
		"n OK", "* LIST in", "* LIST inbox", "* LIST old", "o OK", "* BYE", "p OK"}
	now := mailWith(mailLess(town(), "m/ann/inbox/003", "m/ann/inbox/004", "f/ann/work", "m/ann/work/001"), "f/ann/old", "8 2", "m/ann/old/001", "0one", "v", "9")
	mustReadRun(t, "a day", town(), lines, said, now, impl.OK)
	mustReadRun(t, "no lines", town(), nil, nil, town(), impl.OK)
	mustReadRun(t, "no lines at all", pairsOf("v", "1"), []string{}, nil, pairsOf("v", "1"), impl.OK)
	mustReadRun(t, "one line", town(), []string{"a noop"}, []string{"a OK"}, town(), impl.OK)
	mustReadRun(t, "nothing more is said", town(), []string{"a logout", "b noop", "", "c", long(61), "d login ann apple"}, []string{"* BYE", "a OK"}, town(), impl.OK)
	mustReadRun(t, "lines that are none", town(), []string{"", "a", "a ", "a what", long(61)}, []string{"* BAD", "* BAD", "a BAD", "a BAD", "* BAD"}, town(), impl.OK)
}

// A run is always of a new session: who was there in one is not in another.
func TestReadingRunsBeginNew(t *testing.T) {
	mustReadRun(t, "the first", town(), []string{"a login ann apple", "b select in"}, []string{"a OK", "* 1 EXISTS", "* VALIDITY 4 NEXT 7", "b OK"}, town(), impl.OK)
	mustReadRun(t, "the second", town(), []string{"a list", "b fetch 6", "c login bob berry"}, []string{"a NO state", "b NO state", "c OK"}, town(), impl.OK)
	mustReadRun(t, "the third, behind a logout", town(), []string{"a logout"}, []string{"* BYE", "a OK"}, town(), impl.OK)
	mustReadRun(t, "the fourth", town(), []string{"a noop"}, []string{"a OK"}, town(), impl.OK)
}

// readableStores are mail stores whose folders are read as a whole.
func readableStores() map[string][]impl.Pair {
	texts := town()
	for i, text := range []string{"", "\n", "Subject: x\n\nbody\n", "\x00\xff\r\n * FETCH 1 () {0}\n", long(85)} {
		texts = mailWith(texts, fmt.Sprintf("m/an/inbox/%03d", []int{1, 9, 10, 100, 998}[i]), fmt.Sprint(i%4)+text)
	}
	out := rightMail()
	out["texts of all sorts"] = mailWith(texts, "f/an/inbox", "5 999")
	out["full"] = fullTown(60)
	out["later"] = laterTown()
	out["six"] = sixMails("inbox", "work", "in", "work", "inbox", "in")
	return out
}

// What a user reads of a folder is what the folder has: how many mails, its
// validity, its next uid, and of each mail its flags, its bytes and its text.
func TestFoldersAreReadAsTheyAre(t *testing.T) {
	mails := 0
	for what, list := range readableStores() {
		b := boxOf(list)
		for _, key := range b.under("f/") {
			names := strings.Split(key, "/")
			f, code := impl.FolderAt(list, names[1], names[2])
			mustCode(t, what, code, impl.OK)
			lines := []string{"a login " + names[1] + " " + b["u/"+names[1]], "b select " + f.Name}
			said := []string{"a OK", fmt.Sprint("* ", len(f.Mails), " EXISTS"), fmt.Sprint("* VALIDITY ", f.Validity, " NEXT ", f.Next), "b OK"}
			for _, m := range f.Mails {
				lines = append(lines, fmt.Sprint("c fetch ", m.Uid), fmt.Sprint("d fetch ", m.Uid+1000))
				said = append(said, fetchedByHand(m), "c OK", "d NO none")
				mails++
			}
			mustReadRun(t, what+": "+key, list, lines, said, list, impl.OK)
		}
	}
	if mails < 30 {
		t.Errorf("%d mails: not enough", mails)
	}
}

// What a fetch says can be taken apart again: the bytes behind the first byte
// 10 are the text, as many as it tells.
func TestFetchesAreTakenApart(t *testing.T) {
	for flags, word := range []string{"()", "(seen)", "(deleted)", "(seen deleted)"} {
		for _, text := range []string{"", "x", "\n", "\n\n", "one\ntwo\n", "Subject: x\n\nbody", "{3}\nabc", "a OK", "\x00\xff\r", "\u00e4\u20ac", long(84), long(85), strings.Repeat("\n", 85)} {
			for _, uid := range []int{1, 9, 10, 99, 100, 998} {
				list := mailWith(town(), "f/an/inbox", "5 999", fmt.Sprintf("m/an/inbox/%03d", uid), fmt.Sprint(flags)+text)
				want := fmt.Sprintf("* FETCH %d %s {%d}", uid, word, len(text))
				told := mustHearDue(t, "a mail", list, inside("an", "inbox"), fmt.Sprint("a fetch ", uid))
				head, body, cut := strings.Cut(told.said[0], "\n")
				if !cut || head != want || body != text || len(told.said) != 2 || told.said[1] != "a OK" {
					t.Errorf("%q: %q", text, told.said)
				}
			}
		}
	}
}

func TestNoopAndLogout(t *testing.T) {
	for _, s := range []impl.Imap{newcomer(), known("ann"), known("none"), inside("ann", "inbox"), inside("ann", "none"), inside("none", "inbox")} {
		for _, list := range [][]impl.Pair{town(), pairsOf("v", "1"), fullTown(60)} {
			mustHearOnly(t, "noop", list, s, "a noop", "a OK")
			mustHearAs(t, "logout", list, s, "a logout", impl.Imap{}, "* BYE", "a OK")
		}
	}
}

func TestLogin(t *testing.T) {
	for line, user := range map[string]string{"a login ann apple": "ann", "a login an apple": "an", "a login bob berry": "bob", "a LOGIN bob berry": "bob", "a LogIn ann apple": "ann"} {
		mustHearAs(t, "login", town(), newcomer(), line, known(user), "a OK")
		for _, s := range []impl.Imap{known("ann"), known("bob"), known("none"), inside("ann", "inbox"), inside("ann", "none")} {
			mustHearOnly(t, "login twice", town(), s, line, "a NO state")
		}
	}
	for _, rest := range []string{"ann berry", "ann Apple", "ann APPLE", "ann appl", "ann apples", "ann ", "bob apple", "none apple", "none none", "Ann apple", "ANN apple", "a apple", "annn apple", "apple ann", " apple", " ",
		"9 apple", "nine_byte apple", "a/b apple", "ann/in apple", "\x00 apple", "ann apple\n", "ann \x00", "u/ann apple", "ann ann", "v 7", "inbox apple", long(40) + " apple"} {
		mustHearOnly(t, "login", town(), newcomer(), "a login "+rest, "a NO user")
		mustHearOnly(t, "login twice", town(), known("ann"), "a login "+rest, "a NO state")
	}
	list := mailWith(town(), "u/Ann", "Apple", "f/Ann/inbox", "1 1", "u/eight_08", "WORD_008", "f/eight_08/inbox", "1 1", "u/_", "_", "f/_/inbox", "1 1")
	for user, word := range map[string]string{"Ann": "Apple", "eight_08": "WORD_008", "_": "_", "ann": "apple"} {
		mustHearAs(t, "login", list, newcomer(), "a login "+user+" "+word, known(user), "a OK")
	}
	mustHearOnly(t, "nobody is there", pairsOf("v", "1"), newcomer(), "a login ann apple", "a NO user")
}

// listings are the line `list` in small letters, in great ones, and in both.
func listings() []string { return []string{"a list", "a LIST", "a List", "a lIsT"} }

// Each folder is told in its order, whatever the Folder of the session is.
func TestList(t *testing.T) {
	list, said := town(), []string{}
	for _, name := range []string{"A", "Z", "_", "_a", "a", "a0", "a1", "aa", "in", "inbox", "inboxx", "z"} {
		list = mailWith(list, "f/an/"+name, "1 1")
		said = append(said, "* LIST "+name)
	}
	for _, line := range listings() {
		for _, s := range []impl.Imap{known("ann"), inside("ann", "in"), inside("ann", "none")} {
			mustHearOnly(t, "several", town(), s, line, "* LIST in", "* LIST inbox", "* LIST work", "a OK")
		}
		mustHearOnly(t, "one", town(), known("an"), line, "* LIST inbox", "a OK")
		mustHearOnly(t, "one", town(), known("bob"), line, "* LIST inbox", "a OK")
		mustHearOnly(t, "by their names", list, known("an"), line, append(slices.Clone(said), "a OK")...)
		mustHearOnly(t, "without a User", town(), newcomer(), line, "a NO state")
		mustHearOnly(t, "nobody is there", pairsOf("v", "1"), newcomer(), line, "a NO state")
	}
}

// A User that is gone has no folder, so that nothing is told but the end. What
// others have is not told, of names that begin alike neither.
func TestListOfNobody(t *testing.T) {
	stores := map[string][]impl.Pair{
		"ann is gone":          goneUser(),
		"nobody is there":      pairsOf("v", "1"),
		"others with her name": mailWith(goneUser(), "u/ann_", "x", "f/ann_/inbox", "1 1", "f/ann_/work", "1 1", "u/Ann", "x", "f/Ann/inbox", "1 1"),
		"no room":              mailWith(goneUser(), "v", "10000"),
	}
	for what, list := range stores {
		for _, s := range []impl.Imap{known("ann"), inside("ann", "inbox"), inside("ann", "work"), inside("ann", "none"), known("a"), inside("a", "inbox"), known("eight_08")} {
			for _, line := range listings() {
				mustHearOnly(t, what, list, s, line, "a OK")
				mustHearOnly(t, what, list, s, line+" inbox", "a BAD")
				mustHearOnly(t, what, list, s, line+" ", "a BAD")
			}
			// The other commands that ask for a User miss her.
			mustHearOnly(t, what, list, s, "a create new", "a NO user")
			mustHearOnly(t, what, list, s, "a delete work", "a NO user")
			mustHearOnly(t, what, list, s, "a rename work new", "a NO user")
			mustHearAs(t, what, list, s, "a select inbox", known(s.User), "a NO user")
		}
	}
}

func TestSelect(t *testing.T) {
	for _, s := range []impl.Imap{known("ann"), inside("ann", "in"), inside("ann", "inbox"), inside("ann", "none")} {
		mustHearAs(t, "one mail", town(), s, "a select work", inside("ann", "work"), "* 1 EXISTS", "* VALIDITY 3 NEXT 2", "a OK")
		mustHearAs(t, "three mails", town(), s, "a select inbox", inside("ann", "inbox"), "* 3 EXISTS", "* VALIDITY 1 NEXT 5", "a OK")
		// Behind each code there is no Folder, whichever there was.
		for _, name := range []string{"none", "i", "inb", "inboxx", "Inbox", "INBOX", "wor", "bob", "ann", "v"} {
			mustHearAs(t, "not there", town(), s, "a select "+name, known("ann"), "a NO folder")
		}
		for _, name := range wordsThatAreNone() {
			mustHearAs(t, "no name", town(), s, "a select "+name, known("ann"), "a NO name")
			mustHearAs(t, "no name, nobody", goneUser(), s, "a select "+name, known("ann"), "a NO name")
		}
		mustHearAs(t, "nobody", goneUser(), s, "a select inbox", known("ann"), "a NO user")
		mustHearAs(t, "nobody", goneUser(), s, "a select none", known("ann"), "a NO user")
		// A line that is no command leaves it.
		for _, line := range []string{"a select", "a select work in", "a select work ", "a select  work"} {
			mustHearOnly(t, "no command", town(), s, line, "a BAD")
		}
	}
	mustHearAs(t, "no mails", town(), known("an"), "a select inbox", inside("an", "inbox"), "* 0 EXISTS", "* VALIDITY 5 NEXT 1", "a OK")
	list := mailWith(town(), "f/an/inbox", "9999 999", "m/an/inbox/998", "0", "v", "10000")
	mustHearAs(t, "the last numbers", list, known("an"), "a select inbox", inside("an", "inbox"), "* 1 EXISTS", "* VALIDITY 9999 NEXT 999", "a OK")
	mustHearAs(t, "six mails", sixMails("inbox", "inbox", "inbox", "inbox", "inbox", "inbox"), known("ann"), "a select inbox", inside("ann", "inbox"),
		append(selectedByHand(boxOf(sixMails("inbox", "inbox", "inbox", "inbox", "inbox", "inbox")).folder("ann", "inbox")), "a OK")...)
}

// Folders are made, dropped and renamed; the Folder of the session stays what
// it was, though it may be gone.
func TestCreateDeleteAndRename(t *testing.T) {
	for _, s := range []impl.Imap{known("ann"), inside("ann", "inbox"), inside("ann", "work"), inside("ann", "none")} {
		mustHearNow(t, "create", town(), s, "a create new", mailWith(town(), "f/ann/new", "7 1", "v", "8"), "a OK")
		mustHearNow(t, "create", town(), s, "a CREATE INBOX", mailWith(town(), "f/ann/INBOX", "7 1", "v", "8"), "a OK")
		mustHearNow(t, "delete", town(), s, "a delete work", mailLess(town(), "f/ann/work", "m/ann/work/001"), "a OK")
		mustHearNow(t, "rename", town(), s, "a rename work new", mailWith(mailLess(town(), "f/ann/work", "m/ann/work/001"), "f/ann/new", "7 2", "m/ann/new/001", "0work", "v", "8"), "a OK")
		for _, row := range []struct{ line, code string }{
			{"create in", "twice"}, {"create inbox", "twice"}, {"create work", "twice"},
			{"delete inbox", "state"}, {"delete none", "folder"}, {"delete Inbox", "folder"}, {"delete wor", "folder"},
			{"rename inbox new", "state"}, {"rename inbox inbox", "state"}, {"rename inbox work", "state"}, {"rename none new", "folder"}, {"rename none inbox", "folder"}, {"rename none none", "folder"},
			{"rename work in", "twice"}, {"rename work inbox", "twice"}, {"rename work work", "twice"},
		} {
			mustHearOnly(t, "a code", town(), s, "a "+row.line, "a NO "+row.code)
		}
		for _, line := range []string{"create new", "create inbox", "delete work", "delete inbox", "rename work new", "rename inbox new"} {
			mustHearOnly(t, "nobody", goneUser(), s, "a "+line, "a NO user")
		}
		many := mailWith(town(), "v", "10000")
		mustHearOnly(t, "no validity more", many, s, "a create new", "a NO many")
		mustHearOnly(t, "no validity more", many, s, "a rename work new", "a NO many")
		mustHearOnly(t, "no validity more, twice", many, s, "a create work", "a NO twice")
		mustHearOnly(t, "no validity more, twice", many, s, "a rename work in", "a NO twice")
		mustHearOnly(t, "no room", fullTown(60), s, "a create new", "a NO full")
		mustHearOnly(t, "no room, no validity", mailWith(fullTown(60), "v", "10000"), s, "a create new", "a NO many")
		mustHearNow(t, "the last room", fullTown(59), s, "a create new", mailWith(fullTown(59), "f/ann/new", "9000 1", "v", "9001"), "a OK")
		mustHearNow(t, "the last validity", mailWith(town(), "v", "9999"), s, "a create new", mailWith(town(), "f/ann/new", "9999 1", "v", "10000"), "a OK")
	}
}

// A folder that is selected, and then is gone or another one.
func TestTheFolderThatIsSelected(t *testing.T) {
	open := []string{"a login ann apple", "b select work"}
	begin := []string{"a OK", "* 1 EXISTS", "* VALIDITY 3 NEXT 2", "b OK"}
	gone := mailLess(town(), "f/ann/work", "m/ann/work/001")
	inFolder := []string{"f fetch 1", "g store 1 2", "h expunge", "i copy 1 inbox", "j search o", "k fetch 1"}
	none := []string{"f NO folder", "g NO folder", "h NO folder", "i NO folder", "j NO folder", "k NO folder"}
	mustReadRun(t, "deleted", town(), slices.Concat(open, []string{"c delete work"}, inFolder), slices.Concat(begin, []string{"c OK"}, none), gone, impl.OK)
	renamed := mailWith(gone, "f/ann/new", "7 2", "m/ann/new/001", "0work", "v", "8")
	mustReadRun(t, "renamed", town(), slices.Concat(open, []string{"c rename work new"}, inFolder), slices.Concat(begin, []string{"c OK"}, none), renamed, impl.OK)
	// A folder of its name that comes later is the Folder, too.
	again := mailWith(gone, "f/ann/work", "7 1", "v", "8")
	mustReadRun(t, "deleted and made", town(), slices.Concat(open, []string{"c delete work", "d create work", "e fetch 1", "f search o", "g expunge"}), slices.Concat(begin, []string{"c OK", "d OK", "e NO none", "* SEARCH", "f OK", "g OK"}), again, impl.OK)
	other := mailWith(mailLess(gone, "f/ann/in", "m/ann/in/006"), "f/ann/work", "7 7", "m/ann/work/006", "3in", "v", "8")
	mustReadRun(t, "another one renamed to it", town(), slices.Concat(open, []string{"c delete work", "d rename in work", "e fetch 6"}), slices.Concat(begin, []string{"c OK", "d OK", "* FETCH 6 (seen deleted) {2}\nin", "e OK"}), other, impl.OK)
	mustReadRun(t, "a code leaves it", town(), slices.Concat(open, []string{"c delete inbox", "d rename work in", "e create work", "f fetch 1"}), slices.Concat(begin, []string{"c NO state", "d NO twice", "e NO twice", "* FETCH 1 () {4}\nwork", "f OK"}), town(), impl.OK)
	mustReadRun(t, "not selected", town(), slices.Concat(open, []string{"c select none", "d fetch 1", "e expunge"}), slices.Concat(begin, []string{"c NO folder", "d NO state", "e NO state"}), town(), impl.OK)
}

func TestStore(t *testing.T) {
	s := inside("ann", "inbox")
	for uid, text := range map[int]string{1: "one", 3: "three", 4: ""} {
		for flags := range 4 {
			now := mailWith(town(), fmt.Sprintf("m/ann/inbox/%03d", uid), fmt.Sprint(flags)+text)
			mustHearNow(t, "store", town(), s, fmt.Sprintf("a store %d %d", uid, flags), now, "a OK")
			mustHearOnly(t, "fetch", now, s, fmt.Sprint("a fetch ", uid), fetchedByHand(impl.Mail{Uid: uid, Flags: flags, Text: text}), "a OK")
		}
	}
	mustHearOnly(t, "nothing in it", town(), inside("an", "inbox"), "a store 1 0", "a NO none")
	mustHearNow(t, "one mail in it", town(), inside("ann", "work"), "a store 1 3", mailWith(town(), "m/ann/work/001", "3work"), "a OK")
}

func TestExpunge(t *testing.T) {
	mustHearOnly(t, "nothing in it", town(), inside("an", "inbox"), "a expunge", "a OK")
	mustHearOnly(t, "one that is not marked", town(), inside("ann", "work"), "a expunge", "a OK")
	mustHearNow(t, "one that is marked", town(), inside("ann", "in"), "a expunge", mailLess(town(), "m/ann/in/006"), "* EXPUNGE 6", "a OK")
	mustHearNow(t, "one of three", town(), inside("ann", "inbox"), "a expunge", mailLess(town(), "m/ann/inbox/003"), "* EXPUNGE 3", "a OK")
	list := mailWith(town(), "f/an/inbox", "5 999", "m/an/inbox/002", "2", "m/an/inbox/009", "3x", "m/an/inbox/010", "1", "m/an/inbox/100", "2", "m/an/inbox/998", "3")
	now := mailLess(list, "m/an/inbox/002", "m/an/inbox/009", "m/an/inbox/100", "m/an/inbox/998")
	mustHearNow(t, "several", list, inside("an", "inbox"), "a expunge", now, "* EXPUNGE 2", "* EXPUNGE 9", "* EXPUNGE 100", "* EXPUNGE 998", "a OK")
	mustHearOnly(t, "none any more", now, inside("an", "inbox"), "a expunge", "a OK")
	seen := mailWith(town(), "m/ann/inbox/001", "1one", "m/ann/inbox/003", "0three", "m/ann/inbox/004", "1")
	mustHearOnly(t, "none of three", seen, inside("ann", "inbox"), "a expunge", "a OK")
	all := mailWith(town(), "m/ann/inbox/001", "2one", "m/ann/inbox/004", "3")
	mustHearNow(t, "all", all, inside("ann", "inbox"), "a expunge", mailLess(all, "m/ann/inbox/001", "m/ann/inbox/003", "m/ann/inbox/004"), "* EXPUNGE 1", "* EXPUNGE 3", "* EXPUNGE 4", "a OK")
}

func TestCopy(t *testing.T) {
	s := inside("ann", "inbox")
	mustHearNow(t, "into another", town(), s, "a copy 1 work", mailWith(town(), "f/ann/work", "3 3", "m/ann/work/002", "1one"), "a OK")
	mustHearNow(t, "into another", town(), s, "a copy 3 in", mailWith(town(), "f/ann/in", "4 8", "m/ann/in/007", "2three"), "a OK")
	mustHearNow(t, "into its own", town(), s, "a copy 4 inbox", mailWith(town(), "f/ann/inbox", "1 6", "m/ann/inbox/005", "0"), "a OK")
	mustHearOnly(t, "nothing in it", town(), inside("an", "inbox"), "a copy 1 inbox", "a NO none")
	six := sixMails("inbox", "work", "in", "work", "inbox", "in")
	at := whole(boxOf(six).under("m/ann/inbox/")[0][len("m/ann/inbox/"):])
	mustHearOnly(t, "a seventh mail", six, s, fmt.Sprint("a copy ", at, " work"), "a NO quota")
	mustHearOnly(t, "the last uid", mailWith(town(), "f/ann/work", "3 999"), s, "a copy 1 work", "a NO many")
	mustHearNow(t, "the last but one", mailWith(town(), "f/ann/work", "3 998"), s, "a copy 1 work", mailWith(town(), "f/ann/work", "3 999", "m/ann/work/998", "1one"), "a OK")
	mustHearOnly(t, "no room", fullTown(60), s, "a copy 1 work", "a NO full")
	mustHearNow(t, "the last room", fullTown(59), s, "a copy 1 work", mailWith(fullTown(59), "f/ann/work", "3 3", "m/ann/work/002", "1one"), "a OK")
}

func TestSearch(t *testing.T) {
	list := mailWith(town(), "f/an/inbox", "5 999", "m/an/inbox/002", "0Subject: One\n\nbody one", "m/an/inbox/010", "3Two of\nthese", "m/an/inbox/100", "1tWo", "m/an/inbox/998", "2\x00\xff\n")
	for word, found := range map[string]string{
		"one": " 2", "ONE": " 2", "oNe": " 2", "two": " 10 100", "TWO": " 10 100", "o": " 2 10 100", "O": " 2 10 100", "subject:": " 2", "bodY": " 2", "zz": "", "three": "", "twoo": "", "": " 2 10 100 998",
		"\n": " 2 10 998", "\n\nbody": " 2", "of\nthese": " 10", "\xff": " 998", "\xff\n": " 998", "\x00": " 998", "\x00\xff\n": " 998", "\xdf": "", "e\n\nB": " 2", "@": "", "[": "", "`": "", "{": "",
		"()": "", "0": "", "010": "", "*": "",
	} {
		mustHearOnly(t, "search", list, inside("an", "inbox"), "a search "+word, "* SEARCH"+found, "a OK")
	}
	mustHearOnly(t, "nothing in it", town(), inside("an", "inbox"), "a search x", "* SEARCH", "a OK")
	mustHearOnly(t, "nothing in it, any word", town(), inside("an", "inbox"), "a search ", "* SEARCH", "a OK")
	mustHearOnly(t, "one mail in it", town(), inside("ann", "work"), "a search OR", "* SEARCH 1", "a OK")
	mustHearOnly(t, "in this folder alone", town(), inside("ann", "in"), "a search one", "* SEARCH", "a OK")
	mustHearOnly(t, "not in flags and uids", town(), inside("bob", "inbox"), "a search 22", "* SEARCH", "a OK")
	mustHearOnly(t, "in the text", town(), inside("bob", "inbox"), "a search 2", "* SEARCH 2", "a OK")
	six := sixMails("inbox", "inbox", "inbox", "inbox", "inbox", "inbox")
	mustHearDue(t, "six mails", six, inside("ann", "inbox"), "a search ")
	// What the words of a text say is never taken for more than that.
	mustHearOnly(t, "a word like a line", list, inside("an", "inbox"), "a search a\tnoop", "* SEARCH", "a OK")
}

// Each user reads and changes what is the user's own.
func TestReadersKeepToTheirOwn(t *testing.T) {
	list := mailWith(town(), "f/bob/work", "6 2", "m/bob/work/001", "2bob at work", "f/an/work", "6 9", "m/an/work/008", "2an at work")
	mustHearOnly(t, "fetch", list, inside("ann", "work"), "a fetch 1", "* FETCH 1 () {4}\nwork", "a OK")
	mustHearOnly(t, "fetch", list, inside("bob", "work"), "a fetch 1", "* FETCH 1 (deleted) {11}\nbob at work", "a OK")
	mustHearOnly(t, "fetch", list, inside("an", "work"), "a fetch 1", "a NO none")
	mustHearNow(t, "delete", list, known("bob"), "a delete work", mailLess(list, "f/bob/work", "m/bob/work/001"), "a OK")
	mustHearNow(t, "delete", list, known("an"), "a delete work", mailLess(list, "f/an/work", "m/an/work/008"), "a OK")
	mustHearNow(t, "expunge", list, inside("bob", "work"), "a expunge", mailLess(list, "m/bob/work/001"), "* EXPUNGE 1", "a OK")
	mustHearOnly(t, "expunge", list, inside("ann", "work"), "a expunge", "a OK")
	mustHearNow(t, "store", list, inside("an", "work"), "a store 8 0", mailWith(list, "m/an/work/008", "0an at work"), "a OK")
	mustHearOnly(t, "select", list, known("bob"), "a select in", "a NO folder")
	mustHearNow(t, "copy", list, inside("an", "work"), "a copy 8 inbox", mailWith(list, "f/an/inbox", "5 2", "m/an/inbox/001", "2an at work"), "a OK")
}

// A mail that was taken by the one sort of sessions is read by the other.
func TestWhatIsTakenIsRead(t *testing.T) {
	_, list, code := impl.SmtpRun(town(), sent([]string{"ann", "bob"}, "Subject: hello", "", "..", "body"))
	mustCode(t, "SmtpRun", code, impl.OK)
	const text = "Subject: hello\n\n.\nbody\n"
	mustReadRun(t, "ann", list, []string{"a login ann apple", "b select inbox", "c fetch 5", "d search HELLO"}, []string{"a OK", "* 4 EXISTS", "* VALIDITY 1 NEXT 6", "b OK", "* FETCH 5 () {23}\n" + text, "c OK", "* SEARCH 5", "d OK"}, list, impl.OK)
	mustReadRun(t, "bob", list, []string{"a login bob berry", "b select inbox", "c fetch 3"}, []string{"a OK", "* 2 EXISTS", "* VALIDITY 2 NEXT 4", "b OK", "* FETCH 3 () {23}\n" + text, "c OK"}, list, impl.OK)
}

// Runs of any lines: behind each the session and the mail store are right, and
// the answers those that are due; the run as a whole answers as its steps, and
// validities rise from its beginning to its end.
func TestRunsOfCommands(t *testing.T) {
	t.Parallel()
	r := rand.New(rand.NewSource(101))
	ends := map[string]int{}
	for i := range 120 {
		list := [][]impl.Pair{town(), fullTown(57), fullTown(59), laterTown(), sixMails("inbox", "work", "in", "work", "inbox", "in"), mailWith(town(), "v", "9998"), mailWith(laterTown(), "v", "10000"),
			mailWith(town(), "f/ann/inbox", "1 997"), pairsOf("f/a/inbox", "1 1", "f/b/inbox", "1 996", "u/a", "x", "u/b", "y", "v", "2")}[r.Intn(9)]
		was, s := list, impl.NewImap()
		var lines, said []string
		for range 60 {
			line := someCommand(r, s)
			told := mustHearDue(t, fmt.Sprint("run ", i), list, s, line)
			lines, said = append(lines, line), append(said, told.said...)
			ends[endOf(told.said)]++
			list, s = told.pairs, told.session
		}
		mustReadRun(t, fmt.Sprint("run ", i), was, lines, said, list, impl.OK)
		if fault := validityFault(boxOf(was), boxOf(list)); fault != "" {
			t.Errorf("run %d: %s", i, fault)
		}
		if t.Failed() {
			return
		}
	}
	for _, end := range allEnds() {
		if ends[end] < 5 {
			t.Errorf("%q came %d times", end, ends[end])
		}
	}
	if len(ends) != len(allEnds()) {
		t.Errorf("other ends than there are: %v", ends)
	}
}

// endOf gives the last line of what is said, without its tag.
func endOf(said []string) string {
	if len(said) == 0 {
		return ""
	}
	last := said[len(said)-1]
	if last == "* BAD" {
		return last
	}
	_, end, _ := strings.Cut(last, " ")
	return end
}

func allEnds() []string {
	return []string{"", "* BAD", "BAD", "OK", "NO range", "NO none", "NO many", "NO full", "NO twice", "NO state", "NO quota", "NO user", "NO folder", "NO name"}
}

// Two sessions on one mail store, in turn: what the one does the other sees,
// and a folder that one of them takes away is gone for both.
func TestTwoReaders(t *testing.T) {
	r := rand.New(rand.NewSource(102))
	goneToo := 0
	for i := range 60 {
		list, sessions := town(), []impl.Imap{impl.NewImap(), impl.NewImap()}
		for range 60 {
			k := r.Intn(2)
			told := mustHearDue(t, fmt.Sprint("pair ", i), list, sessions[k], someCommand(r, sessions[k]))
			if s := told.session; s.Folder != "" && endOf(told.said) == "NO folder" {
				goneToo++
			}
			list, sessions[k] = told.pairs, told.session
		}
	}
	if goneToo < 20 {
		t.Errorf("a Folder was gone %d times: not enough", goneToo)
	}
}

// Sessions of any sort, on any mail store, with any line.
func TestAnyReading(t *testing.T) {
	r := rand.New(rand.NewSource(103))
	var sessions []impl.Imap
	for _, s := range rightImaps() {
		sessions = append(sessions, s)
	}
	slices.SortFunc(sessions, func(a, b impl.Imap) int { return strings.Compare(fmt.Sprint(a), fmt.Sprint(b)) })
	stores := append(someStores(), laterTown(), goneUser(), goneFolder())
	for range 6000 {
		s, list := sessions[r.Intn(len(sessions))], stores[r.Intn(len(stores))]
		line := someCommand(r, s)
		if r.Intn(4) == 0 {
			line = oddCommand(r)
		}
		mustHearDue(t, fmt.Sprintf("%.200q", fmt.Sprintf("%+v", s)), list, s, line)
	}
}
