package tests

import (
	"fmt"
	"slices"
	"strings"
	"testing"

	"loop.example/g00340/impl"
)

// openImaps are right sessions that are Open, on the ordinary mail store: a new
// one, one with a User, with a Folder of several mails, of one, of none, with a
// Folder that is gone, and with a User that is gone.
func openImaps() []impl.Imap {
	return []impl.Imap{newcomer(), known("ann"), inside("ann", "inbox"), inside("ann", "work"), inside("an", "inbox"), inside("ann", "none"), known("none"), inside("none", "inbox")}
}

// wordsThatAreNone are words without a blank that are no short names, and fit
// into a line.
func wordsThatAreNone() []string {
	return append(slices.DeleteFunc(wrongNames(), func(name string) bool { return len(name) > 40 || strings.Contains(name, " ") }),
		"9", "0", "-1", "inbox/", "/inbox", "in.box", "inbox\n", "inbox\x00", "*", "(seen)", "\xe4", "a\tb", "12345678", "inbox_123")
}

// commandLines are right command lines, one of each verb.
func commandLines() []string {
	return []string{"noop", "logout", "login ann apple", "list", "select inbox", "create new", "delete work", "rename work new", "fetch 1", "store 1 0", "expunge", "copy 1 work", "search o"}
}

// Nothing is said by a session that is not Open, and nothing is done.
func TestShutReadersSayNothing(t *testing.T) {
	lines := []string{"", " ", "a", "a ", "a  ", " noop", "abcde noop", "a what", "a fetch x", "a noop x", long(60), long(61), long(65536), "\x00", "* BAD"}
	for _, line := range commandLines() {
		lines = append(lines, "a "+line, strings.ToUpper("a "+line), line)
	}
	for _, list := range [][]impl.Pair{town(), pairsOf("v", "1"), fullTown(60)} {
		for _, line := range lines {
			mustHearOnly(t, "not Open", list, impl.Imap{}, line)
		}
		mustNotHear(t, "not Open", list, impl.Imap{}, long(65537), impl.ErrLong)
	}
}

// What is `* BAD`: too long, no blank, no right tag ahead of the first one; and
// nothing is done.
func TestLinesWithoutATag(t *testing.T) {
	lines := []string{"", "a", "noop", "abcd", "abcde", "a\tnoop", "a\nnoop", "a_noop", "a:noop", "a\u00a0noop", "\x00", "\xff", "\n", long(60), "*",
		" ", "  ", "   ", " noop", "  noop", " a noop", " a", "\tnoop x", "\n noop",
		"abcde noop", "12345 noop", "abcdef noop", "_____ noop", "longtag NOOP", "login ann apple", "select inbox", "logout x", "abcde ",
		"* noop", "+ noop", "- noop", ". noop", "a. noop", ".a noop", "a-b noop", "a* noop", "*a noop", "a\x00 noop", "\x00 noop", "a\n noop", "\na noop", "a\t noop", "ä noop", "aä noop", "１ noop", "\xff noop", "{a} noop", "(a) noop", "a/b noop", "a@b noop", "a[ noop", "` noop",
		long(61), "a " + long(59), "a  " + long(58), "a noop" + strings.Repeat(" ", 55), "a search " + long(52), "a fetch " + strings.Repeat("1", 53), "a what " + long(54), strings.Repeat(" ", 61), long(62), "a search " + long(53), long(65536), "a search " + long(65527)}
	for _, s := range openImaps() {
		for _, line := range lines {
			mustHearOnly(t, fmt.Sprint(s), town(), s, line, "* BAD")
		}
		mustNotHear(t, fmt.Sprint(s), town(), s, long(65537), impl.ErrLong)
		mustNotHear(t, fmt.Sprint(s), town(), s, "a search "+long(65528), impl.ErrLong)
	}
}

// A line of 60 bytes is one, of 61 it is too long, whatever it is.
func TestHowLongLinesAre(t *testing.T) {
	s := inside("ann", "inbox")
	for n, said := range map[int][]string{49: {"* SEARCH", "a OK"}, 50: {"* SEARCH", "a OK"}, 51: {"* SEARCH", "a OK"}, 52: {"* BAD"}, 53: {"* BAD"}} {
		mustHearOnly(t, "search", town(), s, "a search "+long(n), said...)
		mustHearOnly(t, "without a User", town(), newcomer(), "a search "+long(n), map[bool]string{true: "a NO state", false: "* BAD"}[n <= 51])
		mustHearOnly(t, "no command", town(), s, "a "+long(n+7), map[bool]string{true: "a BAD", false: "* BAD"}[n <= 51])
	}
	mustHearOnly(t, "a tag of four", town(), s, "abcd search "+long(48), "* SEARCH", "abcd OK")
	mustHearOnly(t, "a tag of four", town(), s, "abcd search "+long(49), "* BAD")
	mustHearOnly(t, "blanks", town(), s, "a noop"+strings.Repeat(" ", 54), "a BAD")
	mustHearOnly(t, "blanks", town(), s, "a noop"+strings.Repeat(" ", 55), "* BAD")
	mustHearAs(t, "a name", town(), s, "a select "+long(51), known("ann"), "a NO name")
	mustHearOnly(t, "a name that is not read", town(), s, "a select "+long(52), "* BAD")
	mustHearOnly(t, "a uid", town(), s, "a fetch "+strings.Repeat("1", 52), "a BAD")
	mustHearOnly(t, "a uid", town(), s, "a fetch "+strings.Repeat("1", 53), "* BAD")
}

// Tags of 1 to 4 letters and digits are told as they are, in their letters.
func TestTags(t *testing.T) {
	for _, tag := range []string{"a", "z", "A", "Z", "0", "9", "_", "ab", "a1", "1a", "12", "__", "abc", "ABC", "aBc", "000", "abcd", "ABCD", "1234", "0000", "____", "a_1Z", "OK", "NO", "BAD", "noop", "list"} {
		for _, s := range openImaps() {
			mustHearOnly(t, "tag", town(), s, tag+" noop", tag+" OK")
			mustHearOnly(t, "tag", town(), s, tag+" what", tag+" BAD")
			mustHearOnly(t, "tag", town(), s, tag+" ", tag+" BAD")
			mustHearAs(t, "tag", town(), s, tag+" logout", impl.Imap{}, "* BYE", tag+" OK")
		}
		mustHearOnly(t, "tag", town(), newcomer(), tag+" list", tag+" NO state")
		mustHearOnly(t, "tag", town(), known("bob"), tag+" list", "* LIST inbox", tag+" OK")
	}
	// Each byte, at each place of a tag.
	for c := range 256 {
		for _, tag := range []string{"?", "?bcd", "a?", "a?cd", "abc?"} {
			tag = strings.ReplaceAll(tag, "?", string([]byte{byte(c)}))
			want := "* BAD"
			if shortWord.MatchString("a" + string([]byte{byte(c)})) {
				want = tag + " OK"
			} else if c == ' ' && tag[0] != ' ' {
				want = strings.Split(tag, " ")[0] + " BAD"
			}
			mustHearOnly(t, "a byte of a tag", town(), newcomer(), tag+" noop", want)
		}
	}
}

// What is `TAG BAD`: nothing behind the first blank, two blanks in a row, a
// verb that is none, a verb with more or less arguments than it has, whatever
// the session is; and nothing is done.
func TestLinesThatAreNoCommands(t *testing.T) {
	lines := []string{"", " ", "  ", " noop", "  noop", "noop ", "noop  ", "noop x", "noop 1", "noop noop", " list", "list ", "list x", "list inbox", "logout ", "logout x", " logout", "logout now",
		"login", "login ", "login ann", "login ann apple ", "login  ann apple", "login ann  apple", "login ann apple x", " login ann apple",
		"select", "select  inbox", "select inbox ", "select in box", "select inbox work", "create", "create new ", "create  new", "create a b", "delete", "delete  work", "delete work ", "delete work in", "rename", "rename work", "rename ", "rename work new x", "rename  work new", "rename work  new", "rename work new ",
		"fetch", "fetch 1 ", "fetch  1", "fetch 1 2", "fetch 1 1 1", "store", "store 1", "store ", "store 1 0 ", "store  1 0", "store 1  0", "store 1 0 0", "expunge ", "expunge 1", "expunge x", "copy", "copy 1", "copy ", "copy 1 work ", "copy  1 work", "copy 1  work", "copy 1 work in", "search", "search a b", "search  a", "search a ",
		"what", "what ", "what x", "what x y", "a", "x noop", "uid fetch 1", "append inbox x", "status inbox", "noopx", "noo", "nooop", "fetc 1", "fetch1", "fetch:1", "selects inbox", "exists", "bye", "bad", "ok", "no", "*", "NOOP\n", "noop\r", "noop\x00", "\x00noop", "noop\t", "\tnoop", "noop\tx",
		"ｎｏｏｐ", "li\u017ft", "\u212aoop", "L\u0130ST", "l\u0131st", "n\u00f6op", "\xff", "\x00", "\n", "fetch\n1", "store\t1 0", "noop;noop", "[oop", "{oop", "noo\x10", "noo\x30"}
	for _, s := range openImaps() {
		for _, line := range lines {
			mustHearOnly(t, fmt.Sprint(s), town(), s, "tag "+line, "tag BAD")
		}
	}
	// Each verb with each number of arguments that is not its own.
	for _, line := range commandLines() {
		words := strings.Split(line, " ")
		for n := range 6 {
			if n == len(words)-1 {
				continue
			}
			for _, word := range []string{"", "1", "inbox", "9"} {
				other := strings.Join(append([]string{words[0]}, slices.Repeat([]string{word}, n)...), " ")
				for _, s := range openImaps() {
					mustHearOnly(t, fmt.Sprint(s), town(), s, "a "+other, "a BAD")
				}
			}
		}
	}
}

// Great and small letters of verbs are alike, of nothing else.
func TestLettersOfCommands(t *testing.T) {
	for _, line := range commandLines() {
		verb, _, _ := strings.Cut(line, " ")
		tail := strings.TrimPrefix(line, verb)
		for mask := range 1 << len(verb) {
			other := []byte(verb)
			for i := range other {
				if mask>>i&1 == 1 {
					other[i] -= 'a' - 'A'
				}
			}
			for _, s := range openImaps()[:3] {
				want := imapDue(town(), s, "a "+line)
				mustHear(t, "letters", town(), s, "a "+string(other)+tail, want)
			}
		}
		// Each bit of a verb counts but for the one that tells great from small.
		for i := range verb {
			for bit := range 8 {
				other := []byte(verb)
				other[i] ^= 1 << bit
				if !strings.EqualFold(string(other), verb) && !strings.Contains(string(other), " ") {
					mustHearOnly(t, "a bit of a verb", town(), inside("ann", "inbox"), "a "+string(other)+tail, "a BAD")
				}
			}
		}
	}
	mustHearOnly(t, "a user in great letters", town(), newcomer(), "a login ANN apple", "a NO user")
	mustHearOnly(t, "a word in great letters", town(), newcomer(), "a login ann APPLE", "a NO user")
	mustHearAs(t, "a folder in great letters", town(), inside("ann", "in"), "a select INBOX", known("ann"), "a NO folder")
	mustHearOnly(t, "a folder in great letters", town(), known("ann"), "a delete WORK", "a NO folder")
	mustHearOnly(t, "a folder in great letters", town(), inside("ann", "inbox"), "a copy 1 WORK", "a NO folder")
	mustHearNow(t, "a folder in great letters", town(), known("ann"), "a create WORK", mailWith(town(), "f/ann/WORK", "7 1", "v", "8"), "a OK")
}

// uidsThatAreNone are words without a blank that are no numbers' texts.
func uidsThatAreNone() []string {
	return []string{"", "x", "a1", "1a", "1x", "+1", "+0", "-", "--1", "-0", "-01", "-x", "01", "001", "00", "0x1", "1.0", "1e0", "1_0", "1,2", "1:2", "*", "１", "\x01", "1\n", "\n1", "1\x00", "\t1", "1\r", "\xff", "²",
		strings.Repeat("1", 19), "9223372036854775807", "9223372036854775808", "-9223372036854775808", "18446744073709551617", "-" + strings.Repeat("9", 19), strings.Repeat("1", 40), "0" + strings.Repeat("1", 18), "1-", "1-1"}
}

// A uid that is no number's text is `TAG BAD`, behind the codes of the User and
// of the Folder, and ahead of all others.
func TestUidsThatAreNone(t *testing.T) {
	for _, uid := range uidsThatAreNone() {
		for _, tail := range []string{"fetch " + uid, "store " + uid + " 0", "store " + uid + " 3", "store " + uid + " 4", "store " + uid + " x", "store " + uid + " ", "copy " + uid + " work", "copy " + uid + " none", "copy " + uid + " 9", "copy " + uid + " ", "copy " + uid + " inbox"} {
			if len(tail) > 58 {
				t.Fatalf("%q is too long", tail)
			}
			for _, s := range []impl.Imap{inside("ann", "inbox"), inside("ann", "work"), inside("an", "inbox")} {
				mustHearOnly(t, "in a Folder", town(), s, "a "+tail, "a BAD")
			}
			mustHearOnly(t, "without a User", town(), newcomer(), "a "+tail, "a NO state")
			mustHearOnly(t, "without a Folder", town(), known("ann"), "a "+tail, "a NO state")
			mustHearOnly(t, "without a Folder, nobody", town(), known("none"), "a "+tail, "a NO state")
			mustHearOnly(t, "the Folder is gone", town(), inside("ann", "none"), "a "+tail, "a NO folder")
			mustHearOnly(t, "the User is gone", town(), inside("none", "inbox"), "a "+tail, "a NO user")
		}
	}
}

// A uid that is a number's text, but of no mail, is none.
func TestUidsThatAreGone(t *testing.T) {
	for _, uid := range []string{"0", "-1", "-3", "2", "5", "6", "998", "999", "1000", "1001", "1003", "-1000", "4294967297", "4294967299", "123456789012345678", strings.Repeat("9", 18), "-" + strings.Repeat("9", 18)} {
		s := inside("ann", "inbox")
		mustHearOnly(t, "fetch", town(), s, "a fetch "+uid, "a NO none")
		for _, flags := range []string{"0", "3"} {
			mustHearOnly(t, "store", town(), s, "a store "+uid+" "+flags, "a NO none")
		}
		for _, flags := range flagsThatAreNone() {
			mustHearOnly(t, "store", town(), s, "a store "+uid+" "+flags, "a NO range")
		}
		for _, name := range []string{"inbox", "work", "in"} {
			mustHearOnly(t, "copy", town(), s, "a copy "+uid+" "+name, "a NO none")
		}
		mustHearOnly(t, "copy into none", town(), s, "a copy "+uid+" none", "a NO folder")
		mustHearOnly(t, "copy into no name", town(), s, "a copy "+uid+" 9", "a NO name")
		for _, other := range []impl.Imap{newcomer(), known("ann")} {
			mustHearOnly(t, "without a Folder", town(), other, "a fetch "+uid, "a NO state")
		}
	}
	// A mail that is gone stays so: its uid is not used again.
	lines := []string{"a login bob berry", "b select inbox", "c fetch 2", "d expunge", "e fetch 2", "f store 2 0", "g copy 2 inbox", "h search ", "i select inbox"}
	said := []string{"a OK", "* 1 EXISTS", "* VALIDITY 2 NEXT 3", "b OK", "* FETCH 2 (deleted) {8}\n2 of bob", "c OK", "* EXPUNGE 2", "d OK", "e NO none", "f NO none", "g NO none", "* SEARCH", "h OK", "* 0 EXISTS", "* VALIDITY 2 NEXT 3", "i OK"}
	mustReadRun(t, "gone", town(), lines, said, mailLess(town(), "m/bob/inbox/002"), impl.OK)
}

// flagsThatAreNone are words without a blank that are not the texts of 0 to 3.
func flagsThatAreNone() []string {
	return []string{"", "4", "5", "9", "10", "-1", "-0", "+1", "00", "01", "03", "x", "seen", "(seen)", "()", "1x", "0x1", "1.", "１", "\x01", "\x03", "1\n", "256", "257", "4294967296", "4294967297", "18446744073709551617", strings.Repeat("1", 18), strings.Repeat("0", 18)}
}

func TestFlagsThatAreNone(t *testing.T) {
	for _, flags := range flagsThatAreNone() {
		mustHearOnly(t, "of a mail", town(), inside("ann", "inbox"), "a store 1 "+flags, "a NO range")
		mustHearOnly(t, "of a mail that is gone", town(), inside("ann", "inbox"), "a store 2 "+flags, "a NO range")
		mustHearOnly(t, "of no uid", town(), inside("ann", "inbox"), "a store x "+flags, "a BAD")
		mustHearOnly(t, "nothing in it", town(), inside("an", "inbox"), "a store 1 "+flags, "a NO range")
		mustHearOnly(t, "without a User", town(), newcomer(), "a store 1 "+flags, "a NO state")
		mustHearOnly(t, "without a Folder", town(), known("ann"), "a store 1 "+flags, "a NO state")
		mustHearOnly(t, "the Folder is gone", town(), inside("ann", "none"), "a store 1 "+flags, "a NO folder")
		mustHearOnly(t, "the User is gone", town(), inside("none", "inbox"), "a store 1 "+flags, "a NO user")
	}
}

// Names that are none are ErrName, ahead of what is not there.
func TestNamesOfFoldersThatAreNone(t *testing.T) {
	s := inside("ann", "inbox")
	for _, name := range wordsThatAreNone() {
		for _, line := range []string{"create " + name, "delete " + name, "rename " + name + " new", "rename work " + name, "rename none " + name, "rename inbox " + name, "rename " + name + " " + name} {
			if len(line) > 58 {
				continue
			}
			for _, list := range [][]impl.Pair{town(), goneUser(), fullTown(60), mailWith(town(), "v", "10000")} {
				mustHearOnly(t, "no name", list, known("ann"), "a "+line, "a NO name")
				mustHearOnly(t, "no name", list, inside("ann", "none"), "a "+line, "a NO name")
			}
			mustHearOnly(t, "without a User", town(), newcomer(), "a "+line, "a NO state")
		}
		for _, uid := range []string{"1", "2", "-1"} {
			for _, list := range [][]impl.Pair{town(), fullTown(60), sixMails("inbox", "work", "in", "work", "inbox", "in")} {
				mustHearOnly(t, "copy", list, s, "a copy "+uid+" "+name, "a NO name")
			}
			mustHearOnly(t, "copy, the Folder is gone", town(), inside("ann", "none"), "a copy "+uid+" "+name, "a NO folder")
			mustHearOnly(t, "copy, the User is gone", goneUser(), s, "a copy "+uid+" "+name, "a NO user")
			mustHearOnly(t, "copy, without a Folder", town(), known("ann"), "a copy "+uid+" "+name, "a NO state")
		}
	}
	for _, name := range []string{"a", "eight_08", "_", "A2345678"} {
		mustHearNow(t, "a short name", town(), known("ann"), "a create "+name, mailWith(town(), "f/ann/"+name, "7 1", "v", "8"), "a OK")
		mustHearNow(t, "a short name", town(), known("ann"), "a rename work "+name, mailWith(mailLess(town(), "f/ann/work", "m/ann/work/001"), "f/ann/"+name, "7 2", "m/ann/"+name+"/001", "0work", "v", "8"), "a OK")
	}
}

// Where several codes hold at once, the first one that is named is said.
func TestOrderOfCodesOfCommands(t *testing.T) {
	gone, noRoom := goneUser(), fullTown(60)
	many := mailWith(noRoom, "v", "10000")
	quota := sixMails("inbox", "work", "in", "work", "inbox", "in")
	at := boxOf(quota).folder("ann", "inbox").Mails[0].Uid
	for _, row := range []struct {
		what string
		list []impl.Pair
		s    impl.Imap
		line string
		end  string
	}{
		{"login twice, as nobody", town(), known("ann"), "login none x", "NO state"},
		{"login twice, the User is gone", gone, known("ann"), "login bob berry", "NO state"},
		{"list, without a User, with more", town(), newcomer(), "list x", "BAD"},
		{"list, nobody, with more", gone, known("ann"), "list x", "BAD"},
		{"list, nobody", gone, known("ann"), "list", "OK"},
		{"select, without a User, no name", town(), newcomer(), "select 9", "NO state"},
		{"select, without a User, with more", town(), newcomer(), "select 9 9", "BAD"},
		{"select, no name, nobody", gone, known("ann"), "select 9", "NO name"},
		{"select, nobody, no folder", gone, known("ann"), "select none", "NO user"},
		{"create, without a User, no name", town(), newcomer(), "create 9", "NO state"},
		{"create, no name, nobody", gone, known("ann"), "create 9", "NO name"},
		{"create, nobody, no validity", mailWith(gone, "v", "10000"), known("ann"), "create new", "NO user"},
		{"create, twice, no validity, no room", many, known("ann"), "create work", "NO twice"},
		{"create, no validity, no room", many, known("ann"), "create new", "NO many"},
		{"create, no room", noRoom, known("ann"), "create new", "NO full"},
		{"delete, without a User, no name", town(), newcomer(), "delete 9", "NO state"},
		{"delete, no name, nobody", gone, known("ann"), "delete 9", "NO name"},
		{"delete, nobody, the inbox", gone, known("ann"), "delete inbox", "NO user"},
		{"delete, no folder", town(), known("ann"), "delete none", "NO folder"},
		{"delete, the inbox", town(), known("ann"), "delete inbox", "NO state"},
		{"rename, without a User, no name", town(), newcomer(), "rename 9 9", "NO state"},
		{"rename, the second is no name, nobody", gone, known("ann"), "rename work 9", "NO name"},
		{"rename, the second is no name, the first is not there", town(), known("ann"), "rename none 9", "NO name"},
		{"rename, the second is no name, the inbox", town(), known("ann"), "rename inbox 9", "NO name"},
		{"rename, nobody, the inbox", gone, known("ann"), "rename inbox work", "NO user"},
		{"rename, no folder, twice", town(), known("ann"), "rename none work", "NO folder"},
		{"rename, the inbox, twice", town(), known("ann"), "rename inbox work", "NO state"},
		{"rename, the inbox, no validity", many, known("ann"), "rename inbox new", "NO state"},
		{"rename, twice, no validity", many, known("ann"), "rename work in", "NO twice"},
		{"rename, no validity", many, known("ann"), "rename work new", "NO many"},
		{"fetch, without a User, with more", town(), newcomer(), "fetch 1 1", "BAD"},
		{"fetch, without a Folder, no uid", town(), known("ann"), "fetch x", "NO state"},
		{"fetch, without a Folder, the User is gone", gone, known("ann"), "fetch 1", "NO state"},
		{"fetch, nobody, no uid", gone, inside("ann", "inbox"), "fetch x", "NO user"},
		{"fetch, the Folder is gone, no uid", town(), inside("ann", "none"), "fetch x", "NO folder"},
		{"fetch, the Folder is gone, no mail", town(), inside("ann", "none"), "fetch 9", "NO folder"},
		{"fetch, no uid", town(), inside("ann", "inbox"), "fetch x", "BAD"},
		{"store, the Folder is gone, no flags", town(), inside("ann", "none"), "store 1 4", "NO folder"},
		{"store, no uid, no flags", town(), inside("ann", "inbox"), "store x 4", "BAD"},
		{"store, no flags, no mail", town(), inside("ann", "inbox"), "store 9 4", "NO range"},
		{"store, no mail", town(), inside("ann", "inbox"), "store 9 3", "NO none"},
		{"expunge, without a User, with more", town(), newcomer(), "expunge 1", "BAD"},
		{"expunge, without a User", town(), newcomer(), "expunge", "NO state"},
		{"expunge, without a Folder", town(), known("ann"), "expunge", "NO state"},
		{"expunge, without a Folder, nobody", gone, known("ann"), "expunge", "NO state"},
		{"expunge, nobody", gone, inside("ann", "inbox"), "expunge", "NO user"},
		{"expunge, the Folder is gone", town(), inside("ann", "none"), "expunge", "NO folder"},
		{"copy, without a Folder, no uid, no name", town(), known("ann"), "copy x 9", "NO state"},
		{"copy, nobody, no uid, no name", gone, inside("ann", "inbox"), "copy x 9", "NO user"},
		{"copy, the Folder is gone, no uid, no name", town(), inside("ann", "none"), "copy x 9", "NO folder"},
		{"copy, the Folder is gone, into one that is there", town(), inside("ann", "none"), "copy 1 inbox", "NO folder"},
		{"copy, no uid, no name", town(), inside("ann", "inbox"), "copy x 9", "BAD"},
		{"copy, no uid, no folder", town(), inside("ann", "inbox"), "copy x none", "BAD"},
		{"copy, no name, no mail", town(), inside("ann", "inbox"), "copy 9 9", "NO name"},
		{"copy, no folder, no mail", town(), inside("ann", "inbox"), "copy 9 none", "NO folder"},
		{"copy, no mail, a seventh", quota, inside("ann", "inbox"), "copy 997 work", "NO none"},
		{"copy, no folder, a seventh", quota, inside("ann", "inbox"), fmt.Sprint("copy ", at, " none"), "NO folder"},
		{"copy, a seventh, the last uid", mailWith(quota, "f/ann/work", "1 999"), inside("ann", "inbox"), fmt.Sprint("copy ", at, " work"), "NO quota"},
		{"copy, the last uid, no room", mailWith(noRoom, "f/ann/work", "3 999"), inside("ann", "inbox"), "copy 1 work", "NO many"},
		{"copy, no room", noRoom, inside("ann", "inbox"), "copy 1 work", "NO full"},
		{"search, without a User, with more", town(), newcomer(), "search x y", "BAD"},
		{"search, without a Folder", town(), known("ann"), "search x", "NO state"},
		{"search, without a Folder, nobody", gone, known("ann"), "search x", "NO state"},
		{"search, nobody", gone, inside("ann", "inbox"), "search x", "NO user"},
		{"search, the Folder is gone", town(), inside("ann", "none"), "search x", "NO folder"},
	} {
		next := row.s
		if strings.HasPrefix(row.line, "select ") && row.end != "BAD" {
			next.Folder = ""
		}
		mustHearAs(t, row.what, row.list, row.s, "a "+row.line, next, "a "+row.end)
	}
}

// Each right command in each session, in its place behind the one it asks for.
func TestCommandsAskForTheirs(t *testing.T) {
	for _, line := range commandLines() {
		verb, _, _ := strings.Cut(line, " ")
		for _, s := range openImaps() {
			told := mustHearDue(t, fmt.Sprint(s), town(), s, "a "+line)
			end, asks := endOf(told.said), commandsByHand[verb].asks
			if lacks := asks >= 1 && s.User == "" || asks >= 2 && s.Folder == ""; lacks && end != "NO state" {
				t.Errorf("%+v: %q: %q", s, line, told.said)
			}
			if asks >= 1 && s.User == "none" && s.Folder != "" && end != "NO user" && verb != "list" || asks >= 2 && s.User == "ann" && s.Folder == "none" && end != "NO folder" {
				t.Errorf("%+v: %q: %q", s, line, told.said)
			}
		}
	}
}

// The bounds of chapter 1, and the codes in their order; nothing is answered
// with a code.
func TestImapCodes(t *testing.T) {
	bad, tooMany := mailLess(town(), "v"), manyPairs(4097)
	wrong := impl.Imap{User: "ann"}
	for _, row := range []struct {
		what string
		list []impl.Pair
		s    impl.Imap
		line string
		want int
	}{
		{"too many pairs", tooMany, newcomer(), "a noop", impl.ErrLong},
		{"too many pairs, all else wrong", tooMany, wrong, "", impl.ErrLong},
		{"a mail store and too many pairs", append(town(), make([]impl.Pair, 4082)...), newcomer(), "a noop", impl.ErrLong},
		{"a long line", town(), newcomer(), long(65537), impl.ErrLong},
		{"a long line, all else wrong", bad, wrong, long(65537), impl.ErrLong},
		{"a long line, not Open", town(), impl.Imap{}, long(65537), impl.ErrLong},
		{"a long line in a Folder", town(), inside("ann", "inbox"), "a search " + long(65528), impl.ErrLong},
		{"no mail store", bad, newcomer(), "a noop", impl.ErrBad},
		{"no mail store, a line of MaxText", bad, newcomer(), long(65536), impl.ErrBad},
		{"no mail store, not Open", bad, impl.Imap{}, "a noop", impl.ErrBad},
		{"no mail store, in a Folder", bad, inside("ann", "inbox"), "a fetch 1", impl.ErrBad},
		{"nothing", nil, newcomer(), "a noop", impl.ErrBad},
		{"an empty list", []impl.Pair{}, impl.Imap{}, "", impl.ErrBad},
		{"MaxList pairs", manyPairs(4096), newcomer(), "a noop", impl.ErrBad},
		{"61 pairs", manyPairs(61), newcomer(), "a noop", impl.ErrBad},
		{"a wrong session", town(), wrong, "a noop", impl.ErrBad},
		{"a wrong session, a line of MaxText", town(), wrong, long(65536), impl.ErrBad},
		{"both wrong", bad, wrong, "what", impl.ErrBad},
	} {
		mustNotHear(t, row.what, row.list, row.s, row.line, row.want)
	}
	mustHearOnly(t, "a line of MaxText", town(), newcomer(), long(65536), "* BAD")
	for _, lists := range []map[string][]impl.Pair{wrongMail(), noPairs()} {
		for what, list := range lists {
			mustNotHear(t, what, list, newcomer(), "a noop", impl.ErrBad)
			mustReadRun(t, what, list, []string{"a noop"}, nil, nil, impl.ErrBad)
		}
	}
	for what, list := range rightMail() {
		mustHearOnly(t, what, list, newcomer(), "a noop", "a OK")
		mustReadRun(t, what, list, []string{"a noop"}, []string{"a OK"}, list, impl.OK)
	}
}

func TestImapRunCodes(t *testing.T) {
	bad, tooMany := mailLess(town(), "v"), manyPairs(4097)
	noops := func(n int) []string { return slices.Repeat([]string{"a noop"}, n) }
	for _, row := range []struct {
		what  string
		list  []impl.Pair
		lines []string
		want  int
	}{
		{"61 lines", town(), noops(61), impl.ErrMany},
		{"61 lines that say nothing", town(), append([]string{"a logout"}, noops(60)...), impl.ErrMany},
		{"61 lines without bytes", town(), make([]string, 61), impl.ErrMany},
		{"61 lines that are too long", town(), slices.Repeat([]string{long(65537)}, 61), impl.ErrMany},
		{"MaxList lines", town(), noops(4096), impl.ErrMany},
		{"more than MaxList lines", town(), noops(4097), impl.ErrLong},
		{"more than MaxList lines, no mail store", bad, noops(4097), impl.ErrLong},
		{"too many pairs", tooMany, noops(1), impl.ErrLong},
		{"too many pairs, no lines", tooMany, nil, impl.ErrLong},
		{"too many pairs, 61 lines", tooMany, noops(61), impl.ErrLong},
		{"no mail store", bad, noops(1), impl.ErrBad},
		{"no mail store, no lines", bad, nil, impl.ErrBad},
		{"nothing at all", nil, nil, impl.ErrBad},
		{"no mail store, 61 lines", bad, noops(61), impl.ErrBad},
		{"no mail store, MaxList lines", bad, noops(4096), impl.ErrBad},
		{"MaxList pairs, 61 lines", manyPairs(4096), noops(61), impl.ErrBad},
	} {
		mustReadRun(t, row.what, row.list, row.lines, nil, nil, row.want)
	}
	mustReadRun(t, "59 lines", town(), noops(59), slices.Repeat([]string{"a OK"}, 59), town(), impl.OK)
	mustReadRun(t, "60 lines", town(), noops(60), slices.Repeat([]string{"a OK"}, 60), town(), impl.OK)
	// What is said may be more than there are lines.
	lines := append([]string{"a login ann apple"}, slices.Repeat([]string{"a list"}, 59)...)
	said := append([]string{"a OK"}, slices.Repeat([]string{"* LIST in", "* LIST inbox", "* LIST work", "a OK"}, 59)...)
	mustReadRun(t, "60 lines that say much", town(), lines, said, town(), impl.OK)
	// A line within a list is bounded by the chapter alone.
	lines = []string{long(61), long(65536), long(65537), "a " + long(65537), "a noop"}
	mustReadRun(t, "long lines", town(), lines, []string{"* BAD", "* BAD", "* BAD", "* BAD", "a OK"}, town(), impl.OK)
	mustReadRun(t, "long lines, not Open", town(), append([]string{"a logout"}, lines...), []string{"* BYE", "a OK"}, town(), impl.OK)
}
