package tests

import (
	"fmt"
	"math"
	"slices"
	"testing"

	"loop.example/g00340/impl"
)

// rightAsk gives a call that the ordinary mail store answers without a code.
func rightAsk(call string) mailAsk {
	a := mailAsk{call: call, user: "ann", folder: "work", other: "new", text: "text", uid: 1, flags: 1}
	switch call {
	case "AddUser":
		a.user = "cid"
	case "MakeFolder":
		a.folder = "new"
	case "CopyMail":
		a.other = "in"
	}
	return a
}

func TestRightAsksAreDone(t *testing.T) {
	for _, call := range mailCalls() {
		a := rightAsk(call)
		if told := mustTell(t, town(), a, a.byHand(town())); told.code != impl.OK {
			t.Errorf("%s: code %d", a, told.code)
		}
	}
}

// Each call refuses what is no mail store, with nothing.
func TestMailCallsRefuseWhatIsNone(t *testing.T) {
	for _, call := range mailCalls() {
		for _, lists := range []map[string][]impl.Pair{wrongMail(), noPairs()} {
			for what, list := range lists {
				if told := rightAsk(call).do(list); !sameTold(told, mailTold{code: impl.ErrBad}) {
					t.Errorf("%s of %s: %.300q", call, what, fmt.Sprint(told))
				}
			}
		}
		mustRefuseAll(t, manyPairs(4096), rightAsk(call), impl.ErrBad)
		mustRefuseAll(t, manyPairs(4097), rightAsk(call), impl.ErrLong)
		mustRefuseAll(t, append(town(), make([]impl.Pair, 4082)...), rightAsk(call), impl.ErrLong)
	}
}

// withName gives the call with another name in one of its places, if it has
// that place.
func withName(a mailAsk, place int, name string) (mailAsk, bool) {
	switch place {
	case 0:
		a.user = name
		return a, true
	case 1:
		a.folder = name
		return a, a.takes("folder")
	}
	a.other = name
	return a, a.takes("other")
}

func TestMailNames(t *testing.T) {
	for _, call := range mailCalls() {
		for place := range 3 {
			for _, name := range wrongNames() {
				want := impl.ErrName
				if len(name) > 65536 {
					want = impl.ErrLong
				}
				if a, takes := withName(rightAsk(call), place, name); takes {
					mustRefuseAll(t, town(), a, want)
				}
			}
			// Short ones of all lengths are taken, though most of them are nobody's.
			for _, name := range []string{"a", "_", "Z", "a1", "seven_7", "eight_08", "ABCDEFGH"} {
				if a, takes := withName(rightAsk(call), place, name); takes {
					told := mustTell(t, town(), a, a.byHand(town()))
					if told.code == impl.ErrName || told.code == impl.ErrLong {
						t.Errorf("%s: code %d", a, told.code)
					}
				}
			}
		}
	}
}

// Names of eight bytes, and of one, are found where they are.
func TestNamesThatAreThere(t *testing.T) {
	list := mailWith(town(), "u/eight_08", "word", "f/eight_08/inbox", "1 2", "f/eight_08/eight_88", "2 2", "f/eight_08/_", "3 1", "m/eight_08/eight_88/001", "0x")
	for _, call := range mailCalls() {
		a := mailAsk{call: call, user: "eight_08", folder: "eight_88", other: "_", uid: 1}
		want := impl.OK
		switch call {
		case "AddUser", "MakeFolder", "RenameFolder":
			want = impl.ErrTwice
		}
		if told := mustTell(t, list, a, a.byHand(list)); told.code != want {
			t.Errorf("%s: code %d, not %d", a, told.code, want)
		}
	}
}

func TestMailTextsAndFlags(t *testing.T) {
	for n, want := range map[int]int{0: impl.OK, 1: impl.OK, 84: impl.OK, 85: impl.OK, 86: impl.ErrRange, 89: impl.ErrRange, 90: impl.ErrRange, 91: impl.ErrRange, 65536: impl.ErrRange, 65537: impl.ErrLong} {
		a := rightAsk("AppendMail")
		a.text = long(n)
		if want == impl.OK {
			mustTell(t, town(), a, mailTold{uid: 2, pairs: mailWith(town(), "f/ann/work", "3 3", "m/ann/work/002", "1"+long(n))})
		} else {
			mustRefuseAll(t, town(), a, want)
		}
	}
	for _, flags := range []int{math.MinInt, -4, -2, -1, 4, 5, 7, 8, 10, 256, 1 << 32, math.MaxInt} {
		for _, call := range []string{"AppendMail", "SetFlags"} {
			a := rightAsk(call)
			a.flags = flags
			mustRefuseAll(t, town(), a, impl.ErrRange)
		}
	}
}

func TestUidsThatAreNot(t *testing.T) {
	for _, uid := range []int{math.MinInt, -1000, -1, 0, 2, 5, 6, 99, 998, 999, 1000, 1001, 1003, 2001, 1 << 32, 1<<32 + 1, math.MaxInt - 1000, math.MaxInt} {
		mustRefuse(t, town(), mailAsk{call: "SetFlags", user: "ann", folder: "inbox", uid: uid, flags: 1}, impl.ErrNone)
		for _, to := range []string{"in", "inbox", "work"} {
			mustRefuse(t, town(), mailAsk{call: "CopyMail", user: "ann", folder: "inbox", uid: uid, other: to}, impl.ErrNone)
		}
	}
	// A uid of another folder, and of another user, is none of this one.
	mustRefuse(t, town(), mailAsk{call: "SetFlags", user: "ann", folder: "work", uid: 6}, impl.ErrNone)
	mustRefuse(t, town(), mailAsk{call: "SetFlags", user: "ann", folder: "inbox", uid: 2}, impl.ErrNone)
	mustRefuse(t, town(), mailAsk{call: "CopyMail", user: "ann", folder: "work", uid: 3, other: "inbox"}, impl.ErrNone)
}

// Six mails of a user are the most, in whichever folders they are.
func TestQuota(t *testing.T) {
	for _, list := range [][]impl.Pair{
		mailWith(sixMails("inbox", "inbox", "inbox", "inbox", "inbox"), "f/ann/one", "2 1"),
		sixMails("inbox", "one", "inbox", "one", "inbox"),
	} {
		for _, a := range []mailAsk{
			{call: "AppendMail", user: "ann", folder: "one", text: "x"},
			{call: "CopyMail", user: "ann", folder: "inbox", uid: 1, other: "one"},
			{call: "CopyMail", user: "ann", folder: "inbox", uid: 1, other: "inbox"},
		} {
			told := mustTell(t, list, a, a.byHand(list))
			mustCode(t, fmt.Sprint("the sixth by ", a), told.code, impl.OK)
			mustRefuse(t, told.pairs, a, impl.ErrQuota)
			// Another one has room still.
			other, code := impl.AddUser(told.pairs, "zed", "z")
			mustCode(t, "AddUser", code, impl.OK)
			mustTell(t, other, mailAsk{call: "AppendMail", user: "zed", folder: "inbox"}, mailTold{uid: 1, pairs: mailWith(other, "f/zed/inbox", "9 2", "m/zed/inbox/001", "0")})
		}
	}
	// Flags are set, folders renamed and made, whatever the quota.
	list := sixMails("inbox", "one", "inbox", "one", "inbox", "one")
	for _, a := range []mailAsk{
		{call: "SetFlags", user: "ann", folder: "one", uid: 2, flags: 2},
		{call: "RenameFolder", user: "ann", folder: "one", other: "two"},
		{call: "MakeFolder", user: "ann", folder: "two"},
		{call: "ExpungeFolder", user: "ann", folder: "one"},
		{call: "DropFolder", user: "ann", folder: "one"},
	} {
		mustCode(t, a.String(), mustTell(t, list, a, a.byHand(list)).code, impl.OK)
	}
	// What is marked as deleted counts till it is expunged.
	deleted := mustTell(t, list, mailAsk{call: "SetFlags", user: "ann", folder: "one", uid: 2, flags: 2}, mailTold{pairs: mailWith(list, "m/ann/one/002", "2text")}).pairs
	mustRefuse(t, deleted, mailAsk{call: "AppendMail", user: "ann", folder: "inbox"}, impl.ErrQuota)
	less := mustTell(t, deleted, mailAsk{call: "ExpungeFolder", user: "ann", folder: "one"}, mailTold{uids: []int{2}, pairs: mailLess(list, "m/ann/one/002")}).pairs
	mustTell(t, less, mailAsk{call: "AppendMail", user: "ann", folder: "inbox"}, mailTold{uid: 9, pairs: mailWith(less, "f/ann/inbox", "1 10", "m/ann/inbox/009", "0")})
}

func TestNextUidBounds(t *testing.T) {
	at998, at999 := mailWith(town(), "f/ann/work", "3 998"), mailWith(town(), "f/ann/work", "3 999")
	appends := mailAsk{call: "AppendMail", user: "ann", folder: "work", text: "x"}
	copies := mailAsk{call: "CopyMail", user: "ann", folder: "inbox", uid: 1, other: "work"}
	mustTell(t, at998, appends, mailTold{uid: 998, pairs: mailWith(at999, "m/ann/work/998", "0x")})
	mustTell(t, at998, copies, mailTold{uid: 998, pairs: mailWith(at999, "m/ann/work/998", "1one")})
	mustRefuse(t, at999, appends, impl.ErrMany)
	mustRefuse(t, at999, copies, impl.ErrMany)
	// From a folder that is at its end is copied all the same.
	mustTell(t, at999, mailAsk{call: "CopyMail", user: "ann", folder: "work", uid: 1, other: "in"}, mailTold{uid: 7, pairs: mailWith(at999, "f/ann/in", "4 8", "m/ann/in/007", "0work")})
	renamed := mailWith(mailLess(town(), "f/ann/work", "m/ann/work/001"), "f/ann/new", "7 999", "m/ann/new/001", "0work", "v", "8")
	mustTell(t, at999, mailAsk{call: "RenameFolder", user: "ann", folder: "work", other: "new"}, mailTold{pairs: renamed})
}

func TestValidityBounds(t *testing.T) {
	calls := []mailAsk{rightAsk("AddUser"), rightAsk("MakeFolder"), rightAsk("RenameFolder")}
	for _, a := range calls {
		for v, want := range map[string]int{"9998": impl.OK, "9999": impl.OK, "10000": impl.ErrMany} {
			list := mailWith(town(), "v", v)
			told := mustTell(t, list, a, a.byHand(list))
			mustCode(t, a.String()+" at "+v, told.code, want)
			if want == impl.OK && whole(boxOf(told.pairs)["v"]) != whole(v)+1 {
				t.Errorf("%s at %s: the next validity is %q", a, v, boxOf(told.pairs)["v"])
			}
		}
	}
	// All others need no validity.
	list := mailWith(town(), "v", "10000")
	for _, call := range mailCalls() {
		if a := rightAsk(call); !slices.Contains(calls, a) {
			mustCode(t, a.String(), mustTell(t, list, a, a.byHand(list)).code, impl.OK)
		}
	}
}

// A user takes two pairs, a folder or a mail one, and a renamed folder none.
func TestMailPairsBounds(t *testing.T) {
	for call, need := range map[string]int{"AddUser": 2, "MakeFolder": 1, "AppendMail": 1, "CopyMail": 1, "RenameFolder": 0, "DropFolder": 0, "SetFlags": 0, "ExpungeFolder": 0} {
		for n := 57; n <= 60; n++ {
			list, a := fullTown(n), rightAsk(call)
			if n+need > 60 {
				mustRefuse(t, list, a, impl.ErrFull)
				continue
			}
			told := mustTell(t, list, a, a.byHand(list))
			mustCode(t, fmt.Sprint(a, " of ", n), told.code, impl.OK)
			if need > 0 && len(told.pairs) != n+need {
				t.Errorf("%s: %d pairs of %d", a, len(told.pairs), n)
			}
		}
	}
}

// Where several codes hold the first one counts.
func TestOrderOfMailCodes(t *testing.T) {
	full, last := fullTown(60), mailWith(fullTown(60), "v", "10000")
	nearlyLast := mailWith(fullTown(59), "v", "10000")
	six := sixMails("inbox", "one", "inbox", "one", "inbox", "one")
	sixAt999 := mailWith(six, "f/ann/two", "1 999", "f/zed/inbox", "1 999", "u/zed", "z")
	fullSixAt999 := sixAt999
	for i := 0; len(fullSixAt999) < 60; i++ {
		fullSixAt999 = mailWith(fullSixAt999, fmt.Sprintf("f/zed/x%02d", i), "1 1")
	}
	bad, tooLong, text := mailLess(town(), "v"), manyPairs(4097), long(65537)
	for _, row := range []struct {
		what string
		list []impl.Pair
		ask  mailAsk
		want int
		as   bool // the pairs are as they were
	}{
		{"too many pairs, all else wrong", tooLong, mailAsk{call: "AppendMail", flags: 9}, impl.ErrLong, false},
		{"a long user, all else wrong", bad, mailAsk{call: "CopyMail", user: text}, impl.ErrLong, false},
		{"a long folder, all else wrong", bad, mailAsk{call: "CopyMail", folder: text}, impl.ErrLong, false},
		{"a long second folder, all else wrong", bad, mailAsk{call: "CopyMail", other: text}, impl.ErrLong, false},
		{"a long word, all else wrong", bad, mailAsk{call: "AddUser", other: text}, impl.ErrLong, false},
		{"a long text, all else wrong", bad, mailAsk{call: "AppendMail", text: text, flags: 9}, impl.ErrLong, false},
		{"a long text, a wrong name", town(), mailAsk{call: "AppendMail", user: "9", folder: "in", text: text}, impl.ErrLong, false},
		{"no mail store, wrong names", bad, mailAsk{call: "RenameFolder"}, impl.ErrBad, false},
		{"no mail store, wrong flags", bad, mailAsk{call: "SetFlags", user: "ann", folder: "in", flags: 4}, impl.ErrBad, false},
		{"no mail store, no user", bad, mailAsk{call: "UserPass", user: "nobody"}, impl.ErrBad, false},
		{"a wrong folder, no user", town(), mailAsk{call: "FolderAt", user: "nobody", folder: "9"}, impl.ErrName, false},
		{"a wrong user, no folder", town(), mailAsk{call: "FolderAt", user: "9", folder: "none"}, impl.ErrName, false},
		{"a wrong second folder, no first one", town(), mailAsk{call: "CopyMail", user: "ann", folder: "none", other: "9"}, impl.ErrName, false},
		{"a wrong second folder, the inbox", town(), mailAsk{call: "RenameFolder", user: "ann", folder: "inbox", other: ""}, impl.ErrName, false},
		{"a wrong word, a user that is there", town(), mailAsk{call: "AddUser", user: "ann", other: "9"}, impl.ErrName, false},
		{"a wrong name, wrong flags", town(), mailAsk{call: "SetFlags", user: "ann", folder: "9", flags: 4}, impl.ErrName, false},
		{"a wrong name, a text of 86", town(), mailAsk{call: "AppendMail", user: "ann", folder: "9", text: long(86)}, impl.ErrName, false},
		{"wrong flags, no user", town(), mailAsk{call: "SetFlags", user: "nobody", folder: "none", flags: 4}, impl.ErrRange, false},
		{"wrong flags, no folder", town(), mailAsk{call: "AppendMail", user: "ann", folder: "none", flags: -1}, impl.ErrRange, false},
		{"a text of 86, no user", town(), mailAsk{call: "AppendMail", user: "nobody", folder: "none", text: long(86)}, impl.ErrRange, false},
		{"wrong flags, six mails", six, mailAsk{call: "AppendMail", user: "ann", folder: "inbox", flags: 4}, impl.ErrRange, false},
		{"wrong flags, no uid", town(), mailAsk{call: "SetFlags", user: "ann", folder: "inbox", uid: 99, flags: 4}, impl.ErrRange, false},
		{"no user, no folder", town(), mailAsk{call: "FolderAt", user: "nobody", folder: "none"}, impl.ErrUser, true},
		{"no user, the inbox", town(), mailAsk{call: "DropFolder", user: "nobody", folder: "inbox"}, impl.ErrUser, true},
		{"no user, a fresh folder at the end", last, mailAsk{call: "MakeFolder", user: "nobody", folder: "inbox"}, impl.ErrUser, true},
		{"no user, both folders missing", town(), mailAsk{call: "CopyMail", user: "nobody", folder: "none", uid: 0, other: "none"}, impl.ErrUser, true},
		{"no first folder, no mail", town(), mailAsk{call: "CopyMail", user: "ann", folder: "none", uid: 0, other: "in"}, impl.ErrFolder, true},
		{"no second folder, no mail", town(), mailAsk{call: "CopyMail", user: "ann", folder: "in", uid: 0, other: "none"}, impl.ErrFolder, true},
		{"no second folder, six mails", six, mailAsk{call: "CopyMail", user: "ann", folder: "inbox", uid: 1, other: "none"}, impl.ErrFolder, true},
		{"no folder, one that is there", town(), mailAsk{call: "RenameFolder", user: "ann", folder: "none", other: "in"}, impl.ErrFolder, true},
		{"no folder, at the last validity", last, mailAsk{call: "RenameFolder", user: "ann", folder: "none", other: "new"}, impl.ErrFolder, true},
		{"no folder, six mails", six, mailAsk{call: "AppendMail", user: "ann", folder: "none"}, impl.ErrFolder, true},
		{"the inbox to a folder that is there", town(), mailAsk{call: "RenameFolder", user: "ann", folder: "inbox", other: "in"}, impl.ErrState, true},
		{"the inbox to itself", town(), mailAsk{call: "RenameFolder", user: "ann", folder: "inbox", other: "inbox"}, impl.ErrState, true},
		{"a folder to itself", town(), mailAsk{call: "RenameFolder", user: "ann", folder: "in", other: "in"}, impl.ErrTwice, true},
		{"a user twice, at the last validity", last, mailAsk{call: "AddUser", user: "ann", other: "new"}, impl.ErrTwice, true},
		{"a folder twice, at the last validity", last, mailAsk{call: "MakeFolder", user: "ann", folder: "in"}, impl.ErrTwice, true},
		{"a renamed folder twice, at the last validity", last, mailAsk{call: "RenameFolder", user: "ann", folder: "in", other: "work"}, impl.ErrTwice, true},
		{"the inbox, at the last validity", last, mailAsk{call: "RenameFolder", user: "ann", folder: "inbox", other: "new"}, impl.ErrState, true},
		{"a user twice, no room", full, mailAsk{call: "AddUser", user: "ann", other: "new"}, impl.ErrTwice, true},
		{"a folder twice, no room", full, mailAsk{call: "MakeFolder", user: "ann", folder: "in"}, impl.ErrTwice, true},
		{"the last validity, no room for a user", last, mailAsk{call: "AddUser", user: "cid", other: "new"}, impl.ErrMany, true},
		{"the last validity, room for half a user", nearlyLast, mailAsk{call: "AddUser", user: "cid", other: "new"}, impl.ErrMany, true},
		{"the last validity, no room for a folder", last, mailAsk{call: "MakeFolder", user: "ann", folder: "new"}, impl.ErrMany, true},
		{"the last validity, a folder that needs no room", last, mailAsk{call: "RenameFolder", user: "ann", folder: "in", other: "new"}, impl.ErrMany, true},
		{"no such mail, six mails", six, mailAsk{call: "CopyMail", user: "ann", folder: "inbox", uid: 2, other: "one"}, impl.ErrNone, true},
		{"no such mail, no room", full, mailAsk{call: "CopyMail", user: "ann", folder: "inbox", uid: 2, other: "in"}, impl.ErrNone, true},
		{"six mails, the last uid", sixAt999, mailAsk{call: "AppendMail", user: "ann", folder: "two"}, impl.ErrQuota, true},
		{"six mails, the last uid, by a copy", sixAt999, mailAsk{call: "CopyMail", user: "ann", folder: "inbox", uid: 1, other: "two"}, impl.ErrQuota, true},
		{"six mails, the last uid, no room", fullSixAt999, mailAsk{call: "AppendMail", user: "ann", folder: "two"}, impl.ErrQuota, true},
		{"six mails, no room", fullSixAt999, mailAsk{call: "AppendMail", user: "ann", folder: "one"}, impl.ErrQuota, true},
		{"the last uid, no room", fullSixAt999, mailAsk{call: "AppendMail", user: "zed", folder: "inbox"}, impl.ErrMany, true},
		{"no room", fullSixAt999, mailAsk{call: "AppendMail", user: "zed", folder: "x00"}, impl.ErrFull, true},
	} {
		want := mailTold{code: row.want}
		if row.as && row.ask.answersPairs() {
			want.pairs = row.list
		}
		if got := row.ask.do(row.list); !sameTold(got, want) {
			t.Errorf("%s: %.300q, not code %d", row.what, fmt.Sprint(got), row.want)
		}
	}
}

// someStores lead the calls to each of their ends.
func someStores() [][]impl.Pair {
	six := sixMails("inbox", "work", "in", "work", "inbox", "in")
	return [][]impl.Pair{nil, town(), mailLess(town(), "v"), fullTown(59), fullTown(60), mailWith(town(), "v", "10000"), mailWith(fullTown(60), "v", "10000"), six,
		mailWith(six, "f/ann/work", "1 999"), mailWith(town(), "f/ann/work", "3 999"), mailWith(fullTown(60), "f/ann/work", "3 999"), noPairs()["a mail store backwards"]}
}

// All arguments of a few sorts in all ways together, held against the calls
// that are done by hand.
func TestMailCodesTogether(t *testing.T) {
	t.Parallel()
	names := []string{"ann", "cid", "inbox", "work", "none", "9", long(65537)}
	codes := map[int]int{}
	for _, call := range mailCalls() {
		for _, list := range someStores() {
			for _, user := range names {
				for _, folder := range names {
					for _, other := range names {
						for _, n := range []struct{ uid, flags, size int }{{1, 0, 5}, {6, 3, 85}, {0, 2, 86}, {5, 4, 0}, {998, -1, 65537}} {
							a := mailAsk{call: call, user: user, folder: folder, other: other, uid: n.uid, flags: n.flags, text: long(n.size)}
							if !a.takes("folder") && folder != "none" || !a.takes("other") && other != "none" || !a.takes("uid") && !a.takes("flags") && n.uid != 1 {
								continue
							}
							codes[mustTell(t, list, a, a.byHand(list)).code]++
						}
					}
				}
			}
		}
	}
	if len(codes) != 13 {
		t.Errorf("%d codes, not all that there are: %v", len(codes), codes)
	}
}
