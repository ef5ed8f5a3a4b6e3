package tests

import (
	"fmt"
	"math/rand"
	"slices"
	"strings"
	"testing"

	"loop.example/g00340/impl"
)

func TestMailConstants(t *testing.T) {
	if impl.MaxMails != 6 || impl.MaxMail != 85 || impl.FlSeen != 1 || impl.FlDeleted != 2 {
		t.Error(impl.MaxMails, impl.MaxMail, impl.FlSeen, impl.FlDeleted)
	}
}

// A user that is added has an empty inbox under the next validity, and the
// word.
func TestAddUser(t *testing.T) {
	for _, row := range []struct {
		was        []impl.Pair
		user, word string
		come       []string
	}{
		{pairsOf("v", "1"), "ann", "apple", []string{"f/ann/inbox", "1 1", "u/ann", "apple", "v", "2"}},
		{pairsOf("v", "9999"), "ann", "apple", []string{"f/ann/inbox", "9999 1", "u/ann", "apple", "v", "10000"}},
		{town(), "cid", "cherry", []string{"f/cid/inbox", "7 1", "u/cid", "cherry", "v", "8"}},
		{town(), "a", "apple", []string{"f/a/inbox", "7 1", "u/a", "apple", "v", "8"}},
		{town(), "annn", "_", []string{"f/annn/inbox", "7 1", "u/annn", "_", "v", "8"}},
		{town(), "Ann", "Ann", []string{"f/Ann/inbox", "7 1", "u/Ann", "Ann", "v", "8"}},
		{town(), "inbox", "inbox", []string{"f/inbox/inbox", "7 1", "u/inbox", "inbox", "v", "8"}},
		{town(), "abcdefgh", "A2345678", []string{"f/abcdefgh/inbox", "7 1", "u/abcdefgh", "A2345678", "v", "8"}},
	} {
		got := mustTell(t, row.was, mailAsk{call: "AddUser", user: row.user, other: row.word}, mailTold{pairs: mailWith(row.was, row.come...)})
		mustTell(t, got.pairs, mailAsk{call: "UserPass", user: row.user}, mailTold{word: row.word})
		mustTell(t, got.pairs, mailAsk{call: "ListFolders", user: row.user}, mailTold{names: []string{"inbox"}})
		validity := whole(boxOf(row.was)["v"])
		mustTell(t, got.pairs, mailAsk{call: "FolderAt", user: row.user, folder: "inbox"}, mailTold{folder: impl.Folder{Name: "inbox", Validity: validity, Next: 1}})
		mustRefuse(t, got.pairs, mailAsk{call: "AddUser", user: row.user, other: "other"}, impl.ErrTwice)
	}
}

func TestUserPassAndListFolders(t *testing.T) {
	for user, want := range map[string]mailTold{
		"an":  {word: "apple", names: []string{"inbox"}},
		"ann": {word: "apple", names: []string{"in", "inbox", "work"}},
		"bob": {word: "berry", names: []string{"inbox"}},
	} {
		mustTell(t, town(), mailAsk{call: "UserPass", user: user}, mailTold{word: want.word})
		mustTell(t, town(), mailAsk{call: "ListFolders", user: user}, mailTold{names: want.names})
	}
	names := []string{"A", "Z", "_", "_a", "a", "a0", "a1", "aa", "in", "inbox", "inboxx", "z"}
	list := town()
	for _, name := range names {
		list = mailWith(list, "f/an/"+name, "1 1")
	}
	mustTell(t, list, mailAsk{call: "ListFolders", user: "an"}, mailTold{names: names})
	mustTell(t, list, mailAsk{call: "ListFolders", user: "bob"}, mailTold{names: []string{"inbox"}})
	for _, user := range []string{"a", "annn", "Ann", "bo", "cid", "v", "u", "apple", "inbox"} {
		for _, call := range []string{"UserPass", "ListFolders"} {
			mustRefuse(t, town(), mailAsk{call: call, user: user}, impl.ErrUser)
		}
	}
}

func TestFolderAt(t *testing.T) {
	mustTell(t, town(), mailAsk{call: "FolderAt", user: "ann", folder: "inbox"}, mailTold{folder: impl.Folder{Name: "inbox", Validity: 1, Next: 5, Mails: []impl.Mail{
		{Uid: 1, Flags: impl.FlSeen, Text: "one"}, {Uid: 3, Flags: impl.FlDeleted, Text: "three"}, {Uid: 4}}}})
	mustTell(t, town(), mailAsk{call: "FolderAt", user: "ann", folder: "in"}, mailTold{folder: impl.Folder{Name: "in", Validity: 4, Next: 7, Mails: []impl.Mail{
		{Uid: 6, Flags: impl.FlSeen | impl.FlDeleted, Text: "in"}}}})
	mustTell(t, town(), mailAsk{call: "FolderAt", user: "bob", folder: "inbox"}, mailTold{folder: impl.Folder{Name: "inbox", Validity: 2, Next: 3, Mails: []impl.Mail{
		{Uid: 2, Flags: impl.FlDeleted, Text: "2 of bob"}}}})
	mustTell(t, town(), mailAsk{call: "FolderAt", user: "an", folder: "inbox"}, mailTold{folder: impl.Folder{Name: "inbox", Validity: 5, Next: 1}})
	// The mails come by their numbers, however many digits these have.
	list := mailWith(town(), "f/an/inbox", "5 999", "m/an/inbox/998", "0d", "m/an/inbox/009", "0a", "m/an/inbox/010", "0b", "m/an/inbox/100", "0c")
	mustTell(t, list, mailAsk{call: "FolderAt", user: "an", folder: "inbox"}, mailTold{folder: impl.Folder{Name: "inbox", Validity: 5, Next: 999, Mails: []impl.Mail{
		{Uid: 9, Text: "a"}, {Uid: 10, Text: "b"}, {Uid: 100, Text: "c"}, {Uid: 998, Text: "d"}}}})
}

// A folder that is made is empty, under the next validity, which is one more
// then.
func TestMakeFolder(t *testing.T) {
	for _, name := range []string{"old", "i", "inb", "inboxx", "Inbox", "INBOX", "wor", "works", "_", "ann", "abcdefgh"} {
		got := mustTell(t, town(), mailAsk{call: "MakeFolder", user: "ann", folder: name}, mailTold{pairs: mailWith(town(), "f/ann/"+name, "7 1", "v", "8")})
		mustTell(t, got.pairs, mailAsk{call: "FolderAt", user: "ann", folder: name}, mailTold{folder: impl.Folder{Name: name, Validity: 7, Next: 1}})
		mustRefuse(t, got.pairs, mailAsk{call: "MakeFolder", user: "ann", folder: name}, impl.ErrTwice)
	}
	mustTell(t, town(), mailAsk{call: "MakeFolder", user: "bob", folder: "work"}, mailTold{pairs: mailWith(town(), "f/bob/work", "7 1", "v", "8")})
	for _, name := range []string{"in", "inbox", "work"} {
		mustRefuse(t, town(), mailAsk{call: "MakeFolder", user: "ann", folder: name}, impl.ErrTwice)
	}
}

func TestDropFolder(t *testing.T) {
	mustTell(t, town(), mailAsk{call: "DropFolder", user: "ann", folder: "work"}, mailTold{pairs: mailLess(town(), "f/ann/work", "m/ann/work/001")})
	mustTell(t, town(), mailAsk{call: "DropFolder", user: "ann", folder: "in"}, mailTold{pairs: mailLess(town(), "f/ann/in", "m/ann/in/006")})
	empty := mailWith(town(), "f/bob/work", "6 9")
	mustTell(t, empty, mailAsk{call: "DropFolder", user: "bob", folder: "work"}, mailTold{pairs: town()})
	for _, user := range []string{"an", "ann", "bob"} {
		mustRefuse(t, town(), mailAsk{call: "DropFolder", user: user, folder: "inbox"}, impl.ErrState)
	}
}

// A folder that is dropped and made again is another one.
func TestValiditiesAreNotUsedAgain(t *testing.T) {
	list, seen := town(), 6
	for range 20 {
		list = mustTell(t, list, mailAsk{call: "MakeFolder", user: "bob", folder: "work"}, mailAsk{call: "MakeFolder", user: "bob", folder: "work"}.byHand(list)).pairs
		f, code := impl.FolderAt(list, "bob", "work")
		mustCode(t, "FolderAt", code, impl.OK)
		if f.Validity <= seen || whole(boxOf(list)["v"]) != f.Validity+1 || f.Next != 1 {
			t.Errorf("validity %d behind %d, NEXT %d, the next validity %s", f.Validity, seen, f.Next, boxOf(list)["v"])
		}
		seen = f.Validity
		list, code = impl.DropFolder(list, "bob", "work")
		mustCode(t, "DropFolder", code, impl.OK)
	}
	mustPairs(t, "20 folders later", list, mailWith(town(), "v", "27"))
}

// A renamed folder has the mails and the NEXT of the old one, which is gone.
func TestRenameFolder(t *testing.T) {
	want := mailWith(mailLess(town(), "f/ann/work", "m/ann/work/001"), "f/ann/old", "7 2", "m/ann/old/001", "0work", "v", "8")
	mustTell(t, town(), mailAsk{call: "RenameFolder", user: "ann", folder: "work", other: "old"}, mailTold{pairs: want})
	want = mailWith(mailLess(town(), "f/ann/in", "m/ann/in/006"), "f/ann/inboxx", "7 7", "m/ann/inboxx/006", "3in", "v", "8")
	mustTell(t, town(), mailAsk{call: "RenameFolder", user: "ann", folder: "in", other: "inboxx"}, mailTold{pairs: want})
	many := mailWith(town(), "f/bob/a", "3 900", "m/bob/a/001", "1first", "m/bob/a/050", "2second", "m/bob/a/899", "3third")
	want = mailWith(town(), "f/bob/b", "7 900", "m/bob/b/001", "1first", "m/bob/b/050", "2second", "m/bob/b/899", "3third", "v", "8")
	got := mustTell(t, many, mailAsk{call: "RenameFolder", user: "bob", folder: "a", other: "b"}, mailTold{pairs: want})
	mustRefuse(t, got.pairs, mailAsk{call: "FolderAt", user: "bob", folder: "a"}, impl.ErrFolder)
	back := mustTell(t, got.pairs, mailAsk{call: "RenameFolder", user: "bob", folder: "b", other: "a"}, mailTold{pairs: mailWith(many, "f/bob/a", "8 900", "v", "9")})
	mustTell(t, back.pairs, mailAsk{call: "MakeFolder", user: "bob", folder: "b"}, mailTold{pairs: mailWith(many, "f/bob/a", "8 900", "f/bob/b", "9 1", "v", "10")})
	for _, to := range []string{"in", "inbox", "work"} {
		mustRefuse(t, town(), mailAsk{call: "RenameFolder", user: "ann", folder: "work", other: to}, impl.ErrTwice)
	}
	for _, to := range []string{"in", "inbox", "new"} {
		mustRefuse(t, town(), mailAsk{call: "RenameFolder", user: "ann", folder: "inbox", other: to}, impl.ErrState)
	}
}

// A mail that is appended is there under NEXT, and NEXT is one more then.
func TestAppendMail(t *testing.T) {
	for flags := range 4 {
		for _, text := range []string{"", "new", "3", "0 1", "\x00\xff\n/", long(85)} {
			want := mailWith(town(), "f/ann/inbox", "1 6", "m/ann/inbox/005", fmt.Sprint(flags)+text)
			got := mustTell(t, town(), mailAsk{call: "AppendMail", user: "ann", folder: "inbox", text: text, flags: flags}, mailTold{uid: 5, pairs: want})
			f, _ := impl.FolderAt(got.pairs, "ann", "inbox")
			if len(f.Mails) != 4 || f.Mails[3] != (impl.Mail{Uid: 5, Flags: flags, Text: text}) || f.Next != 6 || f.Validity != 1 {
				t.Errorf("%d, %.10q: %+v", flags, text, f)
			}
		}
	}
	mustTell(t, town(), mailAsk{call: "AppendMail", user: "an", folder: "inbox", text: "new", flags: 1}, mailTold{uid: 1, pairs: mailWith(town(), "f/an/inbox", "5 2", "m/an/inbox/001", "1new")})
	mustTell(t, town(), mailAsk{call: "AppendMail", user: "ann", folder: "in", text: "new"}, mailTold{uid: 7, pairs: mailWith(town(), "f/ann/in", "4 8", "m/ann/in/007", "0new")})
	for _, row := range []struct {
		next, later, uid int
		key              string
	}{{9, 10, 9, "009"}, {10, 11, 10, "010"}, {99, 100, 99, "099"}, {100, 101, 100, "100"}, {998, 999, 998, "998"}} {
		list := mailWith(town(), "f/an/inbox", fmt.Sprint(5, row.next))
		want := mailWith(town(), "f/an/inbox", fmt.Sprint(5, row.later), "m/an/inbox/"+row.key, "2x")
		mustTell(t, list, mailAsk{call: "AppendMail", user: "an", folder: "inbox", text: "x", flags: 2}, mailTold{uid: row.uid, pairs: want})
	}
}

// Uids are never used again, though the mails go: a folder takes 998 of them.
func TestUidsAreNotUsedAgain(t *testing.T) {
	list := town()
	for want := 1; want < 999; want++ {
		next, uid, code := impl.AppendMail(list, "an", "inbox", "x", impl.FlDeleted)
		if code != impl.OK || uid != want {
			t.Fatalf("mail %d: uid %d, code %d", want, uid, code)
		}
		list = next
		if want%3 == 0 {
			var gone []int
			list, gone, code = impl.ExpungeFolder(list, "an", "inbox")
			if code != impl.OK || !slices.Equal(gone, []int{want - 2, want - 1, want}) {
				t.Fatalf("%v is gone at %d, code %d", gone, want, code)
			}
		}
	}
	mustPairs(t, "998 mails later", list, mailWith(town(), "f/an/inbox", "5 999", "m/an/inbox/997", "2x", "m/an/inbox/998", "2x"))
	mustRefuse(t, list, mailAsk{call: "AppendMail", user: "an", folder: "inbox"}, impl.ErrMany)
	mustRefuse(t, list, mailAsk{call: "CopyMail", user: "an", folder: "inbox", uid: 998, other: "inbox"}, impl.ErrMany)
}

func TestSetFlags(t *testing.T) {
	for flags := range 4 {
		digit := fmt.Sprint(flags)
		mustTell(t, town(), mailAsk{call: "SetFlags", user: "ann", folder: "inbox", uid: 3, flags: flags}, mailTold{pairs: mailWith(town(), "m/ann/inbox/003", digit+"three")})
		mustTell(t, town(), mailAsk{call: "SetFlags", user: "ann", folder: "inbox", uid: 4, flags: flags}, mailTold{pairs: mailWith(town(), "m/ann/inbox/004", digit)})
		mustTell(t, town(), mailAsk{call: "SetFlags", user: "ann", folder: "in", uid: 6, flags: flags}, mailTold{pairs: mailWith(town(), "m/ann/in/006", digit+"in")})
		mustTell(t, town(), mailAsk{call: "SetFlags", user: "bob", folder: "inbox", uid: 2, flags: flags}, mailTold{pairs: mailWith(town(), "m/bob/inbox/002", digit+"2 of bob")})
	}
}

// Just the mails with FlDeleted go, and only those of the folder.
func TestExpungeFolder(t *testing.T) {
	mustTell(t, town(), mailAsk{call: "ExpungeFolder", user: "ann", folder: "inbox"}, mailTold{uids: []int{3}, pairs: mailLess(town(), "m/ann/inbox/003")})
	mustTell(t, town(), mailAsk{call: "ExpungeFolder", user: "ann", folder: "in"}, mailTold{uids: []int{6}, pairs: mailLess(town(), "m/ann/in/006")})
	mustTell(t, town(), mailAsk{call: "ExpungeFolder", user: "ann", folder: "work"}, mailTold{pairs: town()})
	mustTell(t, town(), mailAsk{call: "ExpungeFolder", user: "an", folder: "inbox"}, mailTold{pairs: town()})
	mustTell(t, town(), mailAsk{call: "ExpungeFolder", user: "bob", folder: "inbox"}, mailTold{uids: []int{2}, pairs: mailLess(town(), "m/bob/inbox/002")})
	for choice := range 1 << 12 {
		// Two bits of the choice are the flags of each of six mails.
		list, want, uids := sixMails(), sixMails(), []int(nil)
		for i, uid := range []int{1, 2, 4, 5, 7, 8} {
			flags := choice >> (2 * i) & 3
			key := fmt.Sprintf("m/ann/inbox/%03d", uid)
			list = append(list, impl.Pair{Key: key, Value: fmt.Sprint(flags)})
			if flags&impl.FlDeleted != 0 {
				uids = append(uids, uid)
			} else {
				want = append(want, impl.Pair{Key: key, Value: fmt.Sprint(flags)})
			}
		}
		for _, l := range [][]impl.Pair{list, want} {
			slices.SortFunc(l, func(a, b impl.Pair) int { return strings.Compare(a.Key, b.Key) })
		}
		mustTell(t, list, mailAsk{call: "ExpungeFolder", user: "ann", folder: "inbox"}, mailTold{uids: uids, pairs: want})
	}
}

// A copy has the text and the flags of what it was made of, under the other
// folder's NEXT.
func TestCopyMail(t *testing.T) {
	for _, row := range []struct {
		user, from string
		uid        int
		to         string
		want       int
		come       []string
	}{
		{"ann", "inbox", 1, "work", 2, []string{"f/ann/work", "3 3", "m/ann/work/002", "1one"}},
		{"ann", "inbox", 3, "in", 7, []string{"f/ann/in", "4 8", "m/ann/in/007", "2three"}},
		{"ann", "inbox", 4, "work", 2, []string{"f/ann/work", "3 3", "m/ann/work/002", "0"}},
		{"ann", "in", 6, "inbox", 5, []string{"f/ann/inbox", "1 6", "m/ann/inbox/005", "3in"}},
		{"ann", "inbox", 1, "inbox", 5, []string{"f/ann/inbox", "1 6", "m/ann/inbox/005", "1one"}},
		{"ann", "in", 6, "in", 7, []string{"f/ann/in", "4 8", "m/ann/in/007", "3in"}},
		{"bob", "inbox", 2, "inbox", 3, []string{"f/bob/inbox", "2 4", "m/bob/inbox/003", "22 of bob"}},
	} {
		mustTell(t, town(), mailAsk{call: "CopyMail", user: row.user, folder: row.from, uid: row.uid, other: row.to}, mailTold{uid: row.want, pairs: mailWith(town(), row.come...)})
	}
	whole := mailWith(town(), "m/bob/inbox/001", "1"+long(85))
	mustTell(t, whole, mailAsk{call: "CopyMail", user: "bob", folder: "inbox", uid: 1, other: "inbox"}, mailTold{uid: 3, pairs: mailWith(whole, "f/bob/inbox", "2 4", "m/bob/inbox/003", "1"+long(85))})
}

// Mails, folders and users of one are not seen by another.
func TestFoldersAreEachUsersOwn(t *testing.T) {
	for _, folder := range []string{"in", "work"} {
		for _, call := range []string{"FolderAt", "DropFolder", "RenameFolder", "AppendMail", "SetFlags", "ExpungeFolder", "CopyMail"} {
			for _, user := range []string{"an", "bob"} {
				mustRefuse(t, town(), mailAsk{call: call, user: user, folder: folder, other: "inbox", uid: 1}, impl.ErrFolder)
			}
		}
	}
}

// someAsk gives a call that often has a right answer.
func someAsk(r *rand.Rand) mailAsk {
	users, folders := []string{"a", "ann", "b"}, []string{"in", "inbox", "inboxx", "w"}
	a := mailAsk{
		call:   mailCalls()[r.Intn(11)],
		user:   users[r.Intn(len(users))],
		folder: folders[r.Intn(len(folders))],
		other:  folders[r.Intn(len(folders))],
		text:   someText(r, 20),
		uid:    r.Intn(6),
		flags:  r.Intn(4),
	}
	if a.takes("uid") && r.Intn(3) > 0 {
		a.folder = "inbox"
	}
	switch r.Intn(40) {
	case 0:
		a.user = []string{"", "9", "nine_byte"}[r.Intn(3)]
	case 1:
		a.folder = []string{"", "9", "nine_byte"}[r.Intn(3)]
	case 2:
		a.other = []string{"", "9", "nine_byte"}[r.Intn(3)]
	case 3:
		a.flags = []int{-1, 4}[r.Intn(2)]
	case 4:
		a.text = long(84 + r.Intn(3))
	case 5:
		a.uid = []int{-1, 999, 1000}[r.Intn(3)]
	}
	return a
}

// Runs of calls, each held against one that is done by hand key by key.
func TestRunsOfMailCalls(t *testing.T) {
	t.Parallel()
	r := rand.New(rand.NewSource(72))
	codes, done := map[int]int{}, map[string]int{}
	for range 60 {
		list := pairsOf("v", []string{"1", "7", "9990"}[r.Intn(3)])
		if r.Intn(4) == 0 {
			list = fullTown(50 + r.Intn(10))
		}
		for range 300 {
			a := someAsk(r)
			told := mustTell(t, list, a, a.byHand(list))
			codes[told.code]++
			if told.code != impl.OK {
				continue
			}
			done[a.call]++
			if a.answersPairs() {
				if whole(boxOf(told.pairs)["v"]) < whole(boxOf(list)["v"]) {
					t.Fatalf("%s: the next validity falls", a)
				}
				list = told.pairs
			}
		}
	}
	for _, code := range []int{impl.OK, impl.ErrRange, impl.ErrNone, impl.ErrMany, impl.ErrFull, impl.ErrTwice, impl.ErrState, impl.ErrQuota, impl.ErrUser, impl.ErrFolder, impl.ErrName} {
		if codes[code] == 0 {
			t.Errorf("no run came to %s: %v", impl.CodeWord(code), codes)
		}
	}
	for _, call := range mailCalls() {
		if done[call] < 20 {
			t.Errorf("%s was done %d times", call, done[call])
		}
	}
}
