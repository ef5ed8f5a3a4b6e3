package tests

import (
	"fmt"
	"math/rand"
	"slices"
	"testing"

	"loop.example/g00340/impl"
)

// laterTown is the ordinary mail store some time later: mails have come, gone
// and got other flags, ann has a folder less and two more, bob's word is
// another one, and cid is new.
func laterTown() []impl.Pair {
	return mailWith(mailLess(town(), "m/ann/inbox/001", "m/ann/inbox/004", "f/ann/work", "m/ann/work/001", "m/bob/inbox/002"),
		"f/ann/inbox", "1 8", "m/ann/inbox/003", "1three", "m/ann/inbox/006", "0six", "m/ann/inbox/007", "0seven",
		"f/ann/new", "7 2", "m/ann/new/001", "0new",
		"f/ann/w", "8 1",
		"f/bob/inbox", "2 9", "m/bob/inbox/008", "1 later", "u/bob", "banana",
		"f/cid/inbox", "9 2", "m/cid/inbox/001", "0of cid", "u/cid", "cherry",
		"v", "12")
}

// A folder that is restored has the mails and the NEXT of the snapshot, under
// the next validity, whether it is there or not.
func TestRestoreFolder(t *testing.T) {
	now := laterTown()
	want := mailWith(mailLess(now, "m/ann/inbox/006", "m/ann/inbox/007"), "f/ann/inbox", "12 5", "m/ann/inbox/001", "1one", "m/ann/inbox/003", "2three", "m/ann/inbox/004", "0", "v", "13")
	mustRestore(t, now, town(), ofFolder("ann", "inbox"), want, impl.OK)
	want = mailWith(now, "f/ann/work", "12 2", "m/ann/work/001", "0work", "v", "13")
	mustRestore(t, now, town(), ofFolder("ann", "work"), want, impl.OK)
	want = mailWith(now, "f/ann/in", "12 7", "v", "13")
	mustRestore(t, now, town(), ofFolder("ann", "in"), want, impl.OK)
	want = mailWith(mailLess(now, "m/bob/inbox/008"), "f/bob/inbox", "12 3", "m/bob/inbox/002", "22 of bob", "v", "13")
	mustRestore(t, now, town(), ofFolder("bob", "inbox"), want, impl.OK)
	want = mailWith(now, "f/an/inbox", "12 1", "v", "13")
	mustRestore(t, now, town(), ofFolder("an", "inbox"), want, impl.OK)
}

// A folder that has nothing in the snapshot has nothing then, and its NEXT is
// the snapshot's, above or below the one of now.
func TestRestoreFolderWithoutMails(t *testing.T) {
	now := laterTown()
	for _, next := range []string{"1", "2", "9", "10", "998", "999"} {
		snap := mailWith(mailLess(town(), "m/bob/inbox/002"), "f/bob/inbox", "2 "+next)
		mustRestore(t, now, snap, ofFolder("bob", "inbox"), mailWith(mailLess(now, "m/bob/inbox/008"), "f/bob/inbox", "12 "+next, "v", "13"), impl.OK)
	}
}

// A snapshot that is not older, or has other users, is asked for the folder
// alone: its validities and words count for nothing.
func TestRestoreFromAnyMailStore(t *testing.T) {
	later, now := mailWith(laterTown(), "v", "5000", "f/ann/new", "4999 2"), town()
	mustRestore(t, now, later, ofFolder("ann", "new"), mailWith(now, "f/ann/new", "7 2", "m/ann/new/001", "0new", "v", "8"), impl.OK)
	mustRestore(t, now, later, ofFolder("bob", "inbox"), mailWith(mailLess(now, "m/bob/inbox/002"), "f/bob/inbox", "7 9", "m/bob/inbox/008", "1 later", "v", "8"), impl.OK)
	snap := pairsOf("f/bob/inbox", "1 4", "m/bob/inbox/003", "3x", "u/bob", "other", "v", "2")
	want := mailWith(mailLess(now, "m/bob/inbox/002"), "f/bob/inbox", "7 4", "m/bob/inbox/003", "3x", "v", "8")
	mustRestore(t, now, snap, ofFolder("bob", "inbox"), want, impl.OK)
	mustRestore(t, now, snap, ofUser("bob"), want, impl.OK)
	// A mail store restored from itself has other validities alone.
	mustRestore(t, now, now, ofFolder("ann", "in"), mailWith(now, "f/ann/in", "7 7", "v", "8"), impl.OK)
	mustRestore(t, now, now, ofUser("ann"), mailWith(now, "f/ann/in", "7 7", "f/ann/inbox", "8 5", "f/ann/work", "9 2", "v", "10"), impl.OK)
}

// A user that is restored has just the folders of the snapshot, fresh ones by
// name; the word stays.
func TestRestoreUser(t *testing.T) {
	now := laterTown()
	want := mailWith(mailLess(now, "f/ann/new", "m/ann/new/001", "f/ann/w", "m/ann/inbox/006", "m/ann/inbox/007"),
		"f/ann/in", "12 7",
		"f/ann/inbox", "13 5", "m/ann/inbox/001", "1one", "m/ann/inbox/003", "2three", "m/ann/inbox/004", "0",
		"f/ann/work", "14 2", "m/ann/work/001", "0work", "v", "15")
	mustRestore(t, now, town(), ofUser("ann"), want, impl.OK)
	want = mailWith(mailLess(now, "m/bob/inbox/008"), "f/bob/inbox", "12 3", "m/bob/inbox/002", "22 of bob", "v", "13")
	mustRestore(t, now, town(), ofUser("bob"), want, impl.OK)
	mustRestore(t, now, town(), ofUser("an"), mailWith(now, "f/an/inbox", "12 1", "v", "13"), impl.OK)
	mustNotRestore(t, now, town(), ofUser("cid"), impl.ErrNone)
	mustNotRestore(t, now, town(), ofFolder("cid", "inbox"), impl.ErrFolder)
	mustNotRestore(t, town(), now, ofUser("cid"), impl.ErrUser)
	mustNotRestore(t, town(), now, ofFolder("cid", "inbox"), impl.ErrUser)
}

// The validities rise with the names, byte by byte.
func TestUsersAreRestoredByName(t *testing.T) {
	names := []string{"A", "Z", "_", "_a", "a", "a0", "aa", "in", "inbox", "inboxx", "z"}
	now, snap := pairsOf("f/bob/inbox", "3 1", "u/bob", "b", "v", "50"), pairsOf("u/bob", "b", "v", "9")
	want := pairsOf("u/bob", "b", "v", fmt.Sprint(50+len(names)))
	for i, name := range names {
		snap = mailWith(snap, "f/bob/"+name, fmt.Sprint(8, 20+i))
		want = mailWith(want, "f/bob/"+name, fmt.Sprint(50+i, 20+i))
	}
	mustRestore(t, now, snap, ofUser("bob"), want, impl.OK)
	mustRestore(t, want, now, ofUser("bob"), mailWith(now, "f/bob/inbox", "61 1", "v", "62"), impl.OK)
}

// Names that begin like others, and folders of that name of other users, are
// others.
func TestWhoseFoldersAreRestored(t *testing.T) {
	users, folders := []string{"a", "an", "ann", "annn", "b"}, []string{"in", "inb", "inbox", "inboxx"}
	fill := func(flags, v string) []impl.Pair {
		list := pairsOf("v", v)
		for _, user := range users {
			list = mailWith(list, "u/"+user, user)
			for _, folder := range folders {
				list = mailWith(list, "f/"+user+"/"+folder, "1 4", "m/"+user+"/"+folder+"/001", flags+user+folder)
			}
		}
		return list
	}
	now, snap := fill("0", "100"), fill("3", "99")
	for _, user := range users {
		all := mailWith(now, "v", "104")
		for i, folder := range folders {
			text := "3" + user + folder
			mustRestore(t, now, snap, ofFolder(user, folder), mailWith(now, "f/"+user+"/"+folder, "100 4", "m/"+user+"/"+folder+"/001", text, "v", "101"), impl.OK)
			all = mailWith(all, "f/"+user+"/"+folder, fmt.Sprint(100+i, 4), "m/"+user+"/"+folder+"/001", text)
		}
		mustRestore(t, now, snap, ofUser(user), all, impl.OK)
	}
}

// A folder that a user lost, by each of the ways there are, comes back.
func TestWhatIsLostComesBack(t *testing.T) {
	snap := town()
	dropped, code := impl.DropFolder(snap, "ann", "work")
	mustCode(t, "DropFolder", code, impl.OK)
	renamed, code := impl.RenameFolder(snap, "ann", "work", "old")
	mustCode(t, "RenameFolder", code, impl.OK)
	deleted, code := impl.SetFlags(snap, "ann", "work", 1, impl.FlDeleted)
	mustCode(t, "SetFlags", code, impl.OK)
	expunged, _, code := impl.ExpungeFolder(deleted, "ann", "work")
	mustCode(t, "ExpungeFolder", code, impl.OK)
	for _, now := range [][]impl.Pair{dropped, deleted, expunged} {
		v := boxOf(now)["v"]
		mustRestore(t, now, snap, ofFolder("ann", "work"), mailWith(snap, "f/ann/work", v+" 2", "v", fmt.Sprint(whole(v)+1)), impl.OK)
	}
	// Of a renamed folder both are there then: the mail counts twice.
	want := mailWith(renamed, "f/ann/work", "8 2", "m/ann/work/001", "0work", "v", "9")
	mustRestore(t, renamed, snap, ofFolder("ann", "work"), want, impl.OK)
	mustRestore(t, renamed, snap, ofUser("ann"), mailWith(snap, "f/ann/in", "8 7", "f/ann/inbox", "9 5", "f/ann/work", "10 2", "v", "11"), impl.OK)
	// A uid that the snapshot did not know is used again, under another validity.
	later, uid, code := impl.AppendMail(snap, "ann", "work", "later", 0)
	mustCode(t, "AppendMail", code, impl.OK)
	back, code := impl.RestoreFolder(later, snap, "ann", "work")
	mustCode(t, "RestoreFolder", code, impl.OK)
	_, again, code := impl.AppendMail(back, "ann", "work", "again", 0)
	if code != impl.OK || again != uid {
		t.Errorf("uid %d behind %d, code %d", again, uid, code)
	}
}

// Runs of calls on a mail store with snapshots of it, each restoring held
// against one that is done by hand.
func TestRunsOfRestoring(t *testing.T) {
	t.Parallel()
	r := rand.New(rand.NewSource(84))
	codes, done := map[int]int{}, map[bool]int{}
	users, folders := []string{"a", "ann", "b", "none", "9"}, []string{"in", "inbox", "inboxx", "w", "none", "9"}
	for range 100 {
		list := pairsOf("f/ann/inbox", "1 1", "u/ann", "x", "v", []string{"2", "7", "9950"}[r.Intn(3)])
		if r.Intn(3) == 0 {
			list = fullTown(45 + r.Intn(15))
		}
		snaps := [][]impl.Pair{list}
		for range 200 {
			if a := someAsk(r); a.answersPairs() {
				if told := a.do(list); told.code == impl.OK {
					list = told.pairs
				}
			}
			if r.Intn(10) == 0 {
				snaps = append(snaps, list)
			}
			if r.Intn(4) > 0 {
				continue
			}
			a := restoreAsk{user: users[r.Intn(3+r.Intn(2)*r.Intn(3))], folder: folders[r.Intn(4+r.Intn(2)*r.Intn(3))], all: r.Intn(2) == 0}
			snap := snaps[r.Intn(len(snaps))]
			want, code := a.byHand(list, snap)
			mustRestore(t, list, snap, a, want, code)
			codes[code]++
			if code == impl.OK {
				done[a.all]++
				list = want
			}
		}
	}
	for _, code := range []int{impl.OK, impl.ErrNone, impl.ErrMany, impl.ErrFull, impl.ErrQuota, impl.ErrUser, impl.ErrFolder, impl.ErrName} {
		if codes[code] == 0 {
			t.Errorf("no run came to %s: %v", impl.CodeWord(code), codes)
		}
	}
	if done[true] < 300 || done[false] < 300 {
		t.Errorf("%v are done: not enough", done)
	}
}

// Validities only rise, whatever is restored, and no folder ever has one again
// that stood for something else.
func TestRestoredValiditiesAreNew(t *testing.T) {
	list, seen := town(), []int{1, 2, 3, 4, 5}
	for i := range 30 {
		was := list
		var code int
		if i%3 == 0 {
			list, code = impl.RestoreUser(list, town(), "ann")
		} else {
			list, code = impl.RestoreFolder(list, town(), "bob", "inbox")
		}
		mustCode(t, "restoring", code, impl.OK)
		for _, key := range boxOf(list).under("f/") {
			validity := whole(boxOf(list)[key][:len(boxOf(list)[key])-2])
			if boxOf(was)[key] == boxOf(list)[key] {
				continue
			}
			if slices.Contains(seen, validity) || validity < whole(boxOf(was)["v"]) || validity >= whole(boxOf(list)["v"]) {
				t.Errorf("%s is restored under %d; the next one was %s, and is %s", key, validity, boxOf(was)["v"], boxOf(list)["v"])
			}
			seen = append(seen, validity)
		}
	}
}
