package tests

import (
	"fmt"
	"testing"

	"loop.example/g00340/impl"
)

// padded gives the mail store with n pairs, by folders of pad's.
func padded(list []impl.Pair, n int) []impl.Pair {
	list = mailWith(list, "u/pad", "p", "f/pad/inbox", "1 1")
	for i := 0; len(list) < n; i++ {
		list = mailWith(list, fmt.Sprintf("f/pad/x%02d", i), "1 1")
	}
	if len(list) != n {
		panic("too many pairs")
	}
	return list
}

// mailsOf gives a mail store in which ann has so many mails in folders of
// these names.
func mailsOf(v int, counts ...any) []impl.Pair {
	list := pairsOf("f/ann/inbox", "1 9", "u/ann", "a", "v", fmt.Sprint(v))
	for i := 0; i+1 < len(counts); i += 2 {
		name := counts[i].(string)
		list = mailWith(list, "f/ann/"+name, "1 9")
		for uid := range counts[i+1].(int) {
			list = mailWith(list, fmt.Sprintf("m/ann/%s/%03d", name, uid+1), "0"+name)
		}
	}
	return list
}

// The calls refuse what is no mail store, with nothing, be it now or snap.
func TestRestoringRefusesWhatIsNone(t *testing.T) {
	for _, a := range []restoreAsk{ofFolder("ann", "in"), ofUser("ann")} {
		for _, lists := range []map[string][]impl.Pair{wrongMail(), noPairs()} {
			for what, list := range lists {
				for place, got := range map[string]func() ([]impl.Pair, int){
					"now":  func() ([]impl.Pair, int) { return a.do(list, town()) },
					"snap": func() ([]impl.Pair, int) { return a.do(town(), list) },
					"both": func() ([]impl.Pair, int) { return a.do(list, list) },
				} {
					if pairs, code := got(); code != impl.ErrBad || len(pairs) != 0 {
						t.Errorf("%s, %s is %s: code %d, %d pairs", a, place, what, code, len(pairs))
					}
				}
			}
		}
		for _, n := range []int{61, 4095, 4096} {
			mustRestoreNothing(t, manyPairs(n), town(), a, impl.ErrBad)
			mustRestoreNothing(t, town(), manyPairs(n), a, impl.ErrBad)
		}
		for _, n := range []int{4097, 5000} {
			mustRestoreNothing(t, manyPairs(n), town(), a, impl.ErrLong)
			mustRestoreNothing(t, town(), manyPairs(n), a, impl.ErrLong)
			mustRestoreNothing(t, nil, append(town(), make([]impl.Pair, n)...), a, impl.ErrLong)
		}
	}
	for what, list := range rightMail() {
		pairs, code := impl.RestoreUser(town(), list, "nobody")
		mustCode(t, what, code, impl.ErrUser)
		mustPairs(t, what, pairs, town())
	}
}

func TestRestoringAsksForNames(t *testing.T) {
	for _, name := range wrongNames() {
		want := impl.ErrName
		if len(name) > 65536 {
			want = impl.ErrLong
		}
		for _, a := range []restoreAsk{ofUser(name), ofFolder(name, "in"), ofFolder("ann", name), ofFolder("none", name), ofFolder(name, "none")} {
			mustRestoreNothing(t, laterTown(), town(), a, want)
		}
	}
	for _, name := range []string{"a", "_", "Z", "a1", "eight_08", "ABCDEFGH", "ANN", "annn"} {
		mustNotRestore(t, laterTown(), town(), ofUser(name), impl.ErrUser)
		mustNotRestore(t, laterTown(), town(), ofFolder(name, "inbox"), impl.ErrUser)
		mustNotRestore(t, laterTown(), town(), ofFolder("ann", name), impl.ErrFolder)
		snap := mailWith(town(), "f/ann/"+name, "1 3", "m/ann/"+name+"/002", "2x")
		mustRestore(t, town(), snap, ofFolder("ann", name), mailWith(town(), "f/ann/"+name, "7 3", "m/ann/"+name+"/002", "2x", "v", "8"), impl.OK)
		users := mailWith(town(), "u/"+name, "w", "f/"+name+"/inbox", "1 3")
		mustRestore(t, users, users, ofUser(name), mailWith(users, "f/"+name+"/inbox", "7 3", "v", "8"), impl.OK)
	}
}

// A folder that now has and the snapshot has not is none of the snapshot; one
// of another user's neither.
func TestFoldersThatTheSnapshotHasNot(t *testing.T) {
	for _, name := range []string{"new", "w", "none", "inb", "inboxx", "INBOX", "wor", "works"} {
		mustNotRestore(t, laterTown(), town(), ofFolder("ann", name), impl.ErrFolder)
	}
	for _, user := range []string{"an", "bob"} {
		for _, name := range []string{"in", "work", "new"} {
			mustNotRestore(t, laterTown(), town(), ofFolder(user, name), impl.ErrFolder)
		}
	}
	nobody := pairsOf("v", "1")
	for _, user := range []string{"an", "ann", "bob", "cid"} {
		mustNotRestore(t, laterTown(), nobody, ofFolder(user, "inbox"), impl.ErrFolder)
		mustNotRestore(t, laterTown(), nobody, ofUser(user), impl.ErrNone)
		mustNotRestore(t, nobody, laterTown(), ofFolder(user, "inbox"), impl.ErrUser)
		mustNotRestore(t, nobody, laterTown(), ofUser(user), impl.ErrUser)
	}
}

func TestRestoredValidityBounds(t *testing.T) {
	at := func(v int) []impl.Pair { return mailWith(laterTown(), "v", fmt.Sprint(v)) }
	for _, folder := range []string{"in", "inbox", "work"} {
		for _, v := range []int{9998, 9999} {
			want, code := ofFolder("ann", folder).byHand(at(v), town())
			mustCode(t, "by hand", code, impl.OK)
			mustRestore(t, at(v), town(), ofFolder("ann", folder), want, impl.OK)
			if boxOf(want)["v"] != fmt.Sprint(v+1) {
				t.Errorf("the next validity is %s", boxOf(want)["v"])
			}
		}
		mustNotRestore(t, at(10000), town(), ofFolder("ann", folder), impl.ErrMany)
	}
	// Three folders take three of them.
	for _, v := range []int{9996, 9997} {
		want, _ := ofUser("ann").byHand(at(v), town())
		mustRestore(t, at(v), town(), ofUser("ann"), want, impl.OK)
	}
	for _, v := range []int{9998, 9999, 10000} {
		mustNotRestore(t, at(v), town(), ofUser("ann"), impl.ErrMany)
	}
	mustRestore(t, at(9999), town(), ofUser("an"), mailWith(at(9999), "f/an/inbox", "9999 1", "v", "10000"), impl.OK)
	mustNotRestore(t, at(10000), town(), ofUser("an"), impl.ErrMany)
	// The snapshot's next validity is not asked.
	mustRestore(t, laterTown(), mailWith(town(), "v", "10000"), ofUser("an"), mailWith(laterTown(), "f/an/inbox", "12 1", "v", "13"), impl.OK)
}

// Six mails of a user are the most; those that the folder had are gone.
func TestRestoredQuota(t *testing.T) {
	for _, row := range []struct {
		now, snap []impl.Pair
		want      int
	}{
		{mailsOf(9, "inbox", 3), mailsOf(9, "work", 3), impl.OK},
		{mailsOf(9, "inbox", 3), mailsOf(9, "work", 4), impl.ErrQuota},
		{mailsOf(9, "inbox", 4), mailsOf(9, "work", 3), impl.ErrQuota},
		{mailsOf(9, "inbox", 0), mailsOf(9, "work", 6), impl.OK},
		{mailsOf(9, "inbox", 1), mailsOf(9, "work", 6), impl.ErrQuota},
		{mailsOf(9, "inbox", 6), mailsOf(9, "work", 0), impl.OK},
		{mailsOf(9, "inbox", 6), mailsOf(9, "work", 1), impl.ErrQuota},
		{mailsOf(9, "inbox", 6), mailsOf(9, "inbox", 6, "work", 0), impl.OK},
		{mailsOf(9, "inbox", 1, "work", 5), mailsOf(9, "work", 5), impl.OK},
		{mailsOf(9, "inbox", 1, "work", 5), mailsOf(9, "work", 6), impl.ErrQuota},
		{mailsOf(9, "inbox", 0, "work", 6), mailsOf(9, "work", 6), impl.OK},
		{mailsOf(9, "inbox", 2, "in", 2, "work", 2), mailsOf(9, "work", 2), impl.OK},
		{mailsOf(9, "inbox", 2, "in", 2, "work", 2), mailsOf(9, "work", 3), impl.ErrQuota},
		{mailsOf(9, "inbox", 2, "in", 3), mailsOf(9, "inbox", 5, "work", 1), impl.OK},
		{mailsOf(9, "inbox", 2, "in", 4), mailsOf(9, "inbox", 5, "work", 1), impl.ErrQuota},
	} {
		now := mailWith(row.now, sixOfZed()...)
		want, code := ofFolder("ann", "work").byHand(now, row.snap)
		mustCode(t, fmt.Sprint(now, row.snap), code, row.want)
		mustRestore(t, now, row.snap, ofFolder("ann", "work"), want, row.want)
		// A user that is restored has the snapshot's mails alone, at most six.
		want, code = ofUser("ann").byHand(now, row.snap)
		mustCode(t, "RestoreUser", code, impl.OK)
		mustRestore(t, now, row.snap, ofUser("ann"), want, impl.OK)
	}
}

// A folder that is not there takes a pair, each of its mails one; those that
// the folder had are free.
func TestRestoredPairsBounds(t *testing.T) {
	for _, row := range []struct {
		now, snap []impl.Pair
		more      int
	}{
		{mailsOf(9), mailsOf(9, "work", 0), 1},
		{mailsOf(9), mailsOf(9, "work", 1), 2},
		{mailsOf(9), mailsOf(9, "work", 6), 7},
		{mailsOf(9, "work", 0), mailsOf(9, "work", 0), 0},
		{mailsOf(9, "work", 0), mailsOf(9, "work", 3), 3},
		{mailsOf(9, "work", 3), mailsOf(9, "work", 3), 0},
		{mailsOf(9, "work", 3), mailsOf(9, "work", 0), 0},
		{mailsOf(9, "work", 3), mailsOf(9, "work", 6), 3},
		{mailsOf(9, "inbox", 3), mailsOf(9, "work", 3), 4},
	} {
		for n := 53; n <= 60; n++ {
			now := padded(row.now, n)
			want, code := now, impl.ErrFull
			if n+row.more <= 60 {
				want, code = ofFolder("ann", "work").byHand(now, row.snap)
				mustCode(t, fmt.Sprint(n, " and ", row.more), code, impl.OK)
			}
			mustRestore(t, now, row.snap, ofFolder("ann", "work"), want, code)
		}
	}
	for _, row := range []struct {
		now, snap []impl.Pair
		more      int
	}{
		{mailsOf(9), mailsOf(9), 0},
		{mailsOf(9), mailsOf(9, "work", 0), 1},
		{mailsOf(9), mailsOf(9, "work", 3, "zzz", 3), 8},
		{mailsOf(9, "work", 0), mailsOf(9, "work", 3, "zzz", 3), 7},
		{mailsOf(9, "work", 6), mailsOf(9, "work", 3, "zzz", 3), 1},
		{mailsOf(9, "a", 1, "b", 1, "c", 1), mailsOf(9, "work", 3, "zzz", 3), 2},
		{mailsOf(9, "a", 1, "b", 1, "c", 1), mailsOf(9, "inbox", 6), 0},
	} {
		for n := 51; n <= 60; n++ {
			now := padded(row.now, n)
			want, code := now, impl.ErrFull
			if n+row.more <= 60 {
				want, code = ofUser("ann").byHand(now, row.snap)
				mustCode(t, fmt.Sprint(n, " and ", row.more), code, impl.OK)
			}
			mustRestore(t, now, row.snap, ofUser("ann"), want, code)
		}
	}
}

// Where several codes hold the first one counts.
func TestOrderOfRestoringCodes(t *testing.T) {
	bad, tooLong, text := mailLess(town(), "v"), manyPairs(4097), long(65537)
	quota, three := mailsOf(9, "inbox", 6), mailsOf(9, "work", 3)
	last := func(list []impl.Pair) []impl.Pair { return mailWith(list, "v", "10000") }
	for _, row := range []struct {
		what      string
		now, snap []impl.Pair
		ask       restoreAsk
		want      int
		as        bool // the pairs are as they were
	}{
		{"too many pairs, all else wrong", tooLong, bad, ofFolder("9", ""), impl.ErrLong, false},
		{"too many pairs of snap, all else wrong", bad, tooLong, ofFolder("9", ""), impl.ErrLong, false},
		{"a long user, all else wrong", bad, bad, ofFolder(text, ""), impl.ErrLong, false},
		{"a long folder, all else wrong", bad, bad, ofFolder("9", text), impl.ErrLong, false},
		{"a long folder, a wrong user", town(), town(), ofFolder("9", text), impl.ErrLong, false},
		{"no mail store, wrong names", bad, town(), ofFolder("9", "9"), impl.ErrBad, false},
		{"no mail stores, wrong names", bad, bad, ofFolder("9", "9"), impl.ErrBad, false},
		{"a wrong user, snap is no mail store", town(), bad, ofFolder("9", "in"), impl.ErrName, false},
		{"a wrong folder, snap is no mail store", town(), bad, ofFolder("ann", "9"), impl.ErrName, false},
		{"a wrong folder, no user", town(), town(), ofFolder("none", "9"), impl.ErrName, false},
		{"snap is no mail store, no user", town(), bad, ofFolder("none", "none"), impl.ErrBad, false},
		{"snap is no mail store, no folder", town(), bad, ofFolder("ann", "none"), impl.ErrBad, false},
		{"snap is nothing, no user", town(), nil, ofFolder("none", "none"), impl.ErrBad, false},
		{"no user, no folder", town(), town(), ofFolder("none", "none"), impl.ErrUser, true},
		{"no user of now, at the last validity", last(town()), laterTown(), ofFolder("cid", "inbox"), impl.ErrUser, true},
		{"no user of both", town(), town(), ofFolder("none", "inbox"), impl.ErrUser, true},
		{"no folder, at the last validity", last(laterTown()), town(), ofFolder("ann", "new"), impl.ErrFolder, true},
		{"no folder, no room", last(padded(quota, 60)), three, ofFolder("ann", "new"), impl.ErrFolder, true},
		{"the last validity, no room, the quota", last(padded(quota, 60)), three, ofFolder("ann", "work"), impl.ErrMany, true},
		{"the last validity, the quota", last(quota), three, ofFolder("ann", "work"), impl.ErrMany, true},
		{"no room for the folder, the quota", padded(quota, 60), three, ofFolder("ann", "work"), impl.ErrFull, true},
		{"room for the folder alone, the quota", padded(quota, 59), three, ofFolder("ann", "work"), impl.ErrQuota, true},
		{"room for two mails, the quota", padded(quota, 57), three, ofFolder("ann", "work"), impl.ErrQuota, true},
		{"a folder that is there, no room, the quota", padded(mailsOf(9, "inbox", 5, "work", 1), 60), three, ofFolder("ann", "work"), impl.ErrQuota, true},
		{"a folder that is there, no room", padded(mailsOf(9, "inbox", 3, "work", 1), 60), three, ofFolder("ann", "work"), impl.ErrFull, true},
		{"room for the folder alone", padded(mailsOf(9, "inbox", 3), 59), three, ofFolder("ann", "work"), impl.ErrFull, true},
		{"too many pairs, all else wrong", tooLong, bad, ofUser("9"), impl.ErrLong, false},
		{"too many pairs of snap, all else wrong", bad, tooLong, ofUser("9"), impl.ErrLong, false},
		{"a long user, all else wrong", bad, bad, ofUser(text), impl.ErrLong, false},
		{"no mail store, a wrong user", bad, town(), ofUser("9"), impl.ErrBad, false},
		{"a wrong user, snap is no mail store", town(), bad, ofUser("9"), impl.ErrName, false},
		{"snap is no mail store, no user", town(), bad, ofUser("none"), impl.ErrBad, false},
		{"no user of both", town(), town(), ofUser("none"), impl.ErrUser, true},
		{"no user of now, at the last validity", last(town()), laterTown(), ofUser("cid"), impl.ErrUser, true},
		{"no user of snap, at the last validity", last(laterTown()), town(), ofUser("cid"), impl.ErrNone, true},
		{"no user of snap, no room", padded(quota, 60), town(), ofUser("pad"), impl.ErrNone, true},
		{"the last validity, no room", last(padded(mailsOf(9), 60)), three, ofUser("ann"), impl.ErrMany, true},
		{"no room for the first folder, no validity for the second", mailWith(padded(mailsOf(9), 60), "v", "9999"), mailsOf(9, "a", 1), ofUser("ann"), impl.ErrFull, true},
		{"no room for the first folder's mail, no validity for the second", mailWith(padded(mailsOf(9), 59), "v", "9999"), mailsOf(9, "a", 1), ofUser("ann"), impl.ErrFull, true},
		{"no validity for the second folder, no room for its mail", mailWith(padded(mailsOf(9), 58), "v", "9999"), mailsOf(9, "a", 1, "inbox", 5), ofUser("ann"), impl.ErrMany, true},
	} {
		var want []impl.Pair
		if row.as {
			want = row.now
		}
		if got, code := row.ask.do(row.now, row.snap); code != row.want {
			t.Errorf("%s: %s: code %d, not %d", row.what, row.ask, code, row.want)
		} else {
			mustPairs(t, row.what, got, want)
		}
		mustRestore(t, row.now, row.snap, row.ask, want, row.want)
	}
}

// restoreStores lead the calls to each of their ends, as now and as snap.
func restoreStores() [][]impl.Pair {
	return append(someStores(), laterTown(), mailsOf(9998, "inbox", 2, "work", 4), padded(mailsOf(9, "inbox", 6), 60), padded(mailsOf(9, "work", 6), 59), padded(mailsOf(9999, "a", 3), 58), manyPairs(4097))
}

// All arguments of a few sorts in all ways together, held against the calls
// that are done by hand.
func TestRestoringCodesTogether(t *testing.T) {
	t.Parallel()
	names := []string{"ann", "cid", "pad", "inbox", "work", "a", "9", long(65537)}
	codes := map[int]int{}
	for _, now := range restoreStores() {
		for _, snap := range restoreStores() {
			for _, user := range names {
				asks := []restoreAsk{ofUser(user)}
				for _, folder := range names {
					asks = append(asks, ofFolder(user, folder))
				}
				for _, a := range asks {
					want, code := a.byHand(now, snap)
					mustRestore(t, now, snap, a, want, code)
					codes[code]++
				}
			}
		}
	}
	if len(codes) != 10 {
		t.Errorf("%d codes, not all that there are: %v", len(codes), codes)
	}
}
