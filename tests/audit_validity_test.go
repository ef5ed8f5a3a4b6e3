package tests

import (
	"fmt"
	"math/rand"
	"slices"
	"testing"

	"loop.example/g00340/impl"
)

// The next validity of the second mail store, below, alike and above that of
// the first, which is 7.
func TestNextValidityRises(t *testing.T) {
	small := pairsOf("f/a/inbox", "1 1", "u/a", "b", "v", "7")
	for next, want := range map[string]bool{"2": false, "5": false, "6": false, "7": true, "8": true, "10": true, "70": true, "9999": true, "10000": true} {
		mustRise(t, "v "+next, small, mailWith(small, "v", next), want)
	}
	for next, want := range map[string]bool{"1": false, "6": false, "7": true, "8": true, "10": true, "10000": true} {
		mustRise(t, "nobody, v "+next, pairsOf("v", "7"), pairsOf("v", next), want)
		mustRise(t, "nobody any more, v "+next, town(), pairsOf("v", next), want)
	}
	mustRise(t, "nobody yet", pairsOf("v", "1"), town(), true)
	mustRise(t, "the first ones", pairsOf("v", "1"), newPairs(), true)
	mustRise(t, "the last one", pairsOf("v", "9999"), pairsOf("v", "10000"), true)
	mustRise(t, "behind the last one", pairsOf("v", "10000"), pairsOf("v", "9999"), false)
	mustRise(t, "none is left", pairsOf("v", "10000"), pairsOf("v", "10000"), true)
}

// A folder of both, of one validity: its NEXT may stay or grow, by the number
// and not by the text.
func TestNextRisesInAFolder(t *testing.T) {
	for was, all := range map[string]map[string]bool{
		"1":   {"1": true, "2": true, "9": true, "10": true, "999": true},
		"2":   {"1": false, "2": true, "3": true, "10": true, "100": true},
		"9":   {"1": false, "8": false, "9": true, "10": true, "100": true},
		"10":  {"1": false, "2": false, "9": false, "10": true, "11": true, "100": true},
		"100": {"99": false, "9": false, "100": true, "101": true, "999": true},
		"999": {"998": false, "99": false, "1": false, "999": true},
	} {
		for is, want := range all {
			a, b := mailWith(town(), "f/an/inbox", "5 "+was), mailWith(town(), "f/an/inbox", "5 "+is)
			mustRise(t, was+", then "+is, a, b, want)
			mustRise(t, was+", then "+is+", a validity more", a, mailWith(b, "v", "8"), want)
			mustRise(t, was+", then "+is+", of another user", mailWith(a, "f/bob/an", "5 1"), mailWith(b, "f/bob/an", "5 1"), want)
		}
	}
}

// A folder of both, of another validity: a fresh one alone may be new, whatever
// its NEXT.
func TestOtherValiditiesOfAFolder(t *testing.T) {
	for _, next := range []string{"1", "2", "999"} {
		for validity, want := range map[string]bool{"1": false, "2": false, "4": false, "6": false, "7": true, "8": true, "10": true, "99": true, "100": true, "9998": true} {
			mustRise(t, "an inbox of "+validity, town(), mailWith(town(), "f/an/inbox", validity+" "+next, "v", "9999"), want)
			mustRise(t, "a folder of "+validity, mailWith(town(), "f/bob/work", "6 999"), mailWith(town(), "f/bob/work", validity+" "+next, "v", "9999"), want || validity == "6" && next == "999")
		}
	}
	// Both have moved on: the next validity of the first one counts.
	a := mailWith(town(), "v", "9")
	for validity, want := range map[string]bool{"6": false, "7": false, "8": false, "9": true, "10": true, "11": true} {
		mustRise(t, "an inbox of "+validity, a, mailWith(a, "f/an/inbox", validity+" 1", "v", "12"), want)
	}
}

// A folder of the second alone must be fresh, though another folder, or another
// user's, had its validity.
func TestFoldersThatAreNew(t *testing.T) {
	for _, key := range []string{"f/bob/work", "f/ann/a", "f/ann/zz", "f/ann/Work", "f/an/in", "f/bob/in"} {
		for validity, want := range map[string]bool{"1": false, "3": false, "4": false, "5": false, "6": false, "7": true, "8": true, "10": true, "42": true} {
			b := mailWith(town(), key, validity+" 2", "v", "50")
			mustRise(t, key+" of "+validity, town(), b, want)
			mustRise(t, key+" of "+validity+" is gone", b, mailWith(town(), "v", "50"), true)
		}
	}
	// Renamed by hand: the validity is an old one.
	old := mailWith(mailLess(town(), "f/ann/work", "m/ann/work/001"), "f/ann/play", "3 2")
	mustRise(t, "another name", town(), old, false)
	fresh, code := impl.RenameFolder(town(), "ann", "work", "play")
	mustCode(t, "RenameFolder", code, impl.OK)
	mustRise(t, "RenameFolder", town(), fresh, true)
	for what, texts := range map[string][]string{"the first": {"f/an/a", "1 1"}, "the last": {"f/bob/z", "6 1"}, "one of many": {"f/an/a", "8 1", "f/ann/b", "6 1", "f/bob/z", "7 1"}} {
		mustRise(t, "an old one is "+what, town(), mailWith(town(), append(texts, "v", "50")...), false)
	}
}

// What is gone does not count: folders, mails, users.
func TestFoldersThatAreGone(t *testing.T) {
	mustRise(t, "a folder is gone", town(), mailLess(town(), "f/ann/in", "m/ann/in/006"), true)
	mustRise(t, "mails are gone", town(), mailLess(town(), "m/ann/in/006", "m/ann/inbox/001"), true)
	mustRise(t, "mails are other ones", town(), mailWith(town(), "m/ann/in/006", "0other", "m/bob/inbox/001", "0more"), true)
	mustRise(t, "a user is gone", town(), mailLess(town(), "f/an/inbox", "u/an"), true)
	mustRise(t, "words are other ones", town(), mailWith(town(), "u/an", "x", "u/bob", "y"), true)
	cid := mailWith(town(), "u/cid", "c", "f/cid/inbox", "7 1", "v", "8")
	mustRise(t, "a user more", town(), cid, true)
	mustRise(t, "a user of the first alone", cid, mailWith(town(), "v", "8"), true)
	mustRise(t, "a user of the first alone, an old next validity", cid, town(), false)
	mustRise(t, "a user more, of an old validity", town(), mailWith(cid, "f/cid/inbox", "6 1"), false)
	mustRise(t, "a user of each alone", mailLess(cid, "f/an/inbox", "u/an"), mailWith(mailLess(cid, "f/cid/inbox", "u/cid"), "f/an/inbox", "8 1", "v", "9"), true)
	mustRise(t, "a user of each alone, of an old validity", mailLess(cid, "f/an/inbox", "u/an"), mailLess(cid, "f/cid/inbox", "u/cid"), false)
	back := mailWith(mailLess(town(), "f/an/inbox", "u/an"), "v", "8")
	mustRise(t, "a user comes back as it was", back, mailWith(town(), "v", "9"), false)
	mustRise(t, "a user comes back under a fresh validity", back, mailWith(town(), "f/an/inbox", "8 1", "v", "9"), true)
}

// Users and folders whose names begin alike, or are those of others, are not
// taken for each other.
func TestValiditiesOfNamesAlike(t *testing.T) {
	for _, a := range [][2]string{{"f/an/inbox", "f/ann/inbox"}, {"f/ann/in", "f/ann/inbox"}, {"f/ann/work", "f/bob/work"}, {"f/f/f", "f/f/m"}, {"f/v/v", "f/v/u"}, {"f/A/inbox", "f/a/inbox"}} {
		base := pairsOf("u/an", "x", "u/ann", "x", "u/bob", "x", "u/f", "x", "u/v", "x", "u/A", "x", "u/a", "x", "v", "9")
		for i, user := range []string{"an", "ann", "bob", "f", "v", "A", "a"} {
			base = mailWith(base, "f/"+user+"/inbox", fmt.Sprint(i+1, 5))
		}
		one := mailWith(base, a[0], "8 5")
		mustRise(t, "of one alone", one, mailWith(base, a[1], "8 5"), risesByHand(one, mailWith(base, a[1], "8 5")))
		mustRise(t, "of both", mailWith(one, a[1], "8 7"), mailWith(one, a[1], "8 7"), true)
		mustRise(t, "a lower NEXT of one", mailWith(one, a[1], "8 7"), mailWith(one, a[1], "8 6"), false)
		mustRise(t, "a lower NEXT of the other", mailWith(one, a[1], "8 7"), mailWith(one, a[0], "8 4", a[1], "8 7"), false)
		mustRise(t, "each the other's NEXT", mailWith(one, a[1], "8 7"), mailWith(one, a[0], "8 7", a[1], "8 5"), false)
	}
}

// A mail store may stand behind itself.
func TestValidityRisesFromItself(t *testing.T) {
	for what, list := range rightMail() {
		mustRise(t, what, list, list, true)
		mustRise(t, what+", once more", list, slices.Clone(list), true)
	}
	all := byNames(rightMail())
	for _, a := range all {
		for _, b := range all {
			mustRise(t, "any two", a, b, risesByHand(a, b))
		}
	}
}

// ErrBad of each of the two, and of both; ErrLong of each ahead of that.
func TestValidityRisesRefuses(t *testing.T) {
	right := [][]impl.Pair{pairsOf("v", "1"), town(), fullTown(60)}
	for _, wrong := range []map[string][]impl.Pair{wrongMail(), noPairs()} {
		for what, list := range wrong {
			for _, other := range right {
				mustNotRise(t, what+", the first", list, other, impl.ErrBad)
				mustNotRise(t, what+", the second", other, list, impl.ErrBad)
			}
			mustNotRise(t, what+", both", list, list, impl.ErrBad)
		}
	}
	tooLong := [][]impl.Pair{make([]impl.Pair, 4097), manyPairs(4097), manyPairs(5000)}
	for _, list := range tooLong {
		for _, other := range slices.Concat(right, tooLong, [][]impl.Pair{nil, wrongMail()["without v"], manyPairs(4096)}) {
			mustNotRise(t, "too long, the first", list, other, impl.ErrLong)
			mustNotRise(t, "too long, the second", other, list, impl.ErrLong)
		}
	}
	for _, n := range []int{61, 4095, 4096} {
		mustNotRise(t, fmt.Sprint(n), manyPairs(n), town(), impl.ErrBad)
		mustNotRise(t, fmt.Sprint(n), town(), manyPairs(n), impl.ErrBad)
		mustNotRise(t, fmt.Sprint(n), manyPairs(n), manyPairs(n), impl.ErrBad)
	}
	// A text within a list is bounded by what is said of pairs alone.
	mustNotRise(t, "a long Key", append(town(), impl.Pair{Key: long(65537)}), town(), impl.ErrBad)
	mustNotRise(t, "a long Value", town(), append(town(), impl.Pair{Key: "z", Value: long(65537)}), impl.ErrBad)
}

// What the calls of chapters 8 and 9 answer may stand behind what they were
// given; what was there of old, put back as it was, may not.
func TestValidityRisesBehindCalls(t *testing.T) {
	now := laterTown()
	for _, user := range []string{"an", "ann", "bob"} {
		list, code := impl.RestoreUser(now, town(), user)
		mustCode(t, "RestoreUser", code, impl.OK)
		mustRise(t, "RestoreUser "+user, now, list, true)
		for _, folder := range []string{"inbox", "in", "work"} {
			list, code := impl.RestoreFolder(now, town(), user, folder)
			mustRise(t, "RestoreFolder "+user+" "+folder, now, list, true)
			if code == impl.OK {
				mustRise(t, "and back", list, now, false)
			}
		}
	}
	mustRise(t, "the old pairs", now, town(), false)
	mustRise(t, "the old pairs, the next validity of now", now, mailWith(town(), "v", boxOf(now)["v"]), false)
	grown, _, code := impl.AppendMail(town(), "bob", "inbox", "x", 0)
	mustCode(t, "AppendMail", code, impl.OK)
	mustRise(t, "a mail more", town(), grown, true)
	mustRise(t, "a mail less, its uid is free again", grown, town(), false)
	gone, _, code := impl.ExpungeFolder(town(), "ann", "inbox")
	mustCode(t, "ExpungeFolder", code, impl.OK)
	mustRise(t, "expunged", town(), gone, true)
	dropped, _ := impl.DropFolder(town(), "ann", "work")
	again, code := impl.MakeFolder(dropped, "ann", "work")
	mustCode(t, "MakeFolder", code, impl.OK)
	mustRise(t, "dropped", town(), dropped, true)
	mustRise(t, "made again", town(), again, true)
	mustRise(t, "as it was", dropped, town(), false)
	mustRise(t, "from made again", again, town(), false)
}

// anyMove changes a mail store at some places by chance, mostly to a right one.
func anyMove(r *rand.Rand, list []impl.Pair) []impl.Pair {
	for range 1 + r.Intn(2) {
		b := boxOf(list)
		folders := b.under("f/")
		key := folders[r.Intn(len(folders))]
		switch r.Intn(8) {
		case 0:
			list = mailWith(list, "v", fmt.Sprint(5+r.Intn(8)))
		case 1, 2:
			list = mailWith(list, key, fmt.Sprint(1+r.Intn(8), 1+r.Intn(9)))
		case 3:
			list = mailWith(list, "f/"+pick(r, "an", "ann", "bob")+"/"+pick(r, "a", "in", "work", "z"), fmt.Sprint(1+r.Intn(8), 1+r.Intn(9)))
		case 4:
			list = mailLess(list, key)
		case 5:
			list, _ = impl.MakeFolder(list, pick(r, "an", "ann", "bob"), pick(r, "a", "in", "work", "z"))
		case 6:
			list, _, _ = impl.AppendMail(list, pick(r, "an", "ann", "bob"), "inbox", "x", 0)
		case 7:
			list, _ = impl.RestoreUser(list, town(), pick(r, "an", "ann", "bob"))
		}
		if !mailByHand(list) {
			return b.pairs()
		}
	}
	return list
}

// Any two mail stores, as told by their keys and values; and of three of which
// each may stand behind the one ahead, the last may stand behind the first.
func TestAnyValidities(t *testing.T) {
	r := rand.New(rand.NewSource(131))
	seen := map[string]int{}
	for range 3000 {
		a := anyMove(r, town())
		b := anyMove(r, a)
		c := anyMove(r, b)
		ab, bc, ac := risesByHand(a, b), risesByHand(b, c), risesByHand(a, c)
		mustRise(t, "a, b", a, b, ab)
		mustRise(t, "b, c", b, c, bc)
		mustRise(t, "a, c", a, c, ac || ab && bc)
		mustRise(t, "b, a", b, a, risesByHand(b, a))
		seen[fmt.Sprint(ab, bc, ac)]++
		if t.Failed() {
			return
		}
	}
	for _, word := range []string{"true true true", "false false false", "true false false", "false true true", "false true false"} {
		if seen[word] < 20 {
			t.Errorf("%s: %d times", word, seen[word])
		}
	}
}
