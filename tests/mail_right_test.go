package tests

import (
	"fmt"
	"maps"
	"math/rand"
	"slices"
	"testing"

	"loop.example/g00340/impl"
)

// rightMail are mail stores at the bounds of what is right.
func rightMail() map[string][]impl.Pair {
	out := map[string][]impl.Pair{
		"nobody":                    pairsOf("v", "1"),
		"nobody, at the last one":   pairsOf("v", "10000"),
		"one user":                  pairsOf("f/a/inbox", "1 1", "u/a", "b", "v", "2"),
		"a user without mails":      pairsOf("f/a/inbox", "1 999", "u/a", "b", "v", "2"),
		"a user like the word":      pairsOf("f/a/inbox", "1 1", "u/a", "a", "v", "2"),
		"names of letters":          pairsOf("f/f/inbox", "1 1", "f/f/m", "1 2", "m/f/m/001", "0", "u/f", "u", "v", "2"),
		"names in great letters":    pairsOf("f/A/INBOX", "1 1", "f/A/inbox", "1 1", "u/A", "B", "v", "2"),
		"a word that is named v":    pairsOf("f/v/inbox", "1 1", "f/v/v", "1 1", "u/v", "v", "v", "2"),
		"an ordinary one":           town(),
		"59 pairs":                  fullTown(59),
		"MaxPairs":                  fullTown(60),
		"29 users":                  manyUsers(29),
		"a validity just below":     mailWith(town(), "v", "6"),
		"the highest validity":      mailWith(town(), "v", "10000", "f/ann/work", "9999 2"),
		"validities that are alike": mailWith(town(), "f/ann/work", "1 2"),
		"a validity of 1":           mailWith(town(), "f/bob/inbox", "1 3"),
		"a NEXT just above":         mailWith(town(), "f/bob/inbox", "2 3"),
		"a NEXT of 999":             mailWith(town(), "f/bob/inbox", "2 999", "m/bob/inbox/998", "0"),
		"a uid of 1":                mailWith(town(), "m/bob/inbox/001", "0"),
		"uids of two digits":        mailWith(town(), "f/bob/inbox", "2 100", "m/bob/inbox/010", "0", "m/bob/inbox/099", "0"),
		"a text of no bytes":        mailWith(town(), "m/bob/inbox/002", "0"),
		"a text of 84 bytes":        mailWith(town(), "m/bob/inbox/002", "0"+long(84)),
		"a text of 85 bytes":        mailWith(town(), "m/bob/inbox/002", "3"+long(85)),
		"a text of any bytes":       mailWith(town(), "m/bob/inbox/002", "0\x00\n\xff /\r4"),
		"a text of digits":          mailWith(town(), "m/bob/inbox/002", "1999"),
		"six mails in one folder":   sixMails("inbox", "inbox", "inbox", "inbox", "inbox", "inbox"),
		"six mails in several":      sixMails("inbox", "one", "two", "one", "two", "inbox"),
		"six mails of each":         mailWith(sixMails("inbox", "one", "two", "one", "two", "inbox"), sixOfZed()...),
	}
	for _, name := range []string{"a", "_", "Z", "abcdefgh", "_2345678", "a1", "A_9"} {
		out["a user "+name] = mailWith(town(), "u/"+name, "x", "f/"+name+"/inbox", "1 2", "m/"+name+"/inbox/001", "0")
		out["a word "+name] = mailWith(town(), "u/bob", name)
		out["a folder "+name] = mailWith(town(), "f/bob/"+name, "1 2", "m/bob/"+name+"/001", "0")
	}
	for _, flags := range []string{"0", "1", "2", "3"} {
		out["flags "+flags] = mailWith(town(), "m/bob/inbox/002", flags+"text")
	}
	return out
}

func manyUsers(n int) []impl.Pair {
	texts := []string{"v", "2"}
	for i := range n {
		texts = append(texts, fmt.Sprintf("u/u%d", i), "word", fmt.Sprintf("f/u%d/inbox", i), "1 1")
	}
	return mailWith(nil, texts...)
}

// sixMails gives a mail store in which ann has a mail in each of these folders.
func sixMails(folders ...string) []impl.Pair {
	list := pairsOf("f/ann/inbox", "1 9", "u/ann", "apple", "v", "9")
	for i, name := range folders {
		list = mailWith(list, "f/ann/"+name, "1 9", fmt.Sprintf("m/ann/%s/%03d", name, i+1), "0text")
	}
	return list
}

func sixOfZed() []string {
	texts := []string{"u/zed", "z", "f/zed/inbox", "2 9"}
	for i := range 6 {
		texts = append(texts, fmt.Sprintf("m/zed/inbox/%03d", i+1), "0")
	}
	return texts
}

// wrongNext are no texts of a next validity.
func wrongNext() []string {
	return []string{"", "0", "10001", "99999", "-1", "+1", "01", "007", "00", " 7", "7 ", "7 1", "7.0", "0x7", "1e3", "7a", "a", "seven", "7\x00", "７",
		"9223372036854775807", "9223372036854775808", "-9223372036854775808", "18446744073709551623", "000000000000000000007"}
}

// wrongShorts are no short names, but short enough for a key.
func wrongShorts() []string {
	return []string{"", "9", "1a", "a b", " a", "a ", "a-b", "a.", "\x00", "a\x00", "ä", "\xff", "nine_byte", "abcdefghi"}
}

// wrongMail are pairs, but no mail stores, each by as little as can be.
func wrongMail() map[string][]impl.Pair {
	out := map[string][]impl.Pair{
		"nil":                                    nil,
		"empty":                                  {},
		"without v":                              mailLess(town(), "v"),
		"one user without v":                     pairsOf("f/a/inbox", "1 1", "u/a", "b"),
		"a validity at the next one":             mailWith(town(), "v", "5"),
		"a validity above the next one":          mailWith(town(), "v", "4"),
		"a validity of 10000":                    mailWith(town(), "v", "10000", "f/bob/inbox", "10000 3"),
		"validities, and the next one is 1":      pairsOf("f/a/inbox", "1 1", "u/a", "b", "v", "1"),
		"a user without an inbox":                mailLess(town(), "f/an/inbox"),
		"a user without an inbox, but others":    mailWith(mailLess(town(), "f/an/inbox"), "f/an/work", "5 1"),
		"a user with an inbox in great letters":  mailWith(mailLess(town(), "f/an/inbox"), "f/an/Inbox", "5 1"),
		"a user alone":                           pairsOf("u/a", "b", "v", "1"),
		"a folder of nobody":                     mailWith(town(), "f/cid/inbox", "1 1"),
		"a folder of a word":                     mailWith(town(), "f/apple/inbox", "1 1"),
		"a folder of a name that begins so":      mailWith(town(), "f/a/inbox", "1 1"),
		"a folder of a name that goes on":        mailWith(town(), "f/annn/inbox", "1 1"),
		"a folder of nobody at all":              pairsOf("f/a/inbox", "1 1", "v", "2"),
		"a mail of nobody":                       mailWith(town(), "m/cid/inbox/001", "0"),
		"a mail of nobody's folder":              mailWith(town(), "f/cid/inbox", "1 2", "m/cid/inbox/001", "0"),
		"a mail of no folder":                    mailWith(town(), "m/bob/work/001", "0"),
		"a mail of another's folder":             mailWith(town(), "m/bob/in/006", "0"),
		"a mail of a folder that begins so":      mailWith(town(), "m/bob/inb/001", "0"),
		"a mail of a folder that goes on":        mailWith(town(), "m/bob/inboxx/001", "0"),
		"a user's folder is gone, the mails not": mailLess(town(), "f/ann/work"),
		"a user is gone, the rest not":           mailLess(town(), "u/bob"),
		"a user and the inbox are gone":          mailLess(town(), "u/bob", "f/bob/inbox"),
		"seven mails in one folder":              mailWith(sixMails("inbox", "inbox", "inbox", "inbox", "inbox", "inbox"), "m/ann/inbox/008", "0"),
		"seven mails in several":                 mailWith(sixMails("inbox", "one", "two", "one", "two", "inbox"), "m/ann/one/008", "0"),
		"seven mails of the second user":         mailWith(mailWith(sixMails("inbox"), sixOfZed()...), "m/zed/inbox/008", "3"),
		"seven deleted mails":                    mailWith(sixMails("inbox", "inbox", "inbox", "inbox", "inbox", "inbox"), "m/ann/inbox/008", "2"),
		"a value of 90 bytes":                    mailWith(town(), "m/bob/inbox/002", "0"+long(89)),
		"a text of 86 bytes":                     mailWith(town(), "m/bob/inbox/002", "0"+long(86)),
		"a value of no bytes":                    mailWith(town(), "m/bob/inbox/002", ""),
		"users that are two parts":               mailWith(town(), "u/bob/x", "word"),
		"users that are two parts and all":       mailWith(town(), "u/bob/x", "word", "f/bob/x/inbox", "1 1"),
	}
	for _, text := range wrongNext() {
		out[fmt.Sprintf("v is %q", text)] = mailWith(town(), "v", text)
		out[fmt.Sprintf("v alone is %q", text)] = pairsOf("v", text)
	}
	for _, name := range wrongShorts() {
		out[fmt.Sprintf("a user %q", name)] = mailWith(town(), "u/"+name, "word")
		out[fmt.Sprintf("a user %q with an inbox", name)] = mailWith(town(), "u/"+name, "word", "f/"+name+"/inbox", "1 1")
		out[fmt.Sprintf("a word %q", name)] = mailWith(town(), "u/bob", name)
		out[fmt.Sprintf("a first word %q", name)] = mailWith(town(), "u/an", name)
		out[fmt.Sprintf("a folder %q", name)] = mailWith(town(), "f/bob/"+name, "1 1")
		out[fmt.Sprintf("a folder %q of a mail", name)] = mailWith(town(), "f/bob/"+name, "1 2", "m/bob/"+name+"/001", "0")
		out[fmt.Sprintf("a mail of the folder %q", name)] = mailWith(town(), "m/bob/"+name+"/001", "0")
	}
	for _, key := range []string{"x", "V", "vv", "v/", "v/x", "u", "f", "m", "u/", "f/", "f/bob", "f/bob/", "f//inbox", "f/bob/inbox/", "f/bob/inbox/x", "m/", "m/bob", "m/bob/", "m/bob/inbox",
		"m/bob/inbox/", "m/bob/inbox/001/", "m/bob/inbox/001/x", "m//inbox/001", "m/bob//001", "U/bob", "u/bob/", "/u/bob", "F/bob/inbox", "M/bob/inbox/001", "w/bob", "uu/bob", " v", "v ", "\x00", "/", "//", "///"} {
		for _, value := range []string{"", "1", "1 2", "0text", "word"} {
			out[fmt.Sprintf("a key %q of %q", key, value)] = mailWith(town(), key, value)
		}
	}
	for what, list := range wrongPlaces() {
		out[what] = list
	}
	for what, list := range wrongUids() {
		out[what] = list
	}
	return out
}

// wrongPlaces are mail stores but for what a folder has.
func wrongPlaces() map[string][]impl.Pair {
	out := map[string][]impl.Pair{}
	for _, value := range []string{"", " ", "1", "1 ", " 1", "1  1", " 1 1", "1 1 ", "1 1 1", "1,1", "1\t1", "1\n1", "11", "0 1", "1 0", "00 1", "1 00", "1 1000", "1 9999", "7 1", "10000 1", "-1 1", "1 -1", "+1 1",
		"1 +1", "01 1", "1 01", "001 1", "1 001", "a 1", "1 a", "1.0 1", "1 1.0", "0x1 1", "1 0x1", "1_0 1", "1 1_0", "18446744073709551617 1", "1 18446744073709551617", "1 1\x00", "１ 1"} {
		out[fmt.Sprintf("a folder of %q", value)] = mailWith(town(), "f/bob/work", value)
		out[fmt.Sprintf("an inbox of %q", value)] = mailWith(town(), "f/an/inbox", value)
	}
	return out
}

// wrongUids are mail stores but for a mail.
func wrongUids() map[string][]impl.Pair {
	out := map[string][]impl.Pair{}
	of := mailWith(town(), "f/bob/inbox", "2 50")
	for _, uid := range []string{"000", "050", "051", "100", "999", "1", "01", "0001", "0010", "1001", "-01", "-1", "+01", "+1", " 01", "01 ", "0 1", "a01", "0a1", "01a", "0x1", "1e0", "0_1", "0.1", "\x00\x00\x01", "００１", "٠٠١"} {
		out[fmt.Sprintf("a uid %q", uid)] = mailWith(of, "m/bob/inbox/"+uid, "0")
	}
	for _, value := range []string{"4", "5", "9", "4text", "-1", "-", "+1", " 0", "text", "a", "/", ":", "\x00", "\x01", "\xff", ""} {
		out[fmt.Sprintf("a mail of %q", value)] = mailWith(of, "m/bob/inbox/001", value)
	}
	out["a uid at a NEXT of 1"] = mailWith(town(), "m/an/inbox/001", "0")
	out["a uid above a NEXT of 1"] = mailWith(town(), "m/an/inbox/002", "0")
	out["a uid at a NEXT of 999"] = mailWith(town(), "f/an/inbox", "5 999", "m/an/inbox/999", "0")
	out["a uid of 000 at a NEXT of 999"] = mailWith(town(), "f/an/inbox", "5 999", "m/an/inbox/000", "0")
	return out
}

func TestMailStoreOK(t *testing.T) {
	for what, list := range rightMail() {
		if !impl.MailStoreOK(list) || !mailByHand(list) {
			t.Errorf("%s: not right: %q", what, list)
		}
	}
	for what, list := range wrongMail() {
		if !impl.PairsOK(list) {
			t.Errorf("%s: these are no pairs: %q", what, list)
		}
		if impl.MailStoreOK(list) || mailByHand(list) {
			t.Errorf("%s: right: %q", what, list)
		}
	}
}

// noPairs are no mail stores since they are no pairs at all.
func noPairs() map[string][]impl.Pair {
	out := wrongPairs()
	swapped := town()
	swapped[3], swapped[4] = swapped[4], swapped[3]
	out["a mail store, of which two pairs are swapped"] = swapped
	out["a mail store backwards"] = slices.Collect(func(yield func(impl.Pair) bool) {
		for _, p := range slices.Backward(town()) {
			if !yield(p) {
				return
			}
		}
	})
	out["a mail store with v twice"] = append(town(), town()[14])
	out["a mail store with a user twice"] = slices.Insert(town(), 12, town()[12])
	out["a mail store of 61 pairs"] = fullTown(61)
	out["30 users"] = manyUsers(30)
	out["a text of 90 bytes"] = mailWith(town(), "m/bob/inbox/002", "0"+long(90))
	out["a key of 31 bytes"] = mailWith(town(), "m/bob/inbox/"+long(19), "0")
	return out
}

func TestNoPairsAreAMailStore(t *testing.T) {
	for what, list := range noPairs() {
		if impl.PairsOK(list) {
			t.Errorf("%s: these are pairs", what)
		}
		if impl.MailStoreOK(list) {
			t.Errorf("%s: right", what)
		}
	}
	if impl.MailStoreOK(manyPairs(4097)) || impl.MailStoreOK(manyUsers(2050)) {
		t.Error("more than MaxList: right")
	}
}

// spoiltMail changes a mail store at one place by chance.
func spoiltMail(r *rand.Rand, list []impl.Pair) []impl.Pair {
	b := boxOf(list)
	p := list[r.Intn(len(list))]
	bytes := "0123456789/ abinvxfmu_-+\x00"
	c := bytes[r.Intn(len(bytes))]
	switch r.Intn(5) {
	case 0:
		delete(b, p.Key)
	case 1:
		delete(b, p.Key)
		at := r.Intn(len(p.Key))
		b[p.Key[:at]+string(c)+p.Key[at+1:]] = p.Value
	case 2:
		at := r.Intn(len(p.Key) + 1)
		b[p.Key[:at]+string(c)+p.Key[at:]] = p.Value
	case 3:
		at := r.Intn(len(p.Value) + 1)
		b[p.Key] = p.Value[:at] + string(c) + p.Value[at:]
	case 4:
		b[p.Key] = list[r.Intn(len(list))].Value
	}
	return b.pairs()
}

// Mail stores that are changed at some places are right just if the forms of
// their keys and values are.
func TestSpoiltMailStores(t *testing.T) {
	r := rand.New(rand.NewSource(71))
	right, wrong := 0, 0
	all := rightMail()
	for _, what := range slices.Sorted(maps.Keys(all)) {
		for range 200 {
			spoilt := spoiltMail(r, all[what])
			if r.Intn(4) == 0 && len(spoilt) > 0 {
				spoilt = spoiltMail(r, spoilt)
			}
			want := mailByHand(spoilt)
			if got := impl.MailStoreOK(spoilt); got != want {
				t.Fatalf("%s, changed: %t, not %t: %q", what, got, want, spoilt)
			}
			if want {
				right++
			} else {
				wrong++
			}
		}
	}
	if right < 500 || wrong < 500 {
		t.Errorf("%d right ones and %d wrong ones are not enough", right, wrong)
	}
}
