package tests

import (
	"fmt"
	"math"
	"math/rand"
	"slices"
	"strings"
	"testing"

	"loop.example/g00340/impl"
)

const letter = "Subject: Hello there\nFrom: ann\nsubject: second\nX: \n\nBody: of\n\nit"

// A message is read back from its text, and its text from the message.
func TestMessagesAreReadBack(t *testing.T) {
	for text, m := range map[string]impl.Message{
		letter:                     message("Body: of\n\nit", "Subject", "Hello there", "From", "ann", "subject", "second", "X", ""),
		"\n":                       message(""),
		"\n\n":                     message("\n"),
		"\na: b\n":                 message("a: b\n"),
		"\nbody":                   message("body"),
		"\n ":                      message(" "),
		"a: \n\n":                  message("", "a", ""),
		"a: b\n\n":                 message("", "a", "b"),
		"a: b\n\n\n":               message("\n", "a", "b"),
		"a: b\na: c\nA: b\n\nbody": message("body", "a", "b", "a", "c", "A", "b"),
		"X-Y: a: b\n\n":            message("", "X-Y", "a: b"),
		"a: :\n\n":                 message("", "a", ":"),
		"a: a  b\n\n":              message("", "a", "a  b"),
		"-: -\n_: _\n--: __\n\n":   message("", "-", "-", "_", "_", "--", "__"),
		"a: b\n\n\r\n\x00\xff\x80": message("\r\n\x00\xff\x80", "a", "b"),
	} {
		mustBeMessage(t, "a message", text, m)
	}
	for _, text := range []string{"a: : \n\n", "a: b\r\n\n", "a: b\n\r\n\n"} {
		mustBeNoMessage(t, "a blank or a byte 13 at the end", text, impl.ErrForm)
	}
}

// The first field of a name counts, great or small letters alike.
func TestFieldsAreFound(t *testing.T) {
	for _, name := range []string{"Subject", "subject", "SUBJECT", "sUBJECt"} {
		mustField(t, letter, name, "Hello there", impl.OK)
		mustField(t, "subject: second\nSubject: Hello there\n\n", name, "second", impl.OK)
	}
	mustField(t, letter, "from", "ann", impl.OK)
	mustField(t, letter, "x", "", impl.OK)
	for _, name := range []string{"", "Body", "Subjec", "Subjects", "Sub", "ubject", "Subject ", " Subject", "Subject:", "Subject: ", "Subject: Hello there", "Subject\n", "ann", "F", "to", "\x00", "Sub\x00ect", long(65536)} {
		mustField(t, letter, name, "", impl.ErrNone)
		mustField(t, "\n"+name[:min(len(name), 80)]+": x\n", name, "", impl.ErrNone)
	}
	// Of all bytes just the letters have others that are like them.
	for a := range 128 {
		for b := range 256 {
			text, name := "x"+string(rune(a))+": v\n\n", "x"+string([]byte{byte(b)})
			want, code := fieldByHand(text, name)
			mustField(t, text, name, want, code)
		}
	}
	// Letters of other alphabets that look the same, or become small ones, are others.
	for _, name := range []string{"\u212a", "k\u0307", "K\x80", "\xcb", "\xeb", "ſ", "S\u0301"} {
		mustField(t, "k: v\nS: w\n\n", name, "", impl.ErrNone)
	}
}

func TestEachLetterHasItsLike(t *testing.T) {
	for i := range 26 {
		great, less := string(rune('A'+i)), string(rune('a'+i))
		mustField(t, great+": v\n\n", less, "v", impl.OK)
		mustField(t, less+": v\n\n", great, "v", impl.OK)
		mustFind(t, []impl.Mail{{Uid: 1, Text: great}, {Uid: 2, Text: less}}, "", less, 1, 2)
		mustFind(t, []impl.Mail{{Uid: 1, Text: great}, {Uid: 2, Text: less}}, "", great, 1, 2)
	}
	for _, pair := range []string{"@`", "[{", "\\|", "]}", "^~", "_\x7f", "0P", "-\r", " @", "\x01A", "!a", "\xc1A", "\xe1a", "\xc0\xe0", "\xde\xfe"} {
		mustFind(t, []impl.Mail{{Uid: 1, Text: pair[:1]}}, "", pair[1:])
		mustFind(t, []impl.Mail{{Uid: 1, Text: pair[1:]}}, "", pair[:1])
		mustFind(t, []impl.Mail{{Uid: 1, Text: pair}}, "", pair, 1)
	}
	for _, two := range [][2]string{{"é", "É"}, {"\u212a", "k"}, {"ſ", "s"}, {"ß", "SS"}, {"İ", "i"}, {"ﬁ", "fi"}} {
		mustFind(t, []impl.Mail{{Uid: 1, Text: two[0]}, {Uid: 2, Text: two[1]}}, "", two[0], 1)
		mustFind(t, []impl.Mail{{Uid: 1, Text: two[0]}, {Uid: 2, Text: two[1]}}, "", two[1], 2)
	}
}

// someMails are mails with fields, without, and such that are no messages.
func someMails() []impl.Mail {
	return []impl.Mail{
		{Uid: 3, Text: letter},
		{Uid: 5, Text: "no head, HELLO there"},
		{Uid: 4, Text: "\nhello there"},
		{Uid: 9, Text: "Subject: other\nFrom: hello\n\nhello"},
		{Uid: 10, Text: "From: ann\nTo: ann\n\nsubject: hello\n"},
		{Uid: 11, Text: "SUBJECT: \n\nhello"},
		{Uid: 12, Text: "Subject: hello\nSubject: there"},
		{Uid: 13},
		{Uid: 14, Text: "Subject: x\nSubject: hello\n\n"},
		{Uid: 15, Text: "Subject: hell\no: x\n\n"},
	}
}

func TestSearches(t *testing.T) {
	list := someMails()
	mustFind(t, list, "", "hello", 3, 5, 4, 9, 10, 11, 12, 14)
	mustFind(t, list, "", "HELLO THERE", 3, 5, 4)
	mustFind(t, list, "", "", 3, 5, 4, 9, 10, 11, 12, 13, 14, 15)
	mustFind(t, list, "", "\n\n", 3, 9, 10, 11, 14, 15)
	mustFind(t, list, "", "hell\no", 15)
	mustFind(t, list, "", "SUBJECT: ", 3, 9, 10, 11, 12, 14, 15)
	mustFind(t, list, "", "nowhere")
	mustFind(t, list, "", letter, 3)
	mustFind(t, list, "", letter+"x")
	mustFind(t, list, "", long(65536))
	mustFind(t, list, "subject", "hello", 3)
	mustFind(t, list, "Subject", "HELLO", 3)
	mustFind(t, list, "SUBJECT", "lo the", 3)
	mustFind(t, list, "subject", "second")
	mustFind(t, list, "subject", "subject")
	mustFind(t, list, "subject", ":")
	mustFind(t, list, "subject", "", 3, 9, 11, 14, 15)
	mustFind(t, list, "subject", "hell", 3, 15)
	mustFind(t, list, "subject", "hell\no")
	mustFind(t, list, "subject", "hello there\n")
	mustFind(t, list, "subject", " ", 3)
	mustFind(t, list, "from", "ann", 3, 10)
	mustFind(t, list, "From", "hello", 9)
	mustFind(t, list, "x", "", 3)
	mustFind(t, list, "x", "x")
	mustFind(t, list, "o", "x", 15)
	mustFind(t, list, "body", "")
	mustFind(t, list, "no head, hello there", "")
	for _, name := range []string{" ", "\n", ":", "subject ", "subject:", "subjec", "subjects", "bject", long(13), long(65536)} {
		mustFind(t, list, name, "")
		mustFind(t, list, name, "hello")
	}
	mustFind(t, nil, "", "")
	mustFind(t, []impl.Mail{}, "subject", "")
}

// The uids are told in the order of the list, whatever they are; flags are not
// asked.
func TestSearchTellsUidsAsTheyCome(t *testing.T) {
	var list []impl.Mail
	uids := []int{7, 1, 7, -3, 0, math.MaxInt, math.MinInt, 999, 1000, 7}
	for i, uid := range uids {
		list = append(list, impl.Mail{Uid: uid, Flags: []int{0, 1, 2, 3, 4, -1, math.MaxInt}[i%7], Text: "a: x\n\n"})
	}
	mustFind(t, list, "", "X", uids...)
	mustFind(t, list, "A", "X", uids...)
}

// Texts are messages just if they have the form, and are told as they were.
func TestAnyTextsAsMessages(t *testing.T) {
	r := rand.New(rand.NewSource(81))
	right, wrong := 0, 0
	for range 40000 {
		text := anyMessageText(r)
		m, code := messageByHand(text)
		if code != impl.OK {
			mustBeNoMessage(t, "by chance", text, code)
			wrong++
			continue
		}
		mustBeMessage(t, "by chance", text, m)
		right++
		for _, name := range []string{"a", "A", "to", "FROM", "x-Y", "_", "none", "z"} {
			value, code := fieldByHand(text, name)
			mustField(t, text, name, value, code)
		}
	}
	if right < 10000 || wrong < 10000 {
		t.Errorf("%d right ones and %d wrong ones are not enough", right, wrong)
	}
}

// Messages are told just if their parts are right and fit, and are read back.
func TestAnyMessages(t *testing.T) {
	r := rand.New(rand.NewSource(82))
	codes := map[int]int{}
	for range 40000 {
		m := someMessage(r)
		text, code := textByHand(m)
		codes[code]++
		if code == impl.OK {
			mustBeMessage(t, "by chance", text, m)
		} else {
			mustNotTell(t, fmt.Sprintf("%.200q", fmt.Sprint(m)), m, code)
		}
	}
	if len(codes) != 3 || codes[impl.OK] < 3000 || codes[impl.ErrBad] < 3000 || codes[impl.ErrFull] < 1000 {
		t.Errorf("not enough of each code: %v", codes)
	}
}

// Searches through any mails, held against ones that are done by hand.
func TestAnySearches(t *testing.T) {
	r := rand.New(rand.NewSource(83))
	names := []string{"", "a", "To", "FROM", "subject", "x-y", "_", "x y", "none"}
	words := []string{"", "x", "X", "hello", "O T", ":", "a", "\n", "\n\n", "there\n", "\x80"}
	codes, found, inFields := map[int]int{}, 0, 0
	for i := range 20000 {
		var list []impl.Mail
		for range r.Intn(12) {
			text := anyMessageText(r)
			if i%10 > 0 {
				text = text[:min(len(text), 85)]
			}
			list = append(list, impl.Mail{Uid: r.Intn(1000), Flags: r.Intn(4), Text: text})
		}
		if i%50 == 0 {
			list = slices.Repeat(list, 1+r.Intn(30))
		}
		name, word := names[r.Intn(len(names))], words[r.Intn(len(words))]
		want, wantCode := searchByHand(list, name, word)
		uids, code := impl.SearchMails(list, name, word)
		if code != wantCode || !slices.Equal(uids, want) {
			t.Fatalf("%q in the field %q of %q: %v, code %d, not %v, %d", word, name, fmt.Sprint(list), uids, code, want, wantCode)
		}
		codes[code]++
		if name == "" {
			found += len(uids)
		} else {
			inFields += len(uids)
		}
	}
	if codes[impl.OK] < 3000 || codes[impl.ErrBad] < 50 || codes[impl.ErrMany] < 5 || found < 500 || inFields < 500 {
		t.Errorf("codes %v, %d found in texts and %d in fields", codes, found, inFields)
	}
}

// A mail that is a message is found in a mail store as it was appended.
func TestMessagesInAMailStore(t *testing.T) {
	text, code := impl.MessageText(message("body", "Subject", "Hello"))
	mustCode(t, "MessageText", code, impl.OK)
	list, uid, code := impl.AppendMail(town(), "ann", "work", text, 0)
	mustCode(t, "AppendMail", code, impl.OK)
	f, _ := impl.FolderAt(list, "ann", "work")
	mustFind(t, f.Mails, "subject", "hell", uid)
	mustFind(t, f.Mails, "", "o", 1, uid)
	if whole := strings.Repeat("x", 85); impl.MessageOK(whole) || !impl.MessageOK("\n"+whole[1:]) {
		t.Error("a mail of MaxMail bytes")
	}
}
