package tests

import (
	"fmt"
	"math/rand"
	"slices"
	"strings"
	"testing"

	"loop.example/g00340/impl"
)

var markField = impl.Field{Name: "behind", Value: markText}

func cloneMessage(m impl.Message) impl.Message {
	out := impl.Message{Body: strings.Clone(m.Body)}
	for _, f := range m.Fields {
		out.Fields = append(out.Fields, impl.Field{Name: strings.Clone(f.Name), Value: strings.Clone(f.Value)})
	}
	return out
}

func TestMessageTextKeepsItsArgument(t *testing.T) {
	all := rightTexts()
	for what, m := range wrongParts() {
		all["wrong: "+what] = m
	}
	for what, m := range all {
		in := m
		fields, same := guarded(m.Fields, markField)
		in.Fields = fields
		first, code := impl.MessageText(in)
		second, again := impl.MessageText(in)
		if !same() || first != second || code != again {
			t.Fatalf("%s: an argument or the second answer is another one", what)
		}
		was := strings.Clone(first)
		spoil(in.Fields, markField)
		if first != was {
			t.Fatalf("%s: shared memory", what)
		}
	}
}

func TestParseMessageKeepsApart(t *testing.T) {
	texts := []string{"", letter, long(85), long(86), long(65537)}
	for _, m := range rightTexts() {
		text, _ := textByHand(m)
		texts = append(texts, text)
	}
	for _, text := range texts {
		first, code := impl.ParseMessage(text)
		second, again := impl.ParseMessage(text)
		if code != again || !sameMessage(first, second) || impl.MessageOK(text) != (code == impl.OK) {
			t.Fatalf("%.100q: the second answer is another one", text)
		}
		was := cloneMessage(second)
		spoil(first.Fields, markField)
		if !sameMessage(second, was) {
			t.Fatalf("%.100q: two answers share memory", text)
		}
	}
}

func TestSearchMailsKeepsApart(t *testing.T) {
	lists := [][]impl.Mail{nil, {}, someMails(), manyMails(100, letter), manyMails(101, letter), manyMails(3, long(86)), manyMails(4097, "")}
	for i, list := range lists {
		for _, name := range []string{"", "subject", "from", "none", "a b", long(65537)} {
			for _, word := range []string{"", "hello", "HELLO", "nowhere", long(65536), long(65537)} {
				what := fmt.Sprintf("list %d, name %.10q, word %.10q", i, name, word)
				in, same := guarded(list, markMail)
				first, code := impl.SearchMails(in, name, word)
				if !same() {
					t.Fatalf("%s: an argument is changed", what)
				}
				was := slices.Clone(first)
				second, again := impl.SearchMails(in, name, word)
				if code != again || !slices.Equal(first, second) {
					t.Fatalf("%s: the second answer is another one", what)
				}
				spoil(first, markNumber)
				spoil(in, markMail)
				if !slices.Equal(second, was) {
					t.Fatalf("%s: shared memory", what)
				}
			}
		}
	}
}

// What lies behind the end of a list is no part of it.
func TestNothingHangsOnWhatLiesBehindMessages(t *testing.T) {
	list := append(someMails(), impl.Mail{Uid: 99, Text: long(86)})
	mustFind(t, list[:len(list)-1], "subject", "hello", 3)
	mustFind(t, list[:1], "", "", 3)
	mustFind(t, list[:0], "", "")
	many := manyMails(101, "x")
	if uids, code := impl.SearchMails(many[:100], "", "x"); code != impl.OK || len(uids) != 100 {
		t.Errorf("%d found, code %d", len(uids), code)
	}
	fields := fieldsFrom("a", "x", "b c", "y")
	if text, code := impl.MessageText(impl.Message{Fields: fields[:1]}); code != impl.OK || text != "a: x\n\n" {
		t.Errorf("%q, code %d", text, code)
	}
}

func TestEmptyIsNilInMessages(t *testing.T) {
	for _, body := range []string{"", "body", long(85), long(86)} {
		of, code := impl.MessageText(impl.Message{Body: body})
		empty, code2 := impl.MessageText(impl.Message{Fields: []impl.Field{}, Body: body})
		if of != empty || code != code2 {
			t.Errorf("%.10q: %q and %d of nil, %q and %d of no fields", body, of, code, empty, code2)
		}
	}
}

// askMessages writes down what all calls on messages answer.
func askMessages(text, name, word string, m impl.Message, list []impl.Mail) string {
	var b strings.Builder
	read, code := impl.ParseMessage(text)
	fmt.Fprintf(&b, "%t %q %d;", impl.MessageOK(text), fmt.Sprint(read), code)
	told, code := impl.MessageText(m)
	fmt.Fprintf(&b, "%q %d;", told, code)
	value, code := impl.FieldOf(text, name)
	fmt.Fprintf(&b, "%q %d;", value, code)
	uids, code := impl.SearchMails(list, name, word)
	fmt.Fprintf(&b, "%v %d", uids, code)
	return b.String()
}

// No argument makes a call panic, and no answer hangs on the calls ahead: the
// same ones are asked again in the other direction.
func TestAnyMessagesInAnyOrder(t *testing.T) {
	r := rand.New(rand.NewSource(85))
	type asked struct {
		text, name, word string
		m                impl.Message
		list             []impl.Mail
		told             string
	}
	var all []asked
	for i := range 6000 {
		a := asked{text: anyMessageText(r), name: someText(r, 3), word: someText(r, 3), m: someMessage(r)}
		if i%3 == 0 {
			a.text, a.name = someText(r, 90), "a"
			a.m.Fields = append(a.m.Fields, impl.Field{Name: someText(r, 13), Value: someText(r, 90)})
		}
		for range r.Intn(6) {
			a.list = append(a.list, impl.Mail{Uid: r.Int(), Flags: r.Int(), Text: anyMessageText(r)})
		}
		a.told = askMessages(a.text, a.name, a.word, a.m, a.list)
		all = append(all, a)
	}
	for _, a := range slices.Backward(all) {
		if askMessages(a.text, a.name, a.word, a.m, a.list) != a.told {
			t.Fatalf("the answer hangs on what was called ahead: %+v", a)
		}
		m, code := messageByHand(a.text)
		told, toldCode := textByHand(a.m)
		value, valueCode := fieldByHand(a.text, a.name)
		uids, uidsCode := searchByHand(a.list, a.name, a.word)
		want := fmt.Sprintf("%t %q %d;%q %d;%q %d;%v %d", code == impl.OK, fmt.Sprint(m), code, told, toldCode, value, valueCode, uids, uidsCode)
		if a.told != want {
			t.Fatalf("another answer than is due: %s, not %s", a.told, want)
		}
	}
}
