package tests

import (
	"fmt"
	"math/rand"
	"regexp"
	"slices"
	"strings"
	"testing"

	"loop.example/g00340/impl"
)

// messageForm is the form of a message's text, whatever its length.
var messageForm = regexp.MustCompile(`\A((?:[A-Za-z_-]{1,12}: (?:[!-~](?:[ -~]*[!-~])?)?\n){0,8})\n((?s:.*))\z`)

// smallByHand changes the 26 great letters and no other byte.
var smallByHand = strings.NewReplacer("A", "a", "B", "b", "C", "c", "D", "d", "E", "e", "F", "f", "G", "g", "H", "h", "I", "i", "J", "j", "K", "k", "L", "l", "M", "m",
	"N", "n", "O", "o", "P", "p", "Q", "q", "R", "r", "S", "s", "T", "t", "U", "u", "V", "v", "W", "w", "X", "x", "Y", "y", "Z", "z")

// fieldsFrom gives fields of names and values by turns.
func fieldsFrom(texts ...string) []impl.Field {
	var fields []impl.Field
	for i := 0; i+1 < len(texts); i += 2 {
		fields = append(fields, impl.Field{Name: texts[i], Value: texts[i+1]})
	}
	return fields
}

func message(body string, texts ...string) impl.Message {
	return impl.Message{Fields: fieldsFrom(texts...), Body: body}
}

func sameMessage(a, b impl.Message) bool {
	return a.Body == b.Body && slices.Equal(a.Fields, b.Fields)
}

// messageByHand reads a text by its form.
func messageByHand(text string) (impl.Message, int) {
	if len(text) > 65536 {
		return impl.Message{}, impl.ErrLong
	}
	parts := messageForm.FindStringSubmatch(text)
	if len(text) > 85 || parts == nil {
		return impl.Message{}, impl.ErrForm
	}
	m := impl.Message{Body: parts[2]}
	for _, line := range strings.SplitAfter(parts[1], "\n") {
		if at := strings.IndexByte(line, ':'); at >= 0 {
			m.Fields = append(m.Fields, impl.Field{Name: line[:at], Value: line[at+2 : len(line)-1]})
		}
	}
	return m, impl.OK
}

// textByHand writes a message; its parts are read by the form, each in a text
// of its own.
func textByHand(m impl.Message) (string, int) {
	var b strings.Builder
	right := len(m.Fields) <= 8 && len(m.Body) <= 85
	for _, f := range m.Fields {
		line := f.Name + ": " + f.Value + "\n"
		parts := messageForm.FindStringSubmatch(line + "\n")
		right = right && parts != nil && parts[1] == line && strings.Count(line, "\n") == 1 && strings.Index(line, ":") == len(f.Name) && len(f.Value) <= 85
		b.WriteString(line)
	}
	b.WriteString("\n" + m.Body)
	if !right {
		return "", impl.ErrBad
	}
	if b.Len() > 85 {
		return "", impl.ErrFull
	}
	return b.String(), impl.OK
}

func fieldByHand(text, name string) (string, int) {
	if len(text) > 65536 || len(name) > 65536 {
		return "", impl.ErrLong
	}
	m, code := messageByHand(text)
	if code != impl.OK {
		return "", code
	}
	at := slices.IndexFunc(m.Fields, func(f impl.Field) bool { return smallByHand.Replace(f.Name) == smallByHand.Replace(name) })
	if at < 0 {
		return "", impl.ErrNone
	}
	return m.Fields[at].Value, impl.OK
}

func searchByHand(list []impl.Mail, name, word string) ([]int, int) {
	if len(list) > 4096 || len(name) > 65536 || len(word) > 65536 {
		return nil, impl.ErrLong
	}
	if len(list) > 100 {
		return nil, impl.ErrMany
	}
	if slices.ContainsFunc(list, func(m impl.Mail) bool { return len(m.Text) > 85 }) {
		return nil, impl.ErrBad
	}
	var uids []int
	for _, m := range list {
		text, code := m.Text, impl.OK
		if name != "" {
			text, code = fieldByHand(m.Text, name)
		}
		if code == impl.OK && strings.Contains(smallByHand.Replace(text), smallByHand.Replace(word)) {
			uids = append(uids, m.Uid)
		}
	}
	return uids, impl.OK
}

// mustBeMessage holds a text and a message against each other, both ways.
func mustBeMessage(t *testing.T, what, text string, want impl.Message) {
	t.Helper()
	if !impl.MessageOK(text) {
		t.Errorf("%s: %.100q is no message", what, text)
	}
	if m, code := impl.ParseMessage(text); code != impl.OK || !sameMessage(m, want) {
		t.Errorf("%s: %.100q is read as %.200q, code %d", what, text, fmt.Sprint(m), code)
	}
	if told, code := impl.MessageText(want); code != impl.OK || told != text {
		t.Errorf("%s: %.100q is told as %.100q, code %d", what, text, told, code)
	}
}

// mustBeNoMessage asks all calls to refuse a text, with nothing.
func mustBeNoMessage(t *testing.T, what, text string, want int) {
	t.Helper()
	if impl.MessageOK(text) {
		t.Errorf("%s: %.100q is a message", what, text)
	}
	if m, code := impl.ParseMessage(text); code != want || !sameMessage(m, impl.Message{}) {
		t.Errorf("%s: %.100q is read as %.200q, code %d, not %d", what, text, fmt.Sprint(m), code, want)
	}
	for _, name := range []string{"", "a", "Subject", "no such"} {
		if value, code := impl.FieldOf(text, name); code != want || value != "" {
			t.Errorf("%s: the field %q of %.100q is %q, code %d, not %d", what, name, text, value, code, want)
		}
	}
	if _, code := messageByHand(text); code != want {
		t.Errorf("%s: %.100q has the code %d by hand, not %d", what, text, code, want)
	}
}

func mustNotTell(t *testing.T, what string, m impl.Message, want int) {
	t.Helper()
	if text, code := impl.MessageText(m); code != want || text != "" {
		t.Errorf("%s: %.100q, code %d, not %d", what, text, code, want)
	}
	if _, code := textByHand(m); code != want {
		t.Errorf("%s: the code %d by hand, not %d", what, code, want)
	}
}

func mustField(t *testing.T, text, name, want string, wantCode int) {
	t.Helper()
	if value, code := impl.FieldOf(text, name); value != want || code != wantCode {
		t.Errorf("the field %.20q of %.100q is %q, code %d, not %q, %d", name, text, value, code, want, wantCode)
	}
}

func mustFind(t *testing.T, list []impl.Mail, name, word string, want ...int) {
	t.Helper()
	if uids, code := impl.SearchMails(list, name, word); code != impl.OK || !slices.Equal(uids, want) {
		t.Errorf("%.20q in the field %.20q: %v, code %d, not %v", word, name, uids, code, want)
	}
}

func mustNotSearch(t *testing.T, what string, list []impl.Mail, name, word string, want int) {
	t.Helper()
	if uids, code := impl.SearchMails(list, name, word); code != want || len(uids) != 0 {
		t.Errorf("%s: %v, code %d, not %d", what, uids, code, want)
	}
}

// someMessage gives a message whose parts are mostly right.
func someMessage(r *rand.Rand) impl.Message {
	names := []string{"a", "A", "b", "To", "TO", "from", "Subject", "X-y", "_", "-", "twelve-bytes", "", "x y", "thirteen-byte", "a1", "a:"}
	values := []string{"", "x", "Hello there", "a: b", ":", "~", "!", "HELLO", " x", "x ", "x\n", "\x1f", "\x7f"}
	var m impl.Message
	for range r.Intn(5) {
		m.Fields = append(m.Fields, impl.Field{Name: names[r.Intn(12-r.Intn(2)+r.Intn(2)*r.Intn(5))], Value: values[r.Intn(8+r.Intn(2)*r.Intn(6))]})
	}
	if r.Intn(8) == 0 {
		for range 4 + r.Intn(3) {
			m.Fields = append(m.Fields, impl.Field{Name: "z"})
		}
	}
	m.Body = someText(r, []int{0, 5, 30, 86}[r.Intn(4)])
	return m
}

// anyMessageText gives a text that is often nearly a message's.
func anyMessageText(r *rand.Rand) string {
	var b strings.Builder
	m := someMessage(r)
	for _, f := range m.Fields {
		b.WriteString(f.Name + ": " + f.Value + "\n")
	}
	text := []byte(b.String() + "\n" + m.Body)
	bytes := "\n\n :: -_aZ~\x1f\x7f\x80"
	for range r.Intn(3) {
		at, c := r.Intn(len(text)+1), bytes[r.Intn(len(bytes))]
		switch {
		case r.Intn(3) == 0:
			text = slices.Insert(text, at, c)
		case at == len(text):
		case r.Intn(2) == 0:
			text = slices.Delete(text, at, at+1)
		default:
			text[at] = c
		}
	}
	return string(text)
}
