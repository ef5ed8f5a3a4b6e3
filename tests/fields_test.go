package tests

import (
	"bytes"
	"math/rand"
	"slices"
	"strings"
	"testing"

	"loop.example/g00340/impl"
)

func TestFieldsBytes(t *testing.T) {
	cases := []struct {
		list []string
		want string
	}{
		{nil, "\x00"},
		{[]string{}, "\x00"},
		{[]string{""}, "\x01\x00\x00"},
		{[]string{"", ""}, "\x02\x00\x00\x00\x00"},
		{[]string{"a"}, "\x01\x00\x01a"},
		{[]string{"ab", "", "\x00\xff"}, "\x03\x00\x02ab\x00\x00\x00\x02\x00\xff"},
		{[]string{long(255)}, "\x01\x00\xff" + long(255)},
		{[]string{long(256)}, "\x01\x01\x00" + long(256)},
		{[]string{long(257), "y"}, "\x02\x01\x01" + long(257) + "\x00\x01y"},
		{[]string{long(299)}, "\x01\x01\x2b" + long(299)},
		{[]string{long(300)}, "\x01\x01\x2c" + long(300)},
		{make([]string, 199), "\xc7" + strings.Repeat("\x00", 398)},
		{make([]string, 200), "\xc8" + strings.Repeat("\x00", 400)},
	}
	for _, c := range cases {
		got, code := impl.FieldsBytes(c.list)
		mustCode(t, "FieldsBytes", code, impl.OK)
		if string(got) != c.want {
			t.Errorf("FieldsBytes of %d fields: %q, not %q", len(c.list), got, c.want)
		}
		readsBack(t, c.list)
	}
}

func readsBack(t *testing.T, list []string) {
	t.Helper()
	b, code := impl.FieldsBytes(list)
	mustCode(t, "FieldsBytes", code, impl.OK)
	got, code := impl.ReadFields(b)
	mustCode(t, "ReadFields", code, impl.OK)
	if !slices.Equal(got, list) {
		t.Errorf("%d fields are read back as %q", len(list), got)
	}
}

func TestFieldsReadBack(t *testing.T) {
	r := rand.New(rand.NewSource(3))
	for size := range 301 {
		readsBack(t, []string{long(size), "behind"})
	}
	for count := range 201 {
		list := make([]string, count)
		for i := range list {
			list[i] = someText(r, 300)
		}
		readsBack(t, list)
	}
	full := make([]string, 200)
	for i := range full {
		full[i] = long(300)
	}
	readsBack(t, full)
}

func TestFieldsBytesFaults(t *testing.T) {
	at := func(n, place, size int) []string {
		list := make([]string, n)
		list[place] = long(size)
		return list
	}
	cases := []struct {
		what string
		list []string
		want int
	}{
		{"a field of 301 bytes", at(1, 0, 301), impl.ErrRange},
		{"a last field of 301 bytes", at(200, 199, 301), impl.ErrRange},
		{"a field of MaxText bytes", at(2, 1, 65536), impl.ErrRange},
		{"a field of more than MaxText bytes", at(2, 1, 65537), impl.ErrRange},
		{"201 fields", make([]string, 201), impl.ErrMany},
		{"255 fields", make([]string, 255), impl.ErrMany},
		{"256 fields", make([]string, 256), impl.ErrMany},
		{"457 fields", make([]string, 457), impl.ErrMany},
		{"201 fields, the first one too long", at(201, 0, 301), impl.ErrMany},
		{"MaxList fields", make([]string, 4096), impl.ErrMany},
		{"MaxList fields, one too long", at(4096, 4095, 65537), impl.ErrMany},
		{"more than MaxList fields", make([]string, 4097), impl.ErrLong},
		{"more than MaxList fields, one too long", at(4097, 0, 301), impl.ErrLong},
	}
	for _, c := range cases {
		got, code := impl.FieldsBytes(c.list)
		mustCode(t, c.what, code, c.want)
		if len(got) != 0 {
			t.Errorf("%s: %d bytes beside the code", c.what, len(got))
		}
	}
}

func mustNotRead(t *testing.T, what string, b []byte, want int) {
	t.Helper()
	got, code := impl.ReadFields(b)
	mustCode(t, what, code, want)
	if len(got) != 0 {
		t.Errorf("%s: %d fields beside the code", what, len(got))
	}
}

func TestReadFieldsFaults(t *testing.T) {
	cases := []struct{ what, text string }{
		{"nothing", ""},
		{"a count alone", "\x01"},
		{"half a length", "\x01\x00"},
		{"a field that is short by one byte", "\x01\x00\x02a"},
		{"a byte behind none", "\x00\x00"},
		{"a byte behind one", "\x01\x00\x01ab"},
		{"fewer than told", "\x02\x00\x01a"},
		{"more than told", "\x01\x00\x01a\x00\x01b"},
		{"a length with the lower byte first", "\x01\x01\x00a"},
		{"201 fields", "\xc9" + strings.Repeat("\x00", 402)},
		{"255 fields", "\xff" + strings.Repeat("\x00", 510)},
		{"201 told, 200 there", "\xc9" + strings.Repeat("\x00", 400)},
		{"200 told, 199 there", "\xc8" + strings.Repeat("\x00", 398)},
		{"200 told, 201 there", "\xc8" + strings.Repeat("\x00", 402)},
		{"a field of 301 bytes", "\x01\x01\x2d" + long(301)},
		{"a field of 65533 bytes", "\x01\xff\xfd" + long(65533)},
		{"a second field of 301 bytes", "\x02\x00\x00\x01\x2d" + long(301)},
		{"MaxText bytes", long(65536)},
		{"MaxText noughts", strings.Repeat("\x00", 65536)},
	}
	for _, c := range cases {
		mustNotRead(t, c.what, []byte(c.text), impl.ErrForm)
	}
	mustNotRead(t, "nil", nil, impl.ErrForm)
	mustNotRead(t, "more than MaxText bytes", []byte(long(65537)), impl.ErrLong)
	mustNotRead(t, "more than MaxText noughts", make([]byte, 65537), impl.ErrLong)
}

func TestReadFieldsCutOrLengthened(t *testing.T) {
	lists := [][]string{nil, {""}, {"a"}, {"", "bc", ""}, {long(255), long(256)}, {long(300), "z"}}
	for _, list := range lists {
		b, _ := impl.FieldsBytes(list)
		for n := range b {
			mustNotRead(t, "cut", b[:n], impl.ErrForm)
		}
		for _, more := range []string{"\x00", "x", "\x00\x00", "\x00\x01a"} {
			mustNotRead(t, "lengthened", append(slices.Clone(b), more...), impl.ErrForm)
		}
	}
}

// Whatever bytes are read, they are the very bytes of what is read.
func TestReadFieldsIsExact(t *testing.T) {
	r := rand.New(rand.NewSource(4))
	read := 0
	for range 20000 {
		b := make([]byte, 1+r.Intn(12))
		for i := range b {
			b[i] = byte(r.Intn(4))
		}
		list, code := impl.ReadFields(b)
		if code == impl.OK {
			read++
			back, code := impl.FieldsBytes(list)
			mustCode(t, "FieldsBytes", code, impl.OK)
			if !bytes.Equal(back, b) {
				t.Fatalf("%q is read as %q, whose bytes are %q", b, list, back)
			}
		} else if code != impl.ErrForm || len(list) != 0 {
			t.Fatalf("ReadFields(%q): %q, %d", b, list, code)
		}
	}
	if read < 100 {
		t.Errorf("only %d of the texts were fields", read)
	}
}
