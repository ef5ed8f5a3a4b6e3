package tests

import (
	"fmt"
	"slices"
	"strings"
	"testing"

	"loop.example/g00340/impl"
)

// rightTexts are messages at the bounds of what is right.
func rightTexts() map[string]impl.Message {
	out := map[string]impl.Message{
		"nothing":                              message(""),
		"a name of 1 byte":                     message("", "a", "x"),
		"a name of 12 bytes":                   message("", "twelve-bytes", "x"),
		"a value of no bytes":                  message("", "a", ""),
		"a value of one byte":                  message("", "a", "x"),
		"a value with blanks inside":           message("", "a", "x   x"),
		"a value of the byte 33":               message("", "a", "!"),
		"a value of the byte 126":              message("", "a", "~"),
		"a value that looks like a field":      message("", "a", "b: c"),
		"8 fields":                             message("", slices.Repeat([]string{"a", "x"}, 8)...),
		"8 fields of no bytes":                 message("", slices.Repeat([]string{"a", ""}, 8)...),
		"8 fields and a body":                  message("a: x\n\n", slices.Repeat([]string{"a", "x"}, 8)...),
		"a body of one byte":                   message("x"),
		"a body of a byte 10":                  message("\n"),
		"a body of a head":                     message("a: x\n\n"),
		"a body of 9 fields":                   message(strings.Repeat("a: x\n", 9)),
		"a body of 84 bytes, all 85":           message(long(84)),
		"a body of 83 bytes, all 84":           message(long(83)),
		"a value of 80 bytes, all 85":          message("", "a", long(80)),
		"a value of 79 bytes, a body, all 85":  message("x", "a", long(79)),
		"a value of 69 bytes, a long name, 85": message("", "twelve-bytes", long(69)),
		"8 fields, all 85":                     message(long(44), slices.Repeat([]string{"a", "x"}, 8)...),
	}
	for c := range 256 {
		body := string([]byte{byte(c)})
		out[fmt.Sprintf("a body of the byte %d", c)] = message(body)
		out[fmt.Sprintf("a body behind a field, of the byte %d", c)] = message(body+"x"+body, "a", "b")
		if c >= 32 && c <= 126 {
			out[fmt.Sprintf("the byte %d in a value", c)] = message("", "a", "x"+body+"x")
		}
		if c > 32 && c <= 126 {
			out[fmt.Sprintf("the byte %d at the ends of a value", c)] = message("", "a", body+"x"+body)
			out[fmt.Sprintf("a value of the byte %d", c)] = message("", "a", body)
		}
		if c == '-' || c == '_' || c >= 'a' && c <= 'z' || c >= 'A' && c <= 'Z' {
			out[fmt.Sprintf("a name of the byte %d", c)] = message("", body, "x")
			out[fmt.Sprintf("the byte %d in a name", c)] = message("", "x"+body+"x", "x")
		}
	}
	return out
}

func TestRightMessages(t *testing.T) {
	for what, m := range rightTexts() {
		text, code := textByHand(m)
		mustCode(t, what, code, impl.OK)
		mustBeMessage(t, what, text, m)
		for _, f := range m.Fields {
			first := m.Fields[slices.IndexFunc(m.Fields, func(g impl.Field) bool { return strings.EqualFold(f.Name, g.Name) })]
			mustField(t, text, f.Name, first.Value, impl.OK)
			mustField(t, text, strings.ToUpper(f.Name), first.Value, impl.OK)
		}
	}
}

// wrongTexts are no messages, each by as little as can be.
func wrongTexts() map[string]string {
	out := map[string]string{
		"nothing":                             "",
		"no line's end":                       "a",
		"a blank":                             " ",
		"a body alone":                        "body",
		"a body alone, of a line":             "body\n",
		"a body alone, of two lines":          "body\nmore\n",
		"a field alone":                       "a: x",
		"a field's line alone":                "a: x\n",
		"two fields' lines alone":             "a: x\nb: x\n",
		"a field behind which a body comes":   "a: x\nbody",
		"a field behind which a line comes":   "a: x\nbody\n\n",
		"a line of a blank for the empty one": "a: x\n \n\n",
		"a byte 13 for the line's end":        "a: x\r\r",
		"a byte 13 at the line's end":         "a: x\r\n\r\n",
		"an empty line of a byte 13":          "\r\n",
		"a byte 0 for the line's end":         "\x00",
		"a name of no bytes":                  ": x\n\n",
		"a name of no bytes, nothing behind":  ": \n\n",
		"a name of no bytes later on":         "a: x\n: x\n\n",
		"a name of 13 bytes":                  "thirteen-byte: x\n\n",
		"a name of 13 bytes later on":         "a: x\nthirteen-byte: x\n\n",
		"without a colon":                     "a x\n\n",
		"without a colon, with one later on":  "a x: y\n\n",
		"without a blank":                     "a:x\n\n",
		"without a blank, with one later on":  "a:x: y\n\n",
		"without a value or a blank":          "a:\n\n",
		"without a value or a colon":          "a \n\n",
		"a name alone":                        "a\n\n",
		"a colon alone":                       ":\n\n",
		"a blank ahead of the colon":          "a : x\n\n",
		"a blank ahead of the name":           " a: x\n\n",
		"a byte 9 for the blank":              "a:\tx\n\n",
		"two colons":                          "a:: x\n\n",
		"two blanks":                          "a:  x\n\n",
		"a value of a blank":                  "a:  \n\n",
		"a value of two blanks":               "a:   \n\n",
		"a blank at the value's end":          "a: x \n\n",
		"a blank at both ends":                "a:  x \n\n",
		"a blank at a later value's end":      "a: x\nb: x \n\n",
		"a line that goes on with a blank":    "a: x\n y\n\n",
		"9 fields":                            strings.Repeat("a: x\n", 9) + "\n",
		"9 fields of no bytes":                strings.Repeat("a: \n", 9) + "\n",
		"9 fields and a body":                 strings.Repeat("a: x\n", 9) + "\nbody",
		"10 fields":                           strings.Repeat("a: \n", 10) + "\n",
		"a text of 86 bytes":                  "\n" + long(85),
		"a head of 86 bytes":                  "a: " + long(81) + "\n\n",
		"8 fields, all 86":                    strings.Repeat("a: x\n", 8) + "\n" + long(45),
		"a text of 87 bytes":                  "\n" + long(86),
		"a text of MaxText bytes":             "\n" + long(65535),
		"MaxText bytes without an end":        long(65536),
	}
	for c := range 256 {
		b := string([]byte{byte(c)})
		if c < 32 || c > 126 {
			out[fmt.Sprintf("the byte %d in a value", c)] = "a: x" + b + "x\n\n"
			out[fmt.Sprintf("a value of the byte %d", c)] = "a: " + b + "\n\n"
			out[fmt.Sprintf("a value's end of the byte %d", c)] = "a: x" + b + "\n\n"
		}
		if c != '-' && c != '_' && (c < 'a' || c > 'z') && (c < 'A' || c > 'Z') {
			out[fmt.Sprintf("the byte %d in a name", c)] = "x" + b + "x: x\n\n"
			out[fmt.Sprintf("a name of the byte %d", c)] = b + ": x\n\n"
			out[fmt.Sprintf("a name's end of the byte %d", c)] = "x" + b + ": x\n\n"
		}
	}
	// A byte 10 cuts a value: what stands ahead of it may be all the head.
	for _, what := range []string{"a value of the byte 10", "a value's end of the byte 10", "a name of the byte 10"} {
		delete(out, what)
	}
	return out
}

func TestWrongMessages(t *testing.T) {
	for what, text := range wrongTexts() {
		mustBeNoMessage(t, what, text, impl.ErrForm)
		list := []impl.Mail{{Uid: 1, Text: text}}
		if len(text) > 85 {
			mustNotSearch(t, what, list, "a", "", impl.ErrBad)
			mustNotSearch(t, what, list, "", "", impl.ErrBad)
			continue
		}
		// No field of what is no message is found, but its text is.
		mustFind(t, list, "a", "")
		mustFind(t, list, "", "", 1)
		mustFind(t, list, "", text, 1)
	}
	for _, text := range []string{long(65537), "\n" + long(65536), letter + long(65537)} {
		mustBeNoMessage(t, "more than MaxText", text, impl.ErrLong)
	}
	// A byte 10 in a value or a name is the line's end.
	mustBeMessage(t, "a value of the byte 10", "a: \n\n\n", message("\n", "a", ""))
	mustBeMessage(t, "a value's end of the byte 10", "a: x\n\n\n", message("\n", "a", "x"))
	mustBeMessage(t, "a name of the byte 10", "\n: x\n\n", message(": x\n\n"))
}

// wrongParts are messages of which a part is not right.
func wrongParts() map[string]impl.Message {
	out := map[string]impl.Message{
		"a name of no bytes":               message("", "", "x"),
		"a field of no bytes":              message("", "", ""),
		"a name of 13 bytes":               message("", "thirteen-byte", "x"),
		"a name of 40 bytes":               message("", long(40), "x"),
		"a name of more than MaxText":      message("", long(65537), "x"),
		"a later name of 13 bytes":         message("", "a", "x", "b", "x", "thirteen-byte", "x"),
		"a name with a colon":              message("", "a:", "x"),
		"a name with a colon and a blank":  message("", "a: b", "x"),
		"a name with a byte 10":            message("", "a\n", "x"),
		"a name that looks like a field":   message("", "a: x\nb", "x"),
		"a value that begins with a blank": message("", "a", " x"),
		"a value that ends with a blank":   message("", "a", "x "),
		"a value of a blank":               message("", "a", " "),
		"a later value of a blank":         message("", "a", "x", "b", " "),
		"a value with a byte 10":           message("", "a", "x\ny"),
		"a value that looks like two":      message("", "a", "x\nb: y"),
		"a value of a byte 10":             message("", "a", "\n"),
		"a value of 86 bytes":              message("", "a", long(86)),
		"a value of MaxText bytes":         message("", "a", long(65536)),
		"a value of more than MaxText":     message("", "a", long(65537)),
		"a later value of 86 bytes":        message("", "a", "x", "b", long(86)),
		"a body of 86 bytes":               message(long(86)),
		"a body of 86 bytes behind fields": message(long(86), "a", "x"),
		"a body of MaxText bytes":          message(long(65536)),
		"a body of more than MaxText":      message(long(65537)),
		"9 fields":                         message("", slices.Repeat([]string{"a", "x"}, 9)...),
		"9 fields of no bytes":             message("", slices.Repeat([]string{"a", ""}, 9)...),
		"9 fields, too long together":      message(long(85), slices.Repeat([]string{"a", "x"}, 9)...),
		"100 fields":                       message("", slices.Repeat([]string{"a", "x"}, 100)...),
		"MaxList fields and one":           message("", slices.Repeat([]string{"a", "x"}, 4097)...),
		"a wrong name, too long together":  message(long(85), "a b", "x"),
		"a wrong value, too long together": message(long(85), "a", "x "),
		"a long body, a wrong name":        message(long(86), "a b", "x"),
	}
	for c := range 256 {
		b := string([]byte{byte(c)})
		if c < 32 || c > 126 {
			out[fmt.Sprintf("the byte %d in a value", c)] = message("", "a", "x"+b+"x")
			out[fmt.Sprintf("a value of the byte %d", c)] = message("", "a", b)
		}
		if c != '-' && c != '_' && (c < 'a' || c > 'z') && (c < 'A' || c > 'Z') {
			out[fmt.Sprintf("the byte %d in a name", c)] = message("", "x"+b+"x", "x")
			out[fmt.Sprintf("a name of the byte %d", c)] = message("", b, "x")
		}
	}
	return out
}

func TestMessagesThatAreNotTold(t *testing.T) {
	for what, m := range wrongParts() {
		mustNotTell(t, what, m, impl.ErrBad)
	}
	for what, m := range map[string]impl.Message{
		"a body of 85 bytes":           message(long(85)),
		"a value of 85 bytes":          message("", "a", long(85)),
		"a value of 81 bytes, all 86":  message("", "a", long(81)),
		"both of 85 bytes":             message(long(85), "a", long(85)),
		"a body of 80 bytes, all 86":   message(long(80), "a", "x"),
		"8 fields, all 86":             message(long(45), slices.Repeat([]string{"a", "x"}, 8)...),
		"8 fields of 85 bytes each":    message(long(85), slices.Repeat([]string{"twelve-bytes", long(85)}, 8)...),
		"a long name and value, 86":    message("", "twelve-bytes", long(70)),
		"two values, together 86":      message("", "a", long(38), "b", long(39)),
		"8 long names, without values": message("", slices.Repeat([]string{"twelve-bytes", ""}, 8)...),
	} {
		mustNotTell(t, what, m, impl.ErrFull)
	}
}

func TestFieldOfBounds(t *testing.T) {
	mustField(t, long(65537), "a", "", impl.ErrLong)
	mustField(t, "\n", long(65537), "", impl.ErrLong)
	mustField(t, "", long(65537), "", impl.ErrLong)
	mustField(t, long(65536), long(65537), "", impl.ErrLong)
	mustField(t, long(65536), long(65536), "", impl.ErrForm)
	mustField(t, "", "", "", impl.ErrForm)
	mustField(t, "\n", "", "", impl.ErrNone)
	mustField(t, "\n", long(65536), "", impl.ErrNone)
	mustField(t, "twelve-bytes: x\n\n", "TWELVE-BYTES", "x", impl.OK)
	mustField(t, "twelve-bytes: x\n\n", "TWELVE-BYTESS", "", impl.ErrNone)
	mustField(t, strings.Repeat("a: x\n", 7)+"b: y\n\n", "B", "y", impl.OK)
	mustField(t, strings.Repeat("a: x\n", 8)+"b: y\n\n", "B", "", impl.ErrForm)
}

// manyMails gives n mails with the same text.
func manyMails(n int, text string) []impl.Mail {
	list := make([]impl.Mail, n)
	for i := range list {
		list[i] = impl.Mail{Uid: i + 1, Text: text}
	}
	return list
}

func TestSearchBounds(t *testing.T) {
	for _, n := range []int{0, 1, 99, 100} {
		var all []int
		for i := range n {
			all = append(all, i+1)
		}
		mustFind(t, manyMails(n, "a: x\n\n"), "", "x", all...)
		mustFind(t, manyMails(n, "a: x\n\n"), "A", "X", all...)
		mustFind(t, manyMails(n, "a: x\n\n"), "b", "x")
	}
	for _, n := range []int{101, 102, 4095, 4096} {
		mustNotSearch(t, fmt.Sprint(n, " mails"), manyMails(n, "x"), "", "x", impl.ErrMany)
		mustNotSearch(t, fmt.Sprint(n, " mails of 86"), manyMails(n, long(86)), "", "x", impl.ErrMany)
		mustNotSearch(t, fmt.Sprint(n, " mails, no field"), manyMails(n, "x"), "a", "nowhere", impl.ErrMany)
		mustNotSearch(t, fmt.Sprint(n, " mails, a long word"), manyMails(n, "x"), "", long(65537), impl.ErrLong)
	}
	for _, n := range []int{4097, 5000} {
		mustNotSearch(t, fmt.Sprint(n, " mails"), manyMails(n, "x"), "", "x", impl.ErrLong)
		mustNotSearch(t, fmt.Sprint(n, " mails of 86"), manyMails(n, long(86)), "a b", "x", impl.ErrLong)
	}
	ends := []impl.Mail{{Uid: 1, Text: "x" + long(84)}, {Uid: 2, Text: "a: x\n\n" + long(79)}}
	mustFind(t, ends, "", long(79), 1, 2)
	mustFind(t, ends, "a", "x", 2)
	for _, n := range []int{86, 87, 65536, 65537} {
		for at := range 3 {
			list := slices.Insert(slices.Clone(ends), at, impl.Mail{Uid: 3, Text: "\n" + long(n-1)})
			mustNotSearch(t, fmt.Sprint("a text of ", n), list, "", "x", impl.ErrBad)
			mustNotSearch(t, fmt.Sprint("a text of ", n), list, "a", "nowhere", impl.ErrBad)
			mustNotSearch(t, fmt.Sprint("a text of ", n, ", a long name"), list, long(65537), "x", impl.ErrLong)
			mustNotSearch(t, fmt.Sprint("a text of ", n, ", a long word"), list, "a", long(65537), impl.ErrLong)
		}
	}
	for _, list := range [][]impl.Mail{nil, ends} {
		mustFind(t, list, "a", long(65536))
		mustFind(t, list, long(65536), "")
		mustNotSearch(t, "a long word", list, "", long(65537), impl.ErrLong)
		mustNotSearch(t, "a long name", list, long(65537), "", impl.ErrLong)
	}
}
