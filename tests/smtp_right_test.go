package tests

import (
	"fmt"
	"slices"
	"testing"

	"loop.example/g00340/impl"
)

func withSmtp(s impl.Smtp, change func(s *impl.Smtp)) impl.Smtp {
	s = cloneSmtp(s)
	change(&s)
	return s
}

// rightSmtps are sessions at the bounds of what is right.
func rightSmtps() map[string]impl.Smtp {
	nine := slices.Repeat([]string{"x"}, 9)
	out := map[string]impl.Smtp{
		"nothing at all":               {},
		"a new one":                    {Open: true},
		"Hello":                        met(),
		"Hello, not Open":              {Hello: true},
		"From of 1 byte":               from("a"),
		"From of 8 bytes":              from("eight_08"),
		"From of _":                    from("_"),
		"From of great letters":        from("ABCDEFGH"),
		"1 Rcpt":                       to("ann"),
		"1 Rcpt of 1 byte":             to("a"),
		"1 Rcpt of 8 bytes":            to("eight_08"),
		"1 Rcpt like From":             to("me"),
		"2 Rcpts":                      to("ann", "bob"),
		"2 Rcpts by falling names":     to("bob", "ann"),
		"2 Rcpts unlike by a letter":   to("ann", "Ann"),
		"2 Rcpts that begin alike":     to("an", "ann"),
		"2 Rcpts that nobody is":       to("none", "nobody"),
		"Data":                         telling(),
		"Data for one":                 tellingTo([]string{"ann"}),
		"1 line":                       telling("x"),
		"8 lines":                      telling(nine[:8]...),
		"9 lines":                      telling(nine...),
		"a line of no bytes":           telling(""),
		"a line of 60 bytes":           telling(long(60)),
		"9 lines of 60 bytes":          telling(slices.Repeat([]string{long(60)}, 9)...),
		"a last line of 60 bytes":      telling("x", "", long(60)),
		"a line of any bytes":          telling("\x00\n\xff\r"),
		"a lone dot as a line":         telling("."),
		"lines that are alike":         telling("x", "x"),
		"empty lists":                  {Open: true, Rcpts: []string{}, Lines: []string{}},
		"empty lists with From":        {Open: true, Hello: true, From: "me", Rcpts: []string{}, Lines: []string{}},
		"empty lists, not Open":        {Rcpts: []string{}, Lines: []string{}},
		"empty Lines with Data":        {Open: true, Hello: true, Data: true, From: "me", Rcpts: []string{"ann"}, Lines: []string{}},
		"Lines for one, a line of a .": tellingTo([]string{"bob"}, ".."),
	}
	return out
}

// wrongSmtps are sessions that are not right, each by as little as can be.
func wrongSmtps() map[string]impl.Smtp {
	out := map[string]impl.Smtp{
		"From without Hello":            {Open: true, From: "me"},
		"From, not Open":                {Hello: true, From: "me"},
		"From without Hello, not Open":  {From: "me"},
		"Rcpts without From":            {Open: true, Hello: true, Rcpts: []string{"ann"}},
		"Rcpts without From, not Open":  {Hello: true, Rcpts: []string{"ann"}},
		"2 Rcpts without From":          {Open: true, Hello: true, Rcpts: []string{"ann", "bob"}},
		"all without From":              {Open: true, Hello: true, Data: true, Rcpts: []string{"ann"}, Lines: []string{"x"}},
		"all without Hello":             {Open: true, Data: true, From: "me", Rcpts: []string{"ann"}, Lines: []string{"x"}},
		"all, not Open":                 {Hello: true, Data: true, From: "me", Rcpts: []string{"ann"}, Lines: []string{"x"}},
		"3 Rcpts":                       to("ann", "bob", "cid"),
		"3 Rcpts with Data":             tellingTo([]string{"ann", "bob", "cid"}),
		"2 Rcpts that are alike":        to("ann", "ann"),
		"2 alike with Data":             tellingTo([]string{"ann", "ann"}, "x"),
		"3 Rcpts, the outer ones alike": to("ann", "bob", "ann"),
		"4097 Rcpts":                    to(slices.Repeat([]string{"ann"}, 4097)...),
		"Data without Rcpts":            tellingTo(nil),
		"Data with empty Rcpts":         tellingTo([]string{}),
		"Data without From":             {Open: true, Hello: true, Data: true},
		"Data alone":                    {Open: true, Data: true},
		"Data, not Open":                {Data: true},
		"Data, Hello, not Open":         {Data: true, Hello: true},
		"Lines without Data":            withSmtp(to("ann"), func(s *impl.Smtp) { s.Lines = []string{"x"} }),
		"an empty line without Data":    withSmtp(to("ann"), func(s *impl.Smtp) { s.Lines = []string{""} }),
		"Lines without Rcpts":           withSmtp(from("me"), func(s *impl.Smtp) { s.Lines = []string{"x"} }),
		"Lines without From":            withSmtp(met(), func(s *impl.Smtp) { s.Lines = []string{"x"} }),
		"Lines without anything":        {Open: true, Lines: []string{"x"}},
		"Lines, not Open":               {Lines: []string{"x"}},
		"Lines and Data without Rcpts":  tellingTo(nil, "x"),
		"10 lines":                      telling(slices.Repeat([]string{"x"}, 10)...),
		"10 lines of no bytes":          telling(make([]string, 10)...),
		"4097 lines":                    telling(make([]string, 4097)...),
		"a line of 61 bytes":            telling(long(61)),
		"a last line of 61 bytes":       telling("x", "", "", "", "", "", "", "", long(61)),
		"a line of more than MaxText":   telling(long(65537)),
	}
	for _, name := range wrongNames() {
		if name != "" {
			out[fmt.Sprintf("From of %.20q, %d bytes", name, len(name))] = from(name)
			out[fmt.Sprintf("From of %.20q, %d bytes, with all", name, len(name))] = withSmtp(telling("x"), func(s *impl.Smtp) { s.From = name })
		}
		out[fmt.Sprintf("a Rcpt %.20q, %d bytes", name, len(name))] = to(name)
		out[fmt.Sprintf("a second Rcpt %.20q, %d bytes", name, len(name))] = to("ann", name)
		out[fmt.Sprintf("a first Rcpt %.20q, %d bytes", name, len(name))] = to(name, "ann")
	}
	return out
}

func TestSmtpConstants(t *testing.T) {
	if impl.MaxLine != 60 || impl.MaxRcpts != 2 || impl.MaxData != 8 {
		t.Error(impl.MaxLine, impl.MaxRcpts, impl.MaxData)
	}
}

func TestNewSmtp(t *testing.T) {
	if s := impl.NewSmtp(); !sameSmtp(s, impl.Smtp{Open: true}) || !impl.SmtpOK(s) {
		t.Errorf("%+v", s)
	}
}

func TestSmtpOK(t *testing.T) {
	for what, s := range rightSmtps() {
		if !impl.SmtpOK(s) || !smtpByHand(s) {
			t.Errorf("%s: not right: %+v", what, s)
		}
	}
	for what, s := range wrongSmtps() {
		if impl.SmtpOK(s) || smtpByHand(s) {
			t.Errorf("%s: right", what)
		}
	}
}

// Parts of a session in all ways together.
func TestSmtpOKTogether(t *testing.T) {
	bools, rights := []bool{false, true}, 0
	rcpts := [][]string{nil, {}, {"a"}, {"ann", "bob"}, {"ann", "ann"}, {"ann", "bob", "cid"}, {"9"}, {"ann", "nine_byte"}, {""}}
	lines := [][]string{nil, {}, {""}, {"x"}, make([]string, 9), make([]string, 10), {long(60)}, {long(61)}, {"x", long(61)}}
	for _, hello := range bools {
		for _, data := range bools {
			for _, open := range bools {
				for _, from := range []string{"", "a", "eight_08", "nine_byte", "9", " "} {
					for _, users := range rcpts {
						for _, texts := range lines {
							s := impl.Smtp{Hello: hello, Data: data, Open: open, From: from, Rcpts: users, Lines: texts}
							right := smtpByHand(s)
							if impl.SmtpOK(s) != right {
								t.Errorf("%.300q: not %t", fmt.Sprintf("%+v", s), right)
							}
							if right {
								rights++
							} else {
								mustNotStep(t, "not right", town(), s, "noop", impl.ErrBad)
							}
						}
					}
				}
			}
		}
	}
	if rights < 50 {
		t.Errorf("%d are right: not enough", rights)
	}
}

// A step of a session that is not right is refused with nothing, whatever the
// line is; each right one is taken.
func TestStepsAskForRightSessions(t *testing.T) {
	lines := []string{"", ".", "noop", "quit", "rset", "helo me", "data", "what", long(61), long(65536)}
	for what, s := range wrongSmtps() {
		for _, line := range lines {
			mustNotStep(t, what, town(), s, line, impl.ErrBad)
		}
		mustNotStep(t, what, town(), s, long(65537), impl.ErrLong)
	}
	for what, s := range rightSmtps() {
		for _, line := range lines {
			want := smtpDue(town(), s, line)
			mustCode(t, what, want.code, impl.OK)
			mustStep(t, what, town(), s, line, want)
		}
	}
}
