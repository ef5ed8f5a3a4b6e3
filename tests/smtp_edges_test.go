package tests

import (
	"fmt"
	"slices"
	"strings"
	"testing"

	"loop.example/g00340/impl"
)

// openSmtps are right sessions that are Open, in the order in which lines lead
// to them.
func openSmtps() []impl.Smtp {
	return []impl.Smtp{impl.NewSmtp(), met(), from("me"), to("ann"), to("ann", "bob"), to("bob", "ann"), to("none", "ann"), tellingTo([]string{"ann"}), telling("x"), telling(make([]string, 9)...)}
}

func named(s impl.Smtp) string {
	return fmt.Sprintf("%.100q", fmt.Sprintf("%+v", s))
}

// Nothing is said by a session that is not Open, and nothing is done.
func TestShutSessionsSayNothing(t *testing.T) {
	for _, s := range []impl.Smtp{{}, {Hello: true}} {
		for _, line := range []string{"", ".", "..", "helo me", "HELO me", "mail from:<me>", "mail from:", "rcpt to:<ann>", "data", "rset", "noop", "quit", "what", long(60), long(61), long(65536)} {
			mustSayOnly(t, named(s), town(), s, line, "")
		}
		mustNotStep(t, named(s), town(), s, long(65537), impl.ErrLong)
	}
}

// A line of more than 60 bytes is too long, with Data too, and does nothing.
func TestLongLines(t *testing.T) {
	for _, s := range openSmtps() {
		for _, line := range []string{long(61), long(62), "." + long(60), strings.Repeat(".", 61), strings.Repeat(" ", 61), "noop" + long(57), "helo " + long(56), "mail from:<" + long(49) + ">", long(65536)} {
			mustSayOnly(t, named(s), town(), s, line, "500 too long")
		}
		mustNotStep(t, named(s), town(), s, long(65537), impl.ErrLong)
	}
	for _, s := range openSmtps()[:7] {
		mustSayOnly(t, named(s), town(), s, long(60), "500 what")
		mustSayOnly(t, named(s), town(), s, "noop"+strings.Repeat(" ", 56), "500 what")
		mustSayOnly(t, named(s), town(), s, "helo "+long(55), "500 what")
		mustSayOnly(t, named(s), town(), s, "mail from:<"+long(48)+">", "501 what")
		mustSayOnly(t, named(s), town(), s, "rcpt to:<"+long(50)+">", "501 what")
	}
	mustSay(t, "a line of 59 bytes", town(), telling("x"), long(59), "", telling("x", long(59)))
	mustSay(t, "a line of 60 bytes", town(), telling("x"), long(60), "", telling("x", long(60)))
	mustSay(t, "60 bytes with a dot", town(), telling(), "."+long(59), "", telling(long(59)))
	mustSay(t, "60 dots", town(), telling(), strings.Repeat(".", 60), "", telling(strings.Repeat(".", 59)))
}

// What has no reply with Data: each line but the lone dot joins, without its
// first byte if that is a dot.
func TestLinesWithData(t *testing.T) {
	for line, want := range map[string]string{"": "", "x": "x", "..": ".", "...": "..", ".x": "x", "..x": ".x", ". ": " ", " .": " .", ".\n": "\n", "\n": "\n", ".\x00": "\x00", ".\r": "\r", "noop": "noop", "QUIT": "QUIT",
		"rset": "rset", "data": "data", "helo me": "helo me", "mail from:<x>": "mail from:<x>", "rcpt to:<an>": "rcpt to:<an>", "552 too long": "552 too long", "．": "．", "。": "。"} {
		mustSay(t, "the first line", town(), telling(), line, "", telling(want))
		mustSay(t, "the second line", town(), tellingTo([]string{"bob"}, "x"), line, "", tellingTo([]string{"bob"}, "x", want))
	}
	mustSay(t, "lines ask for no user", town(), tellingTo([]string{"none"}), "x", "", tellingTo([]string{"none"}, "x"))
	// Without Data the lone dot is a line like others.
	for _, s := range openSmtps()[:7] {
		mustSayOnly(t, named(s), town(), s, ".", "500 what")
		mustSayOnly(t, named(s), town(), s, "..", "500 what")
		mustSayOnly(t, named(s), town(), s, "", "500 what")
	}
}

// Up to nine lines join; the ninth one is too many at the end.
func TestHowManyLines(t *testing.T) {
	lines := strings.Split("a b c d e f g h i", " ")
	s := telling()
	for n, line := range lines {
		mustSay(t, fmt.Sprint("line ", n+1), town(), s, line, "", telling(lines[:n+1]...))
		s = telling(lines[:n+1]...)
	}
	for _, line := range []string{"j", "", "..", ".x", long(60)} {
		mustSayOnly(t, "the tenth line", town(), s, line, "")
	}
	mustSayOnly(t, "a tenth line that is too long", town(), s, long(61), "500 too long")
	for n := range 9 {
		want := smtpTold{session: met(), reply: "250 ok", pairs: inBoth(textOf(lines[:n]))}
		mustStep(t, fmt.Sprint(n, " lines"), town(), telling(lines[:n]...), ".", want)
	}
	mustSay(t, "9 lines", town(), s, ".", "552 too long", met())
	mustSay(t, "9 lines without bytes", town(), telling(make([]string, 9)...), ".", "552 too long", met())
	for n, reply := range map[int]string{0: "250 ok", 7: "250 ok", 8: "250 ok", 9: "552 too long", 10: "552 too long", 11: "552 too long", 50: "552 too long"} {
		pairs := town()
		if n <= 8 {
			pairs = inBoth(strings.Repeat("\n", n))
		}
		mustRun(t, fmt.Sprint("a run of ", n), town(), sent([]string{"ann", "bob"}, make([]string, n)...), []string{"250 hello", "250 ok", "250 ok", "250 ok", "354 go on", reply}, pairs, impl.OK)
	}
}

// A text of 85 bytes is the longest, with the byte 10 of each of its lines.
func TestHowLongMails(t *testing.T) {
	for _, lines := range [][]string{
		{long(60), long(22)}, {long(60), long(23)}, {long(23), long(60)}, {long(60), "", long(22)}, {long(42), long(41)},
		{long(60), "", "", "", "", "", "", long(17)}, {"\n" + long(59), long(23)}, {long(60), "\xff" + long(22)},
		{long(10), long(10), long(10), long(10), long(10), long(10), long(10), long(7)},
	} {
		mustStep(t, "not too long", town(), telling(lines...), ".", smtpTold{session: met(), reply: "250 ok", pairs: inBoth(textOf(lines))})
	}
	for _, lines := range [][]string{
		{long(60), long(24)}, {long(24), long(60)}, {long(60), "", long(23)}, {long(42), long(42)}, {long(60), long(60)},
		{long(60), "", "", "", "", "", "", long(18)}, {"\n" + long(59), long(24)},
		{long(10), long(10), long(10), long(10), long(10), long(10), long(10), long(8)}, slices.Repeat([]string{long(60)}, 8), slices.Repeat([]string{long(60)}, 9),
	} {
		mustSay(t, "too long", town(), telling(lines...), ".", "552 too long", met())
	}
	// What is left out ahead of other bytes does not count.
	lines := []string{"." + long(59), "." + long(25)}
	mustRun(t, "dots", town(), sent([]string{"ann", "bob"}, lines...), []string{"250 hello", "250 ok", "250 ok", "250 ok", "354 go on", "552 too long"}, town(), impl.OK)
	lines = []string{"." + long(59), "." + long(24)}
	mustRun(t, "dots", town(), sent([]string{"ann", "bob"}, lines...), []string{"250 hello", "250 ok", "250 ok", "250 ok", "354 go on", "250 ok"}, inBoth(long(59)+"\n"+long(24)+"\n"), impl.OK)
}

// A mail that is too long is so ahead of all that its Rcpts lack.
func TestTooLongComesFirst(t *testing.T) {
	for what, row := range noRooms() {
		mustSay(t, what, row.list, telling(make([]string, 9)...), ".", "552 too long", met())
		mustSay(t, what, row.list, telling(long(60), long(24)), ".", "552 too long", met())
		mustSay(t, what, row.list, telling(long(60), long(23)), ".", row.reply, met())
	}
}

// verbReplies are the replies that lines have, by the sessions of openSmtps
// without Data.
func verbReplies() map[string][7]string {
	same := func(reply string) [7]string { return [7]string{reply, reply, reply, reply, reply, reply, reply} }
	order := "503 order"
	out := map[string][7]string{
		"helo me":        same("250 hello"),
		"helo a":         same("250 hello"),
		"helo eight_08":  same("250 hello"),
		"helo HELO":      same("250 hello"),
		"mail from:<me>": {order, "250 ok", order, order, order, order, order},
		"mail from:<a>":  {order, "250 ok", order, order, order, order, order},
		"rcpt to:<ann>":  {order, order, "250 ok", "250 ok", "250 ok", "250 ok", "250 ok"},
		"rcpt to:<bob>":  {order, order, "250 ok", "250 ok", "250 ok", "250 ok", "452 too many"},
		"rcpt to:<an>":   {order, order, "250 ok", "250 ok", "452 too many", "452 too many", "452 too many"},
		"rcpt to:<none>": {order, order, "550 no such user", "550 no such user", "550 no such user", "550 no such user", "550 no such user"},
		"rcpt to:<ANN>":  {order, order, "550 no such user", "550 no such user", "550 no such user", "550 no such user", "550 no such user"},
		"rcpt to:<me>":   {order, order, "550 no such user", "550 no such user", "550 no such user", "550 no such user", "550 no such user"},
		"data":           {order, order, order, "354 go on", "354 go on", "354 go on", "354 go on"},
		"rset":           same("250 ok"),
		"noop":           same("250 ok"),
		"quit":           same("221 bye"),
	}
	for _, name := range wrongNames() {
		if len(name) > 40 {
			continue
		}
		out["helo "+name] = same("500 what")
		out["mail from:<"+name+">"] = same("501 what")
		out["rcpt to:<"+name+">"] = same("501 what")
	}
	for _, rest := range []string{"", " ", "<", ">", "<>", "><", "me", "ann", "<me", "<ann", "me>", "ann>", " <me>", " <ann>", "<me> ", "<ann> ", "<me>x", "<ann>x", "<<me>>", "<<ann>>", "<me>>", "<<ann>", "< me>", "<me >", "<me><me>",
		"x<me>", "x<ann>", "<me>\n", "<ann>\r", "\t<me>", ":<me>", "(me)", "\"me\"", "<me>;<me>", "<ann>,<bob>", "<\x00>", "<me\x00>"} {
		out["mail from:"+rest] = same("501 what")
		out["rcpt to:"+rest] = same("501 what")
	}
	for _, line := range []string{"", " ", "what", ".", "helo", "helo ", "helo  me", "helo me ", "helo me me", " helo me", "helome", "helo\tme", "helo:me", "helo <me>", "ehlo me", "hel me", "hello me",
		"mail", "mail ", "mail from", "mail from ", "mail from<me>", "mail from <me>", "mail from :<me>", "mail  from:<me>", " mail from:<me>", "mailfrom:<me>", "mail\tfrom:<me>", "mail to:<me>", "from:<me>", "mail:<me>", "mai from:<me>",
		"rcpt", "rcpt ", "rcpt to", "rcpt to<ann>", "rcpt to <ann>", "rcpt to :<ann>", "rcpt  to:<ann>", " rcpt to:<ann>", "rcptto:<ann>", "rcpt from:<ann>", "to:<ann>", "rcp to:<ann>",
		"data ", " data", "data x", "datax", "data.", "data\n", "dat", "data data", "rset ", " rset", "rset x", "rsetx", "rset\r", "rse", "noop ", " noop", "noop x", "noopx", "noop\x00", "noo", "quit ", " quit", "quit x", "quitx", "quit\n", "qui",
		"\x00", "\xff", "\n", "noop\nnoop", "ＮＯＯＰ", "noo\u0440", "r\u017fet", "r\u017fET", "\u212aoop", "n\u00f6op", "[nope", "ma\u0131l from:<me>", "MA\u0130L FROM:<me>"} {
		out[line] = same("500 what")
	}
	return out
}

// nextByVerb gives the session behind a line and its reply.
func nextByVerb(s impl.Smtp, line, reply string) impl.Smtp {
	s = cloneSmtp(s)
	lower := strings.ToLower(line)
	switch {
	case reply == "250 hello":
		return met()
	case reply == "354 go on":
		s.Data = true
	case reply == "221 bye":
		return impl.Smtp{Hello: s.Hello}
	case lower == "rset":
		return impl.Smtp{Hello: s.Hello, Open: true}
	case reply == "250 ok" && strings.HasPrefix(lower, "mail"):
		s.From = line[11 : len(line)-1]
	case reply == "250 ok" && strings.HasPrefix(lower, "rcpt"):
		if user := line[9 : len(line)-1]; !slices.Contains(s.Rcpts, user) {
			s.Rcpts = append(s.Rcpts, user)
		}
	}
	return s
}

// Each line has its reply in each session, and leads where it should.
func TestRepliesOfVerbs(t *testing.T) {
	for line, replies := range verbReplies() {
		for i, s := range openSmtps()[:7] {
			mustSay(t, named(s), town(), s, line, replies[i], nextByVerb(s, line, replies[i]))
		}
	}
}

// spelt gives a line with its verb in other letters; what stands behind it
// stays.
func spelt(line string, letters func(string) string) string {
	for _, verb := range []string{"helo ", "mail from:", "rcpt to:"} {
		if strings.HasPrefix(line, verb) {
			return letters(verb) + line[len(verb):]
		}
	}
	if slices.Contains([]string{"data", "rset", "noop", "quit"}, line) {
		return letters(line)
	}
	return line
}

// Great and small letters of verbs are alike.
func TestLettersOfVerbs(t *testing.T) {
	turns := func(first int) func(string) string {
		return func(text string) string {
			b := []byte(text)
			for i := first; i < len(b); i += 2 {
				b[i] = strings.ToUpper(text)[i]
			}
			return string(b)
		}
	}
	for line, replies := range verbReplies() {
		for _, letters := range []func(string) string{strings.ToUpper, turns(0), turns(1)} {
			other := spelt(line, letters)
			for i, s := range openSmtps()[:7] {
				mustSay(t, named(s), town(), s, other, replies[i], nextByVerb(s, other, replies[i]))
			}
		}
	}
	// Each bit of a verb counts but for the one that tells great from small.
	for _, verb := range []string{"helo me", "mail from:<me>", "rcpt to:<ann>", "data", "rset", "noop", "quit"} {
		begin := len(strings.TrimRight(verb[:min(len(verb), 10)], "<anme"))
		for i := range begin {
			for bit := range 8 {
				line := []byte(verb)
				line[i] ^= 1 << bit
				if strings.EqualFold(string(line), verb) {
					continue
				}
				for _, s := range openSmtps()[1:4] {
					want := smtpDue(town(), s, string(line))
					if want.reply != "500 what" && want.reply != "501 what" {
						t.Fatalf("%q has the reply %q by hand", line, want.reply)
					}
					mustStep(t, "a bit of a verb", town(), s, string(line), want)
				}
			}
		}
	}
}

// Names stay as they are told, in their letters; users are told by them.
func TestLettersOfNames(t *testing.T) {
	mustSay(t, "a name in great letters", town(), met(), "MAIL FROM:<ME>", "250 ok", from("ME"))
	mustSay(t, "a name in both", town(), met(), "mail from:<mE>", "250 ok", from("mE"))
	mustSayOnly(t, "a user in great letters", town(), from("me"), "RCPT TO:<ANN>", "550 no such user")
	mustSayOnly(t, "a user in both", town(), from("me"), "rcpt to:<Ann>", "550 no such user")
	list := mailWith(town(), "u/Ann", "x", "f/Ann/inbox", "1 1")
	mustSay(t, "a user of these letters", list, from("me"), "RCPT TO:<Ann>", "250 ok", to("Ann"))
	mustSay(t, "both of them", list, to("Ann"), "rcpt to:<ann>", "250 ok", to("Ann", "ann"))
	mustStep(t, "to both of them", list, tellingTo([]string{"Ann", "ann"}, "X"), ".", smtpTold{session: met(), reply: "250 ok",
		pairs: mailWith(list, "f/Ann/inbox", "1 2", "m/Ann/inbox/001", "0X\n", "f/ann/inbox", "1 6", "m/ann/inbox/005", "0X\n")})
}

// Where several replies hold the first one is said.
func TestOrderOfReplies(t *testing.T) {
	gone := mailLess(town(), "u/bob", "f/bob/inbox", "m/bob/inbox/002")
	for _, row := range []struct {
		what  string
		list  []impl.Pair
		s     impl.Smtp
		line  string
		reply string
	}{
		{"no name, without Hello", town(), impl.NewSmtp(), "mail from:<>", "501 what"},
		{"no brackets, with From", town(), from("me"), "mail from:me", "501 what"},
		{"without Hello", town(), impl.NewSmtp(), "mail from:<me>", "503 order"},
		{"with the same From", town(), from("me"), "mail from:<me>", "503 order"},
		{"with another From", town(), from("me"), "mail from:<you>", "503 order"},
		{"no user's name, without From", town(), met(), "rcpt to:<9>", "501 what"},
		{"no user's name, with all Rcpts", town(), to("ann", "bob"), "rcpt to:<9>", "501 what"},
		{"no user, without From", town(), met(), "rcpt to:<none>", "503 order"},
		{"no user, without Hello", town(), impl.NewSmtp(), "rcpt to:<none>", "503 order"},
		{"a user, without From", town(), met(), "rcpt to:<ann>", "503 order"},
		{"no user, with all Rcpts", town(), to("ann", "bob"), "rcpt to:<none>", "550 no such user"},
		{"a Rcpt that is gone", gone, to("ann", "bob"), "rcpt to:<bob>", "550 no such user"},
		{"a lone Rcpt that is gone", gone, to("bob"), "rcpt to:<bob>", "550 no such user"},
		{"a Rcpt that is there, with all", town(), to("ann", "bob"), "rcpt to:<ann>", "250 ok"},
		{"the second Rcpt, with all", town(), to("ann", "bob"), "rcpt to:<bob>", "250 ok"},
		{"a Rcpt that is there", town(), to("ann"), "rcpt to:<ann>", "250 ok"},
		{"a third Rcpt", town(), to("ann", "bob"), "rcpt to:<an>", "452 too many"},
		{"a third Rcpt, with one that is gone", gone, to("ann", "bob"), "rcpt to:<an>", "452 too many"},
		{"data, without anything", town(), impl.NewSmtp(), "data", "503 order"},
		{"data with more, without Rcpts", town(), from("me"), "data x", "500 what"},
		{"too long, a right verb", town(), met(), "mail from:<me>" + strings.Repeat(" ", 47), "500 too long"},
	} {
		mustSayOnly(t, row.what, row.list, row.s, row.line, row.reply)
	}
	// A user that is full, or at the last uid, is told all the same.
	for what, row := range noRooms() {
		if boxOf(row.list).has("u/ann") {
			mustSay(t, what, row.list, from("me"), "rcpt to:<ann>", "250 ok", to("ann"))
		} else {
			mustSayOnly(t, what, row.list, from("me"), "rcpt to:<ann>", "550 no such user")
		}
		mustSay(t, what, row.list, to("none"), "data", "354 go on", tellingTo([]string{"none"}))
	}
	// The first Rcpt that can't have the mail counts.
	quota := mailWith(gone, "f/ann/inbox", "1 9", "m/ann/inbox/007", "0")
	mustSay(t, "full, then gone", quota, telling("x"), ".", "452 no room", met())
	mustSay(t, "gone, then full", quota, tellingTo([]string{"bob", "ann"}, "x"), ".", "550 no such user", met())
	mustSay(t, "fine, then gone", gone, tellingTo([]string{"an", "bob"}, "x"), ".", "550 no such user", met())
	mustSay(t, "fine, then full", quota, tellingTo([]string{"an", "ann"}, "x"), ".", "452 no room", met())
}

// What is cleared, and what stays.
func TestWhatIsCleared(t *testing.T) {
	for _, s := range openSmtps()[:7] {
		mustSay(t, named(s), town(), s, "helo you", "250 hello", met())
		mustSay(t, named(s), town(), s, "rset", "250 ok", impl.Smtp{Hello: s.Hello, Open: true})
		mustSay(t, named(s), town(), s, "quit", "221 bye", impl.Smtp{Hello: s.Hello})
		for _, line := range []string{"noop", "helo", "helo 9", "what", "rset x", "quit x", "data x"} {
			reply := "500 what"
			if line == "noop" {
				reply = "250 ok"
			}
			mustSayOnly(t, named(s), town(), s, line, reply)
		}
	}
	for what, lines := range map[string][]string{"250 ok": {"x"}, "552 too long": make([]string, 9)} {
		told := smtpDo(town(), telling(lines...), ".")
		if told.reply != what || !sameSmtp(told.session, met()) {
			t.Errorf("%q: %q, %+v", what, told.reply, told.session)
		}
	}
	// Behind any end the next mail begins with its From.
	for _, tail := range [][]string{{"x"}, make([]string, 9)} {
		lines := append(sent([]string{"bob"}, tail...), "data", "rcpt to:<ann>", "mail from:<you>", "data", "rcpt to:<an>", "data")
		said, _, code := impl.SmtpRun(town(), lines)
		want := []string{"503 order", "503 order", "250 ok", "503 order", "250 ok", "354 go on"}
		if code != impl.OK || len(said) != 11 || !slices.Equal(said[5:], want) {
			t.Errorf("%q, code %d", said, code)
		}
	}
}

// The bounds of chapter 1, and the codes in their order; nothing is answered
// with a code.
func TestSmtpCodes(t *testing.T) {
	bad, tooMany := mailLess(town(), "v"), manyPairs(4097)
	wrong := impl.Smtp{Open: true, From: "me"}
	for _, row := range []struct {
		what string
		list []impl.Pair
		s    impl.Smtp
		line string
		want int
	}{
		{"too many pairs", tooMany, met(), "noop", impl.ErrLong},
		{"too many pairs, all else wrong", tooMany, wrong, "", impl.ErrLong},
		{"a mail store and too many pairs", append(town(), make([]impl.Pair, 4082)...), met(), "noop", impl.ErrLong},
		{"a long line", town(), met(), long(65537), impl.ErrLong},
		{"a long line, all else wrong", bad, wrong, long(65537), impl.ErrLong},
		{"a long line, not Open", town(), impl.Smtp{}, long(65537), impl.ErrLong},
		{"a long line with Data", town(), telling(), long(65537), impl.ErrLong},
		{"no mail store", bad, met(), "noop", impl.ErrBad},
		{"no mail store, a line of MaxText", bad, met(), long(65536), impl.ErrBad},
		{"no mail store, not Open", bad, impl.Smtp{}, "noop", impl.ErrBad},
		{"no mail store, with Data", bad, telling(), "x", impl.ErrBad},
		{"nothing", nil, met(), "noop", impl.ErrBad},
		{"an empty list", []impl.Pair{}, impl.Smtp{}, "", impl.ErrBad},
		{"MaxList pairs", manyPairs(4096), met(), "noop", impl.ErrBad},
		{"61 pairs", manyPairs(61), met(), "noop", impl.ErrBad},
		{"a wrong session", town(), wrong, "noop", impl.ErrBad},
		{"a wrong session, a line of MaxText", town(), wrong, long(65536), impl.ErrBad},
		{"both wrong", bad, wrong, "what", impl.ErrBad},
	} {
		mustNotStep(t, row.what, row.list, row.s, row.line, row.want)
	}
	mustSayOnly(t, "a line of MaxText", town(), met(), long(65536), "500 too long")
	for _, lists := range []map[string][]impl.Pair{wrongMail(), noPairs()} {
		for what, list := range lists {
			mustNotStep(t, what, list, met(), "noop", impl.ErrBad)
			mustRun(t, what, list, []string{"noop"}, nil, nil, impl.ErrBad)
		}
	}
	for what, list := range rightMail() {
		mustSayOnly(t, what, list, met(), "noop", "250 ok")
		mustRun(t, what, list, []string{"noop"}, []string{"250 ok"}, list, impl.OK)
	}
}

func TestSmtpRunCodes(t *testing.T) {
	bad, tooMany := mailLess(town(), "v"), manyPairs(4097)
	noops := func(n int) []string { return slices.Repeat([]string{"noop"}, n) }
	for _, row := range []struct {
		what  string
		list  []impl.Pair
		lines []string
		want  int
	}{
		{"61 lines", town(), noops(61), impl.ErrMany},
		{"61 lines that say nothing", town(), append([]string{"quit"}, noops(60)...), impl.ErrMany},
		{"61 lines without bytes", town(), make([]string, 61), impl.ErrMany},
		{"61 lines that are too long", town(), slices.Repeat([]string{long(65537)}, 61), impl.ErrMany},
		{"MaxList lines", town(), noops(4096), impl.ErrMany},
		{"more than MaxList lines", town(), noops(4097), impl.ErrLong},
		{"more than MaxList lines, no mail store", bad, noops(4097), impl.ErrLong},
		{"too many pairs", tooMany, noops(1), impl.ErrLong},
		{"too many pairs, no lines", tooMany, nil, impl.ErrLong},
		{"too many pairs, 61 lines", tooMany, noops(61), impl.ErrLong},
		{"no mail store", bad, noops(1), impl.ErrBad},
		{"no mail store, no lines", bad, nil, impl.ErrBad},
		{"nothing at all", nil, nil, impl.ErrBad},
		{"no mail store, 61 lines", bad, noops(61), impl.ErrBad},
		{"no mail store, MaxList lines", bad, noops(4096), impl.ErrBad},
		{"MaxList pairs, 61 lines", manyPairs(4096), noops(61), impl.ErrBad},
	} {
		mustRun(t, row.what, row.list, row.lines, nil, nil, row.want)
	}
	mustRun(t, "59 lines", town(), noops(59), slices.Repeat([]string{"250 ok"}, 59), town(), impl.OK)
	mustRun(t, "60 lines", town(), noops(60), slices.Repeat([]string{"250 ok"}, 60), town(), impl.OK)
	// A line within a list is bounded by the chapter alone.
	lines := []string{long(61), long(65536), long(65537), "noop"}
	mustRun(t, "long lines", town(), lines, []string{"500 too long", "500 too long", "500 too long", "250 ok"}, town(), impl.OK)
	mustRun(t, "long lines, not Open", town(), append([]string{"quit"}, lines...), []string{"221 bye"}, town(), impl.OK)
	lines = sent([]string{"ann", "bob"}, "x", long(65537), "y")
	mustRun(t, "a long line in a mail", town(), lines, []string{"250 hello", "250 ok", "250 ok", "250 ok", "354 go on", "500 too long", "250 ok"}, inBoth("x\ny\n"), impl.OK)
}
