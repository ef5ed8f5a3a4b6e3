package tests

import (
	"fmt"
	"slices"
	"strings"
	"testing"

	"loop.example/g00340/impl"
)

// exchange is a line and all that is said to it.
type exchange struct{ line, said string }

// mustTalk asks a console for what it says line by line.
func mustTalk(t *testing.T, what string, all []exchange) {
	t.Helper()
	var lines, said []string
	for i, x := range all {
		lines, said = append(lines, x.line), append(said, x.said)
		mustScript(t, fmt.Sprintf("%s: line %d, %.60q", what, i, x.line), scriptOf(lines...), strings.Join(said, ""))
		if t.Failed() {
			return
		}
	}
}

// mailed are the lines that send a mail to ann by the first session, with what
// is said.
func mailed(lines ...string) []exchange {
	all := []exchange{{"s0 HELO me", "250 hello\n"}, {"s0 MAIL FROM:<me>", "250 ok\n"}, {"s0 RCPT TO:<ann>", "250 ok\n"}, {"s0 DATA", "354 go on\n"}}
	for _, line := range lines {
		all = append(all, exchange{line, ""})
	}
	return append(all, exchange{"s0 .", "250 ok\n"})
}

// selected are the lines by which the second session reads the inbox of ann.
func selected(mails, validity, next int) []exchange {
	return []exchange{{"i1 a login ann apple", "a OK\n"}, {"i1 b select inbox", fmt.Sprintf("* %d EXISTS\n* VALIDITY %d NEXT %d\nb OK\n", mails, validity, next)}}
}

func TestConsole(t *testing.T) {
	mustTalk(t, "a day", slices.Concat(mailed("s0 hello", "s0 you"), []exchange{
		{"tick 5", "ok\n"}, {"snap one", "ok\n"}, {"# all is well", ""}, {"", ""},
	}, selected(1, 1, 2), []exchange{
		{"i1 c FETCH 1", "* FETCH 1 () {10}\nhello\nyou\n\nc OK\n"}, {"i1 d store 1 3", "d OK\n"}, {"i1 e search YOU", "* SEARCH 1\ne OK\n"}, {"i1 f expunge", "* EXPUNGE 1\nf OK\n"}, {"i1 g create work", "g OK\n"}, {"i1 h list", "* LIST inbox\n* LIST work\nh OK\n"},
		{"restore one ann inbox", "ok\n"}, {"i1 i select inbox", "* 1 EXISTS\n* VALIDITY 4 NEXT 2\ni OK\n"}, {"i1 j copy 1 work", "j OK\n"},
		{"  restore   one ann ", "ok\n"}, {"i1 k list", "* LIST inbox\nk OK\n"}, {"i1 l select inbox", "* 1 EXISTS\n* VALIDITY 5 NEXT 2\nl OK\n"}, {"i1 m logout", "* BYE\nm OK\n"}, {"i1 n noop", ""},
		{"user cy cider", "ok\n"}, {"i0 a login cy cider", "a OK\n"}, {"tick 1", "ok\n"}, {"snap two", "ok\n"}, {"prune 6", "ok\n"}, {"drop one", "error none\n"}, {"drop two", "ok\n"},
		{"s0 quit", "221 bye\n"}, {"s0 noop", ""}, {"s1 noop", "250 ok\n"}, {"crash", "ok\n"}, {"s1 noop", "error down\n"}, {"restart", "ok\n"}, {"s0 noop", "250 ok\n"},
	}))
}

// Where a text ends: a line that no byte 10 ends is one if it has a byte.
func TestWhereLinesEnd(t *testing.T) {
	for text, want := range map[string]string{
		"": "", "\n": "", "\n\n": "", " ": "", "#": "", "# x\n": "", "\n\n\n \n#\n\n": "",
		"tick 1": "ok\n", "tick 1\n": "ok\n", "tick 1\n\n": "ok\n", "\ntick 1": "ok\n", "\n\ntick 1\n\n\n": "ok\n", "tick 1\n ": "ok\n", "tick 1\n#": "ok\n",
		"tick 1\nx": "ok\nerror form\n", "x\ntick 1": "error form\nok\n", "tick 1\n\n\nsnap a\n\nsnap a": "ok\nok\nerror twice\n",
		"s0 noop": "250 ok\n", "s0 noop\n": "250 ok\n", "s0 noop\n\n": "250 ok\n", "s0 \n": "error form\n", "s0 ": "error form\n", "s0  ": "500 what\n", "s0  \n": "500 what\n", "s0": "error form\n", "s0\n noop": "error form\nerror form\n",
		"tick 1\r\n": "error form\n", "tick 1\r\nsnap a\r\n": "error form\nerror name\n", "crash\r": "error form\n", "tick 1\rtick 1": "error form\n", "\r": "error form\n", "\r\n\r\n": "error form\nerror form\n", "\t\n": "error form\n", "s0 noop\r\n": "500 what\n",
		"\x00": "error form\n", "\x00\n": "error form\n", "\n\x00": "error form\n", "#\r\n": "", " # \r": "", "i0 a noop\ni1 b noop": "a OK\nb OK\n", "i0  ": "* BAD\n", "i0 a ": "a BAD\n",
	} {
		mustScript(t, fmt.Sprintf("%q", text), text, want)
	}
}

// Each act says `ok`, in each of the ways in which blanks may stand; lines to
// sessions say what the session does alone.
func TestWhatActsSay(t *testing.T) {
	for _, acts := range [][]string{{"snap one"}, {"snap one", "drop one"}, {"tick 9", "snap one", "tick 1", "prune 10"}, {"snap one", "restore one bob"}, {"snap one", "restore one bob inbox"}, {"user cy cider"}, {"tick 0"}, {"tick 1000"}, {"arm"}, {"crash"}, {"crash", "restart"}, {"arm", "arm", "crash", "restart", "arm", "crash", "restart"}} {
		want := strings.Repeat("ok\n", len(acts))
		mustScript(t, strings.Join(acts, ", "), scriptOf(acts...), want)
		mustScript(t, strings.Join(acts, ", "), "  "+strings.ReplaceAll(strings.Join(acts, "  \n "), " ", "   ")+" ", want)
	}
	for line, want := range map[string]string{"s0 noop": "250 ok\n", "s1 rset": "250 ok\n", "s1 data": "503 order\n", "s0 " + long(60): "500 what\n", "s0 " + long(61): "500 too long\n", "s1 NOOP ": "500 what\n", "i0 a noop": "a OK\n", "i1 a list": "a NO state\n", "i1 a logout": "* BYE\na OK\n", "i0 noop": "* BAD\n", "i0 " + long(61): "* BAD\n", "i0 a  noop": "a BAD\n", "i1 # noop": "* BAD\n", "s0 # noop": "500 what\n"} {
		mustScript(t, line, line+"\n", want)
	}
}

// Each code that can come is told by its word, and nothing else is.
func TestCodesOfAConsole(t *testing.T) {
	snaps := []string{"snap a", "tick 5", "snap b", "snap c", "snap d"}
	many := fullInbox()
	for _, c := range []struct {
		ahead      []string
		line, word string
	}{
		{nil, "none", "form"}, {nil, "s2 noop", "form"}, {nil, "tick x", "form"}, {nil, "snap", "form"},
		{nil, "tick -1", "range"}, {nil, "tick 1001", "range"}, {nil, "tick 999999999999999999", "range"}, {nil, "tick -999999999999999999", "range"},
		{nil, "snap nine_byte", "name"}, {nil, "snap 9", "name"}, {nil, "snap #", "name"}, {nil, "user nine_byte x", "name"}, {nil, "user cy 9", "name"}, {snaps, "restore a 9", "name"}, {snaps, "restore a 9 inbox", "name"}, {snaps, "restore a ann 9", "name"},
		{nil, "drop a", "none"}, {nil, "drop 9", "none"}, {nil, "drop " + long(60000), "none"}, {nil, "prune 1", "none"}, {snaps, "prune 0", "none"}, {snaps, "prune -5", "none"}, {nil, "restore a ann", "none"}, {nil, "restore a ann inbox", "none"}, {nil, "restore a 9", "none"}, {snaps, "restore e ann", "none"}, {[]string{"snap a", "user cy cider"}, "restore a cy", "none"},
		{snaps, "snap a", "twice"}, {snaps, "snap d", "twice"}, {nil, "user ann x", "twice"}, {[]string{"user cy cider"}, "user cy cider", "twice"}, {nil, "restart", "twice"}, {[]string{"crash", "restart"}, "restart", "twice"}, {[]string{"arm"}, "restart", "twice"},
		{snaps, "snap e", "full"}, {snaps, "restore a cy", "user"}, {snaps, "restore a cy inbox", "user"}, {snaps, "restore a ann work", "folder"},
		{many, "restore one ann far", "quota"},
		{[]string{"crash"}, "s0 noop", "down"}, {[]string{"crash"}, "i1 a noop", "down"}, {[]string{"crash"}, "snap a", "down"}, {[]string{"crash"}, "tick 1", "down"}, {[]string{"crash"}, "tick 1001", "down"}, {[]string{"crash"}, "crash", "down"}, {[]string{"crash"}, "arm", "down"},
		{[]string{"arm"}, "snap a", "down"}, {[]string{"arm"}, "user cy cider", "down"}, {append(snaps, "arm"), "drop a", "down"}, {append(snaps, "arm"), "prune 5", "down"}, {[]string{"i0 a login ann apple", "arm"}, "i0 a create x", "down"}, {[]string{"s0 helo me", "s0 mail from:<me>", "s0 rcpt to:<ann>", "s0 data", "arm"}, "s0 .", "down"}, {append(snaps, "arm"), "restore a ann", "down"},
	} {
		what := strings.Join(append(slices.Clone(c.ahead), c.line), ", ")
		ahead := mustScriptDue(t, what, scriptOf(c.ahead...))
		if c.ahead != nil && strings.Contains(toldIn(ahead), "error") {
			t.Errorf("%.300s: %q is said ahead", what, toldIn(ahead))
		}
		mustScript(t, what, scriptOf(append(slices.Clone(c.ahead), c.line)...), toldIn(ahead)+"error "+c.word+"\n")
	}
}

// fullInbox lead to as many mails of ann as there may be, all of them in her
// inbox, and to a snapshot that has mails of hers elsewhere.
func fullInbox() []string {
	lines := []string{"s0 helo me", "s0 mail from:<me>", "s0 rcpt to:<ann>", "s0 data", "s0 .", "i0 a login ann apple", "i0 a create far", "i0 a select inbox", "i0 a copy 1 far", "snap one", "i0 a delete far", "i0 a create far"}
	for range 5 {
		lines = append(lines, "i0 a copy 1 inbox")
	}
	return lines
}

// A server that has no room says so, and a console tells it.
func TestAConsoleWithoutRoom(t *testing.T) {
	lines := fullInbox()
	said := toldIn(mustScriptDue(t, "six mails", scriptOf(lines...)))
	for _, x := range []exchange{{"i0 a copy 1 inbox", "a NO quota\n"}, {"i0 a copy 1 far", "a NO quota\n"}} {
		mustScript(t, x.line, scriptOf(append(slices.Clone(lines), x.line)...), said+x.said)
	}
	lines = append(lines, "s1 helo me", "s1 mail from:<me>", "s1 rcpt to:<ann>", "s1 data", "s1 x")
	said = toldIn(mustScriptDue(t, "no room", scriptOf(lines...)))
	mustScript(t, "no room", scriptOf(append(lines, "s1 .")...), said+"452 no room\n")
	var users []string
	for i := range 40 {
		users = append(users, fmt.Sprintf("user u%d word", i))
	}
	all := mustScriptDue(t, "users", scriptOf(users...))
	if last := all[39]; last.told != "error full\n" || last.world.Lost {
		t.Errorf("%q, Lost %t", last.told, last.world.Lost)
	}
}

// Lines that are none change nothing, whatever stands ahead of them and behind.
func TestFormChangesNothing(t *testing.T) {
	lines := append(slices.Clone(fullInbox()), "arm", "snap two", "restart", "i1 a login ann apple", "i1 a list", "drop one")
	whole := mustScriptDue(t, "without", scriptOf(lines...))
	for _, none := range []string{"none", "s0", "s0 ", " s0 .", "S0 .", "s2 .", "tick", "tick 1 1", "tick +1", "snap", "snap a b", "drop", "crash now", "CRASH", "restart\t", "arm 1", ".", "\r", "\x00"} {
		for at := range len(lines) + 1 {
			with := slices.Insert(slices.Clone(lines), at, none)
			got, code := impl.Console(scriptOf(with...))
			mustCode(t, none, code, impl.OK)
			if want := toldIn(whole[:at]) + "error form\n" + toldIn(whole[at:]); got != want {
				t.Errorf("%q at %d: %.600q, not %.600q", none, at, got, want)
			}
		}
	}
}

// How many lines there may be: those that say nothing count, and what stands
// behind the last byte 10 counts if it has a byte.
func TestMostLinesOfAText(t *testing.T) {
	for _, line := range []string{"tick 1", "", " ", "#", "# x", "none", "s0 noop", "i0 a noop", "crash", "snap a", "x\r"} {
		var due []exchange
		for _, n := range []int{0, 1, 2, 79, 80} {
			all := mustScriptDue(t, fmt.Sprint(n, " of ", line), strings.Repeat(line+"\n", n))
			if len(all) != n {
				t.Errorf("%d lines of %q, not %d", len(all), line, n)
			}
			due = append(due, exchange{line, toldIn(all)})
		}
		if said := due[4].said; !mutes(line) && line != "crash" && strings.Count(said, "\n") < 80 {
			t.Errorf("%q: %q is said 80 times", line, said)
		}
		eighty := strings.Repeat(line+"\n", 80)
		if line != "" {
			mustScript(t, line+" without its end", strings.TrimSuffix(eighty, "\n"), due[4].said)
		}
		for _, more := range []string{"\n", " ", "x", "#", "\n\n", " \n", "#\n", "tick 1", "tick 1\n", "\x00", "\r"} {
			mustNotScript(t, fmt.Sprintf("80 of %q and %q", line, more), eighty+more, impl.ErrMany)
			mustNotScript(t, fmt.Sprintf("%q and 80 of %q", more, line), strings.TrimSuffix(more, "\n")+"\n"+eighty, impl.ErrMany)
		}
		for _, n := range []int{81, 82, 100, 120, 121, 4096, 4097, 6000} {
			mustNotScript(t, fmt.Sprint(n, " of ", line), strings.Repeat(line+"\n", n), impl.ErrMany)
		}
	}
	mustNotScript(t, "65536 lines", strings.Repeat("\n", 65536), impl.ErrMany)
	mustNotScript(t, "lines that are many", strings.Repeat("#\n", 32768), impl.ErrMany)
}

// How long a text may be.
func TestLongestTexts(t *testing.T) {
	for _, n := range []int{65535, 65536} {
		for head, want := range map[string]string{"s0 ": "500 too long\n", "i1 a ": "* BAD\n", "snap ": "error name\n", "drop ": "error none\n", "none ": "error form\n", "#": "", "tick 7\n# ": "ok\n"} {
			mustScript(t, fmt.Sprintf("%q and more", head), head+long(n-len(head)), want)
			mustScript(t, fmt.Sprintf("%q and more, ended", head), head+long(n-len(head)-1)+"\n", want)
		}
		for head, want := range map[string]string{"": "", "s0 ": "500 too long\n", "i0 ": "* BAD\n", "crash ": "ok\n", "tick 1 ": "ok\n", "snap ": "error form\n", "snap a": "ok\n"} {
			mustScript(t, fmt.Sprintf("%q and blanks", head), head+strings.Repeat(" ", n-len(head)), want)
			mustScript(t, fmt.Sprintf("%q and blanks, ended", head), head+strings.Repeat(" ", n-len(head)-1)+"\n", want)
		}
		mustScript(t, "words", strings.Repeat("x ", n/2), "error form\n")
	}
	mustScript(t, "80 long lines", strings.Repeat("# "+long(816)+"\n", 80), "")
	for _, n := range []int{65537, 65538, 100000, 1 << 20} {
		for _, head := range []string{"", "s0 ", "tick 7\n", "#", "snap a\nsnap a\n", strings.Repeat("\n", 81)} {
			for _, fill := range []string{"x", " ", "\n", "#"} {
				mustNotScript(t, fmt.Sprintf("%q and more", head), head+strings.Repeat(fill, n-len(head)), impl.ErrLong)
			}
		}
	}
}

// Lines of a mail's text that say nothing to the console are none of the text;
// those to the session are, whatever they are.
func TestMailsByAConsole(t *testing.T) {
	mustTalk(t, "mute lines", slices.Concat(mailed("", "s0 one", "# none", "   ", "s0  ", "#s0 x", "s0 #", "", "s0  # two"), selected(1, 1, 2), []exchange{{"i1 c fetch 1", "* FETCH 1 () {15}\none\n \n#\n # two\n\nc OK\n"}}))
	mustTalk(t, "other lines", slices.Concat(mailed("s0 tick 1", "s0 restart", "s0 ..", "s0 s1 .", "s0 x\r"), selected(1, 1, 2), []exchange{{"i1 c fetch 1", "* FETCH 1 () {25}\ntick 1\nrestart\n.\ns1 .\nx\r\n\nc OK\n"}}))
	lines := mailed("s0 x")
	mustTalk(t, "acts between", slices.Concat(lines[:5], []exchange{{"tick 3", "ok\n"}, {"snap a", "ok\n"}, {"none", "error form\n"}, {"s0", "error form\n"}, {"s1 .", "500 what\n"}, {"i0 a noop", "a OK\n"}}, lines[5:], selected(1, 1, 2), []exchange{{"i1 c fetch 1", "* FETCH 1 () {2}\nx\n\nc OK\n"}}))
}

// A power that goes takes the sessions with it, and nothing that was answered.
func TestPowerOfAConsole(t *testing.T) {
	down := []exchange{{"s0 noop", "error down\n"}, {"i0 a noop", "error down\n"}, {"snap x", "error down\n"}, {"tick 1", "error down\n"}, {"crash", "error down\n"}, {"arm", "error down\n"}, {"none", "error form\n"}, {"", ""}, {"# x", ""}, {"tick 1001", "error down\n"}, {"restart", "ok\n"}}
	mustTalk(t, "a crash", slices.Concat(mailed("s0 x"), []exchange{{"snap one", "ok\n"}, {"s0 mail from:<me>", "250 ok\n"}, {"crash", "ok\n"}}, down, []exchange{{"s0 rcpt to:<ann>", "503 order\n"}, {"i1 c noop", "c OK\n"}, {"snap one", "error twice\n"}}, selected(1, 1, 2), []exchange{{"i1 c fetch 1", "* FETCH 1 () {2}\nx\n\nc OK\n"}}))
	mustTalk(t, "armed", slices.Concat(mailed("s0 x"), []exchange{{"snap one", "ok\n"}, {"arm", "ok\n"}, {"s0 noop", "250 ok\n"}, {"tick 1", "ok\n"}, {"snap one", "error twice\n"}, {"drop two", "error none\n"}, {"snap two", "error down\n"}}, down, []exchange{{"drop two", "error none\n"}, {"drop one", "ok\n"}}, selected(1, 1, 2)))
	mustTalk(t, "armed, and lines", slices.Concat([]exchange{{"i0 a login bob berry", "a OK\n"}, {"arm", "ok\n"}, {"i0 b create inbox", "b NO twice\n"}, {"i0 c create work", "error down\n"}}, down, []exchange{{"i0 d list", "d NO state\n"}, {"i0 e login bob berry", "e OK\n"}, {"i0 f list", "* LIST inbox\nf OK\n"}, {"arm", "ok\n"}, {"crash", "ok\n"}, {"restart", "ok\n"}, {"user cy cider", "ok\n"}}))
}
