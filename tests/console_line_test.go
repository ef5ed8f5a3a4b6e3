package tests

import (
	"fmt"
	"math/rand"
	"reflect"
	"slices"
	"strings"
	"testing"

	"loop.example/g00340/impl"
)

// orders are lines of words, each with the act that it asks for.
func orders() map[string]impl.WorldAct {
	return map[string]impl.WorldAct{
		"snap one":             {Kind: impl.WoAdmin, Admin: impl.Admin{Kind: impl.AdSnap, Name: "one"}},
		"drop one":             {Kind: impl.WoAdmin, Admin: impl.Admin{Kind: impl.AdDrop, Name: "one"}},
		"prune 7":              {Kind: impl.WoAdmin, Admin: impl.Admin{Kind: impl.AdPrune, Before: 7}},
		"restore one ann":      {Kind: impl.WoAdmin, Admin: impl.Admin{Kind: impl.AdUser, Name: "one", User: "ann"}},
		"restore one ann work": {Kind: impl.WoAdmin, Admin: impl.Admin{Kind: impl.AdFolder, Name: "one", User: "ann", Folder: "work"}},
		"user cy cider":        {Kind: impl.WoAdmin, Admin: impl.Admin{Kind: impl.AdNewUser, User: "cy", Name: "cider"}},
		"tick 7":               {Kind: impl.WoTick, N: 7},
		"crash":                {Kind: impl.WoCrash},
		"arm":                  {Kind: impl.WoArm},
		"restart":              {Kind: impl.WoRestart},
	}
}

func TestMaxLines(t *testing.T) {
	if impl.MaxLines != 80 {
		t.Error(impl.MaxLines)
	}
}

// Blanks ahead, behind and between are no matter where words are asked.
func TestLinesOfWords(t *testing.T) {
	for line, a := range orders() {
		for _, ahead := range []string{"", " ", "  ", strings.Repeat(" ", 60)} {
			for _, between := range []string{" ", "  ", "     ", strings.Repeat(" ", 999)} {
				for _, behind := range []string{"", " ", "   "} {
					mustLine(t, ahead+strings.ReplaceAll(line, " ", between)+behind, a)
				}
			}
		}
	}
}

// Each verb with a word less, and with words more. A restore has two forms, so
// one word less, or more, is the other one.
func TestWordsTooFewAndTooMany(t *testing.T) {
	for line := range orders() {
		words := strings.Fields(line)
		for n := range len(words) {
			if less := strings.Join(words[:n], " "); less != "restore one ann" {
				mustForm(t, less)
				mustForm(t, less+"  ")
			}
		}
		for _, more := range []string{" x", " x y", " 7 7 7", " #", strings.Repeat(" x", 50)} {
			if words[0] != "restore" || len(words)+len(strings.Fields(more)) != 4 {
				mustForm(t, line+more)
				mustForm(t, line+"  "+more+" ")
			}
		}
	}
	for _, line := range []string{"restore", "restore one", "restore one ann work x", "restore one ann work inbox ann", "crash 0", "crash 1", "arm 1", "arm 0 1", "restart now", "snap", "snap one 7", "drop", "drop one two", "prune", "prune 1 2", "tick", "tick 1 1", "user", "user cy", "user cy cider x"} {
		mustForm(t, line)
	}
}

// lineBytes are runs of bytes that a session may be told as they stand.
func lineBytes() []string {
	all := []string{" ", "  ", "x", " x", "x ", "NOOP", " NOOP ", "a  b", "s0 x", "i1 x", "#", "# x", " #", ".", "..", "\t", "\r", "\x00", "\xff", "\xc2\xa0", "x\r", "snap one", "a LOGIN ann apple", "\n", "x\ny", strings.Repeat(" ", 99), long(60), long(61)}
	for c := range 256 {
		all = append(all, string([]byte{byte(c)}), "a"+string([]byte{byte(c)})+"b")
	}
	return all
}

// The Line of a session is all that stands behind the first blank, byte by byte.
func TestLinesToSessions(t *testing.T) {
	for _, rest := range lineBytes() {
		mustLine(t, "s0 "+rest, impl.WorldAct{Kind: impl.WoSmtp, Line: rest})
		mustLine(t, "s1 "+rest, impl.WorldAct{Kind: impl.WoSmtp, Session: 1, Line: rest})
		mustLine(t, "i0 "+rest, impl.WorldAct{Kind: impl.WoImap, Line: rest})
		mustLine(t, "i1 "+rest, impl.WorldAct{Kind: impl.WoImap, Session: 1, Line: rest})
	}
}

// Lines that only look like those to a session are none: a blank ahead, no byte
// more, another number, another letter, another byte than a blank.
func TestLinesToNoSession(t *testing.T) {
	for _, seat := range []string{"s0", "s1", "i0", "i1"} {
		for _, line := range []string{seat, seat + " ", " " + seat, " " + seat + " ", " " + seat + " x", "  " + seat + " NOOP", strings.ToUpper(seat) + " x", seat + "\tx", seat + "x", seat + "x y", seat + "\x00x", "x" + seat + " x", seat + "\r x", seat + "0 x", seat + seat + " x"} {
			mustForm(t, line)
		}
		mustNotLine(t, seat+"\n", impl.ErrForm)
		mustNotLine(t, seat+"\n x", impl.ErrForm)
		mustNotLine(t, "\n"+seat+" x", impl.ErrForm)
	}
	for _, line := range []string{"s2 x", "i2 x", "s9 x", "s-1 x", "s x", "i x", "s 0 x", "i 1 x", "s00 x", "s01 x", "s10 x", "0 x", "1 x", "a0 x", "si x", "is x", "i0s0 x", "s+1 x", "\xff0 x", "s\x00 x"} {
		mustForm(t, line)
	}
	for c := range 256 {
		if b := string([]byte{byte(c)}); b != "\n" {
			for _, letter := range []string{"s", "i"} {
				if b != "0" && b != "1" {
					mustForm(t, letter+b+" x")
				}
				if b != " " {
					mustForm(t, letter+"0"+b+"x")
				}
			}
			if b != "s" && b != "i" && b != "#" {
				mustForm(t, b+"0 x")
			}
		}
	}
}

// Numbers are numbers' texts.
func TestNumbersOfLines(t *testing.T) {
	for text, n := range map[string]int{
		"0": 0, "1": 1, "9": 9, "10": 10, "1000": 1000, "1001": 1001, "60000": 60000, "60001": 60001, "-1": -1, "-3": -3, "-10": -10, "-60000": -60000,
		"4294967297": 4294967297, "100000000000000000": 100000000000000000, strings.Repeat("9", 18): 999999999999999999, "-" + strings.Repeat("9", 18): -999999999999999999,
	} {
		mustLine(t, "tick "+text, impl.WorldAct{Kind: impl.WoTick, N: n})
		mustLine(t, "prune "+text, impl.WorldAct{Kind: impl.WoAdmin, Admin: impl.Admin{Kind: impl.AdPrune, Before: n}})
		mustLine(t, "  tick   "+text+" ", impl.WorldAct{Kind: impl.WoTick, N: n})
		mustForm(t, "tick "+text+" "+text)
		mustForm(t, "tick -"+text+"-")
	}
	wrong := append(uidsThatAreNone(), "1000000000000000000", "-1000000000000000000", "0000", "-00", "- 1", "1 0", "1\t", "one", "７", "0.0", "+7", "7+", "#7", "\"7\"", "0b1", "0o7", "٣")
	for _, text := range wrong {
		for _, verb := range []string{"tick ", "prune "} {
			if strings.Contains(text, "\n") {
				mustNotLine(t, verb+text, impl.ErrForm)
			} else {
				mustForm(t, verb+text)
				mustForm(t, " "+verb+" "+text+" ")
			}
		}
	}
}

// Verbs are just their bytes.
func TestOtherVerbs(t *testing.T) {
	for line := range orders() {
		verb, rest, _ := strings.Cut(line, " ")
		if rest != "" {
			rest = " " + rest
		}
		for i := range verb {
			mustForm(t, verb[:i]+strings.ToUpper(verb[i:i+1])+verb[i+1:]+rest)
			if i > 0 {
				mustForm(t, verb[:i]+rest)
				mustForm(t, verb[:i]+" "+verb[i:]+rest)
			}
			mustForm(t, verb[:i]+verb[i+1:]+rest)
			mustForm(t, verb[:i]+"\x00"+verb[i:]+rest)
		}
		for _, other := range []string{strings.ToUpper(verb), strings.ToTitle(verb[:1]) + verb[1:], verb + "s", verb + "0", verb + "#", verb + ":", verb + "\r", "\t" + verb, "\ufeff" + verb, verb + verb, "-" + verb, "s0" + verb, verb + "\xff"} {
			mustForm(t, other+rest)
		}
	}
	for _, line := range []string{"x", "go", "help", "quit", "noop", "one", "7", "ok", "error form", "ann apple", "HELO me", "a LOGIN ann apple", "sync", "write 1 x", ".", "..", "-", "*", "a#", "\"#\"", "//", ";", "tock 7", "snapshot one", "restoreone ann", "ｓ0 x"} {
		mustForm(t, line)
	}
}

// Bytes that a page shows as room are no blanks: they are parts of words.
func TestBytesThatAreNoBlanks(t *testing.T) {
	for _, b := range []string{"\t", "\r", "\v", "\f", "\x00", "\x1f", "!", "\x7f", "\x85", "\xa0", "\xc2\xa0", "\u2003", "_"} {
		for line := range orders() {
			if strings.Contains(line, " ") {
				mustForm(t, strings.ReplaceAll(line, " ", b))
			} else {
				mustForm(t, line+" "+b)
			}
			mustForm(t, b+line)
			mustForm(t, b+" "+line)
			mustForm(t, strings.Replace(line+" ", " ", b+" ", 1))
		}
		mustLine(t, "snap one"+b, worldAct(snapNow("one"+b)))
		mustLine(t, "drop "+b+"one", worldAct(snapGone(b+"one")))
		mustLine(t, "user a"+b+"b "+b, worldAct(userMore("a"+b+"b", b)))
		mustLine(t, "restore "+b+" a"+b+" "+b+"c", worldAct(folderBack(b, "a"+b, b+"c")))
		mustForm(t, "tick"+b+"7")
		mustForm(t, "tick 7"+b)
		mustForm(t, b)
		mustForm(t, " "+b+" ")
		mustForm(t, b+"# x")
	}
	mustLine(t, "snap a\nb", worldAct(snapNow("a\nb")))
	mustLine(t, "restore \n \n\n x\n", worldAct(folderBack("\n", "\n\n", "x\n")))
	for _, line := range []string{"\n", "crash\n", "arm\n", "\nrestart", "tick 7\n", "tick\n7", "snap\none", "crash\n\n", "\n# x"} {
		mustNotLine(t, line, impl.ErrForm)
	}
}

// What stands behind a verb is no matter of the line: the act may have its code.
func TestNamesOfLines(t *testing.T) {
	for _, name := range []string{"a", "A", "_", "9", "#", "#x", "-1", "nine_byte", "tick", "restart", "s0", "\xff", "é", "inbox", long(40), long(41), long(30000)} {
		mustLine(t, "snap "+name, worldAct(snapNow(name)))
		mustLine(t, "drop "+name, worldAct(snapGone(name)))
		mustLine(t, "restore "+name+" "+name, worldAct(userBack(name, name)))
		mustLine(t, "user "+name+" "+name, worldAct(userMore(name, name)))
		if len(name) < 99 {
			mustLine(t, "restore "+name+" ann "+name, worldAct(folderBack(name, "ann", name)))
			mustLine(t, "restore one "+name+" inbox", worldAct(folderBack("one", name, "inbox")))
		}
	}
}

// Lines that say nothing ask for no act.
func TestLinesThatSayNothing(t *testing.T) {
	for _, line := range []string{"", " ", "  ", strings.Repeat(" ", 4096), "#", " #", "##", "# x", "#x", "#snap one", "  #  snap one", "# s0 NOOP", "#restart", "#\xff", "#\x00", "# #"} {
		if !mutes(line) {
			t.Errorf("%q says something", line)
		}
		mustForm(t, line)
	}
}

// The longest lines there may be, and those of a byte more.
func TestLongestLines(t *testing.T) {
	mustLine(t, "s1 "+long(65533), impl.WorldAct{Kind: impl.WoSmtp, Session: 1, Line: long(65533)})
	mustLine(t, "i0 "+strings.Repeat(" ", 65533), impl.WorldAct{Kind: impl.WoImap, Line: strings.Repeat(" ", 65533)})
	mustLine(t, "snap "+long(65531), worldAct(snapNow(long(65531))))
	mustLine(t, "restore one"+strings.Repeat(" ", 65521)+"ann ", worldAct(userBack("one", "ann")))
	mustLine(t, "tick "+strings.Repeat(" ", 65530)+"7", worldAct(later(7)))
	mustLine(t, "crash"+strings.Repeat(" ", 65531), worldAct(crashing()))
	mustLine(t, strings.Repeat(" ", 65531)+"crash", worldAct(crashing()))
	for _, line := range []string{long(65536), strings.Repeat(" ", 65536), strings.Repeat("#", 65536), strings.Repeat("x ", 32768), strings.Repeat("\n", 65536), "tick " + strings.Repeat("1", 65531), "s2 " + long(65533)} {
		mustNotLine(t, line, impl.ErrForm)
	}
	for _, n := range []int{65537, 65538, 99999, 1 << 20} {
		for _, head := range []string{"s0 ", "i1 ", "snap ", "none ", "#", "crash ", "tick 7 ", ""} {
			for _, fill := range []string{"x", " ", "\n"} {
				mustNotLine(t, head+strings.Repeat(fill, n-len(head)), impl.ErrLong)
			}
		}
	}
}

// Runs of words, blanks and other bytes are read as they are by hand.
func TestSomeLines(t *testing.T) {
	r := rand.New(rand.NewSource(150))
	parts := []string{"snap", "drop", "prune", "restore", "user", "tick", "crash", "arm", "restart", "s0", "s1", "i0", "i1", "#", "one", "ann", "work", "7", "-7", "0", "01", "\t", "x"}
	seen := map[string]int{}
	for range 100000 {
		var line strings.Builder
		for range r.Intn(6) {
			line.WriteString(pick(r, "", "", "", "", " ") + pick(r, parts...) + pick(r, " ", " ", " ", " ", "  ", "", "\n"))
		}
		text := line.String()
		if r.Intn(9) == 0 {
			text = someText(r, 12)
		}
		want, ok := actIn(text)
		a, code := impl.ReadLine(text)
		wantCode := impl.ErrForm
		if ok {
			wantCode = impl.OK
		}
		if code != wantCode || !reflect.DeepEqual(a, want) {
			t.Fatalf("%q: %v %d, not %v %d", text, a, code, want, wantCode)
		}
		seen[fmt.Sprint(a.Kind, a.Admin.Kind)]++
		if mutes(text) {
			seen["mute"]++
		}
	}
	for _, word := range []string{"0 0", "1 0", "2 0", "3 1", "3 2", "3 3", "3 4", "3 5", "3 6", "4 0", "5 0", "6 0", "7 0", "mute"} {
		if seen[word] < 20 {
			t.Errorf("%s: %d times", word, seen[word])
		}
	}
}

// A line that is told of an act asks for just that act.
func TestLinesOfActs(t *testing.T) {
	for _, a := range slices.Concat(readyActs(), thenActs(), worldActs(restarting(), crashing(), arming(), later(-1), pruneNow(-9))) {
		mustLine(t, lineOf(a), a)
	}
}
