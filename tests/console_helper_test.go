package tests

import (
	"fmt"
	"reflect"
	"regexp"
	"slices"
	"strconv"
	"strings"
	"testing"

	"loop.example/g00340/impl"
)

// scriptOf gives the text of some lines, each with a byte 10.
func scriptOf(lines ...string) string {
	var out strings.Builder
	for _, line := range lines {
		out.WriteString(line + "\n")
	}
	return out.String()
}

// linesIn gives the lines of a text.
func linesIn(text string) []string {
	var lines []string
	for _, piece := range strings.SplitAfter(text, "\n") {
		if piece != "" {
			lines = append(lines, strings.TrimSuffix(piece, "\n"))
		}
	}
	return lines
}

// wordsIn gives the words of a line.
func wordsIn(line string) []string {
	return slices.DeleteFunc(strings.Split(line, " "), func(word string) bool { return word == "" })
}

// mutes tells whether a line says nothing.
func mutes(line string) bool {
	words := wordsIn(line)
	return len(words) == 0 || words[0][0] == '#'
}

var numberText = regexp.MustCompile(`^(0|-?[1-9][0-9]{0,17})$`)

// actIn gives the act that a line asks for, by the shape that it has: how many
// words stand behind the verb, and whether a number does.
func actIn(line string) (impl.WorldAct, bool) {
	if len(line) > 3 && slices.Contains([]string{"s0 ", "s1 ", "i0 ", "i1 "}, line[:3]) {
		return impl.WorldAct{Kind: 1 + strings.IndexByte("si", line[0]), Session: int(line[1] - '0'), Line: line[3:]}, true
	}
	words := wordsIn(line)
	if len(words) == 0 || len(words) > 4 {
		return impl.WorldAct{}, false
	}
	shape, number := words[0]+strings.Repeat(" x", len(words)-1), 0
	if len(words) == 2 && numberText.MatchString(words[1]) {
		number, _ = strconv.Atoi(words[1])
		shape = strings.NewReplacer("tick x", "tick N", "prune x", "prune N").Replace(shape)
	}
	words = append(words, "", "", "")
	a, there := map[string]impl.WorldAct{
		"tick N": {Kind: 4, N: number}, "crash": {Kind: 5}, "arm": {Kind: 6}, "restart": {Kind: 7},
		"snap x":        worldAct(snapNow(words[1])),
		"drop x":        worldAct(snapGone(words[1])),
		"prune N":       worldAct(pruneNow(number)),
		"restore x x":   worldAct(userBack(words[1], words[2])),
		"restore x x x": worldAct(folderBack(words[1], words[2], words[3])),
		"user x x":      worldAct(userMore(words[1], words[2])),
	}[shape]
	return a, there
}

// lineOf gives the line that asks for an act; what a line can't tell, as a Keep,
// is left out of it.
func lineOf(a impl.WorldAct) string {
	d := a.Admin
	switch {
	case a.Kind == 1 || a.Kind == 2:
		return fmt.Sprintf("%c%d %s", "si"[a.Kind-1], a.Session, a.Line)
	case a.Kind == 3 && d.Kind >= 1 && d.Kind <= 6:
		return []string{"snap " + d.Name, "drop " + d.Name, fmt.Sprint("prune ", d.Before), "restore " + d.Name + " " + d.User + " " + d.Folder, "restore " + d.Name + " " + d.User, "user " + d.User + " " + d.Name}[d.Kind-1]
	case a.Kind >= 4 && a.Kind <= 7:
		return []string{fmt.Sprint("tick ", a.N), "crash", "arm", "restart"}[a.Kind-4]
	}
	return "none"
}

// mustLine asks a line for its act.
func mustLine(t *testing.T, line string, want impl.WorldAct) {
	t.Helper()
	a, code := impl.ReadLine(line)
	mustCode(t, fmt.Sprintf("%.99q", line), code, impl.OK)
	if !reflect.DeepEqual(a, want) {
		t.Errorf("%.99q: %.300q, not %.300q", line, fmt.Sprint(a), fmt.Sprint(want))
	}
	if hand, ok := actIn(line); !ok || !reflect.DeepEqual(hand, want) {
		t.Errorf("%.99q: by hand %.300q, %t, not %.300q", line, fmt.Sprint(hand), ok, fmt.Sprint(want))
	}
}

// mustNotLine asks for a code, with which the act is empty.
func mustNotLine(t *testing.T, line string, want int) {
	t.Helper()
	a, code := impl.ReadLine(line)
	mustCode(t, fmt.Sprintf("%.99q", line), code, want)
	if !reflect.DeepEqual(a, impl.WorldAct{}) {
		t.Errorf("%.99q: %.300q, which is not empty", line, fmt.Sprint(a))
	}
	if _, ok := actIn(line); ok && want == impl.ErrForm {
		t.Errorf("%.99q: an act by hand", line)
	}
}

// mustForm asks that a line is none: no act, and a console says so.
func mustForm(t *testing.T, line string) {
	t.Helper()
	mustNotLine(t, line, impl.ErrForm)
	if !strings.Contains(line, "\n") && len(line) < 65536 {
		want := "error form\n"
		if mutes(line) {
			want = ""
		}
		mustScript(t, fmt.Sprintf("%.99q", line), line+"\n", want)
	}
}

// spoke is what a console did with one line, by hand.
type spoke struct {
	line, told string
	world      impl.World
	code       int
}

// spokenByHand does the lines of a text with WorldStep.
func spokenByHand(lines []string) []spoke {
	w := impl.NewWorld()
	var all []spoke
	for _, line := range lines {
		s := spoke{line: line}
		if !mutes(line) {
			said := []string(nil)
			a, ok := actIn(line)
			if s.code = impl.ErrForm; ok {
				told := worldDo(w, a)
				w, said, s.code = told.world, told.said, told.code
			}
			if s.code != impl.OK {
				said = append(said, "error "+impl.CodeWord(s.code))
			} else if a.Kind > 2 {
				said = append(said, "ok")
			}
			s.told = scriptOf(said...)
		}
		s.world = w
		all = append(all, s)
	}
	return all
}

// toldIn gives all that is told in some lines.
func toldIn(all []spoke) string {
	var out strings.Builder
	for _, s := range all {
		out.WriteString(s.told)
	}
	return out.String()
}

// mustScript asks a console for what it says to a text, and holds that against
// what is said by hand.
func mustScript(t *testing.T, what, text, want string) {
	t.Helper()
	got, code := impl.Console(text)
	mustCode(t, what, code, impl.OK)
	if got != want {
		t.Errorf("%s: %.900q is said, not %.900q", what, got, want)
	}
	if hand := toldIn(spokenByHand(linesIn(text))); hand != want {
		t.Errorf("%s: %.900q is said by hand, not %.900q", what, hand, want)
	}
}

// mustScriptDue asks a console for what is said by hand.
func mustScriptDue(t *testing.T, what, text string) []spoke {
	t.Helper()
	all := spokenByHand(linesIn(text))
	mustScript(t, what, text, toldIn(all))
	return all
}

// mustNotScript asks for a code, with which nothing is said.
func mustNotScript(t *testing.T, what, text string, want int) {
	t.Helper()
	got, code := impl.Console(text)
	mustCode(t, what, code, want)
	if got != "" {
		t.Errorf("%s: %.900q is said", what, got)
	}
}
