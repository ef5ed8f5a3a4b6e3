package tests

import (
	"fmt"
	"math/rand"
	"slices"
	"strings"
	"testing"

	"loop.example/g00340/impl"
)

// muteLines say nothing; formLines are none.
func muteLines() []string {
	return []string{"", " ", "     ", "#", "# a word", " # s0 noop", "#restart", "#\r", "  ##"}
}

func formLines() []string {
	return []string{"none", "s0", "s0 ", "i2 a noop", " s1 noop", "TICK 1", "tick", "tick 01", "tick 1 2", "snap", "snap a b", "drop", "prune x", "restore a", "restore a b c d", "user ann", "crash now", "arm\t", "\rrestart", "\x00", "S0 noop"}
}

// scripted is a world that is led by lines alone.
type scripted struct{ *audited }

// next gives a line: mostly one that asks for an act that can be done.
func (s *scripted) next() string {
	switch n := s.r.Intn(20); n {
	case 0:
		return pick(s.r, muteLines()...)
	case 1:
		return pick(s.r, formLines()...)
	case 2:
		return pick(s.r, "tick -1", "tick 1001", "restart", "prune 60000", "i0 a logout", "i1 a logout", "s0 quit", "restore a ann none", "snap 9", "user cid cherry")
	}
	line := strings.ReplaceAll(lineOf(s.act()), "\n", "\r")
	if len(line) > 300 {
		line = line[:300]
	}
	if s.r.Intn(9) == 0 && !strings.ContainsAny(line[:2], "01") {
		line = "  " + strings.ReplaceAll(line, " ", "   ") + " "
	}
	return line
}

// someScript gives n lines of all sorts: those to sessions, acts, the power that
// goes and comes, lines that say nothing, lines that are none.
func someScript(r *rand.Rand, n int) []string {
	s := &scripted{audit(r, false)}
	var lines []string
	for range n {
		line := s.next()
		lines = append(lines, line)
		if a, ok := actIn(line); ok {
			s.w = worldDo(s.w, a).world
		}
	}
	return lines
}

// What is said to the first lines is the beginning of what is said to all of
// them, for each number of lines.
func TestFirstLinesStandAlone(t *testing.T) {
	t.Parallel()
	r := rand.New(rand.NewSource(151))
	seen := map[string]int{}
	for i := range 12 {
		lines := someScript(r, []int{80, 80, 79, 40}[i%4])
		due := mustScriptDue(t, "all lines", scriptOf(lines...))
		all, code := impl.Console(scriptOf(lines...))
		mustCode(t, "all lines", code, impl.OK)
		for n := range lines {
			for what, text := range map[string]string{"": scriptOf(lines[:n]...), ", the last one not ended": strings.TrimSuffix(scriptOf(lines[:n]...), "\n")} {
				first, code := impl.Console(text)
				mustCode(t, "the first lines", code, impl.OK)
				if first != toldIn(due[:n]) || !strings.HasPrefix(all, first) {
					t.Fatalf("script %d: the first %d lines%s: %.900q, not the beginning of %.900q", i, n, what, first, all)
				}
			}
			for _, word := range linesIn(due[n].told) {
				seen[word]++
			}
			seen[fmt.Sprint(mutes(lines[n]), " ", impl.CodeWord(due[n].code))]++
		}
		if last := due[len(due)-1].world; last.Lost {
			t.Errorf("script %d: lost", i)
		}
	}
	mustHaveSeen(t, seen, "250 ok", "354 go on", "a OK", "* BYE", "ok", "error form", "error down", "error range", "error none", "error twice", "error name", "error user", "error folder", "true ok", "false ok")
}

// Whatever comes behind some lines changes nothing of what is said to them, be
// it a line that is none, the power that goes, or another script.
func TestLaterLinesChangeNothing(t *testing.T) {
	t.Parallel()
	r := rand.New(rand.NewSource(152))
	for i := range 24 {
		lines := someScript(r, 30)
		first, code := impl.Console(scriptOf(lines...))
		mustCode(t, "the first lines", code, impl.OK)
		for range 6 {
			more := someScript(r, r.Intn(51))
			if r.Intn(3) == 0 {
				more = slices.Repeat([]string{pick(r, "crash", "arm", "restart", "none", "#", "s0 quit", "i0 a logout")}, r.Intn(51))
			}
			text := scriptOf(append(slices.Clone(lines), more...)...)
			all, code := impl.Console(text)
			mustCode(t, "all lines", code, impl.OK)
			if !strings.HasPrefix(all, first) {
				t.Fatalf("script %d: %.900q does not begin with %.900q", i, all, first)
			}
			mustScriptDue(t, "all lines", text)
		}
		mustNotScript(t, "too many", scriptOf(append(slices.Clone(lines), slices.Repeat([]string{pick(r, muteLines()...)}, 51)...)...), impl.ErrMany)
	}
}

// Lines that say nothing change nothing wherever they are put in, but count.
func TestMuteLinesAnywhere(t *testing.T) {
	t.Parallel()
	r := rand.New(rand.NewSource(153))
	for range 12 {
		lines := someScript(r, 40)
		want, code := impl.Console(scriptOf(lines...))
		mustCode(t, "without", code, impl.OK)
		for at := range len(lines) + 1 {
			with := slices.Insert(slices.Clone(lines), at, pick(r, muteLines()...))
			got, code := impl.Console(scriptOf(with...))
			mustCode(t, "one put in", code, impl.OK)
			if got != want {
				t.Fatalf("a line that says nothing at %d: %.900q, not %.900q", at, got, want)
			}
		}
		for len(lines) < 80 {
			lines = slices.Insert(lines, r.Intn(len(lines)+1), pick(r, muteLines()...))
		}
		mustScript(t, "80 lines", scriptOf(lines...), want)
		mustNotScript(t, "81 lines", scriptOf(slices.Insert(lines, r.Intn(81), pick(r, muteLines()...))...), impl.ErrMany)
	}
}

// The same two scripts, one behind the other: the second one finds what the
// first one left, as one text has one world; two texts have two.
func TestOneTextOneWorld(t *testing.T) {
	script := scriptOf("user cy cider", "snap one")
	mustScript(t, "once", script, "ok\nok\n")
	mustScript(t, "twice in a text", script+script, "ok\nok\nerror twice\nerror twice\n")
	mustScript(t, "once more", script, "ok\nok\n")
}
