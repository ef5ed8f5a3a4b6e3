package tests

import (
	"fmt"
	"maps"
	"math/rand"
	"reflect"
	"runtime"
	"slices"
	"strings"
	"sync"
	"testing"

	"loop.example/g00340/impl"
)

// manyTexts lead the calls of chapter 16 to each of their ends.
func manyTexts() []string {
	texts := []string{"", "\n", scriptOf(longDay()...), scriptOf(append(longDay(), lookRound()...)...), scriptOf(fullInbox()...), strings.Repeat("tick 1\n", 80), strings.Repeat("tick 1\n", 81), strings.Repeat("\n", 81),
		long(65536), long(65537), strings.Repeat(" ", 65537), strings.Repeat("\n", 65537), scriptOf("arm", "snap a", "snap b", "restart", "crash", "restart"), "s0 " + long(65533), "s0 " + long(65534), "#" + long(65535), "\x00", "\xff\n\xff"}
	for _, line := range slices.Sorted(maps.Keys(orders())) {
		texts = append(texts, line, " "+line+" ", line+" x", strings.ToUpper(line))
	}
	for _, line := range slices.Concat(muteLines(), formLines(), lineBytes()) {
		texts = append(texts, line, "s0 "+line, "i1 "+line, "snap one\n"+line+"\nsnap one")
	}
	return texts
}

// askConsole writes down what all calls of chapter 16 answer.
func askConsole(text string) (told string, codes [2]int) {
	a, code := impl.ReadLine(text)
	said, of := impl.Console(text)
	return fmt.Sprintf("%+v %d; %q %d", a, code, said, of), [2]int{code, of}
}

// Alike texts have alike answers, wherever they lie; what lies behind the end of
// a text is no part of it.
func TestConsoleHangsOnItsTextAlone(t *testing.T) {
	t.Parallel()
	for _, text := range manyTexts() {
		want, codes := askConsole(text)
		if codes[0] != impl.OK && !strings.HasPrefix(want, "{Kind:0 Session:0 N:0 Line: Admin:{Kind:0 Before:0 Name: User: Folder:} Keep:[]}") || codes[1] != impl.OK && !strings.Contains(want, `; "" `) {
			t.Errorf("%.200q: %.300s beside codes", text, want)
		}
		for what, other := range map[string]string{"again": text, "elsewhere": string([]byte(text)), "within another one": (text + "\nsnap one\nnone" + text)[:len(text)], "behind another one": ("snap one\n#" + text)[len("snap one\n#"):]} {
			if got, _ := askConsole(other); got != want {
				t.Fatalf("%.200q %s: %.600q, not %.600q", text, what, got, want)
			}
		}
	}
}

// The lists of an act are its own.
func TestActsOfLinesAreApart(t *testing.T) {
	for line, want := range orders() {
		a, _ := impl.ReadLine(line)
		if len(a.Keep) > 0 {
			t.Errorf("%s: Keep is %v", line, a.Keep)
		}
		spoil(a.Keep, 1)
		a.Keep = append(a.Keep, 1, 1, 1)
		if b, _ := impl.ReadLine(line); !reflect.DeepEqual(b, want) {
			t.Errorf("%s: %v, not %v", line, b, want)
		}
	}
}

// anyText gives a text that is a script, pieces of one, or any bytes.
func anyText(r *rand.Rand, known []string) string {
	switch r.Intn(4) {
	case 0:
		return known[r.Intn(len(known)>>(6*r.Intn(2)))]
	case 1:
		return someText(r, 200)
	case 2:
		b := []byte(scriptOf(someScript(r, r.Intn(12))...))
		for range r.Intn(6) {
			if len(b) > 0 {
				b[r.Intn(len(b))] = []byte(" \n#\x00\r01sxi\xff")[r.Intn(11)]
			}
		}
		return string(b[:r.Intn(len(b)+1)])
	}
	return scriptOf(someScript(r, r.Intn(30))...)
}

// No text makes a call panic, what is said is what is said by hand, and no
// answer hangs on the calls ahead: the same ones are asked again in the other
// direction.
func TestAnyTextsInAnyOrder(t *testing.T) {
	t.Parallel()
	r := rand.New(rand.NewSource(158))
	known := manyTexts()
	var texts, told []string
	seen := map[string]int{}
	for range 500 {
		text := anyText(r, known)
		answer, codes := askConsole(text)
		texts, told = append(texts, text), append(told, answer)
		for i, code := range codes {
			seen[fmt.Sprint(i, " ", impl.CodeWord(code))]++
		}
		if codes[1] == impl.OK {
			mustScriptDue(t, "any text", text)
		} else if len(text) <= 65536 && len(linesIn(text)) <= 80 {
			t.Errorf("%.200q: code %d", text, codes[1])
		}
	}
	for i, text := range slices.Backward(texts) {
		if again, _ := askConsole(text); again != told[i] {
			t.Fatalf("%.200q: %.600q, then %.600q", text, told[i], again)
		}
	}
	mustHaveSeen(t, seen, "0 ok", "0 form", "0 long", "1 ok", "1 many", "1 long")
}

// Calls that are under way at once are each answered as alone.
func TestConsolesAtOnce(t *testing.T) {
	text := scriptOf(append(longDay(), lookRound()...)...)
	want, _ := askConsole(text)
	line, _ := askConsole("restore one ann work")
	var all sync.WaitGroup
	for range 6 {
		all.Go(func() {
			for range 3 {
				if got, _ := askConsole(text); got != want {
					t.Errorf("%.900q, not %.900q", got, want)
				}
				if got, _ := askConsole("restore one ann work"); got != line {
					t.Errorf("%.900q, not %.900q", got, line)
				}
			}
		})
	}
	all.Wait()
}

// When a console has answered no goroutine of its own is left.
func TestNoGoroutineOfAConsoleIsLeft(t *testing.T) {
	ahead := runtime.NumGoroutine()
	for _, text := range manyTexts()[:18] {
		askConsole(text)
	}
	if !goroutinesSettle(ahead) {
		t.Errorf("%d goroutines, there were %d", runtime.NumGoroutine(), ahead)
	}
}
