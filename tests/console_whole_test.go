package tests

import (
	"fmt"
	"math/rand"
	"slices"
	"strings"
	"testing"

	"loop.example/g00340/impl"
)

// watched is an audited world whose snapshots and whose archive are looked at
// behind each act, too.
type watched struct {
	*audited
	was   impl.State    // when the server was Up the last time
	under impl.WorldAct // the last act that came to a server that was Up
}

func watch(r *rand.Rand, calm bool) *watched {
	return &watched{audited: audit(r, calm), was: stateWith(newPairs())}
}

// fork gives the same world, which goes its own way.
func (w *watched) fork() *watched {
	a := *w.audited
	return &watched{audited: &a, was: w.was, under: w.under}
}

// do asks for the theorem of the whole behind an act.
func (w *watched) do(t *testing.T, act impl.WorldAct) worldTold {
	t.Helper()
	what := actName(act)
	if w.w.Server.Up {
		w.under = act
	}
	got := w.audited.do(t, act)
	if !impl.WorldOK(w.w) {
		t.Errorf("%s: no right world", what)
	}
	if w.w.Server.Up {
		now := stateOnStore(w.w.Server.Store)
		mustState(t, what, w.w.Done, now)
		w.snapsStay(t, what, now)
		w.seen[fmt.Sprint("archive of ", len(holdsArchive(t, what, w.w.Server.Store)))]++
		w.was = now
	}
	return got
}

// snapsStay asks that each snapshot is what it was, unless the one act that may
// have been done drops it, and that one more has just what there is.
func (w *watched) snapsStay(t *testing.T, what string, now impl.State) {
	t.Helper()
	for _, k := range w.was.Snaps {
		at := slices.IndexFunc(now.Snaps, func(n impl.Kept) bool { return n.Name == k.Name })
		gone := at < 0 && w.under.Kind == impl.WoAdmin && (w.under.Admin.Kind == impl.AdDrop && w.under.Admin.Name == k.Name || w.under.Admin.Kind == impl.AdPrune && k.Tick < w.under.Admin.Before)
		if !gone && (at < 0 || !alikeStates(impl.State{Snaps: []impl.Kept{k}}, impl.State{Snaps: now.Snaps[at : at+1]})) {
			t.Errorf("%s: the snapshot %s is not what it was", what, k.Name)
		}
	}
	for _, k := range now.Snaps {
		if slices.ContainsFunc(w.was.Snaps, func(n impl.Kept) bool { return n.Name == k.Name }) {
			continue
		}
		taken := w.under.Kind == impl.WoAdmin && w.under.Admin.Kind == impl.AdSnap && w.under.Admin.Name == k.Name
		if !taken || k.Tick != w.w.Server.Tick || !slices.Equal(k.Pairs, w.was.Pairs) || !slices.Equal(k.Pairs, now.Pairs) {
			t.Errorf("%s: the snapshot %s of %d has %v", what, k.Name, k.Tick, k.Pairs)
		}
	}
}

// actOfLine gives the act of a line, if it asks for one.
func actOfLine(t *testing.T, line string) (a impl.WorldAct, ok bool) {
	t.Helper()
	a, code := impl.ReadLine(line)
	if code != impl.OK {
		mustCode(t, line, code, impl.ErrForm)
	}
	return a, code == impl.OK
}

// The theorem of the whole, of worlds that a console runs: what it says is what
// they said, line by line, and WorldRun leads to the same one.
func TestTheWholeByAConsole(t *testing.T) {
	t.Parallel()
	r := rand.New(rand.NewSource(154))
	seen := map[string]int{}
	for range 20 {
		w := watch(r, false)
		w.seen = seen
		var lines []string
		var acts []impl.WorldAct
		for range 80 {
			line := (&scripted{w.audited}).next()
			lines = append(lines, line)
			if a, ok := actOfLine(t, line); ok {
				acts = append(acts, a)
				w.do(t, a)
			}
			if t.Failed() {
				t.Fatalf("%.9000q", lines)
			}
		}
		mustScriptDue(t, "a script", scriptOf(lines...))
		mustWorld(t, "WorldRun", mustWorldRun(t, "WorldRun", acts), w.w)
	}
	mustHaveSeen(t, seen, "moved", "doubt", "1 ok", "1 down", "2 ok", "2 down", "4 ok", "5 ok", "6 ok", "7 ok", "archive of 0", "archive of 1", "archive of 3",
		"administrator 1 ok", "administrator 2 ok", "administrator 3 ok", "administrator 4 ok", "administrator 5 ok", "administrator 6 ok", "administrator 1 down", "administrator 5 down")
}

// The same of worlds whose crashes keep some writes, by WorldRun.
func TestTheWholeByWorldRun(t *testing.T) {
	t.Parallel()
	r := rand.New(rand.NewSource(155))
	seen := map[string]int{}
	for i := range 12 {
		w := watch(r, i%4 == 0)
		w.seen = seen
		var acts []impl.WorldAct
		for range 120 {
			acts = append(acts, w.act())
			w.do(t, acts[len(acts)-1])
			if t.Failed() {
				t.Fatalf("behind %d acts", len(acts))
			}
		}
		mustWorld(t, "WorldRun", mustWorldRun(t, "WorldRun", acts), w.w)
	}
	mustHaveSeen(t, seen, "moved", "doubt", "1 ok", "1 down", "2 ok", "2 down", "3 ok", "3 down", "5 ok", "6 ok", "7 ok", "archive of 0", "archive of 4", "administrator 4 ok", "administrator 5 ok")
}

// longDay is a script in which all comes that a world does with its power on.
func longDay() []string {
	return []string{
		"s0 helo me", "s0 mail from:<me>", "s0 rcpt to:<ann>", "s0 rcpt to:<bob>", "s0 data", "s0 Subject: one", "s0 .",
		"tick 5", "snap one", "i0 a login ann apple", "i0 b create work", "i0 c select inbox", "i0 d copy 1 work", "i0 e store 1 3", "snap two",
		"i1 a login bob berry", "i1 b select inbox", "i1 c store 1 2", "i1 d expunge", "i0 f expunge", "tick 7", "snap ahead", "i0 g rename work far",
		"restore one ann inbox", "restore two ann", "user cy cider", "s1 helo you", "s1 mail from:<you>", "s1 rcpt to:<cy>", "s1 data", "s1 two", "s1 .",
		"restore one bob", "snap last", "prune 6", "i0 h delete work", "drop ahead", "snap one", "restore last ann work", "drop last",
	}
}

// lookRound is a script by which all is told that a world has: it is restarted,
// so that both of its sessions that read are new.
func lookRound() []string {
	lines := []string{"crash", "restart"}
	for k, user := range []string{"bob berry", "ann apple"} {
		head := fmt.Sprintf("i%d a ", k)
		lines = append(lines, head+"login "+user, head+"list")
		for _, folder := range []string{"inbox", "work", "far"} {
			lines = append(lines, head+"select "+folder, head+"search ", head+"fetch 1")
		}
	}
	return append(lines, "restore one cy", "restore last cy", "drop one", "drop two", "drop ahead", "drop last")
}

// looked gives what lookRound tells behind some lines, and all that is said
// ahead of it.
func looked(t *testing.T, lines []string) (ahead, told string) {
	t.Helper()
	ahead, code := impl.Console(scriptOf(lines...))
	mustCode(t, "ahead", code, impl.OK)
	all, code := impl.Console(scriptOf(append(slices.Clone(lines), lookRound()...)...))
	mustCode(t, "looked", code, impl.OK)
	if !strings.HasPrefix(all, ahead) {
		t.Errorf("%.900q does not begin with %.900q", all, ahead)
	}
	return ahead, all[len(ahead):]
}

// By a console alone: wherever the power goes, at once or in the next commit,
// what is told when it is back is what was told ahead.
func TestAConsoleTellsWhatWasAnswered(t *testing.T) {
	t.Parallel()
	lines := longDay()
	due := mustScriptDue(t, "a long day", scriptOf(lines...))
	if said := toldIn(due); strings.Contains(said, "error") || strings.Contains(said, "NO") || strings.Contains(said, "BAD") {
		t.Fatalf("a long day: %q", said)
	}
	var rounds []string
	known := map[string]bool{}
	for n := range len(lines) + 1 {
		_, told := looked(t, lines[:n])
		rounds, known[told] = append(rounds, told), true
	}
	if len(known) < 15 {
		t.Errorf("the rounds tell %d worlds apart", len(known))
	}
	for at := range len(lines) + 1 {
		for what, more := range map[string][]string{"a crash": {"crash", "restart"}, "a crash that is looked for": {"crash", "s0 noop", "snap x", "tick 1", "restart"}, "two of them": {"crash", "restart", "crash", "restart"}, "armed, then crashed": {"arm", "crash", "restart"}} {
			if _, told := looked(t, append(slices.Clone(lines[:at]), more...)); told != rounds[at] {
				t.Fatalf("%s at %d: %.900q is told, not %.900q", what, at, told, rounds[at])
			}
		}
		armed := append(slices.Insert(slices.Clone(lines), at, "arm"), "restart")
		ahead, told := looked(t, armed)
		want := rounds[len(lines)]
		if down := slices.IndexFunc(spokenByHand(armed), func(s spoke) bool { return s.told == "error down\n" }); down >= 0 {
			want = rounds[down-1]
		}
		if told != want {
			t.Fatalf("armed at %d: %.900q is told behind %.900q, not %.900q", at, told, ahead, want)
		}
	}
}

// An armed disk at any place of a long day, with each sort of writes kept, and
// what may come behind it.
func TestAnArmedDiskAtAnyPlace(t *testing.T) {
	t.Parallel()
	var acts []impl.WorldAct
	for _, line := range longDay() {
		a, _ := actOfLine(t, line)
		acts = append(acts, a)
	}
	r := rand.New(rand.NewSource(156))
	behind := worldActs(restarting(), userBack("one", "ann"), snapNow("behind"), folderBack("two", "bob", "inbox"), toReader(0, "a login ann apple"), toReader(0, "a create new"), crashing(1, 1), restarting(), pruneNow(60000))
	day := watch(r, true)
	for at := range len(acts) + 1 {
		for _, a := range worldActs(arming(), arming(slices.Repeat([]int{1}, 60)...), arming(keptWrites(r)...), crashing(1)) {
			w := day.fork()
			run := slices.Concat([]impl.WorldAct{a}, acts[at:], behind)
			for _, one := range run {
				ahead := w.w
				if w.do(t, one); ahead.Server.Up && !w.w.Server.Up {
					mustState(t, "what is Done", w.w.Done, ahead.Done)
				}
			}
			if w.w.Lost || !w.w.Server.Up || len(w.w.Done.Snaps) > 0 {
				t.Errorf("Lost %t, Up %t, %v", w.w.Lost, w.w.Server.Up, w.w.Done.Snaps)
			}
			world, _, code := impl.WorldRun(append(slices.Clone(acts[:at]), run...))
			mustCode(t, "WorldRun", code, impl.OK)
			mustWorld(t, "WorldRun", world, w.w)
			if t.Failed() {
				t.Fatalf("armed at %d with %v", at, a.Keep)
			}
		}
		if at < len(acts) {
			day.do(t, acts[at])
		}
	}
}

// The power that goes between any two writes of a commit, in any line of a long
// day: what is there is what was answered, or that and the line; the day goes on.
func TestALongDayIsCut(t *testing.T) {
	t.Parallel()
	lines := longDay()
	w := watch(rand.New(rand.NewSource(157)), true)
	cuts := 0
	for n, line := range lines {
		ahead, was := cloneWorld(w.w), w.fork()
		act, _ := actOfLine(t, line)
		w.do(t, act)
		now, next := ahead.Server.Store, w.w.Server.Store
		if now.Super.Gen == next.Super.Gen {
			continue
		}
		writes := append(pageWrites(now, next.Heap, next.Super), write(next.Super.Gen%2, superText(next.Super)))
		for done := range len(writes) + 1 {
			cut := was.fork()
			cut.under = act
			cut.w = cutWorld(doneOn(now.Disk.Sectors, writes[:done]...), ahead.Server.Tick, ahead.Done, w.w.Done)
			cut.do(t, worldAct(restarting()))
			want := ahead.Done
			if done == len(writes) {
				want = w.w.Done
			}
			mustState(t, fmt.Sprintf("%s, %d of %d writes", line, done, len(writes)), cut.w.Done, want)
			for _, line := range append(slices.Clone(lines[n+1:min(n+4, len(lines))]), "restore one ann", "snap cut", "restore cut bob") {
				if a, ok := actOfLine(t, line); ok {
					cut.do(t, a)
				}
			}
			cuts++
		}
		if t.Failed() {
			return
		}
	}
	if cuts < 100 {
		t.Errorf("%d cuts", cuts)
	}
}
