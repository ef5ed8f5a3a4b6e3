package tests

import (
	"fmt"
	"math/rand"
	"slices"
	"strings"
	"testing"

	"loop.example/g00340/impl"
)

// mustWorldRun asks for the same as act by act.
func mustWorldRun(t *testing.T, what string, acts []impl.WorldAct) impl.World {
	t.Helper()
	w, codes, code := impl.WorldRun(acts)
	mustCode(t, what, code, impl.OK)
	if len(codes) != len(acts) {
		t.Fatalf("%s: %d codes of %d acts", what, len(codes), len(acts))
	}
	step := impl.NewWorld()
	for i, a := range acts {
		told := worldDo(step, a)
		mustCode(t, fmt.Sprintf("%s: act %d, %s", what, i, actName(a)), codes[i], told.code)
		step = told.world
	}
	mustWorld(t, what, w, step)
	return w
}

func mustNotRun(t *testing.T, what string, acts []impl.WorldAct, want int) {
	t.Helper()
	w, codes, code := impl.WorldRun(acts)
	mustCode(t, what, code, want)
	mustWorld(t, what, w, impl.World{})
	if len(codes) > 0 {
		t.Errorf("%s: codes %v", what, codes)
	}
}

func lined(k int, lines ...string) []impl.WorldAct {
	var acts []impl.WorldAct
	for _, line := range lines {
		acts = append(acts, worldAct(toTaker(k, line)))
	}
	return acts
}

func TestWorldRun(t *testing.T) {
	mustWorld(t, "no acts", mustWorldRun(t, "no acts", nil), impl.NewWorld())
	mustWorld(t, "no acts", mustWorldRun(t, "no acts", []impl.WorldAct{}), impl.NewWorld())
	acts := slices.Concat(lined(0, sent([]string{"ann", "bob"}, "text")...), worldActs(
		later(5), snapNow("one"), snapNow("one"), toReader(1, "a login ann apple"), toReader(1, "b create work"), later(1001), arming(1, 1), toReader(1, "c create far"), toReader(1, "d noop"), later(1), crashing(), arming(), snapNow("x"),
		restarting(), restarting(), toReader(1, "e noop"), userBack("one", "bob"), toAdmin(impl.Admin{}), toTaker(2, "noop"), crashing(), restarting(), userMore("cid", "cherry")), []impl.WorldAct{{}, {Kind: 8}})
	w, codes, code := impl.WorldRun(acts)
	mustCode(t, "WorldRun", code, impl.OK)
	want := slices.Concat(make([]int, len(acts)-24), []int{
		impl.OK, impl.OK, impl.ErrTwice, impl.OK, impl.OK, impl.ErrRange, impl.OK, impl.ErrDown, impl.ErrDown, impl.ErrDown, impl.ErrDown, impl.ErrDown, impl.ErrDown,
		impl.OK, impl.ErrTwice, impl.OK, impl.OK, impl.ErrForm, impl.ErrRange, impl.OK, impl.OK, impl.OK, impl.ErrForm, impl.ErrForm,
	})
	if !slices.Equal(codes, want) {
		t.Errorf("codes %v, not %v", codes, want)
	}
	first := mailWith(newPairs(), "f/ann/inbox", "1 2", "m/ann/inbox/001", "0text\n", "f/bob/inbox", "2 2", "m/bob/inbox/001", "0text\n")
	last := mailWith(first, "f/ann/work", "3 1", "f/bob/inbox", "4 2", "u/cid", "cherry", "f/cid/inbox", "5 1", "v", "6")
	mustState(t, "WorldRun", w.Done, stateWith(last, old{"one", 5, first}))
	if w.Lost || w.Has || !w.Server.Up || w.Server.Tick != 5 {
		t.Errorf("Lost %t, Has %t, Up %t, Tick %d", w.Lost, w.Has, w.Server.Up, w.Server.Tick)
	}
	mustWorldRun(t, "as act by act", acts)
}

// A run may end while something is in doubt.
func TestWorldRunEndsInDoubt(t *testing.T) {
	w := mustWorldRun(t, "in doubt", worldActs(snapNow("one"), arming(1, 0, 1), userMore("cid", "cherry")))
	if !w.Has || w.Lost || w.Server.Up {
		t.Errorf("Has %t, Lost %t, Up %t", w.Has, w.Lost, w.Server.Up)
	}
	mustState(t, "Done", w.Done, stateWith(newPairs(), old{"one", 0, newPairs()}))
	mustState(t, "Doubt", w.Doubt, stateWith(mailWith(newPairs(), "u/cid", "cherry", "f/cid/inbox", "3 1", "v", "4"), old{"one", 0, newPairs()}))
}

// The edges of how many acts there may be, and of how much they may have.
func TestEdgesOfWorldRun(t *testing.T) {
	tick := impl.WorldAct{Kind: impl.WoTick, N: 1}
	for _, n := range []int{1, 119, 120} {
		w := mustWorldRun(t, fmt.Sprint(n), slices.Repeat([]impl.WorldAct{tick}, n))
		if w.Server.Tick != n {
			t.Errorf("%d acts: Tick %d", n, w.Server.Tick)
		}
		mustWorldRun(t, fmt.Sprint(n, " empty ones"), make([]impl.WorldAct, n))
	}
	for _, n := range []int{121, 122, 4095, 4096} {
		mustNotRun(t, fmt.Sprint(n), slices.Repeat([]impl.WorldAct{tick}, n), impl.ErrMany)
		mustNotRun(t, fmt.Sprint(n, " empty ones"), make([]impl.WorldAct, n), impl.ErrMany)
	}
	for _, n := range []int{4097, 5000} {
		mustNotRun(t, fmt.Sprint(n), slices.Repeat([]impl.WorldAct{tick}, n), impl.ErrLong)
	}
	for kind := -1; kind <= 8; kind++ {
		mustWorldRun(t, "the longest", []impl.WorldAct{{Kind: kind, Line: long(65536), Keep: make([]int, 4096)}})
		for what, a := range map[string]impl.WorldAct{"a Keep": {Kind: kind, Keep: make([]int, 4097)}, "a Line": {Kind: kind, Line: long(65537)}, "both": {Kind: kind, Line: long(65537), Keep: make([]int, 4097)}} {
			mustNotRun(t, what, []impl.WorldAct{a}, impl.ErrLong)
			mustNotRun(t, what+" ahead", []impl.WorldAct{a, tick}, impl.ErrLong)
			mustNotRun(t, what+" at the end", append(slices.Repeat([]impl.WorldAct{tick}, 119), a), impl.ErrLong)
			mustNotRun(t, what+", too many", append(slices.Repeat([]impl.WorldAct{tick}, 120), a), impl.ErrMany)
			mustNotRun(t, what+", far too many", append(slices.Repeat([]impl.WorldAct{tick}, 4096), a), impl.ErrLong)
		}
	}
	// Texts of an administrator's act are none of these.
	mustWorldRun(t, "long texts", worldActs(snapNow(long(65537)), snapGone(long(65537)), folderBack(long(65537), long(65537), long(65537)), userMore(long(65537), "x")))
}

// readyActs lead from a new world to one with mails, folders, a snapshot and
// open sessions.
func readyActs() []impl.WorldAct {
	return slices.Concat(lined(1, sent([]string{"ann", "bob"}, "text")...), lined(0, envelope("bob", "ann")...), lined(0, "data", "more"), worldActs(
		later(9), snapNow("one"), toReader(0, "a login ann apple"), toReader(0, "b create work"), toReader(0, "c select inbox"), toReader(1, "d login bob berry"), toReader(1, "e select inbox"), toReader(1, "f store 1 3"), later(1)))
}

// thenActs change something in the world that readyActs lead to: lines of both
// sorts, and each Kind of an administrator's acts.
func thenActs() []impl.WorldAct {
	return slices.Concat(lined(0, "."), worldActs(toReader(0, "g copy 1 work"), toReader(0, "g store 1 1"), toReader(1, "g expunge"), toReader(0, "g create far"), toReader(0, "g rename work far"), toReader(0, "g delete work"),
		snapNow("two"), snapGone("one"), pruneNow(10), folderBack("one", "bob", "inbox"), userBack("one", "ann"), userMore("cid", "cherry")))
}

// Of a world that began new: the power goes in each Kind of act, with nothing,
// all and some of the writes kept, or behind it, and once more in the next one.
// What was answered lasts.
func TestWhatWasAnsweredLasts(t *testing.T) {
	t.Parallel()
	ready := mustWorldRun(t, "ready", readyActs())
	if ready.Lost || !ready.Server.Up || len(ready.Done.Snaps) != 1 {
		t.Fatalf("Lost %t, Up %t, %v", ready.Lost, ready.Server.Up, ready.Done)
	}
	all := slices.Repeat([]int{1}, 60)
	for _, a := range thenActs() {
		for _, keep := range [][]int{nil, all, {1}, {0, 1}, {1, 1, 0, 1}, {0, 0, 0, 0, 1}} {
			acts := slices.Concat(readyActs(), worldActs(arming(keep...)), []impl.WorldAct{a}, worldActs(restarting()))
			w := mustWorldRun(t, "cut", acts)
			mustState(t, actName(a)+", cut", w.Done, ready.Done)
			mustLastWorld(t, actName(a)+", cut", w)
		}
		for _, keep := range [][]int{nil, all, {0, 1}} {
			done := mustWorldRun(t, "done", append(readyActs(), a))
			if done.Lost || alikeStates(done.Done, ready.Done) {
				t.Errorf("%s: Lost %t, nothing is done", actName(a), done.Lost)
			}
			w := mustWorldRun(t, "crashed", slices.Concat(readyActs(), []impl.WorldAct{a}, worldActs(crashing(keep...), restarting())))
			mustState(t, actName(a)+", crashed", w.Done, done.Done)
			mustLastWorld(t, actName(a)+", crashed", w)
			w = mustWorldRun(t, "cut in the next one", slices.Concat(readyActs(), []impl.WorldAct{a}, worldActs(arming(keep...), userMore("dan", "date"), restarting())))
			mustState(t, actName(a)+", cut in the next one", w.Done, done.Done)
			mustLastWorld(t, actName(a)+", cut in the next one", w)
		}
		if t.Failed() {
			return
		}
	}
}

// mustLastWorld asks that nothing is lost or in doubt, and that what is Done is
// there, behind any crash.
func mustLastWorld(t *testing.T, what string, w impl.World) {
	t.Helper()
	if w.Lost || w.Has || !w.Server.Up {
		t.Errorf("%s: Lost %t, Has %t, Up %t", what, w.Lost, w.Has, w.Server.Up)
		return
	}
	for _, keep := range [][]int{nil, {1, 1, 1, 1, 1, 1, 1, 1}, {0, 1, 0, -1}} {
		state, code := impl.StateOf(w.Server)
		mustCode(t, what, code, impl.OK)
		mustState(t, what, state, w.Done)
		down := worldDo(w, impl.WorldAct{Kind: impl.WoCrash, Keep: keep})
		mustCode(t, what, down.code, impl.OK)
		up := worldDo(down.world, impl.WorldAct{Kind: impl.WoRestart})
		mustCode(t, what, up.code, impl.OK)
		mustState(t, what, up.world.Done, w.Done)
		if up.world.Lost || up.world.Has {
			t.Errorf("%s: Lost %t, Has %t behind a crash", what, up.world.Lost, up.world.Has)
		}
		w = up.world
	}
}

// worldCourse is a world to which anything comes: of each sort of session a
// scene is under way. A calm one keeps its power.
type worldCourse struct {
	r      *rand.Rand
	w      impl.World
	calm   bool
	scenes [2][]impl.WorldAct
	seen   map[string]int
}

// takingScene are lines that send a mail; readingScene are lines that make and
// change folders.
func takingScene(r *rand.Rand) []impl.WorldAct {
	users := [][]string{{"ann"}, {"bob"}, {"ann", "bob"}, {"bob", "ann"}, {"ann", "cid"}}[r.Intn(5)]
	return lined(r.Intn(2), sent(users, pick(r, "x", "Subject: x", long(60), ".."))...)
}

func readingScene(r *rand.Rand) []impl.WorldAct {
	k := r.Intn(2)
	acts := worldActs(toReader(k, "a login "+pick(r, "ann apple", "bob berry")), toReader(k, "a select inbox"))
	for range 3 + r.Intn(6) {
		folder := func() string { return pick(r, "inbox", "work", "far", "a", "b", "c", "d", "e", "f", "g", "h") }
		uid := fmt.Sprint(1 + r.Intn(9))
		line := pick(r, "create "+folder(), "create "+folder(), "create "+folder(), "rename "+folder()+" "+folder(), "delete "+folder(), "copy "+uid+" "+folder(), "store "+uid+" "+pick(r, "0", "1", "2", "3"), "expunge", "fetch "+uid, "select "+folder(), "list")
		acts = append(acts, worldAct(toReader(k, pick(r, "a ", "b2 ")+line)))
	}
	return acts
}

// next gives an act: mostly one that can be done.
func (c *worldCourse) next() impl.WorldAct {
	at, n := c.r.Intn(2), c.r.Intn(100)
	switch {
	case n < 2:
		return impl.WorldAct{Kind: []int{0, -1, 8, 9}[c.r.Intn(4)], Line: "noop"}
	case !c.w.Server.Up && n < 60:
		return worldAct(restarting())
	case !c.w.Server.Up && n < 75:
		return worldActs(later(1), crashing(1, 0, 1), arming(1))[c.r.Intn(3)]
	case n < 5 && !c.calm:
		return worldAct(arming(choices(c.r, 9)[c.r.Intn(202)][:c.r.Intn(10)]...))
	case n < 18:
		return worldAct(someAct(c.r, c.w.Server))
	case n < 30:
		run := &serverRun{r: c.r, s: c.w.Server}
		if a := worldAct(run.next()); !c.calm || a.Kind != impl.WoArm && a.Kind != impl.WoCrash {
			return a
		}
	}
	if len(c.scenes[at]) == 0 {
		c.scenes[at] = []func(*rand.Rand) []impl.WorldAct{takingScene, readingScene}[at](c.r)
	}
	a := c.scenes[at][0]
	c.scenes[at] = c.scenes[at][1:]
	return a
}

// step does an act, as it is done by hand, and asks for the promise: nothing is
// lost; what is Done changes by what is answered alone; the server's state is
// Done; behind a restart it is that, or what was in doubt.
func (c *worldCourse) step(t *testing.T) {
	t.Helper()
	a := c.next()
	was := cloneWorld(c.w)
	got := mustStepDue(t, "run", c.w, a)
	w := got.world
	word := fmt.Sprint(a.Kind, " ", impl.CodeWord(got.code))
	c.seen[word]++
	c.seen[strings.Join(got.said, "|")]++
	if w.Lost {
		t.Errorf("%s: lost", word)
	}
	if w.Server.Up {
		state, code := impl.StateOf(w.Server)
		mustCode(t, word, code, impl.OK)
		if !impl.SameState(state, w.Done) || w.Has {
			t.Errorf("%s: the server's state is not Done, or something is in doubt", word)
		}
	}
	if (got.code != impl.OK || a.Kind > 3) && !impl.SameState(w.Done, was.Done) && !(a.Kind == 7 && impl.SameState(w.Done, was.Doubt)) {
		t.Errorf("%s: what is Done has changed", word)
	}
	if w.Has && !was.Has && (got.code != impl.ErrDown || a.Kind > 3) {
		t.Errorf("%s: in doubt", word)
	}
	if w.Has {
		c.seen["doubt"]++
	}
	if was.Server.Up && w.Server.Up && actFault(was, a) == impl.OK && a.Kind <= 3 && fullByHand(a, got) {
		if _, said, code := dueByHand(was.Server, was.Done, a); code != got.code || !slices.Equal(said, got.said) {
			c.seen[fmt.Sprint(a.Kind, " no page")]++
		}
	}
	c.w = w
}

func TestRunsOfAWorld(t *testing.T) {
	t.Parallel()
	r := rand.New(rand.NewSource(122))
	seen := map[string]int{}
	for i := range 9 {
		c := &worldCourse{r: r, w: impl.NewWorld(), calm: i%3 == 0, seen: seen}
		for range 400 {
			c.step(t)
			if t.Failed() {
				return
			}
		}
	}
	words := []string{"doubt", "250 ok", "452 no room", "1 no page", "2 no page", "3 no page", "1 ok", "1 down", "1 range", "2 ok", "2 down", "2 range", "3 ok", "3 down", "3 form", "3 name", "3 none", "3 full", "3 twice", "3 user", "3 folder", "4 ok", "4 range", "4 down", "5 ok", "5 down", "6 ok", "6 many", "6 down", "7 ok", "7 twice", "0 form", "8 form"}
	for _, word := range words {
		if seen[word] == 0 {
			t.Errorf("%s never came", word)
		}
	}
}

// A world that began new comes to its last generation: nothing is done any more,
// and nothing is lost.
func TestGenerationsEnd(t *testing.T) {
	w := impl.NewWorld()
	for _, a := range slices.Concat(lined(0, envelope("ann")...), worldActs(toReader(1, "a login ann apple"))) {
		w = mustBeDone(t, "ready", w, a)
	}
	for gen := 2; gen <= 200; gen++ {
		a := []serverAsk{snapGone("one"), toReader(1, "a delete x"), snapNow("one"), toReader(1, "a create x")}[gen%4]
		w = mustBeDone(t, "going on", w, worldAct(a))
		if w.Server.Store.Super.Gen != gen {
			t.Fatalf("%s: Gen %d, not %d", a, w.Server.Store.Super.Gen, gen)
		}
	}
	mustStayWorld(t, "the end", w, worldAct(snapNow("two")), impl.ErrMany)
	mustStayWorld(t, "the end", w, worldAct(userMore("cid", "cherry")), impl.ErrMany)
	mustStepWorld(t, "the end", w, worldAct(toReader(1, "b create far")), worldTold{world: w, said: []string{"b NO many"}})
	cleared := withWorld(w, func(w *impl.World) { w.Server.Smtps[0] = met() })
	mustStepWorld(t, "the end", w, worldAct(toTaker(0, ".")), worldTold{world: cleared, said: []string{"452 no room"}})
	mustLastWorld(t, "the end", w)
	// Where nothing is committed an armed world keeps its power.
	armed := mustBeDone(t, "armed", w, impl.WorldAct{Kind: impl.WoArm})
	mustStayWorld(t, "armed", armed, worldAct(userMore("cid", "cherry")), impl.ErrMany)
}

// The same by WorldRun: nothing is lost, and all is as act by act.
func TestRunsAsActByAct(t *testing.T) {
	r := rand.New(rand.NewSource(123))
	for i := range 12 {
		c := &worldCourse{r: r, w: impl.NewWorld(), seen: map[string]int{}}
		var acts []impl.WorldAct
		for range []int{120, 119, 60}[i%3] {
			a := c.next()
			acts = append(acts, a)
			c.w = worldDo(c.w, a).world
		}
		if w := mustWorldRun(t, "run", acts); w.Lost {
			t.Errorf("run %d: lost", i)
		}
	}
}

// Wherever the power goes, at the pages or at the superblock: a run whose disk
// is cut by hand in the midst of each commit goes on with what was Done, or with
// what was in doubt, and loses nothing.
func TestRunsCutAnywhere(t *testing.T) {
	r := rand.New(rand.NewSource(124))
	seen := map[string]int{}
	for range 12 {
		c := &worldCourse{r: r, w: impl.NewWorld(), calm: true, seen: map[string]int{}}
		for range 150 {
			ahead := cloneWorld(c.w)
			a := c.next()
			if a.Kind == impl.WoArm || a.Kind == impl.WoCrash {
				continue
			}
			got := worldDo(c.w, a)
			c.w = got.world
			now, next := ahead.Server.Store, c.w.Server.Store
			if !ahead.Server.Up || got.code != impl.OK || next.Super.Gen == now.Super.Gen || r.Intn(3) == 0 {
				continue
			}
			writes := append(pageWrites(now, next.Heap, next.Super), write(next.Super.Gen%2, superText(next.Super)))
			done := r.Intn(len(writes) + 1)
			cut := cutWorld(doneOn(now.Disk.Sectors, writes[:done]...), ahead.Server.Tick, ahead.Done, c.w.Done)
			up := mustStepDue(t, "cut", cut, impl.WorldAct{Kind: impl.WoRestart})
			mustCode(t, "cut", up.code, impl.OK)
			is, word := ahead.Done, "ahead"
			if done == len(writes) {
				is, word = c.w.Done, "behind"
			}
			seen[word]++
			mustState(t, fmt.Sprintf("%d of %d writes", done, len(writes)), up.world.Done, is)
			if up.world.Lost || up.world.Has {
				t.Fatalf("%d of %d writes: Lost %t, Has %t", done, len(writes), up.world.Lost, up.world.Has)
			}
			c.w = up.world
		}
	}
	if seen["ahead"] < 50 || seen["behind"] < 20 {
		t.Errorf("not enough: %v", seen)
	}
}
